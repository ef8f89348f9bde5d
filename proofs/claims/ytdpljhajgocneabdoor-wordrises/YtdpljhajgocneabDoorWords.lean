/- What the calls of package word answer: contracts. -/
import Derived.Test.YtdpljhajgocneabDoorCan
import Derived.Test.YtdpljhajgocneabDoorNum
namespace Go.Proofs.YtdpljhajgocneabDoor
open Go.RowKit

theorem ret_int {k : IntKind} {a b : Int} (h : a = b) : Ending.returned (.int k a) = .returned (.int k b) := by rw [h]
theorem ret_bool {a b : Bool} (h : a = b) : Ending.returned (.bool a) = .returned (.bool b) := by rw [h]

theorem pack_any (s v : Int) (w : World) :
    Calls Tryd.prog 4 #[.int .i64 s, .int .u64 v] w fun e w' => e = .returned (.int .u64 (packI s v)) ∧ w' = w := by
  go_enter Tryd.func4, Tryd.ntmps4
  go_wp2
  go_ret
  exact ⟨ret_int (pack_or s v), rfl⟩
theorem state_num (v : Int) (h0 : 0 ≤ v) (h1 : v < 18446744073709551616) : wrap64 (bits .and .u64 v 7) = v % 8 := by
  rw [and7_u64 v h0 h1]
  exact IntWalk.wrap64_in _ ⟨by omega, by omega⟩
theorem state_any (v : Int) (w : World) (h0 : 0 ≤ v) (h1 : v < 18446744073709551616) :
    Calls Tryd.prog 7 #[.int .u64 v] w fun e w' => e = .returned (.int .i64 (v % 8)) ∧ w' = w := by
  go_enter Tryd.func7, Tryd.ntmps7
  go_wp2
  go_ret
  exact ⟨ret_int (state_num v h0 h1), rfl⟩
theorem version_any (v : Int) (w : World) :
    Calls Tryd.prog 6 #[.int .u64 v] w fun e w' => e = .returned (.int .u64 (v / 8)) ∧ w' = w := by
  go_enter Tryd.func6, Tryd.ntmps6
  go_wp2
  go_ret
  exact ⟨rfl, rfl⟩
theorem ok_any (v : Int) (w : World) (h0 : 0 ≤ v) (h1 : v < 18446744073709551616) :
    Calls Tryd.prog 11 #[.int .u64 v] w fun e w' => e = .returned (.bool (decide (v % 8 ≤ 6))) ∧ w' = w := by
  go_enter Tryd.func11, Tryd.ntmps11
  go_wp2_with fail
  refine (state_any _ _ h0 h1).mono ?_
  rintro e w1 ⟨rfl, rfl⟩
  go_wp2_with fail
  go_ret
  exact ⟨rfl, rfl⟩
theorem next_any (v s : Int) (w : World) (h0 : 0 ≤ v) (h1 : v < 18446744073709551616) :
    Calls Tryd.prog 5 #[.int .u64 v, .int .i64 s] w fun e w' => e = .returned (.int .u64 (packI s (v / 8 + 1))) ∧ w' = w := by
  go_enter Tryd.func5, Tryd.ntmps5
  go_wp2_with fail
  refine (version_any _ _).mono ?_
  rintro e w1 ⟨rfl, rfl⟩
  go_wp2_with fail
  refine (pack_any _ _ _).mono ?_
  rintro e w2 ⟨rfl, rfl⟩
  go_wp2_with fail
  go_ret
  exact ⟨rfl, rfl⟩
/-- The state's name. -/
def nameB (s : Int) : ByteArray :=
  if s = 0 then ⟨#[102, 114, 101, 101]⟩ else if s = 1 then ⟨#[119, 97, 105, 116, 105, 110, 103]⟩ else if s = 2 then ⟨#[114, 101, 97, 100, 121]⟩ else if s = 3 then ⟨#[99, 108, 97, 105, 109, 101, 100]⟩
  else if s = 4 then ⟨#[100, 111, 110, 101]⟩ else if s = 5 then ⟨#[102, 97, 105, 108, 101, 100]⟩ else if s = 6 then ⟨#[99, 97, 110, 99, 101, 108, 108, 101, 100]⟩ else ⟨#[]⟩
/-- The table of names lies in the first variable. -/
def Named (w : World) : Prop := ∀ k : Nat, k < 7 → w.cell? ⟨0, k, none⟩ = some (.string (nameB k))
theorem Named.below {B : Nat} {w w' : World} (h : Named w) (hb : Below B w w') (hB : 0 < B) : Named w' := fun k hk => (hb.cell (p := ⟨0, k, none⟩) hB).trans (h k hk)

theorem name_in (k : Nat) (hk : k < 7) (w : World) (hN : Named w) :
    Calls Tryd.prog 9 #[.int .i64 k] w fun e w' => e = .returned (.string (nameB k)) ∧ w' = w := by
  have hc := hN k hk
  go_enter Tryd.func9, Tryd.ntmps9
  go_wp2
  go_ret
  exact ⟨rfl, rfl⟩
theorem name_out (s : Int) (h : s < 0 ∨ 7 ≤ s) (w : World) :
    Calls Tryd.prog 9 #[.int .i64 s] w fun e w' => e = .returned (.string (nameB s)) ∧ w' = w := by
  have hn : nameB s = ⟨#[]⟩ := by unfold nameB; repeat (rw [if_neg (by omega)])
  rw [hn]
  rcases h with h | h
  · go_enter Tryd.func9, Tryd.ntmps9
    go_wp2
    go_ret
    exact ⟨rfl, rfl⟩
  · have h' : 0 ≤ s := by omega
    go_enter Tryd.func9, Tryd.ntmps9
    go_wp2
    go_ret
    exact ⟨rfl, rfl⟩

theorem name3 : nameB ((3 : Nat) : Int) = ⟨#[99, 108, 97, 105, 109, 101, 100]⟩ := by unfold nameB; rfl
theorem can23 : canB 2 3 = true := by decide
theorem awake_any (w : World) (hN : Named w) :
    Calls Tryd.prog 8 #[] w fun e w' => e = .returned (.bool true) ∧ Below w.heap.size w w' := by
  go_enter Tryd.func8, Tryd.ntmps8
  go_wp2_with fail
  refine (pack_any _ _ _).mono ?_
  rintro e w1 ⟨rfl, rfl⟩
  rw [pack21]
  go_wp2_with fail
  refine (state_any _ _ (by decide) (by decide)).mono ?_
  rintro e w1 ⟨rfl, rfl⟩
  go_wp2_with fail
  refine (version_any _ _).mono ?_
  rintro e w1 ⟨rfl, rfl⟩
  go_wp2_with fail
  refine (name_in 3 (by decide) _ hN).mono ?_
  rw [name3]
  rintro e w1 ⟨rfl, rfl⟩
  go_wp2_with fail
  refine (can_any 2 3 _ (by decide) (by decide)).mono ?_
  rw [can23]
  rintro e w2 ⟨rfl, hb⟩
  go_wp2_with fail
  refine (ok_any _ _ (by decide) (by decide)).mono ?_
  rintro e w3 ⟨rfl, rfl⟩
  go_wp2_with fail
  go_ret
  exact ⟨rfl, hb⟩
end Go.Proofs.YtdpljhajgocneabDoor
