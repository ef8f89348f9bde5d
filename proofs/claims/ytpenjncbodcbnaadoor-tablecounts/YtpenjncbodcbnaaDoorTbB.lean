/- table.New, Len, find, again, mayBe (of no ops); body.Ok and slices.Clone of nil: contracts. -/
import Derived.Test.YtpenjncbodcbnaaDoorTbA
import Derived.Deep.LoopGhost
import Derived.Deep.Fields
import Derived.Lib.SliceRun
import Derived.Deep.RegionHeld3
namespace Go.Proofs.YtpenjncbodcbnaaDoor
open Go.RowKit Go.Lib Go.WideMaps Go.Maps
set_option linter.unusedVariables false
variable {w w' : World} {B a b r M n : Nat} {v v' : Value} {T T' : List TR} {ws ws' : Nat → Int} {fc fc' : Int × Int → Option Value}

theorem tnew_at (w w1 : World) (n : Nat) (hA : AAt w1 (w.heap.size + 2) (w.heap.size + 1) w.heap.size n (fun _ => 0)) (hz : w1.heap.size = w.heap.size + 3) :
    Tab ((w1.alloc (.map #[] 0)).alloc (.cells #[.pointer (some ⟨w.heap.size + 2, 0, none⟩), .slice none 0 0, .map (some (w.heap.size + 3))] 54)) (w.heap.size + 4) (w.heap.size + 2) (w.heap.size + 1) w.heap.size (w.heap.size + 3) n (.slice none 0 0) [] (fun _ => 0) (fun _ => none) := by
  have z1 : (w1.alloc (.map #[] 0)).heap.size = w.heap.size + 4 := by rw [alloc_sz, hz]
  have b1 : Below w1.heap.size w1 (w1.alloc (.map #[] 0)) := bel1 _ _
  have b2 := bel1 (w1.alloc (.map #[] 0)) (.cells #[.pointer (some ⟨w.heap.size + 2, 0, none⟩), .slice none 0 0, .map (some (w.heap.size + 3))] 54)
  have hm := MapG.made keyP w1
  rw [hz] at hm
  refine ⟨?_, OwnG.nil rT _ 0, (hA.grew b1).grew b2, ⟨0, hm.of_block (b2.block _ (by omega))⟩⟩
  have := heap_alloc_new (w1.alloc (.map #[] 0)) (.cells #[.pointer (some ⟨w.heap.size + 2, 0, none⟩), .slice none 0 0, .map (some (w.heap.size + 3))] 54)
  rw [z1] at this
  exact this
theorem tnew_x (n : Nat) (w : World) (h1 : 1 ≤ n) (h2 : n ≤ 1000) :
    Calls Tryd.prog 5 #[.int .i64 n] w fun e w' => e = .returned (.tuple #[.pointer (some ⟨w.heap.size + 4, 0, none⟩), .int .i64 0]) ∧ Tab w' (w.heap.size + 4) (w.heap.size + 2) (w.heap.size + 1) w.heap.size (w.heap.size + 3) n (.slice none 0 0) [] (fun _ => 0) (fun _ => none) ∧ Below w.heap.size w w' := by
  have hmm := @run_makeMap Tryd.prog
  go_enter Tryd.func5, Tryd.ntmps5
  go_wp2_with fail
  refine (new_in n w h1 h2).mono ?_
  rintro e w1 ⟨rfl, hA, hB, hz⟩
  have hT : Hid _ := tnew_at w w1 n hA hz
  have hBl : Hid (Below w.heap.size w w1) := hB
  clear hA hB
  go_wp2_with fail
  go_ret2
  exact ⟨rfl, hT.out, (hBl.out.alloc (by omega) _).alloc (by rw [alloc_sz]; omega) _⟩
theorem tnew_any (n : Nat) (w : World) (h1 : 1 ≤ n) (h2 : n ≤ 1000) :
    Calls Tryd.prog 5 #[.int .i64 n] w fun e w' => ∃ B a b r M, e = .returned (.tuple #[.pointer (some ⟨B, 0, none⟩), .int .i64 0]) ∧ Tab w' B a b r M n (.slice none 0 0) [] (fun _ => 0) (fun _ => none) ∧ Below w.heap.size w w' ∧ ∀ k, tf B a b r M (.slice none 0 0) k → w.heap.size ≤ k := by
  refine (tnew_x n w h1 h2).mono ?_
  rintro e w1 ⟨rfl, hT, hB⟩
  refine ⟨_, _, _, _, _, rfl, hT, hB, fun k hk => ?_⟩
  rcases hk with rfl | rfl | rfl | rfl | rfl | hk
  · omega
  · omega
  · omega
  · omega
  · omega
  · cases hk
theorem tnew_no (i : Int) (w : World) (h : i < 1 ∨ 1000 < i) :
    Calls Tryd.prog 5 #[.int .i64 i] w fun e w' => e = .returned (.tuple #[.pointer none, .int .i64 1]) ∧ w' = w := by
  go_enter Tryd.func5, Tryd.ntmps5
  go_wp2_with fail
  refine (new_out i w h).mono ?_
  rintro e w1 ⟨rfl, rfl⟩
  go_wp2_with fail
  go_ret2
  exact ⟨rfl, rfl⟩
theorem tlen_any (h : Tab w B a b r M n v T ws fc) : Calls Tryd.prog 10 #[.pointer (some ⟨B, 0, none⟩)] w fun e w' => e = .returned (.int .i64 T.length) ∧ w' = w := by
  have c1 := h.c1
  obtain ⟨ad, cap, rfl, _⟩ := h.own.isG
  clear h
  go_enter Tryd.func10, Tryd.ntmps10
  go_wp2_with fail
  go_ret
  exact ⟨rfl, rfl⟩
theorem find_no (h : Tab w B a b r M n v T ws fc) (id : Int) (hi : id < 1 ∨ (T.length : Int) < id) : Calls Tryd.prog 22 #[.pointer (some ⟨B, 0, none⟩), .int .i64 id] w fun e w' => e = .returned (.pointer none) ∧ w' = w := by
  have c1 := h.c1
  obtain ⟨ad, cap, rfl, _⟩ := h.own.isG
  clear h
  by_cases c : id < 1
  · clear hi
    go_enter Tryd.func22, Tryd.ntmps22
    go_wp2_with fail
    go_ret
    exact ⟨rfl, rfl⟩
  · have hi : (T.length : Int) < id := by omega
    go_enter Tryd.func22, Tryd.ntmps22
    go_wp2_with fail
    go_ret
    exact ⟨rfl, rfl⟩
theorem find_in {g cap i : Nat} (h : Tab w B a b r M n (.slice (some ⟨g, 0, none⟩) T.length cap) T ws fc) (hi : i < T.length) (hl : T.length ≤ 1000) : Calls Tryd.prog 22 #[.pointer (some ⟨B, 0, none⟩), .int .i64 ((i : Int) + 1)] w fun e w' => e = .returned (.pointer (some ⟨g, i * 9, none⟩)) ∧ w' = w := by
  have c1 := h.c1
  obtain ⟨L, hL⟩ : ∃ L, T.length = L := ⟨_, rfl⟩
  rw [hL] at c1 hi hl
  clear h
  have h1 : ¬ (i : Int) + 1 < 1 := by omega
  have h2 : ¬ (L : Int) < (i : Int) + 1 := by omega
  have h3 : (i : Int) < (L : Int) := by omega
  go_enter Tryd.func22, Tryd.ntmps22
  go_wp2_with fail
  go_ret
  exact ⟨by simp, rfl⟩
theorem again_any (f p d r m : Int) (w : World) : Calls Tryd.prog 18 #[.agg #[.int .u64 f, .int .u64 p, .int .u64 d, .int .u64 r, .int .u64 m]] w fun e w' => e = .returned (.bool (decide (p > 0))) ∧ Below w.heap.size w w' := by
  have hb := bel1 w
  go_enter Tryd.func18, Tryd.ntmps18
  go_wp2_with fail
  go_ret
  exact ⟨rfl, hb _⟩
set_option maxRecDepth 100000 in
theorem clone_nil (w : World) : Calls Tryd.prog 21 #[.slice none 0 0] w fun e w' => e = .returned (.slice none 0 0) ∧ w' = w := by
  have q22 : ∀ (w : World) (a : Option Addr) (n c n' c' : Nat), (binOp .eql 55 (.slice a n c) (.slice none n' c')).run Tryd.prog w = .ok (.bool a.isNone) w := fun w a n c n' c' => Lib.run_eql_slice_nil w _ _ a n c n' c' Tryd.underlying55
  go_enter Tryd.func21, Tryd.ntmps21
  go_wp2_with fail
  go_ret
  exact ⟨rfl, rfl⟩
theorem index_nil (w : World) (fn : Value) : Calls Tryd.prog 44 #[.slice none 0 0, fn] w fun e w' => e = .returned (.int .i64 (-1)) ∧ w' = w := by
  go_enter Tryd.func44, Tryd.ntmps44
  go_wp2_with fail
  go_loopw [8] (fun x wr => x = .int .i64 0 ∧ wr = w) (fun x _ => 0)
  case atStart => exact ⟨rfl, rfl⟩
  case round =>
    obtain ⟨rfl, rfl⟩ := hrel
    go_wp2_with fail
    go_ret
    exact ⟨rfl, rfl⟩
theorem contains_nil (w : World) (fn : Value) : Calls Tryd.prog 38 #[.slice none 0 0, fn] w fun e w' => e = .returned (.bool false) ∧ w' = w := by
  go_enter Tryd.func38, Tryd.ntmps38
  go_wp2_with fail
  refine (index_nil w fn).mono ?_
  rintro e w1 ⟨rfl, rfl⟩
  go_wp2_with fail
  go_ret
  exact ⟨rfl, rfl⟩
theorem bodyOk_nil (w : World) : Calls Tryd.prog 28 #[.slice none 0 0] w fun e w' => e = .returned (.bool true) ∧ w' = w := by
  go_enter Tryd.func28, Tryd.ntmps28
  go_wp2_with fail
  refine (contains_nil w _).mono ?_
  rintro e w1 ⟨rfl, rfl⟩
  go_wp2_with fail
  go_ret
  exact ⟨rfl, rfl⟩
/-- Whether a task may begin so. -/
def mayB (p s : Int) : Bool := decide (0 ≤ p) && (decide (p ≤ 7) && canB 0 s)
theorem mayBe_nil (p s : Int) (w : World) (hs : wfI s) : Calls Tryd.prog 16 #[.int .i64 p, .slice none 0 0, .int .i64 s] w fun e w' => e = .returned (.bool (mayB p s)) ∧ Below w.heap.size w w' := by
  by_cases c1 : 0 ≤ p
  · by_cases c2 : p ≤ 7
    · have e : mayB p s = canB 0 s := by simp [mayB, c1, c2]
      rw [e]
      have hc := can_any 0 s w (by decide) hs
      obtain ⟨cb, hcb⟩ : ∃ cb, canB 0 s = cb := ⟨_, rfl⟩
      rw [hcb] at hc ⊢
      clear hcb e
      go_enter Tryd.func16, Tryd.ntmps16
      go_wp2_with fail
      refine (bodyOk_nil w).mono ?_
      rintro e w1 ⟨rfl, rfl⟩
      go_wp2_with fail
      refine hc.mono ?_
      rintro e w2 ⟨rfl, hb⟩
      clear hc
      go_wp2_with fail
      go_ret
      exact ⟨rfl, hb⟩
    · have e : mayB p s = false := by simp [mayB, c2]
      rw [e]
      go_enter Tryd.func16, Tryd.ntmps16
      go_wp2_with fail
      go_ret
      exact ⟨rfl, Below.refl _ _⟩
  · have e : mayB p s = false := by simp [mayB, c1]
    rw [e]
    go_enter Tryd.func16, Tryd.ntmps16
    go_wp2_with fail
    go_ret
    exact ⟨rfl, Below.refl _ _⟩
end Go.Proofs.YtpenjncbodcbnaaDoor
