/- Boxes of one cell; the functions that BlockShrinks hands to Shrink. -/
import Derived.Test.YtoknpinlphbeoaaBlkS
namespace Go.Proofs.Ytoknpinlphbeoaa
open Go.RowKit Go.Lib Go.Sort
set_option linter.unusedVariables false

/-- A box of one cell at S. -/
structure Box1 (S : Nat) (x : Value) (w : World) : Prop where
  lt : S < w.heap.size
  c0 : w.cell? ⟨S, 0, none⟩ = some x
  f0 : w.frozen? ⟨S, 0, none⟩ = false
theorem Box1.new (w : World) (x : Value) (T : TypeId) : Box1 w.heap.size x (w.alloc (.cells #[x] T)) := ⟨by simp, by simp, by simp⟩
theorem Box1.on {S : Nat} {x : Value} {w w' : World} (h : Box1 S x w) (hw : Below w.heap.size w w') : Box1 S x w' :=
  ⟨by have := hw.size; have := h.lt; omega, (hw.cell (p := ⟨S, 0, none⟩) h.lt).trans h.c0, (hw.frozen (p := ⟨S, 0, none⟩) h.lt).trans h.f0⟩
theorem Box1.set {S : Nat} {x : Value} {w : World} (h : Box1 S x w) (y : Value) : Box1 S y (w.setCell ⟨S, 0, none⟩ y) :=
  ⟨by simpa [World.setCell] using h.lt, World.cell?_setCell_same' _ _ _ (by rw [h.c0]; rfl), by rw [World.frozen?_setCell]; exact h.f0⟩
theorem Box1.other {S : Nat} {x : Value} {w : World} (h : Box1 S x w) {p : Addr} (hp : p.block ≠ S) (u : Value) : Box1 S x (w.setCell p u) := by
  refine ⟨by simpa [World.setCell] using h.lt, ?_, ?_⟩
  · rw [World.cell?_setCell_other _ _ _ _ (by intro e; exact hp (by rw [e])), h.c0]
  · rw [World.frozen?_setCell]; exact h.f0

theorem Box1.drew {S : Nat} {x : Value} {w : World} (h : Box1 S x w) : Box1 S x w.drew := ⟨h.lt, h.c0, h.f0⟩
theorem Box2.drew {S : Nat} {x y : Value} {w : World} (h : Box2 S x y w) : Box2 S x y w.drew := ⟨h.lt, h.c0, h.c1, h.f0, h.f1⟩

/-- Is it a multiple? -/
def mulB (A id : Int) : Bool := decide (id.tmod A = 0)

set_option maxHeartbeats 400000 in
theorem one_any (S : Nat) (A id : Int) (hA : A ≠ 0) (hA2 : 2 ≤ A) (w : World) (h : w.cell? ⟨S, 0, none⟩ = some (.int .i64 A)) :
    Calls Try.prog 16 #[.int .i64 id, .pointer (some ⟨S, 0, none⟩)] w fun e w' => e = .returned (.bool (mulB A id)) ∧ w' = w := by
  obtain ⟨X, hX⟩ : ∃ X, id.tmod A = X := ⟨_, rfl⟩
  have e : mulB A id = decide (X = 0) := by unfold mulB; rw [hX]
  rw [e]
  clear e
  by_cases x : X = 0
  · rw [decide_eq_true x]
    have x2 : (X == 0) = true := by simp; exact x
    go_enter Try.func16, Try.ntmps16
    go_wp2
    go_ret
    exact ⟨rfl, rfl⟩
  · rw [decide_eq_false x]
    have x2 : (X == 0) = false := by simp; exact x
    go_enter Try.func16, Try.ntmps16
    go_wp2
    go_ret
    exact ⟨rfl, rfl⟩

set_option maxHeartbeats 400000 in
theorem two_any (S : Nat) (A id : Int) (hA : A ≠ 0) (hA2 : 2 ≤ A) (w : World) (h : w.cell? ⟨S, 0, none⟩ = some (.int .i64 A)) :
    Calls Try.prog 17 #[.int .i64 id, .pointer (some ⟨S, 0, none⟩)] w fun e w' => e = .returned (.bool (mulB A id)) ∧ w' = w := by
  obtain ⟨X, hX⟩ : ∃ X, id.tmod A = X := ⟨_, rfl⟩
  have e : mulB A id = decide (X = 0) := by unfold mulB; rw [hX]
  rw [e]
  clear e
  by_cases x : X = 0
  · rw [decide_eq_true x]
    have x2 : (X == 0) = true := by simp; exact x
    go_enter Try.func17, Try.ntmps17
    go_wp2
    go_ret
    exact ⟨rfl, rfl⟩
  · rw [decide_eq_false x]
    have x2 : (X == 0) = false := by simp; exact x
    go_enter Try.func17, Try.ntmps17
    go_wp2
    go_ret
    exact ⟨rfl, rfl⟩

set_option maxHeartbeats 400000 in
theorem three_any (S S' T T' : Nat) (A C id : Int) (hA2 : 2 ≤ A) (hC2 : 2 ≤ C) (w : World) (h : w.cell? ⟨S, 0, none⟩ = some (.int .i64 A)) (h' : w.cell? ⟨S', 0, none⟩ = some (.int .i64 C))
    (g : w.cell? ⟨T, 0, none⟩ = some (.func (.func 16) #[] #[.pointer (some ⟨S, 0, none⟩)])) (g' : w.cell? ⟨T', 0, none⟩ = some (.func (.func 17) #[] #[.pointer (some ⟨S', 0, none⟩)])) :
    Calls Try.prog 19 #[.int .i64 id, .pointer (some ⟨T, 0, none⟩), .pointer (some ⟨T', 0, none⟩)] w fun e w' => e = .returned (.bool (mulB A id || mulB C id)) ∧ w' = w := by
  have o := one_any S A id (by omega) hA2 w h
  have t := two_any S' C id (by omega) hC2 w h'
  have e1 := enters_of Try.func16 (by kernel_rfl) rfl
  have e2 := enters_of Try.func17 (by kernel_rfl) rfl
  cases hx : mulB A id with
  | true =>
    rw [hx] at o
    go_enter Try.func19, Try.ntmps19
    go_wp2_with fail
    refine o.mono ?_
    rintro e w1 ⟨rfl, e1⟩
    obtain rfl := e1.symm
    go_wp2
    go_ret
    exact ⟨rfl, rfl⟩
  | false =>
    rw [hx] at o
    cases hy : mulB C id with
    | true =>
      rw [hy] at t
      go_enter Try.func19, Try.ntmps19
      go_wp2_with fail
      refine o.mono ?_
      rintro e w1 ⟨rfl, e1⟩
      obtain rfl := e1.symm
      go_wp2_with fail
      refine t.mono ?_
      rintro e w1 ⟨rfl, e1⟩
      obtain rfl := e1.symm
      go_wp2
      go_ret
      exact ⟨rfl, rfl⟩
    | false =>
      rw [hy] at t
      go_enter Try.func19, Try.ntmps19
      go_wp2_with fail
      refine o.mono ?_
      rintro e w1 ⟨rfl, e1⟩
      obtain rfl := e1.symm
      go_wp2_with fail
      refine t.mono ?_
      rintro e w1 ⟨rfl, e1⟩
      obtain rfl := e1.symm
      go_wp2
      go_ret
      exact ⟨rfl, rfl⟩

theorem four_any (id : Int) (w : World) : Calls Try.prog 20 #[.int .i64 id] w fun e w' => e = .returned (.bool false) ∧ w' = w := by
  go_enter Try.func20, Try.ntmps20
  go_wp2
  go_ret
  exact ⟨rfl, rfl⟩
theorem five_any (id : Int) (w : World) : Calls Try.prog 21 #[.int .i64 id] w fun e w' => e = .returned (.bool true) ∧ w' = w := by
  go_enter Try.func21, Try.ntmps21
  go_wp2
  go_ret
  exact ⟨rfl, rfl⟩

theorem keep_none (d : List Ent) : keepL (fun _ => false) d = d := by unfold keepL; simp
theorem keep_all (d : List Ent) : keepL (fun _ => true) d = [] := by unfold keepL; simp
theorem keep_both (p q : Int → Bool) (d : List Ent) : keepL q (keepL p d) = keepL (fun id => p id || q id) d := by
  unfold keepL
  rw [List.filter_filter]
  congr 1
  funext x
  show (!q x.2 && !p x.2) = !(p x.2 || q x.2)
  cases p x.2 <;> cases q x.2 <;> rfl
theorem keep_srt {d : List Ent} (h : Srt d) (p : Int → Bool) : Srt (keepL p d) := h.filter _
end Go.Proofs.Ytoknpinlphbeoaa
