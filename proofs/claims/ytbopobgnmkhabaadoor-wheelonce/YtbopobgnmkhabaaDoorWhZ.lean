/- wheel: two rows of a law's own beside it; which timers there are. -/
import Derived.Test.YtbopobgnmkhabaaDoorWhY
import Derived.Deep.OwnRows
namespace Go.Proofs.YtbopobgnmkhabaaDoor
open Go.RowKit Go.Lib Go.Sort Go.WideMaps Go.Maps Go.Deep
set_option linter.unusedVariables false

theorem infoU64 : (Tryd.prog.info? 25).map (fun i => (i.zero, i.size, i.bytes)) = some (some (.int .u64 0), 1, 8) := by kernel_rfl
theorem infoBool : (Tryd.prog.info? 4).map (fun i => (i.zero, i.size, i.bytes)) = some (some (.bool false), 1, 1) := by kernel_rfl
theorem wfI_of {i : Int} (h1 : -9223372036854775808 ≤ i) (h2 : i ≤ 9223372036854775807) : wfI i := by
  unfold wfI
  simp [Lit.wf, IntKind.min, IntKind.max, IntKind.bits, IntKind.signed]
  omega

/-- A wheel, and two rows: numbers and bits. -/
structure Loc (w0 w : World) (F : Nat → Prop) (B base now : Nat) (T : List Ent) (Q n : Nat) (U : Nat → Nat) (O : Nat → Bool) : Prop where
  st : Wst w0 w F B base now T
  us : w.rowIs Q 25 n (fun j => .int .u64 (U j : Int))
  os : w.rowIs (Q + 1) 4 n (fun j => .bool (O j))
  q0 : w0.heap.size ≤ Q
  f0 : ¬ F Q
  f1 : ¬ F (Q + 1)
variable {w0 w w' : World} {F : Nat → Prop} {B base now : Nat} {T : List Ent} {Q n : Nat} {U : Nat → Nat} {O : Nat → Bool}
theorem Loc.make (h : Wst w0 w F B base now T) (n : Nat) :
    Loc w0 ((w.alloc (.cells (madeCells #[.int .u64 0] n) 25)).alloc (.cells (madeCells #[.bool false] n) 4)) F B base now T w.heap.size n (fun _ => 0) (fun _ => false) := by
  have r1 := ((World.rowIs_made w (.int .u64 0) n 25).alloc (.cells (madeCells #[.bool false] n) 4))
  have r2 := World.rowIs_made (w.alloc (.cells (madeCells #[.int .u64 0] n) 25)) (.bool false) n 4
  rw [show (w.alloc (.cells (madeCells #[.int .u64 0] n) 25)).heap.size = w.heap.size + 1 by simp] at r2
  exact ⟨h.below (((Below.refl _ _).alloc (Nat.le_refl _) _).alloc (by simp) _), r1, r2, h.bel.size, fun hk => by have := (h.low hk).2; omega, fun hk => by have := (h.low hk).2; omega⟩
theorem Loc.setU (h : Loc w0 w F B base now T Q n U O) (t x : Nat) : Loc w0 (w.setCell ⟨Q, t, none⟩ (.int .u64 (x : Int))) F B base now T Q n (fun j => if j = t then x else U j) O :=
  ⟨h.st.fr (Fr.setCell (fun k => k = Q) _ _ _ _ rfl) (fun k hk => by subst hk; exact ⟨h.f0, h.q0⟩), (h.us.set t _).congr (fun j _ => by by_cases e : j = t <;> simp [e]), h.os.setOther (by simp) _, h.q0, h.f0, h.f1⟩
theorem Loc.setO (h : Loc w0 w F B base now T Q n U O) (t : Nat) (x : Bool) : Loc w0 (w.setCell ⟨Q + 1, t, none⟩ (.bool x)) F B base now T Q n U (fun j => if j = t then x else O j) :=
  ⟨h.st.fr (Fr.setCell (fun k => k = Q + 1) _ _ _ _ rfl) (fun k hk => by subst hk; exact ⟨h.f1, by have := h.q0; omega⟩), h.us.setOther (by simp) _, (h.os.set t _).congr (fun j _ => by by_cases e : j = t <;> simp [e]), h.q0, h.f0, h.f1⟩
theorem Loc.go (h : Loc w0 w F B base now T Q n U O) {now' : Nat} {T' : List Ent} (g : Wgo w0 w F B base now' T' w') : ∃ F', Loc w0 w' F' B base now' T' Q n U O := by
  obtain ⟨F', q1, q2, q3⟩ := g
  refine ⟨F', q1, h.us.of_block (q2.block Q h.us.lt h.f0), h.os.of_block (q2.block (Q + 1) h.os.lt h.f1), h.q0, fun hk => ?_, fun hk => ?_⟩
  · rcases q3 _ hk with hk | hk
    · exact h.f0 hk
    · have := h.us.lt; omega
  · rcases q3 _ hk with hk | hk
    · exact h.f1 hk
    · have := h.os.lt; omega
theorem Loc.cellU (h : Loc w0 w F B base now T Q n U O) {j : Nat} (hj : j < n) : w.cell? ⟨Q, j, none⟩ = some (.int .u64 (U j : Int)) := h.us.cell hj
theorem Loc.cellO (h : Loc w0 w F B base now T Q n U O) {j : Nat} (hj : j < n) : w.cell? ⟨Q + 1, j, none⟩ = some (.bool (O j)) := h.os.cell hj
theorem Loc.congr (h : Loc w0 w F B base now T Q n U O) {U' : Nat → Nat} {O' : Nat → Bool} (e1 : ∀ j, U j = U' j) (e2 : ∀ j, O j = O' j) : Loc w0 w F B base now T Q n U' O' := by
  obtain rfl : U = U' := funext e1
  obtain rfl : O = O' := funext e2
  exact h

/-- There are those that O says, as U says. -/
def Has (n : Nat) (U : Nat → Nat) (O : Nat → Bool) (T : List Ent) : Prop := ∀ x, x ∈ T ↔ ∃ j, j < n ∧ O j = true ∧ x = ((U j : Int), (j : Int) + 1)
theorem Has.none (h : Has n U O T) {i : Nat} (hO : O i = false) : dueOf T ((i : Int) + 1) = none := by
  cases e : dueOf T ((i : Int) + 1) with
  | none => rfl
  | some v =>
    obtain ⟨j, h1, h2, h3⟩ := (h _).1 (dueOf_some e)
    injection h3 with h3 h4
    have : i = j := by omega
    subst this
    rw [hO] at h2
    cases h2
theorem Has.some (h : Has n U O T) (hT : TOk T) {i : Nat} (hi : i < n) (hO : O i = true) : dueOf T ((i : Int) + 1) = some (U i : Int) := dueOf_mem hT.ids ((h _).2 ⟨i, hi, hO, rfl⟩)
theorem Has.len (h : Has n U O T) (hT : TOk T) : T.length ≤ n := by
  have h1 : (T.map Prod.snd).length ≤ ((List.range n).map (fun j : Nat => (j : Int) + 1)).length := by
    refine List.Nodup.length_le_of_subset hT.ids (fun y hy => ?_)
    obtain ⟨x, hx, e⟩ := List.mem_map.1 hy
    obtain ⟨j, h1, h2, h3⟩ := (h x).1 hx
    exact List.mem_map.2 ⟨j, List.mem_range.2 h1, by rw [← e, h3]⟩
  simpa using h1
theorem Has.addR (h : Has n U O T) (hT : TOk T) {i : Nat} (hi : i < n) (hn : n ≤ 500) (hO : O i = false) : addR T ((i : Int) + 1) = 0 := by
  unfold Proofs.YtbopobgnmkhabaaDoor.addR
  rw [if_neg (by omega), h.none hO, if_neg (by simp), if_neg (by have := h.len hT; omega)]
theorem Has.addX (h : Has n U O T) (hT : TOk T) {i : Nat} (hi : i < n) (hO : O i = true) : Proofs.YtbopobgnmkhabaaDoor.addR T ((i : Int) + 1) = 9 := by
  unfold Proofs.YtbopobgnmkhabaaDoor.addR
  rw [if_neg (by omega), h.some hT hi hO, if_pos (by simp)]
theorem Has.add (h : Has n U O T) (hT : TOk T) {i : Nat} (hi : i < n) (hn : n ≤ 500) (hO : O i = false) (D : Nat) : Has n (fun j => if j = i then D else U j) (fun j => if j = i then true else O j) (addT T ((i : Int) + 1) D) := by
  unfold addT
  rw [if_pos (h.addR hT hi hn hO)]
  intro x
  rw [insL_mem, h x]
  constructor
  · rintro (rfl | ⟨j, h1, h2, h3⟩)
    · exact ⟨i, hi, by simp, by simp⟩
    · have hji : ¬ j = i := fun e => by subst e; rw [hO] at h2; cases h2
      exact ⟨j, h1, by simp [hji, h2], by simp [hji, h3]⟩
  · rintro ⟨j, h1, h2, h3⟩
    by_cases hji : j = i
    · subst hji; left; simpa using h3
    · right; exact ⟨j, h1, by simpa [hji] using h2, by simpa [hji] using h3⟩
theorem Has.del (h : Has n U O T) (hT : TOk T) {i : Nat} (hi : i < n) (hO : O i = true) : Has n U (fun j => if j = i then false else O j) (canT T ((i : Int) + 1)) := by
  have e : canT T ((i : Int) + 1) = T.erase ((U i : Int), (i : Int) + 1) := by unfold canT; rw [h.some hT hi hO]
  rw [e]
  intro x
  rw [List.Nodup.mem_erase_iff (nodup_of_ids hT.ids), h x]
  constructor
  · rintro ⟨hx, j, h1, h2, h3⟩
    have hji : ¬ j = i := fun e => by subst e; exact hx h3
    exact ⟨j, h1, by simp [hji, h2], h3⟩
  · rintro ⟨j, h1, h2, h3⟩
    by_cases hji : j = i
    · subst hji; simp at h2
    · refine ⟨fun e => ?_, j, h1, by simpa [hji] using h2, h3⟩
      rw [h3] at e
      injection e with e1 e2
      omega
theorem Has.same (h : Has n U O T) {i : Nat} (hO : O i = false) (D : Nat) : Has n (fun j => if j = i then D else U j) O T := fun x => by
  rw [h x]
  constructor
  · rintro ⟨j, h1, h2, h3⟩
    have hji : ¬ j = i := fun e => by subst e; rw [hO] at h2; cases h2
    exact ⟨j, h1, h2, by simp [hji, h3]⟩
  · rintro ⟨j, h1, h2, h3⟩
    have hji : ¬ j = i := fun e => by subst e; rw [hO] at h2; cases h2
    exact ⟨j, h1, h2, by simpa [hji] using h3⟩
theorem Has.congr (h : Has n U O T) {U' : Nat → Nat} {O' : Nat → Bool} (e1 : ∀ j, U j = U' j) (e2 : ∀ j, O j = O' j) : Has n U' O' T := by
  obtain rfl : U = U' := funext e1
  obtain rfl : O = O' := funext e2
  exact h
theorem Has.tail {x : Ent} (h : Has n U O (x :: T)) (hn : ((x :: T).map Prod.snd).Nodup) : ∃ t, t < n ∧ O t = true ∧ x = ((U t : Int), (t : Int) + 1) ∧ Has n U (fun j => if j = t then false else O j) T := by
  obtain ⟨t, h1, h2, h3⟩ := (h x).1 List.mem_cons_self
  refine ⟨t, h1, h2, h3, fun y => ?_⟩
  have hx : x.2 ∉ T.map Prod.snd := (List.nodup_cons.1 (by simpa using hn)).1
  constructor
  · intro hy
    obtain ⟨j, g1, g2, g3⟩ := (h y).1 (List.mem_cons_of_mem _ hy)
    have hjt : ¬ j = t := fun e => by
      subst e
      exact hx (List.mem_map.2 ⟨y, hy, by rw [g3, h3]⟩)
    exact ⟨j, g1, by simp [hjt, g2], g3⟩
  · rintro ⟨j, g1, g2, g3⟩
    by_cases hjt : j = t
    · subst hjt; simp at g2
    · have := (h y).2 ⟨j, g1, by simpa [hjt] using g2, g3⟩
      rcases List.mem_cons.1 this with e | e
      · rw [g3, h3] at e
        injection e with e1 e2
        omega
      · exact e
theorem Has.nil (h : Has n U O []) {j : Nat} (hj : j < n) : O j = false := by
  cases e : O j with
  | false => rfl
  | true => exact absurd ((h _).2 ⟨j, hj, e, rfl⟩) (by simp)
end Go.Proofs.YtbopobgnmkhabaaDoor
