/- wheel: its calls in a law's walk; what the document fixes (awake). -/
import Derived.Test.YtbopobgnmkhabaaDoorWhX
namespace Go.Proofs.YtbopobgnmkhabaaDoor
open Go.RowKit Go.Lib Go.Sort Go.WideMaps Go.Maps
set_option linter.unusedVariables false

/-- A wheel that a law made, in the law's world: what was there before has not turned. -/
structure Wst (w0 w : World) (F : Nat → Prop) (B base now : Nat) (T : List Ent) : Prop where
  whl : Whl w F B base now T
  bel : Below w0.heap.size w0 w
  lo : w0.heap.size ≤ base
  hi : base ≤ w.heap.size
  tab : TabW w0
  pos : 0 < w0.heap.size
/-- What a call of it leaves. -/
def Wgo (w0 w : World) (F : Nat → Prop) (B base now : Nat) (T : List Ent) (w' : World) : Prop := ∃ F', Wst w0 w' F' B base now T ∧ Fr F w w' ∧ ∀ k, F' k → F k ∨ w.heap.size ≤ k
variable {w0 w w' : World} {F : Nat → Prop} {B base now : Nat} {T : List Ent}
theorem Wst.tabW (h : Wst w0 w F B base now T) : TabW w := fun j hj => by rw [← h.tab j hj]; exact World.cell?_of_block (h.bel.block 0 h.pos)
theorem Wst.low (h : Wst w0 w F B base now T) {k : Nat} (hk : F k) : base ≤ k ∧ k < w.heap.size := h.whl.low k hk
theorem Wst.fr (h : Wst w0 w F B base now T) {X : Nat → Prop} (hf : Fr X w w') (hx : ∀ k, X k → ¬ F k ∧ w0.heap.size ≤ k) : Wst w0 w' F B base now T :=
  ⟨h.whl.fr hf (fun k hk hX => (hx k hX).1 hk), h.bel.trans (hf.toBelow (fun k hk => (hx k hk).2) h.bel.size), h.lo, Nat.le_trans h.hi hf.size, h.tab, h.pos⟩
theorem Wst.below (h : Wst w0 w F B base now T) (hw : Below w.heap.size w w') : Wst w0 w' F B base now T := h.fr (Fr.below (X := fun _ => False) hw) (fun _ hk => hk.elim)
theorem Wst.go {now' : Nat} {T' : List Ent} (h : Wst w0 w F B base now T) (g : WIs w F B base now' T' w') : Wgo w0 w F B base now' T' w' := by
  obtain ⟨F', q1, q2, q3⟩ := g
  exact ⟨F', ⟨q1, h.bel.trans (q2.toBelow (fun k hk => by have := (h.low hk).1; have := h.lo; omega) h.bel.size), h.lo, Nat.le_trans h.hi q2.size, h.tab, h.pos⟩, q2, q3⟩
theorem Wst.new (now : Nat) (hn : now < B64) {w0 w : World} (hb : Below w0.heap.size w0 w) (hT : TabW w0) (hp : 0 < w0.heap.size) :
    Calls Tryd.prog 9 #[.int .u64 now] w fun e w' => e = .returned (.pointer (some ⟨w.heap.size + 1, 0, none⟩)) ∧ Below w.heap.size w w' ∧ ∃ F, Wst w0 w' F (w.heap.size + 1) w.heap.size now [] := by
  refine Calls.mono (new_any now hn w) ?_
  rintro e w' ⟨rfl, q1, F, q2, q3⟩
  exact ⟨rfl, q1, F, q2, hb.trans (q1.mono hb.size), hb.size, q1.size, hT, hp⟩
theorem Wst.add (h : Wst w0 w F B base now T) {i : Int} (wi : wfI i) {D : Nat} (hD : D < B64) :
    Calls Tryd.prog 10 #[.pointer (some ⟨B, 0, none⟩), .int .i64 i, .int .u64 D] w fun e w' => e = .returned (.int .i64 (addR T i)) ∧ Wgo w0 w F B base now (addT T i D) w' := by
  refine Calls.mono (add_any h.whl wi hD h.hi) ?_
  rintro e w' ⟨rfl, q⟩
  exact ⟨rfl, h.go q⟩
theorem Wst.cancel (h : Wst w0 w F B base now T) {i : Int} (wi : wfI i) :
    Calls Tryd.prog 15 #[.pointer (some ⟨B, 0, none⟩), .int .i64 i] w fun e w' => e = .returned (.bool (dueOf T i).isSome) ∧ Wgo w0 w F B base now (canT T i) w' := by
  refine Calls.mono (cancel_any h.whl wi h.hi) ?_
  rintro e w' ⟨rfl, q⟩
  exact ⟨rfl, h.go q⟩
theorem Wst.advance (h : Wst w0 w F B base now T) {tt : Nat} (hto : tt < B64) :
    Calls Tryd.prog 11 #[.pointer (some ⟨B, 0, none⟩), .int .u64 tt] w fun e w' => ∃ a cap, e = .returned (.slice a (dueL (max now tt) T).length cap) ∧ IsL w' a cap (dueL (max now tt) T) ∧ Wgo w0 w F B base (max now tt) (restL (max now tt) T) w' := by
  refine Calls.mono (adv_any h.whl hto h.tabW (Nat.lt_of_lt_of_le h.pos h.lo) h.hi) ?_
  rintro e w' ⟨a, cap, rfl, q1, q2⟩
  exact ⟨a, cap, rfl, q1, h.go q2⟩

set_option maxHeartbeats 4000000 in
set_option maxRecDepth 100000 in
theorem awake_any (w : World) (hT : TabW w) (hp : 0 < w.heap.size) : Calls Tryd.prog 14 #[] w fun e w' => e = .returned (.bool true) ∧ Below w.heap.size w w' := by
  obtain ⟨B, hB⟩ : ∃ B, w.heap.size + 1 = B := ⟨_, rfl⟩
  obtain ⟨base, hbs⟩ : ∃ base, w.heap.size = base := ⟨_, rfl⟩
  have NEW : Aside (Calls Tryd.prog 9 #[.int .u64 0] w fun e w' => e = .returned (.pointer (some ⟨B, 0, none⟩)) ∧ ∃ F, Wst w w' F B base 0 []) := by
    refine Calls.mono (Wst.new 0 (by decide) (Below.refl w.heap.size w) hT hp) ?_
    rintro e w' ⟨rfl, -, F, q⟩
    exact ⟨by rw [hB], F, by rw [hB, hbs] at q; exact q⟩
  have e1 : addT [] 1 5 = [((5 : Int), (1 : Int))] := by decide
  have e2 : addT [((5 : Int), (1 : Int))] 2 3 = [((3 : Int), (2 : Int)), (5, 1)] := by decide
  have e3 : dueL (max 0 9) [((3 : Int), (2 : Int)), (5, 1)] = [((3 : Int), (2 : Int)), (5, 1)] := by decide
  have e4 : restL (max 0 9) [((3 : Int), (2 : Int)), (5, 1)] = [] := by decide
  have ADD1 : Aside (∀ w1 F, Wst w w1 F B base 0 [] → Calls Tryd.prog 10 #[.pointer (some ⟨B, 0, none⟩), .int .i64 1, .int .u64 5] w1 fun e w' => e = .returned (.int .i64 0) ∧ ∃ F, Wst w w' F B base 0 [((5 : Int), (1 : Int))]) := fun w1 F h => by
    refine Calls.mono (h.add (i := 1) (D := 5) (by unfold wfI; decide) (by decide)) ?_
    rintro e w' ⟨rfl, F', q, -⟩
    exact ⟨rfl, F', by rw [e1] at q; exact q⟩
  have ADD2 : Aside (∀ w1 F, Wst w w1 F B base 0 [((5 : Int), (1 : Int))] → Calls Tryd.prog 10 #[.pointer (some ⟨B, 0, none⟩), .int .i64 2, .int .u64 3] w1 fun e w' => e = .returned (.int .i64 0) ∧ ∃ F, Wst w w' F B base 0 [((3 : Int), (2 : Int)), (5, 1)]) := fun w1 F h => by
    refine Calls.mono (h.add (i := 2) (D := 3) (by unfold wfI; decide) (by decide)) ?_
    rintro e w' ⟨rfl, F', q, -⟩
    exact ⟨rfl, F', by rw [e2] at q; exact q⟩
  have ADV : Aside (∀ w1 F, Wst w w1 F B base 0 [((3 : Int), (2 : Int)), (5, 1)] → Calls Tryd.prog 11 #[.pointer (some ⟨B, 0, none⟩), .int .u64 9] w1 fun e w' => ∃ b off cap, e = .returned (.slice (some ⟨b, off, none⟩) 2 cap) ∧ b < w'.heap.size ∧ (w'.cell? ⟨b, off, none⟩ = some (.int .u64 3) ∧ w'.cell? ⟨b, off + 1, none⟩ = some (.int .i64 2) ∧ w'.cell? ⟨b, off + 2, none⟩ = some (.int .u64 5) ∧ w'.cell? ⟨b, off + 2 + 1, none⟩ = some (.int .i64 1)) ∧ ∃ F, Wst w w' F B base 9 []) := fun w1 F h => by
    refine Calls.mono (h.advance (tt := 9) (by decide)) ?_
    rintro e w' ⟨a, cap, rfl, q, F', q2, -⟩
    rw [e3] at q
    rw [e4] at q2
    obtain ⟨b, off, rfl, hb, x1, x2⟩ := q.elem 0 ((3 : Int), (2 : Int)) rfl
    obtain ⟨b', off', eb, hb', y1, y2⟩ := q.elem 1 ((5 : Int), (1 : Int)) rfl
    injection eb with eb
    injection eb with eb1 eb2 eb3
    subst eb1 eb2
    exact ⟨b, off, cap, by rw [e3]; rfl, hb, ⟨x1, x2, y1, y2⟩, F', q2⟩
  have NOW : Aside (∀ w1 F, Wst w w1 F B base 9 [] → Calls Tryd.prog 13 #[.pointer (some ⟨B, 0, none⟩)] w1 fun e w' => e = .returned (.int .u64 9) ∧ w' = w1) := fun w1 F h => now_any h.whl
  have LEN : Aside (∀ w1 F, Wst w w1 F B base 9 [] → Calls Tryd.prog 12 #[.pointer (some ⟨B, 0, none⟩)] w1 fun e w' => e = .returned (.int .i64 0) ∧ w' = w1) := fun w1 F h => wlen_any h.whl
  clear hT hp hB hbs e1 e2 e3 e4
  go_enter Tryd.func14, Tryd.ntmps14
  go_wp2_with (go_at_call 9; refine NEW.out.mono ?_; rintro e w1 ⟨rfl, F, H0⟩)
  refine (ADD1.out _ _ H0).mono ?_
  rintro e w2 ⟨rfl, F2, H1⟩
  clear NEW ADD1 H0
  go_wp2_with (go_at_call 10; refine (ADD2.out _ _ H1).mono ?_; rintro e w3 ⟨rfl, F3, H2⟩)
  refine (ADV.out _ _ H2).mono ?_
  rintro e w4 ⟨b, off, cap, rfl, hb, ⟨x1, x2, x3, x4⟩, F4, H3⟩
  clear ADD2 ADV H1 H2
  go_wp2_with (first | (go_at_call 13; refine (NOW.out _ _ H3).mono ?_; rintro e w5 ⟨rfl, rfl⟩) | (go_at_call 12; refine (LEN.out _ _ H3).mono ?_; rintro e w5 ⟨rfl, rfl⟩))
  go_ret
  exact ⟨rfl, H3.bel⟩
end Go.Proofs.YtbopobgnmkhabaaDoor
