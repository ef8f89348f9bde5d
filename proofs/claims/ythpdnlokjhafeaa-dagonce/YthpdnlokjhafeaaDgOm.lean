/- DagOnce: what lies in memory. -/
import Derived.Test.YthpdnlokjhafeaaDgOp
namespace Go.Proofs.Ythpdnlokjhafeaa
open Go.RowKit Go.Lib
set_option linter.unusedVariables false
structure OnM (w : World) (S SB WB : Nat) (X : Nat → Prop) (st : Nat → Int) (vw : Nat → Value) (wl : Nat → List Int) : Prop where
  sb : B26 43 w SB (fun k => .int .i64 (st k))
  wb : B26 44 w WB vw
  own : ∀ k, OwnI w S (vw k) (wl k)
  sep : ∀ k k' b, k ≠ k' → (vw k).ownBlock = some b → (vw k').ownBlock ≠ some b
  nx : ∀ k, Dis (vw k) X
  ns : ¬ X SB
  nw : ¬ X WB
  ls : S ≤ SB
  lw : S ≤ WB
variable {w w' : World} {X X' : Nat → Prop} {S SB WB : Nat} {st : Nat → Int} {vw : Nat → Value} {wl : Nat → List Int}
theorem OnM.step (h : OnM w S SB WB X st vw wl) (s : St X w X' w') : OnM w' S SB WB X' st vw wl :=
  ⟨h.sb.fr s.fr h.ns, h.wb.fr s.fr h.nw, fun k => (h.own k).st (h.nx k) s, h.sep, fun k => (h.nx k).st (h.own k) s, s.out h.sb.lt h.ns, s.out h.wb.lt h.nw, h.ls, h.lw⟩
theorem OnM.below (h : OnM w S SB WB X st vw wl) (b : Below w.heap.size w w') : OnM w' S SB WB X st vw wl := h.step (St.below X b)
def sset (st : Nat → Int) (k : Nat) (v : Int) : Nat → Int := fun i => if i = k then v else st i
theorem OnM.ne (h : OnM w S SB WB X st vw wl) : SB ≠ WB := B26.ne h.sb h.wb (by decide)
theorem OnM.setS (h : OnM w S SB WB X st vw wl) {k : Nat} (hk : k < 26) (v : Int) : OnM (w.setCell ⟨SB, k, none⟩ (.int .i64 v)) S SB WB X (sset st k v) vw wl ∧ Fr (fun b => b = SB) w (w.setCell ⟨SB, k, none⟩ (.int .i64 v)) := by
  have F : Fr (fun b => b = SB) w (w.setCell ⟨SB, k, none⟩ (.int .i64 v)) := Fr.setCell _ _ _ _ _ rfl
  have s := h.sb.set hk (.int .i64 v)
  refine ⟨⟨?_, h.wb.fr F (fun e => h.ne e.symm), fun j => (h.own j).fr F (fun b hb => B26.row h.sb (h.own j) (by decide) hb), h.sep, h.nx, h.ns, h.nw, h.ls, h.lw⟩, F⟩
  obtain ⟨cur, c1, c2, c3⟩ := s
  refine ⟨cur, c1, c2, fun i hi => ?_⟩
  rw [c3 i hi]
  by_cases c : i = k
  · subst c; simp [bset, sset]
  · simp [bset, sset, c]
/-- One more is wanted. -/
theorem OnM.push (h : OnM w S SB WB X st vw wl) {k : Nat} (hk : k < 26) (x : Int) (hl : (wl k).length < 1000) (hS : S ≤ w.heap.size) (hX : ∀ b, X b → b < w.heap.size) : ∃ v' w', (Builtin.append_ #[24, 24] 24 #[vw k, .slice (some ⟨w.heap.size, 0, none⟩) 1 1]).run Try.prog (w.alloc (.cells #[.int .i64 x] 3)) = .ok v' w' ∧
      (w'.cell? ⟨WB, k, none⟩ = some (vw k) ∧ w'.frozen? ⟨WB, k, none⟩ = false) ∧ OnM (w'.setCell ⟨WB, k, none⟩ v') S SB WB X st (bset vw k v') (fun j => if j = k then wl k ++ [x] else wl j) ∧ Fr (fun b => b = WB ∨ (vw k).ownBlock = some b) w (w'.setCell ⟨WB, k, none⟩ v') := by
  obtain ⟨v', w', hr, o', F, n'⟩ := (h.own k).push x (by omega) hS
  have wb' : B26 44 w' WB vw := h.wb.fr F (fun e => B26.row h.wb (h.own k) (by decide) e rfl)
  have sb' : B26 43 w' SB (fun k => .int .i64 (st k)) := h.sb.fr F (fun e => B26.row h.sb (h.own k) (by decide) e rfl)
  have F2 : Fr (fun b => b = WB) w' (w'.setCell ⟨WB, k, none⟩ v') := Fr.setCell _ _ _ _ _ rfl
  refine ⟨v', w', hr, ⟨wb'.cell hk, wb'.frozen k⟩, ⟨sb'.fr F2 h.ne, wb'.set hk v', fun j => ?_, fun j j' b hne hj => ?_, fun j b hb hx => ?_, h.ns, h.nw, h.ls, h.lw⟩, (F.mono (fun b hb => .inr hb)).trans F2 (fun b hb => .inl (.inl hb))⟩
  · by_cases c : j = k
    · subst c
      rw [bset_same, if_pos rfl]
      exact o'.fr F2 (fun b hb => B26.row wb' o' (by decide) hb)
    · rw [bset_ne _ _ c, if_neg c]
      have oj : OwnI w' S (vw j) (wl j) := (h.own j).fr F (fun b hb e => h.sep j k b c hb e)
      exact oj.fr F2 (fun b hb => B26.row wb' oj (by decide) hb)
  · by_cases c : j = k
    · subst c
      rw [bset_same] at hj
      rw [bset_ne _ _ (fun e => hne e.symm)]
      rcases n' b hj with e | e
      · exact h.sep _ _ b hne e
      · intro hb; have := ((h.own j').rowLt hb).2; omega
    · rw [bset_ne _ _ c] at hj
      by_cases c2 : j' = k
      · subst c2
        rw [bset_same]
        intro hb
        rcases n' b hb with e | e
        · exact h.sep _ _ b hne hj e
        · have := ((h.own j).rowLt hj).2; omega
      · rw [bset_ne _ _ c2]; exact h.sep _ _ b hne hj
  · by_cases c : j = k
    · subst c
      rw [bset_same] at hb
      rcases n' b hb with e | e
      · exact h.nx _ b e hx
      · have := hX b hx; omega
    · rw [bset_ne _ _ c] at hb; exact h.nx j b hb hx
end Go.Proofs.Ythpdnlokjhafeaa
