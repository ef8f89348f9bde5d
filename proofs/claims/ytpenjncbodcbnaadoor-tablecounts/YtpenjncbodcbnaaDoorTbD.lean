/- One task of a table; what Turn does to the counts. -/
import Derived.Test.YtpenjncbodcbnaaDoorTbB
import Derived.Test.YtpenjncbodcbnaaDoorTbI
import Derived.Test.YtpenjncbodcbnaaDoorAnyF
import Derived.Deep.RegionHeld3
import Derived.Deep.CutBlock
import Derived.Deep.DeepCutAuto
namespace Go.Proofs.YtpenjncbodcbnaaDoor
open Go.RowKit Go.Lib Go.WideMaps Go.Maps
set_option linter.unusedVariables false
variable {w w' u : World} {B a b r M n g cap i O : Nat} {v v' : Value} {T T' : List TR} {x y : TR} {ws ws' : Nat → Int} {fc fc' : Int × Int → Option Value}

theorem flat_same {α : Type} {R : RowT α} (d : List α) : ∀ (i : Nat) (x y : α), d[i]? = some x → R.enc y = R.enc x → R.flat (d.set i y) = R.flat d := by
  induction d with
  | nil => intro i x y h; simp at h
  | cons z d ih =>
    intro i x y h he
    cases i with
    | zero =>
      simp at h; subst h
      rw [List.set_cons_zero, flat_cons, flat_cons, he]
    | succ i =>
      rw [List.set_cons_succ, flat_cons, flat_cons, ih i x y (by simpa using h) he]
theorem OwnG.same {α : Type} {R : RowT α} {w : World} {base : Nat} {v : Value} {d : List α} {i : Nat} {x y : α} (h : OwnG R w base v d) (hi : d[i]? = some x) (he : R.enc y = R.enc x) : OwnG R w base v (d.set i y) := by
  unfold OwnG
  rw [List.length_set, flat_same d i x y hi he]
  exact h
/-- One task's cells. -/
structure TC (w : World) (g O : Nat) (x : TR) : Prop where
  k0 : w.cell? ⟨g, O, none⟩ = some (.int .i64 x.prio)
  k1 : w.cell? ⟨g, O + 1, none⟩ = some (.int .u64 x.due)
  k2 : w.cell? ⟨g, O + 2, none⟩ = some (.int .u64 x.key)
  k4 : w.cell? ⟨g, O + 4, none⟩ = some (.int .u64 x.f)
  k5 : w.cell? ⟨g, O + 5, none⟩ = some (.int .u64 x.p)
  k6 : w.cell? ⟨g, O + 6, none⟩ = some (.int .u64 x.d)
  k7 : w.cell? ⟨g, O + 7, none⟩ = some (.int .u64 x.r)
  k8 : w.cell? ⟨g, O + 8, none⟩ = some (.int .u64 x.m)
  fz : ∀ o, w.frozen? ⟨g, o, none⟩ = false
theorem Tab.tc (h : Tab w B a b r M n (.slice (some ⟨g, 0, none⟩) T.length cap) T ws fc) (hi : T[i]? = some x) (hO : i * 9 = O) : TC w g O x := by
  subst hO
  have c := fun j u hu => h.own.cell (i := i) (x := x) hi (j := j) (u := u) hu
  exact ⟨c 0 _ rfl, c 1 _ rfl, c 2 _ rfl, c 4 _ rfl, c 5 _ rfl, c 6 _ rfl, c 7 _ rfl, c 8 _ rfl, fun o => h.own.frozen o⟩
theorem Tab.len (h : Tab w B a b r M n v T ws fc) (hi : T[i]? = some x) : ∃ g cap, v = .slice (some ⟨g, 0, none⟩) T.length cap := h.own.addr (fun e => by rw [e] at hi; simp at hi)
/-- A task has another state (its cells are the same). -/
theorem Tab.sameT (h : Tab w B a b r M n v T ws fc) (hi : T[i]? = some x) (he : rT.enc y = rT.enc x) : Tab w B a b r M n v (T.set i y) ws fc := ⟨h.head, h.own.same hi he, h.arn, h.map⟩
/-- One cell of a task is written. -/
theorem Tab.setC (h : Tab w B a b r M n (.slice (some ⟨g, 0, none⟩) T.length cap) T ws fc) (hi : T[i]? = some x) {j : Nat} {z : Value} (he : rT.enc y = (rT.enc x).set j z) (hj : j < 9) (hO : i * 9 + j = O) :
    Tab (w.setCell ⟨g, O, none⟩ z) B a b r M n (.slice (some ⟨g, 0, none⟩) (T.set i y).length cap) (T.set i y) ws fc ∧ Fr (tf B a b r M (.slice (some ⟨g, 0, none⟩) T.length cap)) w (w.setCell ⟨g, O, none⟩ z) := by
  subst hO
  have hf : Fr (fun k => (Value.slice (some ⟨g, 0, none⟩) T.length cap).ownBlock = some k) w (w.setCell ⟨g, i * 9 + j, none⟩ z) := Fr.setCell _ w g (i * 9 + j) z rfl
  have ho := h.own.setAt (i := i) (j := j) (y := y) (u := z) hi he hj
  have := h.setT (T' := T.set i y) hf (by rw [List.length_set] at ho; exact ho)
  refine ⟨?_, hf.mono (fun k hk => .inr (.inr (.inr (.inr (.inr hk)))))⟩
  rw [List.length_set]
  exact this
/-- What a count that is turned reads. -/
def S8 (B M g O : Nat) (pr s c : Int) (v0 : World) : Prop := v0.cell? ⟨B, 2, none⟩ = some (.map (some M)) ∧ v0.cell? ⟨g, O, none⟩ = some (.int .i64 pr) ∧ (Instr.lookup 51 (.map (some M)) (.agg #[.int .i64 s, .int .i64 pr]) false).run Tryd.prog v0 = .ok (.int .i64 c) v0
/-- One count is turned. -/
theorem bump_all (h : Tab u B a b r M n (.slice (some ⟨g, 0, none⟩) T.length cap) T ws fc) (I : ∀ s p, (fc (s, p)).isSome = true → (0 ≤ s ∧ s < 8) ∧ 0 ≤ p ∧ p < 8) (hi : T[i]? = some x) (hO : i * 9 = O) (hp : 0 ≤ x.prio ∧ x.prio ≤ 7) (s : Int) (hs : 0 ≤ s ∧ s < 8) (c c' : Int) (hc : (fc (s, x.prio)).getD (.int .i64 0) = .int .i64 c) :
    S8 B M g O x.prio s c u.drew ∧ ∃ st w4 w5, (Instr.mapEntry 51 (.map (some M)) (.agg #[.int .i64 s, .int .i64 x.prio])).run Tryd.prog u.drew = .ok (.tuple #[.int .i64 c, .int .i64 st]) w4 ∧ S8 B M g O x.prio s c w4 ∧
      (Instr.entryStore 51 (.map (some M)) (.int .i64 st) (.int .i64 c')).run Tryd.prog w4 = .ok () w5 ∧
      Tab w5 B a b r M n (.slice (some ⟨g, 0, none⟩) T.length cap) T ws (fput fc (s, x.prio) (.int .i64 c')) ∧ Fr (tf B a b r M (.slice (some ⟨g, 0, none⟩) T.length cap)) u w5 := by
  have h0 := h.drew
  obtain ⟨N, hN⟩ := h0.map
  have hk : keyP.ok (s, x.prio) := ⟨wfI_8 hs, wfI_8 (by omega)⟩
  obtain ⟨st, w4, w5, mm, l0, e4, l4, e5, m5, g5, g4⟩ := hN.bump (few hN I) hk c hc (.int .i64 c')
  obtain ⟨es, q, hM'⟩ := h0.hM
  obtain ⟨cg, hg⟩ := h0.hg (g := g) rfl
  refine ⟨⟨h0.c2, (h0.tc hi hO).k0, l0⟩, st, w4, w5, e4, ⟨?_, ?_, l4⟩, e5, h0.setM g5 m5, ?_⟩
  · rw [World.cell?_of_block (g4.block B (lt_of_block h0.head) (fun e => un_map h0.head hM' (by injection e)))]
    exact h0.c2
  · rw [World.cell?_of_block (g4.block g (lt_of_block hg) (fun e => un_map hg hM' (by injection e)))]
    exact (h0.tc hi hO).k0
  · exact ((Fr.refl _ u).drew).trans (Fr.of_grown g5) (fun j hj => .inl (.inr (.inr (.inr (.inr (.inl (by injection hj with hj; exact hj.symm)))))))
theorem dom_put {fc : Int × Int → Option Value} (I : ∀ s p, (fc (s, p)).isSome = true → (0 ≤ s ∧ s < 8) ∧ 0 ≤ p ∧ p < 8) {s p : Int} (hs : 0 ≤ s ∧ s < 8) (hp : 0 ≤ p ∧ p < 8) (z : Value) : ∀ s' p', ((fput fc (s, p) z) (s', p')).isSome = true → (0 ≤ s' ∧ s' < 8) ∧ 0 ≤ p' ∧ p' < 8 := fun s' p' h => by
  by_cases c : (s', p') = (s, p)
  · simp only [Prod.mk.injEq] at c
    omega
  · simp [fput, c] at h
    exact I s' p' h
theorem tturn_no (h : Tab w B a b r M n v T ws fc) (id s : Int) (hi : id < 1 ∨ (T.length : Int) < id) : Calls Tryd.prog 7 #[.pointer (some ⟨B, 0, none⟩), .int .i64 id, .int .i64 s] w fun e w' => e = .returned (.int .i64 1) ∧ w' = w := by
  have hf := find_no h id hi
  clear h hi
  go_enter Tryd.func7, Tryd.ntmps7
  go_wp2_with fail
  refine hf.mono ?_
  rintro e w1 ⟨rfl, rfl⟩
  go_wp2_with fail
  go_ret
  exact ⟨rfl, rfl⟩
end Go.Proofs.YtpenjncbodcbnaaDoor
