/- table.Make of no ops: contract. -/
import Derived.Test.YtpenjncbodcbnaaDoorTbB
import Derived.Test.YtpenjncbodcbnaaDoorTbI
import Derived.Test.YtpenjncbodcbnaaDoorGkA
import Derived.Test.YtpenjncbodcbnaaDoorAnyF
import Derived.Deep.RegionHeld3
namespace Go.Proofs.YtpenjncbodcbnaaDoor
open Go.RowKit Go.Lib Go.WideMaps Go.Maps
set_option linter.unusedVariables false

/-- An append whose run is known, at a step of a region that draws its order. -/
theorem step_app {ops : Array Oper} {o : Oper} {a : Act} {K : Act → World → Prop} {Q : Exit → Act → World → Prop} {E : Prop} (w : World) (hgd : o.guard = none) (s x : Operand) (t tn : TypeId)
    (ho : o.op = .call { callee := .builtin .append, args := #[s, x], argTypes := #[t, tn] }) (vs vx : Value) (hs : a.eval s = vs) (hx : a.eval x = vx)
    (v' : Value) (w' : World) (hr : (Builtin.append_ #[t, tn] o.type #[vs, vx]).run Tryd.prog w = .ok v' w') (h : K (a.put o.dst v') w') :
    if Region.wanted o (yielded ops a.tmps) = true then Oper.wp Tryd.prog o a w K Q else E := by
  have hw : Region.wanted o (yielded ops a.tmps) = true := by simp [Region.wanted, hgd]
  rw [if_pos hw]
  exact Lib.wp_append_run w s x t tn ho vs vx hs hx v' w' hr h
variable {w w' u : World} {B a b r M n J : Nat} {v v' : Value} {T T' : List TR} {ws ws' : Nat → Int} {fc fc' : Int × Int → Option Value} {f p d rr m : Int}
/-- What Make lays. -/
def mkT (prio f p d R m s : Int) : TR := { prio := prio, due := d, key := 0, oa := none, on := 0, oc := 0, f := f, p := p, d := d, r := R, m := m, s := s }
theorem jb_kept (hJ : Tk.JBox u J f p d rr m) (h : Tab u B a b r M n v T ws fc) (hk : Kept a b r u w') : Tk.JBox w' J f p d rr m := by
  obtain ⟨ca, ha'⟩ := h.ha
  obtain ⟨cb, hb'⟩ := h.hb
  obtain ⟨cr, hr'⟩ := h.hr
  unfold Tk.JBox at *
  exact (hk.block J (lt_of_block hJ) (un_cells hJ ha' (by decide)) (un_cells hJ hb' (by decide)) (un_cells hJ hr' (by decide))).trans hJ
theorem jb_drew (h : Tk.JBox w J f p d rr m) : Tk.JBox w.drew J f p d rr m := h
theorem jb_fr (hJ : Tk.JBox u J f p d rr m) (h : Tab u B a b r M n v T ws fc) (hf : Fr (fun k => v.ownBlock = some k) u w') : Tk.JBox w' J f p d rr m := by
  unfold Tk.JBox at *
  refine (hf.block J (lt_of_block hJ) fun e => ?_).trans hJ
  obtain ⟨cg, hg⟩ := h.hg e
  exact un_cells hJ hg (by decide) rfl
/-- A job in the heap and the head of the tasks: what the append reads. -/
def SJ (B J : Nat) (v : Value) (f p d rr m : Int) (v0 : World) : Prop := v0.cell? ⟨B, 1, none⟩ = some v ∧ v0.cell? ⟨J, 0, none⟩ = some (.int .u64 f) ∧ v0.cell? ⟨J, 1, none⟩ = some (.int .u64 p) ∧ v0.cell? ⟨J, 2, none⟩ = some (.int .u64 d) ∧ v0.cell? ⟨J, 3, none⟩ = some (.int .u64 rr) ∧ v0.cell? ⟨J, 4, none⟩ = some (.int .u64 m)
theorem sj_of (h : v = v' ∧ w.cell? ⟨B, 1, none⟩ = some v) (hJ : Tk.JBox w J f p d rr m) : SJ B J v f p d rr m w := ⟨h.2, hJ.cell.1, hJ.cell.2.1, hJ.cell.2.2.1, hJ.cell.2.2.2.1, hJ.cell.2.2.2.2⟩
/-- What the append and the count behind it do. -/
theorem grow_all (h : Tab u B a b r M n v T ws fc) (I : ∀ s p, (fc (s, p)).isSome = true → (0 ≤ s ∧ s < 8) ∧ 0 ≤ p ∧ p < 8) (hJ : Tk.JBox u J f p d rr m) (hl : T.length ≤ 1000) (prio s : Int) (hp : 0 ≤ prio ∧ prio ≤ 7) (hs : 1 ≤ s ∧ s ≤ 6) (c : Int) (hc : (fc (s, prio)).getD (.int .i64 0) = .int .i64 c) :
    SJ B J v f p d rr m u.drew ∧ SJ B J v f p d rr m (u.drew.alloc (.cells #[.int .i64 prio, .int .u64 d, .int .u64 0, .slice none 0 0, .int .u64 f, .int .u64 p, .int .u64 d, .int .u64 rr, .int .u64 m] 63)) ∧
    ∃ v2, (∃ a2 L2 c2, v2 = .slice a2 L2 c2) ∧ ∃ w2 w3 st w4 w5, (Builtin.append_ #[52, 52] 52 #[v, .slice (some ⟨u.drew.heap.size, 0, none⟩) 1 1]).run Tryd.prog (u.drew.alloc (.cells #[.int .i64 prio, .int .u64 d, .int .u64 0, .slice none 0 0, .int .u64 f, .int .u64 p, .int .u64 d, .int .u64 rr, .int .u64 m] 63)) = .ok v2 w2 ∧ SJ B J v f p d rr m w2 ∧
      w2.frozen? ⟨B, 1, none⟩ = false ∧ w2.setCell ⟨B, 1, none⟩ v2 = w3 ∧
      (w3.drew.cell? ⟨B, 2, none⟩ = some (.map (some M)) ∧ (Instr.lookup 51 (.map (some M)) (.agg #[.int .i64 s, .int .i64 prio]) false).run Tryd.prog w3.drew = .ok (.int .i64 c) w3.drew) ∧
      (Instr.mapEntry 51 (.map (some M)) (.agg #[.int .i64 s, .int .i64 prio])).run Tryd.prog w3.drew = .ok (.tuple #[.int .i64 c, .int .i64 st]) w4 ∧
      (w4.cell? ⟨B, 2, none⟩ = some (.map (some M)) ∧ (Instr.lookup 51 (.map (some M)) (.agg #[.int .i64 s, .int .i64 prio]) false).run Tryd.prog w4 = .ok (.int .i64 c) w4) ∧
      (Instr.entryStore 51 (.map (some M)) (.int .i64 st) (.int .i64 (c + 1))).run Tryd.prog w4 = .ok () w5 ∧
      Tab w5 B a b r M n v2 (T ++ [mkT prio f p d rr m s]) ws (fput fc (s, prio) (.int .i64 (c + 1))) ∧ Fr (tf B a b r M v) u w5 ∧ ∀ k, v2.ownBlock = some k → v.ownBlock = some k ∨ u.heap.size ≤ k := by
  have h0 := h.drew
  have J0 : Tk.JBox u.drew J f p d rr m := hJ
  have b1 := bel1 u.drew (.cells #[.int .i64 prio, .int .u64 d, .int .u64 0, .slice none 0 0, .int .u64 f, .int .u64 p, .int .u64 d, .int .u64 rr, .int .u64 m] 63)
  obtain ⟨v2, w2, hr, o2, F2, n2⟩ := h0.own.push2 (mkT prio f p d rr m s) (by omega) (Nat.zero_le _) 52
  have hB2 : w2.heap[B]? = u.drew.heap[B]? := F2.block B (lt_of_block h0.head) fun e => by
    obtain ⟨cg, hg⟩ := h0.hg e
    exact un_cells h0.head hg (by decide) rfl
  have T3 := h0.grow F2 o2
  have T3d := T3.drew
  obtain ⟨N, hN⟩ := T3d.map
  have hk : keyP.ok (s, prio) := ⟨wfI_8 (by omega), wfI_8 (by omega)⟩
  obtain ⟨st, w4, w5, mm, l0, e4, l4, e5, m5, g5, g4⟩ := hN.bump (few hN I) hk c hc (.int .i64 (c + 1))
  have T5 := T3d.setM g5 m5
  refine ⟨sj_of (v' := v) ⟨rfl, h0.c1⟩ J0, sj_of (v' := v) ⟨rfl, (h0.below b1).c1⟩ (J0.below b1), v2, ?_, w2, _, st, w4, w5, hr, sj_of (v' := v) ⟨rfl, ?_⟩ (jb_fr J0 h0 F2), ?_, rfl, ⟨T3d.c2, l0⟩, e4, ⟨?_, l4⟩, e5, T5, ?_, fun k hk => ?_⟩
  · obtain ⟨a2, c2, e2, _⟩ := o2.isG
    exact ⟨a2, _, c2, e2⟩
  · rw [World.cell?_of_block hB2]; exact h0.c1
  · rw [World.frozen?_of_block (w := u.drew) hB2]; exact h0.fz 1
  · obtain ⟨es, q, hM'⟩ := T3d.hM
    rw [World.cell?_of_block (g4.block B (lt_of_block T3d.head) (fun e => un_map T3d.head hM' (by injection e)))]
    exact T3d.c2
  · have x1 : Fr (tf B a b r M v) u u.drew := (Fr.refl _ u).drew
    have x2 : Fr (tf B a b r M v) u w2 := x1.trans F2 (fun j hj => .inl (.inr (.inr (.inr (.inr (.inr hj))))))
    have x3 : Fr (tf B a b r M v) u (w2.setCell ⟨B, 1, none⟩ v2) := x2.trans (Fr.setCell (fun k => k = B) w2 B 1 v2 rfl) (fun j hj => .inl (.inl hj))
    exact x3.drew.trans (Fr.of_grown g5) (fun j hj => .inl (.inr (.inr (.inr (.inr (.inl (by injection hj with hj; exact hj.symm)))))))
  · exact n2 k hk
end Go.Proofs.YtpenjncbodcbnaaDoor
