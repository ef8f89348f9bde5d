/- queue: lists, Least, Take, Where. -/
import Derived.Test.YtdcacbjmbfppeaaGreatQS
namespace Go.Proofs.YtdcacbjmbfppeaaGreat
open Go.RowKit Go.Lib Go.Sort
set_option linter.unusedVariables false

theorem fieldA (f1 f2 : Value) (w : World) : (Instr.field 84 (.agg #[f1, f2]) 0).run Tryz.prog w = .ok f1 w := by
  simp [Instr.field, run_underlying Tryz.underlying84, asAgg, part]
theorem fieldD (f1 f2 : Value) (w : World) : (Instr.field 84 (.agg #[f1, f2]) 1).run Tryz.prog w = .ok f2 w := by
  simp [Instr.field, run_underlying Tryz.underlying84, asAgg, part]
/-- What lists tells. -/
def ListsIs (w : World) (n : Nat) (ls : List (List Ent)) (r : Ending) (w' : World) : Prop := ∃ a cap, r = .returned (.slice a n cap) ∧ OwnS w' w.heap.size (.slice a n cap) ls ∧ Below w.heap.size w w'

theorem OwnS.low {w : World} {base b' : Nat} {v : Value} {ls : List (List Ent)} (h : OwnS w base v ls) (hb : b' ≤ base) : OwnS w b' v ls := by
  obtain ⟨vs, h1, h2⟩ := h
  refine ⟨vs, own_low h1 hb, fun i d hd => ?_⟩
  obtain ⟨p, q, h3, h4⟩ := h2 i d hd
  exact ⟨p, q, h3, h4.low hb⟩

set_option maxHeartbeats 4000000 in
set_option maxRecDepth 100000 in
theorem lists_any (w : World) (base : Nat) (A : QAd) (T K N : Nat) (s : QSt) (h : Que w base A T K s) (ok : QOk K T N s) (hN : N ≤ 1000) (hK : K ≤ 16) (h1 : 1 ≤ T) (h8 : T ≤ 8) :
    Calls Tryz.prog 58 #[ptr A.B] w (ListsIs w (2 * T + 1) (listsQ s T)) := by
  obtain ⟨S, hS⟩ : ∃ S, w.heap.size = S := ⟨_, rfl⟩
  have H : Aside (Que w base A T K s) := h
  have OK : Aside (QOk K T N s) := ok
  have fx : QFix w A T K := by obtain ⟨ra, sa, h⟩ := h; exact h.fix
  have sp := spots_any w A T K fx h1 h8
  have CB : Aside (∀ W, Below S w W → W.cell? ⟨A.B, 4, none⟩ = some (.map (some A.M)) ∧ A.B < W.heap.size) := fun W hW => by
    have f := fx.below (by rw [hS]; exact hW : Below w.heap.size w W)
    exact ⟨f.cells.2.2.2.2, f.blt⟩
  have HS : Hid _ := hS
  obtain ⟨n, hn⟩ : ∃ n, 2 * T + 1 = n := ⟨_, rfl⟩
  have HN : Hid _ := hn
  have n17 : n ≤ 17 := by omega
  rw [hn] at sp ⊢
  clear h hS ok fx hn
  go_enter Tryz.func58, Tryz.ntmps58
  go_wp2_with fail
  refine sp.mono ?_
  rintro r w1 ⟨g, cap0, rfl, hg, hcl, _, b1⟩
  have CL : Aside (∀ W : World, Below w1.heap.size w1 W → g < W.heap.size ∧ ∀ j, j < n → W.cell? ⟨g, j * 2, none⟩ = some (.int .i64 (spotAt T j).1) ∧ W.cell? ⟨g, j * 2 + 1, none⟩ = some (.int .i64 (spotAt T j).2)) := hcl
  have B1 : Aside (Below w.heap.size w w1) := b1
  obtain ⟨Z, hZ⟩ : ∃ Z, w1.heap.size = Z := ⟨_, rfl⟩
  have HZ : Hid _ := hZ
  clear hcl b1 sp hZ
  go_wp2_with fail
  go_loopg [3, 9] n (fun kx s3 s9 wr => ∃ (k m cap : Nat) (a : Option Addr), s9 = .int .i64 k ∧ k ≤ n ∧ n - k ≤ kx ∧ Hid (m = k) ∧ s3 = .slice a m cap ∧ Aside (OwnS wr Z (.slice a m cap) ((listsQ s T).take k)) ∧ Aside (Below Z w1 wr))
  case atStart => exact ⟨0, 0, 0, none, rfl, by omega, by omega, (by show _ = _; omega), rfl, OwnS.nil _ _, Below.refl _ _⟩
  case round =>
    obtain ⟨k, m, cap, a, rfl, hk, hkx, HM, rfl, O, D⟩ := hrel
    by_cases hlt : k < n
    · have hz : (k : Int) < (n : Int) := by omega
      obtain ⟨gl, cl⟩ := CL.out wr (by rw [HZ.out]; exact D.out)
      obtain ⟨cl0, cl1⟩ := cl k hlt
      obtain ⟨wp, wt⟩ := spot_wf T k h8
      obtain ⟨fa, fd, xa, ya, xd, yd, pt⟩ := part_any A (T := T) (j := k) (by rw [HN.out]; exact hlt)
      have tb := pt.tab
      obtain ⟨P, hP⟩ : ∃ P, (spotAt T k).1 = P := ⟨_, rfl⟩
      obtain ⟨Q, hQ⟩ : ∃ P, (spotAt T k).2 = P := ⟨_, rfl⟩
      rw [hP] at cl0 wp tb
      rw [hQ] at cl1 wt tb
      obtain ⟨R, hR⟩ : ∃ R, wr.heap.size = R := ⟨_, rfl⟩
      obtain ⟨u, hu⟩ : ∃ u, (wr.alloc (.cells #[.int .i64 P, .int .i64 Q] 81)) = u := ⟨_, rfl⟩
      have bu : Below wr.heap.size wr u := by rw [← hu]; exact (Below.refl _ _).alloc (Nat.le_refl _) _
      have bz : Below w1.heap.size w1 wr := by rw [HZ.out]; exact D.out
      have bw : Below w.heap.size w wr := B1.out.trans (bz.mono B1.out.size)
      have bwu : Below w.heap.size w u := bw.trans (bu.mono bw.size)
      have us : u.heap[R]? = some (.cells #[.int .i64 P, .int .i64 Q] 81 (0, 0)) := by rw [← hu, ← hR]; exact heap_alloc_new wr _
      obtain ⟨x0, x1⟩ := ent0 us
      have Ru : R < u.heap.size := lt_of_block us
      have eg := pt.ea
      have fA := fieldA (.func (.func fa) xa ya) (.func (.func fd) xd yd)
      have CU : Aside (∀ W, Below u.heap.size u W → W.cell? ⟨A.B, 4, none⟩ = some (.map (some A.M)) ∧ A.B < W.heap.size ∧ W.cell? ⟨R, 0, none⟩ = some (.int .i64 P) ∧ W.cell? ⟨R, 1, none⟩ = some (.int .i64 Q) ∧ R < W.heap.size ∧ (Instr.lookup 57 (.map (some A.M)) (.agg #[.int .i64 P, .int .i64 Q]) false).run Tryz.prog W = .ok (.agg #[.func (.func fa) xa ya, .func (.func fd) xd yd]) W ∧ Calls Tryz.prog fa (xa ++ ya) W (Made W (spotL s T k))) := fun W hW => by
        have b2 : Below w.heap.size w W := bwu.trans (hW.mono bwu.size)
        obtain ⟨z1, z2⟩ := CB.out W (by rw [← HS.out]; exact b2)
        have us2 := (hW.block R Ru).trans us
        have q2 := H.out.below b2
        refine ⟨z1, z2, (ent0 us2).1, (ent0 us2).2, lt_of_block us2, ?_, pt.all W base K N s q2 OK.out hN hK⟩
        obtain ⟨ra, sa, q⟩ := q2
        exact q.fix.tab.look wp wt tb
      have hb0 : Below u.heap.size u u := Below.refl _ _
      have hb1 : Below u.heap.size u u.drew := hb0.drew
      obtain ⟨y1, y2, y3, y4, y5, y6, y7⟩ := CU.out u hb0
      obtain ⟨z1, z2, z3, z4, z5, z6, z7⟩ := CU.out u.drew hb1
      have HU : Hid _ := hu
      obtain ⟨d, hd⟩ : ∃ d, spotL s T k = d := ⟨_, rfl⟩
      obtain ⟨q, hq⟩ : ∃ q, d.length = q := ⟨_, rfl⟩
      have HQ : Hid _ := hq
      have MK : Aside (∀ (W : World) (x : Option Addr) (y : Nat), Below u.heap.size u W → OwnE W Z (.slice x q y) d → ∃ r t w', (Builtin.append_ #[64, 64] 64 #[.slice a m cap, .slice (some ⟨W.heap.size, 0, none⟩) 1 1]).run Tryz.prog (W.alloc (.cells #[.slice x q y] 45)) = .ok (.slice r (m + 1) t) w' ∧ OwnS w' Z (.slice r (m + 1) t) ((listsQ s T).take (k + 1)) ∧ Below Z w1 w' ∧ w'.cell? ⟨A.B, 4, none⟩ = some (.map (some A.M)) ∧ w'.cell? ⟨R, 0, none⟩ = some (.int .i64 P) ∧ w'.cell? ⟨R, 1, none⟩ = some (.int .i64 Q)) := by
        intro W x y hW ho
        have bW : Below wr.heap.size wr W := bu.trans (hW.mono bu.size)
        have bA : Below W.heap.size W (W.alloc (.cells #[.slice x q y] 45)) := (Below.refl _ _).alloc (Nat.le_refl _) _
        have el : ((listsQ s T).take k).length = m := by rw [List.length_take, listsQ_len, HM.out]; have := HN.out; omega
        have sS : Z ≤ W.heap.size := by have := bW.size; have := bz.size; have := HZ.out; omega
        obtain ⟨r, t, w', k1, k2, k3, k4⟩ := apps_run (w := W.alloc (.cells #[.slice x q y] 45)) (base := Z) (g := W.heap.size) (v := .slice a m cap) (ls := (listsQ s T).take k) (p := x) (q := y) (d := d) ((O.out.below bW).below bA) (by rw [hq]; exact ho.below bA) (by rw [hq]; exact cell_new W _ _ 0) (by rw [el]; have := HM.out; omega) (by have := bA.size; omega) 64
        rw [el] at k1 k2
        obtain ⟨vs, ov, _⟩ := (O.out.below bW).below bA
        have bx : Below u.heap.size u (W.alloc (.cells #[.slice x q y] 45)) := hW.trans (bA.mono hW.size)
        have hR1 := (bx.block R Ru).trans us
        have qf : QFix (W.alloc (.cells #[.slice x q y] 45)) A T K := by
          obtain ⟨ra, sa, q⟩ := H.out.below (bwu.trans (bx.mono bwu.size))
          exact q.fix
        have hR2 := (k4.block R (lt_of_block hR1) (own_ne ov hR1 (by decide))).trans hR1
        have hB2 := (k4.block A.B (lt_of_block qf.head) (own_ne ov qf.head (by decide))).trans qf.head
        refine ⟨r, t, w', k1, ?_, k3 w1 ?_, (by rw [cell_of_row _ _ _ _ _ _ hB2]; rfl), (ent0 hR2).1, (ent0 hR2).2⟩
        · have : (listsQ s T).take (k + 1) = (listsQ s T).take k ++ [d] := by rw [List.take_add_one, listsQ_at s T (by rw [HN.out]; exact hlt), hd]; rfl
          rw [this]; exact k2
        · have b9 := bz.trans ((bW.trans (bA.mono bW.size)).mono bz.size)
          rw [HZ.out] at b9
          exact b9
      rw [hd] at z7
      have BU : Aside (Z ≤ u.heap.size) := by show _ ≤ _; have := bu.size; have := bz.size; have := HZ.out; omega
      clear hu bu bw bz pt tb wp wt hP hQ cl hq hd y7
      have mx := mixed
      go_wp2_with fail
      rw [HU.out]
      go_region_held3 (fun W => W.cell? ⟨A.B, 4, none⟩ = some (.map (some A.M)) ∧ W.cell? ⟨R, 0, none⟩ = some (.int .i64 P) ∧ W.cell? ⟨R, 1, none⟩ = some (.int .i64 Q)) (first | with_reducible exact ⟨y1, y3, y4⟩ | with_reducible exact ⟨z1, z3, z4⟩ | with_reducible exact ⟨v1, v3, v4⟩ | with_reducible exact ⟨v1', v3', v4'⟩ | with_reducible exact ⟨i1, i2, i3⟩)
        ((first
          | refine step_app (w3.alloc (.cells #[.slice x q y] 45)) (by rfl) _ _ 64 64 (by rfl) (.slice a m cap) (.slice (some ⟨w3.heap.size, 0, none⟩) 1 1) (by rfl) (by rfl) (.slice r5 (m + 1) t5) w5 hr5 ?_
          | ((with_reducible refine Calls.mono z7 ?_); rintro r w3 ⟨x, y, rfl, o3, d3⟩; rw [HQ.out] at o3 ⊢; have hb3 : Below u.heap.size u w3 := hb1.trans (d3.mono hb1.size); obtain ⟨v1, v2, v3, v4, v5, _, _⟩ := CU.out w3 hb3; obtain ⟨r5, t5, w5, hr5, o5, b5, i1, i2, i3⟩ := MK.out w3 x y hb3 (o3.low (by show Z ≤ u.heap.size; exact BU.out)); obtain ⟨v1', v2', v3', v4', v5', _, _⟩ := CU.out (w3.alloc (.cells #[.slice x q y] 45)) (hb3.alloc hb3.size _))))
      have O5 : Aside (OwnS w5 Z (.slice r5 (m + 1) t5) ((listsQ s T).take (k + 1))) := o5
      have D5 : Aside (Below Z w1 w5) := b5
      clear o5 b5 i1 i2 i3 o3 d3 hb3 v1 v2 v3 v4 v5 v1' v2' v3' v4' v5' y1 y2 y3 y4 y5 y6 z1 z2 z3 z4 z5 z6 z7
      go_wp2
      go_roundg (n - (k + 1))
      case measure => omega
      case rel => exact ⟨k + 1, m + 1, t5, r5, by go_num, by omega, Nat.le_refl _, (by show _ = _; have := HM.out; omega), rfl, O5, D5⟩
    · have hz : ¬ (k : Int) < (n : Int) := by omega
      have e1 : (listsQ s T).take k = listsQ s T := List.take_of_length_le (by rw [listsQ_len]; have := HN.out; omega)
      have FIN : Aside (ListsIs w n (listsQ s T) (.returned (.slice a m cap)) wr) := by
        have o := O.out
        have d := D.out
        rw [e1] at o
        rw [← HZ.out] at o d
        replace o := o.low B1.out.size
        replace d := B1.out.trans (d.mono B1.out.size)
        have em : m = n := by have := HM.out; omega
        rw [em] at o ⊢
        exact ⟨a, cap, rfl, o, d⟩
      clear e1
      go_wp2
      go_ret
      exact FIN.out
end Go.Proofs.YtdcacbjmbfppeaaGreat
