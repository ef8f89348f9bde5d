/- slices.Insert at blocks: one of them, at the end, or where there is room. -/
import Derived.Test.YtboccihcomaaoaaShrD
namespace Go.Proofs.Ytboccihcomaaoaa
open Go.RowKit Go.Lib Go.Sort
set_option linter.unusedVariables false

theorem wp_copy_run2 (w : World) {o : Oper} {a : Act} {K : Act → World → Prop} {Q : Exit → Act → World → Prop} (d s : Operand) (t t' : TypeId)
    (ho : o.op = .call { callee := .builtin .copy, args := #[d, s], argTypes := #[t, t'] }) (v u : Value) (hd : a.eval d = v) (hs : a.eval s = u) {v' : Value} {w' : World}
    (hr : (Builtin.copy_ #[t, t'] o.type #[v, u]).run Try.prog w = .ok v' w') (h : K (a.put o.dst v') w') : o.wp Try.prog a w K Q := by
  unfold Oper.wp execOp
  simp only [ho, resolve, invoke, builtin, Sem.run_bind, Sem.run_pure, Result.andThen_ok, List.map_toArray, List.map_cons, List.map_nil, hd, hs, hr]
  exact h
theorem wpList_copy_run2 (w : World) {ops : Array Oper} {rest : List Oper} {o : Oper} {a : Act} {Q : Exit → Act → World → Prop} (hgd : o.guard = none) (d s : Operand) (t t' : TypeId)
    (ho : o.op = .call { callee := .builtin .copy, args := #[d, s], argTypes := #[t, t'] }) (v u : Value) (hd : a.eval d = v) (hs : a.eval s = u) {v' : Value} {w' : World}
    (hr : (Builtin.copy_ #[t, t'] o.type #[v, u]).run Try.prog w = .ok v' w') (h : wpList Try.prog ops Q rest (a.put o.dst v') w') : wpList Try.prog ops Q (o :: rest) a w :=
  wpList_plain hgd fun _ hK => wp_copy_run2 w d s t t' ho v u hd hs hr (hK _ _ h)
theorem step_copy_run2 {ops : Array Oper} {o : Oper} {a : Act} {K : Act → World → Prop} {Q : Exit → Act → World → Prop} {E : Prop} (w : World)
    (hg : o.guard = none) (d x : Operand) (dT sT : TypeId) (hop : o.op = Op.call { callee := Callee.builtin Builtin.copy, args := #[d, x], argTypes := #[dT, sT] })
    (v u : Value) (hd : a.eval d = v) (hx : a.eval x = u) {v' : Value} {w' : World} (hr : (Builtin.copy_ #[dT, sT] o.type #[v, u]).run Try.prog w = .ok v' w') (hK : K (a.put o.dst v') w') :
    if Region.wanted o (yielded ops a.tmps) = true then Oper.wp Try.prog o a w K Q else E := by
  have hw : Region.wanted o (yielded ops a.tmps) = true := by simp [Region.wanted, hg]
  rw [if_pos hw]
  exact wp_copy_run2 w d x dT sT hop v u hd hx hr hK

/-- append(s, b). -/
theorem app_block {w : World} {base G n : Nat} {v : Value} {bs : List Bk} {b : Bk} {TB TS : TypeId} (i : TypeInfo) (hu : Try.prog.underlying TS = some (.slice TB)) (hi : Try.prog.info? TB = some i) (hz : i.zero = some (.agg #[.int .i64 0, .slice none 0 0])) (hs : i.size = 2) (hby : i.bytes = 32)
    (hT : TB ≠ 37) (h : RowB TB w base v bs) (hn : bs.length = n) (hb : OwnE w base (.slice b.p b.d.length b.q) b.d) (c0 : w.cell? ⟨G, 0, none⟩ = some (.int .i64 (lv b.d))) (c1 : w.cell? ⟨G, 1, none⟩ = some (.slice b.p b.d.length b.q)) (hN : n ≤ 100000) (hbase : base ≤ w.heap.size) (ty : TypeId) :
    ∃ r t w', (Builtin.append_ #[TS, TS] ty #[v, .slice (some ⟨G, 0, none⟩) 1 1]).run Try.prog w = .ok (.slice r (n + 1) t) w' ∧ RowB TB w' base (.slice r (n + 1) t) (bs ++ [b]) ∧ w.grownBy w' v.ownBlock := by
  subst hn
  obtain ⟨v', w', k1, k2, k3, k4⟩ := run_append_own (P := Try.prog) w base TS ty TB i _ 2 32 hu hi hz hs hby rfl (by omega) v bs.length (flatB bs) h.row ⟨G, 0, none⟩ 1 1 (flatB [b]) rfl
    (fun j u hj => by
      have : j = 0 ∨ j = 1 := by have := (List.getElem?_eq_some_iff.1 hj).1; simp [flatB, encB] at this; omega
      rcases this with rfl | rfl
      · simp [flatB, encB] at hj; subst hj; exact c0
      · simp [flatB, encB] at hj; subst hj; exact c1) (flatB_one _) (by unfold maxLen; omega) (by omega) hbase
  have kp := kept_grown (S := fun T => T = TB) rfl h.row k3
  have own : RowB TB w' base v' (bs ++ [b]) := by
    refine ⟨by rw [flatB_append, List.length_append]; exact k2, fun x hx => ?_⟩
    rcases List.mem_append.1 hx with hx | hx
    · exact kp.own (fun e => hT e.symm) (h.own x hx)
    · simp at hx; subst hx; exact kp.own (fun e => hT e.symm) hb
  obtain ⟨r, t, e, _⟩ := own.slice
  rw [List.length_append] at e
  simp only [List.length_singleton] at e
  subst e
  exact ⟨r, t, w', k1, own, k3⟩

set_option maxHeartbeats 4000000 in
set_option maxRecDepth 100000 in
theorem insert_end (a : Option Addr) (n cap base G : Nat) (bs : List Bk) (b : Bk) (w : World) (h : RowB 34 w base (.slice a n cap) bs) (hn : bs.length = n) (hb : OwnE w base (.slice b.p b.d.length b.q) b.d)
    (c0 : w.cell? ⟨G, 0, none⟩ = some (.int .i64 (lv b.d))) (c1 : w.cell? ⟨G, 1, none⟩ = some (.slice b.p b.d.length b.q)) (hN : n ≤ 100000) (hbase : base ≤ w.heap.size) :
    Calls Try.prog 54 #[.slice a n cap, .int .i64 n, .slice (some ⟨G, 0, none⟩) 1 1] w fun r w' => ∃ a' cap', r = .returned (.slice a' (n + 1) cap') ∧ TurnsB w base (.slice a n cap) (.slice a' (n + 1) cap') (bs ++ [b]) w' := by
  obtain ⟨inf, hi, hz, hs, hby⟩ := info62
  obtain ⟨r, t, w', hr, o, k1⟩ := app_block inf Try.underlying28 hi hz hs hby (by decide) h hn hb c0 c1 hN hbase 28
  have F : Aside (TurnsB w base (.slice a n cap) (.slice r (n + 1) t) (bs ++ [b]) w') := ⟨o, k1⟩
  have hcc : n ≤ cap ∧ cap ≤ maxLen := by
    obtain ⟨a', c', e, hc1, hc2⟩ := h.slice
    injection e with _ _ e3
    rw [e3, ← hn]
    exact ⟨hc1, hc2⟩
  obtain ⟨hc1, hc2⟩ := hcc
  unfold maxLen at hc2
  have j1 : (n : Int) ≤ (cap : Int) := by omega
  have j2 : n ≤ cap := by omega
  have j3 : cap ≤ 9223372036854775807 := by omega
  have mx := mixed
  clear o k1 hb c0 c1 hi
  rcases h.row.2 with ⟨h1, h0⟩ | ⟨g, cap', cur, h1, hbg, hg, hnc, hc, hs, ht⟩
  · injection h1 with e1 e2 e3
    subst e1
    have en : n = 0 := e2
    have ec : cap = 0 := e3
    clear h e2 e3 h0 hn hc1 hc2
    subst en ec
    go_enter Try.func54, Try.ntmps54
    go_wp2_with (at_builtin; refine Lib.wpList_append_run w rfl _ _ 28 28 rfl _ _ rfl rfl _ w' hr ?_)
    go_ret
    exact ⟨r, t, rfl, F.out⟩
  · injection h1 with e1 e2 e3
    subst e1 e3
    clear h hs ht hg e2 hnc hn hc1 hc
    by_cases c : cap = n
    · go_enter Try.func54, Try.ntmps54
      go_wp2_with (at_builtin; refine Lib.wpList_append_run w rfl _ _ 28 28 rfl _ _ rfl rfl _ w' hr ?_)
      go_ret
      exact ⟨r, t, rfl, F.out⟩
    · go_enter Try.func54, Try.ntmps54
      go_wp2_with (at_builtin; refine Lib.wpList_append_run w rfl _ _ 28 28 rfl _ _ rfl rfl _ w' hr ?_)
      go_ret
      exact ⟨r, t, rfl, F.out⟩

set_option maxHeartbeats 4000000 in
set_option maxRecDepth 100000 in
theorem insert_mid (a : Option Addr) (n cap i base G : Nat) (bs : List Bk) (b : Bk) (w : World) (h : RowB 34 w base (.slice a n cap) bs) (hn : bs.length = n) (hi : i < n) (hroom : n < cap) (hb : OwnE w base (.slice b.p b.d.length b.q) b.d)
    (hG : w.heap[G]? = some (.cells #[.int .i64 (lv b.d), .slice b.p b.d.length b.q] 34 (0, 0))) (hGa : a ≠ some ⟨G, 0, none⟩) :
    Calls Try.prog 54 #[.slice a n cap, .int .i64 i, .slice (some ⟨G, 0, none⟩) 1 1] w fun r w' => r = .returned (.slice a (n + 1) cap) ∧ TurnsB w base (.slice a n cap) (.slice a (n + 1) cap) (bs.take i ++ b :: bs.drop i) w' := by
  obtain ⟨inf, hinf, _, hsz, _⟩ := info62
  rcases h.row.2 with ⟨h1, h0⟩ | ⟨g, cap', cur, h1, hbg, hg, hnc, hc, hs, ht⟩
  · omega
  injection h1 with e1 e2 e3
  subst e1 e2 e3
  unfold maxLen at hc
  have hne : G ≠ g := fun e => hGa (by rw [e])
  have hcs : cur.toList.length = cap * 2 := by simpa using hs
  obtain ⟨X1, hX1⟩ : ∃ X, flatB (bs.drop i) = X := ⟨_, rfl⟩
  obtain ⟨Y, hY⟩ : ∃ Y, flatB [b] = Y := ⟨_, rfl⟩
  have l1 : X1.length = (bs.length - i) * 2 := by rw [← hX1, flatB_len, List.length_drop]
  have lY : Y.length = 2 := by rw [← hY]; rfl
  have hcp1 : ∀ ty dc sc, (Builtin.copy_ #[28, 28] ty #[.slice (some ⟨g, (i + 1) * 2, none⟩) (bs.length + 1 - (i + 1)) dc, .slice (some ⟨g, i * 2, none⟩) (bs.length + 1 - i) sc]).run Try.prog w.drew = .ok (goInt ((bs.length - i : Nat) : Int)) (w.drew.setRow g (splice cur.toList ((i + 1) * 2) X1).toArray) := fun ty dc sc => by
    have e : Nat.min (bs.length + 1 - i) (bs.length + 1 - (i + 1)) = bs.length - i := by show min _ _ = _; omega
    have := run_copy2 w.drew ty g ((i + 1) * 2) (bs.length + 1 - (i + 1)) dc ⟨g, i * 2, none⟩ (bs.length + 1 - i) sc cur X1 hg (by rw [e, l1]) (fun j v hj => by
      have hjl := (List.getElem?_eq_some_iff.1 hj).1
      rw [Addr.add_lit]
      show w.cell? _ = _
      rw [World.ownsRow.cellAt h.row (i * 2 + j) (by omega), ← hj, ← hX1, ← flatB_drop, List.getElem?_drop]) (by rw [l1, hs]; omega) (by rw [← hX1]; exact flatB_one _)
    rw [e] at this
    exact this
  obtain ⟨b1, k1, g1⟩ := setRow_ends (S := fun T => T = 34) (w := w.drew) (cur' := (splice cur.toList ((i + 1) * 2) X1).toArray) hg hbg rfl
  have hG1 : (w.drew.setRow g (splice cur.toList ((i + 1) * 2) X1).toArray).heap[G]? = some (.cells #[.int .i64 (lv b.d), .slice b.p b.d.length b.q] 34 (0, 0)) := (setRow_other w.drew g G _ hne).trans hG
  have m1 : (splice cur.toList ((i + 1) * 2) X1).length = cap * 2 := by rw [length_splice _ _ _ (by rw [l1, hcs]; omega), hcs]
  obtain ⟨w1, hw1⟩ : ∃ w1, w.drew.setRow g (splice cur.toList ((i + 1) * 2) X1).toArray = w1 := ⟨_, rfl⟩
  simp only [hw1] at hcp1
  rw [hw1] at b1 k1 g1 hG1
  have hcp2 : ∀ ty dc, (Builtin.copy_ #[28, 28] ty #[.slice (some ⟨g, i * 2, none⟩) (bs.length + 1 - i) dc, .slice (some ⟨G, 0, none⟩) 1 1]).run Try.prog w1 = .ok (goInt 1) (w1.setRow g (splice (splice cur.toList ((i + 1) * 2) X1) (i * 2) Y).toArray) := fun ty dc => by
    have e : Nat.min 1 (bs.length + 1 - i) = 1 := by show min _ _ = _; omega
    have := run_copy2 w1 ty g (i * 2) (bs.length + 1 - i) dc ⟨G, 0, none⟩ 1 1 _ Y g1 (by rw [e, lY]) (fun j v hj => by
      have : j = 0 ∨ j = 1 := by have := (List.getElem?_eq_some_iff.1 hj).1; omega
      rw [Addr.add_lit, Nat.zero_add, cell_of_row _ _ _ _ _ _ hG1, ← hj, ← hY]
      rcases this with rfl | rfl <;> rfl) (by simp only [List.size_toArray]; rw [m1, lY]; omega) (by rw [← hY]; exact flatB_one _)
    rw [e] at this
    exact this
  obtain ⟨b2, k2, g2⟩ := setRow_ends (S := fun T => T = 34) (w := w1) (cur' := (splice (splice cur.toList ((i + 1) * 2) X1) (i * 2) Y).toArray) g1 hbg rfl
  obtain ⟨w2, hw2⟩ : ∃ w2, w1.setRow g (splice (splice cur.toList ((i + 1) * 2) X1) (i * 2) Y).toArray = w2 := ⟨_, rfl⟩
  simp only [hw2] at hcp2
  rw [hw2] at b2 k2 g2
  have bw : Below base w w2 := Below.trans (Below.trans ((Below.refl _ _).drew) b1) b2
  have gw : w.grownBy w2 (some g) := by rw [← hw2]; exact grown_row2 _ (by rw [← hw1]; exact grown_row _)
  have kw : Kept (fun T => T = 34) w w2 := Kept.trans (Kept.trans (Kept.of_below ((Below.refl _ _).drew)) k1) k2
  have hfin : TurnsB w base (.slice (some ⟨g, 0, none⟩) bs.length cap) (.slice (some ⟨g, 0, none⟩) (bs.length + 1) cap) (bs.take i ++ b :: bs.drop i) w2 := by
    refine ⟨⟨?_, fun x hx => ?_⟩, gw⟩
    · have le : (bs.take i ++ b :: bs.drop i).length = bs.length + 1 := by simp; omega
      rw [le]
      refine ⟨by rw [flatB_len, le], .inr ⟨g, cap, _, rfl, hbg, g2, by omega, by unfold maxLen; omega, ?_, ?_⟩⟩
      · simp only [List.size_toArray]
        rw [length_splice _ _ _ (by rw [lY, m1]; omega), m1]
      · have e0 : cur.toList.take (i * 2) = flatB (bs.take i) := by rw [← flatB_take, ← ht, List.take_take]; congr 1; omega
        have e1 : flatB (bs.take i ++ b :: bs.drop i) = flatB (bs.take i) ++ (Y ++ X1) := by rw [← hY, ← hX1, ← flatB_append, ← flatB_append]; rfl
        rw [e1, ← e0]
        show List.take _ ((splice cur.toList ((i + 1) * 2) X1).take (i * 2) ++ (Y ++ (splice cur.toList ((i + 1) * 2) X1).drop (i * 2 + Y.length))) = _
        have e2 : (splice cur.toList ((i + 1) * 2) X1).take (i * 2) = cur.toList.take (i * 2) := by
          unfold splice
          rw [List.take_append_of_le_length (by rw [List.length_take, hcs]; omega), List.take_take]
          congr 1; omega
        have e3 : (splice cur.toList ((i + 1) * 2) X1).drop (i * 2 + Y.length) = X1 ++ cur.toList.drop ((i + 1) * 2 + X1.length) := by
          unfold splice
          rw [lY, show i * 2 + 2 = (i + 1) * 2 by omega, List.drop_append, List.drop_eq_nil_of_le (by rw [List.length_take]; omega), List.length_take, hcs, show (i + 1) * 2 - min ((i + 1) * 2) (cap * 2) = 0 by omega]
          simp
        rw [e2, e3, ← List.append_assoc, ← List.append_assoc, List.take_append_of_le_length (by simp [lY, l1, hs]; omega), List.take_of_length_le (by simp [lY, l1, hs]; omega), List.append_assoc]
    · rcases List.mem_append.1 hx with hx | hx
      · exact kw.own (by decide) (h.own x (List.mem_of_mem_take hx))
      · rcases List.mem_cons.1 hx with rfl | hx
        · exact kw.own (by decide) hb
        · exact kw.own (by decide) (h.own x (List.mem_of_mem_drop hx))
  have F : Aside (TurnsB w base (.slice (some ⟨g, 0, none⟩) bs.length cap) (.slice (some ⟨g, 0, none⟩) (bs.length + 1) cap) (bs.take i ++ b :: bs.drop i) w2) := hfin
  have hsa : w.shape? G = some (34, 2) := by simp [World.shape?, hG]
  have hsb : w.shape? g = some (34, cap * 2) := by simp [World.shape?, hg, hs]
  have hfa : w.frozen? ⟨G, 0, none⟩ = false := by simp [World.frozen?, hG]
  have hfe : w.frozen? ⟨G, 2, none⟩ = false := by simp [World.frozen?, hG]
  have hov : ∀ lb cb, (callFunc 69 #[.slice (some ⟨G, 0, none⟩) 1 1, .slice (some ⟨g, (i + 1) * 2, none⟩) lb cb]).run Try.prog w = .ok (.value (.bool false)) w := fun lb cb => by
    rw [run_callFunc_extern Try.func69 (by kernel_rfl) (by kernel_rfl) (by kernel_rfl) (e := Extern.SlicesOverlaps.overlaps #[28, 28] #[4]) (by kernel_rfl),
      Lib.run_overlaps_apart w 28 4 34 Try.underlying28 2 (fun w => by simp [sizeOf, typeInfo, hinf, hsz]) ⟨G, 0, none⟩ ⟨g, (i + 1) * 2, none⟩ 1 1 lb cb hne _ _ _ _ hsa hsb (by omega) hfa hfe]
    rfl
  obtain ⟨n, hn⟩ : ∃ n, bs.length = n := ⟨_, rfl⟩
  rw [hn] at hcp1 hcp2 F hi hroom hnc ⊢
  have mx := mixed
  have z1 : ¬ ((i : Int) = (n : Int)) := by omega
  have z2 : ((i : Int) == (n : Int)) = false := by simp; omega
  have z3 : (i : Int) ≤ (n : Int) := by omega
  have z4 : ¬ cap = i := by omega
  have z5 : ¬ cap = i + 1 := by omega
  have z6 : ¬ (cap : Int) < (n : Int) + 1 := by omega
  have z7 : (n : Int) + 1 ≤ (cap : Int) := by omega
  have z8 : (i : Int) ≤ (n : Int) + 1 := by omega
  have z9 : ((n : Int) + 1).toNat = n + 1 := by omega
  have z10 : ((i : Int) + 1).toNat = i + 1 := by omega
  have z11 : (0 : Int) ≤ (i : Int) + 1 := by omega
  have z12 : (0 : Int) ≤ (n : Int) + 1 := by omega
  have z13 : IntKind.i64.wrap ((i : Int) + 1) = (i : Int) + 1 := by rw [IntKind.wrap_i64]; omega
  clear h hg hs ht hG hGa hcs hX1 hY l1 lY b1 k1 g1 hG1 m1 hw1 b2 k2 g2 hw2 bw kw gw hfin hinf hsa hsb hfa hfe hn hb
  go_enter Try.func54, Try.ntmps54
  go_wp2_with (simp only [hov])
  go_region_law_o (refine step_copy_run2 w.drew rfl _ _ 28 28 rfl _ _ (by simp [Act.eval, Act.put]; rfl) (by simp [Act.eval, Act.put]; rfl) (hcp1 _ _ _) ?_)
  go_wp2_with (at_builtin; refine wpList_copy_run2 w1 rfl _ _ 28 28 rfl _ _ rfl rfl (hcp2 _ _) ?_)
  go_ret
  exact ⟨rfl, F.out⟩

/-- At the end, or where there is room. -/
theorem insB_any (a : Option Addr) (n cap i base G : Nat) (bs : List Bk) (b : Bk) (w : World) (h : RowB 34 w base (.slice a n cap) bs) (hn : bs.length = n) (hi : i ≤ n) (hroom : i = n ∨ n < cap) (hb : OwnE w base (.slice b.p b.d.length b.q) b.d)
    (hG : w.heap[G]? = some (.cells #[.int .i64 (lv b.d), .slice b.p b.d.length b.q] 34 (0, 0))) (hGa : a ≠ some ⟨G, 0, none⟩) (hN : n ≤ 100000) (hbase : base ≤ w.heap.size) :
    Calls Try.prog 54 #[.slice a n cap, .int .i64 i, .slice (some ⟨G, 0, none⟩) 1 1] w fun r w' => ∃ a' cap', r = .returned (.slice a' (n + 1) cap') ∧ TurnsB w base (.slice a n cap) (.slice a' (n + 1) cap') (bs.take i ++ b :: bs.drop i) w' := by
  by_cases c : i = n
  · subst c
    have := insert_end a i cap base G bs b w h hn hb (by rw [cell_of_row _ _ _ _ _ _ hG]; rfl) (by rw [cell_of_row _ _ _ _ _ _ hG]; rfl) hN hbase
    rw [List.take_of_length_le (by omega), List.drop_eq_nil_of_le (by omega)]
    exact this
  · exact (insert_mid a n cap i base G bs b w h hn (by omega) (by omega) hb hG hGa).mono fun r w' ⟨h1, h2⟩ => ⟨a, cap, h1, h2⟩
end Go.Proofs.Ytboccihcomaaoaa
