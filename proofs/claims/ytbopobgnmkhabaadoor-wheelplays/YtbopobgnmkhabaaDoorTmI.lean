/- slices.Insert at timers: one of them; slices.Clone. -/
import Derived.Test.YtbopobgnmkhabaaDoorTmF
import Derived.Laws.CopyRow
namespace Go.Proofs.YtbopobgnmkhabaaDoor
open Go.RowKit Go.Lib Go.Sort
set_option linter.unusedVariables false

theorem wp_copy_run2 (w : World) {o : Oper} {a : Act} {K : Act → World → Prop} {Q : Exit → Act → World → Prop} (d s : Operand) (t t' : TypeId)
    (ho : o.op = .call { callee := .builtin .copy, args := #[d, s], argTypes := #[t, t'] }) (v u : Value) (hd : a.eval d = v) (hs : a.eval s = u) {v' : Value} {w' : World}
    (hr : (Builtin.copy_ #[t, t'] o.type #[v, u]).run Tryd.prog w = .ok v' w') (h : K (a.put o.dst v') w') : o.wp Tryd.prog a w K Q := by
  unfold Oper.wp execOp
  simp only [ho, resolve, invoke, builtin, Sem.run_bind, Sem.run_pure, Result.andThen_ok, List.map_toArray, List.map_cons, List.map_nil, hd, hs, hr]
  exact h
theorem wpList_copy_run2 (w : World) {ops : Array Oper} {rest : List Oper} {o : Oper} {a : Act} {Q : Exit → Act → World → Prop} (hgd : o.guard = none) (d s : Operand) (t t' : TypeId)
    (ho : o.op = .call { callee := .builtin .copy, args := #[d, s], argTypes := #[t, t'] }) (v u : Value) (hd : a.eval d = v) (hs : a.eval s = u) {v' : Value} {w' : World}
    (hr : (Builtin.copy_ #[t, t'] o.type #[v, u]).run Tryd.prog w = .ok v' w') (h : wpList Tryd.prog ops Q rest (a.put o.dst v') w') : wpList Tryd.prog ops Q (o :: rest) a w :=
  wpList_plain hgd fun _ hK => wp_copy_run2 w d s t t' ho v u hd hs hr (hK _ _ h)
theorem step_copy_run2 {ops : Array Oper} {o : Oper} {a : Act} {K : Act → World → Prop} {Q : Exit → Act → World → Prop} {E : Prop} (w : World)
    (hg : o.guard = none) (d x : Operand) (dT sT : TypeId) (hop : o.op = Op.call { callee := Callee.builtin Builtin.copy, args := #[d, x], argTypes := #[dT, sT] })
    (v u : Value) (hd : a.eval d = v) (hx : a.eval x = u) {v' : Value} {w' : World} (hr : (Builtin.copy_ #[dT, sT] o.type #[v, u]).run Tryd.prog w = .ok v' w') (hK : K (a.put o.dst v') w') :
    if Region.wanted o (yielded ops a.tmps) = true then Oper.wp Tryd.prog o a w K Q else E := by
  have hw : Region.wanted o (yielded ops a.tmps) = true := by simp [Region.wanted, hg]
  rw [if_pos hw]
  exact wp_copy_run2 w d x dT sT hop v u hd hx hr hK
/-- copy of timers, within or into a row that is known. -/
theorem run_copy2 (w : World) (ty : TypeId) (g o dLen dCap : Nat) (a : Addr) (sLen sCap : Nat) (cur : Array Value) (cs : List Value)
    (hg : w.heap[g]? = some (.cells cur 33 (0, 0))) (hn : cs.length = Nat.min sLen dLen * 2)
    (hsrc : ∀ j v, cs[j]? = some v → w.cell? (a.add j) = some v) (hfit : o + cs.length ≤ cur.size) (h1 : ∀ v ∈ cs, v.oneCell' = true) :
    (Builtin.copy_ #[28, 28] ty #[.slice (some ⟨g, o, none⟩) dLen dCap, .slice (some a) sLen sCap]).run Tryd.prog w =
      .ok (goInt (Nat.min sLen dLen)) (w.setRow g (splice cur.toList o cs).toArray) := by
  obtain ⟨i, hi, _, hs, _⟩ := infoE
  have hl := run_loadCells_list (P := Tryd.prog) w a cs hsrc
  have hst := run_storeCells_at Tryd.prog g o 33 cs 0 cur w hg (by simpa using hfit) h1
  have e : Nat.min sLen dLen * i.size = cs.length := by rw [hn, hs]
  simp only [Nat.add_zero, List.append_assoc] at hst
  simp [Builtin.copy_, run_underlying Tryd.underlying28, Builtin.lenOf, Builtin.firstCells, sizeOf, typeInfo, hi, e, hl, hst, splice]

/-- What an insertion leaves. -/
def InsF (w : World) (base : Nat) (v : Value) (d : List Ent) (r : Ending) (w' : World) : Prop := ∃ v', r = .returned v' ∧ OwnF w' base v' d ∧ w.grownBy w' (rowB v) ∧ ∀ k, rowB v' = some k → rowB v = some k ∨ w.heap.size ≤ k

set_option maxHeartbeats 4000000 in
set_option maxRecDepth 100000 in
theorem insert_end (v : Value) (base G : Nat) (d : List Ent) (x : Ent) (w : World) (h : OwnF w base v d) (c0 : w.cell? ⟨G, 0, none⟩ = some (.int .u64 x.1)) (c1 : w.cell? ⟨G, 1, none⟩ = some (.int .i64 x.2)) (hG : G < w.heap.size) (hN : d.length ≤ 100000) (hbase : base ≤ w.heap.size) :
    Calls Tryd.prog 34 #[v, .int .i64 d.length, .slice (some ⟨G, 0, none⟩) 1 1] w (InsF w base v (d ++ [x])) := by
  have L : IsL w (some ⟨G, 0, none⟩) 1 [x] := ⟨by simp, by unfold maxLen; omega, fun i y hy => by
    cases i with
    | zero => simp at hy; subst hy; exact ⟨G, 0, rfl, hG, by simpa using c0, by simpa using c1⟩
    | succ i => simp at hy⟩
  obtain ⟨v', w', hr, o, k1, k2⟩ := appF h L (by simp; omega) hbase 28
  have F : Aside (OwnF w' base v' (d ++ [x]) ∧ w.grownBy w' (rowB v) ∧ ∀ k, rowB v' = some k → rowB v = some k ∨ w.heap.size ≤ k) := ⟨o, k1, k2⟩
  obtain ⟨a, cap, rfl, ha, hc1, hc2, _⟩ := h.isL
  obtain ⟨n, hn⟩ : ∃ n, d.length = n := ⟨_, rfl⟩
  rw [hn] at hc1 hr F hN ⊢
  simp only [List.length_singleton] at hr
  unfold maxLen at hc2
  have j1 : (n : Int) ≤ (cap : Int) := by omega
  have j3 : cap ≤ 9223372036854775807 := by omega
  have mx := mixed
  clear o k1 k2 L c0 c1 h hn hG
  rcases ha with ⟨rfl, rfl⟩ | ⟨g, off, rfl⟩
  · obtain rfl : n = 0 := by omega
    go_enter Tryd.func34, Tryd.ntmps34
    go_wp2_with (at_builtin; refine Lib.wpList_append_run w rfl _ _ 28 28 rfl _ _ rfl rfl _ w' hr ?_)
    go_ret
    exact ⟨v', rfl, F.out⟩
  · by_cases c : cap = n
    · subst c
      go_enter Tryd.func34, Tryd.ntmps34
      go_wp2_with (at_builtin; refine Lib.wpList_append_run w rfl _ _ 28 28 rfl _ _ rfl rfl _ w' hr ?_)
      go_ret
      exact ⟨v', rfl, F.out⟩
    · go_enter Tryd.func34, Tryd.ntmps34
      go_wp2_with (at_builtin; refine Lib.wpList_append_run w rfl _ _ 28 28 rfl _ _ rfl rfl _ w' hr ?_)
      go_ret
      exact ⟨v', rfl, F.out⟩
theorem flat_take : ∀ (d : List Ent) (i : Nat), flat (d.take i) = (flat d).take (i * 2)
  | d, 0 => by simp
  | [], i + 1 => by simp
  | x :: d, i + 1 => by rw [List.take_succ_cons, flat_cons, flat_cons, flat_take d i, show (i + 1) * 2 = i * 2 + 1 + 1 by omega, List.take_succ_cons, List.take_succ_cons]
theorem flat_drop : ∀ (d : List Ent) (i : Nat), flat (d.drop i) = (flat d).drop (i * 2)
  | d, 0 => by simp
  | [], i + 1 => by simp
  | x :: d, i + 1 => by rw [List.drop_succ_cons, flat_cons, flat_drop d i, show (i + 1) * 2 = i * 2 + 1 + 1 by omega, List.drop_succ_cons, List.drop_succ_cons]

set_option maxHeartbeats 4000000 in
set_option maxRecDepth 100000 in
theorem insert_mid (g off cap i base G : Nat) (d : List Ent) (x : Ent) (w : World) (h : RowF w base g off cap d) (hi : i < d.length) (hroom : d.length < cap)
    (hG : w.heap[G]? = some (.cells #[.int .u64 x.1, .int .i64 x.2] 33 (0, 0))) (hne : G ≠ g) :
    Calls Tryd.prog 34 #[.slice (some ⟨g, off, none⟩) d.length cap, .int .i64 i, .slice (some ⟨G, 0, none⟩) 1 1] w (InsF w base (.slice (some ⟨g, off, none⟩) d.length cap) (d.take i ++ x :: d.drop i)) := by
  obtain ⟨inf, hinf, _, hsz, _⟩ := infoE
  obtain ⟨P, R, hg, hP, hR, ht⟩ := h.mem
  have hc := h.big
  unfold maxLen at hc
  obtain ⟨X1, hX1⟩ : ∃ X, flat (d.drop i) = X := ⟨_, rfl⟩
  obtain ⟨Y, hY⟩ : ∃ Y, flat [x] = Y := ⟨_, rfl⟩
  have l1 : X1.length = (d.length - i) * 2 := by rw [← hX1, flat_len, List.length_drop]
  have lY : Y.length = 2 := by rw [← hY]; rfl
  have hcp1 : ∀ ty dc sc, (Builtin.copy_ #[28, 28] ty #[.slice (some ⟨g, off + (i + 1) * 2, none⟩) (d.length + 1 - (i + 1)) dc, .slice (some ⟨g, off + i * 2, none⟩) (d.length + 1 - i) sc]).run Tryd.prog w.drew = .ok (goInt ((d.length - i : Nat) : Int)) (w.drew.setRow g (P ++ splice R ((i + 1) * 2) X1).toArray) := fun ty dc sc => by
    have e : Nat.min (d.length + 1 - i) (d.length + 1 - (i + 1)) = d.length - i := by show min _ _ = _; omega
    have := run_copy2 w.drew ty g (off + (i + 1) * 2) (d.length + 1 - (i + 1)) dc ⟨g, off + i * 2, none⟩ (d.length + 1 - i) sc _ X1 hg (by rw [e, l1]) (fun j v hj => by
      have hjl := (List.getElem?_eq_some_iff.1 hj).1
      rw [Addr.add_lit]
      show w.cell? _ = _
      rw [Nat.add_assoc, h.cell (i * 2 + j) (by omega), ← hj, ← hX1, flat_drop, List.getElem?_drop]) (by rw [l1]; simp; omega) (by rw [← hX1]; exact flat_one _)
    rw [e, ← hP] at this
    rw [← hP, ← splice_pre]
    exact this
  have m1 : (splice R ((i + 1) * 2) X1).length = cap * 2 := by rw [length_splice _ _ _ (by rw [l1, hR]; omega), hR]
  obtain ⟨w1, hw1⟩ : ∃ w1, w.drew.setRow g (P ++ splice R ((i + 1) * 2) X1).toArray = w1 := ⟨_, rfl⟩
  have gw1 : w.grownBy w1 (some g) := by rw [← hw1]; exact grown_set _ (grown_below _ ((Below.refl _ _).drew)) (.inl rfl)
  have g1 : w1.heap[g]? = some (.cells (P ++ splice R ((i + 1) * 2) X1).toArray 33 (0, 0)) := by rw [← hw1]; exact setRow_heap w.drew _ _ _ _ _ hg
  have hG1 : w1.heap[G]? = some (.cells #[.int .u64 x.1, .int .i64 x.2] 33 (0, 0)) := by rw [← hw1]; exact (setRow_other w.drew g G _ hne).trans hG
  simp only [hw1] at hcp1
  have hcp2 : ∀ ty dc, (Builtin.copy_ #[28, 28] ty #[.slice (some ⟨g, off + i * 2, none⟩) (d.length + 1 - i) dc, .slice (some ⟨G, 0, none⟩) 1 1]).run Tryd.prog w1 = .ok (goInt 1) (w1.setRow g (P ++ splice (splice R ((i + 1) * 2) X1) (i * 2) Y).toArray) := fun ty dc => by
    have e : Nat.min 1 (d.length + 1 - i) = 1 := by show min _ _ = _; omega
    have := run_copy2 w1 ty g (off + i * 2) (d.length + 1 - i) dc ⟨G, 0, none⟩ 1 1 _ Y g1 (by rw [e, lY]) (fun j v hj => by
      have : j = 0 ∨ j = 1 := by have := (List.getElem?_eq_some_iff.1 hj).1; omega
      rw [Addr.add_lit, Nat.zero_add, cell_of_row _ _ _ _ _ _ hG1, ← hj, ← hY]
      rcases this with rfl | rfl <;> rfl) (by rw [lY]; simp; omega) (by rw [← hY]; exact flat_one _)
    rw [e, ← hP] at this
    rw [← hP, ← splice_pre]
    exact this
  obtain ⟨w2, hw2⟩ : ∃ w2, w1.setRow g (P ++ splice (splice R ((i + 1) * 2) X1) (i * 2) Y).toArray = w2 := ⟨_, rfl⟩
  have gw2 : w.grownBy w2 (some g) := by rw [← hw2]; exact grown_set _ gw1 (.inl rfl)
  have g2 : w2.heap[g]? = some (.cells (P ++ splice (splice R ((i + 1) * 2) X1) (i * 2) Y).toArray 33 (0, 0)) := by rw [← hw2]; exact setRow_heap w1 _ _ _ _ _ g1
  simp only [hw2] at hcp2
  have hfin : RowF w2 base g off cap (d.take i ++ x :: d.drop i) := by
    have le : (d.take i ++ x :: d.drop i).length = d.length + 1 := by simp; omega
    refine ⟨h.low, h.pos, by omega, h.big, P, _, g2, hP, by rw [length_splice _ _ _ (by rw [lY, m1]; omega), m1], ?_⟩
    have e0 : R.take (i * 2) = flat (d.take i) := by rw [flat_take, ← ht, List.take_take]; congr 1; omega
    have e1 : flat (d.take i ++ x :: d.drop i) = flat (d.take i) ++ (Y ++ X1) := by rw [← hY, ← hX1, ← flat_append, ← flat_append]; rfl
    rw [le, e1, ← e0]
    show List.take _ ((splice R ((i + 1) * 2) X1).take (i * 2) ++ (Y ++ (splice R ((i + 1) * 2) X1).drop (i * 2 + Y.length))) = _
    have e2 : (splice R ((i + 1) * 2) X1).take (i * 2) = R.take (i * 2) := by
      unfold splice
      rw [List.take_append_of_le_length (by rw [List.length_take, hR]; omega), List.take_take]
      congr 1; omega
    have e3 : (splice R ((i + 1) * 2) X1).drop (i * 2 + Y.length) = X1 ++ R.drop ((i + 1) * 2 + X1.length) := by
      unfold splice
      rw [lY, show i * 2 + 2 = (i + 1) * 2 by omega, List.drop_append, List.drop_eq_nil_of_le (by rw [List.length_take]; omega), List.length_take, hR, show (i + 1) * 2 - min ((i + 1) * 2) (cap * 2) = 0 by omega]
      simp
    rw [e2, e3, ← List.append_assoc, ← List.append_assoc, List.take_append_of_le_length (by simp [lY, l1, hR]; omega), List.take_of_length_le (by simp [lY, l1, hR]; omega), List.append_assoc]
  have hlen : (d.take i ++ x :: d.drop i).length = d.length + 1 := by simp; omega
  have F : Aside (InsF w base (.slice (some ⟨g, off, none⟩) d.length cap) (d.take i ++ x :: d.drop i) (.returned (.slice (some ⟨g, off, none⟩) (d.length + 1) cap)) w2) :=
    ⟨_, rfl, .inr ⟨g, off, cap, by rw [hlen], hfin⟩, by rw [h.rowB]; exact gw2, fun k hk => .inl (by rw [h.rowB]; rw [h.rowB] at hk; exact hk)⟩
  have hsa : w.shape? G = some (33, 2) := by simp [World.shape?, hG]
  have hsb : w.shape? g = some (33, off + cap * 2) := by simp [World.shape?, hg, hP, hR]
  have hfa : w.frozen? ⟨G, 0, none⟩ = false := by simp [World.frozen?, hG]
  have hfe : w.frozen? ⟨G, 2, none⟩ = false := by simp [World.frozen?, hG]
  have hov : ∀ lb cb, (callFunc 49 #[.slice (some ⟨G, 0, none⟩) 1 1, .slice (some ⟨g, off + (i + 1) * 2, none⟩) lb cb]).run Tryd.prog w = .ok (.value (.bool false)) w := fun lb cb => by
    rw [run_callFunc_extern Tryd.func49 (by kernel_rfl) (by kernel_rfl) (by kernel_rfl) (e := Extern.SlicesOverlaps.overlaps #[28, 28] #[4]) (by kernel_rfl),
      Lib.run_overlaps_apart w 28 4 33 Tryd.underlying28 2 (fun w => by simp [sizeOf, typeInfo, hinf, hsz]) ⟨G, 0, none⟩ ⟨g, off + (i + 1) * 2, none⟩ 1 1 lb cb hne _ _ _ _ hsa hsb (by omega) hfa hfe]
    rfl
  obtain ⟨n, hn⟩ : ∃ n, d.length = n := ⟨_, rfl⟩
  rw [hn] at hcp1 hcp2 F hi hroom ⊢
  have mx := mixed
  have z1 : ¬ ((i : Int) = (n : Int)) := by omega
  have z2 : ((i : Int) == (n : Int)) = false := by simp; omega
  have z3 : (i : Int) ≤ (n : Int) := by omega
  have z4 : ¬ cap = i := by omega
  have z5 : ¬ cap = i + 1 := by omega
  have z6 : ¬ (cap : Int) < (n : Int) + 1 := by omega
  have z7 : (n : Int) + 1 ≤ (cap : Int) := by omega
  have z8 : (i : Int) ≤ (n : Int) + 1 := by omega
  have z9 : ((n : Int) + 1).toNat = n + 1 := by omega
  have z10 : ((i : Int) + 1).toNat = i + 1 := by omega
  have z11 : (0 : Int) ≤ (i : Int) + 1 := by omega
  have z12 : (0 : Int) ≤ (n : Int) + 1 := by omega
  have z13 : IntKind.i64.wrap ((i : Int) + 1) = (i : Int) + 1 := by rw [IntKind.wrap_i64]; omega
  clear h hg ht hG hX1 hY l1 lY g1 hG1 m1 hw1 g2 hw2 gw1 gw2 hfin hinf hsa hsb hfa hfe hn hlen hP hR
  go_enter Tryd.func34, Tryd.ntmps34
  go_wp2_with (simp only [hov])
  go_region_law_o (refine step_copy_run2 w.drew rfl _ _ 28 28 rfl _ _ (by simp [Act.eval, Act.put]; rfl) (by simp [Act.eval, Act.put]; rfl) (hcp1 _ _ _) ?_)
  go_wp2_with (at_builtin; refine wpList_copy_run2 w1 rfl _ _ 28 28 rfl _ _ rfl rfl (hcp2 _ _) ?_)
  go_ret
  exact F.out
end Go.Proofs.YtbopobgnmkhabaaDoor
