/- slices.IndexFunc, slices.DeleteFunc at timers, and wheel.without: one of them is taken out. -/
import Derived.Test.YtbopobgnmkhabaaDoorTmF
import Derived.Deep.LoopGhost
namespace Go.Proofs.YtbopobgnmkhabaaDoor
open Go.RowKit Go.Lib Go.Sort
set_option linter.unusedVariables false

theorem IsL.at {w : World} {a : Option Addr} {cap : Nat} {d : List Ent} (h : IsL w a cap d) {i : Nat} (hi : i < d.length) : ∃ b off, a = some ⟨b, off, none⟩ ∧ ∀ W, Grown w W → ∀ n os, (grow (W.drewN n) os).cell? ⟨b, off + i * 2, none⟩ = some (.int .u64 d[i].1) ∧ (grow (W.drewN n) os).cell? ⟨b, off + i * 2 + 1, none⟩ = some (.int .i64 d[i].2) := by
  obtain ⟨b, off, e, hb, h1, h2⟩ := h.elem i d[i] (List.getElem?_eq_getElem hi)
  refine ⟨b, off, e, fun W hW n os => ?_⟩
  have g : Grown w (grow (W.drewN n) os) := hW.trans ⟨n, os, rfl⟩
  exact ⟨(g.below.cell (p := ⟨b, off + i * 2, none⟩) hb).trans h1, (g.below.cell (p := ⟨b, off + i * 2 + 1, none⟩) hb).trans h2⟩
theorem cell_old (w : World) {b : Nat} (o : Obj) (j : Nat) (hb : b < w.heap.size) : (w.alloc o).cell? ⟨b, j, none⟩ = w.cell? ⟨b, j, none⟩ := World.cell?_of_block (w := w) (Below.heap_alloc _ _ _ hb)
/-- The first of which p says yes. -/
def FirstIs (d : List Ent) (p : Ent → Bool) (z : Int) : Prop := (z = -1 ∧ ∀ i (hi : i < d.length), p d[i] = false) ∨ ∃ k : Nat, ∃ hk : k < d.length, z = k ∧ p d[k] = true ∧ ∀ i (hi : i < k), p (d[i]'(by omega)) = false

set_option maxHeartbeats 2000000 in
set_option maxRecDepth 100000 in
theorem indexFunc_any (a : Option Addr) (cap : Nat) (d : List Ent) (g : Nat) (cb : Array Value) (p : Ent → Bool) (w : World) (h : IsL w a cap d)
    (eg : ∀ args w, (callFunc g args).run Tryd.prog w = .ok (.enter g args) w)
    (hg : ∀ (x : Ent) (W : World), Grown w W → Calls Tryd.prog g (#[.agg #[.int .u64 x.1, .int .i64 x.2]] ++ cb) W fun e w' => e = .returned (.bool (p x)) ∧ Grown W w') :
    Calls Tryd.prog 73 #[.slice a d.length cap, .func (.func g) #[] cb] w fun r w' => ∃ z : Int, r = .returned (.int .i64 z) ∧ FirstIs d p z ∧ Grown w w' := by
  have hl := h.len
  have H : Aside (IsL w a cap d) := h
  have HG : Aside (∀ (x : Ent) (W : World), Grown w W → Calls Tryd.prog g (#[.agg #[.int .u64 x.1, .int .i64 x.2]] ++ cb) W fun e w' => e = .returned (.bool (p x)) ∧ Grown W w') := hg
  clear h hg
  go_enter Tryd.func73, Tryd.ntmps73
  go_wp2
  go_loopg [8] d.length (fun kx s8 wr => ∃ k : Nat, s8 = .int .i64 k ∧ k ≤ d.length ∧ d.length - k ≤ kx ∧ Aside (Grown w wr) ∧ Aside (∀ i (hi : i < d.length), i < k → p d[i] = false))
  case atStart => exact ⟨0, rfl, by omega, by omega, Grown.refl w, (fun i _ h => absurd h (by omega) : ∀ i (hi : i < d.length), i < 0 → p d[i] = false)⟩
  case round =>
    obtain ⟨k, rfl, hk, hkx, G, A⟩ := hrel
    by_cases hlt : k < d.length
    · have hz : (k : Int) < (d.length : Int) := by omega
      obtain ⟨b, off, ha, hc⟩ := H.out.at hlt
      subst ha
      have c1 := (hc wr G.out 0 #[]).1
      have c2 := (hc wr G.out 0 #[]).2
      simp only [grow_empty, show wr.drewN 0 = wr from rfl] at c1 c2
      clear hc
      obtain ⟨x, hx⟩ : ∃ x, d[k] = x := ⟨_, rfl⟩
      rw [hx] at c1 c2
      have HX : Hid _ := hx
      clear hx
      obtain ⟨B, hB⟩ : ∃ B, p x = B := ⟨_, rfl⟩
      have HB : Hid _ := hB
      have pc := HG.out x wr G.out
      rw [hB] at pc
      clear hB
      go_wp2_with fail
      refine pc.mono ?_
      rintro r w1 ⟨rfl, g1⟩
      have G2 : Aside (Grown w w1) := G.out.trans g1
      clear g1 G c1 c2 pc
      cases B with
      | true =>
        go_wp2
        go_ret
        refine ⟨k, rfl, .inr ⟨k, hlt, rfl, ?_, fun i hi => A.out i (by omega) hi⟩, G2.out⟩
        rw [HX.out]; exact HB.out
      | false =>
        go_wp2
        go_roundg (d.length - (k + 1))
        case measure => omega
        case rel =>
          refine ⟨k + 1, by go_num, by omega, Nat.le_refl _, G2, (fun i hi hik => ?_ : ∀ i (hi : i < d.length), i < k + 1 → p d[i] = false)⟩
          by_cases e : i = k
          · subst e; rw [HX.out]; exact HB.out
          · exact A.out i hi (by omega)
    · have hz : ¬ (k : Int) < (d.length : Int) := by omega
      go_wp2
      go_ret
      exact ⟨-1, rfl, .inl ⟨rfl, fun i hi => A.out i hi (by omega)⟩, G.out⟩


set_option maxHeartbeats 400000 in
theorem wo1_any (S : Nat) (t x : Ent) (W : World) (hS : S < W.heap.size) (c0 : W.cell? ⟨S, 0, none⟩ = some (.int .u64 t.1)) (c1 : W.cell? ⟨S, 1, none⟩ = some (.int .i64 t.2)) :
    Calls Tryd.prog 65 #[.agg #[.int .u64 x.1, .int .i64 x.2], .pointer (some ⟨S, 0, none⟩)] W fun e w' => e = .returned (.bool (decide (x = t))) ∧ Grown W w' := by
  have e : decide (x = t) = (x.1 == t.1 && x.2 == t.2) := by
    obtain ⟨x1, x2⟩ := x
    obtain ⟨t1, t2⟩ := t
    simp only [Prod.mk.injEq]
    by_cases h1 : x1 = t1 <;> by_cases h2 : x2 = t2 <;> simp [h1, h2]
  rw [e]
  have d0 : (W.alloc (.cells #[.int .u64 x.1, .int .i64 x.2] 33)).cell? ⟨S, 0, none⟩ = some (.int .u64 t.1) := (cell_old W _ 0 hS).trans c0
  have d1 : (W.alloc (.cells #[.int .u64 x.1, .int .i64 x.2] 33)).cell? ⟨S, 1, none⟩ = some (.int .i64 t.2) := (cell_old W _ 1 hS).trans c1
  have hS2 : ¬ S = W.heap.size := by omega
  go_enter Tryd.func65, Tryd.ntmps65
  go_wp2
  all_goals go_ret
  all_goals refine ⟨?_, (Grown.refl W).alloc _⟩
  all_goals simp_all

/-- One element set. -/
theorem flat_set (d : List Ent) (i : Nat) (x : Ent) : flat (d.set i x) = ((flat d).set (i * 2) (.int .u64 x.1)).set (i * 2 + 1) (.int .i64 x.2) := by
  induction d generalizing i with
  | nil => simp
  | cons y d ih =>
    cases i with
    | zero => rfl
    | succ i =>
      rw [List.set_cons_succ, flat_cons, ih, flat_cons, show (i + 1) * 2 = i * 2 + 1 + 1 by omega, List.set_cons_succ, List.set_cons_succ, List.set_cons_succ, List.set_cons_succ]
theorem RowF.set {w : World} {base g off cap : Nat} {d : List Ent} (h : RowF w base g off cap d) (i : Nat) (x : Ent) :
    RowF ((w.setCell ⟨g, off + i * 2, none⟩ (.int .u64 x.1)).setCell ⟨g, off + i * 2 + 1, none⟩ (.int .i64 x.2)) base g off cap (d.set i x) ∧ w.grownBy ((w.setCell ⟨g, off + i * 2, none⟩ (.int .u64 x.1)).setCell ⟨g, off + i * 2 + 1, none⟩ (.int .i64 x.2)) (some g) := by
  obtain ⟨P, R, m1, m2, m3, m4⟩ := h.mem
  have k1 := heap_setCell_same w g (off + i * 2) _ 33 (.int .u64 x.1) m1
  have k2 := heap_setCell_same _ g (off + i * 2 + 1) _ 33 (.int .i64 x.2) k1
  refine ⟨⟨h.low, h.pos, by rw [List.length_set]; exact h.le, h.big, P, (R.set (i * 2) (.int .u64 x.1)).set (i * 2 + 1) (.int .i64 x.2), ?_, m2, by simpa using m3, ?_⟩, rfl, rfl, rfl, by simp, fun k _ hk => ?_⟩
  · rw [k2]
    congr 2
    apply Array.ext'
    rw [Array.toList_setIfInBounds, Array.toList_setIfInBounds]
    show ((P ++ R).set _ _).set _ _ = _
    rw [List.set_append_right _ _ (by omega), List.set_append_right _ _ (by omega), show off + i * 2 - P.length = i * 2 by omega, show off + i * 2 + 1 - P.length = i * 2 + 1 by omega]
  · rw [List.length_set, flat_set, ← m4, List.take_set, List.take_set]
  · rw [heap_setCell_other _ _ k _ (fun e => hk (by rw [e])), heap_setCell_other _ _ k _ (fun e => hk (by rw [e]))]
theorem run_clear2 (w : World) (ty : TypeId) (g o c : Nat) (cur : Array Value) (hg : w.heap[g]? = some (.cells cur 33 (0, 0))) (hfit : o + 2 ≤ cur.size) :
    (Builtin.clear_ #[28] ty #[.slice (some ⟨g, o, none⟩) 1 c]).run Tryd.prog w = .ok (.tuple #[]) (w.setRow g (splice cur.toList o [.int .u64 0, .int .i64 0]).toArray) := by
  have hst := run_storeCells_at Tryd.prog g o 33 [.int .u64 0, .int .i64 0] 0 cur w hg (by simpa using hfit) (by intro v hv; simp at hv; rcases hv with rfl | rfl <;> rfl)
  have hz : ∀ w, (zeroValue 33).run Tryd.prog w = .ok (.agg #[.int .u64 0, .int .i64 0]) w := fun w => by kernel_rfl
  have hc : (Builtin.zeroCells (Value.agg #[.int .u64 0, .int .i64 0]).cells 1).toList = [.int .u64 0, .int .i64 0] := by first | kernel_rfl | simp [Builtin.zeroCells, Value.cells, Array.range]
  simp only [Nat.add_zero, List.append_assoc] at hst
  simp [Builtin.clear_, run_underlying Tryd.underlying28, hz, hc, hst, splice]
/-- clear of the last one: the others stay. -/
theorem RowF.clear {w : World} {base g off cap n : Nat} {d : List Ent} (h : RowF w base g off cap d) (hn : d.length = n + 1) (ty : TypeId) (c : Nat) :
    ∃ w', (Builtin.clear_ #[28] ty #[.slice (some ⟨g, off + n * 2, none⟩) 1 c]).run Tryd.prog w = .ok (.tuple #[]) w' ∧ RowF w' base g off cap (d.take n) ∧ w.grownBy w' (some g) := by
  obtain ⟨P, R, m1, m2, m3, m4⟩ := h.mem
  have hle := h.le
  refine ⟨_, run_clear2 w ty g (off + n * 2) c _ m1 (by simp; omega), ⟨h.low, h.pos, by simp; omega, h.big, P, splice R (n * 2) [.int .u64 0, .int .i64 0], ?_, m2, ?_, ?_⟩, grown_set _ (grown_refl _ _) (.inl rfl)⟩
  · rw [setRow_heap _ _ _ _ _ _ m1]
    show some (Obj.cells (splice (P ++ R) _ _).toArray _ _) = _
    rw [← m2, splice_pre]
  · rw [length_splice _ _ _ (by simp; omega), m3]
  · have e : (d.take n).length = n := by simp; omega
    rw [e]
    unfold splice
    rw [List.take_append_of_le_length (by simp; omega), List.take_take, Nat.min_self]
    have : flat d = flat (d.take n) ++ flat (d.drop n) := by rw [← flat_append, List.take_append_drop]
    rw [this] at m4
    have h2 := congrArg (List.take (n * 2)) m4
    rw [List.take_take, show min (n * 2) (d.length * 2) = n * 2 by omega, List.take_append_of_le_length (by rw [flat_len, e]; omega)] at h2
    rw [h2, List.take_of_length_le (by rw [flat_len, e]; omega)]

set_option maxHeartbeats 4000000 in
set_option maxRecDepth 100000 in
theorem delete_any (g off cap base K k : Nat) (d : List Ent) (t : Ent) (w : World) (h : RowF w base g off cap d) (hk : k < d.length) (hkt : d[k] = t) (hu : ∀ i (hi : i < d.length), d[i] = t → i = k)
    (hK : K < w.heap.size) (hne : K ≠ g) (c0 : w.cell? ⟨K, 0, none⟩ = some (.int .u64 t.1)) (c1 : w.cell? ⟨K, 1, none⟩ = some (.int .i64 t.2)) :
    Calls Tryd.prog 64 #[.slice (some ⟨g, off, none⟩) d.length cap, .func (.func 65) #[] #[.pointer (some ⟨K, 0, none⟩)]] w fun r w' => r = .returned (.slice (some ⟨g, off, none⟩) (d.length - 1) cap) ∧ RowF w' base g off cap (d.eraseIdx k) ∧ w.grownBy w' (some g) := by
  have eg := enters_of Tryd.func65 (by kernel_rfl) rfl
  have ix := indexFunc_any (some ⟨g, off, none⟩) cap d 65 #[.pointer (some ⟨K, 0, none⟩)] (fun x => decide (x = t)) w h.isL eg
    (fun x W hW => wo1_any K t x W (by have := hW.below.size; omega) ((hW.below.cell (p := ⟨K, 0, none⟩) hK).trans c0) ((hW.below.cell (p := ⟨K, 1, none⟩) hK).trans c1))
  have H : Aside (RowF w base g off cap d) := h
  have hle := h.le
  have hbig := h.big
  unfold maxLen at hbig
  obtain ⟨n, hn⟩ : ∃ n, d.length = n + 1 := ⟨d.length - 1, by omega⟩
  have HKT : Aside (d[k]? = some t) := by show d[k]? = some t; rw [List.getElem?_eq_getElem hk, hkt]
  have HU : Aside (∀ i (hi : i < d.length), d[i] = t → i = k) := hu
  have C0 : Aside (w.cell? ⟨K, 0, none⟩ = some (.int .u64 t.1) ∧ w.cell? ⟨K, 1, none⟩ = some (.int .i64 t.2)) := ⟨c0, c1⟩
  have wo := fun (x : Ent) (W : World) (hW : K < W.heap.size) (a : W.cell? ⟨K, 0, none⟩ = some (.int .u64 t.1)) (b : W.cell? ⟨K, 1, none⟩ = some (.int .i64 t.2)) => wo1_any K t x W hW a b
  have WO : Aside (∀ (x : Ent) (W : World), K < W.heap.size → W.cell? ⟨K, 0, none⟩ = some (.int .u64 t.1) → W.cell? ⟨K, 1, none⟩ = some (.int .i64 t.2) → Calls Tryd.prog 65 #[.agg #[.int .u64 x.1, .int .i64 x.2], .pointer (some ⟨K, 0, none⟩)] W fun e w' => e = .returned (.bool (decide (x = t))) ∧ Grown W w') := wo
  have n0 : ((d.length : Nat) : Int) = (n : Int) + 1 := by omega
  have HN : Hid (d.length = n + 1) := hn
  have hkn : k ≤ n := by omega
  clear h hkt hu c0 c1 wo hk
  rw [hn] at ix ⊢
  have hcn : n + 1 ≤ cap := by omega
  obtain ⟨N, hN⟩ : ∃ N, n + 1 = N := ⟨_, rfl⟩
  have q1 : (n : Int) ≤ (N : Int) := by omega
  have q3 : N - n = 1 := by omega
  have q4 : ¬ cap = n := by omega
  have q5 : (N : Int) ≤ (cap : Int) := by omega
  have q6 : (n : Int) ≤ (cap : Int) := by omega
  have q7 : n ≤ cap := by omega
  have HNn : Hid (n + 1 = N) := hN
  rw [hN] at ix ⊢
  simp only [show N - 1 = n by omega]
  clear n0 hn hN hle hcn
  go_enter Tryd.func64, Tryd.ntmps64
  go_wp2_with fail
  refine ix.mono ?_
  rintro r w1 ⟨z, rfl, fi, g1⟩
  have G1 : Aside (w.grownBy w1 (some g)) := grown_of_grown _ g1
  have hz : z = (k : Int) := by
    rcases fi with ⟨_, hno⟩ | ⟨k', hk', rfl, hyes, _⟩
    · have hk2 : k < d.length := by have := HN.out; omega
      have h1 := hno k hk2
      have h2 := HKT.out
      rw [List.getElem?_eq_getElem hk2] at h2
      injection h2 with h2
      simp [h2] at h1
    · rw [HU.out k' hk' (by simpa using hyes)]
  subst hz
  have k0 : ¬ (k : Int) = -1 := by omega
  have k1 : ((k : Int) == -1) = false := by simp
  have R1 : Aside (RowF w1 base g off cap d) := H.out.of_block (g1.below.block g H.out.lt)
  have kn2 : (k : Int) + 1 ≤ (N : Int) := by have := HNn.out; omega
  clear fi g1 ix
  go_wp2
  go_loopg [5, 6, 7] N (fun kx s5 s6 s7 wr => ∃ (I J : Nat) (D : List Ent), s5 = .int .i64 I ∧ s6 = .int .i64 J ∧ k ≤ I ∧ J ≤ N ∧ Hid (J = I + 1) ∧ N - J ≤ kx ∧ Aside (RowF wr base g off cap D) ∧ Aside (D.length = d.length ∧ D.take I = (d.eraseIdx k).take I ∧ D.drop J = d.drop J) ∧ Aside (w.grownBy wr (some g)))
  case atStart =>
    refine ⟨k, k + 1, d, rfl, by go_num, Nat.le_refl _, by omega, (show k + 1 = k + 1 from rfl), by omega, R1, ⟨rfl, ?_, rfl⟩, G1⟩
    rw [List.eraseIdx_eq_take_drop_succ, List.take_append_of_le_length (by simp; have := HN.out; omega), List.take_take, Nat.min_self]
  case round =>
    obtain ⟨I, J, D, rfl, rfl, hI, hJ, HJ, hkx, R, A, G⟩ := hrel
    have hs : w.heap.size ≤ wr.heap.size := G.out.size
    by_cases hlt : J < N
    · have hz : (J : Int) < (N : Int) := by omega
      have hJd : J < d.length := by have := HN.out; have := HNn.out; omega
      have hJD : D[J]? = some d[J] := by
        have h2 := congrArg (fun l => l[0]?) A.out.2.2
        simp only [List.getElem?_drop, Nat.add_zero] at h2
        rw [h2, List.getElem?_eq_getElem hJd]
      obtain ⟨y1, y2⟩ := R.out.at J _ hJD
      obtain ⟨x, hx⟩ : ∃ x, d[J] = x := ⟨_, rfl⟩
      rw [hx] at y1 y2
      have hxt : decide (x = t) = false := by
        rw [← hx]
        refine decide_eq_false fun e => ?_
        have := HU.out J hJd e
        have := HJ.out
        omega
      have HX : Hid (d[J] = x) := hx
      have hKr : K < wr.heap.size := by omega
      have kc0 : wr.cell? ⟨K, 0, none⟩ = some (.int .u64 t.1) := G.out.cell C0.out.1 (fun e => by injection e with e; exact hne e)
      have kc1 : wr.cell? ⟨K, 1, none⟩ = some (.int .i64 t.2) := G.out.cell C0.out.2 (fun e => by injection e with e; exact hne e)
      have wc := WO.out x (wr.alloc (.cells #[.int .u64 x.1, .int .i64 x.2] 33)) (by simp; omega) ((cell_old wr _ 0 hKr).trans kc0) ((cell_old wr _ 1 hKr).trans kc1)
      rw [hxt] at wc
      clear hxt hx hJD
      go_wp2_with fail
      refine wc.mono ?_
      rintro r w2 ⟨rfl, g2⟩
      have G2 : Grown wr w2 := ((Grown.refl wr).alloc _).trans g2
      have hb2 := G2.below
      obtain ⟨S, hS⟩ : ∃ S, wr.heap.size = S := ⟨_, rfl⟩
      have b0 : w2.cell? ⟨S, 0, none⟩ = some (.int .u64 x.1) := (g2.cells S 0 (by simp [hS])).trans (by rw [← hS]; simp [go_sem])
      have b1 : w2.cell? ⟨S, 1, none⟩ = some (.int .i64 x.2) := (g2.cells S 1 (by simp [hS])).trans (by rw [← hS]; simp [go_sem])
      have R2 : RowF w2 base g off cap D := R.out.of_block (hb2.block g R.out.lt)
      have hID : I < D.length := by have := HJ.out; have := A.out.1; omega
      obtain ⟨o1, o2⟩ := R2.at I _ (List.getElem?_eq_getElem hID)
      have f1 : w2.frozen? ⟨g, off + I * 2, none⟩ = false := R2.frozen _
      have f2 : w2.frozen? ⟨g, off + I * 2 + 1, none⟩ = false := R2.frozen _
      have hIN : (I : Int) < (N : Int) := by have := HJ.out; omega
      obtain ⟨R3, G3⟩ := R2.set I x
      have R3' : Aside _ := R3
      have G4 : Aside (w.grownBy ((w2.setCell ⟨g, off + I * 2, none⟩ (.int .u64 x.1)).setCell ⟨g, off + I * 2 + 1, none⟩ (.int .i64 x.2)) (some g)) := grown_trans (grown_trans G.out (grown_of_grown _ G2)) G3
      have A3 : Aside ((D.set I x).length = d.length ∧ (D.set I x).take (I + 1) = (d.eraseIdx k).take (I + 1) ∧ (D.set I x).drop (J + 1) = d.drop (J + 1)) := by
        refine ⟨by rw [List.length_set]; exact A.out.1, ?_, ?_⟩
        · have e1 : (d.eraseIdx k)[I]? = some x := by
            rw [List.getElem?_eraseIdx, if_neg (by omega)]
            have h3 := HJ.out
            rw [← h3, List.getElem?_eq_getElem hJd, HX.out]
          rw [List.take_add_one (l := D.set I x), List.take_add_one (l := d.eraseIdx k), List.getElem?_set_self (by omega), e1, List.take_set_of_le (Nat.le_refl _), A.out.2.1]
        · rw [List.drop_set_of_lt (by have := HJ.out; omega)]
          have h4 := congrArg (List.drop 1) A.out.2.2
          rw [List.drop_drop, List.drop_drop] at h4
          exact h4
      clear R2 R3 G3 hb2 g2 G2 y1 y2 R G kc0 kc1 wc
      go_wp2
      go_roundg (N - (J + 1))
      case measure => omega
      case rel => exact ⟨I + 1, J + 1, D.set I x, by go_num, by go_num, by omega, by omega, (show J + 1 = I + 1 + 1 by have := HJ.out; omega), Nat.le_refl _, R3', A3, G4⟩
    · have hz : ¬ (J : Int) < (N : Int) := by omega
      obtain rfl : I = n := by have := HJ.out; have := HNn.out; omega
      have AA := A.out
      have Dn : D.length = I + 1 := by rw [AA.1]; exact HN.out
      have TD : D.take I = d.eraseIdx k := by
        rw [AA.2.1, List.take_of_length_le]
        rw [List.length_eraseIdx, if_pos (by have := HN.out; omega), HN.out]
        omega
      obtain ⟨w3, hr, R3, G3⟩ := R.out.clear Dn 0 (cap - I)
      rw [TD] at R3
      have hr' : ∀ ty, (Builtin.clear_ #[28] ty #[.slice (some ⟨g, off + I * 2, none⟩) 1 (cap - I)]).run Tryd.prog wr = .ok (.tuple #[]) w3 := fun ty => hr
      have F : Aside (RowF w3 base g off cap (d.eraseIdx k) ∧ w.grownBy w3 (some g)) := ⟨R3, grown_trans G.out G3⟩
      clear R3 G3 TD Dn AA A R G hr HJ
      go_wp2
      go_ret
      exact ⟨rfl, F.out⟩

theorem erase_idx : ∀ (d : List Ent) (k : Nat) (t : Ent), d[k]? = some t → (∀ i, i < k → d[i]? ≠ some t) → d.eraseIdx k = d.erase t
  | [], k, t, h, _ => by simp at h
  | x :: d, 0, t, h, _ => by simp at h; subst h; simp
  | x :: d, k + 1, t, h, h2 => by
    have h0 := h2 0 (by omega)
    simp only [List.getElem?_cons_zero, ne_eq, Option.some.injEq] at h0
    rw [List.eraseIdx_cons_succ, List.erase_cons_tail (by simpa using h0), erase_idx d k t (by simpa using h) (fun i hi => by simpa using h2 (i + 1) (by omega))]
/-- A list without one of its elements, each of which it has once. -/
theorem erase_at {d : List Ent} (hd : d.Nodup) {t : Ent} (ht : t ∈ d) : ∃ k, ∃ hk : k < d.length, d[k] = t ∧ (∀ i (hi : i < d.length), d[i] = t → i = k) ∧ d.eraseIdx k = d.erase t := by
  obtain ⟨k, hk, rfl⟩ := List.getElem_of_mem ht
  have inj : ∀ i (hi : i < d.length), d[i] = d[k] → i = k := fun i hi e => by
    have hp := List.pairwise_iff_getElem.1 hd
    rcases Nat.lt_trichotomy i k with h | h | h
    · exact absurd e (hp i k hi hk h)
    · exact h
    · exact absurd e.symm (hp k i hk hi h)
  refine ⟨k, hk, rfl, inj, erase_idx d k _ (List.getElem?_eq_getElem hk) fun i hi e => ?_⟩
  rw [List.getElem?_eq_getElem (by omega)] at e
  injection e with e
  have := inj i (by omega) e
  omega
set_option maxHeartbeats 400000 in
theorem without_any (v : Value) (base : Nat) (d : List Ent) (t : Ent) (w : World) (h : OwnF w base v d) (hd : d.Nodup) (ht : t ∈ d) :
    Calls Tryd.prog 44 #[v, .agg #[.int .u64 t.1, .int .i64 t.2]] w fun r w' => ∃ v', r = .returned v' ∧ OwnF w' base v' (d.erase t) ∧ rowB v' = rowB v ∧ w.grownBy w' (rowB v) := by
  obtain ⟨k, hk, hkt, hu, he⟩ := erase_at hd ht
  rcases h with ⟨rfl, _⟩ | ⟨g, off, cap, rfl, hr⟩
  · cases ht
  have hb : Below w.heap.size w (w.alloc (.cells #[.int .u64 t.1, .int .i64 t.2] 33)) := (Below.refl _ _).alloc (Nat.le_refl _) _
  have del := delete_any g off cap base w.heap.size k d t (w.alloc (.cells #[.int .u64 t.1, .int .i64 t.2] 33)) (hr.of_block (hb.block g hr.lt)) hk hkt hu (by simp) (by have := hr.lt; omega) (by simp [go_sem]) (by simp [go_sem])
  have HR : Aside (RowF w base g off cap d) := hr
  have hl : (d.erase t).length = d.length - 1 := List.length_erase_of_mem ht
  rw [hr.rowB]
  have hmf : ∀ (fn : Fn) (first cap : Array Value) (w : World), (Instr.makeFunc fn first cap).run Tryd.prog w = .ok (.func fn first cap) w := fun _ _ _ _ => rfl
  rw [he] at del
  clear hr hk hkt hu he hd ht
  go_enter Tryd.func44, Tryd.ntmps44
  go_wp2_with fail
  refine del.mono ?_
  rintro r w1 ⟨rfl, R1, g1⟩
  have F : Aside (OwnF w1 base (.slice (some ⟨g, off, none⟩) (d.length - 1) cap) (d.erase t) ∧ rowB (.slice (some ⟨g, off, none⟩) (d.length - 1) cap) = some g ∧ w.grownBy w1 (some g)) :=
    ⟨.inr ⟨g, off, cap, by rw [hl], R1⟩, R1.rowB _, grown_trans (grown_below _ hb) g1⟩
  clear R1 g1 del
  go_wp2
  go_ret
  exact ⟨_, rfl, F.out⟩
end Go.Proofs.YtbopobgnmkhabaaDoor
