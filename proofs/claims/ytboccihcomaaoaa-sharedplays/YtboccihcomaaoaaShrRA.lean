/- The document's Shared: Add. -/
import Derived.Deep.QuietTactic
import Derived.BigQuiet
import Derived.Test.YtboccihcomaaoaaShrT
import Derived.Test.YtboccihcomaaoaaShrTb
import Derived.Test.YtboccihcomaaoaaShrBl
namespace Go.Proofs.Ytboccihcomaaoaa
open Go.RowKit Go.Lib Go.Sort
set_option linter.unusedVariables false

/-- What the document's Add leaves. -/
def RAddIs (w : World) (S v : Nat) (ls : List (List Ent)) (l : List Ent) (r : Ending) (w' : World) : Prop := r = .returned (.tuple #[]) ∧ RShr w' S (if l.length = 0 then v else v + 1) (addS ls l) ∧ w.grownBy w' (some (S + 1))
theorem RefS.box {w w' : World} {S n cap R : Nat} {a : Option Addr} {bs : List Bk} (h : RefS w S a n cap bs) (hg : w.grownBy w' (some R)) (ne : ∀ g off, a = some ⟨g, off, none⟩ → n ≠ 0 → g ≠ R) (hl : ∀ b ∈ bs, Lst w' S b.p b.q b.d) : RefS w' S a n cap bs :=
  ⟨h.len, h.fit, h.big, fun i b hb => by
    obtain ⟨g, off, cs, e, h1, h2⟩ := h.elem i b hb
    have hi := (List.getElem?_eq_some_iff.1 hb).1
    have := h.len
    exact ⟨g, off, cs, e, (hg.block g (lt_of_block h1) (fun c => by injection c with c; exact ne g off e (by omega) c)).trans h1, h2⟩, hl⟩
/-- What holds in the first loop. -/
structure AddI (w : World) (S R : Nat) (T : List (List Ent)) (Z : Nat) (bs0 : List Bk) (r : Option Addr) (m t : Nat) (cs : List Bk) (d : List Ent) (p : Option Addr) (q : Nat) (wr : World) : Prop where
  ref : RefS wr S r m t cs
  sub : ∀ b ∈ cs, b ∈ bs0
  box : wr.heap[R]? = some (.cells #[.int .i64 (lv d), .slice p d.length q] 79 (0, 0))
  own : OwnE wr w.heap.size (.slice p d.length q) d
  ne : ∀ g off, r = some ⟨g, off, none⟩ → m ≠ 0 → g ≠ R
  tgt : laidS (cs.map Bk.d) d = T
  sum : (cs.map Bk.d).flatten.length + d.length = Z
  low : Below w.heap.size w wr
theorem AddI.on {w : World} {S R : Nat} {T : List (List Ent)} {Z m t : Nat} {bs0 : List Bk} {r : Option Addr} {cs : List Bk} {d : List Ent} {p : Option Addr} {q : Nat} {wr v : World} (h : AddI w S R T Z bs0 r m t cs d p q wr) (hv : Below wr.heap.size wr v) : AddI w S R T Z bs0 r m t cs d p q v :=
  ⟨h.ref.below hv, h.sub, (hv.block R (lt_of_block h.box)).trans h.box, h.own.below hv, h.ne, h.tgt, h.sum, h.low.trans (hv.mono h.low.size)⟩
theorem find_at {cs : List Bk} {m i : Nat} (hi : i < cs.length) (he : lv cs[i].d = m) (hb : ∀ j (hj : j < cs.length), j < i → lv cs[j].d ≠ m) : (cs.map Bk.d).findIdx (ofLv m) = i := by
  have hl : i < (cs.map Bk.d).length := by simpa using hi
  have l1 : (cs.map Bk.d).findIdx (ofLv m) ≤ i := by
    apply Nat.le_of_not_lt
    intro c
    have := List.not_of_lt_findIdx c
    simp [ofLv, he] at this
  have l2 : ¬ (cs.map Bk.d).findIdx (ofLv m) < i := by
    intro c
    have h1 := List.findIdx_getElem (xs := cs.map Bk.d) (p := ofLv m) (w := by omega)
    simp only [List.getElem_map, ofLv, decide_eq_true_eq] at h1
    exact hb _ (by omega) c h1
  omega
theorem find_none {cs : List Bk} {m : Nat} (hb : ∀ j (hj : j < cs.length), lv cs[j].d ≠ m) : (cs.map Bk.d).findIdx (ofLv m) = (cs.map Bk.d).length := by
  refine List.findIdx_eq_length.2 (fun x hx => ?_)
  obtain ⟨j, hj, rfl⟩ := List.getElem_of_mem hx
  simp only [List.length_map] at hj
  simp [ofLv, hb j hj]
theorem find_low {cs : List Bk} {m k : Nat} (hk : k ≤ cs.length) (h1 : ∀ h : k < cs.length, lv cs[k].d < m) (hb : ∀ j (hj : j < cs.length), j < k → ¬ lv cs[j].d < m) : (cs.map Bk.d).findIdx (belowLv m) = k := by
  have hle := List.findIdx_le_length (xs := cs.map Bk.d) (p := belowLv m)
  rw [List.length_map] at hle
  have l2 : ¬ (cs.map Bk.d).findIdx (belowLv m) < k := by
    intro c
    have h2 := List.findIdx_getElem (xs := cs.map Bk.d) (p := belowLv m) (w := by rw [List.length_map]; omega)
    simp only [List.getElem_map, belowLv, decide_eq_true_eq] at h2
    exact hb _ (by omega) c h2
  have l1 : (cs.map Bk.d).findIdx (belowLv m) ≤ k := by
    apply Nat.le_of_not_lt
    intro c
    have hkl : k < cs.length := by omega
    have := List.not_of_lt_findIdx c
    simp [belowLv, h1 hkl] at this
  omega
theorem meas_step {m n0 i : Nat} (hm : m ≤ n0) (hi : i < m) : (m - 1) * (n0 + 1) + (m - 1 - 0) < m * (n0 + 1) + (m - i) := by
  obtain ⟨k, rfl⟩ : ∃ k, m = k + 1 := ⟨m - 1, by omega⟩
  have := Nat.add_mul k 1 (n0 + 1)
  simp only [Nat.add_sub_cancel, Nat.sub_zero]
  omega
theorem add_step {w wl z : World} {S R : Nat} {T : List (List Ent)} {Z m t n0 cap0 i k pc ME : Nat} {bs0 : List Bk} {r a0 pa : Option Addr} {cs : List Bk} {d E : List Ent} {p : Option Addr} {q : Nat} (HR : RefS w S a0 n0 cap0 bs0) (J : AddI w S R T Z bs0 r m t cs d p q wl) (hi : i < cs.length) (e : (cs.map Bk.d).findIdx (ofLv (lv d)) = i) (WR : w.heap.size ≤ R) (hE : sortE (cs[i].d ++ d) = E) (bz : Below wl.heap.size wl z) (oz : OwnE z wl.heap.size (.slice pa k pc) E) (hk : E.length = k) (hM : lv E = ME) :
    ∃ ws, (z.setCell ⟨R, 0, none⟩ (.int .i64 ME)).setCell ⟨R, 1, none⟩ (.slice pa k pc) = ws ∧ RefS ws S r m t cs ∧ (∀ z2 r' t', Below ws.heap.size ws z2 → OwnZ 79 z2 (ws.heap.size + 1) (.slice r' (m - 1) t') (m - 1) (flatB (cs.take i ++ cs.drop (i + 1))) → m - 1 ≤ t' → t' ≤ maxLen → AddI w S R T Z bs0 r' (m - 1) t' (cs.take i ++ cs.drop (i + 1)) E pa pc z2) := by
  have zB := (bz.block R (lt_of_block J.box)).trans J.box
  have hRl : R < wl.heap.size := lt_of_block J.box
  have wsB := ent_set zB (.int .i64 ME) (.slice pa k pc)
  have gz : z.grownBy ((z.setCell ⟨R, 0, none⟩ (.int .i64 ME)).setCell ⟨R, 1, none⟩ (.slice pa k pc)) (some R) := grown_trans (grown_set z R 0 _) (grown_set _ R 1 _)
  have sz := bz.size
  have s0 := J.low.size
  have ow : OwnE ((z.setCell ⟨R, 0, none⟩ (.int .i64 ME)).setCell ⟨R, 1, none⟩ (.slice pa k pc)) wl.heap.size (.slice pa k pc) E := OwnE.set (OwnE.set oz (p := ⟨R, 0, none⟩) hRl _) (p := ⟨R, 1, none⟩) hRl _
  obtain ⟨ws, hws⟩ : ∃ W, (z.setCell ⟨R, 0, none⟩ (.int .i64 ME)).setCell ⟨R, 1, none⟩ (.slice pa k pc) = W := ⟨_, rfl⟩
  rw [hws] at wsB gz ow
  have bws : Below w.heap.size w ws := (J.low.trans (bz.mono J.low.size)).trans (below_of_grown gz WR (by omega))
  have ln := J.ref.len
  refine ⟨ws, hws, (J.ref.below bz).box gz J.ne (fun b hb => (HR.lst b (J.sub b hb)).below bws), fun z2 r' t' b2 o2 f2 m2 => ?_⟩
  have low2 : Below w.heap.size w z2 := bws.trans (b2.mono bws.size)
  have sub : ∀ b ∈ cs.take i ++ cs.drop (i + 1), b ∈ bs0 := fun b hb => by
    rcases List.mem_append.1 hb with hb | hb
    · exact J.sub b (List.mem_of_mem_take hb)
    · exact J.sub b (List.mem_of_mem_drop hb)
  have em : (cs.take i ++ cs.drop (i + 1)).map Bk.d = (cs.map Bk.d).eraseIdx i := by rw [List.eraseIdx_eq_take_drop_succ, List.map_append, List.map_take, List.map_drop]
  have hil : i < (cs.map Bk.d).length := by rw [List.length_map]; exact hi
  have eg : (cs.map Bk.d)[i] = cs[i].d := by simp
  refine ⟨RefS.of_own o2 (by rw [List.length_append, List.length_take, List.length_drop]; omega) f2 m2 (fun b hb => (HR.lst b (sub b hb)).below low2), sub, ?_, ?_, fun g off er hn => ?_, ?_, ?_, low2⟩
  · rw [hM, hk]; exact (b2.block R (lt_of_block wsB)).trans wsB
  · rw [hk]; exact (ow.below b2).low s0
  · subst er
    have := ownz_ge o2 hn
    have := lt_of_block wsB
    omega
  · rw [em, ← J.tgt, laidS_step hil e, eg, hE]
  · have h1 := (flat_split hil).length_eq
    rw [List.length_append, eg] at h1
    have h2 := J.sum
    have h3 : E.length = cs[i].d.length + d.length := by rw [← hE, sortE_len, List.length_append]
    rw [em]
    omega
theorem radd_fin {w wl : World} {S R v : Nat} {ls T : List (List Ent)} {l : List Ent} {Z m t n0 cap0 k : Nat} {bs0 : List Bk} {r a0 : Option Addr} {cs : List Bk} {d : List Ent} {p : Option Addr} {q : Nat} (hS : S + 1 < w.heap.size) (HB : w.heap[S + 1]? = some (.cells #[.int .u64 v, .slice a0 n0 cap0] 50 (0, 0))) (HR : RefS w S a0 n0 cap0 bs0) (J : AddI w S R T Z bs0 r m t cs d p q wl) (hT : addS ls l = T) (hl : l.length ≠ 0) (ef : (cs.map Bk.d).findIdx (ofLv (lv d)) = (cs.map Bk.d).length) (el : (cs.map Bk.d).findIdx (belowLv (lv d)) = k) :
    ∀ z r' t', Below wl.heap.size wl z → OwnZ 79 z (wl.heap.size + 1) (.slice r' (m + 1) t') (m + 1) (flatB (cs.take k ++ [(⟨d, p, q⟩ : Bk)] ++ cs.drop k)) → m + 1 ≤ t' → t' ≤ maxLen → (z.setCell ⟨S + 1, 1, none⟩ (.slice r' (m + 1) t')).heap[S + 1]? = some (.cells #[.int .u64 v, .slice r' (m + 1) t'] 50 (0, 0)) ∧ RAddIs w S v ls l (.returned (.tuple #[])) ((z.setCell ⟨S + 1, 1, none⟩ (.slice r' (m + 1) t')).setCell ⟨S + 1, 0, none⟩ (.int .u64 ((v : Int) + 1))) := by
  intro z r' t' bz o f1 f2
  have low : Below w.heap.size w z := J.low.trans (bz.mono J.low.size)
  have ln := J.ref.len
  have hk : k ≤ cs.length := by
    have := List.findIdx_le_length (xs := cs.map Bk.d) (p := belowLv (lv d))
    rw [List.length_map] at this
    omega
  have rf : RefS z S r' (m + 1) t' (cs.take k ++ [(⟨d, p, q⟩ : Bk)] ++ cs.drop k) := RefS.of_own o (by simp only [List.length_append, List.length_take, List.length_drop, List.length_cons, List.length_nil]; omega) f1 f2 (fun b hb => by
    rcases List.mem_append.1 hb with hb | hb
    · rcases List.mem_append.1 hb with hb | hb
      · exact (HR.lst b (J.sub b (List.mem_of_mem_take hb))).below low
      · rw [List.mem_singleton] at hb
        subst hb
        exact (J.own.lst hS).below bz
    · exact (HR.lst b (J.sub b (List.mem_of_mem_drop hb))).below low)
  obtain ⟨c7, rs, gs⟩ := rshr_set HB low rf
  refine ⟨shr_set1 c7 _, rfl, ?_, gs⟩
  rw [if_neg hl, hT, ← J.tgt, laidS_end ef]
  unfold putIn
  rw [el]
  have e : (cs.take k ++ [(⟨d, p, q⟩ : Bk)] ++ cs.drop k).map Bk.d = (cs.map Bk.d).take k ++ d :: (cs.map Bk.d).drop k := by simp [List.map_take, List.map_drop]
  rw [e] at rs
  exact rs

set_option maxHeartbeats 400000 in
theorem rsadd_none (S : Nat) (a : Option Addr) (cap : Nat) (w : World) :
    Calls Try.prog 18 #[.pointer (some ⟨S + 1, 0, none⟩), .slice a 0 cap] w fun r w' => r = .returned (.tuple #[]) ∧ w' = w := by
  go_enter Try.func18, Try.ntmps18
  go_wp2
  refine bodyPost_ret (results_none rfl _ _ _) rfl ?_
  exact ⟨by first | rfl | trivial, by first | rfl | trivial⟩

set_option maxHeartbeats 8000000 in
set_option maxRecDepth 100000 in
theorem rsadd_some (S v : Nat) (ls : List (List Ent)) (a : Option Addr) (K cap : Nat) (l : List Ent) (w : World) (h : RShr w S v ls) (hL : IsL w a cap l) (hK : l.length = K) (h0 : 0 < K) (hlen : ls.length ≤ 4000) (hsum : ls.flatten.length + K ≤ 9000) (hv : v ≤ 1000000) :
    Calls Try.prog 18 #[.pointer (some ⟨S + 1, 0, none⟩), .slice a K cap] w (RAddIs w S v ls l) := by
  have hS1 := h.lt
  obtain ⟨M, hM⟩ : ∃ M, lv (sortE l) = M := ⟨_, rfl⟩
  have of := refOfO (w := w) (n := K) (d := sortE l) hL hK (by omega) rfl hM
  obtain ⟨a0, n0, cap0, bs0, hbs, hB, hr⟩ := h
  have hln : ls.length = n0 := by rw [← hbs, List.length_map, hr.len]
  have HBS : Hid (bs0.map Bk.d = ls) := hbs
  have HB : Aside (w.heap[S + 1]? = some (.cells #[.int .u64 v, .slice a0 n0 cap0] 50 (0, 0))) := hB
  have HR : Aside (RefS w S a0 n0 cap0 bs0) := hr
  have n9 : n0 ≤ 4000 := by omega
  have kz : ¬ (K : Int) = 0 := by omega
  have kz2 : ((K : Int) == 0) = false := by simp; omega
  have wv : IntKind.u64.wrap ((v : Int) + 1) = (v : Int) + 1 := by rw [IntKind.wrap_u64, Int.emod_eq_of_lt (by omega) (by omega)]
  have sl := sortE_len l
  rw [hK] at sl
  have SL : Hid _ := sl
  have HM : Hid _ := hM
  have HK : Hid _ := hK
  have ea : addS ls l = laidS ls (sortE l) := by unfold addS; rw [if_neg (by omega)]
  have EA : Hid _ := ea
  obtain ⟨T, hT⟩ : ∃ T, laidS ls (sortE l) = T := ⟨_, rfl⟩
  have HT : Hid _ := hT
  have HLEN : Hid (ls.flatten.length + K ≤ 9000) := hsum
  clear hbs hB hr hln sl hM hK ea hT hL hsum
  go_enter Try.func18, Try.ntmps18
  go_wp2_with fail
  refine of.mono ?_
  rintro r_ w1 ⟨pa, pc, rfl, o1, b1⟩
  obtain ⟨R, hR⟩ : ∃ R, w1.heap.size = R := ⟨_, rfl⟩
  obtain ⟨u1, hu1⟩ : ∃ u, w1.alloc (.cells #[.int .i64 M, .slice pa K pc] 79) = u := ⟨_, rfl⟩
  have HU1 : Hid _ := hu1
  have bu1 : Below w1.heap.size w1 u1 := by rw [← hu1]; exact (Below.refl _ _).alloc (Nat.le_refl _) _
  have bwu : Below w.heap.size w u1 := b1.trans (bu1.mono b1.size)
  have xu : u1.heap[R]? = some (.cells #[.int .i64 M, .slice pa K pc] 79 (0, 0)) := by rw [← hu1, ← hR]; exact heap_alloc_new w1 _
  have c1 := (bwu.block (S + 1) (lt_of_block HB.out)).trans HB.out
  have i1 := shr1 c1
  have v0 : Below u1.heap.size u1 (u1.alloc (.cells #[] 79)) := (Below.refl _ _).alloc (Nat.le_refl _) _
  obtain ⟨Z, hZ⟩ : ∃ Z, u1.heap.size = Z := ⟨_, rfl⟩
  obtain ⟨r2, t2, w2, h2, o2, b2, f2, m2⟩ := push0 (g := Z) (cap := cap0) (((HR.out.below bwu).reads).below v0) (by omega)
  have x2 : Below u1.heap.size u1 w2 := v0.trans (b2.mono v0.size)
  have y2 : Below w.heap.size w w2 := bwu.trans (x2.mono bwu.size)
  have RZ : R < Z := by rw [← hZ]; exact lt_of_block xu
  have sZ : S + 1 < Z := by rw [← hZ]; exact lt_of_block c1
  have nSZ : ¬ S + 1 = Z := by omega
  have INV : Aside (AddI w S R T (ls.flatten.length + K) bs0 r2 n0 t2 bs0 (sortE l) pa pc w2) := by
    refine ⟨RefS.of_own o2 HR.out.len f2 m2 (fun b hb => (HR.out.lst b hb).below y2), fun b hb => hb, ?_, ?_, fun g off e hn => ?_, by rw [HBS.out]; exact HT.out, by rw [HBS.out, SL.out], y2⟩
    · rw [HM.out, SL.out]; exact (x2.block R (by omega)).trans xu
    · rw [SL.out]; exact (o1.below bu1).below x2
    · rcases o2 with o2 | ⟨e0, _⟩
      · have := World.ownsRow.lt o2
        subst e
        rcases o2.2 with ⟨e1, _⟩ | ⟨g', cp, cur, e1, hb', _⟩
        · cases e1
        · injection e1 with e1
          injection e1 with e1
          injection e1 with e1
          subst e1
          have : (u1.alloc (.cells #[] 79)).heap.size = Z + 1 := by simp [hZ]
          omega
      · omega
  have HZS : Hid (S + 1 < R) := by show _ < _; rw [← hR]; have := b1.size; omega
  have WR : w.heap.size ≤ R := by rw [← hR]; exact b1.size
  clear of o1 hu1 bu1 bwu xu c1 o2 b2 x2 y2 v0 b1
  go_upto_region 2 with fail
  rw [HU1.out]
  go_wp2_with (at_builtin; refine Lib.wpList_append_run _ rfl _ _ 48 48 rfl _ _ rfl rfl _ w2 h2 ?_)
  clear h2 i1
  obtain ⟨ZZ, hZZ⟩ : ∃ ZZ, ls.flatten.length + K = ZZ := ⟨_, rfl⟩
  have HZZ : Hid (ZZ ≤ 9000) := by show _ ≤ _; rw [← hZZ]; exact HLEN.out
  rw [hZZ] at INV
  clear hZZ HLEN
  go_loopg [5, 6] (n0 * (n0 + 1) + n0) (fun kx s5 s6 wx => ∃ (i m t : Nat) (r : Option Addr) (cs : List Bk) (d : List Ent) (p : Option Addr) (q : Nat), s5 = .slice r m t ∧ s6 = .int .i64 (i : Int) ∧ i ≤ m ∧ m ≤ n0 ∧ m * (n0 + 1) + (m - i) ≤ kx ∧ Aside (AddI w S R T ZZ bs0 r m t cs d p q wx) ∧ Aside (∀ j (hj : j < cs.length), j < i → lv cs[j].d ≠ lv d))
  case atStart => exact ⟨0, n0, t2, r2, bs0, sortE l, pa, pc, rfl, rfl, by omega, Nat.le_refl _, by omega, INV, (fun j hj h => absurd h (by omega) : ∀ j (hj : j < bs0.length), j < 0 → lv bs0[j].d ≠ lv (sortE l))⟩
  case round =>
    obtain ⟨i, m, t, r, cs, d, p, q, rfl, rfl, hi, hm, hkx, I, A⟩ := hrel
    have hl : cs.length = m := I.out.ref.len
    obtain ⟨md, hmd⟩ : ∃ y, lv d = y := ⟨_, rfl⟩
    obtain ⟨kd, hkd⟩ : ∃ y, d.length = y := ⟨_, rfl⟩
    have HMD : Hid _ := hmd
    have HKD : Hid _ := hkd
    have bx := I.out.box
    rw [hmd, hkd] at bx
    have BX : Aside (wr.heap[R]? = some (.cells #[.int .i64 md, .slice p kd q] 79 (0, 0))) := bx
    have HL : Hid _ := hl
    clear bx hmd hkd
    by_cases hlt : i < m
    · have hz : (i : Int) < (m : Int) := by omega
      have yb : ∀ z, (wr.drewN z).cell? ⟨R, 0, none⟩ = some (.int .i64 md) := fun z => shr0 BX.out
      have hil : i < cs.length := by omega
      obtain ⟨g, off, ha, hg, c0, c1⟩ := I.out.ref.cell hil
      have gR := I.out.ne g off ha (by omega)
      have lx := (I.out.ref.lst _ (List.getElem_mem hil)).1
      obtain ⟨x, hx⟩ : ∃ x, cs[i] = x := ⟨_, rfl⟩
      have HX : Hid (cs[i] = x) := hx
      rw [hx] at c0 c1 lx
      obtain ⟨mx, hmx⟩ : ∃ y, lv x.d = y := ⟨_, rfl⟩
      obtain ⟨kl, hkl⟩ : ∃ y, x.d.length = y := ⟨_, rfl⟩
      obtain ⟨xp, hxp⟩ : ∃ y, x.p = y := ⟨_, rfl⟩
      obtain ⟨xq, hxq⟩ : ∃ y, x.q = y := ⟨_, rfl⟩
      have HMX : Hid _ := hmx
      have HKL : Hid _ := hkl
      rw [hmx] at c0
      rw [hkl, hxp, hxq] at c1
      rw [hxp, hxq] at lx
      have LX : Aside (IsL wr xp xq x.d) := lx
      have y1 : ∀ z, (wr.drewN z).cell? ⟨g, off + i * 2, none⟩ = some (.int .i64 mx) := fun z => c0
      have C1 : Aside (wr.cell? ⟨g, off + i * 2 + 1, none⟩ = some (.slice xp kl xq)) := c1
      have HG : Hid (g < wr.heap.size) := hg
      have GR : Hid (g ≠ R) := gR
      subst ha
      clear hx hmx hkl hxp hxq c0 c1 hg gR lx hl
      by_cases ce : mx = md
      · have HCE : Hid _ := ce
        have y1' : ∀ z, (wr.drewN z).cell? ⟨g, off + i * 2, none⟩ = some (.int .i64 md) := fun z => by rw [← HCE.out]; exact y1 z
        clear ce y1
        go_wp2_with fail
        go_quiet (fail)
        clear y1' yb
        go_upto_region 7 with fail
        obtain ⟨wl, hwl⟩ : ∃ W, wr.drewN nq = W := ⟨_, rfl⟩
        have bl : Below wr.heap.size wr wl := by rw [← hwl]; exact Grown.below ⟨nq, #[], by rw [grow_empty]⟩
        rw [hwl]
        have J := I.out.on bl
        obtain ⟨E, hE⟩ : ∃ E, sortE (x.d ++ d) = E := ⟨_, rfl⟩
        obtain ⟨ME, hME⟩ : ∃ y, lv E = y := ⟨_, rfl⟩
        have ss : kl + kd ≤ 9000 := by
          have h1 := mem_len (ls := cs.map Bk.d) (d := x.d) (List.mem_map.2 ⟨x, by rw [← HX.out]; exact List.getElem_mem hil, rfl⟩)
          have h2 := J.sum
          have h3 := HZZ.out
          rw [HKL.out] at h1
          rw [HKD.out] at h2
          omega
        have el : E.length = kl + kd := by rw [← hE, sortE_len, List.length_append, HKL.out, HKD.out]
        have ef : (cs.map Bk.d).findIdx (ofLv (lv d)) = i := find_at hil (by rw [HX.out, HMX.out, HMD.out]; exact HCE.out) A.out
        refine radd_reg7 (fun _ _ _ _ _ h => h) hlt (by omega) ((bl.block R (lt_of_block BX.out)).trans BX.out) GR.out (Nat.lt_of_lt_of_le HG.out bl.size) ((bl.cell (p := ⟨g, off + i * 2 + 1, none⟩) HG.out).trans C1.out) (LX.out.below bl) HKL.out J.own.is HKD.out ss hE hME ?_
        intro z pa' pc' bz oz f33 f34 f35 f36 f37 f38 f39 f40 f41 f42 f43
        obtain ⟨ws, hws, ref2, nx⟩ := add_step HR.out J hil ef WR (by rw [HX.out]; exact hE) bz oz el hME
        rw [hws]
        have NX : Aside (∀ z2 r' t', Below ws.heap.size ws z2 → OwnZ 79 z2 (ws.heap.size + 1) (.slice r' (m - 1) t') (m - 1) (flatB (cs.take i ++ cs.drop (i + 1))) → m - 1 ≤ t' → t' ≤ maxLen → AddI w S R T ZZ bs0 r' (m - 1) t' (cs.take i ++ cs.drop (i + 1)) E pa' pc' z2) := nx
        have REF2 : Aside (RefS ws S (some ⟨g, off, none⟩) m t cs) := ref2
        clear hws nx ref2 ef el ss hE hME J bl hwl oz bz LX BX I A
        go_upto_region 8 with fail
        have ft := REF2.out.fit
        have bg := REF2.out.big
        unfold maxLen at bg
        refine radd_reg8 (fun _ _ _ _ _ h => h) (c1 := cs.take i) (c2 := cs.drop (i + 1)) (NN := m - 1) hlt (by omega) ft bg (by omega) rfl ((REF2.out.take i (by omega)).reads) (by have h := (REF2.out.drop (i + 1) (by omega)).reads; simp only [Option.map_some, Addr.add_lit] at h; exact h) ?_
        intro z2 r' t' bz2 oz2 f1 f2 f44 f45 f46 f47 f48 f49 f50 f51 f52 f53
        have IN := NX.out z2 r' t' bz2 oz2 f1 f2
        have IN2 : Aside (AddI w S R T ZZ bs0 r' (m - 1) t' (cs.take i ++ cs.drop (i + 1)) E pa' pc' z2) := IN
        clear IN NX REF2 bz2 oz2
        go_wp2
        go_roundg ((m - 1) * (n0 + 1) + (m - 1 - 0))
        case measure => have := meas_step hm hlt; omega
        case rel => exact ⟨0, m - 1, t', r', _, E, pa', pc', rfl, by go_num, by omega, by omega, Nat.le_refl _, IN2, (fun j hj h => absurd h (by omega) : ∀ j (hj : j < (cs.take i ++ cs.drop (i + 1)).length), j < 0 → lv (cs.take i ++ cs.drop (i + 1))[j].d ≠ lv E)⟩
      · have t1 : ((mx : Int) == (md : Int)) = false := by simp; omega
        have t2 : ¬ (mx : Int) = (md : Int) := by omega
        have A2 : Aside (∀ j (hj : j < cs.length), j < i + 1 → lv cs[j].d ≠ lv d) := fun j hj hji => by
          by_cases e : j = i
          · subst e
            rw [HX.out, HMX.out, HMD.out]
            exact ce
          · exact A.out j hj (by omega)
        go_wp2_with fail
        go_quiet (fail)
        have D2 : Aside (AddI w S R T ZZ bs0 (some ⟨g, off, none⟩) m t cs d p q (wr.drewN nq)) := I.out.on (Grown.below ⟨nq, #[], by rw [grow_empty]⟩)
        go_wp2
        go_roundg (m * (n0 + 1) + (m - (i + 1)))
        case measure => omega
        case rel => exact ⟨i + 1, m, t, _, cs, d, p, q, rfl, by go_num, by omega, hm, Nat.le_refl _, D2, A2⟩
    · have hz : ¬ (i : Int) < (m : Int) := by omega
      have him : i = m := by omega
      subst him
      have ef0 : (cs.map Bk.d).findIdx (ofLv (lv d)) = (cs.map Bk.d).length := find_none (fun j hj => A.out j hj (by omega))
      have EF : Hid _ := ef0
      obtain ⟨we, hwe⟩ : ∃ W, W = wr := ⟨_, rfl⟩
      subst hwe
      clear ef0 hl A
      go_wp2_with fail
      go_loopg [7] i (fun kx s7 wx => ∃ k : Nat, s7 = .int .i64 (k : Int) ∧ k ≤ i ∧ i - k ≤ kx ∧ Aside (Below we.heap.size we wx) ∧ Aside (∀ j (hj : j < cs.length), j < k → ¬ lv cs[j].d < lv d))
      case atStart => exact ⟨0, rfl, by omega, by omega, Below.refl _ _, (fun j hj h => absurd h (by omega) : ∀ j (hj : j < cs.length), j < 0 → ¬ lv cs[j].d < lv d)⟩
      case round =>
        obtain ⟨k, rfl, hk, hkx2, D, A⟩ := hrel
        have yb : ∀ z, (wr.drewN z).cell? ⟨R, 0, none⟩ = some (.int .i64 md) := fun z => shr0 ((D.out.block R (lt_of_block BX.out)).trans BX.out)
        by_cases hkl : k < i
        · have hz2 : (k : Int) < (i : Int) := by omega
          have hz3 : decide ((k : Int) < (i : Int)) = true := decide_eq_true hz2
          have hkc : k < cs.length := by rw [HL.out]; exact hkl
          obtain ⟨g, off, ha, hg, c0, _⟩ := (I.out.on D.out).ref.cell hkc
          obtain ⟨mx, hmx⟩ : ∃ y, lv cs[k].d = y := ⟨_, rfl⟩
          have HMX : Hid _ := hmx
          rw [hmx] at c0
          have y1 : ∀ z, (wr.drewN z).cell? ⟨g, off + k * 2, none⟩ = some (.int .i64 mx) := fun z => c0
          subst ha
          clear hmx c0 hg
          by_cases ce : md ≤ mx
          · have t1 : (md : Int) ≤ (mx : Int) := by omega
            have t3 : decide ((md : Int) ≤ (mx : Int)) = true := decide_eq_true t1
            have A2 : Aside (∀ j (hj : j < cs.length), j < k + 1 → ¬ lv cs[j].d < lv d) := fun j hj hji => by
              by_cases e : j = k
              · subst e
                rw [HMX.out, HMD.out]
                omega
              · exact A.out j hj (by omega)
            go_wp2_with fail
            go_quiet (fail)
            have D2 : Aside (Below we.heap.size we (wr.drewN nq)) := D.out.trans (Below.mono (Grown.below ⟨nq, #[], by rw [grow_empty]⟩) D.out.size)
            go_wp2
            go_roundg (i - (k + 1))
            case measure => omega
            case rel => exact ⟨k + 1, by go_num, by omega, Nat.le_refl _, D2, A2⟩
          · have t1 : ¬ (md : Int) ≤ (mx : Int) := by omega
            have t3 : decide ((md : Int) ≤ (mx : Int)) = false := decide_eq_false t1
            go_wp2_with fail
            go_quiet (fail)
            clear y1 yb
            go_upto_region 13 with fail
            obtain ⟨wl, hwl⟩ : ∃ W, wr.drewN nq = W := ⟨_, rfl⟩
            have bl : Below we.heap.size we wl := by rw [← hwl]; exact D.out.trans (Below.mono (Grown.below ⟨nq, #[], by rw [grow_empty]⟩) D.out.size)
            rw [hwl]
            have J := I.out.on bl
            have ft := J.ref.fit
            have bg := J.ref.big
            unfold maxLen at bg
            have el : (cs.map Bk.d).findIdx (belowLv (lv d)) = k := find_low (Nat.le_of_lt hkc) (fun _ => by rw [HMX.out, HMD.out]; omega) A.out
            refine radd_reg13n (fun _ _ _ _ _ h => h) (c1 := cs.take k) (c2 := cs.drop k) (v := v) (d := d) (Nat.le_of_lt hkl) (by omega) ft bg rfl HMD.out HKD.out ((bl.block R (lt_of_block BX.out)).trans BX.out) ((J.low.block (S + 1) hS1).trans HB.out) ((J.ref.take k (by omega)).reads) (by have h := (J.ref.drop k (by omega)).reads; simp only [Option.map_some, Addr.add_lit] at h; exact h) ?_
            intro z r' t' bz oz f1 f2 f70 f71 f72 f73 f74 f75 f76 f77 f78 f79 f80 f81 f82 f83 f84
            obtain ⟨zc, fin⟩ := radd_fin hS1 HB.out HR.out J (EA.out.trans HT.out) (by rw [HK.out]; omega) EF.out el z r' t' bz oz f1 f2
            obtain ⟨zs, hzs⟩ : ∃ W, z.setCell ⟨S + 1, 1, none⟩ (.slice r' (i + 1) t') = W := ⟨_, rfl⟩
            rw [hzs] at zc fin
            rw [hzs]
            have y0 := shr0 zc
            have y1 := shrf zc 0
            have FIN : Aside (RAddIs w S v ls l (.returned (.tuple #[])) (zs.setCell ⟨S + 1, 0, none⟩ (.int .u64 ((v : Int) + 1)))) := fin
            clear fin zc oz bz J hzs
            go_wp2
            refine bodyPost_ret (results_none rfl _ _ _) rfl ?_
            exact FIN.out
        · have hz2 : ¬ (k : Int) < (i : Int) := by omega
          have hz3 : decide ((k : Int) < (i : Int)) = false := decide_eq_false hz2
          go_wp2_with fail
          go_quiet (fail)
          clear yb
          go_upto_region 13 with fail
          obtain ⟨wl, hwl⟩ : ∃ W, wr.drewN nq = W := ⟨_, rfl⟩
          have bl : Below we.heap.size we wl := by rw [← hwl]; exact D.out.trans (Below.mono (Grown.below ⟨nq, #[], by rw [grow_empty]⟩) D.out.size)
          rw [hwl]
          have J := I.out.on bl
          have ft := J.ref.fit
          have bg := J.ref.big
          unfold maxLen at bg
          have el : (cs.map Bk.d).findIdx (belowLv (lv d)) = k := find_low (by rw [HL.out]; omega) (fun h => by rw [HL.out] at h; omega) A.out
          refine radd_reg13k (fun _ _ _ _ _ h => h) (c1 := cs.take k) (c2 := cs.drop k) (v := v) (d := d) (by omega) (by omega) ft bg rfl HMD.out HKD.out ((bl.block R (lt_of_block BX.out)).trans BX.out) ((J.low.block (S + 1) hS1).trans HB.out) ((J.ref.take k (by omega)).reads) ((J.ref.drop k (by omega)).reads) ?_
          intro z r' t' bz oz f1 f2 f70 f71 f72 f73 f74 f75 f76 f77 f78 f79 f80 f81 f82 f83 f84
          obtain ⟨zc, fin⟩ := radd_fin hS1 HB.out HR.out J (EA.out.trans HT.out) (by rw [HK.out]; omega) EF.out el z r' t' bz oz f1 f2
          obtain ⟨zs, hzs⟩ : ∃ W, z.setCell ⟨S + 1, 1, none⟩ (.slice r' (i + 1) t') = W := ⟨_, rfl⟩
          rw [hzs] at zc fin
          rw [hzs]
          have y0 := shr0 zc
          have y1 := shrf zc 0
          have FIN : Aside (RAddIs w S v ls l (.returned (.tuple #[])) (zs.setCell ⟨S + 1, 0, none⟩ (.int .u64 ((v : Int) + 1)))) := fin
          clear fin zc oz bz J hzs
          go_wp2
          refine bodyPost_ret (results_none rfl _ _ _) rfl ?_
          exact FIN.out
end Go.Proofs.Ytboccihcomaaoaa
