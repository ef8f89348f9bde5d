/- The document's Shared: Drop. -/
import Derived.Test.YtboccihcomaaoaaShrQ
namespace Go.Proofs.Ytboccihcomaaoaa
open Go.RowKit Go.Lib Go.Sort
set_option linter.unusedVariables false

/-- What the document's Drop tells and leaves. -/
def RDropIs (w : World) (S v : Nat) (ls : List (List Ent)) (id : Int) (r : Ending) (w' : World) : Prop := r = .returned (.bool (hasL ls.flatten id)) ∧ RShr w' S (if hasL ls.flatten id then v + 1 else v) (dropS ls id) ∧ w.grownBy w' (some (S + 1))

set_option maxHeartbeats 4000000 in
set_option maxRecDepth 100000 in
theorem rsdrop_any (S v : Nat) (ls : List (List Ent)) (id : Int) (w : World) (h : RShr w S v ls) (hlen : ls.length ≤ 9000) (hsum : ls.flatten.length ≤ 9000) (hs : ∀ d ∈ ls, Srt d) (hv : v ≤ 1000000) :
    Calls Try.prog 19 #[.pointer (some ⟨S + 1, 0, none⟩), .int .i64 id] w (RDropIs w S v ls id) := by
  have H : Aside (RShr w S v ls) := h
  have hS1 := h.lt
  obtain ⟨a, n, cap, bs, hbs, hB, hr⟩ := h
  have hln : ls.length = n := by rw [← hbs, List.length_map, hr.len]
  have HLN : Hid _ := hln
  have HBS : Hid (bs.map Bk.d = ls) := hbs
  have HB : Aside (w.heap[S + 1]? = some (.cells #[.int .u64 v, .slice a n cap] 50 (0, 0))) := hB
  have HR : Aside (RefS w S a n cap bs) := hr
  have HSR : Aside (∀ d ∈ ls, Srt d) := hs
  have fit := hr.fit
  have big := hr.big
  unfold maxLen at big
  have n9 : n ≤ 9000 := by omega
  have wv : IntKind.u64.wrap ((v : Int) + 1) = (v : Int) + 1 := by rw [IntKind.wrap_u64, Int.emod_eq_of_lt (by omega) (by omega)]
  clear hbs hB hr hs hln
  go_enter Try.func19, Try.ntmps19
  go_wp2
  go_loopg [5] n (fun kx s5 wx => ∃ k : Nat, s5 = .int .i64 k ∧ k ≤ n ∧ n - k ≤ kx ∧ wx = w ∧ Aside (∀ i (hi : i < ls.length), i < k → hasL ls[i] id = false))
  case atStart => exact ⟨0, rfl, by omega, by omega, rfl, (fun i _ h => absurd h (by omega) : ∀ i (hi : i < ls.length), i < 0 → hasL ls[i] id = false)⟩
  case round =>
    obtain ⟨k, rfl, hk, hkx, hwx, A⟩ := hrel
    obtain rfl : w = wr := hwx.symm
    clear hwx
    have y0 := shr0 HB.out
    have y1 := shr1 HB.out
    by_cases hlt : k < n
    · have hz : (k : Int) < (n : Int) := by omega
      have hkl : k < ls.length := by rw [HLN.out]; exact hlt
      have hkb : k < bs.length := by rw [HR.out.len]; exact hlt
      obtain ⟨g, off, ha, hg, c0, c1⟩ := HR.out.cell hkb
      have xd : bs[k].d = ls[k] := by
        have : (bs.map Bk.d)[k]? = ls[k]? := by rw [HBS.out]
        rw [List.getElem?_map, List.getElem?_eq_getElem hkb, List.getElem?_eq_getElem hkl] at this
        simpa using this
      have L := (HR.out.lst _ (List.getElem_mem hkb)).1
      rw [xd] at c1 L
      obtain ⟨d, hd⟩ : ∃ d, ls[k] = d := ⟨_, rfl⟩
      have HD : Hid _ := hd
      rw [hd] at c1 L
      have ld : d.length ≤ 9000 := by have := mem_len (List.getElem_mem hkl); rw [hd] at this; omega
      have hs := refHas_any bs[k].p bs[k].q d id w L
      have wo := refWithout_any bs[k].p bs[k].q d id w L (by omega)
      obtain ⟨Y, hY⟩ : ∃ Y, hasL d id = Y := ⟨_, rfl⟩
      have HY : Hid _ := hY
      obtain ⟨K, hK⟩ : ∃ m, d.length = m := ⟨_, rfl⟩
      obtain ⟨xp, hxp⟩ : ∃ m, bs[k].p = m := ⟨_, rfl⟩
      obtain ⟨xq, hxq⟩ : ∃ m, bs[k].q = m := ⟨_, rfl⟩
      rw [hK, hxp, hxq] at c1 hs wo
      rw [hY] at hs
      have HA : Hid (a = some ⟨g, off, none⟩) := ha
      subst ha
      clear hY hK hxp hxq L xd hd c0
      cases Y with
      | false =>
        clear wo
        go_wp2_with fail
        refine hs.mono ?_
        rintro r w1 ⟨rfl, e1⟩
        obtain rfl : w = w1 := e1.symm
        clear hs e1
        go_wp2
        go_roundg (n - (k + 1))
        case measure => omega
        case rel =>
          refine ⟨k + 1, by go_num, by omega, Nat.le_refl _, rfl, (fun i hi hik => ?_ : ∀ i (hi : i < ls.length), i < k + 1 → hasL ls[i] id = false)⟩
          by_cases e : i = k
          · subst e; rw [HD.out]; exact HY.out
          · exact A.out i hi (by omega)
      | true =>
        have fb := firstB_at hkl (by rw [HD.out]; exact HY.out) (fun i hi => A.out i (by omega) hi)
        have hh : hasL ls.flatten id = true := firstB_has.1 (by rw [fb]; exact hkl)
        have HH : Hid _ := hh
        have ed : dropS ls id = if (outL id d).length = 0 then ls.eraseIdx k else ls.set k (outL id d) := by
          unfold dropS
          rw [fb, if_pos hkl]
          unfold cutB
          rw [List.getElem?_eq_getElem hkl, Option.getD_some, HD.out]
        have sd : Srt d := by rw [← HD.out]; exact HSR.out _ (List.getElem_mem hkl)
        obtain ⟨E, hE⟩ : ∃ E, outL id d = E := ⟨_, rfl⟩
        have sE : sortE E = E := by rw [← hE]; exact outL_srt sd id
        have lE : E.length ≤ 9000 := by rw [← hE]; exact Nat.le_trans (outL_len _ _) ld
        rw [hE] at ed wo
        have ED : Hid _ := ed
        obtain ⟨KE, hKE⟩ : ∃ m, E.length = m := ⟨_, rfl⟩
        obtain ⟨ME, hME⟩ : ∃ m, lv E = m := ⟨_, rfl⟩
        unfold Made at wo
        rw [hKE] at wo lE
        have HKE : Hid _ := hKE
        have HME : Hid _ := hME
        have HSE : Hid _ := sE
        clear hh ed sd hE sE hKE hME fb A
        go_wp2_with fail
        refine hs.mono ?_
        rintro r w1 ⟨rfl, e1⟩
        obtain rfl : w = w1 := e1.symm
        clear hs e1
        go_wp2_with fail
        refine wo.mono ?_
        rintro r w2 ⟨a2, c2, rfl, o2, b2⟩
        have of := refOfO (w := w2) (n := KE) (d := E) o2.is HKE.out (by omega) HSE.out HME.out
        have B2 : Aside (Below w.heap.size w w2) := b2
        clear wo o2 b2
        go_wp2_with fail
        refine of.mono ?_
        rintro r w3 ⟨a3, c3, rfl, o3, b3⟩
        obtain ⟨R3, hR3⟩ : ∃ R, w3.heap.size = R := ⟨_, rfl⟩
        obtain ⟨u3, hu3⟩ : ∃ u, w3.alloc (.cells #[.int .i64 ME, .slice a3 KE c3] 79) = u := ⟨_, rfl⟩
        have HU3 : Hid _ := hu3
        have bu3 : Below w3.heap.size w3 u3 := by rw [← hu3]; exact (Below.refl _ _).alloc (Nat.le_refl _) _
        have b23 : Below w2.heap.size w2 u3 := b3.trans (bu3.mono b3.size)
        have bwu : Below w.heap.size w u3 := B2.out.trans (b23.mono B2.out.size)
        have LE : Aside (Lst u3 S a3 c3 E) := ((o3.low (Nat.le_refl _)).below bu3).lst (by have := B2.out.size; omega)
        have XU : Aside (u3.heap[R3]? = some (.cells #[.int .i64 ME, .slice a3 KE c3] 79 (0, 0))) := by rw [← hu3, ← hR3]; exact heap_alloc_new w3 _
        have CU := (bwu.block (S + 1) (lt_of_block HB.out)).trans HB.out
        have RU : Aside (RefS u3 S (some ⟨g, off, none⟩) n cap bs) := HR.out.below bwu
        have BWU : Aside (Below w.heap.size w u3) := bwu
        have i1 := shr1 CU
        have j0 := shr0 XU.out
        have j1 := shr1 XU.out
        clear hu3 bu3 b23 bwu o3 b3 of CU c1 y0 y1
        go_upto_region 6 with fail
        rw [HU3.out]
        have CU : Aside (u3.heap[S + 1]? = some (.cells #[.int .u64 v, .slice (some ⟨g, off, none⟩) n cap] 50 (0, 0))) := (BWU.out.block (S + 1) (lt_of_block HB.out)).trans HB.out
        have v0 : Below u3.heap.size u3 (u3.alloc (.cells #[] 79)) := (Below.refl _ _).alloc (Nat.le_refl _) _
        have V0z : u3.heap.size ≤ (u3.alloc (.cells #[] 79)).heap.size := v0.size
        obtain ⟨Z, hZ⟩ : ∃ Z, u3.heap.size = Z := ⟨_, rfl⟩
        obtain ⟨r5, t5, w5, h5, o5, b5, f5, m5⟩ := push0 (g := Z) (cap := cap) (((RU.out.take k (by omega)).reads).below v0) (by omega)
        have x5 : Below u3.heap.size u3 w5 := v0.trans (b5.mono V0z)
        obtain ⟨p1, hp1⟩ : ∃ p1, (if cap = k + 1 then (some ⟨g, off, none⟩ : Option Addr) else some ⟨g, off + (k + 1) * 2, none⟩) = p1 := ⟨_, rfl⟩
        have HP1 : (if cap = k + 1 then (some ⟨g, off, none⟩ : Option Addr) else Option.map (fun (x : Addr) => x.add ((k + 1) * 2)) (some ⟨g, off, none⟩)) = p1 := by rw [← hp1]; simp only [Option.map_some, Addr.add_lit]
        have x5_sz : (u3.alloc (.cells #[] 79)).heap.size ≤ w5.heap.size := b5.size
        have tl : (bs.take k).length = k := by rw [List.length_take, RU.out.len]; omega
        have w5c := (x5.block (S + 1) (lt_of_block CU.out)).trans CU.out
        have l1 := shr1 w5c
        have w5x := (x5.block R3 (lt_of_block XU.out)).trans XU.out
        have n0 := shr0 w5x
        have n1 := shr1 w5x
        have sZ : S + 1 < Z := by rw [← hZ]; exact lt_of_block CU.out
        have nSZ : ¬ S + 1 = Z := by omega
        have rZ : R3 < Z := by rw [← hZ]; exact lt_of_block XU.out
        have nRZ : ¬ R3 = Z := by omega
        have kk1 : (k : Int) + 1 ≤ (n : Int) := by omega
        have kk2 : (0 : Int) ≤ (k : Int) + 1 := by omega
        have kk3 : ((k : Int) + 1).toNat = k + 1 := by omega
        have kk4 : (k : Int) ≤ (cap : Int) := by omega
        have kk5 : (k : Int) + 1 ≤ (cap : Int) := by omega
        have kk6 : (n : Int) ≤ (cap : Int) := by omega
        have kw : IntKind.i64.wrap ((k : Int) + 1) = (k : Int) + 1 := by rw [IntKind.wrap_i64]; omega
        by_cases hz2 : KE = 0
        · have hzz : ¬ (0 : Int) < (KE : Int) := by omega
          have rd7 : Reads w5 p1 (n - (k + 1)) (flatB (bs.drop (k + 1))) := by
            have := ((RU.out.drop (k + 1) (by omega)).reads).below x5
            rw [HP1] at this
            exact this
          obtain ⟨r7, t7, w7, h7, o7, b7, _, f7, m7⟩ := pushB (cap := cap - (k + 1)) (o5) rd7 (by omega) (x5_sz)
          have x7 : Below u3.heap.size u3 w7 := x5.trans (b7.mono V0z)
          have rf : RefS w7 S r7 (k + (n - (k + 1))) t7 (bs.take k ++ bs.drop (k + 1)) := RefS.of_own o7 (by rw [List.length_append, List.length_drop, RU.out.len, tl]) f7 m7 (fun b hb => by
            rcases List.mem_append.1 hb with hb | hb
            · exact (RU.out.lst b (List.mem_of_mem_take hb)).below x7
            · exact (RU.out.lst b (List.mem_of_mem_drop hb)).below x7)
          obtain ⟨c7, rs, gs⟩ := rshr_set CU.out x7 rf
          have q0 := shr0 c7
          have q1 := shr1 c7
          have f0 := shrf c7 0
          have f1 := shrf c7 1
          obtain ⟨NN, hNN⟩ : ∃ NN, k + (n - (k + 1)) = NN := ⟨_, rfl⟩
          rw [hNN] at h7 rs gs
          have FIN : Aside (RDropIs w S v ls id (.returned (.bool true)) ((w7.setCell ⟨S + 1, 1, none⟩ (.slice r7 NN t7)).setCell ⟨S + 1, 0, none⟩ (.int .u64 ((v : Int) + 1)))) := by
            refine ⟨by rw [HH.out], ?_, grown_trans (grown_of_below BWU.out _) gs⟩
            rw [HH.out, if_pos rfl, ED.out]
            rw [if_pos (by rw [HKE.out]; exact hz2)]
            rw [List.map_append, List.map_take, List.map_drop, HBS.out, ← List.eraseIdx_eq_take_drop_succ] at rs
            exact rs
          clear rs gs rf o7 c7 x7 b7 rd7 o5 b5 x5 v0 w5c w5x
          go_upto_region 7 with (at_builtin; refine Lib.wpList_append_run _ rfl _ _ 48 48 rfl _ _ rfl rfl _ w5 h5 ?_)
          clear h5
          go_wp2_with (at_builtin; refine Lib.wpList_append_run w5 rfl _ _ 48 48 rfl _ _ rfl rfl _ w7 h7 ?_)
          go_ret
          exact FIN.out
        · have hzz : (0 : Int) < (KE : Int) := by omega
          obtain ⟨Z5, hZ5⟩ : ∃ Z, w5.heap.size = Z := ⟨_, rfl⟩
          obtain ⟨u5, hu5⟩ : ∃ u, w5.alloc (.cells #[.int .i64 ME, .slice a3 KE c3] 79) = u := ⟨_, rfl⟩
          have b5u : Below w5.heap.size w5 u5 := by rw [← hu5]; exact (Below.refl _ _).alloc (Nat.le_refl _) _
          obtain ⟨r6, t6, w6, h6, o6, b6, _, f6, m6⟩ := pushB (cap := 1) (o5.below b5u) (reads_one (G := Z5) (d := E) (p := a3) (q := c3) (by rw [← hu5, ← hZ5]; exact heap_alloc_new w5 _) HME.out HKE.out) (by omega) (Nat.le_trans b5.size b5u.size)
          rw [← hu5] at h6
          have x6 : Below u3.heap.size u3 w6 := (x5.trans (b5u.mono x5.size)).trans (b6.mono V0z)
          have x6_sz : (u3.alloc (.cells #[] 79)).heap.size ≤ w6.heap.size := Nat.le_trans (Nat.le_trans b5.size b5u.size) b6.size
          have rd7 : Reads w6 p1 (n - (k + 1)) (flatB (bs.drop (k + 1))) := by
            have := ((RU.out.drop (k + 1) (by omega)).reads).below x6
            rw [HP1] at this
            exact this
          obtain ⟨r7, t7, w7, h7, o7, b7, _, f7, m7⟩ := pushB (cap := cap - (k + 1)) (o6) rd7 (by omega) (x6_sz)
          have x7 : Below u3.heap.size u3 w7 := x6.trans (b7.mono V0z)
          have rf : RefS w7 S r7 ((k + 1) + (n - (k + 1))) t7 ((bs.take k ++ [⟨E, a3, c3⟩]) ++ bs.drop (k + 1)) := RefS.of_own o7 (by rw [List.length_append, List.length_drop, RU.out.len, List.length_append, tl, List.length_singleton]) f7 m7 (fun b hb => by
            rcases List.mem_append.1 hb with hb | hb
            · rcases List.mem_append.1 hb with hb | hb
              · exact (RU.out.lst b (List.mem_of_mem_take hb)).below x7
              · simp at hb; subst hb; exact LE.out.below x7
            · exact (RU.out.lst b (List.mem_of_mem_drop hb)).below x7)
          obtain ⟨c7, rs, gs⟩ := rshr_set CU.out x7 rf
          have q0 := shr0 c7
          have q1 := shr1 c7
          have f0 := shrf c7 0
          have f1 := shrf c7 1
          obtain ⟨NN, hNN⟩ : ∃ NN, (k + 1) + (n - (k + 1)) = NN := ⟨_, rfl⟩
          rw [hNN] at h7 rs gs
          have FIN : Aside (RDropIs w S v ls id (.returned (.bool true)) ((w7.setCell ⟨S + 1, 1, none⟩ (.slice r7 NN t7)).setCell ⟨S + 1, 0, none⟩ (.int .u64 ((v : Int) + 1)))) := by
            refine ⟨by rw [HH.out], ?_, grown_trans (grown_of_below BWU.out _) gs⟩
            rw [HH.out, if_pos rfl, ED.out]
            rw [if_neg (by rw [HKE.out]; exact hz2)]
            rw [List.map_append, List.map_append, List.map_take, List.map_drop, HBS.out] at rs
            rw [List.set_eq_take_append_cons_drop, if_pos hkl]
            simp only [List.map_cons, List.map_nil, List.append_assoc, List.cons_append, List.nil_append] at rs
            exact rs
          have w6c := (x6.block (S + 1) (lt_of_block CU.out)).trans CU.out
          have l6 := shr1 w6c
          clear rs gs rf o7 c7 x7 b7 rd7 o5 b5 x5 v0 w5c w5x o6 b6 x6 b5u hu5 w6c
          go_upto_region 7 with (at_builtin; refine Lib.wpList_append_run _ rfl _ _ 48 48 rfl _ _ rfl rfl _ w5 h5 ?_)
          clear h5
          go_upto_region 9 with (at_builtin; refine Lib.wpList_append_run _ rfl _ _ 48 48 rfl _ _ rfl rfl _ w6 h6 ?_)
          clear h6
          go_wp2_with (at_builtin; refine Lib.wpList_append_run w6 rfl _ _ 48 48 rfl _ _ rfl rfl _ w7 h7 ?_)
          go_ret
          exact FIN.out
    · obtain rfl : k = n := by omega
      have hz : ¬ (k : Int) < (k : Int) := by omega
      have hh : hasL ls.flatten id = false := by
        cases e : hasL ls.flatten id with
        | false => rfl
        | true =>
          have := firstB_has.2 e
          have h2 := firstB_hasL this
          rw [A.out _ this (by rw [HLN.out] at this; exact this)] at h2
          cases h2
      have hd : dropS ls id = ls := by
        unfold dropS
        rw [if_neg (fun c => by rw [firstB_has.1 c] at hh; cases hh)]
      have FIN : Aside (RDropIs w S v ls id (.returned (.bool false)) w) := ⟨by rw [hh], by rw [hh, hd]; exact H.out, grown_of_below (Below.refl _ _) _⟩
      clear hh hd
      go_wp2
      go_ret
      exact FIN.out
end Go.Proofs.Ytboccihcomaaoaa
