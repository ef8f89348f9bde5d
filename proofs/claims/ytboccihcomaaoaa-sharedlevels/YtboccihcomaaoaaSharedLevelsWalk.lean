/- The walk of 'SharedLevels'. -/
import Derived.Test.YtboccihcomaaoaaShrK
import Derived.Test.YtboccihcomaaoaaShrU
import Derived.Test.YtboccihcomaaoaaShrF
import Derived.Test.YtboccihcomaaoaaShrV
import Derived.Test.YtboccihcomaaoaaShrVb
import Derived.Test.YtboccihcomaaoaaMask
import Derived.Test.YtboccihcomaaoaaRowAt
import Derived.Deep.RegionHeld3
import Derived.Deep.CutBlock
import Derived.Deep.DeepCutAuto
namespace Go.Proofs.Ytboccihcomaaoaa
open Go.RowKit Go.Lib Go.Sort
set_option linter.unusedVariables false

/-- What is there behind some lists. -/
structure LevIs (ls : List (List Ent)) (i id v : Nat) : Prop where
  fall : Fall ls
  len : ls.flatten.length = id
  few : id ≤ 9 * i
  cnt : ls.length ≤ i
  ver : v ≤ i
theorem LevIs.add {ls : List (List Ent)} {i id v : Nat} (h : LevIs ls i id v) (l : List Ent) (hl : l.length ≤ 9) (v' : Nat) (hv : v' ≤ v + 1) : LevIs (addS ls l) (i + 1) (id + l.length) v' :=
  ⟨addS_fall l h.fall, by rw [addS_len, h.len], by have := h.few; omega, by have := addS_count ls l; have := h.cnt; omega, by have := h.ver; omega⟩

set_option maxHeartbeats 8000000 in
set_option maxRecDepth 100000 in
theorem sharedLevels_walk (a0 : Option Addr) (len0 cap0 : Nat) (zs : List Int) (w : World) (h0 : IsRow .i64 w a0 len0 cap0 zs) :
    Calls Try.prog 4 #[.slice a0 len0 cap0] w fun r w' => r = .returned (.bool true) ∧ Below w.heap.size w w' := by
  obtain ⟨S, hS⟩ : ∃ S, w.heap.size = S := ⟨_, rfl⟩
  have HS : Hid _ := hS
  have hl := h0.len_le
  have H0 : Aside (IsRow .i64 w a0 len0 cap0 zs) := h0
  have nw := snew_any w
  rw [hS] at nw
  have L0 : Aside (Shr (w.alloc (.cells #[.int .u64 0, .slice none 0 0] 69)) S 0 []) := by rw [← hS]; exact shr_new w
  have D0 : Aside (Below S w (w.alloc (.cells #[.int .u64 0, .slice none 0 0] 69))) := by rw [← hS]; exact (Below.refl _ _).alloc (Nat.le_refl _) _
  clear h0
  go_enter Try.func4, Try.ntmps4
  go_wp2_with fail
  refine nw.mono ?_
  rintro r w1 ⟨rfl, rfl⟩
  generalize w.alloc (.cells #[.int .u64 0, .slice none 0 0] 69) = w1 at L0 D0 ⊢
  clear nw
  go_wp2_with fail
  go_loopg [4, 5] 41 (fun kx s4 s5 wr => ∃ (i id v : Nat) (ls : List (List Ent)), s5 = .int .i64 i ∧ s4 = .int .i64 id ∧ i ≤ 40 ∧ 41 - i ≤ kx ∧ Aside (LevIs ls i id v) ∧ Aside (Shr wr S v ls) ∧ Aside (Below S w wr))
  case atStart => exact ⟨0, 0, 0, [], rfl, rfl, by omega, by omega, ⟨Fall.nil, rfl, by omega, by simp, by omega⟩, L0, D0⟩
  case round =>
    clear L0 D0
    obtain ⟨i, id, v, ls, rfl, rfl, hi, hix, LV, L, D⟩ := hrel
    obtain ⟨wo, hwo⟩ : ∃ x : World, x = wr := ⟨_, rfl⟩
    subst hwo
    have sz : S ≤ wo.heap.size := by have := D.out.size; omega
    have few := LV.out.few
    have ver := LV.out.ver
    by_cases hlt : i < len0 ∧ i < 40
    · obtain ⟨hl1, hl2⟩ := hlt
      have hz1 : (i : Int) < (len0 : Int) := by omega
      have hz2 : (i : Int) < 40 := by omega
      have hz3 : decide ((i : Int) < (len0 : Int)) = true := decide_eq_true hz1
      obtain ⟨b, off, ha, hb, hc, _⟩ := H0.out.at hl1
      have HC : Aside (∀ W, Below S w W → W.cell? ⟨b, off + i, none⟩ = some (.int .i64 (zs.getD i 0))) := fun W hW => (hW.cell (p := ⟨b, off + i, none⟩) (by show b < S; omega)).trans hc
      obtain ⟨z, hzz⟩ : ∃ z, zs.getD i 0 = z := ⟨_, rfl⟩
      rw [hzz] at HC
      obtain ⟨X, hX, X0, X1⟩ : ∃ X, bits .and .i64 z 255 = X ∧ 0 ≤ X ∧ X < 256 := ⟨_, mask_i64 z 8 255 256 (by omega) rfl rfl, by omega, by omega⟩
      obtain ⟨J, hJ, J9⟩ : ∃ J : Nat, X % 10 = (J : Int) ∧ J < 10 := ⟨(X % 10).toNat, by omega, by omega⟩
      subst ha
      clear hc hzz
      go_wp2_with fail
      go_loopg [4, 6, 7] J (fun kx s4 s6 s7 wx => ∃ (j q : Nat) (r : Option Addr) (t : Nat) (l : List Ent), s7 = .int .i64 j ∧ s4 = .int .i64 q ∧ q ≤ 1000 ∧ Hid (q = id + j) ∧ s6 = .slice r j t ∧ j ≤ J ∧ J - j ≤ kx ∧ Hid (l.length = j) ∧ Aside (OwnE wx wo.heap.size (.slice r j t) l) ∧ Aside (Below wo.heap.size wo wx))
      case atStart => exact ⟨0, id, none, 0, [], rfl, rfl, by omega, rfl, rfl, by omega, by omega, rfl, OwnE.nil _ _, Below.refl _ _⟩
      case round =>
        obtain ⟨j, q, r, t, l, rfl, rfl, hq1000, HQ, rfl, hj, hjx, HL, O, DX⟩ := hrel
        have szx := DX.out.size
        have hcx := HC.out _ (D.out.trans (DX.out.mono sz))
        by_cases hlt3 : j < J
        · have hy : (j : Int) < (J : Int) := by omega
          obtain ⟨Q, hQ, hQ2⟩ : ∃ Q : Nat, ((q : Int) + 1) * 31 % 97 = (Q : Int) ∧ (q + 1) * 31 % 97 = Q := ⟨_, by omega, rfl⟩
          have Q1 : Q < 97 := by rw [← hQ2]; exact Nat.mod_lt _ (by omega)
          have hQ3 : IntKind.u64.wrap (Q : Int) = (Q : Int) := by rw [IntKind.wrap_u64, Int.emod_eq_of_lt (by omega) (by omega)]
          have qb : q < 500 := by have := HQ.out; omega
          obtain ⟨R, hR⟩ : ∃ R, wr.heap.size = R := ⟨_, rfl⟩
          obtain ⟨r2, t2, w2, hr2, o2, b2⟩ := app_one ((Q : Int), (q : Int) + 1) O.out HL.out (by omega) szx
          rw [hR] at hr2
          have O2 : Aside (OwnE w2 wo.heap.size (.slice r2 (j + 1) t2) (l ++ [((Q : Int), (q : Int) + 1)])) := o2
          have D2 : Aside (Below wo.heap.size wo w2) := DX.out.trans b2
          have HL2 : Hid ((l ++ [((Q : Int), (q : Int) + 1)]).length = j + 1) := by show _ = _; rw [List.length_append, HL.out]; rfl
          clear hQ2 o2 b2 O DX HL
          go_wp2_with (at_builtin; refine Lib.wpList_append_run _ rfl _ _ 32 32 rfl _ _ rfl rfl _ w2 hr2 ?_)
          go_roundg (J - (j + 1))
          case measure => omega
          case rel => exact ⟨j + 1, q + 1, r2, t2, _, by go_num, by go_num, by omega, (by have := HQ.out; show _ = _; omega), rfl, by omega, Nat.le_refl _, HL2, O2, D2⟩
        · obtain rfl : j = J := by omega
          have hy : ¬ (j : Int) < (j : Int) := by omega
          have LX : Aside (Shr wr S v ls) := L.out.below DX.out
          have DW : Aside (Below S w wr) := D.out.trans (DX.out.mono sz)
          obtain ⟨n, hn⟩ : ∃ n, ls.length = n := ⟨_, rfl⟩
          have cnt := LV.out.cnt
          have sn := snap_any S v n ls wr LX.out hn (by omega) (fun d hd => by have := mem_len hd; rw [LV.out.len] at this; omega)
          have OX : Aside (OwnE wr wo.heap.size (.slice r j t) l) := O
          obtain rfl : q = id + j := HQ.out
          go_wp2_with fail
          clear HC hJ hX
          refine sn.mono ?_
          rintro r_ w2 ⟨a2, c2, rfl, l2, b2⟩
          have fN := fieldN (v : Int) (.slice a2 n c2)
          have L2 : Aside (Shr w2 S v ls) := LX.out.below b2
          have szw := DW.out.size
          have D2 : Aside (Below S w w2) := DW.out.trans (b2.mono (by omega))
          have I2 : Aside (IsL w2 r t l) := (O.out.below b2).is
          clear l2 b2 sn O OX LX DW DX
          have ad := sadd_any S v ls r j t l w2 L2.out I2.out HL.out (by omega) (by rw [LV.out.len]; omega) LV.out.fall.srt (by omega)
          obtain ⟨V, hV⟩ : ∃ V, (if j = 0 then v else v + 1) = V := ⟨_, rfl⟩
          rw [hV] at ad
          have hV2 : (j = 0 ∧ V = v) ∨ (0 < j ∧ V = v + 1) := by
            by_cases c : j = 0
            · rw [if_pos c] at hV; exact .inl ⟨c, hV.symm⟩
            · rw [if_neg c] at hV; exact .inr ⟨by omega, hV.symm⟩
          have HV2 : Hid _ := hV2
          have V1 : V ≤ v + 1 := by omega
          clear I2 hV hV2
          go_wp2_with fail
          refine ad.mono ?_
          rintro r_ w3 ⟨rfl, s3, g3⟩
          have LV3 : Aside (LevIs (addS ls l) (i + 1) (id + j) V) := by
            have := LV.out.add l (by rw [HL.out]; omega) V V1
            rw [HL.out] at this
            exact this
          have L3 : Aside (Shr w3 S V (addS ls l)) := s3
          have D3 : Aside (Below S w w3) := D2.out.trans (below_of_grown g3 (Nat.le_refl _) (by have := D2.out.size; omega))
          clear s3 g3
          have wv : IntKind.u64.wrap ((v : Int) + 1) = (v : Int) + 1 := by rw [IntKind.wrap_u64, Int.emod_eq_of_lt (by omega) (by omega)]
          obtain ⟨ks, hks⟩ : ∃ ks, addS ls l = ks := ⟨_, rfl⟩
          rw [hks] at LV3 L3
          obtain ⟨m, hm⟩ : ∃ m, ks.length = m := ⟨_, rfl⟩
          have c3 := LV3.out.cnt
          have f3 := LV3.out.few
          have m41 : m ≤ 41 := by omega
          have sn := snap_any S V m ks w3 L3.out hm (by omega) (fun d hd => by have := mem_len hd; rw [LV3.out.len] at this; omega)
          have HM : Hid _ := hm
          clear hks hm L2 D2 ad
          go_wp2_with fail
          refine sn.mono ?_
          rintro r_ w4 ⟨a4, c4, rfl, l4, b4⟩
          obtain ⟨R4, hR4⟩ : ∃ R, w4.heap.size = R := ⟨_, rfl⟩
          obtain ⟨u, hu⟩ : ∃ u, w4.alloc (.cells #[.int .u64 ((V : Nat) : Int), .slice a4 m c4] 30) = u := ⟨_, rfl⟩
          have HU : Hid _ := hu
          have bu : Below w4.heap.size w4 u := by rw [← hu]; exact (Below.refl _ _).alloc (Nat.le_refl _) _
          have uR : Aside (u.heap[R4]? = some (.cells #[.int .u64 ((V : Nat) : Int), .slice a4 m c4] 30 (0, 0))) := by rw [← hu, ← hR4]; exact heap_alloc_new w4 _
          have b3u : Below w3.heap.size w3 u := b4.trans (bu.mono b4.size)
          have L5 : Aside (Shr u S V ks) := L3.out.below b3u
          have s3 := D3.out.size
          have D5 : Aside (Below S w u) := D3.out.trans (b3u.mono (by omega))
          have B5 : Aside (Bls u w3.heap.size a4 m c4 ks) := l4.below bu
          clear hu bu b3u l4 b4 sn L3 D3
          go_upto_region 17 with fail
          rw [HU.out]
          clear HU
          have y0 := shr0 uR.out
          go_cut [73] (fun s73 wx => s73 = .bool false ∧ wx = u)
          case first =>
            rcases HV2.out with ⟨j0, v0⟩ | ⟨j0, v0⟩
            · subst j0 v0
              go_wp2_with fail
              go_meet
              exact ⟨rfl, rfl⟩
            · subst v0
              have jp : (0 : Int) < (j : Int) := by omega
              have jp2 : decide ((0 : Int) < (j : Int)) = true := decide_eq_true jp
              have jz : ¬ (j : Int) = 0 := by omega
              have jz2 : ((j : Int) == 0) = false := by simp; omega
              go_wp2_with fail
              go_meet
              exact ⟨rfl, rfl⟩
          case rest =>
           obtain ⟨rfl, hwc⟩ := hcut
           rw [hwc]
           clear hwc y0
           go_wp2_with fail
           go_loopg [10] m (fun kx s10 wy => ∃ (k : Nat), s10 = .int .i64 k ∧ k ≤ m ∧ m - k ≤ kx ∧ Aside (Below u.heap.size u wy))
           case atStart => exact ⟨0, rfl, by omega, by omega, Below.refl _ _⟩
           case round =>
             obtain ⟨k, rfl, hk, hkx, DY⟩ := hrel
             have szy := DY.out.size
             have sr := (DY.out.block R4 (lt_of_block uR.out)).trans uR.out
             have y0 := shr0 sr
             have y1 := shr1 sr
             have SR : Aside (wr.heap[R4]? = _) := sr
             clear sr
             by_cases hlt4 : k < m
             · have hy4 : (k : Int) < (m : Int) := by omega
               obtain ⟨bs, hb1, hb2, hb3⟩ := B5.out.below DY.out
               have hkb : k < bs.length := by omega
               obtain ⟨g, hga, hgb, hgs, e0, e1⟩ := hb3.at hkb
               obtain ⟨x, hx⟩ : ∃ x, bs[k] = x := ⟨_, rfl⟩
               rw [hx] at e0 e1
               have xm : x ∈ bs := by rw [← hx]; exact List.getElem_mem hkb
               have xk : x.d ∈ ks := by rw [← hb1]; exact List.mem_map.2 ⟨x, xm, rfl⟩
               have ox := hb3.own x xm
               have pos := LV3.out.fall.pos _ xk
               have srt := LV3.out.fall.srt _ xk
               have lx : x.d.length ≤ 1000000 := by have := mem_len xk; rw [LV3.out.len] at this; omega
               obtain ⟨q, hq⟩ : ∃ q, lv x.d = q := ⟨_, rfl⟩
               obtain ⟨K, hK⟩ : ∃ q, x.d.length = q := ⟨_, rfl⟩
               obtain ⟨xp, hxp⟩ : ∃ q, x.p = q := ⟨_, rfl⟩
               obtain ⟨xq, hxq⟩ : ∃ q, x.q = q := ⟨_, rfl⟩
               rw [hxp, hxq] at ox
               have q1 : Below wr.heap.size wr wr.drew := (Below.refl _ _).drew
               have ok := okR_any (q : Int) xp xq x.d wr.drew (ox.is.below q1) lx
               rw [show okX ((q : Int), x.d) = true by rw [okX_eq (m := q) (by rw [← hq]; rfl)]; exact (srtB_iff _).2 srt, hK] at ok
               rw [hq] at e0
               rw [hK, hxp, hxq] at e1
               rw [hK] at pos
               have k4 : ¬ (K : Int) = 0 := by omega
               have k5 : ((K : Int) == 0) = false := by simp; omega
               have OK : Aside (Calls Try.prog 17 #[.agg #[.int .i64 q, .slice xp K xq]] wr.drew fun e w' => e = .returned (.bool true) ∧ Below wr.drew.heap.size wr.drew w') := ok
               subst hga
               by_cases k0 : k = 0
               · have K0 : Hid (k = 0) := k0
                 clear k0
                 have KC : Aside (∀ v_, Below wr.heap.size wr v_ → v_.cell? ⟨R4, 1, none⟩ = some (.slice (some ⟨g, 0, none⟩) m c4) ∧ v_.cell? ⟨g, k * 2, none⟩ = some (.int .i64 q) ∧ v_.cell? ⟨g, k * 2 + 1, none⟩ = some (.slice xp K xq)) := fun v_ hv => ⟨shr1 ((hv.block R4 (lt_of_block SR.out)).trans SR.out), (hv.cell (p := ⟨g, k * 2, none⟩) hgs).trans e0, (hv.cell (p := ⟨g, k * 2 + 1, none⟩) hgs).trans e1⟩
                 clear hx xm xk ox srt lx hq hK hxp hxq ok hb1 hb2 hb3 e0 e1
                 go_upto_region 22 with fail
                 refine lev_reg0 (fun _ _ _ _ _ h => h) (k' := 0) (q' := 0) hlt4 m41 pos K0.out KC.out OK.out ?_
                 intro z1 x1 f81 f82 f83 f84 f85 f86 f87 f88 f89 f90 f91 f92 f93 f94 f95 f96 f97 f98 f99 f100 f101 f102 f103 f104 f105 f106 f107 f108 f109 f110 f111 f112 f113 f114 f115 f116
                 have DZ : Aside (Below u.heap.size u z1) := DY.out.trans (x1.mono szy)
                 clear OK KC
                 go_wp2
                 go_roundg (m - (k + 1))
                 case measure => omega
                 case rel => exact ⟨k + 1, by go_num, by omega, Nat.le_refl _, DZ⟩
               · have kp : (0 : Int) < (k : Int) := by omega
                 have kd : decide ((0 : Int) < (k : Int)) = true := decide_eq_true kp
                 obtain ⟨k', hk'0⟩ : ∃ k', k = k' + 1 := ⟨k - 1, by omega⟩
                 have HK' : Hid _ := hk'0
                 have hk' := hk'0
                 have hkb' : k' < bs.length := by omega
                 obtain ⟨g', hga', _, hgs', e0', _⟩ := hb3.at hkb'
                 injection hga' with hga'
                 injection hga' with hga'
                 subst hga'
                 have fal : lv bs[k].d < lv bs[k'].d := by
                   subst hk'
                   have := List.pairwise_iff_getElem.1 LV3.out.fall.fall k' (k' + 1) (by rw [← hb1, List.length_map]; omega) (by rw [← hb1, List.length_map]; omega) (by omega)
                   have e1 : (ks[k']'(by rw [← hb1, List.length_map]; omega)) = bs[k'].d := by simp [← hb1]
                   have e2 : (ks[k' + 1]'(by rw [← hb1, List.length_map]; omega)) = bs[k' + 1].d := by simp [← hb1]
                   rw [e1, e2] at this
                   exact this
                 rw [hx, hq] at fal
                 obtain ⟨q', hq'⟩ : ∃ q, lv bs[k'].d = q := ⟨_, rfl⟩
                 rw [hq'] at e0' fal
                 have kf : ¬ (q' : Int) ≤ (q : Int) := by omega
                 have kf2 : decide ((q' : Int) ≤ (q : Int)) = false := decide_eq_false kf
                 have kw : IntKind.i64.wrap ((k : Int) - 1) = (k' : Int) := by rw [IntKind.wrap_i64]; omega
                 have kw3 : (k' : Int) < (m : Int) := by omega
                 have KC : Aside (∀ v_, Below wr.heap.size wr v_ → v_.cell? ⟨R4, 1, none⟩ = some (.slice (some ⟨g, 0, none⟩) m c4) ∧ v_.cell? ⟨g, k * 2, none⟩ = some (.int .i64 q) ∧ v_.cell? ⟨g, k * 2 + 1, none⟩ = some (.slice xp K xq) ∧ v_.cell? ⟨g, k' * 2, none⟩ = some (.int .i64 q')) := fun v_ hv => ⟨shr1 ((hv.block R4 (lt_of_block SR.out)).trans SR.out), (hv.cell (p := ⟨g, k * 2, none⟩) hgs).trans e0, (hv.cell (p := ⟨g, k * 2 + 1, none⟩) hgs).trans e1, (hv.cell (p := ⟨g, k' * 2, none⟩) hgs).trans e0'⟩
                 clear hx xm xk ox srt lx hq hK hxp hxq ok hb1 hb2 hb3 e0 e1 e0' hq' hk' hk'0
                 go_upto_region 22 with fail
                 refine lev_reg1 (fun _ _ _ _ _ h => h) hlt4 m41 pos (by omega) HK'.out fal KC.out OK.out ?_
                 intro z1 x1 f81 f82 f83 f84 f85 f86 f87 f88 f89 f90 f91 f92 f93 f94 f95 f96 f97 f98 f99 f100 f101 f102 f103 f104 f105 f106 f107 f108 f109 f110 f111 f112 f113 f114 f115 f116
                 have DZ : Aside (Below u.heap.size u z1) := DY.out.trans (x1.mono szy)
                 clear OK KC
                 go_wp2
                 go_roundg (m - (k + 1))
                 case measure => omega
                 case rel => exact ⟨k + 1, by go_num, by omega, Nat.le_refl _, DZ⟩
             · obtain rfl : k = m := by omega
               have hy4 : ¬ (k : Int) < (k : Int) := by omega
               have L6 : Aside (Shr wr S V ks) := L5.out.below DY.out
               have s5 := D5.out.size
               have D6 : Aside (Below S w wr) := D5.out.trans (DY.out.mono (by omega))
               clear L5 D5 DY
               go_wp2
               go_roundg (41 - (i + 1))
               case measure => omega
               case rel => exact ⟨i + 1, id + j, V, ks, by go_num, by simp, by omega, Nat.le_refl _, LV3, L6, D6⟩
    · have hz : ¬ ((i : Int) < (len0 : Int) ∧ (i : Int) < 40) := by omega
      have ln := slen_any S v ls wo L.out (by rw [LV.out.len]; omega)
      rw [LV.out.len] at ln
      by_cases c1 : i < len0
      · have z1 : (i : Int) < (len0 : Int) := by omega
        have z2 : ¬ (i : Int) < 40 := by omega
        have z3 : decide ((i : Int) < (len0 : Int)) = true := decide_eq_true z1
        go_wp2_with fail
        refine ln.mono ?_
        rintro r w2 ⟨rfl, b2⟩
        have D2 : Aside (Below S w w2) := D.out.trans (b2.mono (by omega))
        have aw := sawake_any w2
        clear b2 ln
        go_wp2_with fail
        refine aw.mono ?_
        rintro r w3 ⟨rfl, b3⟩
        have s2 := D2.out.size
        have D3 : Aside (Below S w w3) := D2.out.trans (b3.mono (by omega))
        clear b3 aw
        go_wp2
        go_ret
        exact ⟨rfl, by first | exact D3.out | (rw [HS.out]; exact D3.out)⟩
      · have z1 : ¬ (i : Int) < (len0 : Int) := by omega
        have z3 : decide ((i : Int) < (len0 : Int)) = false := decide_eq_false z1
        go_wp2_with fail
        refine ln.mono ?_
        rintro r w2 ⟨rfl, b2⟩
        have D2 : Aside (Below S w w2) := D.out.trans (b2.mono (by omega))
        have aw := sawake_any w2
        clear b2 ln
        go_wp2_with fail
        refine aw.mono ?_
        rintro r w3 ⟨rfl, b3⟩
        have s2 := D2.out.size
        have D3 : Aside (Below S w w3) := D2.out.trans (b3.mono (by omega))
        clear b3 aw
        go_wp2
        go_ret
        exact ⟨rfl, by first | exact D3.out | (rw [HS.out]; exact D3.out)⟩
end Go.Proofs.Ytboccihcomaaoaa
