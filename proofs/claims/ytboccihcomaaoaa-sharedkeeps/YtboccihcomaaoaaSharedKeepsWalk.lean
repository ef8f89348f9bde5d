/- The walk of 'SharedKeeps'. -/
import Derived.Test.YtboccihcomaaoaaShrY
import Derived.Test.YtboccihcomaaoaaMask
import Derived.Test.YtboccihcomaaoaaRowAt
import Derived.Test.YtboccihcomaaoaaEntR
import Derived.Deep.QuietTactic
import Derived.BigQuiet
import Derived.Deep.LoopGhost
import Derived.Deep.CutBlock
import Derived.Deep.DeepCutAuto
namespace Go.Proofs.Ytboccihcomaaoaa
open Go.RowKit Go.Lib Go.Sort
set_option linter.unusedVariables false

theorem arr0 (w : World) : ArrB 26 (w.alloc (.cells #[.bool false, .bool false, .bool false, .bool false, .bool false, .bool false, .bool false, .bool false, .bool false, .bool false, .bool false, .bool false, .bool false, .bool false, .bool false, .bool false, .bool false, .bool false, .bool false, .bool false, .bool false, .bool false, .bool false, .bool false, .bool false, .bool false, .bool false, .bool false, .bool false, .bool false, .bool false] 26)) w.heap.size 31 (fun _ => false) := by
  refine ⟨_, heap_alloc_new w _, rfl, fun t ht => ?_⟩
  have e : (#[.bool false, .bool false, .bool false, .bool false, .bool false, .bool false, .bool false, .bool false, .bool false, .bool false, .bool false, .bool false, .bool false, .bool false, .bool false, .bool false, .bool false, .bool false, .bool false, .bool false, .bool false, .bool false, .bool false, .bool false, .bool false, .bool false, .bool false, .bool false, .bool false, .bool false, .bool false] : Array Value) = Array.replicate 31 (.bool false) := rfl
  rw [e, Array.getElem?_replicate, if_pos ht]

set_option maxHeartbeats 8000000 in
set_option maxRecDepth 100000 in
theorem sharedKeeps_walk (a0 : Option Addr) (len0 cap0 : Nat) (zs : List Int) (a1 : Option Addr) (len1 cap1 : Nat) (gs : List Int) (w : World) (h0 : IsRow .u64 w a0 len0 cap0 zs) (h1 : IsRow .i64 w a1 len1 cap1 gs) :
    Calls Try.prog 3 #[.slice a0 len0 cap0, .slice a1 len1 cap1] w fun r w' => r = .returned (.bool true) ∧ Below w.heap.size w w' := by
  obtain ⟨S, hS⟩ : ∃ S, w.heap.size = S := ⟨_, rfl⟩
  have HS : Hid _ := hS
  have hl0 := h0.len_le
  have hl1 := h1.len_le
  have H0 : Aside (IsRow .u64 w a0 len0 cap0 zs) := h0
  have H1 : Aside (IsRow .i64 w a1 len1 cap1 gs) := h1
  obtain ⟨N, hN, n30, nl⟩ : ∃ N : Nat, min (len0 : Int) 30 = (N : Int) ∧ N ≤ 30 ∧ N ≤ len0 := ⟨min len0 30, by omega, by omega, by omega⟩
  have nw := snew_any w
  rw [hS] at nw
  obtain ⟨w1, hw1⟩ : ∃ W, w.alloc (.cells #[.int .u64 0, .slice none 0 0] 69) = W := ⟨_, rfl⟩
  have L0 : Shr w1 S 0 [] := by rw [← hw1, ← hS]; exact shr_new w
  have D0 : Below S w w1 := by rw [← hw1, ← hS]; exact (Below.refl _ _).alloc (Nat.le_refl _) _
  have z1 : w1.heap.size = S + 1 := by rw [← hw1, ← hS]; simp
  obtain ⟨w2, hw2⟩ : ∃ W, w1.alloc (.cells #[.bool false, .bool false, .bool false, .bool false, .bool false, .bool false, .bool false, .bool false, .bool false, .bool false, .bool false, .bool false, .bool false, .bool false, .bool false, .bool false, .bool false, .bool false, .bool false, .bool false, .bool false, .bool false, .bool false, .bool false, .bool false, .bool false, .bool false, .bool false, .bool false, .bool false, .bool false] 26) = W := ⟨_, rfl⟩
  have b2 : Below w1.heap.size w1 w2 := by rw [← hw2]; exact (Below.refl _ _).alloc (Nat.le_refl _) _
  have K0 : Aside (KeepI 26 w S zs 0 0 0 (fun _ => false) [] w2) := ⟨Put.none zs, L0.below b2, by rw [← hw2, ← z1]; exact arr0 w1, D0.trans (b2.mono (by omega))⟩
  have HW1 : Hid _ := hw1
  have HW2 : Hid _ := hw2
  clear h0 h1 hw1 hw2 b2 L0 D0
  go_enter Try.func3, Try.ntmps3
  go_wp2_with fail
  refine nw.mono ?_
  rintro r w1_ ⟨rfl, rfl⟩
  rw [HW1.out]
  clear nw
  go_wp2_with fail
  rw [HW2.out]
  clear HW1 HW2 hN z1
  go_loopg [8, 9] N (fun kx s8 s9 wx => ∃ (i left v : Nat) (th : Nat → Bool) (ls : List (List Ent)), s9 = .int .i64 i ∧ s8 = .int .i64 left ∧ i ≤ N ∧ left ≤ 30 ∧ N - i ≤ kx ∧ v ≤ 2 * i ∧ Aside (KeepI 26 w S zs i left v th ls wx))
  case atStart => exact ⟨0, 0, 0, _, [], rfl, rfl, by omega, by omega, by omega, by omega, K0⟩
  case round =>
    clear K0
    obtain ⟨i, left, v, th, ls, rfl, rfl, hi, hleft, hix, hv, KI⟩ := hrel
    obtain ⟨wo, hwo⟩ : ∃ x : World, x = wr := ⟨_, rfl⟩
    subst hwo
    have sz : S + 1 < wo.heap.size := KI.out.arr.lt
    by_cases hlt : i < N
    · have hz : (i : Int) < (N : Int) := by omega
      obtain ⟨n, hn⟩ : ∃ n, ls.length = n := ⟨_, rfl⟩
      have HN : Hid _ := hn
      have n30' : n ≤ 30 := by have := KI.out.put.cnt; omega
      have lens : ls.flatten.length ≤ 30 := by rw [KI.out.put.len]; exact hleft
      have sn := snap_any S v n ls wo KI.out.shr hn (by omega) (fun d hd => by have := mem_len hd; omega)
      clear hn
      go_wp2_with fail
      refine sn.mono ?_
      rintro r_ w3 ⟨a3, c3, rfl, l3, b3⟩
      obtain ⟨R, hR⟩ : ∃ R, w3.heap.size = R := ⟨_, rfl⟩
      obtain ⟨u, hu⟩ : ∃ u, w3.alloc (.cells #[.int .u64 v, .slice a3 n c3] 30) = u := ⟨_, rfl⟩
      have HU : Hid _ := hu
      have bu : Below w3.heap.size w3 u := by rw [← hu]; exact (Below.refl _ _).alloc (Nat.le_refl _) _
      have bou : Below wo.heap.size wo u := b3.trans (bu.mono b3.size)
      have KU : Aside (KeepI 26 w S zs i left v th ls u) := KI.out.on bou
      have XU : Aside (u.heap[R]? = some (.cells #[.int .u64 v, .slice a3 n c3] 30 (0, 0))) := by rw [← hu, ← hR]; exact heap_alloc_new w3 _
      have LU : Aside (Bls u wo.heap.size a3 n c3 ls) := l3.below bu
      have RB : wo.heap.size ≤ R := by rw [← hR]; exact b3.size
      have usz : R < u.heap.size := lt_of_block XU.out
      clear hu bu bou l3 b3 sn KI
      go_wp2_with fail
      rw [HU.out]
      clear HU
      go_loopg [11, 12] n (fun kx s11 s12 wx => ∃ (k m : Nat) (r : Option Addr) (t : Nat), s12 = .int .i64 k ∧ s11 = .slice r m t ∧ Hid ((ls.take k).flatten.length = m) ∧ m ≤ 1000 ∧ k ≤ n ∧ n - k ≤ kx ∧ Aside (OwnE wx u.heap.size (.slice r m t) (ls.take k).flatten) ∧ Aside (Below u.heap.size u wx))
      case atStart => exact ⟨0, 0, none, 0, rfl, rfl, rfl, by omega, by omega, by omega, OwnE.nil _ _, Below.refl _ _⟩
      case round =>
        obtain ⟨k, m, r, t, rfl, rfl, HM, hm1, hk, hkx, O, DX⟩ := hrel
        have szx := DX.out.size
        have y1 := shr1 ((DX.out.block R usz).trans XU.out)
        by_cases hlt2 : k < n
        · have hy : (k : Int) < (n : Int) := by omega
          obtain ⟨bs, hb1, hb2, hb3⟩ := LU.out.below DX.out
          have hkb : k < bs.length := by omega
          have hkl : k < ls.length := by have := HN.out; omega
          obtain ⟨g, hga, hgb, hgs, e0, e1⟩ := hb3.at hkb
          have xd : bs[k].d = ls[k] := by
            have : (bs.map Bk.d)[k]? = ls[k]? := by rw [hb1]
            rw [List.getElem?_map, List.getElem?_eq_getElem hkb, List.getElem?_eq_getElem hkl] at this
            simpa using this
          have L := (hb3.own _ (List.getElem_mem hkb)).is
          rw [xd] at e1 L
          obtain ⟨d, hd⟩ : ∃ d, ls[k] = d := ⟨_, rfl⟩
          have ft := flat_take hkl
          have fl := flat_take_le ls (k + 1)
          rw [hd] at e1 L ft
          obtain ⟨v2, w2, hr, o2, g2⟩ := app_run (d := (ls.take k).flatten) (c := d) O.out L (by rw [ft, List.length_append] at fl; omega) szx 32
          obtain ⟨r2, t2, rfl, _⟩ := o2.isL
          have D2 : Aside (Below u.heap.size u w2) := OwnE.grown O.out DX.out g2 szx
          rw [← ft] at o2 hr
          obtain ⟨n2, hn2⟩ : ∃ n2, (ls.take (k + 1)).flatten.length = n2 := ⟨_, rfl⟩
          rw [hn2] at hr
          have O2 : Aside (OwnE w2 u.heap.size (.slice r2 n2 t2) (ls.take (k + 1)).flatten) := by rw [← hn2]; exact o2
          have n2b : n2 ≤ 1000 := by omega
          have HN2 : Hid _ := hn2
          obtain ⟨dl, hdl⟩ : ∃ dl, d.length = dl := ⟨_, rfl⟩
          rw [hdl] at e1 hr
          subst hga
          clear o2 g2 ft fl hd hn2 L O DX hb1 hb2 hb3 xd e0 hdl
          go_wp2_with (at_builtin; refine Lib.wpList_append_run wr rfl _ _ 32 32 rfl _ _ rfl rfl _ w2 hr ?_)
          go_roundg (n - (k + 1))
          case measure => omega
          case rel => exact ⟨k + 1, n2, r2, t2, by go_num, rfl, HN2, n2b, by omega, Nat.le_refl _, O2, D2⟩
        · obtain rfl : k = n := by omega
          have hy : ¬ (k : Int) < (k : Int) := by omega
          have e : (ls.take k).flatten = ls.flatten := by rw [List.take_of_length_le (by have := HN.out; omega)]
          rw [e] at HM O
          have SX : Aside (Seen wr wo.heap.size R v a3 k c3 ls r m t) := ⟨(DX.out.block R usz).trans XU.out, RB, LU.out.below DX.out, O.out.low (by omega)⟩
          have KX : Aside (KeepI 26 w S zs i left v th ls wr) := KU.out.on DX.out
          obtain ⟨wp, hwp⟩ : ∃ x : World, x = wr := ⟨_, rfl⟩
          subst hwp
          obtain ⟨b, off, ha, hb, hc, _⟩ := H0.out.at (show i < len0 by omega)
          have hc2 := (KX.out.low.cell (p := ⟨b, off + i, none⟩) (by show b < S; omega)).trans hc
          obtain ⟨z, hzz⟩ : ∃ z, zs.getD i 0 = z := ⟨_, rfl⟩
          rw [hzz] at hc2
          have hz0 : (i : Int) < (len0 : Int) := by omega
          obtain ⟨R5, hR5⟩ : ∃ R, wp.heap.size = R := ⟨_, rfl⟩
          obtain ⟨u5, hu5⟩ : ∃ u, wp.alloc (.cells #[.int .u64 z, .int .i64 ((i : Int) + 1)] 37) = u := ⟨_, rfl⟩
          have HU5 : Hid _ := hu5
          have b5 : Below wp.heap.size wp u5 := by rw [← hu5]; exact (Below.refl _ _).alloc (Nat.le_refl _) _
          have il : IsL u5 (some ⟨R5, 0, none⟩) 1 [keyK zs i] := by unfold keyK; rw [hzz, ← hu5, ← hR5]; exact IsL.one wp (z, (i : Int) + 1)
          have K5 : Aside (KeepI 26 w S zs i left v th ls u5) := KX.out.on b5
          have S5 : Aside (Seen u5 wo.heap.size R v a3 k c3 ls r m t) := SX.out.below b5
          have ad := sadd_some S v ls (some ⟨R5, 0, none⟩) 1 1 [keyK zs i] u5 K5.out.shr il rfl (by omega) (by have := HN.out; omega) (by omega) K5.out.put.srt (by omega)
          clear hu5 b5 il hc hzz O DX KU LU XU KX SX e
          subst ha
          go_wp2_with fail
          clear y1
          try rw [HU5.out]
          refine ad.mono ?_
          rintro r_ w6 ⟨rfl, s6, g6⟩
          have arr6 := K5.out.arr.kept (g6.block _ K5.out.arr.lt (by simp))
          obtain ⟨ac6, af6⟩ := arr6.cell (t := i + 1) (by omega)
          obtain ⟨cs6, hcs6⟩ : ∃ cs, w6.heap[S + 1]? = some (.cells cs 26 (0, 0)) := by obtain ⟨cs, h, _⟩ := arr6; exact ⟨cs, h⟩
          obtain ⟨w7, hw7⟩ : ∃ W, w6.setCell ⟨S + 1, i + 1, none⟩ (.bool true) = W := ⟨_, rfl⟩
          have HW7 : Hid _ := hw7
          have g67 : w6.grownBy w7 (some (S + 1)) := by rw [← hw7]; exact grown_set w6 (S + 1) (i + 1) _
          have K7 : Aside (KeepI 26 w S zs (i + 1) (left + 1) (v + 1) (setG th (i + 1) true) (addS ls [keyK zs i]) w7) := by
            refine ⟨K5.out.put.add (by omega), ?_, ?_, ?_⟩
            · rw [← hw7]; exact s6.set hcs6 (by decide) (by decide) (by decide) _
            · rw [← hw7]; exact arr6.set (by omega) true
            · exact (K5.out.low.trans (below_of_grown g6 (Nat.le_refl _) (by have := K5.out.shr.lt; omega))).trans (below_of_grown g67 (by omega) (by have := s6.lt; omega))
          have S7 : Aside (Seen w7 wo.heap.size R v a3 k c3 ls r m t) := (S5.out.grown g6 (by omega)).grown g67 (by omega)
          clear ad s6 g6 arr6 hcs6 hw7 g67 K5 S5 hc2
          have i1 : (i : Int) + 1 < 31 := by omega
          have i1w : IntKind.i64.wrap ((i : Int) + 1) = (i : Int) + 1 := by rw [IntKind.wrap_i64]; omega
          have i1n : ((i : Int) + 1).toNat = i + 1 := by omega
          have i1p : (0 : Int) ≤ (i : Int) + 1 := by omega
          have lw : IntKind.i64.wrap ((left : Int) + 1) = (left : Int) + 1 := by rw [IntKind.wrap_i64]; omega
          go_upto_if 64 with fail
          rw [HW7.out]
          clear HW7 ac6 af6
          obtain ⟨K1, hK1⟩ : ∃ ks, addS ls [keyK zs i] = ks := ⟨_, rfl⟩
          rw [hK1] at K7
          obtain ⟨T7, hT7⟩ : ∃ f, setG th (i + 1) true = f := ⟨_, rfl⟩
          rw [hT7] at K7
          clear hK1 hT7
          go_cut [8] (fun s8 wx => ∃ (lf v' : Nat) (th' : Nat → Bool) (ks : List (List Ent)), s8 = .int .i64 lf ∧ lf ≤ 30 ∧ v' ≤ 2 * (i + 1) ∧ KeepI 26 w S zs (i + 1) lf v' th' ks wx ∧ Seen wx wo.heap.size R v a3 k c3 ls r m t)
          case first =>
            by_cases hg : i < len1
            · have hgz : (i : Int) < (len1 : Int) := by omega
              obtain ⟨b1, off1, ha1, hb1, hc1, _⟩ := H1.out.at hg
              have hc1' := (K7.out.low.cell (p := ⟨b1, off1 + i, none⟩) (by show b1 < S; omega)).trans hc1
              obtain ⟨y, hyy⟩ : ∃ y, gs.getD i 0 = y := ⟨_, rfl⟩
              rw [hyy] at hc1'
              obtain ⟨X, hX, X1⟩ : ∃ X : Nat, bits .and .i64 y 255 = (X : Int) ∧ X < 256 := by
                have := mask_i64 y 8 255 256 (by omega) rfl rfl
                exact ⟨(y % 256).toNat, by rw [this]; omega, by omega⟩
              obtain ⟨Q, hQ⟩ : ∃ T, X % N = T := ⟨_, rfl⟩
              have qN : Q < N := by rw [← hQ]; exact Nat.mod_lt _ (by omega)
              have ww4 : (X : Int) % (N : Int) = (Q : Int) := by rw [← hQ]; rfl
              have ww3 : Int.tmod (X : Int) (N : Int) = (Q : Int) := by rw [← hQ]; rfl
              have ww6 : ¬ (N : Int) = 0 := by omega
              have ww7 : ((N : Int) == 0) = false := by simp; omega
              have eD : ((Q + 1 : Nat) : Int) = (Q : Int) + 1 := by omega
              have hDw : IntKind.i64.wrap ((Q : Int) + 1) = (Q : Int) + 1 := by rw [IntKind.wrap_i64]; omega
              have d31 : (Q : Int) + 1 < 31 := by omega
              have d0 : (0 : Int) ≤ (Q : Int) + 1 := by omega
              have dn : ((Q : Int) + 1).toNat = Q + 1 := by omega
              have hb7 : Below w7.heap.size w7 w7.drew := (Below.refl _ _).drew
              have dr := sdrop_any S (v + 1) K1 ((Q : Int) + 1) w7.drew (K7.out.shr.below hb7) (by have := K7.out.put.cnt; omega) (by rw [K7.out.put.len]; omega) K7.out.put.srt (by omega)
              unfold DropIs at dr
              have hhD := K7.out.put.has (Q + 1) (by omega) (by omega)
              rw [eD] at hhD
              rw [← hhD] at dr
              have pd := K7.out.put.drop (k := Q + 1) (by omega) (by omega)
              rw [eD] at pd
              obtain ⟨B, hB⟩ : ∃ B, T7 (Q + 1) = B := ⟨_, rfl⟩
              rw [hB] at dr
              have HB : Hid _ := hB
              obtain ⟨ac, af⟩ := K7.out.arr.cell (t := Q + 1) (by omega)
              rw [hB] at ac
              have DR : Aside (Calls Try.prog 11 #[.pointer (some ⟨S, 0, none⟩), .int .i64 ((Q : Int) + 1)] w7.drew fun r w' => r = .returned (.bool B) ∧ Shr w' S (if B = true then v + 1 + 1 else v + 1) (dropS K1 ((Q : Int) + 1)) ∧ w7.drew.grownBy w' (some S)) := dr
              have KC : Aside (∀ W : World, W.heap[S + 1]? = w7.heap[S + 1]? → W.cell? ⟨S + 1, Q + 1, none⟩ = some (.bool B)) := fun W hW => (World.cell?_of_block (a := ⟨S + 1, Q + 1, none⟩) hW).trans ac
              have c0 : w7.drew.heap[S + 1]? = w7.heap[S + 1]? := rfl
              have mx := mixed
              subst ha1
              have PD : Aside ((T7 (Q + 1) = false → Put zs (i + 1) (left + 1) T7 (dropS K1 ((Q : Int) + 1))) ∧ (T7 (Q + 1) = true → 0 < left + 1 ∧ Put zs (i + 1) (left + 1 - 1) (setG T7 (Q + 1) false) (dropS K1 ((Q : Int) + 1)))) := pd
              clear hc1 hyy hQ dr hB eD hhD pd
              go_upto_region 21 with fail
              clear hc1'
              go_region_held3 (fun W => W.cell? ⟨S + 1, Q + 1, none⟩ = some (.bool B)) (first | with_reducible exact KC.out _ c0 | with_reducible exact KC.out _ c8)
                ((go_at_call 11; (with_reducible refine Calls.mono DR.out ?_); rintro r_ w8 ⟨rfl, s8, g8⟩; have c8 : w8.heap[S + 1]? = w7.heap[S + 1]? := (g8.block (S + 1) K7.out.arr.lt (by simp))))
              have arr8 := K7.out.arr.kept c8
              obtain ⟨cs8, hcs8⟩ : ∃ cs, w8.heap[S + 1]? = some (.cells cs 26 (0, 0)) := by obtain ⟨cs, h, _⟩ := arr8; exact ⟨cs, h⟩
              obtain ⟨ac8, af8⟩ := arr8.cell (t := Q + 1) (by omega)
              rw [HB.out] at ac8
              have low8 : Below S w w8 := (K7.out.low.trans (hb7.mono (by have := K7.out.shr.lt; omega))).trans (below_of_grown g8 (Nat.le_refl _) (by have := K7.out.shr.lt; exact Nat.le_of_lt this))
              have S8 := (S7.out.below hb7).grown g8 (show S < wo.heap.size by omega)
              cases B with
              | true =>
                have s8' : Shr w8 S (v + 1 + 1) (dropS K1 ((Q : Int) + 1)) := by rw [if_pos rfl] at s8; exact s8
                obtain ⟨lp, pp⟩ := PD.out.2 HB.out
                have g89 : w8.grownBy (w8.setCell ⟨S + 1, Q + 1, none⟩ (.bool false)) (some (S + 1)) := grown_set w8 (S + 1) (Q + 1) _
                have K9 : Aside (KeepI 26 w S zs (i + 1) left (v + 1 + 1) (setG T7 (Q + 1) false) (dropS K1 ((Q : Int) + 1)) (w8.setCell ⟨S + 1, Q + 1, none⟩ (.bool false))) :=
                  ⟨by have := pp; rw [Nat.add_sub_cancel] at this; exact this, s8'.set hcs8 (by decide) (by decide) (by decide) _, arr8.set (by omega) false, low8.trans (below_of_grown g89 (by omega) (by have := s8'.lt; omega))⟩
                have S9 : Aside (Seen (w8.setCell ⟨S + 1, Q + 1, none⟩ (.bool false)) wo.heap.size R v a3 k c3 ls r m t) := S8.grown g89 (by omega)
                have lw2 : IntKind.i64.wrap ((left : Int) + 1 - 1) = (left : Int) := by rw [IntKind.wrap_i64]; omega
                clear s8 g8 s8' arr8 hcs8 low8 S8 PD pp g89 c8 KC DR K7 S7 ac
                go_wp2_with fail
                go_meet
                exact ⟨left, v + 1 + 1, _, _, by first | rfl | (congr 1; omega), by omega, by omega, K9.out, S9.out⟩
              | false =>
                have s8' : Shr w8 S (v + 1) (dropS K1 ((Q : Int) + 1)) := by rw [if_neg (by simp)] at s8; exact s8
                have pp := PD.out.1 HB.out
                have K9 : Aside (KeepI 26 w S zs (i + 1) (left + 1) (v + 1) T7 (dropS K1 ((Q : Int) + 1)) w8) := ⟨pp, s8', arr8, low8⟩
                have S9 : Aside (Seen w8 wo.heap.size R v a3 k c3 ls r m t) := S8
                have l30 : left + 1 ≤ 30 := by have := K9.out.put.few; omega
                clear s8 g8 s8' arr8 hcs8 low8 S8 PD pp c8 KC DR K7 S7 ac
                go_wp2_with fail
                go_meet
                exact ⟨left + 1, v + 1, _, _, by first | rfl | go_num, l30, by omega, K9.out, S9.out⟩
            · have hgz : ¬ (i : Int) < (len1 : Int) := by omega
              have l30 : left + 1 ≤ 30 := by have := K7.out.put.few; omega
              go_wp2_with fail
              go_meet
              exact ⟨left + 1, v + 1, _, _, by first | rfl | go_num, l30, by omega, K7.out, S7.out⟩
          case rest =>
            obtain ⟨lf, v', th', ks, rfl, hlf, hv', KC0, SC0⟩ := hcut
            have KC : Aside (KeepI 26 w S zs (i + 1) lf v' th' ks wc) := KC0
            have SC : Aside (Seen wc wo.heap.size R v a3 k c3 ls r m t) := SC0
            clear KC0 SC0 K7 S7
            go_wp2_with fail
            go_loopg [14, 15] k (fun kx s14 s15 wx => ∃ (j m2 : Nat) (r2 : Option Addr) (t2 : Nat), s15 = .int .i64 j ∧ s14 = .slice r2 m2 t2 ∧ Hid ((ls.take j).flatten.length = m2) ∧ m2 ≤ 1000 ∧ j ≤ k ∧ k - j ≤ kx ∧ Aside (OwnE wx wc.heap.size (.slice r2 m2 t2) (ls.take j).flatten) ∧ Aside (Below wc.heap.size wc wx))
            case atStart => exact ⟨0, 0, none, 0, rfl, rfl, rfl, by omega, by omega, by omega, OwnE.nil _ _, Below.refl _ _⟩
            case round =>
              obtain ⟨j, m2, r2, t2, rfl, rfl, HM2, hm2, hj, hjx, O, DX⟩ := hrel
              have szx := DX.out.size
              have y1 := shr1 ((DX.out.block R (lt_of_block SC.out.box)).trans SC.out.box)
              by_cases hlt3 : j < k
              · have hy3 : (j : Int) < (k : Int) := by omega
                obtain ⟨bs, hb1, hb2, hb3⟩ := SC.out.row.below DX.out
                have hkb : j < bs.length := by omega
                have hkl : j < ls.length := by have := HN.out; omega
                obtain ⟨g, hga, hgb, hgs, e0, e1⟩ := hb3.at hkb
                have xd : bs[j].d = ls[j] := by
                  have : (bs.map Bk.d)[j]? = ls[j]? := by rw [hb1]
                  rw [List.getElem?_map, List.getElem?_eq_getElem hkb, List.getElem?_eq_getElem hkl] at this
                  simpa using this
                have L := (hb3.own _ (List.getElem_mem hkb)).is
                rw [xd] at e1 L
                obtain ⟨d, hd⟩ : ∃ d, ls[j] = d := ⟨_, rfl⟩
                have ft := flat_take hkl
                have fl := flat_take_le ls (j + 1)
                rw [hd] at e1 L ft
                obtain ⟨v2, w2_, hr, o2, g2⟩ := app_run (d := (ls.take j).flatten) (c := d) O.out L (by rw [ft, List.length_append] at fl; omega) szx 32
                obtain ⟨r3, t3, rfl, _⟩ := o2.isL
                have D2 : Aside (Below wc.heap.size wc w2_) := OwnE.grown O.out DX.out g2 szx
                rw [← ft] at o2 hr
                obtain ⟨n2, hn2⟩ : ∃ n2, (ls.take (j + 1)).flatten.length = n2 := ⟨_, rfl⟩
                rw [hn2] at hr
                have O2 : Aside (OwnE w2_ wc.heap.size (.slice r3 n2 t3) (ls.take (j + 1)).flatten) := by rw [← hn2]; exact o2
                have n2b : n2 ≤ 1000 := by omega
                have HN2 : Hid _ := hn2
                obtain ⟨dl, hdl⟩ : ∃ dl, d.length = dl := ⟨_, rfl⟩
                rw [hdl] at e1 hr
                rw [hga] at y1
                clear o2 g2 ft fl hd hn2 L O DX hb1 hb2 hb3 xd e0 hdl
                go_wp2_with (at_builtin; refine Lib.wpList_append_run wr rfl _ _ 32 32 rfl _ _ rfl rfl _ w2_ hr ?_)
                go_roundg (k - (j + 1))
                case measure => omega
                case rel => exact ⟨j + 1, n2, r3, t3, by go_num, rfl, HN2, n2b, by omega, Nat.le_refl _, O2, D2⟩
              · obtain rfl : j = k := by omega
                have hy3 : ¬ (j : Int) < (j : Int) := by omega
                have e : (ls.take j).flatten = ls.flatten := by rw [List.take_of_length_le (by have := HN.out; omega)]
                rw [e] at HM2 O
                obtain ⟨wq, hwq⟩ : ∃ x : World, x = wr := ⟨_, rfl⟩
                subst hwq
                have KQ : Aside (KeepI 26 w S zs (i + 1) lf v' th' ks wq) := KC.out.on DX.out
                have OW : Aside (OwnE wq wo.heap.size (.slice r m t) ls.flatten) := SC.out.own.below DX.out
                have ON : Aside (OwnE wq wc.heap.size (.slice r2 m2 t2) ls.flatten) := O.out
                have al := sall_any S v' ks wq KQ.out.shr (by rw [KQ.out.put.len]; omega)
                rw [KQ.out.put.len] at al
                obtain ⟨A, hA⟩ : ∃ A, sortE ks.flatten = A := ⟨_, rfl⟩
                have hAl : A.length = lf := by rw [← hA, sortE_len, KQ.out.put.len]
                have hAs : Srt A := by rw [← hA]; exact sortE_srt _
                have hAm : ∀ x ∈ A, x ∈ ks.flatten := fun x hx => by rw [← hA] at hx; exact (sortE_perm _).mem_iff.1 hx
                rw [hA] at al
                have HAL : Hid _ := hAl
                have HAS : Aside (Srt A) := hAs
                have HAM : Aside (∀ x ∈ A, x ∈ ks.flatten) := hAm
                clear hA hAl hAs hAm e O DX KC SC
                go_wp2_with fail
                refine al.mono ?_
                rintro r_ w4 ⟨a4, c4, rfl, o4, b4⟩
                have sm := sameN (B := true) (OW.out.below b4).is (ON.out.below b4).is (show ls.flatten.length = m from HM.out) (show ls.flatten.length = m2 from HM2.out) (decide_eq_true rfl)
                have O4 : Aside (OwnE w4 wq.heap.size (.slice a4 lf c4) A) := o4
                have B4 : Aside (Below wq.heap.size wq w4) := b4
                clear al o4 b4 OW ON y1
                go_wp2_with fail
                refine sm.mono ?_
                rintro r_ w5 ⟨rfl, b5⟩
                have O5 : Aside (OwnE w5 wq.heap.size (.slice a4 lf c4) A) := O4.out.below b5
                have B5 : Aside (Below wq.heap.size wq w5) := B4.out.trans (b5.mono B4.out.size)
                have ln := slen_any S v' ks w5 (KQ.out.shr.below B5.out) (by rw [KQ.out.put.len]; omega)
                rw [KQ.out.put.len] at ln
                clear sm b5 O4 B4
                go_wp2_with fail
                refine ln.mono ?_
                rintro r_ w6_ ⟨rfl, b6⟩
                have O6 : Aside (OwnE w6_ wq.heap.size (.slice a4 lf c4) A) := O5.out.below b6
                have B6 : Aside (Below wq.heap.size wq w6_) := B5.out.trans (b6.mono B5.out.size)
                have so := refSorted_any a4 c4 A w6_ O6.out.is
                rw [HAL.out, (srtB_iff A).2 HAS.out] at so
                clear ln b6 O5 B5
                go_wp2_with fail
                refine so.mono ?_
                rintro r_ w8 ⟨rfl, g8⟩
                have O8 : Aside (OwnE w8 wq.heap.size (.slice a4 lf c4) A) := O6.out.below g8.below
                have B8 : Aside (Below wq.heap.size wq w8) := B6.out.trans (g8.below.mono B6.out.size)
                have K8 : Aside (KeepI 26 w S zs (i + 1) lf v' th' ks w8) := KQ.out.on B8.out
                clear so g8 O6 B6 KQ
                go_wp2_with fail
                go_loopg [17] lf (fun kx s17 wx => ∃ (q : Nat), s17 = .int .i64 q ∧ q ≤ lf ∧ lf - q ≤ kx ∧ Aside (Below w8.heap.size w8 wx))
                case atStart => exact ⟨0, rfl, by omega, by omega, Below.refl _ _⟩
                case round =>
                  obtain ⟨q, rfl, hq, hqx, DY⟩ := hrel
                  have szy := DY.out.size
                  by_cases hlt4 : q < lf
                  · have hy4 : (q : Int) < (lf : Int) := by omega
                    have qA : q < A.length := by rw [HAL.out]; exact hlt4
                    obtain ⟨jj, hjj, ex⟩ := K8.out.put.mem A[q] (HAM.out _ (List.getElem_mem qA))
                    have th1 : th' (jj + 1) = true := by
                      rw [K8.out.put.has (jj + 1) (by omega) (by omega)]
                      obtain ⟨p, hp, e2⟩ := List.getElem_of_mem (HAM.out _ (List.getElem_mem qA))
                      refine hasL_at p hp ?_
                      rw [e2, ex]
                      simp [keyK]
                    obtain ⟨ac, af⟩ := (K8.out.arr.kept (DY.out.block _ K8.out.arr.lt)).cell (t := jj + 1) (by omega)
                    rw [th1] at ac
                    obtain ⟨gA, offA, haA, hgA, e0, e1⟩ := (O8.out.below DY.out).is.elem q A[q] (List.getElem?_eq_getElem qA)
                    rw [ex] at e0 e1
                    unfold keyK at e0 e1
                    obtain ⟨b0, off0, ha0, hb0, hc0, _⟩ := H0.out.at (show jj < len0 by omega)
                    have hc0' := (DY.out.cell (p := ⟨b0, off0 + jj, none⟩) (by show b0 < _; have := K8.out.low.size; omega)).trans ((K8.out.low.cell (p := ⟨b0, off0 + jj, none⟩) (by show b0 < S; omega)).trans hc0)
                    obtain ⟨z2, hz2⟩ : ∃ z, zs.getD jj 0 = z := ⟨_, rfl⟩
                    rw [hz2] at hc0' e0
                    have f1 : ∀ n, (wr.drewN n).cell? ⟨gA, offA + q * 2, none⟩ = some (.int .u64 z2) := fun _ => e0
                    have f2 : ∀ n, (wr.drewN n).cell? ⟨gA, offA + q * 2 + 1, none⟩ = some (.int .i64 ((jj : Int) + 1)) := fun _ => e1
                    have f3 : ∀ n, (wr.drewN n).cell? ⟨S + 1, jj + 1, none⟩ = some (.bool true) := fun _ => ac
                    have f4 : ∀ n, (wr.drewN n).cell? ⟨b0, off0 + jj, none⟩ = some (.int .u64 z2) := fun _ => hc0'
                    have p1 : (0 : Int) ≤ (jj : Int) + 1 := by omega
                    have p2 : (jj : Int) + 1 < 31 := by omega
                    have p3 : ((jj : Int) + 1).toNat = jj + 1 := by omega
                    have p4 : IntKind.i64.wrap ((jj : Int) + 1 - 1) = (jj : Int) := by rw [IntKind.wrap_i64]; omega
                    have p5 : (jj : Int) < (len0 : Int) := by omega
                    have swr : w8.heap.size ≤ wr.heap.size := szy
                    subst haA
                    injection ha0 with ha0
                    injection ha0 with ha01 ha02 _
                    subst ha01 ha02
                    clear e0 e1 ac af hc0 hc0' hz2 ex th1
                    go_wp2_with fail
                    go_quiet (fail)
                    have DZ : Aside (Below w8.heap.size w8 (wr.drewN nq)) := DY.out.trans ((Grown.below ⟨nq, #[], by rw [grow_empty]⟩).mono swr)
                    clear f1 f2 f3 f4
                    go_wp2
                    go_roundg (lf - (q + 1))
                    case measure => omega
                    case rel => exact ⟨q + 1, by go_num, by omega, Nat.le_refl _, DZ⟩
                  · obtain rfl : q = lf := by omega
                    have hy4 : ¬ (q : Int) < (q : Int) := by omega
                    have K9 : Aside (KeepI 26 w S zs (i + 1) q v' th' ks wr) := K8.out.on DY.out
                    clear K8 O8 DY
                    go_wp2
                    go_roundg (N - (i + 1))
                    case measure => omega
                    case rel => exact ⟨i + 1, q, v', _, ks, by go_num, rfl, by omega, hlf, Nat.le_refl _, hv', K9⟩
    · obtain rfl : i = N := by omega
      have hz : ¬ (i : Int) < (i : Int) := by omega
      have aw := sawake_any wo
      have LOW : Aside (Below S w wo) := KI.out.low
      go_wp2_with fail
      refine aw.mono ?_
      rintro r_ w3 ⟨rfl, b3⟩
      have D3 : Aside (Below S w w3) := LOW.out.trans (b3.mono (by omega))
      clear aw b3
      go_wp2
      go_ret
      exact ⟨rfl, by first | exact D3.out | (rw [HS.out]; exact D3.out)⟩
end Go.Proofs.Ytboccihcomaaoaa
