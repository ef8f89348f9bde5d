import Derived.Test.YtjnpmipbkiambaaGreatDoorCoP
namespace Go.Proofs.YtjnpmipbkiambaaGreatDoor
open Go.RowKit Go.Lib Go.WideMaps Go.Maps
set_option maxRecDepth 100000
set_option linter.unusedVariables false
theorem slackC (n : Int) (w : World) : Calls Tryz.prog 12 #[.int .i64 n] w fun e w' => e = .returned (.int .u64 (Ag.slN n)) ∧ w' = w := Ag.refSlack_any n w
set_option maxHeartbeats 8000000 in
theorem coreKeys_walk (a : Option Addr) (len cap : Nat) (zs : List Int) (cz : Int) (w : World) (hrow : IsRow .i64 w a len cap zs) (wc : (Lit.int .i64 cz).wf = true) (hN : True) :
  Calls Tryz.prog 3 #[.slice a len cap, .int .i64 cz] w fun e w' => e = .returned (.bool true) ∧ Below w.heap.size w w' := by
 have hl := hrow.len_le
 have hR : Aside (IsRow .i64 w a len cap zs) := hrow
 obtain ⟨S, hS⟩ : ∃ S, w.heap.size = S := ⟨_, rfl⟩
 have P : Calls Tryz.prog 9 #[.agg #[.int .i64 1, .int .i64 0, .int .i64 64]] w fun e w' => ∃ D F, e = .returned (.tuple #[pt D.B, .int .i64 0]) ∧ Co w' (w.heap.size + 1) D F (.slice none 0 0) (.slice none 0 0) (newS 1 0 64) ∧ Below w.heap.size w w' := newC 1 0 64 w (by omega) (by omega) (by omega) (by omega) (by omega)
 clear hrow wc hN
 go_enter Tryz.func3, Tryz.ntmps3
 go_wp2_with fail
 refine Calls.mono P ?_
 rintro e w1 ⟨D, F1, rfl, C1, b1⟩
 clear P
 have X1 : Aside (Below w.heap.size w w1 ∧ Co w1 (w.heap.size + 1) D F1 (.slice none 0 0) (.slice none 0 0) (newS 1 0 64)) := ⟨b1, C1⟩
 clear C1 b1
 go_wp2_with fail
 go_loopg [7, 8, 9, 10, 11, 12, 13, 14] 30 (fun kx s7 s8 s9 s10 s11 s12 s13 s14 wr => ∃ (i tk : Nat), s8 = .int .i64 i ∧ s7 = .int .u64 tk ∧ i ≤ 30 ∧ tk ≤ 30 ∧ 30 - i ≤ kx ∧ ∃ (σ : CS) (Fr : Nat → Nat → Prop) (gr vr : Value), Aside (Co wr (w.heap.size + 1) D Fr gr vr σ) ∧ Aside (Gc (w.heap.size + 1) F1 w1 Fr wr) ∧ Aside (KI σ i tk))
 case atStart => exact ⟨0, 0, rfl, rfl, by omega, by omega, by omega, _, _, _, _, X1.out.2, Gc.refl _ _ _, KI.new⟩
 case round =>
  obtain ⟨i, tk, rfl, rfl, hi30, htk30, hkx, σ, Fr, gr, vr, Cr, Gr, K⟩ := hrel
  have FIN : Aside (Below w.heap.size w wr) := X1.out.1.trans (Gr.out.low.mono (by omega))
  by_cases c : i < len ∧ i < 30
  ·obtain ⟨c1, c2⟩ := c
   have h1 : (i : Int) < (len : Int) := by omega
   have h2 : (i : Int) < 30 := by omega
   obtain ⟨gb, off, rfl, glt, gc, _⟩ := hR.out.at c1
   have gcr : wr.cell? ⟨gb, off + i, none⟩ = some (.int .i64 (zs.getD i 0)) := by rw [← gc]; exact World.cell?_of_block (FIN.out.block gb glt)
   have gltr : gb < wr.heap.size := Nat.lt_of_lt_of_le glt FIN.out.size
   obtain ⟨z, hz⟩ : ∃ z, zs.getD i 0 = z := ⟨_, rfl⟩
   rw [hz] at gcr
   obtain ⟨p, hp, p0, p7⟩ : ∃ p, bits .and .i64 z 7 = p ∧ 0 ≤ p ∧ p ≤ 7 := ⟨_, mask_i64 z 3 7 8 (by omega) rfl rfl, by omega, by omega⟩
   have KK := K.out
   have P := subC Cr.out (t := 0) (by rw [KK.th]; omega) KK.cl (by rw [KK.len]; omega) (by have := KK.o; rw [KK.n]; omega) (by have := KK.ev; omega) (by have := KK.qn; omega) (by rw [KK.tk]; omega) p p0 p7
   rw [KK.len] at P
   obtain ⟨I1, hI1⟩ : ∃ I1, (i : Int) + 1 = I1 := ⟨_, rfl⟩
   rw [hI1] at P
   have hwrI : IntKind.i64.wrap ((i : Int) + 1) = I1 := by rw [IntKind.wrap_i64]; omega
   have HI1 : Aside ((i : Int) + 1 = I1) := hI1
   have K1 : Aside (KI (subS σ 0 p) (i + 1) tk ∧ KI σ i tk) := ⟨KK.sub p, KK⟩
   clear glt gc hz KK hI1
   go_wp2_with fail
   try simp only [hp]
   refine Calls.mono P ?_
   rintro e w2 ⟨rfl, F2, g2, v2, C2, G2⟩
   clear P gcr gltr hp
   obtain ⟨τ, hτ⟩ : ∃ τ, subS σ 0 p = τ := ⟨_, rfl⟩
   rw [hτ] at C2
   have KT1 : Aside (KI τ (i + 1) tk) := by show KI τ (i + 1) tk; rw [← hτ]; exact K1.out.1
   have HT : Aside (subS σ 0 p = τ) := hτ
   have KEY : Aside (∃ y, τ.T[i]? = some y ∧ y.key = (tk : Int) + Ag.slN p) := by
    refine ⟨{ Ta.mkT p 0 0 0 0 0 2 with key := keyS σ (Ta.mkT p 0 0 0 0 0 2) }, ?_, ?_⟩
    ·rw [← hτ, sub_T, ← K1.out.2.len]; simp
    ·show Ag.addT (σ.tk : Int) (Ag.slN p) = _
     have := Ag.slN_le p
     rw [K1.out.2.tk]
     unfold Ag.addT
     rw [if_pos (by omega)]
   have P := stateC C2 (by have := KT1.out.qn; omega)
   have X2 : Aside (Gc (w.heap.size + 1) F1 w1 F2 w2) := Gr.out.trans G2
   clear C2 G2 hτ
   go_wp2_with fail
   refine Calls.mono P ?_
   rintro e w3 ⟨KT, cs, s1, n1, c1, s2, n2, c2', s3, n3, c3, s4, c4, F3, g3, v3, rfl, C3, G3, BT, fil⟩
   clear P
   rw [KT1.out.len, KT1.out.tk]
   obtain ⟨N1, hN1⟩ : ∃ N1 : Nat, i + 1 = N1 := ⟨_, rfl⟩
   have hiN : (i : Int) < (N1 : Int) := by omega
   have hiN' : i < N1 := by omega
   obtain ⟨now, hnow⟩ : ∃ x : Nat, τ.now = x := ⟨_, rfl⟩
   obtain ⟨cl, hcl⟩ : ∃ x : Bool, τ.cl = x := ⟨_, rfl⟩
   obtain ⟨fr, hfr⟩ : ∃ x : Int, (τ.n : Int) - τ.o = x := ⟨_, rfl⟩
   obtain ⟨tl, htl⟩ : ∃ x : Nat, τ.tm.length = x := ⟨_, rfl⟩
   rw [hN1, hnow, hcl, hfr, htl]
   obtain ⟨S12, hS12⟩ : ∃ J, w3.heap.size = J := ⟨_, rfl⟩
   obtain ⟨u3, hu3⟩ : ∃ q, w3.alloc (.cells #[.int .u64 now, .int .u64 tk, .bool cl, .int .i64 fr, .slice (some ⟨KT, 0, none⟩) N1 N1, .slice s1 n1 c1, .slice s2 n2 c2', .slice s3 n3 c3, .slice s4 tl c4] 37) = q := ⟨_, rfl⟩
   have b3 : Below w3.heap.size w3 u3.drew := by rw [← hu3]; exact (belA _ _).drew
   have BS : Bx u3.drew F3 S12 #[.int .u64 now, .int .u64 tk, .bool cl, .int .i64 fr, .slice (some ⟨KT, 0, none⟩) N1 N1, .slice s1 n1 c1, .slice s2 n2 c2', .slice s3 n3 c3, .slice s4 tl c4] 37 := by rw [← hu3, ← hS12]; exact Bx.new C3 _ _
   have X3 : Aside (Co u3.drew (w.heap.size + 1) D F3 g3 v3 τ ∧ Gc (w.heap.size + 1) F1 w1 F3 u3.drew) := ⟨C3.below b3, (X2.out.trans G3).trans (Gc.below F3 C3.lw b3)⟩
   obtain ⟨SL, hSL, SL0, SL1⟩ : ∃ SL, Ag.slN p = SL ∧ 0 ≤ SL ∧ SL ≤ 127 := ⟨_, rfl, (Ag.slN_le p).1, (Ag.slN_le p).2⟩
   obtain ⟨KY, hKY⟩ : ∃ KY, (tk : Int) + SL = KY := ⟨_, rfl⟩
   have hwrK : IntKind.u64.wrap ((tk : Int) + SL) = KY := by rw [IntKind.wrap_u64]; omega
   obtain ⟨O, hO⟩ : ∃ O, i * 7 = O := ⟨_, rfl⟩
   have d1 : u3.drew.cell? ⟨S12, 1, none⟩ = some (.int .u64 tk) := BS.cell 1
   have d4 : u3.drew.cell? ⟨S12, 4, none⟩ = some (.slice (some ⟨KT, 0, none⟩) N1 N1) := BS.cell 4
   have dk : u3.drew.cell? ⟨KT, O + 4, none⟩ = some (.int .u64 KY) := by
    obtain ⟨y, hy1, hy2⟩ := KEY.out
    have h1 := fil i (by rw [KT1.out.len]; omega) y hy1 4 (by omega)
    rw [hO] at h1
    rw [(BT.below b3).cell (O + 4), h1]
    show some (Value.int .u64 y.key) = _
    rw [hy2, hSL, hKY]
   have slt := lt_of_block BS.1
   have klt := lt_of_block (BT.below b3).1
   have SK : Aside (∀ W, Calls Tryz.prog 12 #[.int .i64 p] W fun e w' => e = .returned (.int .u64 SL) ∧ w' = W) := fun W => by rw [← hSL]; exact slackC p W
   have HU3 : Aside _ := hu3
   have HS12 : Aside _ := hS12
   have HN1 : Aside (i + 1 = N1) := hN1
   clear hu3 hS12 b3 BS C3 G3 BT fil X2 hSL hKY hnow hcl hfr htl hN1
   go_upto_region 11 with fail
   rw [HU3.out]
   simp only [HS12.out]
   go_region_held3 (fun W => W.cell? ⟨S12, 1, none⟩ = some (.int .u64 tk) ∧ W.cell? ⟨S12, 4, none⟩ = some (.slice (some ⟨KT, 0, none⟩) N1 N1) ∧ W.cell? ⟨KT, O + 4, none⟩ = some (.int .u64 KY)) (with_reducible exact ⟨d1, d4, dk⟩) ((go_at_call 12; (with_reducible refine Calls.mono (SK.out _) ?_); rintro e v2 ⟨rfl, rfl⟩))
   clear d1 d4 dk slt klt hO hwrK
   obtain ⟨X, hX, hX2⟩ : ∃ X : Nat, bits .and .i64 (cz / 2 ^ i) 1 = (X : Int) ∧ X < 2 := ⟨(cz / 2 ^ i % 2).toNat, by rw [mask_i64 (cz / 2 ^ i) 1 1 2 (by omega) rfl rfl]; omega, by omega⟩
   have hX01 : X = 0 ∨ X = 1 := by omega
   rcases hX01 with rfl | rfl
   ·have hb : (((0 : Nat) : Int) == 1) = false := rfl
    have NX : Aside (∃ (σ : CS) (Fr : Nat → Nat → Prop) (gr vr : Value), Aside (Co u3.drew (w.heap.size + 1) D Fr gr vr σ) ∧ Aside (Gc (w.heap.size + 1) F1 w1 Fr u3.drew) ∧ Aside (KI σ (i + 1) tk)) := ⟨τ, F3, g3, v3, X3.out.1, X3.out.2, KT1⟩
    go_wp2_with fail
    go_roundg (30 - (i + 1))
    case measure => omega
    case rel =>
     obtain ⟨σ', F', g', v', q1, q2, q3⟩ := NX.out
     exact ⟨i + 1, tk, congrArg (Value.int .i64) (by have := HI1.out; omega), rfl, by omega, by omega, Nat.le_refl _, σ', F', g', v', q1, q2, q3⟩
   ·have hb : (((1 : Nat) : Int) == 1) = true := rfl
    obtain ⟨x, y, z, hx, hy, hz, kk, t, ht, hs, ez⟩ := KT1.out.qi.look X3.out.1.qok (t := 0) (by rw [KT1.out.th]; omega) 0 (by
     obtain ⟨y, hy, _⟩ := KEY.out
     have h1 := hy
     rw [← HT.out, sub_T, ← K1.out.2.len] at h1
     simp at h1
     exact ⟨(y.key, (i : Int) + 1), i, y, hy, by rw [← h1]; rfl, rfl⟩) (τ.tk : Int)
    have P : Calls Tryz.prog 13 #[pt D.B, .int .i64 0, .int .u64 0] u3.drew fun e w' => e = .returned (.tuple #[.agg #[.int .u64 z.1, .int .i64 z.2], .bool true]) ∧ Cox (w.heap.size + 1) D F3 u3.drew (tellS τ 10 ((0 : Nat) : Int) z.2 z.1) w' := lookC X3.out.1 (t := 0) (dr := 0) (by rw [KT1.out.th]; omega) (by omega) (by have := KT1.out.qn; omega) (by have := KT1.out.ev; omega) hx hy hz
    rw [ez] at P
    obtain ⟨ky, hky⟩ : ∃ ky, t.key = ky := ⟨_, rfl⟩
    obtain ⟨J1, hJ1⟩ : ∃ J1, (kk : Int) + 1 = J1 := ⟨_, rfl⟩
    have P' : Aside (Calls Tryz.prog 13 #[pt D.B, .int .i64 0, .int .u64 0] u3.drew fun e w' => e = .returned (.tuple #[.agg #[.int .u64 ky, .int .i64 J1], .bool true]) ∧ Cox (w.heap.size + 1) D F3 u3.drew (lk τ kk t) w') := by rw [← hky, ← hJ1]; exact P
    have HT2 : Aside (τ.T[kk]? = some t ∧ t.s = 2 ∧ t.key = ky ∧ (kk : Int) + 1 = J1) := ⟨ht, hs, hky, hJ1⟩
    clear P hx hy hz ez ht hs hky hJ1 x y z
    go_wp2_with fail
    refine Calls.mono P'.out ?_
    rintro e w4 ⟨rfl, F4, g4, v4, C4, G4⟩
    obtain ⟨S13, hS13⟩ : ∃ J, w4.heap.size = J := ⟨_, rfl⟩
    obtain ⟨u4', hu4⟩ : ∃ q, w4.alloc (.cells #[.int .u64 ky, .int .i64 J1] 43) = q := ⟨_, rfl⟩
    have b4 : Below w4.heap.size w4 u4' := by rw [← hu4]; exact belA _ _
    have BE : Bx u4' F4 S13 #[.int .u64 ky, .int .i64 J1] 43 := by rw [← hu4, ← hS13]; exact Bx.new C4 _ _
    have C4u := C4.below b4
    have hp0 : t.p = 0 := (KT1.out.st t (List.mem_of_getElem? HT2.out.1)).1
    have P := claimC C4u (t := 0) (i := kk) (x := t) (show 0 < τ.th by rw [KT1.out.th]; omega) HT2.out.1 HT2.out.2.1 (by omega) (show (τ.ev ++ [_]).length < 1000000 by have := KT1.out.ev; rw [List.length_append]; simp; omega) (show τ.qn ≤ 1000 by have := KT1.out.qn; omega) (show τ.tk < 1000000 by rw [KT1.out.tk]; omega)
    rw [HT2.out.2.2.1, HT2.out.2.2.2] at P
    have P2 : Aside (Calls Tryz.prog 14 #[pt D.B, .int .i64 0, .agg #[.int .u64 ky, .int .i64 J1]] u4' fun e w' => e = .returned (.int .i64 0) ∧ Cox (w.heap.size + 1) D F4 u4' (clm τ kk t) w') := P
    have X4 : Aside (Gc (w.heap.size + 1) F1 w1 F4 u4' ∧ Bx u4' F4 S13 #[.int .u64 ky, .int .i64 J1] 43) := ⟨(X3.out.2.trans G4).trans (Gc.below F4 C4.lw b4), BE⟩
    have e0 : u4'.cell? ⟨S13, 0, none⟩ = some (.int .u64 ky) := BE.cell 0
    have e1 : u4'.cell? ⟨S13, 1, none⟩ = some (.int .i64 J1) := BE.cell 1
    have elt := lt_of_block BE.1
    have HU4 : Aside _ := hu4
    have HS13 : Aside _ := hS13
    clear P P' hu4 hS13 b4 BE C4 C4u G4
    go_upto_region 15 with fail
    rw [HU4.out]
    simp only [HS13.out]
    go_wp2_with fail
    refine Calls.mono P2.out ?_
    rintro e w5 ⟨rfl, F5, g5, v5, C5, G5⟩
    have B5 := X4.out.2.gc mq_ent G5
    clear e0 e1 elt
    have e1 : w5.cell? ⟨S13, 1, none⟩ = some (.int .i64 J1) := B5.cell 1
    have elt := lt_of_block B5.1
    have hi5 : (clm τ kk t).T[kk]? = some (turnX t 3) := by rw [clm_T]; exact len_set HT2.out.1
    have k3 := turnX_key t 3
    have P := finC C5 (t := 0) (i := kk) (x := turnX t 3) (show 0 < τ.th by rw [KT1.out.th]; omega) hi5 k3.2.2.1 (by rw [k3.2.2.2]; exact hp0) (wf_of (by omega) (by have := (List.getElem?_eq_some_iff.1 HT2.out.1).1; have := KT1.out.len; omega)) (show τ.N < 1000000 by rw [KT1.out.N]; omega) (show ((τ.ev ++ [_]) ++ [_]).length + 300 < 1000000 by have := KT1.out.ev; simp; omega) (by rw [clm_T, List.length_set, KT1.out.len]; omega) (by
      show τ.qn + 1 + (clm τ kk t).T.countP isW ≤ 1000
      rw [cntW0 (fun y hy => by
       rw [clm_T] at hy
       rcases List.mem_or_eq_of_mem_set hy with hy | hy
       ·have := (KT1.out.st y hy).2; omega
       ·rw [hy, k3.2.2.1]; decide)]
      have := KT1.out.qn; omega) (show τ.tk + 1 < 1000000 by rw [KT1.out.tk]; omega) (fun j h => by
      have h : τ.E _ j := h
      rw [KT1.out.E] at h
      exact h.elim)
    rw [HT2.out.2.2.2] at P
    have P3 : Aside (Calls Tryz.prog 15 #[pt D.B, .int .i64 0, .int .i64 J1, .bool true] w5 fun e w' => e = .returned (.int .i64 0) ∧ Cox (w.heap.size + 1) D F5 w5 (fin τ kk t) w') := by
     refine Calls.mono P ?_
     rintro e w' ⟨rfl, d, dl, X⟩
     have dl' : DoneL (fun _ _ => False) J1 d := by
      have e : (clm τ kk t).E = fun _ _ => False := KT1.out.E
      rw [e] at dl
      exact dl
     obtain rfl := done_nil dl'
     refine ⟨rfl, ?_⟩
     rw [← HT2.out.2.2.2] at X
     exact X
    have X5 : Aside (Gc (w.heap.size + 1) F1 w1 F5 w5) := X4.out.1.trans G5
    clear P C5 G5 B5 hi5 k3
    go_wp2_with fail
    refine Calls.mono P3.out ?_
    rintro e w6 ⟨rfl, F6, g6, v6, C6, G6⟩
    have NX : Aside (∃ (σ : CS) (Fr : Nat → Nat → Prop) (gr vr : Value), Aside (Co w6 (w.heap.size + 1) D Fr gr vr σ) ∧ Aside (Gc (w.heap.size + 1) F1 w1 Fr w6) ∧ Aside (KI σ (i + 1) (tk + 1))) := by
     refine ⟨fin τ kk t, F6, g6, v6, C6, X5.out.trans G6, ?_⟩
     show KI (fin τ kk t) (i + 1) (tk + 1)
     have h1 := HT2.out.1
     rw [← HT.out] at h1 ⊢
     exact K1.out.2.fin p h1
    have htk : tk ≤ i := K1.out.2.tkl
    have hwrT : IntKind.u64.wrap ((tk : Int) + 1) = ((tk + 1 : Nat) : Int) := by rw [IntKind.wrap_u64]; omega
    clear C6 G6 e1 elt P3 P2
    go_wp2_with fail
    go_roundg (30 - (i + 1))
    case measure => omega
    case rel =>
     obtain ⟨σ', F', g', v', q1, q2, q3⟩ := NX.out
     exact ⟨i + 1, tk + 1, congrArg (Value.int .i64) (by have := HI1.out; omega), by first | rfl | go_num, by omega, by omega, Nat.le_refl _, σ', F', g', v', q1, q2, q3⟩
  ·have P := awakeC wr
   have c' : ¬ ((i : Int) < (len : Int)) ∨ ¬ ((i : Int) < 30) := by omega
   clear c
   rcases c' with h1 | h1
   all_goals
    by_cases h2 : (i : Int) < (len : Int)
   all_goals try (exfalso; omega)
   all_goals
    go_wp2_with fail
    refine Calls.mono P ?_
    rintro e w9 ⟨rfl, b9⟩
    have FIN2 : Aside (Below w.heap.size w w9) := belT FIN.out b9
    clear b9
    go_wp2_with fail
    go_ret
    exact ⟨rfl, FIN2.out⟩
end Go.Proofs.YtjnpmipbkiambaaGreatDoor
