/- The walk of 'SlotApart'. -/
import Derived.Test.YtfecobeiibdpcaaSltA
import Derived.Test.YtfecobeiibdpcaaSltP
import Derived.Test.YtfecobeiibdpcaaEntR
import Derived.Deep.DeepCutAuto
import Derived.Deep.RegionHeld3
namespace Go.Proofs.Ytfecobeiibdpcaa
open Go.RowKit Go.Lib Go.Sort
set_option linter.unusedVariables false

/-- Dropped, if it is there. -/
def apDrop (x : Int) (N A : Nat) : Nat → Pl := if apP x A then slSet (apG x N) A ⟨(0, 0), 2, false⟩ else apG x N
theorem apDrop_any (x : Int) (w : World) (B R N A : Nat) (h : Slt w B R N (apG x N)) (hA : A < N) :
    Calls Try.prog 13 #[.pointer (some ⟨B, 0, none⟩), .int .i64 ((A : Int) + 1)] w fun r w' => r = .returned (.bool (apP x A)) ∧ Slt w' B R N (apDrop x N A) ∧ w.grownBy w' (some R) := by
  cases c : apP x A with
  | true =>
    unfold apDrop
    rw [c]
    exact slDrop_hit w B R N _ A ((A : Int) + 1) (90 - (A : Int)) 1 h hA (apG_at hA c) (by omega) (fun i hi => apHit (.inr (by omega)))
  | false =>
    refine (slDrop_none w B R N _ ((A : Int) + 1) h (fun i hi => apHit ?_)).mono ?_
    · by_cases e : i = A
      · subst e; exact .inl c
      · exact .inr (by omega)
    · rintro r w' ⟨rfl, rfl⟩
      unfold apDrop
      rw [c]
      exact ⟨rfl, h, World.grownBy.refl _ _⟩
theorem apDrop_hit (x : Int) (N A i : Nat) (d : Int) (h : (i : Int) + 1 ≠ d ∨ i = A) : slHit (apDrop x N A i) d = false := by
  unfold apDrop
  cases c : apP x A with
  | true =>
    rw [if_pos rfl]
    refine slHit_set ?_
    rcases h with h | h
    · exact .inl (apHit (.inr h))
    · exact .inr h
  | false =>
    rw [if_neg (by simp)]
    rcases h with h | h
    · exact apHit (.inr h)
    · subst h; exact apHit (.inl c)
theorem apDrop_free (x : Int) (N A : Nat) : ∃ k d v, apDrop x N A A = ⟨(k, d), v, false⟩ := by
  unfold apDrop
  cases c : apP x A with
  | true => rw [if_pos rfl, slSet_same]; exact ⟨_, _, _, rfl⟩
  | false => rw [if_neg (by simp), apG_no c]; exact ⟨_, _, _, rfl⟩
theorem apDrop_len (x : Int) (N A : Nat) (hA : A < N) : (slAll (apDrop x N A) N).length + (if apP x A then 1 else 0) = apC x N := by
  unfold apDrop
  cases c : apP x A with
  | true =>
    rw [if_pos rfl, if_pos rfl]
    have := slAll_gone (g := apG x N) (A := A) (v := 2) (e := (0, 0)) (by rw [apG_at hA c]) N
    rw [if_pos hA, apAll x N N (Nat.le_refl _)] at this
    exact this
  | false =>
    rw [if_neg (by simp), if_neg (by simp), apAll x N N (Nat.le_refl _)]
    rfl

set_option maxHeartbeats 8000000 in
set_option maxRecDepth 100000 in
theorem slotApart_walk (n0 x a0 : Int) (w : World) (h0 : (Lit.int .i64 n0).wf = true) (h1 : (Lit.int .i64 x).wf = true) (h2 : (Lit.int .i64 a0).wf = true) :
    Calls Try.prog 4 #[.int .i64 n0, .int .i64 x, .int .i64 a0] w fun r w' => r = .returned (.bool true) ∧ Below w.heap.size w w' := by
  obtain ⟨S, hS⟩ : ∃ S, w.heap.size = S := ⟨_, rfl⟩
  obtain ⟨N1, hN1, N18⟩ : ∃ N : Nat, bits .and .i64 n0 7 = (N : Int) ∧ N < 8 := by
    have := mask_i64 n0 3 7 8 (by omega) rfl rfl
    exact ⟨(n0 % 8).toNat, by rw [this]; omega, by omega⟩
  obtain ⟨N, hN3⟩ : ∃ N : Nat, N1 + 1 = N := ⟨_, rfl⟩
  have N0 : 0 < N := by omega
  have N8 : N ≤ 8 := by omega
  have hN2' : IntKind.i64.wrap ((N1 : Int) + 1) = (N : Int) := by rw [IntKind.wrap_i64]; omega
  have nw := slNew_in N w S hS (by omega) (by omega)
  rw [hS]
  have HS : Hid _ := hS
  clear h0 h1 h2 hS hN3
  go_enter Try.func4, Try.ntmps4
  go_wp2_with fail
  refine nw.mono ?_
  rintro r w1 ⟨rfl, s1, b1, z1⟩
  have S0 : Aside (Slt w1 (S + 1) S N (apG x 0)) := s1.congr fun i hi => apG_zero x i
  have B0 : Aside (Below S w w1) := b1
  clear nw s1 b1 z1 hN1 hN2'
  go_wp2_with fail
  go_loopg [9, 10] N (fun kx s9 s10 wx => ∃ (t c : Nat), s10 = .int .i64 t ∧ s9 = .int .i64 c ∧ Hid (apC x t = c) ∧ c ≤ 8 ∧ t ≤ N ∧ N - t ≤ kx ∧ Aside (Slt wx (S + 1) S N (apG x t)) ∧ Aside (Below S w wx))
  case atStart => exact ⟨0, 0, rfl, rfl, rfl, by omega, by omega, by omega, S0, B0⟩
  case round =>
    clear S0 B0
    obtain ⟨t, c, rfl, rfl, HC, c8, ht, htx, S1, B1⟩ := hrel
    by_cases hlt : t < N
    · have hz : (t : Int) < (N : Int) := by omega
      have t64 : (t : Int) ≤ 64 := by omega
      have t0 : (0 : Int) ≤ (t : Int) := by omega
      have tt : ((t : Int)).toNat = t := by omega
      obtain ⟨X, hX, X2, hXP⟩ := apBit x t
      cases hP : apP x t with
      | true =>
        rw [hP] at hXP
        have w90 : IntKind.i64.wrap (90 - (t : Int)) = 90 - (t : Int) := by rw [IntKind.wrap_i64]; omega
        have u90 : IntKind.u64.wrap (90 - (t : Int)) = 90 - (t : Int) := by rw [IntKind.wrap_u64, Int.emod_eq_of_lt (by omega) (by omega)]
        have wt : IntKind.i64.wrap ((t : Int) + 1) = (t : Int) + 1 := by rw [IntKind.wrap_i64]; omega
        have p1 := slPut_ok wr (S + 1) S N _ t (90 - (t : Int)) ((t : Int) + 1) 0 S1.out hlt (by rw [apG_new]; rfl) (by rw [apG_new]; rfl) (by omega)
        have HP : Hid _ := hP
        clear hP
        go_wp2_with fail
        refine p1.mono ?_
        rintro r w2 ⟨rfl, s2, g2⟩
        have S2 : Aside (Slt w2 (S + 1) S N (apG x (t + 1))) := s2.congr fun i hi => apG_put HP.out i
        have B2 : Aside (Below S w w2) := B1.out.trans (below_gr g2 (Nat.le_refl _) (by have := S1.out.rlt; omega))
        have cl : c + 1 ≤ 8 := by have h1 := apC_le x (t + 1); rw [apC_yes HP.out, HC.out] at h1; omega
        clear p1 s2 g2 S1 B1
        go_wp2
        go_roundg (N - (t + 1))
        case measure => omega
        case rel => exact ⟨t + 1, c + 1, by go_num, by go_num, (by show _ = _; rw [apC_yes HP.out, HC.out]), cl, by omega, Nat.le_refl _, S2, B2⟩
      | false =>
        rw [hP] at hXP
        have S2 : Aside (Slt wr (S + 1) S N (apG x (t + 1))) := S1.out.congr fun i hi => apG_skip hP i
        have HP : Hid _ := hP
        clear hP
        go_wp2
        go_roundg (N - (t + 1))
        case measure => omega
        case rel => exact ⟨t + 1, c, by go_num, rfl, (by show _ = _; rw [apC_no HP.out, HC.out]), c8, by omega, Nat.le_refl _, S2, B1⟩
    · have hz : ¬ (t : Int) < (N : Int) := by omega
      obtain rfl : t = N := by omega
      have al := slAll_any wr (S + 1) S t _ c S1.out (by rw [apAll x t t (Nat.le_refl _)]; exact HC.out)
      go_wp2_with fail
      refine al.mono ?_
      rintro r w2 ⟨a2, cap2, rfl, o2, b2⟩
      obtain ⟨a2', cap2', e2, l2⟩ := o2.isL
      have hlen : (slAll (apG x t) t).length = c := by rw [apAll x t t (Nat.le_refl _)]; exact HC.out
      rw [hlen] at e2
      injection e2 with e2a _ e2b
      subst e2a e2b
      have L2 : Aside (IsL w2 a2 cap2 (slAll (apG x t) t)) := l2
      have HL : Hid _ := hlen
      have S2 : Aside (Slt w2 (S + 1) S t (apG x t)) := S1.out.below b2
      have B2 : Aside (Below S w w2) := B1.out.trans (b2.mono (by have := S1.out.rlt; omega))
      clear al o2 l2 b2 hlen S1 B1
      have mx := mixed
      go_wp2_with fail
      go_loopg [12] (c + 1) (fun kx s12 wx => ∃ (j : Nat), s12 = .int .i64 (j + 1 : Nat) ∧ (j < c ∨ j = 0) ∧ c + 1 - j ≤ kx ∧ Aside (Below w2.heap.size w2 wx))
      case atStart => exact ⟨0, rfl, .inr rfl, by omega, Below.refl _ _⟩
      case round =>
        obtain ⟨j, rfl, hj, hjx, D⟩ := hrel
        by_cases jl : j + 1 < c
        · have hz1 : (j : Int) + 1 < (c : Int) := by omega
          have hz0 : (j : Int) < (c : Int) := by omega
          have e1 : ((j : Int) + 1).toNat = j + 1 := by omega
          have p1 : (0 : Int) ≤ (j : Int) + 1 := by omega
          have wk : IntKind.i64.wrap (j : Int) = (j : Int) := by rw [IntKind.wrap_i64]; omega
          have LD := L2.out.below D.out
          have len1 : j + 1 < (slAll (apG x t) t).length := by rw [HL.out]; exact jl
          obtain ⟨b, off, ha, hc⟩ := LD.at len1
          obtain ⟨b', off', ha', hc'⟩ := LD.at (show j < (slAll (apG x t) t).length by omega)
          obtain ⟨rfl, rfl⟩ : b' = b ∧ off' = off := by rw [ha] at ha'; cases ha'; exact ⟨rfl, rfl⟩
          subst ha
          have ord := (List.pairwise_iff_getElem.1 (apOrd x t t (Nat.le_refl _)).1) j (j + 1) (by omega) len1 (by omega)
          have c2 := fun n => (hc wr (Grown.refl wr) n #[]).2
          have c4 := fun n => (hc' wr (Grown.refl wr) n #[]).2
          simp only [grow_empty] at c2 c4
          obtain ⟨X, hX⟩ : ∃ y, (slAll (apG x t) t)[j + 1].2 = y := ⟨_, rfl⟩
          obtain ⟨Y, hY⟩ : ∃ y, ((slAll (apG x t) t)[j]'(by omega)).2 = y := ⟨_, rfl⟩
          rw [hX] at c2 ord
          rw [hY] at c4 ord
          have nle : ¬ X ≤ Y := by omega
          clear hc hc' ha' LD hX hY ord len1
          go_wp2_with fail
          go_quiet (fail)
          have D2 : Aside (Below w2.heap.size w2 (wr.drewN nq)) := D.out.trans (Grown.below ⟨nq, #[], by rw [grow_empty]⟩ |>.mono D.out.size)
          clear c2 c4 D
          generalize wr.drewN nq = w4 at D2 ⊢
          go_wp2
          go_roundg (c + 1 - (j + 1))
          case measure => omega
          case rel => exact ⟨j + 1, by go_num, by omega, Nat.le_refl _, D2⟩
        · have hz1 : ¬ (j : Int) + 1 < (c : Int) := by omega
          obtain ⟨X, hX, X1⟩ : ∃ X : Nat, bits .and .i64 a0 255 = (X : Int) ∧ X < 256 := by
            have := mask_i64 a0 8 255 256 (by omega) rfl rfl
            exact ⟨(a0 % 256).toNat, by rw [this]; omega, by omega⟩
          obtain ⟨A, hA⟩ : ∃ T, X % t = T := ⟨_, rfl⟩
          have aN : A < t := by rw [← hA]; exact Nat.mod_lt _ N0
          have ww4 : (X : Int) % (t : Int) = (A : Int) := by rw [← hA]; rfl
          have ww3 : Int.tmod (X : Int) (t : Int) = (A : Int) := by rw [← hA]; rfl
          have ww6 : ¬ (t : Int) = 0 := by omega
          have ww7 : ((t : Int) == 0) = false := by simp; omega
          have a64 : (A : Int) ≤ 64 := by omega
          have a00 : (0 : Int) ≤ (A : Int) := by omega
          have at' : ((A : Int)).toNat = A := by omega
          have wA : IntKind.i64.wrap ((A : Int) + 1) = (A : Int) + 1 := by rw [IntKind.wrap_i64]; omega
          obtain ⟨Y, hY, Y2, hYP⟩ := apBit x A
          have S3 : Aside (Slt wr (S + 1) S t (apG x t)) := S2.out.below D.out
          have B3 : Aside (Below S w wr) := B2.out.trans (D.out.mono (by have := S2.out.rlt; omega))
          have d1 := apDrop_any x wr (S + 1) S t A S3.out aN
          obtain ⟨PA, hPA⟩ : ∃ P, apP x A = P := ⟨_, rfl⟩
          rw [hPA] at hYP d1
          have HPA : Hid _ := hPA
          clear hA hPA D L2 S2 B2
          go_wp2_with fail
          refine d1.mono ?_
          rintro r w5 ⟨rfl, s5, g5⟩
          have B5 : Aside (Below S w w5) := B3.out.trans (below_gr g5 (Nat.le_refl _) (by have := S3.out.rlt; omega))
          have S5 : Aside (Slt w5 (S + 1) S t (apDrop x t A)) := s5
          have d2 := slDrop_none w5 (S + 1) S t _ ((A : Int) + 1) s5 (fun i hi => apDrop_hit x t A i _ (by omega))
          have d3 := slDrop_none w5 (S + 1) S t _ 99 s5 (fun i hi => apDrop_hit x t A i _ (by omega))
          have pne : (PA != PA) = false := by cases PA <;> rfl
          clear d1 g5 s5 S3 B3
          go_wp2_with fail
          refine d2.mono ?_
          rintro r w6 ⟨rfl, h6⟩
          subst h6
          go_wp2_with fail
          refine d3.mono ?_
          rintro r w7 ⟨rfl, h7⟩
          subst h7
          clear d2 d3
          obtain ⟨L, hL⟩ : ∃ L, (slAll (apDrop x t A) t).length = L := ⟨_, rfl⟩
          have hlen := apDrop_len x t A aN
          rw [hL, HPA.out, HC.out] at hlen
          have AL : Hid ((slAll (apDrop x t A) t).length = L) := hL
          have HLEN : Hid _ := hlen
          clear hL hlen
          go_upto_if 103 with fail
          go_cut [14] (fun s14 wx => s14 = .int .i64 L ∧ wx = w7)
          case first =>
            cases PA with
            | true =>
              have h1 := HLEN.out
              rw [if_pos rfl] at h1
              have wl : IntKind.i64.wrap ((c : Int) - 1) = (L : Int) := by rw [IntKind.wrap_i64]; omega
              clear h1
              go_wp2_with fail
              go_meet
              exact ⟨rfl, rfl⟩
            | false =>
              have h1 := HLEN.out
              rw [if_neg (by simp)] at h1
              go_wp2_with fail
              go_meet
              exact ⟨by congr 1; omega, rfl⟩
          case rest =>
            obtain ⟨rfl, hw⟩ := hcut
            subst hw
            obtain ⟨kA, dA, vA, hgA⟩ := apDrop_free x t A
            have p1 := slGet_in wc (S + 1) S t _ A kA dA vA false S5.out aN hgA
            clear hgA
            go_wp2_with fail
            refine p1.mono ?_
            rintro r w8 ⟨rfl, b8⟩
            obtain ⟨u, hu⟩ : ∃ u, w8.alloc (.cells #[.int .u64 kA, .int .i64 dA] 33) = u := ⟨_, rfl⟩
            have bu : Below wc.heap.size wc u := by rw [← hu]; exact b8.alloc b8.size _
            have HU : Hid _ := hu
            have SU : Aside (Slt u (S + 1) S t (apDrop x t A)) := S5.out.below bu
            have DU : Aside (Below S w u) := B5.out.trans (bu.mono (by have := S5.out.rlt; omega))
            have al := slAll_any u (S + 1) S t _ L SU.out AL.out
            clear p1 b8 hu bu S5 B5
            go_wp2_with fail
            rw [HU.out]
            clear HU
            refine al.mono ?_
            rintro r w9 ⟨a9, c9, rfl, _, b9⟩
            have S9 : Aside (Slt w9 (S + 1) S t (apDrop x t A)) := SU.out.below b9
            have D9 : Aside (Below S w w9) := DU.out.trans (b9.mono (by have := SU.out.rlt; omega))
            have q1 := slPut_out w9 (S + 1) S t _ t 0 0 S9.out (.inr (Int.le_refl _))
            clear al b9 SU DU
            go_wp2_with fail
            refine q1.mono ?_
            rintro r w10 ⟨rfl, b10⟩
            have S10 : Aside (Slt w10 (S + 1) S t (apDrop x t A)) := S9.out.below b10
            have D10 : Aside (Below S w w10) := D9.out.trans (b10.mono (by have := S9.out.rlt; omega))
            have q2 := slPut_out w10 (S + 1) S t _ (-1) 0 0 S10.out (.inl (by omega))
            clear q1 b10 S9 D9
            go_wp2_with fail
            refine q2.mono ?_
            rintro r w11 ⟨rfl, b11⟩
            have D11 : Aside (Below S w w11) := D10.out.trans (b11.mono (by have := S10.out.rlt; omega))
            have z11 : S ≤ w11.heap.size := by have h1 := S10.out.rlt; have h2 := b11.size; omega
            have aw := slAwake_any w11
            clear q2 b11 S10 D10
            go_wp2_with fail
            refine aw.mono ?_
            rintro r w12 ⟨rfl, b12⟩
            have D12 : Aside (Below S w w12) := D11.out.trans (b12.mono z11)
            clear aw b12 D11
            go_wp2
            go_ret
            exact ⟨rfl, D12.out⟩
end Go.Proofs.Ytfecobeiibdpcaa
