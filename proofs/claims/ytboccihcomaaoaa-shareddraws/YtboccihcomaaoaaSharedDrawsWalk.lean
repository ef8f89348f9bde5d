/- The walk of 'SharedDraws'. -/
import Derived.Test.YtboccihcomaaoaaShrK
import Derived.Test.YtboccihcomaaoaaShrU
import Derived.Test.YtboccihcomaaoaaMask
import Derived.Test.YtboccihcomaaoaaEntR2
import Derived.Deep.QuietTactic
import Derived.BigQuiet
namespace Go.Proofs.Ytboccihcomaaoaa
open Go.RowKit Go.Lib Go.Sort
set_option linter.unusedVariables false

/-- The entries that are put. -/
def drwE (i : Nat) : List Ent := [(((i * 29 % 41 : Nat) : Int), (i : Int) + 1)]

set_option maxHeartbeats 4000000 in
set_option maxRecDepth 100000 in
theorem sharedDraws_walk (n0 k0 : Int) (w : World) (h0 : (Lit.int .i64 n0).wf = true) (h1 : (Lit.int .i64 k0).wf = true) :
    Calls Try.prog 7 #[.int .i64 n0, .int .i64 k0] w fun r w' => r = .returned (.bool true) ∧ Below w.heap.size w w' := by
  obtain ⟨S, hS⟩ : ∃ S, w.heap.size = S := ⟨_, rfl⟩
  have HS : Hid _ := hS
  obtain ⟨X, hX, X0, X1⟩ : ∃ X, bits .and .i64 n0 255 = X ∧ 0 ≤ X ∧ X < 256 := ⟨_, mask_i64 n0 8 255 256 (by omega) rfl rfl, by omega, by omega⟩
  obtain ⟨N1, hN, n40⟩ : ∃ N : Nat, X % 40 = (N : Int) ∧ N < 40 := ⟨(X % 40).toNat, by omega, by omega⟩
  obtain ⟨K, hK, K1⟩ : ∃ K : Nat, bits .and .i64 k0 15 = (K : Int) ∧ K < 16 := by
    have := mask_i64 k0 4 15 16 (by omega) rfl rfl
    exact ⟨(k0 % 16).toNat, by rw [this]; omega, by omega⟩
  have nw := snew_any w
  rw [hS] at nw
  have L0 : Aside (Shr (w.alloc (.cells #[.int .u64 0, .slice none 0 0] 69)) S 0 []) := by rw [← hS]; exact shr_new w
  have D0 : Aside (Below S w (w.alloc (.cells #[.int .u64 0, .slice none 0 0] 69))) := by rw [← hS]; exact (Below.refl _ _).alloc (Nat.le_refl _) _
  clear h0 h1
  go_enter Try.func7, Try.ntmps7
  go_wp2_with fail
  refine nw.mono ?_
  rintro r w1 ⟨rfl, rfl⟩
  generalize w.alloc (.cells #[.int .u64 0, .slice none 0 0] 69) = w1 at L0 D0 ⊢
  clear nw
  go_wp2_with fail
  try simp only [hN]
  obtain ⟨N, hN2, hN3⟩ : ∃ N : Nat, (N1 : Int) + 1 = (N : Int) ∧ N1 + 1 = N := ⟨N1 + 1, by omega, rfl⟩
  try rw [hN2]
  have HN3 : 0 < N ∧ N ≤ 40 := by omega
  clear hN hX hN2 hN3 n40
  go_loopg [6] N (fun kx s6 wr => ∃ (k : Nat), s6 = .int .i64 k ∧ k ≤ N ∧ N - k ≤ kx ∧ Aside (Shr wr S k (addUp drwE k)) ∧ Aside (Below S w wr))
  case atStart => exact ⟨0, rfl, by omega, by omega, L0, D0⟩
  case round =>
    clear L0 D0
    obtain ⟨k, rfl, hk, hkx, L, D⟩ := hrel
    have sz := D.out.size
    by_cases hlt : k < N
    · have hz : (k : Int) < (N : Int) := by omega
      obtain ⟨Q, hQ, hQ2⟩ : ∃ Q : Nat, (k : Int) * 29 % 41 = (Q : Int) ∧ k * 29 % 41 = Q := ⟨_, by omega, rfl⟩
      have Q1 : Q < 41 := by rw [← hQ2]; exact Nat.mod_lt _ (by omega)
      have hQ3 : IntKind.u64.wrap (Q : Int) = (Q : Int) := by rw [IntKind.wrap_u64, Int.emod_eq_of_lt (by omega) (by omega)]
      obtain ⟨R, hR⟩ : ∃ R, wr.heap.size = R := ⟨_, rfl⟩
      obtain ⟨u, hu⟩ : ∃ u, wr.alloc (.cells #[.int .u64 Q, .int .i64 ((k : Int) + 1)] 37) = u := ⟨_, rfl⟩
      have HU : Hid _ := hu
      have bu : Below wr.heap.size wr u := by rw [← hu]; exact (Below.refl _ _).alloc (Nat.le_refl _) _
      have IL : IsL u (some ⟨R, 0, none⟩) 1 (drwE k) := by unfold drwE; rw [hQ2, ← hu, ← hR]; exact IsL.one wr ((Q : Int), (k : Int) + 1)
      have pt := sadd_some S k (addUp drwE k) (some ⟨R, 0, none⟩) 1 1 (drwE k) u (L.out.below bu) IL rfl (by omega) (by have := addUp_count drwE k; omega) (by rw [addUp_len1 drwE (fun _ => rfl)]; omega) (addUp_srt _ _) (by omega)
      have BU : Aside (Below S w u) := D.out.trans (bu.mono (by omega))
      clear hu bu IL hQ2
      go_wp2_with fail
      try rw [HU.out]
      refine pt.mono ?_
      rintro r w2 ⟨rfl, s2, g2⟩
      have L2 : Aside (Shr w2 S (k + 1) (addUp drwE (k + 1))) := s2
      have D2 : Aside (Below S w w2) := BU.out.trans (below_of_grown g2 (Nat.le_refl _) (by have := BU.out.size; omega))
      clear s2 g2 pt L D
      go_wp2
      go_roundg (N - (k + 1))
      case measure => omega
      case rel => exact ⟨k + 1, by go_num, by omega, Nat.le_refl _, L2, D2⟩
    · obtain rfl : k = N := by omega
      have hz : ¬ (k : Int) < (k : Int) := by omega
      obtain ⟨A, hA⟩ : ∃ A, sortE (addUp drwE k).flatten = A := ⟨_, rfl⟩
      have fl := addUp_len1 drwE (fun _ => rfl) k
      have hAl : A.length = k := by rw [← hA, sortE_len, fl]
      have hAs : Srt A := by rw [← hA]; exact sortE_srt _
      obtain ⟨M, hM, hM1, hM2⟩ : ∃ M : Nat, min ((K : Int) + 1) (k : Int) = (M : Int) ∧ min (K + 1) k = M ∧ 0 < M := ⟨min (K + 1) k, by omega, rfl, by omega⟩
      have fi := sfirst_any S k (addUp drwE k) (M : Int) M wr L.out (by omega) (by rw [fl]; unfold wth; omega)
      rw [hA] at fi
      have HA : Hid _ := hA
      have HAL : Hid _ := hAl
      have HAS : Aside (Srt A) := hAs
      have HFL : Hid _ := fl
      have hl2 : (A.take M).length = M := by rw [List.length_take]; omega
      have HL2 : Hid _ := hl2
      clear hA hAl hAs hl2 fl
      go_wp2_with fail
      try simp only [hM]
      refine fi.mono ?_
      rintro r w2 ⟨a2, c2, rfl, o2, b2⟩
      have O2 : Aside (OwnE w2 S (.slice a2 M c2) (A.take M)) := o2.low (by omega)
      have L2 : Aside (Shr w2 S k (addUp drwE k)) := L.out.below b2
      have D2 : Aside (Below S w w2) := D.out.trans (b2.mono (by omega))
      have so := refSorted_any a2 c2 (A.take M) w2 o2.is
      rw [HL2.out, (srtB_iff _).2 (HAS.out.take M)] at so
      clear o2 b2 fi L D sz
      go_wp2_with fail
      refine so.mono ?_
      rintro r w3 ⟨rfl, g3⟩
      have sz2 := D2.out.size
      have O3 : Aside (OwnE w3 S (.slice a2 M c2) (A.take M)) := O2.out.below g3.below
      have L3 : Aside (Shr w3 S k (addUp drwE k)) := L2.out.below g3.below
      have D3 : Aside (Below S w w3) := D2.out.trans (g3.below.mono (by omega))
      clear so g3 O2 L2 D2 sz2
      go_wp2_with fail
      go_loopg [9] (2 * M) (fun kx s9 wr => ∃ (i : Nat), s9 = .int .i64 i ∧ i ≤ 2 * M ∧ 2 * M - i ≤ kx ∧ Aside (Below w3.heap.size w3 wr))
      case atStart => exact ⟨0, rfl, by omega, by omega, Below.refl _ _⟩
      case round =>
        obtain ⟨i, rfl, hi, hix, DI⟩ := hrel
        have sz := DI.out.size
        have sz3 := D3.out.size
        have L4 : Aside (Shr wr S k (addUp drwE k)) := L3.out.below DI.out
        by_cases hlt2 : i < 2 * M
        · have hy : (i : Int) < 2 * (M : Int) := by omega
          obtain ⟨J, hJ⟩ : ∃ J, i % M = J := ⟨_, rfl⟩
          have jM : J < M := by rw [← hJ]; exact Nat.mod_lt _ hM2
          have jA : J < A.length := by rw [HAL.out]; omega
          obtain ⟨x, hx⟩ : ∃ x, A[J] = x := ⟨_, rfl⟩
          have cd := cand_any S k (addUp drwE k) (K : Int) i wr L4.out (by rw [HFL.out]; omega) (by omega) (by rw [HFL.out]; omega) x (by
            rw [HA.out, HFL.out, show drawN (K : Int) k = M by unfold drawN; omega, hJ, List.getElem?_eq_getElem jA, hx])
          have ww1 : IntKind.u64.wrap (i : Int) = (i : Int) := by rw [IntKind.wrap_u64, Int.emod_eq_of_lt (by omega) (by omega)]
          have ww4 : (i : Int) % (M : Int) = (J : Int) := by rw [← hJ]; rfl
          have ww3 : Int.tmod (i : Int) (M : Int) = (J : Int) := by rw [← hJ]; rfl
          have ww6 : ¬ (M : Int) = 0 := by omega
          have ww7 : ((M : Int) == 0) = false := by simp; omega
          have ww8 : (J : Int) < (M : Int) := by omega
          have HX : Hid ((A.take M)[J]? = some x) := by show _ = _; rw [List.getElem?_take, if_pos jM, List.getElem?_eq_getElem jA, hx]
          clear hJ hx
          go_wp2_with fail
          refine cd.mono ?_
          rintro r w4_ ⟨rfl, b4⟩
          obtain ⟨R, hR⟩ : ∃ R, w4_.heap.size = R := ⟨_, rfl⟩
          obtain ⟨u, hu⟩ : ∃ u, w4_.alloc (.cells #[.int .u64 x.1, .int .i64 x.2] 37) = u := ⟨_, rfl⟩
          have HU : Hid _ := hu
          have bu : Below w4_.heap.size w4_ u := by rw [← hu]; exact (Below.refl _ _).alloc (Nat.le_refl _) _
          have b3u : Below w3.heap.size w3 u := DI.out.trans ((b4.trans (bu.mono b4.size)).mono sz)
          have BU : Aside (Below w3.heap.size w3 u) := b3u
          obtain ⟨g, off, ha, hg, c0, c1⟩ := (O3.out.below b3u).is.elem J x HX.out
          have uR : u.heap[R]? = some (.cells #[.int .u64 x.1, .int .i64 x.2] 37 (0, 0)) := by rw [← hu, ← hR]; exact heap_alloc_new w4_ _
          have y0 : ∀ q, (u.drewN q).cell? ⟨R, 0, none⟩ = some (.int .u64 x.1) := fun q => shr0 uR
          have y1 : ∀ q, (u.drewN q).cell? ⟨R, 1, none⟩ = some (.int .i64 x.2) := fun q => shr1 uR
          have y2 : ∀ q, (u.drewN q).cell? ⟨g, off + J * 2, none⟩ = some (.int .u64 x.1) := fun q => c0
          have y3 : ∀ q, (u.drewN q).cell? ⟨g, off + J * 2 + 1, none⟩ = some (.int .i64 x.2) := fun q => c1
          have q1 := eqE x x
          have q2 := guardE
          have ed : decide (x = x) = true := decide_eq_true rfl
          subst ha
          clear hu bu b3u b4 cd uR c0 c1
          go_wp2_with fail
          rw [HU.out]
          go_quiet (fail)
          have D5 : Aside (Below w3.heap.size w3 (u.drewN nq)) := BU.out.trans ((Grown.below ⟨nq, #[], by rw [grow_empty]⟩).mono BU.out.size)
          clear y0 y1 y2 y3
          go_wp2
          go_roundg (2 * M - (i + 1))
          case measure => omega
          case rel => exact ⟨i + 1, by go_num, by omega, Nat.le_refl _, D5⟩
        · obtain rfl : i = 2 * M := by omega
          have hy : ¬ (((2 * M : Nat)) : Int) < 2 * (M : Int) := by omega
          have al := sall_any S k (addUp drwE k) wr L4.out (by rw [HFL.out]; omega)
          rw [HA.out, HFL.out] at al
          go_wp2_with fail
          refine al.mono ?_
          rintro r w4 ⟨a4, c4, rfl, o4, b4⟩
          have b34 : Below w3.heap.size w3 w4 := DI.out.trans (b4.mono sz)
          have O4 : Aside (OwnE w4 S (.slice a4 k c4) A) := o4.low (by omega)
          have P4 : Aside (OwnE w4 S (.slice a2 M c2) (A.take M)) := O3.out.below b34
          have D4 : Aside (Below S w w4) := D3.out.trans (b34.mono (by omega))
          have sm := sameN (B := true) (O4.out.is.take M) P4.out.is HL2.out HL2.out (decide_eq_true rfl)
          have kc : k ≤ c4 := by have := o4.is.le; rw [HAL.out] at this; exact this
          have kc2 : (k : Int) ≤ (c4 : Int) := by omega
          have Mk : (M : Int) ≤ (c4 : Int) := by omega
          clear o4 b4 b34 al L4 DI
          go_wp2_with fail
          refine sm.mono ?_
          rintro r w5 ⟨rfl, d5⟩
          have s4 := D4.out.size
          have D5 : Aside (Below S w w5) := D4.out.trans (d5.mono (by omega))
          have aw := sawake_any w5
          clear sm d5
          go_wp2_with fail
          refine aw.mono ?_
          rintro r w6 ⟨rfl, d6⟩
          have s5 := D5.out.size
          have D6 : Aside (Below S w w6) := D5.out.trans (d6.mono (by omega))
          clear aw d6
          go_wp2
          go_ret
          exact ⟨rfl, by first | exact D6.out | (rw [HS.out]; exact D6.out)⟩
end Go.Proofs.Ytboccihcomaaoaa
