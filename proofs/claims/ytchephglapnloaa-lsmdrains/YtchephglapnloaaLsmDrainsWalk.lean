/- The walk of 'LsmDrains'. -/
import Derived.Test.YtchephglapnloaaLsmA
import Derived.Test.YtchephglapnloaaMask
import Derived.Test.YtchephglapnloaaRowAt
import Derived.Test.YtchephglapnloaaEntR2
namespace Go.Proofs.Ytchephglapnloaa
open Go.RowKit Go.Lib Go.Sort
set_option linter.unusedVariables false

/-- Turned round, it is the same list in another order. -/
theorem turn_perm (A : List Ent) (t : Nat) (hA : 0 < A.length) : ((List.range A.length).map (fun i => A.getD ((i + t) % A.length) (0, 0))).Perm A := by
  have e : (List.range A.length).map (fun i => A.getD ((i + t) % A.length) (0, 0)) = A.drop (t % A.length) ++ A.take (t % A.length) := by
    have hr : t % A.length < A.length := Nat.mod_lt _ hA
    apply List.ext_getElem
    · simp; omega
    · intro i h1 h2
      simp only [List.length_map, List.length_range] at h1
      rw [List.getElem_map, List.getElem_range]
      have em : (i + t) % A.length = (i + t % A.length) % A.length := by rw [Nat.add_mod, Nat.add_mod i (t % A.length), Nat.mod_mod]
      have hlt : (i + t) % A.length < A.length := Nat.mod_lt _ hA
      rw [List.getD, List.getElem?_eq_getElem hlt, Option.getD_some]
      by_cases c : i < A.length - t % A.length
      · rw [List.getElem_append_left (by simpa using c), List.getElem_drop]
        congr 1
        rw [em, Nat.mod_eq_of_lt (by omega)]
        omega
      · rw [List.getElem_append_right (by simpa using c), List.getElem_take]
        congr 1
        rw [em, show i + t % A.length = (i - (A.length - t % A.length)) + A.length by omega, Nat.add_mod_right, Nat.mod_eq_of_lt (by omega)]
        simp
  rw [e]
  exact List.perm_append_comm.trans (by rw [List.take_append_drop])
theorem putUp_ext {f g : Nat → Ent} : ∀ {k : Nat}, (∀ i, i < k → f i = g i) → putUp f k = putUp g k
  | 0, _ => rfl
  | k + 1, h => by
    show putL (putUp f k) (f k) = putL (putUp g k) (g k)
    rw [putUp_ext (fun i hi => h i (by omega)), h k (by omega)]

/-- The entries that are put: a key, and its number. -/
def keyE (zs : List Int) (i : Nat) : Ent := (zs.getD i 0, (i : Int) + 1)

set_option maxHeartbeats 4000000 in
set_option maxRecDepth 100000 in
theorem lsmDrains_walk (a0 : Option Addr) (len0 cap0 : Nat) (zs : List Int) (turn : Int) (w : World) (h0 : IsRow .u64 w a0 len0 cap0 zs) (h1 : (Lit.int .i64 turn).wf = true) :
    Calls Try.prog 3 #[.slice a0 len0 cap0, .int .i64 turn] w fun r w' => r = .returned (.bool true) ∧ Below w.heap.size w w' := by
  obtain ⟨S, hS⟩ : ∃ S, w.heap.size = S := ⟨_, rfl⟩
  have HS : Hid _ := hS
  have hl := h0.len_le
  have H0 : Aside (IsRow .u64 w a0 len0 cap0 zs) := h0
  obtain ⟨N, hN, n60, nl⟩ : ∃ N : Nat, min (len0 : Int) 60 = (N : Int) ∧ N ≤ 60 ∧ N ≤ len0 := ⟨min len0 60, by omega, by omega, by omega⟩
  obtain ⟨X, hX, X0⟩ : ∃ X : Nat, bits .and .i64 turn 255 = (X : Int) ∧ X < 256 := by
    have := mask_i64 turn 8 255 256 (by omega) rfl rfl
    exact ⟨(turn % 256).toNat, by rw [this]; omega, by omega⟩
  have nw := lnew_any w
  have L0 : Aside (Lsm (w.alloc (.cells #[.slice none 0 0] 60)) S S []) := by rw [← hS]; exact lsm_new w _ (Nat.le_refl _)
  have D0 : Aside (Below S w (w.alloc (.cells #[.slice none 0 0] 60))) := by rw [← hS]; exact (Below.refl _ _).alloc (Nat.le_refl _) _
  rw [hS] at nw
  clear h0 h1
  go_enter Try.func3, Try.ntmps3
  go_wp2_with fail
  refine nw.mono ?_
  rintro r w1 ⟨rfl, rfl⟩
  generalize w.alloc (.cells #[.slice none 0 0] 60) = w1 at L0 D0 ⊢
  clear nw
  go_wp2_with fail
  go_loopg [7] N (fun kx s7 wr => ∃ (k : Nat), s7 = .int .i64 k ∧ k ≤ N ∧ N - k ≤ kx ∧ Aside (Lsm wr S S (putUp (keyE zs) k)) ∧ Aside (Below S w wr))
  case atStart => exact ⟨0, rfl, by omega, by omega, L0, D0⟩
  case round =>
    clear L0 D0
    obtain ⟨k, rfl, hk, hkx, L, D⟩ := hrel
    have sz := D.out.size
    by_cases hlt : k < N
    · have hz : (k : Int) < (N : Int) := by omega
      have hz2 : (k : Int) < (len0 : Int) := by omega
      obtain ⟨b, off, ha, hb, hc, _⟩ := H0.out.at (show k < len0 by omega)
      have hc2 := (D.out.cell (p := ⟨b, off + k, none⟩) (by show b < S; omega)).trans hc
      have pt := lput_any S S _ (keyE zs k) wr L.out (by have := putUp_count (keyE zs) k; omega) (by rw [putUp_len]; omega) (by omega)
      unfold keyE at pt
      simp only at pt
      obtain ⟨z, hzz⟩ : ∃ z, zs.getD k 0 = z := ⟨_, rfl⟩
      rw [hzz] at pt hc2
      have HZ : Hid _ := hzz
      subst ha
      clear hc hzz
      go_wp2_with fail
      refine pt.mono ?_
      rintro r w2 ⟨rfl, t2⟩
      have L2 : Aside (Lsm w2 S S (putUp (keyE zs) (k + 1))) := by have := t2.1; rw [← HZ.out] at this; exact this
      have D2 : Aside (Below S w w2) := D.out.trans t2.2.1
      clear t2 pt L D hc2
      go_wp2
      go_roundg (N - (k + 1))
      case measure => omega
      case rel => exact ⟨k + 1, by go_num, by omega, Nat.le_refl _, L2, D2⟩
    · obtain rfl : k = N := by omega
      have hz : ¬ (k : Int) < (k : Int) := by omega
      have dr := ldrain_any S S _ wr L.out (by rw [putUp_len]; omega) (by omega)
      obtain ⟨A, hA⟩ : ∃ A, sortE (putUp (keyE zs) k).flatten = A := ⟨_, rfl⟩
      have hAl : A.length = k := by rw [← hA, sortE_len, putUp_len]
      have hAs : Srt A := by rw [← hA]; exact sortE_srt _
      rw [hA] at dr
      unfold Drained at dr
      rw [hAl] at dr
      have HAL : Hid _ := hAl
      have HAS : Aside (Srt A) := hAs
      clear hA hAl hAs L
      go_wp2_with fail
      refine dr.mono ?_
      rintro r w2 ⟨a2, c2, rfl, o2, t2⟩
      have O2 : Aside (OwnE w2 S (.slice a2 k c2) A) := o2
      have L2 : Aside (Lsm w2 S S []) := t2.1
      have D2 : Aside (Below S w w2) := D.out.trans t2.2.1
      have so := refSorted_any a2 c2 A w2 o2.is
      rw [HAL.out, (srtB_iff A).2 HAS.out] at so
      clear t2 o2 dr D sz
      go_wp2_with fail
      refine so.mono ?_
      rintro r w3 ⟨rfl, g3⟩
      have sz2 := D2.out.size
      have O3 : Aside (OwnE w3 S (.slice a2 k c2) A) := O2.out.below g3.below
      have L3 : Aside (Lsm w3 S S []) := L2.out.below g3.below
      have D3 : Aside (Below S w w3) := D2.out.trans (g3.below.mono (by omega))
      have ln := llen_any S S _ w3 L3.out (by simp)
      rw [show (([] : List (List Ent)).flatten.length : Int) = 0 from rfl] at ln
      clear so g3 O2 L2 D2 sz2
      go_wp2_with fail
      refine ln.mono ?_
      rintro r w4 ⟨rfl, d4⟩
      have sz3 := D3.out.size
      have O4 : Aside (OwnE w4 S (.slice a2 k c2) A) := O3.out.below d4
      have L4 : Aside (Lsm w4 S S []) := L3.out.below d4
      have D4 : Aside (Below S w w4) := D3.out.trans (d4.mono (by omega))
      have dr := ldrain_any S S _ w4 L4.out (by simp) (by have := D4.out.size; omega)
      rw [show sortE ([] : List (List Ent)).flatten = [] from sortE_id Srt.nil] at dr
      unfold Drained at dr
      simp only [List.length_nil] at dr
      clear ln d4 O3 L3 D3 sz3
      go_wp2_with fail
      refine dr.mono ?_
      rintro r w5 ⟨a5, c5, rfl, o5, t5⟩
      have O5 : Aside (OwnE w5 S (.slice a2 k c2) A) := t5.2.2.own lb_ent O4.out
      have L5 : Aside (Lsm w5 S S []) := t5.1
      have D5 : Aside (Below S w w5) := D4.out.trans t5.2.1
      clear o5 t5 dr O4 L4 D4
      go_wp2_with fail
      go_loopg [9] k (fun kx s9 wr => ∃ (i : Nat), s9 = .int .i64 i ∧ i ≤ k ∧ k - i ≤ kx ∧ Aside (Lsm wr S S (putUp (fun i => A.getD ((i + X) % A.length) (0, 0)) i)) ∧ Aside (Below S w wr) ∧ Aside (OwnE wr S (.slice a2 k c2) A))
      case atStart => exact ⟨0, rfl, by omega, by omega, L5, D5, O5⟩
      case round =>
        clear L5 D5 O5
        obtain ⟨i, rfl, hi, hix, L, D, O⟩ := hrel
        have sz := D.out.size
        by_cases hlt2 : i < k
        · have hy : (i : Int) < (k : Int) := by omega
          obtain ⟨J, hJ⟩ : ∃ J, (i + X) % k = J := ⟨_, rfl⟩
          have hJ2 : ((i : Int) + (X : Int)) % (k : Int) = (J : Int) := by rw [← hJ, Int.natCast_emod, Int.natCast_add]
          have jk : J < k := by rw [← hJ]; exact Nat.mod_lt _ (by omega)
          have jk2 : (J : Int) < (k : Int) := by omega
          have k0 : ¬ (k : Int) = 0 := by omega
          have jA : J < A.length := by rw [HAL.out]; exact jk
          obtain ⟨x, hx⟩ : ∃ x, A[J] = x := ⟨_, rfl⟩
          have HX : Hid (A.getD ((i + X) % A.length) (0, 0) = x) := by show _ = _; rw [HAL.out, hJ, List.getD, List.getElem?_eq_getElem jA, Option.getD_some, hx]
          obtain ⟨b, off, ha, hb, c0, c1⟩ := O.out.is.elem J x (by rw [List.getElem?_eq_getElem jA, hx])
          have pt := lput_any S S _ x wr L.out (by have := putUp_count (fun i => A.getD ((i + X) % A.length) (0, 0)) i; omega) (by rw [putUp_len]; omega) (by omega)
          have HA2 : Hid _ := ha
          subst ha
          clear hx
          go_wp2_with fail
          refine pt.mono ?_
          rintro r w6 ⟨rfl, t6⟩
          have L6 : Aside (Lsm w6 S S (putUp (fun i => A.getD ((i + X) % A.length) (0, 0)) (i + 1))) := by have := t6.1; rw [← HX.out] at this; exact this
          have D6 : Aside (Below S w w6) := D.out.trans t6.2.1
          have O6 : Aside (OwnE w6 S (.slice (some ⟨b, off, none⟩) k c2) A) := t6.2.2.own lb_ent O.out
          clear t6 pt L D O c0 c1
          go_wp2
          go_roundg (k - (i + 1))
          case measure => omega
          case rel => exact ⟨i + 1, by go_num, by omega, Nat.le_refl _, L6, D6, O6⟩
        · obtain rfl : i = k := by omega
          have hy : ¬ (i : Int) < (i : Int) := by omega
          have hsame : sortE (putUp (fun i => A.getD ((i + X) % A.length) (0, 0)) i).flatten = A := by
            by_cases e0 : A.length = 0
            · have e1 : A = [] := List.length_eq_zero_iff.1 e0
              have e2 : i = 0 := by rw [← HAL.out, e0]
              subst e2
              rw [e1]
              exact sortE_id Srt.nil
            · refine (sortE_of HAS.out ?_).symm
              refine ((putUp_perm _ _).trans ?_).symm
              have := turn_perm A X (by omega)
              rw [HAL.out] at this ⊢
              exact this
          have dr := ldrain_any S S _ wr L.out (by rw [putUp_len]; omega) (by omega)
          rw [hsame] at dr
          unfold Drained at dr
          rw [HAL.out] at dr
          clear hsame
          go_wp2_with fail
          refine dr.mono ?_
          rintro r w6 ⟨a6, c6, rfl, o6, t6⟩
          have O6 : Aside (OwnE w6 S (.slice a2 i c2) A) := t6.2.2.own lb_ent O.out
          have P6 : Aside (OwnE w6 S (.slice a6 i c6) A) := o6
          have L6 : Aside (Lsm w6 S S []) := t6.1
          have D6 : Aside (Below S w w6) := D.out.trans t6.2.1
          have sm := sameN (B := true) P6.out.is O6.out.is HAL.out HAL.out (decide_eq_true rfl)
          clear o6 t6 dr L D O
          go_wp2_with fail
          refine sm.mono ?_
          rintro r w7 ⟨rfl, d7⟩
          have s6 := D6.out.size
          have L7 : Aside (Lsm w7 S S []) := L6.out.below d7
          have D7 : Aside (Below S w w7) := D6.out.trans (d7.mono (by omega))
          have ck := lcheck_any S S _ w7 L7.out Fall.nil (by simp) (by simp)
          clear sm d7
          go_wp2_with fail
          refine ck.mono ?_
          rintro r w8 ⟨rfl, d8⟩
          have s7 := D7.out.size
          have D8 : Aside (Below S w w8) := D7.out.trans (d8.mono (by omega))
          have aw := lawake_any w8
          clear ck d8
          go_wp2_with fail
          refine aw.mono ?_
          rintro r w9 ⟨rfl, d9⟩
          have s8 := D8.out.size
          have D9 : Aside (Below S w w9) := D8.out.trans (d9.mono (by omega))
          clear aw d9
          go_wp2
          go_ret
          exact ⟨rfl, by rw [HS.out]; exact D9.out⟩
end Go.Proofs.Ytchephglapnloaa
