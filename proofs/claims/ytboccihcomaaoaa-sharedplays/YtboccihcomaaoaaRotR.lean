/- slices.rotateCmpFunc: two neighbours change places. -/
import Derived.Test.YtboccihcomaaoaaSwapR
namespace Go.Proofs.Ytboccihcomaaoaa
open Go.RowKit Go.Lib Go.Sort
set_option linter.unusedVariables false

set_option maxHeartbeats 4000000 in
set_option maxRecDepth 1000000 in
theorem rotate_any (blk off cap a m b : Nat) (d0 d : Array Ent) (w0 w : World) (fv : Value) (R : RE w0 blk off d0) (hs : d0.size = d.size) (S : SE w0 blk off d w) (ham : a < m) (hmb : m < b) (hb : b ≤ d.size) (hsz : d.size < 1152921504606846976) :
    Calls Try.prog 81 #[.slice (some ⟨blk, off, none⟩) d.size cap, .int .i64 a, .int .i64 m, .int .i64 b, fv] w fun e w' => e = .returned (.tuple #[]) ∧
      ∃ d' : Array Ent, d'.size = d.size ∧ SE w0 blk off d' w' ∧ (∀ t, d'[t]! = rotF (fun t => d[t]!) a m b t) ∧ PermIn a b d d' := by
  have S0 : Aside _ := S
  clear S
  have sr := fun (x y k : Nat) (dk : Array Ent) (W : World) (z : dk.size = d.size) (h1 : SE w0 blk off dk W) (h2 : x + k ≤ y) (h3 : y + k ≤ dk.size) => swapRange_any blk off cap x y k d0 dk w0 W fv R (by omega) h1 h2 h3 (by omega)
  have SR : Aside _ := sr
  clear sr
  go_enter Try.func81, Try.ntmps81
  go_wp2
  go_loopg [10, 11] (b - a) (fun kx s10 s11 wr => ∃ (i j : Nat) (dk : Array Ent), s10 = .int .i64 i ∧ s11 = .int .i64 j ∧ 1 ≤ i ∧ 1 ≤ j ∧ a + i ≤ m ∧ m + j ≤ b ∧ i + j ≤ kx ∧ dk.size = d.size ∧ Aside (SE w0 blk off dk wr) ∧ Aside (∀ t, rotF (fun t => dk[t]!) (m - i) m (m + j) t = rotF (fun t => d[t]!) a m b t) ∧ Aside (PermIn a b d dk))
  case atStart => exact ⟨m - a, b - m, d, by congr 1; omega, by congr 1; omega, by omega, by omega, by omega, by omega, by omega, rfl, S0, (fun t => by rw [show m - (m - a) = a by omega, show m + (b - m) = b by omega] : ∀ t, rotF (fun t => d[t]!) (m - (m - a)) m (m + (b - m)) t = rotF (fun t => d[t]!) a m b t), permIn_refl d a b⟩
  case round =>
    obtain ⟨i, j, dk, rfl, rfl, hi, hj, him, hjb, hkx, hds, S1, G1, P1⟩ := hrel
    clear S0
    have wi : (m : Int) - (i : Int) = ((m - i : Nat) : Int) := by omega
    by_cases c : i = j
    · subst c
      go_wp2_with fail
      rw [← hds]
      refine (SR.out (m - i) m i dk wr hds S1.out (by omega) (by omega)).mono ?_
      rintro e w1 ⟨rfl, d1, z1, s1, g1, p1⟩
      go_wp2
      go_end0
      refine ⟨rfl, d1, by omega, s1, fun t => ?_, permIn_trans _ _ _ _ _ P1.out (p1 a b (by omega) (by omega) (by omega))⟩
      rw [g1 t, rot_eq _ _ _ _ (by omega)]
      exact G1.out t
    · have cz : ¬ (i : Int) = (j : Int) := by omega
      by_cases c2 : j < i
      · have c2z : (j : Int) < (i : Int) := by omega
        go_wp2_with fail
        rw [← hds]
        refine (SR.out (m - i) m j dk wr hds S1.out (by omega) (by omega)).mono ?_
        rintro e w1 ⟨rfl, d1, z1, s1, g1, p1⟩
        have S2 : Aside _ := s1
        have G2 : Aside _ := g1
        have P2 : Aside _ := p1
        clear s1 g1 p1 S1
        go_wp2
        go_roundg (i + j - j)
        case measure => omega
        case rel =>
          refine ⟨i - j, j, d1, by congr 1; omega, rfl, by omega, by omega, by omega, by omega, by omega, by omega, S2, (fun t => ?_ : ∀ t, rotF (fun t => d1[t]!) (m - (i - j)) m (m + j) t = rotF (fun t => d[t]!) a m b t), permIn_trans _ _ _ _ _ P1.out (P2.out a b (by omega) (by omega) (by omega))⟩
          rw [rotF_congr G2.out, rot_gt _ _ _ _ _ c2 (by omega)]
          exact G1.out t
      · have c2z : ¬ (j : Int) < (i : Int) := by omega
        have wj : (m : Int) + (j : Int) - (i : Int) = ((m + j - i : Nat) : Int) := by omega
        go_wp2_with fail
        rw [← hds]
        refine (SR.out (m - i) (m + j - i) i dk wr hds S1.out (by omega) (by omega)).mono ?_
        rintro e w1 ⟨rfl, d1, z1, s1, g1, p1⟩
        have S2 : Aside _ := s1
        have G2 : Aside _ := g1
        have P2 : Aside _ := p1
        clear s1 g1 p1 S1
        go_wp2
        go_roundg (i + j - i)
        case measure => omega
        case rel =>
          refine ⟨i, j - i, d1, rfl, by congr 1; omega, by omega, by omega, by omega, by omega, by omega, by omega, S2, (fun t => ?_ : ∀ t, rotF (fun t => d1[t]!) (m - i) m (m + (j - i)) t = rotF (fun t => d[t]!) a m b t), permIn_trans _ _ _ _ _ P1.out (P2.out a b (by omega) (by omega) (by omega))⟩
          rw [rotF_congr G2.out, rot_lt _ _ _ _ _ (by omega) (by omega)]
          exact G1.out t
end Go.Proofs.Ytboccihcomaaoaa
