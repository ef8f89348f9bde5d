/- slices.swapRangeCmpFunc: two ranges change places. -/
import Derived.BigRegion
import Derived.Deep.LoopGhost
import Derived.Test.YtboccihcomaaoaaEntW
namespace Go.Proofs.Ytboccihcomaaoaa
open Go.RowKit Go.Lib Go.Sort
set_option linter.unusedVariables false

set_option maxHeartbeats 4000000 in
set_option maxRecDepth 1000000 in
theorem swapRange_any (blk off cap a b n : Nat) (d0 d : Array Ent) (w0 w : World) (fv : Value) (R : RE w0 blk off d0) (hs : d0.size = d.size) (S : SE w0 blk off d w) (hab : a + n ≤ b) (hb : b + n ≤ d.size) (hsz : d.size < 1152921504606846976) :
    Calls Try.prog 82 #[.slice (some ⟨blk, off, none⟩) d.size cap, .int .i64 a, .int .i64 b, .int .i64 n, fv] w fun e w' => e = .returned (.tuple #[]) ∧
      ∃ d' : Array Ent, d'.size = d.size ∧ SE w0 blk off d' w' ∧ (∀ t, d'[t]! = swR (fun t => d[t]!) a b n t) ∧ ∀ lo hi, lo ≤ a → b + n ≤ hi → hi ≤ d.size → PermIn lo hi d d' := by
  have S0 : Aside _ := S
  clear S
  go_enter Try.func82, Try.ntmps82
  go_wp2
  go_loopg [10] n (fun kx s10 wr => ∃ (i : Nat) (dk : Array Ent), s10 = .int .i64 i ∧ i ≤ n ∧ n - i ≤ kx ∧ dk.size = d.size ∧ Aside (SE w0 blk off dk wr) ∧ Aside (∀ t, dk[t]! = swR (fun t => d[t]!) a b i t) ∧ Aside (∀ lo hi, lo ≤ a → b + n ≤ hi → hi ≤ d.size → PermIn lo hi d dk))
  case atStart => exact ⟨0, d, rfl, Nat.zero_le _, Nat.le_refl _, rfl, S0, (fun t => (swR_zero _ a b t).symm : ∀ t, d[t]! = swR (fun t => d[t]!) a b 0 t), (fun lo hi _ _ _ => permIn_refl d lo hi : ∀ lo hi, lo ≤ a → b + n ≤ hi → hi ≤ d.size → PermIn lo hi d d)⟩
  case round =>
    obtain ⟨i, dk, rfl, hin, hkx, hds, S1, G1, P1⟩ := hrel
    clear S0
    by_cases hlt : i < n
    · have e1 : ((a : Int) + (i : Int)).toNat = a + i := by omega
      have e2 : ((b : Int) + (i : Int)).toNat = b + i := by omega
      have p1 : (0 : Int) ≤ (a : Int) + (i : Int) := by omega
      have p2 : (0 : Int) ≤ (b : Int) + (i : Int) := by omega
      have b1 : (a : Int) + (i : Int) < (d.size : Int) := by omega
      have b2 : (b : Int) + (i : Int) < (d.size : Int) := by omega
      have r1 : IntKind.i64.wrap ((a : Int) + (i : Int)) = (a : Int) + (i : Int) := by rw [IntKind.wrap_i64]; omega
      have r2 : IntKind.i64.wrap ((b : Int) + (i : Int)) = (b : Int) + (i : Int) := by rw [IntKind.wrap_i64]; omega
      obtain ⟨x, hx⟩ : ∃ x, dk[a + i]! = x := ⟨_, rfl⟩
      obtain ⟨y, hy⟩ : ∃ y, dk[b + i]! = y := ⟨_, rfl⟩
      have c1 := se_c0 S1.out R (by omega) (show a + i < dk.size by omega)
      have c2 := se_c1 S1.out R (by omega) (show a + i < dk.size by omega)
      have c3 := se_c0 S1.out R (by omega) (show b + i < dk.size by omega)
      have c4 := se_c1 S1.out R (by omega) (show b + i < dk.size by omega)
      have f1 := se_f0 S1.out R (by omega) (show a + i < dk.size by omega)
      have f2 := se_f1 S1.out R (by omega) (show a + i < dk.size by omega)
      have f3 := se_f0 S1.out R (by omega) (show b + i < dk.size by omega)
      have f4 := se_f1 S1.out R (by omega) (show b + i < dk.size by omega)
      have sw := se_swap S1.out R (show a + i < dk.size by omega) (show b + i < dk.size by omega)
      rw [hx] at c1 c2 sw
      rw [hy] at c3 c4 sw
      have S2 : Aside _ := sw
      have HX : Hid _ := hx
      have HY : Hid _ := hy
      clear sw S1 hx hy
      go_wp2_with fail
      go_region
      clear c1 c2 c3 c4 f1 f2 f3 f4
      generalize World.drew _ = w2 at S2 ⊢
      go_wp2
      go_roundg (n - (i + 1))
      case measure => omega
      case rel =>
        refine ⟨i + 1, swp dk (a + i) (b + i), by go_num, by omega, Nat.le_refl _, by rw [size_swp]; exact hds, S2, (fun t => ?_ : ∀ t, (swp dk (a + i) (b + i))[t]! = swR (fun t => d[t]!) a b (i + 1) t), (fun lo hi h1 h2 h3 => permIn_trans _ _ _ _ _ (P1.out lo hi h1 h2 h3) (swp_permIn dk lo hi _ _ (by omega) (by omega) (by omega) (by omega) (by omega)) : ∀ lo hi, lo ≤ a → b + n ≤ hi → hi ≤ d.size → PermIn lo hi d (swp dk (a + i) (b + i)))⟩
        have g := G1.out
        have ga : dk[a + i]! = d[a + i]! := by rw [g]; unfold swR; rw [if_neg (by omega), if_neg (by omega)]
        have gb : dk[b + i]! = d[b + i]! := by rw [g]; unfold swR; rw [if_neg (by omega), if_neg (by omega)]
        rw [swp_get dk (by omega) (by omega), swR_succ _ _ _ _ _ (by omega), g t, ga, gb]
    · go_wp2
      go_end0
      obtain rfl : i = n := by omega
      exact ⟨rfl, dk, hds, S1.out, G1.out, P1.out⟩
end Go.Proofs.Ytboccihcomaaoaa
/- slices.rotateCmpFunc: two neighbours change places. -/
namespace Go.Proofs.Ytboccihcomaaoaa
open Go.RowKit Go.Lib Go.Sort
set_option linter.unusedVariables false

set_option maxHeartbeats 4000000 in
set_option maxRecDepth 1000000 in
theorem rotate_any (blk off cap a m b : Nat) (d0 d : Array Ent) (w0 w : World) (fv : Value) (R : RE w0 blk off d0) (hs : d0.size = d.size) (S : SE w0 blk off d w) (ham : a < m) (hmb : m < b) (hb : b ≤ d.size) (hsz : d.size < 1152921504606846976) :
    Calls Try.prog 81 #[.slice (some ⟨blk, off, none⟩) d.size cap, .int .i64 a, .int .i64 m, .int .i64 b, fv] w fun e w' => e = .returned (.tuple #[]) ∧
      ∃ d' : Array Ent, d'.size = d.size ∧ SE w0 blk off d' w' ∧ (∀ t, d'[t]! = rotF (fun t => d[t]!) a m b t) ∧ PermIn a b d d' := by
  have S0 : Aside _ := S
  clear S
  have sr := fun (x y k : Nat) (dk : Array Ent) (W : World) (z : dk.size = d.size) (h1 : SE w0 blk off dk W) (h2 : x + k ≤ y) (h3 : y + k ≤ dk.size) => swapRange_any blk off cap x y k d0 dk w0 W fv R (by omega) h1 h2 h3 (by omega)
  have SR : Aside _ := sr
  clear sr
  go_enter Try.func81, Try.ntmps81
  go_wp2
  go_loopg [10, 11] (b - a) (fun kx s10 s11 wr => ∃ (i j : Nat) (dk : Array Ent), s10 = .int .i64 i ∧ s11 = .int .i64 j ∧ 1 ≤ i ∧ 1 ≤ j ∧ a + i ≤ m ∧ m + j ≤ b ∧ i + j ≤ kx ∧ dk.size = d.size ∧ Aside (SE w0 blk off dk wr) ∧ Aside (∀ t, rotF (fun t => dk[t]!) (m - i) m (m + j) t = rotF (fun t => d[t]!) a m b t) ∧ Aside (PermIn a b d dk))
  case atStart => exact ⟨m - a, b - m, d, by congr 1; omega, by congr 1; omega, by omega, by omega, by omega, by omega, by omega, rfl, S0, (fun t => by rw [show m - (m - a) = a by omega, show m + (b - m) = b by omega] : ∀ t, rotF (fun t => d[t]!) (m - (m - a)) m (m + (b - m)) t = rotF (fun t => d[t]!) a m b t), permIn_refl d a b⟩
  case round =>
    obtain ⟨i, j, dk, rfl, rfl, hi, hj, him, hjb, hkx, hds, S1, G1, P1⟩ := hrel
    clear S0
    have wi : (m : Int) - (i : Int) = ((m - i : Nat) : Int) := by omega
    by_cases c : i = j
    · subst c
      go_wp2_with fail
      rw [← hds]
      refine (SR.out (m - i) m i dk wr hds S1.out (by omega) (by omega)).mono ?_
      rintro e w1 ⟨rfl, d1, z1, s1, g1, p1⟩
      go_wp2
      go_end0
      refine ⟨rfl, d1, by omega, s1, fun t => ?_, permIn_trans _ _ _ _ _ P1.out (p1 a b (by omega) (by omega) (by omega))⟩
      rw [g1 t, rot_eq _ _ _ _ (by omega)]
      exact G1.out t
    · have cz : ¬ (i : Int) = (j : Int) := by omega
      by_cases c2 : j < i
      · have c2z : (j : Int) < (i : Int) := by omega
        go_wp2_with fail
        rw [← hds]
        refine (SR.out (m - i) m j dk wr hds S1.out (by omega) (by omega)).mono ?_
        rintro e w1 ⟨rfl, d1, z1, s1, g1, p1⟩
        have S2 : Aside _ := s1
        have G2 : Aside _ := g1
        have P2 : Aside _ := p1
        clear s1 g1 p1 S1
        go_wp2
        go_roundg (i + j - j)
        case measure => omega
        case rel =>
          refine ⟨i - j, j, d1, by congr 1; omega, rfl, by omega, by omega, by omega, by omega, by omega, by omega, S2, (fun t => ?_ : ∀ t, rotF (fun t => d1[t]!) (m - (i - j)) m (m + j) t = rotF (fun t => d[t]!) a m b t), permIn_trans _ _ _ _ _ P1.out (P2.out a b (by omega) (by omega) (by omega))⟩
          rw [rotF_congr G2.out, rot_gt _ _ _ _ _ c2 (by omega)]
          exact G1.out t
      · have c2z : ¬ (j : Int) < (i : Int) := by omega
        have wj : (m : Int) + (j : Int) - (i : Int) = ((m + j - i : Nat) : Int) := by omega
        go_wp2_with fail
        rw [← hds]
        refine (SR.out (m - i) (m + j - i) i dk wr hds S1.out (by omega) (by omega)).mono ?_
        rintro e w1 ⟨rfl, d1, z1, s1, g1, p1⟩
        have S2 : Aside _ := s1
        have G2 : Aside _ := g1
        have P2 : Aside _ := p1
        clear s1 g1 p1 S1
        go_wp2
        go_roundg (i + j - i)
        case measure => omega
        case rel =>
          refine ⟨i, j - i, d1, rfl, by congr 1; omega, by omega, by omega, by omega, by omega, by omega, by omega, S2, (fun t => ?_ : ∀ t, rotF (fun t => d1[t]!) (m - i) m (m + (j - i)) t = rotF (fun t => d[t]!) a m b t), permIn_trans _ _ _ _ _ P1.out (P2.out a b (by omega) (by omega) (by omega))⟩
          rw [rotF_congr G2.out, rot_lt _ _ _ _ _ (by omega) (by omega)]
          exact G1.out t
end Go.Proofs.Ytboccihcomaaoaa
