/- slices.swapRangeCmpFunc: two ranges change places. -/
import Derived.Test.YtboccihcomaaoaaEntW
import Derived.BigRegion
import Derived.Deep.LoopGhost
namespace Go.Proofs.Ytboccihcomaaoaa
open Go.RowKit Go.Lib Go.Sort
set_option linter.unusedVariables false

set_option maxHeartbeats 4000000 in
set_option maxRecDepth 1000000 in
theorem swapRange_any (blk off cap a b n : Nat) (d0 d : Array Ent) (w0 w : World) (fv : Value) (R : RE w0 blk off d0) (hs : d0.size = d.size) (S : SE w0 blk off d w) (hab : a + n ≤ b) (hb : b + n ≤ d.size) (hsz : d.size < 1152921504606846976) :
    Calls Try.prog 82 #[.slice (some ⟨blk, off, none⟩) d.size cap, .int .i64 a, .int .i64 b, .int .i64 n, fv] w fun e w' => e = .returned (.tuple #[]) ∧
      ∃ d' : Array Ent, d'.size = d.size ∧ SE w0 blk off d' w' ∧ (∀ t, d'[t]! = swR (fun t => d[t]!) a b n t) ∧ ∀ lo hi, lo ≤ a → b + n ≤ hi → hi ≤ d.size → PermIn lo hi d d' := by
  have S0 : Aside _ := S
  clear S
  go_enter Try.func82, Try.ntmps82
  go_wp2
  go_loopg [10] n (fun kx s10 wr => ∃ (i : Nat) (dk : Array Ent), s10 = .int .i64 i ∧ i ≤ n ∧ n - i ≤ kx ∧ dk.size = d.size ∧ Aside (SE w0 blk off dk wr) ∧ Aside (∀ t, dk[t]! = swR (fun t => d[t]!) a b i t) ∧ Aside (∀ lo hi, lo ≤ a → b + n ≤ hi → hi ≤ d.size → PermIn lo hi d dk))
  case atStart => exact ⟨0, d, rfl, Nat.zero_le _, Nat.le_refl _, rfl, S0, (fun t => (swR_zero _ a b t).symm : ∀ t, d[t]! = swR (fun t => d[t]!) a b 0 t), (fun lo hi _ _ _ => permIn_refl d lo hi : ∀ lo hi, lo ≤ a → b + n ≤ hi → hi ≤ d.size → PermIn lo hi d d)⟩
  case round =>
    obtain ⟨i, dk, rfl, hin, hkx, hds, S1, G1, P1⟩ := hrel
    clear S0
    by_cases hlt : i < n
    · have e1 : ((a : Int) + (i : Int)).toNat = a + i := by omega
      have e2 : ((b : Int) + (i : Int)).toNat = b + i := by omega
      have p1 : (0 : Int) ≤ (a : Int) + (i : Int) := by omega
      have p2 : (0 : Int) ≤ (b : Int) + (i : Int) := by omega
      have b1 : (a : Int) + (i : Int) < (d.size : Int) := by omega
      have b2 : (b : Int) + (i : Int) < (d.size : Int) := by omega
      have r1 : IntKind.i64.wrap ((a : Int) + (i : Int)) = (a : Int) + (i : Int) := by rw [IntKind.wrap_i64]; omega
      have r2 : IntKind.i64.wrap ((b : Int) + (i : Int)) = (b : Int) + (i : Int) := by rw [IntKind.wrap_i64]; omega
      obtain ⟨x, hx⟩ : ∃ x, dk[a + i]! = x := ⟨_, rfl⟩
      obtain ⟨y, hy⟩ : ∃ y, dk[b + i]! = y := ⟨_, rfl⟩
      have c1 := se_c0 S1.out R (by omega) (show a + i < dk.size by omega)
      have c2 := se_c1 S1.out R (by omega) (show a + i < dk.size by omega)
      have c3 := se_c0 S1.out R (by omega) (show b + i < dk.size by omega)
      have c4 := se_c1 S1.out R (by omega) (show b + i < dk.size by omega)
      have f1 := se_f0 S1.out R (by omega) (show a + i < dk.size by omega)
      have f2 := se_f1 S1.out R (by omega) (show a + i < dk.size by omega)
      have f3 := se_f0 S1.out R (by omega) (show b + i < dk.size by omega)
      have f4 := se_f1 S1.out R (by omega) (show b + i < dk.size by omega)
      have sw := se_swap S1.out R (show a + i < dk.size by omega) (show b + i < dk.size by omega)
      rw [hx] at c1 c2 sw
      rw [hy] at c3 c4 sw
      have S2 : Aside _ := sw
      have HX : Hid _ := hx
      have HY : Hid _ := hy
      clear sw S1 hx hy
      go_wp2_with fail
      go_region
      clear c1 c2 c3 c4 f1 f2 f3 f4
      generalize World.drew _ = w2 at S2 ⊢
      go_wp2
      go_roundg (n - (i + 1))
      case measure => omega
      case rel =>
        refine ⟨i + 1, swp dk (a + i) (b + i), by go_num, by omega, Nat.le_refl _, by rw [size_swp]; exact hds, S2, (fun t => ?_ : ∀ t, (swp dk (a + i) (b + i))[t]! = swR (fun t => d[t]!) a b (i + 1) t), (fun lo hi h1 h2 h3 => permIn_trans _ _ _ _ _ (P1.out lo hi h1 h2 h3) (swp_permIn dk lo hi _ _ (by omega) (by omega) (by omega) (by omega) (by omega)) : ∀ lo hi, lo ≤ a → b + n ≤ hi → hi ≤ d.size → PermIn lo hi d (swp dk (a + i) (b + i)))⟩
        have g := G1.out
        have ga : dk[a + i]! = d[a + i]! := by rw [g]; unfold swR; rw [if_neg (by omega), if_neg (by omega)]
        have gb : dk[b + i]! = d[b + i]! := by rw [g]; unfold swR; rw [if_neg (by omega), if_neg (by omega)]
        rw [swp_get dk (by omega) (by omega), swR_succ _ _ _ _ _ (by omega), g t, ga, gb]
    · go_wp2
      go_end0
      obtain rfl : i = n := by omega
      exact ⟨rfl, dk, hds, S1.out, G1.out, P1.out⟩
end Go.Proofs.Ytboccihcomaaoaa
