/- sort.Search over a function that only reads: a place where its answer turns. -/
import Derived.Test.YtefkgljpocfpfaaEntLess
import Derived.Deep.LoopGhost
namespace Go.Proofs.Ytefkgljpocfpfaa
open Go.RowKit Go.Lib Go.Sort
set_option linter.unusedVariables false

set_option maxHeartbeats 400000 in
theorem search_any (n : Nat) (g : Nat) (cb : Array Value) (p : Nat → Bool) (w : World) (hn : n < 4611686018427387904)
    (eg : ∀ args w, (callFunc g args).run Try.prog w = .ok (.enter g args) w)
    (hg : ∀ (h : Nat) (W : World), h < n → Grown w W → Calls Try.prog g (#[.int .i64 h] ++ cb) W fun e w' => e = .returned (.bool (p h)) ∧ Grown W w') :
    Calls Try.prog 33 #[.int .i64 n, .func (.func g) #[] cb] w fun e w' => ∃ i : Nat, e = .returned (.int .i64 i) ∧ i ≤ n ∧ (i = 0 ∨ p (i - 1) = false) ∧ (i = n ∨ p i = true) ∧ Grown w w' := by
  have HG : Aside _ := hg
  clear hg
  go_enter Try.func33, Try.ntmps33
  go_wp2
  go_loopg [5, 6] n (fun kx s5 s6 wr => ∃ i j : Nat, s5 = .int .i64 i ∧ s6 = .int .i64 j ∧ i ≤ j ∧ j ≤ n ∧ j - i ≤ kx ∧ Aside (i = 0 ∨ p (i - 1) = false) ∧ Aside (j = n ∨ p j = true) ∧ Aside (Grown w wr))
  case atStart => exact ⟨0, n, rfl, rfl, by omega, by omega, by omega, .inl rfl, .inl rfl, Grown.refl w⟩
  case round =>
    obtain ⟨i, j, rfl, rfl, hij, hjn, hkx, A1, A2, G1⟩ := hrel
    by_cases hlt : i < j
    · obtain ⟨h, hh⟩ : ∃ h : Nat, ((i : Int) + (j : Int)) / 2 = (h : Int) := ⟨(i + j) / 2, by omega⟩
      have l1 : i ≤ h := by omega
      have l2 : h < j := by omega
      go_wp2_with fail
      refine (HG.out h wr (by omega) G1.out).mono ?_
      obtain ⟨B, hB⟩ : ∃ B, p h = B := ⟨_, rfl⟩
      rw [hB]
      rintro e w1 ⟨rfl, g1⟩
      have HB : Hid _ := hB
      have G2 : Aside (Grown w w1) := G1.out.trans g1
      clear hh hB g1 G1
      cases B with
      | true =>
        go_wp2
        go_roundg (h - i)
        case measure => omega
        case rel => exact ⟨i, h, rfl, rfl, l1, by omega, Nat.le_refl _, A1, .inr HB.out, G2⟩
      | false =>
        go_wp2
        go_roundg (j - (h + 1))
        case measure => omega
        case rel => exact ⟨h + 1, j, by go_num, rfl, by omega, hjn, Nat.le_refl _, .inr HB.out, A2, G2⟩
    · go_wp2
      go_ret
      obtain rfl : i = j := by omega
      exact ⟨i, rfl, hjn, A1.out, A2.out, G1.out⟩
end Go.Proofs.Ytefkgljpocfpfaa
