/- The walk of 'DagChains'. -/
import Derived.Test.YthpdnlokjhafeaaDgW
import Derived.Test.YthpdnlokjhafeaaMask
import Derived.WalkSmall
namespace Go.Proofs.Ythpdnlokjhafeaa
open Go.RowKit Go.Lib
set_option linter.unusedVariables false

set_option maxHeartbeats 4000000 in
set_option maxRecDepth 100000 in
theorem dagChains_walk (x y : Int) (w : World) (wx : (Lit.int .i64 x).wf = true) (wy : (Lit.int .i64 y).wf = true) :
    Calls Try.prog 7 #[.int .i64 x, .int .i64 y] w fun e w' => e = .returned (.bool true) ∧ Below w.heap.size w w' := by
  clear wx wy
  obtain ⟨Q, hQ, Q0, Q1⟩ : ∃ Q, bits .and .i64 x 255 = Q ∧ 0 ≤ Q ∧ Q < 256 := ⟨_, mask_i64 x 8 255 256 (by omega) rfl rfl, by omega, by omega⟩
  obtain ⟨R, hR, R0, R1⟩ : ∃ R, Q % 100 = R ∧ 0 ≤ R ∧ R < 100 := ⟨_, rfl, by omega, by omega⟩
  obtain ⟨n, hn, n0, n1⟩ : ∃ n : Nat, R + 2 = n ∧ 2 ≤ n ∧ n ≤ 101 := ⟨(R + 2).toNat, by omega, by omega, by omega⟩
  obtain ⟨Z, hZ, Z0⟩ : ∃ Z, bits .and .i64 y 255 = Z ∧ 0 ≤ Z := ⟨_, mask_i64 y 8 255 256 (by omega) rfl rfl, by omega⟩
  obtain ⟨T, hT, hTn⟩ : ∃ T : Nat, Z % (n : Int) = T ∧ T < n := by
    have := Int.emod_nonneg Z (show (n : Int) ≠ 0 by omega)
    have := Int.emod_lt_of_pos Z (show (0 : Int) < n by omega)
    exact ⟨(Z % (n : Int)).toNat, by omega, by omega⟩
  obtain ⟨at_, hat, at0, at1⟩ : ∃ a : Nat, (T : Int) + 1 = a ∧ 1 ≤ a ∧ a ≤ n := ⟨T + 1, by omega, by omega, by omega⟩
  obtain ⟨S, hS⟩ : ∃ S, w.heap.size = S := ⟨_, rfl⟩
  go_enter Try.func7, Try.ntmps7
  go_wp2_with fail
  refine (newG w).mono ?_
  rintro e w1 ⟨B, X, rfl, D, low, b1⟩
  have A : Abv w S w1 X := ⟨by rw [← hS]; exact b1, by rw [← hS]; exact low, by rw [← hS]; exact b1.size⟩
  have HA : Aside (Abv w S w1 X ∧ Dg w1 X B (fun _ _ => False) 0) := ⟨A, D⟩
  clear hQ Q0 Q1 hR hn R0 R1 hZ Z0 hT hTn hat A D low b1
  go_wp2_with fail
  go_loopw [6] (fun i wr => ∃ (k : Nat) (X' : Nat → Prop), 2 ≤ k ∧ k ≤ n + 1 ∧ i = .int .i64 k ∧ Dg wr X' B (fun q j => q = j - 1 ∧ 2 ≤ j ∧ j < k) k ∧ Abv w S wr X') (fun i _ => 200 - (intOf i).toNat)
  case atStart => exact ⟨2, X, by omega, by omega, rfl, (HA.out.2.up (by omega)).congr (fun q j => ⟨fun h => by omega, fun h => h.elim⟩), HA.out.1⟩
  case round =>
    obtain ⟨k, X1, k0, k1, rfl, D, A⟩ := hrel
    by_cases c : k ≤ n
    · have P := addOne D (by omega) (k : Int) ((k : Int) - 1) (by omega) (by omega) (by omega) (fun q h => by omega)
      have hA : Aside (Abv w S wr X1) := A
      clear D A HA
      go_wp2_with fail
      refine P.mono ?_
      rintro e w2 ⟨rfl, X2, D2, s2⟩
      have NX : Aside (Dg w2 X2 B (fun q j => q = j - 1 ∧ 2 ≤ j ∧ j < (k + 1 : Nat)) (k + 1) ∧ Abv w S w2 X2) := ⟨D2.congr (fun q j => by constructor <;> intro h <;> omega), hA.out.st s2⟩
      clear P D2 s2 hA
      go_wp2_with fail
      go_roundw
      case rel => exact ⟨k + 1, X2, by omega, by omega, by go_num, NX.out⟩
      case measure => simp [intOf]; omega
    · obtain rfl : k = n + 1 := by omega
      have HA2 : Aside (Dg wr X1 B (fun q j => q = j - 1 ∧ (1 : Nat) ≤ q ∧ j ≤ n) (n + 1) ∧ Abv w S wr X1) := ⟨D.congr (fun q j => by constructor <;> intro h <;> omega), A⟩
      clear D A HA
      go_wp2_with fail
      go_loopw [9] (fun i wr => ∃ (k : Nat) (X' : Nat → Prop), 1 ≤ k ∧ k ≤ at_ ∧ i = .int .i64 k ∧ Dg wr X' B (fun q j => q = j - 1 ∧ (k : Nat) ≤ q ∧ j ≤ n) (n + 1) ∧ Abv w S wr X') (fun i _ => 200 - (intOf i).toNat)
      case atStart => exact ⟨1, X1, by omega, by omega, rfl, HA2.out.1, HA2.out.2⟩
      case round =>
        obtain ⟨k, X2, k0, k1, rfl, D, A⟩ := hrel
        by_cases c : k < at_
        · have P := doneG D (by omega) (id := (k : Int)) (wfI_of (by omega) (by omega))
          have hA : Aside (Abv w S wr X2) := A
          clear D A HA2
          go_wp2_with fail
          refine P.mono ?_
          rintro e w2 ⟨v2, d2, X3, rfl, o2, u2, m2, D2, s2, di2, l2⟩
          obtain rfl := up_one u2 (a := (k : Int) + 1) (fun x => by
            rw [m2]
            constructor
            · rintro ⟨h, _⟩; omega
            · intro h
              exact ⟨by omega, fun q hq => by omega⟩)
          obtain ⟨a4, c4, rfl, q4⟩ := o2.isI
          obtain ⟨g4, o4', rfl, _, cc4⟩ := q4.at (j := 0) (by simp)
          simp only [List.length_cons, List.length_nil, Nat.zero_add, Nat.add_zero, List.getD_cons_zero] at cc4 ⊢
          have NX : Aside (Dg w2 X3 B (fun q j => q = j - 1 ∧ (k + 1 : Nat) ≤ q ∧ j ≤ n) (n + 1) ∧ Abv w S w2 X3) := ⟨D2.congr (fun q j => by constructor <;> intro h <;> omega), hA.out.st s2⟩
          clear P D2 s2 hA o2 u2 m2 di2 l2 q4
          go_wp2_with fail
          go_roundw
          case rel => exact ⟨k + 1, X3, by omega, by omega, by go_num, NX.out⟩
          case measure => simp [intOf]; omega
        · obtain rfl : k = at_ := by omega
          have P := killG D (by omega) (id := (k : Int)) (wfI_of (by omega) (by omega))
          have hA : Aside (Abv w S wr X2) := A
          clear D A HA2
          go_wp2_with fail
          refine P.mono ?_
          rintro e w2 ⟨v2, d2, X3, rfl, o2, u2, m2, D2, s2, di2, l2⟩
          have rch : ∀ j, Rch (fun q j => q = j - 1 ∧ (k : Nat) ≤ q ∧ j ≤ n) (k : Int) j ↔ (k : Int) + 1 ≤ j ∧ j ≤ n := fun j => by
            constructor
            · intro h
              refine h (fun j => (k : Int) + 1 ≤ j ∧ j ≤ n) (fun x hx => by omega) (fun x y hx hy => by omega)
            · rintro ⟨h1, h2⟩
              have go : ∀ m : Nat, (k : Int) + 1 + m ≤ n → Rch (fun q j => q = j - 1 ∧ (k : Nat) ≤ q ∧ j ≤ n) (k : Int) ((k : Int) + 1 + m) := fun m => by
                induction m with
                | zero => intro h; exact Rch.one ⟨by omega, by omega, by omega⟩
                | succ m ih => intro h; exact (ih (by omega)).step ⟨by omega, by omega, by omega⟩
              have := go (j - k - 1).toNat (by omega)
              rwa [show (k : Int) + 1 + ((j - k - 1).toNat : Nat) = j by omega] at this
          have ed : d2 = rngI ((k : Int) + 1) (n - k) := up_rng u2 (fun x => by rw [m2, rch]; omega)
          have D3 : Dg w2 X3 B (fun _ _ => False) (n + 1) := D2.congr (fun q j => by
            rw [rch]
            constructor
            · intro h; exact h.elim
            · intro h; omega)
          have P3 := lenG D3
          have hA3 := hA.out.st s2
          have FIN : Aside (Abv w S w2 X3) := hA3
          subst ed
          obtain ⟨a4, c4, rfl, q4⟩ := o2.isI
          rw [rngI_len]
          have HQ : Aside (IsI w2 a4 c4 (rngI ((k : Int) + 1) (n - k))) := q4
          obtain ⟨m, hm⟩ : ∃ m, n - k = m := ⟨_, rfl⟩
          rw [hm] at HQ ⊢
          have hm2 : (n : Int) - (k : Int) = m := by omega
          clear P D2 s2 hA o2 u2 m2 di2 l2 q4 D3 hA3 rch
          go_wp2_with fail
          refine P3.mono ?_
          rintro e w5 ⟨rfl, n5, rfl, hn5, ks, k1', k2, k3⟩
          obtain rfl : ks = [] := up_nil (fun x hx => by
            obtain ⟨p, hp⟩ := (k3 x).1 hx
            exact hp)
          obtain rfl : n5 = 0 := k2.symm
          clear P3 k3
          go_wp2_with fail
          go_loopw [12] (fun i wr => wr = w5 ∧ ∃ I : Nat, I ≤ m ∧ i = .int .i64 I) (fun i _ => m - (intOf i).toNat)
          case atStart => exact ⟨rfl, 0, by omega, rfl⟩
          case round =>
            obtain ⟨rfl, I, hI, rfl⟩ := hrel
            by_cases c : I < m
            · obtain ⟨g4, o4', rfl, _, cc4⟩ := HQ.out.at (j := I) (by rw [rngI_len]; exact c)
              rw [rngI_at _ c] at cc4
              go_wp2_with fail
              go_roundw
              case rel => exact ⟨by trivial, I + 1, by omega, by go_num⟩
              case measure => simp [intOf]; omega
            · have AW := awake_any wr
              obtain rfl : I = m := by omega
              go_wp2_with fail
              refine AW.mono ?_
              rintro e w6 ⟨rfl, b6⟩
              clear AW
              go_wp2_with fail
              go_ret
              have := (FIN.out.below b6).bel
              exact ⟨rfl, by first | exact this | (rw [hS]; exact this)⟩
end Go.Proofs.Ythpdnlokjhafeaa
