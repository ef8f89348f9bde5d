/- The walk of 'DagApart'. -/
import Derived.Test.YthpdnlokjhafeaaDgW
import Derived.Test.YthpdnlokjhafeaaMask
import Derived.WalkSmall
namespace Go.Proofs.Ythpdnlokjhafeaa
open Go.RowKit Go.Lib
set_option linter.unusedVariables false

theorem max2 (s : TypeId) (us : Array TypeId) (a b K : Int) (h : max a b = K) (w : World) : (Builtin.max_ us s #[.int .i64 a, .int .i64 b]).run Try.prog w = .ok (.int .i64 K) w := by
  have e : (if a < b then b else a) = K := by split <;> omega
  rw [← e]
  rfl
/-- Every other one. -/
def stepI (a : Int) (k : Nat) : List Int := (List.range k).map (fun (i : Nat) => a + 2 * (i : Int))
theorem stepI_len (a : Int) (k : Nat) : (stepI a k).length = k := by simp [stepI]
theorem stepI_mem (a : Int) (k : Nat) (x : Int) : x ∈ stepI a k ↔ a ≤ x ∧ x < a + 2 * k ∧ (x - a) % 2 = 0 := by
  unfold stepI
  rw [List.mem_map]
  constructor
  · rintro ⟨i, hi, rfl⟩; have := List.mem_range.1 hi; omega
  · rintro ⟨h1, h2, h3⟩; exact ⟨((x - a) / 2).toNat, List.mem_range.2 (by omega), by omega⟩
theorem stepI_up (a : Int) (k : Nat) : Up (stepI a k) := by
  unfold stepI Up
  rw [List.pairwise_map]
  exact List.pairwise_lt_range.imp (fun h => by omega)
theorem len_same {c d : List Int} (hc : c.Nodup) (hd : d.Nodup) (h : ∀ x, x ∈ c ↔ x ∈ d) : c.length = d.length :=
  Nat.le_antisymm (nodup_le c d hc (fun x hx => (h x).1 hx)) (nodup_le d c hd (fun x hx => (h x).2 hx))
/-- Both chains, the first cut off. -/
def EA (T k c : Int) : Rel := fun q j => q = j - 2 ∧ ((j % 2 = 0 ∧ j ≤ 2 * k ∧ 2 * c + 2 ≤ q) ∨ (j % 2 = 1 ∧ 3 ≤ j ∧ j < 2 * T))
theorem ea_kill {T k : Int} (hT : 0 ≤ T) (hk : T < k) (q j : Int) : EA T k 0 q j ↔ (q = j - 2 ∧ 3 ≤ j ∧ j < 2 * k + 1) ∧ j ≠ 2 * T + 1 ∧ ¬ (2 * T + 3 ≤ j ∧ j < 2 * k + 1 ∧ j % 2 = 1) := by
  unfold EA
  constructor
  · rintro ⟨h, ⟨h1, h2, h3⟩ | ⟨h1, h2, h3⟩⟩
    · exact ⟨⟨h, by omega, by omega⟩, by omega, fun hh => by omega⟩
    · exact ⟨⟨h, by omega, by omega⟩, by omega, fun hh => by omega⟩
  · rintro ⟨⟨h1, h2, h3⟩, h4, h5⟩
    rcases (show j % 2 = 0 ∨ j % 2 = 1 by omega) with e | e
    · exact ⟨h1, .inl ⟨e, by omega, by omega⟩⟩
    · refine ⟨h1, .inr ⟨e, h2, ?_⟩⟩
      apply Decidable.byContradiction
      intro hh
      exact h5 ⟨by omega, h3, e⟩
theorem ea_done {T k c : Int} (hc : 0 ≤ c) (q j : Int) : EA T k (c + 1) q j ↔ EA T k c q j ∧ q ≠ 2 * c + 2 := by
  unfold EA
  constructor
  · rintro ⟨h, ⟨h1, h2, h3⟩ | ⟨h1, h2, h3⟩⟩
    · exact ⟨⟨h, .inl ⟨h1, h2, by omega⟩⟩, by omega⟩
    · exact ⟨⟨h, .inr ⟨h1, h2, h3⟩⟩, by omega⟩
  · rintro ⟨⟨h, ⟨h1, h2, h3⟩ | ⟨h1, h2, h3⟩⟩, h4⟩
    · exact ⟨h, .inl ⟨h1, h2, by omega⟩⟩
    · exact ⟨h, .inr ⟨h1, h2, h3⟩⟩
theorem ea_told {T k c : Int} (hc : 0 ≤ c) (hk : c + 1 < k) (x : Int) : (EA T k c (2 * c + 2) x ∧ ∀ q, EA T k c q x → q = 2 * c + 2) ↔ x = 2 * c + 4 := by
  unfold EA
  constructor
  · rintro ⟨⟨h, _⟩, _⟩; omega
  · rintro rfl
    exact ⟨⟨by omega, .inl ⟨by omega, by omega, by omega⟩⟩, fun q hq => by have := hq.1; omega⟩
theorem ea_last {T k c : Int} (hk : c + 1 = k) (hc : 0 ≤ c) (x : Int) : ¬ EA T k c (2 * c + 2) x := by
  rintro ⟨h, ⟨h1, h2, h3⟩ | ⟨h1, h2, h3⟩⟩ <;> omega
theorem ea_end {T k : Int} (hT : 0 ≤ T) (x : Int) : (∃ p, EA T k k p x) ↔ 3 ≤ x ∧ x < 2 * T ∧ x % 2 = 1 := by
  constructor
  · rintro ⟨p, h, ⟨h1, h2, h3⟩ | ⟨h1, h2, h3⟩⟩
    · omega
    · exact ⟨h2, h3, h1⟩
  · rintro ⟨h1, h2, h3⟩
    exact ⟨x - 2, rfl, .inr ⟨h3, h1, h2⟩⟩
theorem ea_rch {T k : Int} (hT : 0 ≤ T) (j : Int) : Rch (fun q j => q = j - 2 ∧ 3 ≤ j ∧ j < 2 * k + 1) (2 * T + 1) j ↔ 2 * T + 3 ≤ j ∧ j < 2 * k + 1 ∧ j % 2 = 1 := by
  constructor
  · intro h
    refine h (fun j => 2 * T + 3 ≤ j ∧ j < 2 * k + 1 ∧ j % 2 = 1) (fun x hx => ?_) (fun x y hx hy => ?_)
    · obtain ⟨h1, h2, h3⟩ := hx
      exact ⟨by omega, h3, by omega⟩
    · obtain ⟨h1, h2, h3⟩ := hx
      obtain ⟨h4, h5, h6⟩ := hy
      exact ⟨by omega, h6, by omega⟩
  · rintro ⟨h1, h2, h3⟩
    have go : ∀ m : Nat, 2 * T + 3 + 2 * m < 2 * k + 1 → Rch (fun q j => q = j - 2 ∧ 3 ≤ j ∧ j < 2 * k + 1) (2 * T + 1) (2 * T + 3 + 2 * m) := fun m => by
      induction m with
      | zero => intro h; exact Rch.one ⟨by omega, by omega, by omega⟩
      | succ m ih => intro h; exact (ih (by omega)).step ⟨by omega, by omega, by omega⟩
    have := go ((j - (2 * T + 3)) / 2).toNat (by omega)
    rwa [show 2 * T + 3 + 2 * (((j - (2 * T + 3)) / 2).toNat : Nat) = j by omega] at this
set_option maxHeartbeats 4000000 in
set_option maxRecDepth 100000 in
theorem dagApart_walk (x y : Int) (w : World) (wx : (Lit.int .i64 x).wf = true) (wy : (Lit.int .i64 y).wf = true) :
    Calls Try.prog 4 #[.int .i64 x, .int .i64 y] w fun e w' => e = .returned (.bool true) ∧ Below w.heap.size w w' := by
  clear wx wy
  obtain ⟨Q, hQ, Q0, Q1⟩ : ∃ Q, bits .and .i64 x 255 = Q ∧ 0 ≤ Q ∧ Q < 256 := ⟨_, mask_i64 x 8 255 256 (by omega) rfl rfl, by omega, by omega⟩
  obtain ⟨R, hR, R0, R1⟩ : ∃ R, Q % 30 = R ∧ 0 ≤ R ∧ R < 30 := ⟨_, rfl, by omega, by omega⟩
  obtain ⟨n, hn, n0, n1⟩ : ∃ n : Nat, R + 2 = n ∧ 2 ≤ n ∧ n ≤ 31 := ⟨(R + 2).toNat, by omega, by omega, by omega⟩
  obtain ⟨Z, hZ, Z0⟩ : ∃ Z, bits .and .i64 y 255 = Z ∧ 0 ≤ Z := ⟨_, mask_i64 y 8 255 256 (by omega) rfl rfl, by omega⟩
  obtain ⟨T, hT, hTn⟩ : ∃ T : Nat, Z % (n : Int) = T ∧ T < n := by
    have := Int.emod_nonneg Z (show (n : Int) ≠ 0 by omega)
    have := Int.emod_lt_of_pos Z (show (0 : Int) < n by omega)
    exact ⟨(Z % (n : Int)).toNat, by omega, by omega⟩
  obtain ⟨S, hS⟩ : ∃ S, w.heap.size = S := ⟨_, rfl⟩
  go_enter Try.func4, Try.ntmps4
  go_wp2_with fail
  simp only [hT]
  refine (newG w).mono ?_
  rintro e w1 ⟨B, X, rfl, D, low, b1⟩
  have A : Abv w S w1 X := ⟨by rw [← hS]; exact b1, by rw [← hS]; exact low, by rw [← hS]; exact b1.size⟩
  have HA : Aside (Abv w S w1 X ∧ Dg w1 X B (fun _ _ => False) 0) := ⟨A, D⟩
  clear hQ Q0 Q1 hR hn R0 R1 hZ Z0 hT A D low b1
  go_wp2_with fail
  go_loopw [6] (fun i wr => ∃ (k : Nat) (X' : Nat → Prop), 1 ≤ k ∧ k ≤ n ∧ i = .int .i64 k ∧ Dg wr X' B (fun q j => q = j - 2 ∧ 3 ≤ j ∧ j < 2 * k + 1) (4 * k) ∧ Abv w S wr X') (fun i _ => 200 - (intOf i).toNat)
  case atStart => exact ⟨1, X, by omega, by omega, rfl, (HA.out.2.up (by omega)).congr (fun q j => ⟨fun h => by omega, fun h => h.elim⟩), HA.out.1⟩
  case round =>
    obtain ⟨k, X1, k0, k1, rfl, D, A⟩ := hrel
    by_cases c : k < n
    · have HA2 : Aside (Dg wr X1 B (fun q j => q = j - 2 ∧ 3 ≤ j ∧ j < 2 * k + (1 : Nat)) (4 * k + 1) ∧ Abv w S wr X1) := ⟨(D.up (by omega)).congr (fun q j => by constructor <;> intro h <;> omega), A⟩
      clear D A HA
      go_wp2_with fail
      go_loopw [7] (fun i wr => ∃ (c : Nat) (X' : Nat → Prop), 1 ≤ c ∧ c ≤ 3 ∧ i = .int .i64 c ∧ Dg wr X' B (fun q j => q = j - 2 ∧ 3 ≤ j ∧ j < 2 * k + (c : Nat)) (4 * k + c) ∧ Abv w S wr X') (fun i _ => 200 - (intOf i).toNat)
      case atStart => exact ⟨1, X1, by omega, by omega, rfl, HA2.out⟩
      case round =>
        obtain ⟨b, X2, b0, b1, rfl, D, A⟩ := hrel
        by_cases c2 : b ≤ 2
        · have P := addOne D (by omega) (2 * (k : Int) + b) (2 * (k : Int) + b - 2) (by omega) (by omega) (by omega) (fun q h => by omega)
          have hA : Aside (Abv w S wr X2) := A
          clear D A HA2
          go_wp2_with fail
          refine P.mono ?_
          rintro e w2 ⟨rfl, X3, D2, s2⟩
          have NX : Aside (Dg w2 X3 B (fun q j => q = j - 2 ∧ 3 ≤ j ∧ j < 2 * k + (b + 1 : Nat)) (4 * k + (b + 1)) ∧ Abv w S w2 X3) := ⟨D2.congr (fun q j => by constructor <;> intro h <;> omega), hA.out.st s2⟩
          clear P D2 s2 hA
          go_wp2_with fail
          go_roundw
          case rel => exact ⟨b + 1, X3, by omega, by omega, by go_num, NX.out⟩
          case measure => simp [intOf]; omega
        · obtain rfl : b = 3 := by omega
          have NX : Aside (Dg wr X2 B (fun q j => q = j - 2 ∧ 3 ≤ j ∧ j < 2 * (k + 1 : Nat) + 1) (4 * (k + 1)) ∧ Abv w S wr X2) := ⟨(D.up (by omega)).congr (fun q j => by constructor <;> intro h <;> omega), A⟩
          clear D A HA2
          go_wp2_with fail
          go_roundw
          case rel => exact ⟨k + 1, X2, by omega, by omega, by go_num, NX.out⟩
          case measure => simp [intOf]; omega
    · obtain rfl : k = n := by omega
      have P := killG D (by omega) (id := 2 * (T : Int) + 1) (wfI_of (by omega) (by omega))
      have hA : Aside (Abv w S wr X1) := A
      clear D A HA
      go_wp2_with fail
      refine P.mono ?_
      rintro e w2 ⟨v2, d2, X3, rfl, o2, u2, m2, D2, s2, di2, l2⟩
      have rch := fun j => ea_rch (T := (T : Int)) (k := (k : Int)) (by omega) j
      have ed : d2 = stepI (2 * (T : Int) + 3) (k - 1 - T) := u2.ext (stepI_up _ _) (fun x => by
        rw [m2, rch, stepI_mem]
        constructor
        · rintro ⟨h1, h2, h3⟩; exact ⟨h1, by omega, by omega⟩
        · rintro ⟨h1, h2, h3⟩; exact ⟨h1, by omega, by omega⟩)
      have hl : d2.length = k - 1 - T := by rw [ed, stepI_len]
      obtain ⟨a4, c4, rfl, q4⟩ := o2.isI
      rw [hl]
      have em : (k : Int) - 1 - (T : Int) = ((k - 1 - T : Nat) : Int) := by omega
      have HA2 : Aside (Dg w2 X3 B (EA T k ((0 : Nat) : Int)) (4 * k) ∧ Abv w S w2 X3) := ⟨D2.congr (fun q j => by rw [rch]; exact ea_kill (by omega) (by omega) q j), hA.out.st s2⟩
      clear P D2 s2 hA o2 u2 m2 di2 l2 q4 rch ed hl
      go_wp2_with fail
      go_loopw [11] (fun i wr => ∃ (c : Nat) (X' : Nat → Prop), c ≤ k ∧ i = .int .i64 c ∧ Dg wr X' B (EA T k ((c : Nat) : Int)) (4 * k) ∧ Abv w S wr X') (fun i _ => 200 - (intOf i).toNat)
      case atStart => exact ⟨0, X3, by omega, rfl, HA2.out⟩
      case round =>
        obtain ⟨b, X4, b1, rfl, D, A⟩ := hrel
        by_cases c2 : b < k
        · have P := doneG D (by omega) (id := 2 * (b : Int) + 2) (wfI_of (by omega) (by omega))
          have hA : Aside (Abv w S wr X4) := A
          clear D A HA2
          go_wp2_with fail
          refine P.mono ?_
          rintro e w3 ⟨v3, d3, X5, rfl, o3, u3, m3, D3, s3, di3, l3⟩
          have NX : Aside (Dg w3 X5 B (EA T k ((b + 1 : Nat) : Int)) (4 * k) ∧ Abv w S w3 X5) := ⟨D3.congr (fun q j => by exact_mod_cast ea_done (T := (T : Int)) (k := (k : Int)) (c := (b : Int)) (by omega) q j), hA.out.st s3⟩
          by_cases c3 : b + 1 < k
          · obtain rfl := up_one u3 (a := 2 * (b : Int) + 4) (fun x => by rw [m3]; exact ea_told (by omega) (by omega) x)
            obtain ⟨a4, c4, rfl, q4⟩ := o3.isI
            have bb : Below w3.heap.size w3 (w3.alloc (.cells #[.int .i64 (2 * (b : Int) + 4)] 3)) := (Below.refl _ _).alloc (Nat.le_refl _) _
            have SA := same_any (q4.below bb) (OwnI.one (base := 0) w3 (2 * (b : Int) + 4) (Nat.zero_le _)).isIv
            rw [show (([2 * (b : Int) + 4] : List Int) == [2 * (b : Int) + 4]) = true by simp] at SA
            have NY : Aside (∀ w4, Below (w3.alloc (.cells #[.int .i64 (2 * (b : Int) + 4)] 3)).heap.size (w3.alloc (.cells #[.int .i64 (2 * (b : Int) + 4)] 3)) w4 → Dg w4 X5 B (EA T k ((b + 1 : Nat) : Int)) (4 * k) ∧ Abv w S w4 X5) := fun w4 b4 => ⟨(NX.out.1.below bb).below b4, (NX.out.2.below bb).below b4⟩
            simp only [List.length_cons, List.length_nil, Nat.zero_add] at SA ⊢
            clear P NX D3 s3 hA o3 u3 m3 di3 l3 q4 bb
            go_wp2_with fail
            refine SA.mono ?_
            rintro e w4 ⟨rfl, b4⟩
            have NZ : Aside _ := NY.out w4 b4
            clear SA NY b4
            go_wp2_with fail
            go_roundw
            case rel => exact ⟨b + 1, X5, by omega, by go_num, NZ.out⟩
            case measure => simp [intOf]; omega
          · obtain rfl : d3 = [] := up_nil (fun x hx => ea_last (by omega) (by omega) x ((m3 x).1 hx).1)
            obtain ⟨a4, c4, rfl, q4⟩ := o3.isI
            have ek : b + 1 = k := by omega
            simp only [List.length_nil]
            clear P D3 s3 hA o3 u3 m3 di3 l3 q4
            go_wp2_with fail
            go_roundw
            case rel => exact ⟨b + 1, X5, by omega, by go_num, NX.out⟩
            case measure => simp [intOf]; omega
        · obtain rfl : b = k := by omega
          have P := lenG D
          have AW : Aside (∀ u, Calls Try.prog 13 #[] u fun e w' => e = .returned (.bool true) ∧ Below u.heap.size u w') := awake_any
          have hA : Aside (Abv w S wr X4) := A
          obtain ⟨K, hK⟩ : ∃ K, max ((T : Int) - 1) 0 = K := ⟨_, rfl⟩
          have mx := fun w => max2 3 #[3, 3] ((T : Int) - 1) 0 K hK w
          have HK : Hid _ := hK
          clear D A HA2 hK
          go_wp2_with fail
          refine P.mono ?_
          rintro e w5 ⟨rfl, n5, rfl, hn5, ks, k1', k2, k3⟩
          have e5 : ks.length = T - 1 := by
            rw [len_same k1' (stepI_up 3 (T - 1)).nodup (fun x => by
              rw [k3, ea_end (by omega), stepI_mem]
              constructor
              · rintro ⟨h1, h2, h3⟩; exact ⟨h1, by omega, by omega⟩
              · rintro ⟨h1, h2, h3⟩; exact ⟨h1, by omega, by omega⟩), stepI_len]
          have eK : (n5 : Int) = K := by have := HK.out; omega
          clear P k3
          rw [eK]
          go_wp2_with fail
          refine (AW.out _).mono ?_
          rintro e w6 ⟨rfl, b6⟩
          clear AW
          go_wp2_with fail
          go_ret
          have := (hA.out.below b6).bel
          exact ⟨rfl, by first | exact this | (rw [hS]; exact this)⟩
end Go.Proofs.Ythpdnlokjhafeaa
