/- The walk of 'DagFans'. -/
import Derived.Test.YthpdnlokjhafeaaDgW
import Derived.Test.YthpdnlokjhafeaaMask
import Derived.WalkSmall
namespace Go.Proofs.Ythpdnlokjhafeaa
open Go.RowKit Go.Lib
set_option linter.unusedVariables false

/-- Which is done with at the i-th step. -/
def xT (T n : Int) (i : Int) : Int := (i + T) % n + 1
theorem xT_rng {T n : Int} (hn : 0 < n) (i : Int) : 1 ≤ xT T n i ∧ xT T n i ≤ n := by
  unfold xT
  have := Int.emod_nonneg (i + T) (show n ≠ 0 by omega)
  have := Int.emod_lt_of_pos (i + T) hn
  omega
theorem xT_inj {T n : Int} (hn : 0 < n) {i j : Int} (hi : 0 ≤ i) (hi2 : i < n) (hj : 0 ≤ j) (hj2 : j < n) (h : xT T n i = xT T n j) : i = j := by
  unfold xT at h
  have e : (i + T) % n = (j + T) % n := by omega
  have h1 := (Int.emod_emod_of_dvd (i + T) (Int.dvd_refl n))
  have d : (i - j) % n = 0 := by
    have := Int.emod_eq_emod_iff_emod_sub_eq_zero.1 e
    rwa [show i + T - (j + T) = i - j by omega] at this
  obtain ⟨c, hc⟩ := Int.dvd_of_emod_eq_zero d
  rcases Int.lt_trichotomy c 0 with h | h | h
  · have : n * c ≤ n * (-1) := Int.mul_le_mul_of_nonneg_left (by omega) (by omega)
    omega
  · subst h; omega
  · have : n * 1 ≤ n * c := Int.mul_le_mul_of_nonneg_left (by omega) (by omega)
    omega
theorem xT_onto {T n : Int} (hn : 0 < n) {q : Int} (h1 : 1 ≤ q) (h2 : q ≤ n) : ∃ i, 0 ≤ i ∧ i < n ∧ xT T n i = q := by
  refine ⟨(q - 1 - T) % n, Int.emod_nonneg _ (by omega), Int.emod_lt_of_pos _ hn, ?_⟩
  unfold xT
  rw [Int.emod_add_emod, show q - 1 - T + T = q - 1 by omega, Int.emod_eq_of_lt (by omega) (by omega)]
  omega
/-- The one that waits for all; those that are left of them. -/
def EF (T n : Int) (k : Int) : Rel := fun q j => j = n + 1 ∧ 1 ≤ q ∧ q ≤ n ∧ ∀ i, 0 ≤ i → i < k → xT T n i ≠ q
theorem ef_next {T n k : Int} (hk : 0 ≤ k) (q j : Int) : EF T n (k + 1) q j ↔ EF T n k q j ∧ q ≠ xT T n k := by
  unfold EF
  constructor
  · rintro ⟨h1, h2, h3, h4⟩
    exact ⟨⟨h1, h2, h3, fun i h5 h6 => h4 i h5 (by omega)⟩, fun e => h4 k hk (by omega) e.symm⟩
  · rintro ⟨⟨h1, h2, h3, h4⟩, h5⟩
    refine ⟨h1, h2, h3, fun i h6 h7 e => ?_⟩
    by_cases c : i = k
    · subst c; exact h5 e.symm
    · exact h4 i h6 (by omega) e
theorem ef_none {T n k : Int} (hn : 0 < n) (hk : 0 ≤ k) (hk2 : k + 1 < n) (x : Int) : ¬ (EF T n k (xT T n k) x ∧ ∀ q, EF T n k q x → q = xT T n k) := by
  rintro ⟨⟨h1, h2, h3, h4⟩, h5⟩
  have r := xT_rng (T := T) hn (k + 1)
  have := h5 (xT T n (k + 1)) ⟨h1, r.1, r.2, fun i h6 h7 e => by
    have := xT_inj hn h6 (by omega) (by omega) (by omega) e
    omega⟩
  have := xT_inj hn (by omega) (by omega) hk (by omega) this
  omega
theorem ef_last {T n k : Int} (hn : 0 < n) (hk : 0 ≤ k) (hk2 : k + 1 = n) (x : Int) : (EF T n k (xT T n k) x ∧ ∀ q, EF T n k q x → q = xT T n k) ↔ x = n + 1 := by
  constructor
  · rintro ⟨⟨h1, _⟩, _⟩; exact h1
  · intro e
    have r := xT_rng (T := T) hn k
    refine ⟨⟨e, r.1, r.2, fun i h6 h7 e => by have := xT_inj hn h6 (by omega) hk (by omega) e; omega⟩, ?_⟩
    rintro q ⟨_, h2, h3, h4⟩
    obtain ⟨i, i1, i2, rfl⟩ := xT_onto (T := T) hn h2 h3
    by_cases c : i = k
    · rw [c]
    · exact absurd rfl (h4 i i1 (by omega))
theorem ef_end {T n : Int} (hn : 0 < n) (q j : Int) : ¬ EF T n n q j := by
  rintro ⟨_, h2, h3, h4⟩
  obtain ⟨i, i1, i2, e⟩ := xT_onto (T := T) hn h2 h3
  exact h4 i i1 i2 e
set_option maxHeartbeats 4000000 in
set_option maxRecDepth 100000 in
theorem dagFans_walk (x y : Int) (w : World) (wx : (Lit.int .i64 x).wf = true) (wy : (Lit.int .i64 y).wf = true) :
    Calls Try.prog 3 #[.int .i64 x, .int .i64 y] w fun e w' => e = .returned (.bool true) ∧ Below w.heap.size w w' := by
  clear wx wy
  obtain ⟨Q, hQ, Q0, Q1⟩ : ∃ Q, bits .and .i64 x 255 = Q ∧ 0 ≤ Q ∧ Q < 256 := ⟨_, mask_i64 x 8 255 256 (by omega) rfl rfl, by omega, by omega⟩
  obtain ⟨R, hR, R0, R1⟩ : ∃ R, Q % 60 = R ∧ 0 ≤ R ∧ R < 60 := ⟨_, rfl, by omega, by omega⟩
  obtain ⟨n, hn, n0, n1⟩ : ∃ n : Nat, R + 1 = n ∧ 1 ≤ n ∧ n ≤ 60 := ⟨(R + 1).toNat, by omega, by omega, by omega⟩
  obtain ⟨T, hT, T0, T1⟩ : ∃ T, bits .and .i64 y 255 = T ∧ 0 ≤ T ∧ T < 256 := ⟨_, mask_i64 y 8 255 256 (by omega) rfl rfl, by omega, by omega⟩
  obtain ⟨S, hS⟩ : ∃ S, w.heap.size = S := ⟨_, rfl⟩
  go_enter Try.func3, Try.ntmps3
  go_wp2_with fail
  refine (newG w).mono ?_
  rintro e w1 ⟨B, X, rfl, D, low, b1⟩
  have A : Abv w S w1 X := ⟨by rw [← hS]; exact b1, by rw [← hS]; exact low, by rw [← hS]; exact b1.size⟩
  have H1 : Aside (Abv w S w1 X ∧ Dg w1 X B (fun _ _ => False) 0) := ⟨A, D⟩
  clear A D low b1
  go_wp2_with fail
  refine (newG w1).mono ?_
  rintro e w2 ⟨F, Y, rfl, DF, lowF, b2⟩
  have HA : Aside (Abv w S w2 X ∧ Abv w S w2 Y ∧ Dg w2 X B (fun _ _ => False) 0 ∧ Dg w2 Y F (fun _ _ => False) 0 ∧ ∀ k, X k → ¬ Y k) := by
    obtain ⟨A, D⟩ := H1.out
    exact ⟨A.below b2, ⟨(A.below b2).bel, fun k hk => Nat.le_trans A.sz (lowF k hk), (A.below b2).sz⟩, D.below b2, DF, fun k hk hy => by have := D.lt hk; have := lowF k hy; omega⟩
  clear hQ Q0 Q1 hR hn R0 R1 H1 DF lowF b2
  go_wp2_with fail
  go_loopw [7, 8] (fun s7 i wr => ∃ (k : Nat) (vp : Value) (Y' : Nat → Prop), 1 ≤ k ∧ k ≤ n + 1 ∧ i = .int .i64 k ∧ vp = s7 ∧ Dg wr X B (fun _ _ => False) 0 ∧ Dg wr Y' F (fun q j => q = 1 ∧ 2 ≤ j ∧ j < k + 1) k ∧ Abv w S wr X ∧ Abv w S wr Y' ∧ (∀ k, X k → ¬ Y' k) ∧ OwnI wr S vp (rngI 1 (k - 1)) ∧ Dis vp X ∧ Dis vp Y') (fun _ i _ => 200 - (intOf i).toNat)
  case atStart =>
    obtain ⟨h1, h2, h3, h4, h5⟩ := HA.out
    exact ⟨1, _, Y, by omega, by omega, rfl, rfl, h3, (h4.up (by omega)).congr (fun q j => ⟨fun h => by omega, fun h => h.elim⟩), h1, h2, h5, OwnI.nil _ _, fun k hk => (by cases hk), fun k hk => (by cases hk)⟩
  case round =>
    obtain ⟨k, vp, Y1, k0, k1, rfl, rfl, D, DF, A, AF, dj, o, d1, d2⟩ := hrel
    by_cases c : k ≤ n
    · obtain ⟨v3, w3, hr3, o3, F3, n3⟩ := o.push (k : Int) (by rw [rngI_len]; omega) A.sz
      have D3 := D.fr F3 (fun k hk hh => d1 k hh hk)
      have DF3 := DF.fr F3 (fun k hk hh => d2 k hh hk)
      have low3 : ∀ k, vp.ownBlock = some k → S ≤ k := fun k hk => (o.rowLt hk).1
      have A3 : Abv w S w3 X := A.fr F3 low3
      have AF3 : Abv w S w3 Y1 := AF.fr F3 low3
      have e3 : rngI 1 (k - 1) ++ [(k : Int)] = rngI 1 k := (show Up (rngI 1 (k - 1) ++ [(k : Int)]) by
        refine List.pairwise_append.2 ⟨rngI_up _ _, by simp, fun a ha b hb => ?_⟩
        have := (rngI_mem _ _ _).1 ha
        simp at hb
        omega).ext (rngI_up _ _) (fun x => by
          rw [List.mem_append, rngI_mem, rngI_mem, List.mem_singleton]
          omega)
      rw [e3] at o3
      have d13 : Dis v3 X := fun j hj hx => (n3 j hj).elim (fun e => d1 j e hx) (fun e => by have := D.lt hx; omega)
      have d23 : Dis v3 Y1 := fun j hj hx => (n3 j hj).elim (fun e => d2 j e hx) (fun e => by have := DF.lt hx; omega)
      have P := addOne DF3 (by omega) ((k : Int) + 1) 1 (by omega) (by omega) (by omega) (fun q h => by omega)
      have HB : Aside (Dg w3 X B (fun _ _ => False) 0 ∧ Abv w S w3 X ∧ Abv w S w3 Y1 ∧ (∀ k, X k → ¬ Y1 k) ∧ OwnI w3 S v3 (rngI 1 k) ∧ Dis v3 X ∧ Dis v3 Y1) := ⟨D3, A3, AF3, dj, o3, d13, d23⟩
      clear D DF A AF dj o d1 d2 D3 DF3 A3 AF3 o3 d13 d23 F3 n3 low3 e3 HA
      go_wp2_with (at_builtin; refine wpList_app _ rfl _ _ 24 rfl _ _ rfl rfl v3 w3 hr3 ?_; clear hr3)
      refine P.mono ?_
      rintro e w4 ⟨rfl, Y4, DF4, s4⟩
      obtain ⟨D3, A3, AF3, dj, o3, d13, d23⟩ := HB.out
      have NX : Aside (Dg w4 X B (fun _ _ => False) 0 ∧ Dg w4 Y4 F (fun q j => q = 1 ∧ 2 ≤ j ∧ j < (k + 1 : Nat) + 1) (k + 1) ∧ Abv w S w4 X ∧ Abv w S w4 Y4 ∧ (∀ k, X k → ¬ Y4 k) ∧ OwnI w4 S v3 (rngI 1 (k + 1 - 1)) ∧ Dis v3 X ∧ Dis v3 Y4) :=
        ⟨D3.fr s4.fr (fun j hj hy => dj j hj hy), DF4.congr (fun q j => by constructor <;> intro h <;> omega), A3.fr s4.fr AF3.low, AF3.st s4, fun j hj hy => s4.out (D3.lt hj) (dj j hj) hy, o3.st d23 s4, d13, d23.st o3 s4⟩
      clear P D3 A3 AF3 dj o3 d13 d23 HB DF4 s4
      go_wp2_with fail
      go_roundw
      case rel => exact ⟨k + 1, v3, Y4, by omega, by omega, by go_num, rfl, NX.out⟩
      case measure => simp [intOf]; omega
    · obtain rfl : k = n + 1 := by omega
      rw [show n + 1 - 1 = n by omega] at o
      obtain ⟨ap, cp, ep, qp⟩ := o.isI
      subst ep
      have ap2 := app_run o qp (by rw [rngI_len]; omega) A.sz 24
      rw [rngI_len] at ap2 o ⊢
      obtain ⟨v3, w3, hr3, o3, g3, n3⟩ := ap2
      have F3 : Fr (fun k => Value.ownBlock (.slice ap n cp) = some k) wr w3 := Fr.of_grown g3
      rw [rngI_len] at d1 d2
      have D3 := D.fr F3 (fun k hk hh => d1 k hh hk)
      have DF3 := DF.fr F3 (fun k hk hh => d2 k hh hk)
      have low3 : ∀ k, Value.ownBlock (.slice ap n cp) = some k → S ≤ k := fun k hk => (o.rowLt hk).1
      have A3 : Abv w S w3 X := A.fr F3 low3
      have AF3 : Abv w S w3 Y1 := AF.fr F3 low3
      obtain ⟨a3, c3, e3, q3⟩ := o3.isI
      have l3 : (rngI 1 n ++ rngI 1 n).length = n + n := by simp [rngI_len]
      rw [l3] at e3
      subst e3
      have P := add_ok D3 (by rw [l3]; omega) (id := (n : Int) + 1) (wfI_of (by omega) (by omega)) q3 ((mayB_iff _ _).2 ⟨by omega, fun p hp => by
        have : p ∈ rngI 1 n := by simpa using hp
        have := (rngI_mem _ _ _).1 this
        omega⟩) (fun q h => h)
      rw [l3] at P
      have HB : Aside (Dg w3 Y1 F (fun q j => q = 1 ∧ 2 ≤ j ∧ j < (n + 1 : Nat) + 1) (n + 1) ∧ Abv w S w3 X ∧ Abv w S w3 Y1 ∧ (∀ k, X k → ¬ Y1 k)) := ⟨DF3, A3, AF3, dj⟩
      clear D DF A AF dj o d1 d2 D3 DF3 A3 AF3 o3 F3 n3 low3 HA g3 qp q3 l3
      go_wp2_with (at_builtin; refine wpList_app _ rfl _ _ 24 rfl _ _ rfl rfl _ w3 hr3 ?_; clear hr3)
      refine P.mono ?_
      rintro e w4 ⟨r, X4, rfl, ur, mr, D4, s4⟩
      obtain rfl : r = rngI 1 n := ur.ext (rngI_up _ _) (fun x => by rw [mr]; simp)
      rw [rngI_len]
      obtain ⟨DF3, A3, AF3, dj⟩ := HB.out
      have HC : Aside (Dg w4 X4 B (EF T n ((0 : Nat) : Int)) 1000 ∧ Dg w4 Y1 F (fun q j => q = 1 ∧ 2 ≤ j ∧ j < (n + 1 : Nat) + 1) (n + 1) ∧ Abv w S w4 X4 ∧ Abv w S w4 Y1 ∧ (∀ k, X4 k → ¬ Y1 k)) := by
        refine ⟨(D4.up (by omega)).congr (fun q j => ?_), DF3.fr s4.fr (fun j hj hx => dj j hx hj), A3.st s4, AF3.fr s4.fr A3.low, fun j hj hy => s4.out (DF3.lt hy) (fun hx => dj j hx hy) hj⟩
        unfold EF
        rw [List.mem_append, rngI_mem]
        constructor
        · rintro ⟨h1, h2, h3, _⟩; exact .inr ⟨h1, .inl ⟨h2, by omega⟩⟩
        · rintro (h | ⟨h1, h2 | h2⟩)
          · exact h.elim
          · exact ⟨h1, h2.1, by omega, fun i h3 h4 => by omega⟩
          · exact ⟨h1, h2.1, by omega, fun i h3 h4 => by omega⟩
      clear P D4 s4 HB DF3 A3 AF3 dj mr ur
      go_wp2_with fail
      go_loopw [13] (fun i wr => ∃ (k : Nat) (X' : Nat → Prop), k ≤ n ∧ i = .int .i64 k ∧ Dg wr X' B (EF T n ((k : Nat) : Int)) 1000 ∧ Dg wr Y1 F (fun q j => q = 1 ∧ 2 ≤ j ∧ j < (n + 1 : Nat) + 1) (n + 1) ∧ Abv w S wr X' ∧ Abv w S wr Y1 ∧ (∀ k, X' k → ¬ Y1 k)) (fun i _ => 200 - (intOf i).toNat)
      case atStart => exact ⟨0, X4, by omega, rfl, HC.out⟩
      case round =>
        obtain ⟨k, X5, k1, rfl, D, DF, A, AF, dj⟩ := hrel
        by_cases c : k < n
        · obtain ⟨M, hM, M0, M1⟩ : ∃ M, ((k : Int) + T) % (n : Int) = M ∧ 0 ≤ M ∧ M < n := ⟨_, rfl, Int.emod_nonneg _ (by omega), Int.emod_lt_of_pos _ (by omega)⟩
          have hx : xT T n k = M + 1 := by unfold xT; rw [hM]
          have P := doneG D (by omega) (id := M + 1) (wfI_of (by omega) (by omega))
          have HB : Aside (Dg wr Y1 F (fun q j => q = 1 ∧ 2 ≤ j ∧ j < (n + 1 : Nat) + 1) (n + 1) ∧ Abv w S wr X5 ∧ Abv w S wr Y1 ∧ (∀ k, X5 k → ¬ Y1 k)) := ⟨DF, A, AF, dj⟩
          have HX : Hid _ := hx
          clear D DF A AF dj HC hx
          go_wp2_with fail
          refine P.mono ?_
          rintro e w5 ⟨v5, d5, X6, rfl, o5, u5, m5, D5, s5, di5, l5⟩
          obtain ⟨DF, A, AF, dj⟩ := HB.out
          rw [← HX.out] at m5 D5
          have NX : Aside (Dg w5 X6 B (EF T n ((k + 1 : Nat) : Int)) 1000 ∧ Dg w5 Y1 F (fun q j => q = 1 ∧ 2 ≤ j ∧ j < (n + 1 : Nat) + 1) (n + 1) ∧ Abv w S w5 X6 ∧ Abv w S w5 Y1 ∧ (∀ k, X6 k → ¬ Y1 k)) :=
            ⟨D5.congr (fun q j => by rw [show (((k + 1 : Nat) : Nat) : Int) = (k : Int) + 1 by omega]; exact ef_next (by omega) q j), DF.fr s5.fr (fun j hj hx => dj j hx hj), A.st s5, AF.fr s5.fr A.low, fun j hj hy => s5.out (DF.lt hy) (fun hx => dj j hx hy) hj⟩
          by_cases c3 : k + 1 < n
          · obtain rfl : d5 = [] := up_nil (fun x hx => ef_none (by omega) (by omega) (by omega) x ((m5 x).1 hx))
            obtain ⟨a6, c6, rfl, q6⟩ := o5.isI
            simp only [List.length_nil]
            have c3' : (k : Int) + 1 < n := by omega
            clear P D5 s5 o5 u5 m5 di5 l5 q6 DF A AF dj HB hM HX
            go_wp2_with fail
            go_roundw
            case rel => exact ⟨k + 1, X6, by omega, by go_num, NX.out⟩
            case measure => simp [intOf]; omega
          · obtain rfl := up_one u5 (a := (n : Int) + 1) (fun x => by rw [m5]; exact ef_last (by omega) (by omega) (by omega) x)
            obtain ⟨a6, c6, rfl, q6⟩ := o5.isI
            have bb : Below w5.heap.size w5 (w5.alloc (.cells #[.int .i64 ((n : Int) + 1)] 3)) := (Below.refl _ _).alloc (Nat.le_refl _) _
            have SA := same_any (q6.below bb) (OwnI.one (base := 0) w5 ((n : Int) + 1) (Nat.zero_le _)).isIv
            rw [show (([(n : Int) + 1] : List Int) == [(n : Int) + 1]) = true by simp] at SA
            have NY : Aside (∀ w6, Below (w5.alloc (.cells #[.int .i64 ((n : Int) + 1)] 3)).heap.size (w5.alloc (.cells #[.int .i64 ((n : Int) + 1)] 3)) w6 → Dg w6 X6 B (EF T n ((k + 1 : Nat) : Int)) 1000 ∧ Dg w6 Y1 F (fun q j => q = 1 ∧ 2 ≤ j ∧ j < (n + 1 : Nat) + 1) (n + 1) ∧ Abv w S w6 X6 ∧ Abv w S w6 Y1 ∧ (∀ k, X6 k → ¬ Y1 k)) := fun w6 b6 => by
              obtain ⟨h1, h2, h3, h4, h5⟩ := NX.out
              exact ⟨(h1.below bb).below b6, (h2.below bb).below b6, (h3.below bb).below b6, (h4.below bb).below b6, h5⟩
            simp only [List.length_cons, List.length_nil, Nat.zero_add] at SA ⊢
            have c3' : (k : Int) + 1 = n := by omega
            clear P NX D5 s5 o5 u5 m5 di5 l5 q6 bb DF A AF dj HB hM HX
            go_wp2_with fail
            refine SA.mono ?_
            rintro e w6 ⟨rfl, b6⟩
            have NZ : Aside _ := NY.out w6 b6
            clear SA NY b6
            go_wp2_with fail
            go_roundw
            case rel => exact ⟨k + 1, X6, by omega, by go_num, NZ.out⟩
            case measure => simp [intOf]; omega
        · obtain rfl : k = n := by omega
          have P := doneG DF (by omega) (id := 1) (wfI_of (by omega) (by omega))
          have HB : Aside (Dg wr X5 B (fun _ _ => False) 1000 ∧ Abv w S wr X5 ∧ Abv w S wr Y1 ∧ (∀ k, X5 k → ¬ Y1 k)) := ⟨D.congr (fun q j => ⟨fun h => h.elim, fun h => ef_end (by omega) q j h⟩), A, AF, dj⟩
          clear D DF A AF dj HC
          go_wp2_with fail
          refine P.mono ?_
          rintro e w5 ⟨v5, d5, Y6, rfl, o5, u5, m5, D5, s5, di5, l5⟩
          obtain ⟨D, A, AF, dj⟩ := HB.out
          have ed : d5 = rngI 2 k := up_rng u5 (fun x => by
            rw [m5]
            constructor
            · rintro ⟨⟨h1, h2, h3⟩, _⟩; exact ⟨h2, by omega⟩
            · rintro ⟨h1, h2⟩; exact ⟨⟨by trivial, h1, by omega⟩, fun q hq => hq.1⟩)
          subst ed
          obtain ⟨a6, c6, rfl, q6⟩ := o5.isI
          rw [rngI_len]
          have P1 := lenG (D5.congr (E' := fun _ _ => False) (fun q j => ⟨fun h => h.elim, fun h => h.2 h.1.1⟩))
          have P2 := lenG (D.fr s5.fr (fun j hj hy => dj j hj hy))
          have FIN : Aside (Abv w S w5 X5) := A.fr s5.fr AF.low
          have HQ : Aside (IsI w5 a6 c6 (rngI 2 k)) := q6
          have AW : Aside (∀ u, Calls Try.prog 13 #[] u fun e w' => e = .returned (.bool true) ∧ Below u.heap.size u w') := awake_any
          clear P D5 s5 o5 u5 m5 di5 l5 q6 D A AF dj HB
          go_wp2_with fail
          go_loopw [16] (fun i wr => wr = w5 ∧ ∃ I : Nat, I ≤ k ∧ i = .int .i64 I) (fun i _ => k - (intOf i).toNat)
          case atStart => exact ⟨rfl, 0, by omega, rfl⟩
          case round =>
            obtain ⟨rfl, I, hI, rfl⟩ := hrel
            by_cases c : I < k
            · obtain ⟨g4, o4', rfl, _, cc4⟩ := HQ.out.at (j := I) (by rw [rngI_len]; exact c)
              rw [rngI_at _ c, Int.add_comm] at cc4
              clear P1 P2
              go_wp2_with fail
              go_roundw
              case rel => exact ⟨by trivial, I + 1, by omega, by go_num⟩
              case measure => simp [intOf]; omega
            · obtain rfl : I = k := by omega
              go_wp2_with fail
              refine P1.mono ?_
              rintro e w7 ⟨rfl, n7, rfl, hn7, ks, k1', k2, k3⟩
              obtain rfl : ks = [] := up_nil (fun x hx => by
                obtain ⟨p, hp⟩ := (k3 x).1 hx
                exact hp)
              obtain rfl : n7 = 0 := k2.symm
              clear P1 k3
              go_wp2_with fail
              refine P2.mono ?_
              rintro e w8 ⟨rfl, n8, rfl, hn8, ks, k1', k2, k3⟩
              obtain rfl : ks = [] := up_nil (fun x hx => by
                obtain ⟨p, hp⟩ := (k3 x).1 hx
                exact hp)
              obtain rfl : n8 = 0 := k2.symm
              clear P2 k3
              go_wp2_with fail
              refine (AW.out _).mono ?_
              rintro e w6 ⟨rfl, b6⟩
              clear AW
              go_wp2_with fail
              go_ret
              have := (FIN.out.below b6).bel
              exact ⟨rfl, by first | exact this | (rw [hS]; exact this)⟩
end Go.Proofs.Ythpdnlokjhafeaa
