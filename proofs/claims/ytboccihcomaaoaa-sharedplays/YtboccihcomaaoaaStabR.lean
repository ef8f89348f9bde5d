/- slices.stableCmpFunc and slices.SortStableFunc: a row of entries is sorted. -/
import Derived.Test.YtboccihcomaaoaaSymM
import Derived.Test.YtboccihcomaaoaaInsR
namespace Go.Proofs.Ytboccihcomaaoaa
open Go.RowKit Go.Lib Go.Sort
set_option linter.unusedVariables false

set_option maxHeartbeats 400000 in
theorem stable_none (p : Option Addr) (cap : Nat) (fv : Value) (w : World) :
    Calls Try.prog 75 #[.slice p 0 cap, .int .i64 0, fv] w fun e w' => e = .returned (.tuple #[]) ∧ w' = w := by
  go_enter Try.func75, Try.ntmps75
  go_wp2_with fail
  refine wp_loop_rounds 1 ?_
  rw [rounds_succ]
  go_wp2_with fail
  refine (insert_none p cap fv w).mono ?_
  rintro e w1 ⟨rfl, rfl⟩
  go_wp2_with fail
  refine wp_loop_rounds 1 ?_
  rw [rounds_succ]
  go_wp2
  go_end0
  exact ⟨rfl, rfl⟩

set_option maxHeartbeats 4000000 in
set_option maxRecDepth 1000000 in
theorem stable_any (blk off cap : Nat) (d : Array Ent) (w : World) (R : RE w blk off d) (hsz : d.size < 288230376151711744) :
    Calls Try.prog 75 #[.slice (some ⟨blk, off, none⟩) d.size cap, .int .i64 d.size, .func (.func 66) #[] #[]] w fun e w' => e = .returned (.tuple #[]) ∧
      ∃ d' : Array Ent, SE w blk off d' w' ∧ PermIn 0 d.size d d' ∧ SortedIn ltE 0 d.size d' := by
  obtain ⟨n, hn⟩ : ∃ n, d.size = n := ⟨_, rfl⟩
  have S0 : Aside (SE w blk off d w) := SWK.start R.hH
  have IN : Aside (∀ (a b : Nat) (dk : Array Ent) (W : World), dk.size = n → SE w blk off dk W → a ≤ b → b ≤ n → Calls Try.prog 78 #[.slice (some ⟨blk, off, none⟩) n cap, .int .i64 a, .int .i64 b, .func (.func 66) #[] #[]] W fun e w' => e = .returned (.tuple #[]) ∧
      ∃ d' : Array Ent, SE w blk off d' w' ∧ PermIn a b dk d' ∧ SortedIn ltE a b d') := by
    intro a b dk W h1 h2 h3 h4
    rw [← h1]
    exact insert_any blk off cap a b d dk w W R (by omega) h2 h3 (by omega) (by omega)
  have SY : Aside (∀ (a m b : Nat) (dk : Array Ent) (W : World), dk.size = n → SE w blk off dk W → a < m → m < b → b ≤ n → SortedIn ltE a m dk → SortedIn ltE m b dk → Calls Try.prog 79 #[.slice (some ⟨blk, off, none⟩) n cap, .int .i64 a, .int .i64 m, .int .i64 b, .func (.func 66) #[] #[]] W (SymPost w blk off a b dk)) := by
    intro a m b dk W h1 h2 h3 h4 h5 h6 h7
    rw [← h1]
    exact symMerge_any blk off cap d w R (by omega) (b - a) a m b dk W (Nat.le_refl _) (by omega) h2 h3 h4 (by omega) h6 h7
  have HN : Hid _ := hn
  rw [hn] at hsz ⊢
  clear hn R
  go_enter Try.func75, Try.ntmps75
  go_wp2_with fail
  go_loopg [7, 8] n (fun kx s7 s8 wr => ∃ (q A B : Nat) (dk : Array Ent), s7 = .int .i64 A ∧ s8 = .int .i64 B ∧ Hid (A = q * 20) ∧ Hid (B = A + 20) ∧ A < B ∧ A ≤ n ∧ B ≤ A + 20 ∧ n - A ≤ kx ∧ dk.size = n ∧ Aside (SE w blk off dk wr) ∧ Aside (PermIn 0 n d dk) ∧ Aside (BlkTo ltE 20 n q dk))
  case atStart => exact ⟨0, 0, 20, d, rfl, rfl, rfl, rfl, by omega, by omega, by omega, by omega, HN.out, S0, permIn_refl d 0 n, BlkTo.zero 20 n d⟩
  case round =>
    obtain ⟨q, A, B, dk, rfl, rfl, HA, HB, hAB, hAn, hBA, hkx, hds, S1, P1, B1⟩ := hrel
    clear S0
    by_cases c : B ≤ n
    · have cz : (B : Int) ≤ (n : Int) := by omega
      go_wp2_with fail
      refine (IN.out A B dk wr hds S1.out (by omega) c).mono ?_
      rintro e w1 ⟨rfl, d1, s1, p1, o1⟩
      have S2 : Aside _ := s1
      have P2 : Aside (PermIn 0 n d d1) := permIn_trans _ _ _ _ _ P1.out (permIn_mono _ _ _ _ _ _ (by omega) c (by omega) p1)
      have B2 : Aside (BlkTo ltE 20 n (q + 1) d1) := by
        have h1 := HA.out
        have h2 := HB.out
        rw [h1] at p1 o1
        exact B1.out.next p1 o1 (.inl (by omega))
      have z1 : d1.size = n := p1.1.trans hds
      clear s1 p1 o1 S1 P1 B1
      go_wp2
      go_roundg (n - B)
      case measure => omega
      case rel =>
        have h1 := HA.out
        have h2 := HB.out
        exact ⟨q + 1, B, B + 20, d1, rfl, by go_num, (show B = (q + 1) * 20 by omega), rfl, by omega, c, by omega, Nat.le_refl _, z1, S2, P2, B2⟩
    · have cz : ¬ (B : Int) ≤ (n : Int) := by omega
      go_wp2_with fail
      refine (IN.out A n dk wr hds S1.out (by omega) (Nat.le_refl _)).mono ?_
      rintro e w1 ⟨rfl, d1, s1, p1, o1⟩
      have S2 : Aside _ := s1
      have P2 : Aside (PermIn 0 n d d1) := permIn_trans _ _ _ _ _ P1.out (permIn_mono _ _ _ _ _ _ (by omega) (Nat.le_refl _) (by omega) p1)
      have B2 : Aside (Blk ltE 20 n d1) := by
        have h1 := HA.out
        have h2 := HB.out
        rw [h1] at p1 o1
        exact (B1.out.next p1 o1 (.inr (Nat.le_refl _))).done (by omega)
      have z1 : d1.size = n := p1.1.trans hds
      clear s1 p1 o1 S1 P1 B1 cz HA HB
      go_wp2_with fail
      go_loopg [6] n (fun kx s6 wr => ∃ (bs : Nat) (dk : Array Ent), s6 = .int .i64 bs ∧ 1 ≤ bs ∧ bs ≤ 2 * n + 20 ∧ n - bs ≤ kx ∧ dk.size = n ∧ Aside (SE w blk off dk wr) ∧ Aside (PermIn 0 n d dk) ∧ Aside (Blk ltE bs n dk))
      case atStart => exact ⟨20, d1, rfl, by omega, by omega, by omega, z1, S2, P2, B2⟩
      case round =>
        clear hds hkx hAB hAn hBA c
        obtain ⟨bs, dB, rfl, hb1, hb2, hkx, hds, S3, P3, B3⟩ := hrel
        clear S2 P2 B2
        by_cases c : bs < n
        · have cz : (bs : Int) < (n : Int) := by omega
          go_wp2_with fail
          go_loopg [7, 8] n (fun kx s7 s8 wr => ∃ (q A B : Nat) (dk : Array Ent), s7 = .int .i64 A ∧ s8 = .int .i64 B ∧ Hid (A = q * (2 * bs)) ∧ Hid (B = A + 2 * bs) ∧ A < B ∧ A ≤ n ∧ B ≤ A + 2 * bs ∧ n - A ≤ kx ∧ dk.size = n ∧ Aside (SE w blk off dk wr) ∧ Aside (PermIn 0 n d dk) ∧ Aside (BlkTo ltE (2 * bs) n q dk) ∧ Aside (∀ t, A ≤ t → dk[t]! = dB[t]!))
          case atStart => exact ⟨0, 0, 2 * bs, dB, rfl, by go_num, (show 0 = 0 * (2 * bs) by omega), (show 2 * bs = 0 + 2 * bs by omega), by omega, by omega, by omega, by omega, hds, S3, P3, BlkTo.zero _ n dB, (fun _ _ => rfl : ∀ t, 0 ≤ t → dB[t]! = dB[t]!)⟩
          case round =>
            obtain ⟨q, A, B, dk, rfl, rfl, HA, HB, hAB, hAn, hBA, hkx2, hdk, S4, P4, B4, E4⟩ := hrel
            clear S3 P3
            obtain ⟨M, hM⟩ : ∃ M : Nat, (A : Int) + (bs : Int) = (M : Int) := ⟨A + bs, by omega⟩
            have hM2 : Hid (M = A + bs) := by show M = A + bs; omega
            have hAM : A < M := by omega
            have hMA : M ≤ A + bs := by omega
            by_cases c2 : B ≤ n
            · have c2z : (B : Int) ≤ (n : Int) := by omega
              have hMB : M < B := by have := HB.out; omega
              go_wp2_with fail
              refine (SY.out A M B dk wr hdk S4.out hAM hMB c2 (by have := hM2.out; subst this; exact B3.out.run1 HA.out E4.out (by omega)) (by have := hM2.out; subst this; exact B3.out.run2 HA.out E4.out hBA c2)).mono ?_
              rintro e w2 ⟨rfl, d2, s2, p2, o2⟩
              have S5 : Aside _ := s2
              have P5 : Aside (PermIn 0 n d d2) := permIn_trans _ _ _ _ _ P4.out (permIn_mono _ _ _ _ _ _ (by omega) c2 (by omega) p2)
              have E5 : Aside (∀ t, B ≤ t → d2[t]! = dB[t]!) := fun t ht => (p2.2.1 t (.inr ht)).trans (E4.out t (by omega))
              have B5 : Aside (BlkTo ltE (2 * bs) n (q + 1) d2) := by
                have h1 := HA.out
                have h2 := HB.out
                rw [h1] at p2 o2
                exact B4.out.next p2 o2 (.inl (by omega))
              have z2 : d2.size = n := p2.1.trans hdk
              clear s2 p2 o2 S4 P4 B4 E4 hM
              go_wp2
              go_roundg (n - B)
              case measure => omega
              case rel =>
                have h1 := HA.out
                have h2 := HB.out
                exact ⟨q + 1, B, B + 2 * bs, d2, rfl, by go_num, (show B = (q + 1) * (2 * bs) by rw [Nat.add_mul, Nat.one_mul]; omega), rfl, by omega, c2, by omega, Nat.le_refl _, z2, S5, P5, B5, E5⟩
            · have c2z : ¬ (B : Int) ≤ (n : Int) := by omega
              by_cases c3 : M < n
              · have c3z : (M : Int) < (n : Int) := by omega
                go_wp2_with fail
                refine (SY.out A M n dk wr hdk S4.out hAM c3 (Nat.le_refl _) (by have := hM2.out; subst this; exact B3.out.run1 HA.out E4.out (by omega)) (by have := hM2.out; have := HB.out; subst M; exact B3.out.run2 HA.out E4.out (by omega) (Nat.le_refl _))).mono ?_
                rintro e w2 ⟨rfl, d2, s2, p2, o2⟩
                have S5 : Aside _ := s2
                have P5 : Aside (PermIn 0 n d d2) := permIn_trans _ _ _ _ _ P4.out (permIn_mono _ _ _ _ _ _ (by omega) (Nat.le_refl _) (by omega) p2)
                have B5 : Aside (Blk ltE (2 * bs) n d2) := by
                  have h1 := HA.out
                  have h2 := HB.out
                  rw [h1] at p2 o2
                  exact (B4.out.next p2 o2 (.inr (Nat.le_refl _))).done (by rw [Nat.add_mul, Nat.one_mul]; omega)
                have z2 : d2.size = n := p2.1.trans hdk
                clear s2 p2 o2 S4 P4 B4 E4 hM
                go_wp2
                go_roundg (n - 2 * bs)
                case measure => omega
                case rel => exact ⟨2 * bs, d2, by first | go_num | (congr 1; omega), by omega, by omega, Nat.le_refl _, z2, S5, P5, B5⟩
              · have c3z : ¬ (M : Int) < (n : Int) := by omega
                have B5 : Aside (Blk ltE (2 * bs) n dk) := by
                  have h1 := HA.out
                  have h2 := hM2.out
                  exact B4.out.last dB B3.out (fun t ht => E4.out t (by omega)) (by omega)
                go_wp2
                go_roundg (n - 2 * bs)
                case measure => omega
                case rel => exact ⟨2 * bs, dk, by first | go_num | (congr 1; omega), by omega, by omega, Nat.le_refl _, hdk, S4, P4, B5⟩
        · have cz : ¬ (bs : Int) < (n : Int) := by omega
          go_wp2
          go_end0
          exact ⟨rfl, dB, S3.out, P3.out, B3.out.all (by omega)⟩
end Go.Proofs.Ytboccihcomaaoaa
