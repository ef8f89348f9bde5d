/- The document's Shared in the heap; its Ok, its Swap. -/
import Derived.Test.YtboccihcomaaoaaShrZ
import Derived.Test.YtboccihcomaaoaaShrN
namespace Go.Proofs.Ytboccihcomaaoaa
open Go.RowKit Go.Lib Go.Sort
set_option linter.unusedVariables false

theorem pow_i62 (k P : Nat) (hk : k ≤ 62) (hP : 2 ^ k = P) : IntKind.i64.wrap ((2 : Int) ^ k) = (P : Int) := by
  have h1 : P ≤ 2 ^ 62 := by rw [← hP]; exact Nat.pow_le_pow_right (by omega) hk
  have h2 : ((2 : Int) ^ k) = (P : Int) := by rw [← hP]; simp
  rw [h2, IntKind.wrap_i64]
  omega

set_option maxHeartbeats 1000000 in
theorem refOkR_any (m : Int) (a : Option Addr) (cap : Nat) (d : List Ent) (w : World) (h : IsL w a cap d) (hd : d.length ≤ 1000000) :
    Calls Try.prog 44 #[.agg #[.int .i64 m, .slice a d.length cap]] w fun e w' => e = .returned (.bool (okX (m, d))) ∧ Below w.heap.size w w' := by
  obtain ⟨S, hS⟩ : ∃ S, w.heap.size = S := ⟨_, rfl⟩
  have HS : Hid _ := hS
  have l20 : lvl d.length ≤ 20 := lvl_le hd
  obtain ⟨n, hn⟩ : ∃ n, d.length = n := ⟨_, rfl⟩
  obtain ⟨u, hu⟩ : ∃ u, w.alloc (.cells #[.int .i64 m, .slice a n cap] 79) = u := ⟨_, rfl⟩
  have HU : Hid _ := hu
  have b0 : Below S w u := by rw [← hu]; exact (Below.refl _ _).alloc (by omega) _
  have uS : u.heap[S]? = some (.cells #[.int .i64 m, .slice a n cap] 79 (0, 0)) := by rw [← hu, ← hS]; exact heap_alloc_new w _
  have e0 := shr0 uS
  have e1 := shr1 uS
  obtain ⟨Y, hY⟩ : ∃ Y, srtB d = Y := ⟨_, rfl⟩
  have so : Calls Try.prog 15 #[.slice a n cap] u fun e w' => e = .returned (.bool Y) ∧ Grown u w' := by
    have := refSorted_any a cap d u (h.below (by rw [hS]; exact b0))
    rw [hn, hY] at this
    exact this
  have sz : S ≤ u.heap.size := by have := b0.size; omega
  have B0 : Aside (Below S w u) := b0
  have US : Aside (u.heap[S]? = some (.cells #[.int .i64 m, .slice a n cap] 79 (0, 0))) := uS
  by_cases c1 : m < 0
  · have t5 : decide (m < 0) = true := decide_eq_true c1
    have R : Hid _ := okX_not (m := m) (d := d) (by omega)
    rw [hn]
    clear b0 hu h hd hn so hY uS
    go_enter Try.func44, Try.ntmps44
    go_wp2_with fail
    rw [HU.out]
    go_ret
    exact ⟨by rw [R.out]; rfl, by first | exact B0.out | (rw [HS.out]; exact B0.out)⟩
  by_cases c2 : 62 < m
  · have t5 : decide (m < 0) = false := decide_eq_false c1
    have R : Hid _ := okX_not (m := m) (d := d) (by omega)
    rw [hn]
    clear b0 hu h hd hn so hY uS
    go_enter Try.func44, Try.ntmps44
    go_wp2_with fail
    rw [HU.out]
    go_ret
    exact ⟨by rw [R.out]; rfl, by first | exact B0.out | (rw [HS.out]; exact B0.out)⟩
  obtain ⟨M, rfl⟩ : ∃ M : Nat, m = (M : Int) := ⟨m.toNat, by omega⟩
  have t1 : ¬ (M : Int) < 0 := by omega
  have t5 : decide ((M : Int) < 0) = false := decide_eq_false t1
  have t2 : ¬ (62 : Int) < (M : Int) := by omega
  cases Y with
  | false =>
    have R : Hid (okX ((M : Int), d) = false) := by show _ = _; unfold okX; simp [hY]
    rw [hn]
    clear b0 hu h hd hn hY uS
    go_enter Try.func44, Try.ntmps44
    go_wp2_with fail
    rw [HU.out]
    refine so.mono ?_
    rintro e w2 ⟨rfl, g2⟩
    have B2 : Aside (Below S w w2) := B0.out.trans (g2.below.mono sz)
    clear g2 so
    go_wp2
    go_ret
    exact ⟨by rw [R.out]; rfl, by first | exact B2.out | (rw [HS.out]; exact B2.out)⟩
  | true =>
    obtain ⟨P, hP⟩ : ∃ P, 2 ^ M = P := ⟨_, rfl⟩
    have sh := pow_i62 M P (by omega) hP
    have hP1 : P ≤ 2 ^ 62 := by rw [← hP]; exact Nat.pow_le_pow_right (by omega) (by omega)
    have r1 := lvl_room n
    have hP2 : 0 < M → P = 2 ^ (M - 1) * 2 := fun h => by rw [← hP, ← Nat.pow_succ]; congr 1; omega
    have hw2 : IntKind.i64.wrap ((P : Int) / 2) = (P : Int) / 2 := by rw [IntKind.wrap_i64]; omega
    have hw3 : Int.tdiv (P : Int) 2 = (P : Int) / 2 := by rw [Int.tdiv_eq_ediv_of_nonneg (by omega)]
    have eq : ∀ B : Bool, (B = (decide (n ≤ P) && (decide (M = 0) || decide (P / 2 < n)))) → okX ((M : Int), d) = B := fun B hB => by
      rw [hB]
      by_cases q1 : n ≤ P
      · by_cases q2 : M = 0
        · rw [okX_eq (m := M) (by rw [hn]; exact lvl_uniq (by omega) (.inl q2)), hY]; simp [q1, q2]
        · by_cases q3 : P / 2 < n
          · rw [okX_eq (m := M) (by rw [hn]; exact lvl_uniq (by omega) (.inr (by have := hP2 (by omega); omega))), hY]; simp [q1, q3]
          · rw [okX_not (by
              intro e
              have e' : M = lvl n := by rw [hn] at e; omega
              have := lvl_least (n := n) (k := M - 1) (by omega)
              have := hP2 (by omega)
              omega)]
            simp [q1, q2, q3]
      · rw [okX_not (by
          intro e
          have e' : M = lvl n := by rw [hn] at e; omega
          rw [← e', hP] at r1
          omega)]
        simp [q1]
    have EQ : Aside (∀ B : Bool, (B = (decide (n ≤ P) && (decide (M = 0) || decide (P / 2 < n)))) → okX ((M : Int), d) = B) := eq
    rw [hn]
    clear b0 hu h hd hn hY uS eq hP2 r1
    by_cases q1 : n ≤ P
    · have z1 : (n : Int) ≤ (P : Int) := by omega
      have z2 : decide ((n : Int) ≤ (P : Int)) = true := decide_eq_true z1
      have z2n : decide (n ≤ P) = true := decide_eq_true q1
      by_cases q2 : M = 0
      · have R : Hid _ := EQ.out true (by simp [q1, q2])
        have z3 : ((M : Int) == 0) = true := by simp [q2]
        have z3n : decide (M = 0) = true := decide_eq_true q2
        have z3m : (M == 0) = true := by simp [q2]
        have z3i : decide ((M : Int) = 0) = true := decide_eq_true (by omega)
        have K2 : Hid (M = 0) := q2
        clear q2
        clear hP EQ hP1
        go_enter Try.func44, Try.ntmps44
        go_wp2_with fail
        rw [HU.out]
        refine so.mono ?_
        rintro e w2 ⟨rfl, g2⟩
        have B2 : Aside (Below S w w2) := B0.out.trans (g2.below.mono sz)
        have u2 := (g2.below.block S (lt_of_block US.out)).trans US.out
        have k0 : ∀ q, (w2.drewN q).cell? ⟨S, 0, none⟩ = some (.int .i64 M) := fun q => shr0 u2
        have k1 : ∀ q, (w2.drewN q).cell? ⟨S, 1, none⟩ = some (.slice a n cap) := fun q => shr1 u2
        have s2 : S ≤ w2.heap.size := by have := g2.below.size; omega
        clear g2 so u2 e0 e1
        go_wp2_with fail
        go_quiet (fail)
        have B3 : Aside (Below S w (w2.drewN nq)) := B2.out.trans ((Grown.below ⟨nq, #[], by rw [grow_empty]⟩).mono s2)
        go_wp2
        go_ret
        exact ⟨by rw [R.out]; rfl, by first | exact B3.out | (rw [HS.out]; exact B3.out)⟩
      · have z3 : ((M : Int) == 0) = false := by simp; omega
        have z4 : ¬ (M : Int) = 0 := by omega
        have z3n : decide (M = 0) = false := decide_eq_false q2
        have z3m : (M == 0) = false := by simp [q2]
        by_cases q3 : P / 2 < n
        · have R : Hid _ := EQ.out true (by simp [q1, q3])
          have z5 : (P : Int) / 2 < (n : Int) := by omega
          have z6 : decide ((P : Int) / 2 < (n : Int)) = true := decide_eq_true z5
          have z6n : decide (P / 2 < n) = true := decide_eq_true q3
          clear hP EQ hP1
          go_enter Try.func44, Try.ntmps44
          go_wp2_with fail
          rw [HU.out]
          refine so.mono ?_
          rintro e w2 ⟨rfl, g2⟩
          have B2 : Aside (Below S w w2) := B0.out.trans (g2.below.mono sz)
          have u2 := (g2.below.block S (lt_of_block US.out)).trans US.out
          have k0 : ∀ q, (w2.drewN q).cell? ⟨S, 0, none⟩ = some (.int .i64 M) := fun q => shr0 u2
          have k1 : ∀ q, (w2.drewN q).cell? ⟨S, 1, none⟩ = some (.slice a n cap) := fun q => shr1 u2
          have s2 : S ≤ w2.heap.size := by have := g2.below.size; omega
          clear g2 so u2 e0 e1
          go_wp2_with fail
          go_quiet (fail)
          have B3 : Aside (Below S w (w2.drewN nq)) := B2.out.trans ((Grown.below ⟨nq, #[], by rw [grow_empty]⟩).mono s2)
          go_wp2
          go_ret
          exact ⟨by rw [R.out]; rfl, by first | exact B3.out | (rw [HS.out]; exact B3.out)⟩
        · have R : Hid _ := EQ.out false (by simp [q1, q2, q3])
          have z5 : ¬ (P : Int) / 2 < (n : Int) := by omega
          have z6 : decide ((P : Int) / 2 < (n : Int)) = false := decide_eq_false z5
          have z6n : decide (P / 2 < n) = false := decide_eq_false q3
          clear hP EQ hP1
          go_enter Try.func44, Try.ntmps44
          go_wp2_with fail
          rw [HU.out]
          refine so.mono ?_
          rintro e w2 ⟨rfl, g2⟩
          have B2 : Aside (Below S w w2) := B0.out.trans (g2.below.mono sz)
          have u2 := (g2.below.block S (lt_of_block US.out)).trans US.out
          have k0 : ∀ q, (w2.drewN q).cell? ⟨S, 0, none⟩ = some (.int .i64 M) := fun q => shr0 u2
          have k1 : ∀ q, (w2.drewN q).cell? ⟨S, 1, none⟩ = some (.slice a n cap) := fun q => shr1 u2
          have s2 : S ≤ w2.heap.size := by have := g2.below.size; omega
          clear g2 so u2 e0 e1
          go_wp2_with fail
          go_quiet (fail)
          have B3 : Aside (Below S w (w2.drewN nq)) := B2.out.trans ((Grown.below ⟨nq, #[], by rw [grow_empty]⟩).mono s2)
          go_wp2
          go_ret
          exact ⟨by rw [R.out]; rfl, by first | exact B3.out | (rw [HS.out]; exact B3.out)⟩
    · have R : Hid _ := EQ.out false (by simp [q1])
      have z1 : ¬ (n : Int) ≤ (P : Int) := by omega
      have z2 : decide ((n : Int) ≤ (P : Int)) = false := decide_eq_false z1
      have z2n : decide (n ≤ P) = false := decide_eq_false q1
      clear hP EQ hP1
      go_enter Try.func44, Try.ntmps44
      go_wp2_with fail
      rw [HU.out]
      refine so.mono ?_
      rintro e w2 ⟨rfl, g2⟩
      have B2 : Aside (Below S w w2) := B0.out.trans (g2.below.mono sz)
      have u2 := (g2.below.block S (lt_of_block US.out)).trans US.out
      have k0 : ∀ q, (w2.drewN q).cell? ⟨S, 0, none⟩ = some (.int .i64 M) := fun q => shr0 u2
      have k1 : ∀ q, (w2.drewN q).cell? ⟨S, 1, none⟩ = some (.slice a n cap) := fun q => shr1 u2
      have s2 : S ≤ w2.heap.size := by have := g2.below.size; omega
      clear g2 so u2 e0 e1
      go_wp2_with fail
      go_quiet (fail)
      have B3 : Aside (Below S w (w2.drewN nq)) := B2.out.trans ((Grown.below ⟨nq, #[], by rw [grow_empty]⟩).mono s2)
      go_wp2
      go_ret
      exact ⟨by rw [R.out]; rfl, by first | exact B3.out | (rw [HS.out]; exact B3.out)⟩
end Go.Proofs.Ytboccihcomaaoaa
