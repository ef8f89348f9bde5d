/- Blocks: Ok, Min; the law's awake. -/
import Derived.Deep.QuietTactic
import Derived.BigQuiet
import Derived.Test.YtchephglapnloaaBlkC
import Derived.Test.YtchephglapnloaaEntR
namespace Go.Proofs.Ytchephglapnloaa
open Go.RowKit Go.Lib Go.Sort
set_option linter.unusedVariables false

set_option maxHeartbeats 400000 in
theorem okB_any (a : Option Addr) (cap : Nat) (d : List Ent) (w : World) (h : IsL w a cap d) (hs : Srt d) (hd : d.length ≤ 1000000) :
    Calls Try.prog 26 #[.agg #[.int .i64 (lvl d.length), .slice a d.length cap]] w fun e w' => e = .returned (.bool true) ∧ Below w.heap.size w w' := by
  obtain ⟨S, hS⟩ : ∃ S, w.heap.size = S := ⟨_, rfl⟩
  have HS : Hid _ := hS
  obtain ⟨n, hn⟩ : ∃ n, d.length = n := ⟨_, rfl⟩
  obtain ⟨m, hm⟩ : ∃ m, lvl n = m := ⟨_, rfl⟩
  obtain ⟨P, hP⟩ : ∃ P, 2 ^ m = P := ⟨_, rfl⟩
  have m20 : m ≤ 20 := by rw [← hm]; exact lvl_le (by omega)
  have hP1 : P ≤ 1048576 := by rw [← hP]; exact Nat.le_trans (Nat.pow_le_pow_right (by omega) m20) (by decide)
  have r1 : n ≤ P := by rw [← hP, ← hm]; exact lvl_room n
  have r2 : 0 < m → P / 2 < n := by rw [← hP, ← hm]; exact fun h => lvl_half h
  have rm := room_any m P (by omega) hP
  obtain ⟨u, hu⟩ : ∃ u, w.alloc (.cells #[.int .i64 m, .slice a n cap] 62) = u := ⟨_, rfl⟩
  have HU : Hid _ := hu
  have b0 : Below S w u := by rw [← hu]; exact (Below.refl _ _).alloc (by omega) _
  have k0 : ∀ q, (u.drewN q).cell? ⟨S, 0, none⟩ = some (.int .i64 m) := fun q => by rw [← hu, ← hS]; exact cell_new w _ _ 0
  have k1 : ∀ q, (u.drewN q).cell? ⟨S, 1, none⟩ = some (.slice a n cap) := fun q => by rw [← hu, ← hS]; exact cell_new w _ _ 1
  have e0 : u.cell? ⟨S, 0, none⟩ = some (.int .i64 m) := k0 0
  have so : ∀ q, Calls Try.prog 47 #[.slice a n cap] (u.drewN q) fun e w' => e = .returned (.bool true) ∧ Grown (u.drewN q) w' := fun q => by
    have := sorted_any a cap d (u.drewN q) (h.below (by rw [hS]; exact b0.trans ((Grown.below ⟨q, #[], by rw [grow_empty]⟩).mono (by rw [← hu, ← hS]; simp))))
    rw [hn, (srtB_iff d).2 hs] at this
    exact this
  rw [hn, hm]
  have B0 : Aside (Below S w u) := b0
  have hn' : n ≤ 1000000 := by omega
  have wn : IntKind.u64.wrap (n : Int) = (n : Int) := by rw [IntKind.wrap_u64, Int.emod_eq_of_lt (by omega) (by omega)]
  have t1 : ¬ (m : Int) < 0 := by omega
  have t2 : ¬ (62 : Int) < (m : Int) := by omega
  have t3 : ¬ (P : Int) < (n : Int) := by omega
  have t5 : decide ((m : Int) < 0) = false := decide_eq_false t1
  have t6 : decide ((P : Int) < (n : Int)) = false := decide_eq_false t3
  have sz : S ≤ u.heap.size := by have := b0.size; omega
  clear b0 hu h hs hd hn hm hP
  by_cases c : 0 < m
  · have r3 := r2 c
    have t4 : ¬ (n : Int) ≤ (P : Int) / 2 := by omega
    have t7 : (0 : Int) < (m : Int) := by omega
    have t8 : decide ((0 : Int) < (m : Int)) = true := decide_eq_true t7
    clear r2
    go_enter Try.func26, Try.ntmps26
    go_wp2_with fail
    rw [HU.out]
    go_quiet ((go_at_call 46; exact Calls.quiet_of_same (rm _)))
    go_wp2_with fail
    refine (so nq).mono ?_
    rintro e w2 ⟨rfl, g2⟩
    have B2 : Aside (Below S w w2) := (B0.out.trans ((Grown.below ⟨nq, #[], by rw [grow_empty]⟩).mono sz)).trans (g2.below.mono sz)
    clear g2 k0 k1 so
    go_wp2
    go_ret
    exact ⟨rfl, by rw [HS.out]; exact B2.out⟩
  · have t7 : ¬ (0 : Int) < (m : Int) := by omega
    have t8 : decide ((0 : Int) < (m : Int)) = false := decide_eq_false t7
    clear r2
    go_enter Try.func26, Try.ntmps26
    go_wp2_with fail
    rw [HU.out]
    go_quiet ((go_at_call 46; exact Calls.quiet_of_same (rm _)))
    go_wp2_with fail
    refine (so nq).mono ?_
    rintro e w2 ⟨rfl, g2⟩
    have B2 : Aside (Below S w w2) := (B0.out.trans ((Grown.below ⟨nq, #[], by rw [grow_empty]⟩).mono sz)).trans (g2.below.mono sz)
    clear g2 k0 k1 so
    go_wp2
    go_ret
    exact ⟨rfl, by rw [HS.out]; exact B2.out⟩

/-- What Min tells. -/
def MinIs (w : World) (x : Ent) (r : Ending) (w' : World) : Prop := r = .returned (.tuple #[.agg #[.int .u64 x.1, .int .i64 x.2], .bool true]) ∧ Below w.heap.size w w'

set_option maxHeartbeats 400000 in
theorem minB_any (i : Int) (a : Option Addr) (cap : Nat) (x : Ent) (d : List Ent) (w : World) (h : IsL w a cap (x :: d)) :
    Calls Try.prog 40 #[.agg #[.int .i64 i, .slice a (x :: d).length cap]] w (MinIs w x) := by
  obtain ⟨S, hS⟩ : ∃ S, w.heap.size = S := ⟨_, rfl⟩
  have HS : Hid _ := hS
  have hl := h.len
  obtain ⟨n, hn⟩ : ∃ n, (x :: d).length = n := ⟨_, rfl⟩
  have n0 : 0 < n := by rw [← hn]; simp
  rw [hn] at hl ⊢
  obtain ⟨b, off, rfl, hb, c0, c1⟩ := h.elem 0 x rfl
  simp only [Nat.zero_mul, Nat.add_zero] at c0 c1
  have t1 : ¬ (n : Int) = 0 := by omega
  have t2 : ((n : Int) == 0) = false := by simp; omega
  have t3 : (0 : Int) < (n : Int) := by omega
  have hb2 : b < S := by omega
  clear h hn
  go_enter Try.func40, Try.ntmps40
  go_wp2
  refine bodyPost_ret (v := .tuple #[.agg #[.int .u64 x.1, .int .i64 x.2], .bool true]) (by simp [results, Try.results40, go_sem, hS]) rfl ⟨rfl, ((Below.refl _ _).alloc (Nat.le_refl _) _).alloc (by simp) _⟩

theorem srt3 : sortE [(3, 1), (1, 2), (2, 3)] = [(1, 2), (2, 3), (3, 1)] := (sortE_of ((srtB_iff _).1 (by decide)) (by decide)).symm
theorem lvl3 : lvl 3 = 2 := lvl_uniq (by decide) (.inr (by decide))
theorem lvl5 : lvl 5 = 3 := lvl_uniq (by decide) (.inr (by decide))

end Go.Proofs.Ytchephglapnloaa
