/- The walk of 'WheelFills'. -/
import Derived.Test.YtbopobgnmkhabaaDoorWhY
import Derived.Test.YtbopobgnmkhabaaDoorMask
namespace Go.Proofs.YtbopobgnmkhabaaDoor
open Go.RowKit Go.Lib Go.Sort Go.WideMaps Go.Maps
set_option linter.unusedVariables false

/-- The timers behind p calls: the first thousand. -/
def FillI (p : Nat) (T : List Ent) : Prop := T.length = min p 1000 ∧ (∀ x ∈ T, x.2 ≤ (min p 1000 : Nat)) ∧ ∀ k : Nat, 1 ≤ k → k ≤ min p 1000 → ∃ v, (v, (k : Int)) ∈ T
theorem fill_none {p : Nat} {T : List Ent} (h : FillI p T) {i : Int} (hi : (min p 1000 : Nat) < i) : dueOf T i = none := by
  cases e : dueOf T i with
  | none => rfl
  | some v => have := h.2.1 _ (dueOf_some e); simp only at this; omega
theorem fill_add {j : Nat} {T : List Ent} (hj : 1 ≤ j) (h : FillI (j - 1) T) (D : Nat) : addR T (j : Int) = (if 1000 < j then 65 else 0) ∧ FillI j (addT T (j : Int) D) := by
  have e0 : dueOf T (j : Int) = none := fill_none h (by omega)
  by_cases hx : 1000 < j
  · have e1 : addR T (j : Int) = 65 := by
      unfold addR
      rw [if_neg (by omega), e0, if_neg (by simp), if_pos (by have := h.1; omega)]
    refine ⟨by rw [if_pos hx]; exact e1, ?_⟩
    rw [addT_no _ (by rw [e1]; decide)]
    have em : min (j - 1) 1000 = min j 1000 := by omega
    unfold FillI at h
    rw [em] at h
    exact h
  · have e1 : addR T (j : Int) = 0 := by
      unfold addR
      rw [if_neg (by omega), e0, if_neg (by simp), if_neg (by have := h.1; omega)]
    refine ⟨by rw [if_neg hx]; exact e1, ?_⟩
    unfold addT
    rw [if_pos e1]
    refine ⟨by rw [insL_len, h.1]; omega, fun x hx => ?_, fun k hk1 hk2 => ?_⟩
    · rcases insL_mem.1 hx with rfl | hx
      · simp only; omega
      · have := h.2.1 x hx; omega
    · by_cases hkj : k = j
      · subst hkj; exact ⟨_, insL_mem.2 (.inl rfl)⟩
      · obtain ⟨v, hv⟩ := h.2.2 k hk1 (by omega)
        exact ⟨v, insL_mem.2 (.inr hv)⟩
theorem wfI_of' {i : Int} (h1 : -9223372036854775808 ≤ i) (h2 : i ≤ 9223372036854775807) : wfI i := by
  unfold wfI
  simp [Lit.wf, IntKind.min, IntKind.max, IntKind.bits, IntKind.signed]
  omega

def FillC (w w1 : World) (B base m : Nat) : Prop := ∃ F T, Wst w w1 F B base 5 T ∧ T.length = m - 1 ∧ dueOf T 2000 = none
def FillE (w w1 : World) (B base m : Nat) : Prop := ∃ F T, Wst w w1 F B base 5 T ∧ T.length = m
set_option maxHeartbeats 8000000 in
set_option maxRecDepth 100000 in
theorem wheelFills_walk (nz az : Int) (w : World) (wn : (Lit.int .i64 nz).wf = true) (wa : (Lit.int .i64 az).wf = true) (hN : TabW w ∧ 0 < w.heap.size) :
    Calls Tryd.prog 5 #[.int .i64 nz, .int .i64 az] w fun r w' => r = .returned (.bool true) ∧ Below w.heap.size w w' := by
  obtain ⟨B, hB⟩ : ∃ B, w.heap.size + 1 = B := ⟨_, rfl⟩
  obtain ⟨base, hbs⟩ : ∃ base, w.heap.size = base := ⟨_, rfl⟩
  have mk1 := mask_i64 nz 4 15 16 (by omega) (by decide) (by decide)
  have mk2 := mask_i64 az 10 1023 1024 (by omega) (by decide) (by decide)
  obtain ⟨M, hM, hM1⟩ : ∃ M : Nat, nz % 16 = (M : Int) ∧ M ≤ 15 := ⟨(nz % 16).toNat, by omega, by omega⟩
  obtain ⟨Q, hQ, hQ1⟩ : ∃ Q : Nat, az % 1024 = (Q : Int) ∧ Q ≤ 1023 := ⟨(az % 1024).toNat, by omega, by omega⟩
  rw [hM] at mk1
  rw [hQ] at mk2
  obtain ⟨N, hNN, hN1, hN2⟩ : ∃ N : Nat, (M : Int) + 992 = (N : Int) ∧ 992 ≤ N ∧ N ≤ 1007 := ⟨M + 992, by omega, by omega, by omega⟩
  obtain ⟨m, hm, hm1, hm2, hm3⟩ : ∃ m : Nat, min (N : Int) 1000 = (m : Int) ∧ 992 ≤ m ∧ m ≤ 1000 ∧ m = min N 1000 := ⟨min N 1000, by omega, by omega, by omega, rfl⟩
  obtain ⟨k, hk, hk2⟩ : ∃ k : Nat, Int.tmod (Q : Int) (m : Int) = (k : Int) ∧ k < m := by
    rw [Int.tmod_eq_emod_of_nonneg (by omega)]
    have h1 := Int.emod_nonneg (Q : Int) (show (m : Int) ≠ 0 by omega)
    have h2 := Int.emod_lt_of_pos (Q : Int) (show (0 : Int) < m by omega)
    exact ⟨((Q : Int) % (m : Int)).toNat, by omega, by omega⟩
  have NEW : Aside (Calls Tryd.prog 9 #[.int .u64 5] w fun e w' => e = .returned (.pointer (some ⟨B, 0, none⟩)) ∧ ∃ F T, Wst w w' F B base 5 T ∧ FillI 0 T) := by
    refine Calls.mono (Wst.new 5 (by decide) (Below.refl w.heap.size w) hN.1 hN.2) ?_
    rintro e w' ⟨rfl, -, F, q⟩
    exact ⟨by rw [hB], F, [], by rw [hB, hbs] at q; exact q, rfl, (fun x hx => by cases hx), fun k h1 h2 => by omega⟩
  have ADD : Aside (∀ w1 (j D : Nat), (∃ F T, Wst w w1 F B base 5 T ∧ FillI (j - 1) T) → 1 ≤ j → j ≤ 1100 → D < B64 → Calls Tryd.prog 10 #[.pointer (some ⟨B, 0, none⟩), .int .i64 (j : Int), .int .u64 (D : Int)] w1 fun e w' => e = .returned (.int .i64 (if 1000 < j then 65 else 0)) ∧ ∃ F T, Wst w w' F B base 5 T ∧ FillI j T) := fun w1 j D hf hj hj2 hD => by
    obtain ⟨F, T, h, hf⟩ := hf
    refine Calls.mono (h.add (i := (j : Int)) (D := D) (wfI_of' (by omega) (by omega)) hD) ?_
    rintro e w' ⟨rfl, F', q, -⟩
    exact ⟨by rw [(fill_add hj hf D).1], F', _, q, (fill_add hj hf D).2⟩
  have LEN : Aside (∀ w1, FillE w w1 B base m → Calls Tryd.prog 12 #[.pointer (some ⟨B, 0, none⟩)] w1 fun e w' => e = .returned (.int .i64 (m : Int)) ∧ w' = w1) := fun w1 hf => by
    obtain ⟨F, T, h, hf⟩ := hf
    refine Calls.mono (wlen_any h.whl) ?_
    rintro e w' ⟨rfl, rfl⟩
    exact ⟨by rw [hf], rfl⟩
  have CAN : Aside (∀ w1, (∃ F T, Wst w w1 F B base 5 T ∧ FillI N T) → Calls Tryd.prog 15 #[.pointer (some ⟨B, 0, none⟩), .int .i64 ((k : Int) + 1)] w1 fun e w' => e = .returned (.bool true) ∧ FillC w w' B base m) := fun w1 hf => by
    obtain ⟨F, T, h, hf⟩ := hf
    refine Calls.mono (h.cancel (i := (k : Int) + 1) (wfI_of' (by omega) (by omega))) ?_
    obtain ⟨v, hv⟩ := hf.2.2 (k + 1) (by omega) (by omega)
    rw [show (((k + 1 : Nat)) : Int) = (k : Int) + 1 by omega] at hv
    have e1 := dueOf_mem h.whl.ok.ids hv
    have e2 : canT T ((k : Int) + 1) = T.erase (v, (k : Int) + 1) := by unfold canT; rw [e1]
    rw [e1, e2]
    rintro e w' ⟨rfl, F', q, -⟩
    refine ⟨rfl, F', _, q, by rw [List.length_erase_of_mem hv, hf.1, hm3], ?_⟩
    cases e : dueOf (T.erase (v, (k : Int) + 1)) 2000 with
    | none => rfl
    | some u => have := hf.2.1 _ (List.mem_of_mem_erase (dueOf_some e)); simp only at this; omega
  have ADD2 : Aside (∀ w1, FillC w w1 B base m → Calls Tryd.prog 10 #[.pointer (some ⟨B, 0, none⟩), .int .i64 2000, .int .u64 3] w1 fun e w' => e = .returned (.int .i64 0) ∧ FillE w w' B base m) := fun w1 hf => by
    obtain ⟨F, T, h, hf, hd⟩ := hf
    have e1 : addR T 2000 = 0 := by
      unfold addR
      rw [if_neg (by omega), hd, if_neg (by simp), if_neg (by omega)]
    have e2 : addT T 2000 3 = insL T (((3 : Nat) : Int), 2000) := if_pos e1
    refine Calls.mono (h.add (i := 2000) (D := 3) (wfI_of' (by omega) (by omega)) (by decide)) ?_
    rw [e1, e2]
    rintro e w' ⟨rfl, F', q, -⟩
    exact ⟨rfl, F', _, q, by rw [insL_len]; omega⟩
  have ADD0 : Aside (∀ w1, FillE w w1 B base m → Calls Tryd.prog 10 #[.pointer (some ⟨B, 0, none⟩), .int .i64 0, .int .u64 3] w1 fun e w' => e = .returned (.int .i64 1) ∧ FillE w w' B base m) := fun w1 hf => by
    obtain ⟨F, T, h, hf⟩ := hf
    have e1 : addR T 0 = 1 := if_pos (by omega)
    refine Calls.mono (h.add (i := 0) (D := 3) (wfI_of' (by omega) (by omega)) (by decide)) ?_
    rw [e1, addT_no _ (by rw [e1]; decide)]
    rintro e w' ⟨rfl, F', q, -⟩
    exact ⟨rfl, F', _, q, hf⟩
  have AWK : Aside (∀ w1, FillE w w1 B base m → Calls Tryd.prog 14 #[] w1 fun e w' => e = .returned (.bool true) ∧ Below w.heap.size w w') := fun w1 hf => by
    obtain ⟨F, T, h, hm⟩ := hf
    refine Calls.mono (awake_any w1 h.tabW (Nat.lt_of_lt_of_le h.pos h.bel.size)) ?_
    rintro e w' ⟨rfl, q⟩
    exact ⟨rfl, h.bel.trans (q.mono h.bel.size)⟩
  have FL : Aside (∀ w1, (∃ F T, Wst w w1 F B base 5 T ∧ FillI N T) → FillE w w1 B base m) := fun w1 hf => by
    obtain ⟨F, T, h, hf⟩ := hf
    exact ⟨F, T, h, hf.1.trans hm3.symm⟩
  have HM3 : Hid _ := hm3
  clear wn wa hM hQ hB hbs hm3
  go_enter Tryd.func5, Tryd.ntmps5
  go_wp2_with (go_at_call 9; refine NEW.out.mono ?_; rintro e w1 ⟨rfl, I0⟩)
  have I1 : Aside (∃ F T, Wst w w1 F B base 5 T ∧ FillI 0 T) := I0
  clear I0 NEW mk1 hNN
  go_loopg [6, 7] (N + 1) (fun kx s6 s7 wr => ∃ (j : Nat), s6 = .int .i64 j ∧ 1 ≤ j ∧ j ≤ N + 1 ∧ N + 1 - j ≤ kx ∧ Aside (∃ F T, Wst w wr F B base 5 T ∧ FillI (j - 1) T))
  case atStart => exact ⟨1, rfl, by omega, by omega, by omega, I1⟩
  case round =>
    clear I1
    obtain ⟨j, rfl, hj1, hj2, hkx, I⟩ := hrel
    by_cases hlt : j ≤ N
    · have hz : (j : Int) ≤ (N : Int) := by omega
      obtain ⟨q, hq, hq1⟩ : ∃ q : Nat, (j : Int) * (j : Int) = (q : Int) ∧ q ≤ 1014049 := ⟨j * j, by simp, Nat.mul_le_mul (show j ≤ 1007 by omega) (show j ≤ 1007 by omega)⟩
      have AD : Aside (Calls Tryd.prog 10 #[.pointer (some ⟨B, 0, none⟩), .int .i64 (j : Int), .int .u64 (q : Int)] wr fun e w' => e = .returned (.int .i64 (if 1000 < j then 65 else 0)) ∧ ∃ F T, Wst w w' F B base 5 T ∧ FillI j T) := ADD.out _ _ _ I.out hj1 (by omega) (by unfold B64; omega)
      by_cases hgt : 1000 < j
      · have hgt2 : (1000 : Int) < (j : Int) := by omega
        go_wp2_with (go_at_call 10; refine AD.out.mono ?_; rw [if_pos hgt]; rintro e w' ⟨rfl, G1⟩)
        have G2 : Aside (∃ F T, Wst w w' F B base 5 T ∧ FillI j T) := G1
        go_roundg (N + 1 - (j + 1))
        case measure => omega
        case rel => exact ⟨j + 1, by go_num, by omega, by omega, Nat.le_refl _, G2⟩
      · have hgt2 : ¬ (1000 : Int) < (j : Int) := by omega
        go_wp2_with (go_at_call 10; refine AD.out.mono ?_; rw [if_neg hgt]; rintro e w' ⟨rfl, G1⟩)
        have G2 : Aside (∃ F T, Wst w w' F B base 5 T ∧ FillI j T) := G1
        go_roundg (N + 1 - (j + 1))
        case measure => omega
        case rel => exact ⟨j + 1, by go_num, by omega, by omega, Nat.le_refl _, G2⟩
    · have e0 : j = N + 1 := by omega
      have hz : ¬ (j : Int) ≤ (N : Int) := by omega
      have I2 : Aside (∃ F T, Wst w wr F B base 5 T ∧ FillI N T) := by
        have := I.out
        rw [e0] at this
        exact this
      have L1 : Aside (Calls Tryd.prog 12 #[.pointer (some ⟨B, 0, none⟩)] wr fun e w' => e = .returned (.int .i64 (m : Int)) ∧ w' = wr) := LEN.out wr (FL.out wr I2.out)
      clear I ADD
      have hm0 : ¬ (m : Int) = 0 := by omega
      clear hj1 hj2 hkx hlt
      go_upto_region 14 with fail
      go_wp2_with fail
      refine L1.out.mono ?_
      rintro e w2 ⟨rfl, rfl⟩
      go_wp2_with fail
      refine (CAN.out _ I2.out).mono ?_
      rintro e w3 ⟨rfl, I3⟩
      go_wp2_with fail
      refine (ADD2.out _ I3).mono ?_
      rintro e w4 ⟨rfl, I4⟩
      go_wp2_with fail
      refine (LEN.out _ I4).mono ?_
      rintro e w5 ⟨rfl, rfl⟩
      go_wp2_with fail
      refine (ADD0.out _ I4).mono ?_
      rintro e w6 ⟨rfl, I6⟩
      go_wp2_with fail
      refine (AWK.out _ I6).mono ?_
      rintro e w7 ⟨rfl, bel⟩
      go_wp2_with fail
      go_ret
      exact ⟨rfl, bel⟩
end Go.Proofs.YtbopobgnmkhabaaDoor
