/- The walk of 'QueueSpills'. -/
import Derived.Test.YtdcacbjmbfppeaaQW
import Derived.Test.YtdcacbjmbfppeaaMask
import Derived.Deep.RegionHeld3
namespace Go.Proofs.Ytdcacbjmbfppeaa
open Go.RowKit Go.Lib Go.Sort
set_option linter.unusedVariables false

theorem mod_step (a M : Nat) (hM : 0 < M) : (a % M + 1 < M → (a + 1) % M = a % M + 1) ∧ (a % M + 1 = M → (a + 1) % M = 0) := by
  have h := Nat.div_add_mod a M
  refine ⟨fun hl => ?_, fun he => ?_⟩
  · have e : a + 1 = M * (a / M) + (a % M + 1) := by omega
    rw [e, Nat.mul_add_mod, Nat.mod_eq_of_lt hl]
  · have e : a + 1 = M * (a / M + 1) := by rw [Nat.mul_add]; omega
    rw [e]; exact Nat.mul_mod_right _ _
/-- What stands there behind i Puts. -/
def SpI (T K i : Nat) (s : QSt) : Prop := ∃ (o h : List Ent), View T s (if i = 0 then fun _ => [] else lset (fun _ => []) 0 [((100 : Int) - (i : Int), (i : Int))]) (lset (fun _ => []) 0 o) h ∧ o.length = (i - 1) % (K + 1) ∧ h.length = (i - 1) - (i - 1) % (K + 1) ∧ QOk K T i s
theorem lset_nil (t : Nat) : lset (fun _ => ([] : List Ent)) t [] = fun _ => [] := by
  funext i
  by_cases e : i = t
  · subst e; rw [lset_same]
  · rw [lset_ne _ _ e]
theorem sp_new (T K : Nat) : SpI T K 0 newQ := ⟨[], [], by rw [if_pos rfl, lset_nil]; exact View.new T, by simp, rfl, newQ_ok K T⟩
theorem sp_settle {T K i : Nat} {s : QSt} (h : SpI T K i s) (hT : 1 ≤ T) (hi : 1 ≤ i) : ∃ (o h : List Ent), View T (settleQ K s 0) (fun _ => []) (lset (fun _ => []) 0 o) h ∧ o.length = i % (K + 1) ∧ h.length = i - i % (K + 1) := by
  obtain ⟨o, hh, v, lo, lh, ok⟩ := h
  rw [if_neg (by omega)] at v
  have m := mod_step (i - 1) (K + 1) (by omega)
  rw [show i - 1 + 1 = i by omega] at m
  have lt := Nat.mod_lt (i - 1) (show 0 < K + 1 by omega)
  have le := Nat.mod_le (i - 1) (K + 1)
  by_cases c : (i - 1) % (K + 1) + 1 < K + 1
  · have v2 := v.settle_fit (K := K) (t := 0) (by omega) (e := (100 - (i : Int), (i : Int))) (lset_same _ _ _) (by rw [lset_same]; omega)
    rw [lset_lset, lset_lset, lset_nil, lset_same] at v2
    have e := m.1 c
    exact ⟨_, _, v2, by rw [sortE_len, List.length_append]; simp; omega, by rw [lh]; omega⟩
  · have v2 := v.settle_spill (K := K) (t := 0) (by omega) (e := (100 - (i : Int), (i : Int))) (lset_same _ _ _) (by rw [lset_same]; omega)
    rw [lset_lset, lset_lset, lset_nil, lset_same] at v2
    have e := m.2 (by omega)
    exact ⟨[], _, by rw [lset_nil]; exact v2, by rw [e]; rfl, by rw [sortE_len, List.length_append, List.length_append, lo, lh]; simp; omega⟩
theorem sp_put {T K i : Nat} {s : QSt} (h : SpI T K i s) (hT : 1 ≤ T) (hK : K ≤ 16) : SpI T K (i + 1) (putQ K s 0 ((100 : Int) - ((i + 1 : Nat) : Int), ((i + 1 : Nat) : Int))) := by
  have ok' : QOk K T (i + 1) (putQ K s 0 ((100 : Int) - ((i + 1 : Nat) : Int), ((i + 1 : Nat) : Int))) := put_ok h.choose_spec.choose_spec.2.2.2 (by omega) hK _
  by_cases c : i = 0
  · subst c
    obtain ⟨o, hh, v, lo, lh, ok⟩ := h
    rw [if_pos rfl] at v
    have e := v.settle_no (K := K) (t := 0) (by omega) rfl
    have v2 : View T (settleQ K s 0) (fun _ => []) (lset (fun _ => []) 0 o) hh := by rw [e]; exact v
    exact ⟨o, hh, by rw [if_neg (by omega)]; exact v2.put _, lo, lh, ok'⟩
  · obtain ⟨o, hh, v, lo, lh⟩ := sp_settle h hT (by omega)
    exact ⟨o, hh, by rw [if_neg (by omega)]; exact v.put _, lo, lh, ok'⟩
theorem sp_slots {T K i : Nat} {s : QSt} (h : SpI T K i s) (hT : 1 ≤ T) (hi : 1 ≤ i) : (slAll s.g T).length = 1 := by
  obtain ⟨o, hh, v, lo, lh, ok⟩ := h
  rw [v.slots, if_neg (by omega), flat_one1 (by omega)]; rfl
theorem sp_local {T K i : Nat} {s : QSt} (h : SpI T K i s) (hT : 1 ≤ T) : (s.ls 0).flatten.length = (i - 1) % (K + 1) := by
  obtain ⟨o, hh, v, lo, lh, ok⟩ := h
  rw [v.len (by omega), lset_same, lo]
theorem sp_shared {T K i : Nat} {s : QSt} (h : SpI T K i s) : s.hs.flatten.length = (i - 1) - (i - 1) % (K + 1) := by
  obtain ⟨o, hh, v, lo, lh, ok⟩ := h
  rw [v.hlen, lh]
theorem sp_where {T K i : Nat} {s : QSt} (h : SpI T K i s) (hT : 1 ≤ T) (hi : 1 ≤ i) : whereQ s T (i : Int) = (1, 0) := by
  obtain ⟨o, hh, v, lo, lh, ok⟩ := h
  rw [if_neg (by omega)] at v
  have : firstHas s T (i : Int) = some 0 := by
    refine find_range (by omega) ?_ (fun i hi => absurd hi (by omega))
    rw [v.spot, if_pos (by omega), lset_same]
    simp [hasL]
  unfold whereQ
  rw [this]
  show spotAt T 0 = _
  unfold spotAt
  rw [if_pos (by omega)]; rfl
theorem sp_len {T K i : Nat} {s : QSt} (h : SpI T K i s) (hT : 1 ≤ T) : lenQ s T = i := by
  obtain ⟨o, hh, v, lo, lh, ok⟩ := h
  have le := Nat.mod_le (i - 1) (K + 1)
  rw [v.lenQ, flat_one1 (by omega), lo, lh]
  by_cases c : i = 0
  · subst c; rw [if_pos rfl, flatN_nil]; simp
  · rw [if_neg c, flat_one1 (by omega)]; simp; omega
theorem sp_f {T K i : Nat} {s : QSt} (h : SpI T K i s) (hT : 1 ≤ T) : (s.g 0).f = decide (0 < i) := by
  obtain ⟨o, hh, v, lo, lh, ok⟩ := h
  rw [v.f (by omega)]
  by_cases c : i = 0
  · subst c; rfl
  · rw [if_neg c, lset_same, decide_eq_true (by omega)]; rfl
theorem sp_len2 {T K i : Nat} {s : QSt} (h : SpI T K i s) (hT : 1 ≤ T) : lenQ (settleQ K s 0) T = i := by
  by_cases c : i = 0
  · have := sp_f h hT
    rw [settle_none (by rw [this, c]; rfl)]
    exact sp_len h hT
  · obtain ⟨o, hh, v, lo, lh⟩ := sp_settle h hT (by omega)
    have le := Nat.mod_le i (K + 1)
    rw [v.lenQ, flat_one1 (by omega), flatN_nil, lo, lh]; simp; omega

set_option maxHeartbeats 8000000 in
set_option maxRecDepth 100000 in
theorem queueSpills_walk (a b c : Int) (w : World) (wa : (Lit.int .i64 a).wf = true) (wb : (Lit.int .i64 b).wf = true) (wc : (Lit.int .i64 c).wf = true) :
    Calls Try.prog 3 #[.int .i64 a, .int .i64 b, .int .i64 c] w fun r w' => r = .returned (.bool true) ∧ Below w.heap.size w w' := by
  obtain ⟨S, hS⟩ : ∃ S, w.heap.size = S := ⟨_, rfl⟩
  obtain ⟨T1, hT1, T18⟩ : ∃ N : Nat, bits .and .i64 a 7 = (N : Int) ∧ N < 8 := by
    have := mask_i64 a 3 7 8 (by omega) rfl rfl
    exact ⟨(a % 8).toNat, by rw [this]; omega, by omega⟩
  obtain ⟨K, hK0, K15⟩ : ∃ N : Nat, bits .and .i64 b 15 = (N : Int) ∧ N < 16 := by
    have := mask_i64 b 4 15 16 (by omega) rfl rfl
    exact ⟨(b % 16).toNat, by rw [this]; omega, by omega⟩
  obtain ⟨n, hn0, n63⟩ : ∃ N : Nat, bits .and .i64 c 63 = (N : Int) ∧ N < 64 := by
    have := mask_i64 c 6 63 64 (by omega) rfl rfl
    exact ⟨(c % 64).toNat, by rw [this]; omega, by omega⟩
  obtain ⟨T, hT⟩ : ∃ N : Nat, T1 + 1 = N := ⟨_, rfl⟩
  have h1 : 1 ≤ T := by omega
  have h8 : T ≤ 8 := by omega
  have hK : K ≤ 16 := by omega
  have hT2 : IntKind.i64.wrap ((T1 : Int) + 1) = (T : Int) := by rw [IntKind.wrap_i64]; omega
  have nw := qnew_in T K w h1 h8 hK
  have HS : Hid _ := hS
  clear wa wb wc hT
  go_enter Try.func3, Try.ntmps3
  go_wp2_with fail
  refine nw.mono ?_
  rintro r w1 ⟨A, rfl, q1, b1⟩
  rw [hS] at q1 b1
  have I0 : Aside (∃ s, Que w1 S A T K s ∧ SpI T K 0 s) := ⟨newQ, q1, sp_new T K⟩
  have B0 : Aside (Below S w w1) := b1
  clear nw q1 b1 hT1 hT2 hK0 hn0 hS
  go_wp2_with fail
  go_loopg [9] n (fun kx s9 wr => ∃ (j : Nat), s9 = .int .i64 j ∧ 1 ≤ j ∧ j ≤ n + 1 ∧ n + 1 - j ≤ kx ∧ Aside (∃ s, Que wr S A T K s ∧ SpI T K (j - 1) s) ∧ Aside (Below S w wr))
  case atStart => exact ⟨1, rfl, by omega, by omega, by omega, I0, B0⟩
  case round =>
    clear I0 B0
    obtain ⟨j, rfl, hj1, hj2, hkx, I, B⟩ := hrel
    obtain ⟨s, q, sp⟩ := I.out
    have Sw : S ≤ wr.heap.size := by have := B.out.size; have := HS.out; omega
    by_cases hlt : j ≤ n
    · have hz : (j : Int) ≤ (n : Int) := by omega
      have wj : IntKind.i64.wrap (100 - (j : Int)) = 100 - (j : Int) := by rw [IntKind.wrap_i64]; omega
      have uj : IntKind.u64.wrap (100 - (j : Int)) = 100 - (j : Int) := by rw [IntKind.wrap_u64, Int.emod_eq_of_lt (by omega) (by omega)]
      have ok := sp.choose_spec.choose_spec.2.2.2
      have p1 := put_in wr S A T K (j - 1) s 0 (100 - (j : Int)) j q ok (by omega) hK (by omega) Sw
      have sp2 := sp_put sp h1 hK
      rw [show j - 1 + 1 = j by omega] at sp2
      obtain ⟨s2, hs2⟩ : ∃ s2, putQ K s 0 ((100 : Int) - (j : Int), (j : Int)) = s2 := ⟨_, rfl⟩
      rw [hs2] at p1 sp2
      have SP2 : Aside (SpI T K j s2) := sp2
      clear ok sp sp2 q I hs2
      go_wp2_with fail
      refine p1.mono ?_
      rintro r w2 ⟨rfl, q2, wt2⟩
      have Q2 : Aside (Que w2 S A T K s2) := q2
      have B2 : Aside (Below S w w2) := B.out.trans wt2.low
      have Sw2 : S ≤ w2.heap.size := Nat.le_trans Sw wt2.size
      have ok2 := SP2.out.choose_spec.choose_spec.2.2.2
      obtain ⟨r0, hr0⟩ : ∃ r0, (j - 1) % (K + 1) = r0 := ⟨_, rfl⟩
      have r0l : r0 ≤ j - 1 := by rw [← hr0]; exact Nat.mod_le _ _
      obtain ⟨m0, hm0⟩ : ∃ m0, j - 1 - r0 = m0 := ⟨_, rfl⟩
      have e1 := sp_slots SP2.out h1 hj1
      have e2 := sp_local SP2.out h1
      have e3 := sp_shared SP2.out
      rw [hr0] at e2 e3
      rw [hm0] at e3
      have OK2 : Aside (QOk K T j s2) := ok2
      have SLT : Aside (∀ W, Below w2.heap.size w2 W → Calls Try.prog 9 #[ptr A.B] W (PivO W 1 (slAll s2.g T))) := fun W hW => qslots_any W S A T K s2 1 (Q2.out.below hW) e1
      have LOC : Aside (∀ W, Below w2.heap.size w2 W → Calls Try.prog 10 #[ptr A.B, .int .i64 0] W (PivO W r0 (sortE (s2.ls 0).flatten))) := fun W hW => qlocal_in W S A T K j s2 0 r0 (Q2.out.below hW) OK2.out hK (by omega) h8 e2
      have SHR : Aside (∀ W, Below w2.heap.size w2 W → Calls Try.prog 11 #[ptr A.B] W (PivO W m0 (sortE s2.hs.flatten))) := fun W hW => qshared_any W S A T K j s2 m0 (Q2.out.below hW) OK2.out (by omega) e3
      have hb0 : Below w2.heap.size w2 w2 := Below.refl _ _
      have hb1 : Below w2.heap.size w2 w2.drew := hb0.drew
      have wk : IntKind.i64.wrap ((K : Int) + 1) = (K : Int) + 1 := by rw [IntKind.wrap_i64]; omega
      have wj1 : IntKind.i64.wrap ((j : Int) - 1) = (j : Int) - 1 := by rw [IntKind.wrap_i64]; omega
      have rm : ((j : Int) - 1).tmod ((K : Int) + 1) = (r0 : Int) := by
        rw [show (j : Int) - 1 = ((j - 1 : Nat) : Int) by omega, show (K : Int) + 1 = ((K + 1 : Nat) : Int) by omega, Int.tmod_eq_emod_of_nonneg (by omega), ← hr0, Int.natCast_emod]
      have wr0 : IntKind.i64.wrap ((j : Int) - 1 - (r0 : Int)) = (m0 : Int) := by rw [IntKind.wrap_i64]; omega
      have wr1 : IntKind.i64.wrap ((r0 : Int)) = (r0 : Int) := by rw [IntKind.wrap_i64]; omega
      have kn : ¬ ((K : Int) + 1 = 0) := by omega
      have kn2 : (((K : Int) + 1) == 0) = false := by simp; omega
      have mx := mixed
      clear p1 q2 wt2 e1 e2 e3 ok2 hm0 hr0
      go_wp2_with fail
      go_region_held3 (fun _ => True) (exact trivial)
        ((first
          | (go_at_call 11; (with_reducible refine Calls.mono (SHR.out _ hb3) ?_); rintro r w5 ⟨x5, y5, rfl, o5, d5⟩; have hb4 : Below w2.heap.size w2 w5 := hb3.trans (d5.mono hb3.size))
          | (go_at_call 10; (with_reducible refine Calls.mono (LOC.out _ hb2) ?_); rintro r w4 ⟨x4, y4, rfl, o4, d4⟩; have hb3 : Below w2.heap.size w2 w4 := hb2.trans (d4.mono hb2.size))
          | (go_at_call 9; (with_reducible refine Calls.mono (SLT.out _ hb1) ?_); rintro r w3 ⟨x3, y3, rfl, o3, d3⟩; have hb2 : Below w2.heap.size w2 w3 := hb1.trans (d3.mono hb1.size))))
      have B5 : Aside (Below S w w5) := B2.out.trans (hb4.mono Sw2)
      have Q5 : Aside (Que w5 S A T K s2) := Q2.out.below hb4
      have wh := where_any w5 S A T K j s2 j Q5.out OK2.out (by omega) hK h1 h8
      rw [sp_where SP2.out h1 hj1] at wh
      clear hb0 hb1 hb2 hb3 hb4 o3 d3 o4 d4 o5 d5 SLT LOC SHR wr0 wr1 rm wj1 wk kn kn2
      go_wp2_with fail
      refine wh.mono ?_
      rintro r w6 ⟨rfl, d6⟩
      have B6 : Aside (Below S w w6) := B5.out.trans (d6.mono (by have := B5.out.size; have := HS.out; omega))
      have I6 : Aside (∃ s, Que w6 S A T K s ∧ SpI T K (j + 1 - 1) s) := ⟨s2, Q5.out.below d6, by rw [show j + 1 - 1 = j by omega]; exact SP2.out⟩
      clear wh d6
      go_wp2
      go_roundg (n + 1 - (j + 1))
      case measure => omega
      case rel => exact ⟨j + 1, by go_num, by omega, by omega, Nat.le_refl _, I6, B6⟩
    · have hz : ¬ (j : Int) ≤ (n : Int) := by omega
      have ej : j - 1 = n := by omega
      rw [ej] at sp
      have ok := sp.choose_spec.choose_spec.2.2.2
      have l1 := qlen_any wr S A T K n s q ok (by omega) hK h8
      rw [sp_len sp h1] at l1
      have Q : Aside (Que wr S A T K s) := q
      have SP : Aside (SpI T K n s) := sp
      have OK : Aside (QOk K T n s) := ok
      clear q sp ok I ej
      go_wp2_with fail
      refine l1.mono ?_
      rintro r w2 ⟨rfl, d2⟩
      have B2 : Aside (Below S w w2) := B.out.trans (d2.mono Sw)
      have Sw2 : S ≤ w2.heap.size := Nat.le_trans Sw d2.size
      have st := settle_in w2 S A T K n s 0 (decide (0 < n)) (Q.out.below d2) OK.out (by omega) hK (by omega) (sp_f SP.out h1) Sw2
      have e0 : decide ((0 : Int) < (n : Int)) = decide (0 < n) := by by_cases e : 0 < n <;> simp [e]
      clear l1 d2
      go_wp2_with fail
      refine st.mono ?_
      rintro r w3 ⟨rfl, q3, wt3⟩
      have ok3 := settle_ok OK.out (show 0 < T by omega) hK
      have B3 : Aside (Below S w w3) := B2.out.trans wt3.low
      have Sw3 : S ≤ w3.heap.size := Nat.le_trans Sw2 wt3.size
      have st2 := settle_no w3 S A T K (settleQ K s 0) 0 q3 (by omega) (settle_f K s 0)
      have Q3 : Aside (Que w3 S A T K (settleQ K s 0)) := q3
      have OK3 : Aside (QOk K T (n + 1) (settleQ K s 0)) := ok3
      clear st q3 wt3 ok3
      go_wp2_with fail
      refine st2.mono ?_
      rintro r w4 ⟨rfl, d4⟩
      have B4 : Aside (Below S w w4) := B3.out.trans (d4.mono Sw3)
      have Sw4 : S ≤ w4.heap.size := Nat.le_trans Sw3 d4.size
      have l2 := qlen_any w4 S A T K (n + 1) (settleQ K s 0) (Q3.out.below d4) OK3.out (by omega) hK h8
      rw [sp_len2 SP.out h1] at l2
      clear st2 d4
      go_wp2_with fail
      refine l2.mono ?_
      rintro r w5 ⟨rfl, d5⟩
      have B5 : Aside (Below S w w5) := B4.out.trans (d5.mono Sw4)
      have aw := qawake_any w5
      have Sw5 : S ≤ w5.heap.size := Nat.le_trans Sw4 d5.size
      clear l2 d5
      go_wp2_with fail
      refine aw.mono ?_
      rintro r w6 ⟨rfl, d6⟩
      have B6 : Aside (Below S w w6) := B5.out.trans (d6.mono Sw5)
      clear aw d6
      go_wp2
      go_ret
      exact ⟨rfl, by rw [HS.out]; exact B6.out⟩
end Go.Proofs.Ytdcacbjmbfppeaa
