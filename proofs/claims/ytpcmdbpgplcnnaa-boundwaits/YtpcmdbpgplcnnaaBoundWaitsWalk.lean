/- The walk of 'BoundWaits'. -/
import Derived.Test.YtpcmdbpgplcnnaaBnZ
import Derived.Test.YtpcmdbpgplcnnaaBnXw
import Derived.Shelf.Abstract
namespace Go.Proofs.Ytpcmdbpgplcnnaa
open Go.RowKit Go.Lib Go.WideMaps Go.Maps
set_option linter.unusedVariables false
set_option maxRecDepth 10000

theorem rels_len (i n : Nat) : (relsL i n).length = 2 * n := by
  induction n with
  | zero => rfl
  | succ n ih => show (relsL i n ++ _).length = _; rw [List.length_append, ih]; show 2 * n + 2 = _; omega
theorem cls_len (a n : Nat) : (clsL a n).length ≤ n := by
  induction n with
  | zero => exact Nat.le_refl _
  | succ n ih =>
    show (clsL a n ++ _).length ≤ _
    rw [List.length_append]
    split
    · rw [List.length_nil]; omega
    · rw [List.length_singleton]; omega
theorem wait1_len (a : Nat) : (wait1 a).length = 2 * a + 2 := by unfold wait1; rw [List.length_append, rels_len]; rfl
theorem wait2_len (a b : Nat) : (wait2 a b).length = 2 * a + 2 * b + 2 := by unfold wait2; rw [List.length_append, wait1_len, rels_len]; omega
theorem fit_rels {i n : Nat} (h : i + n ≤ 1000) : ∀ x ∈ relsL i n, x.fits := by
  induction n with
  | zero => intro x hx; cases hx
  | succ n ih =>
    intro x hx
    rcases List.mem_append.1 hx with hx | hx
    · exact ih (by omega) x hx
    · rcases List.mem_cons.1 hx with rfl | hx
      · exact fit_mk (by omega)
      · rcases List.mem_cons.1 hx with rfl | hx
        · exact fit_rel _ (by omega)
        · cases hx
theorem fit_cl {i y c : Nat} (h : i ≤ 1000) : EvR.fits ⟨3, 0, (i : Int), y, c, 0⟩ := ⟨wfI_of (by show _ ≤ (i : Int); omega) (by show (i : Int) ≤ _; omega), wfI_of (by show _ ≤ (0 : Int); decide) (by show (0 : Int) ≤ _; decide)⟩
theorem fit_cls {a n : Nat} (h : n ≤ 1000) : ∀ x ∈ clsL a n, x.fits := by
  induction n with
  | zero => intro x hx; cases hx
  | succ n ih =>
    intro x hx
    rcases List.mem_append.1 hx with hx | hx
    · exact ih (by omega) x hx
    · split at hx
      · cases hx
      · rcases List.mem_cons.1 hx with rfl | hx
        · exact fit_cl (by omega)
        · cases hx
theorem fit_wait {a b : Nat} (ha : a ≤ 20) (hb : b ≤ 20) : ∀ x ∈ waitL a b, x.fits := by
  intro x hx
  simp only [waitL, wait2, wait1, List.mem_append, List.mem_cons, List.not_mem_nil, or_false] at hx
  rcases hx with (((h | (rfl | rfl)) | h) | h) | rfl
  · exact fit_rels (by omega) x h
  · exact fit_mk (by omega)
  · exact fit_rel _ (by omega)
  · exact fit_rels (by omega) x h
  · exact fit_cls (by omega) x h
  · exact fit_cl (by omega)
theorem wait_at (a b : Nat) : (waitL a b)[2 * a + 1]? = some (relE ((a + 1 : Nat) : Int) 900) := by
  have e : ∀ r : List EvR, (relsL 1 a ++ (mkE ((a + 1 : Nat) : Int) :: relE ((a + 1 : Nat) : Int) 900 :: r))[2 * a + 1]? = some (relE ((a + 1 : Nat) : Int) 900) := fun r => by
    rw [List.getElem?_append_right (by rw [rels_len]; omega), rels_len, show 2 * a + 1 - 2 * a = 1 by omega]
    rfl
  have h : waitL a b = relsL 1 a ++ (mkE ((a + 1 : Nat) : Int) :: relE ((a + 1 : Nat) : Int) 900 :: ((relsL (a + 2) b ++ clsL a (a + b + 1)) ++ [⟨3, 0, ((a + 1 : Nat) : Int), 900, 0, 0⟩])) := by
    unfold waitL wait2 wait1
    simp [List.append_assoc]
  rw [h]
  exact e _
/-- A row of the law's own, two more at its end, in so many words. -/
theorem own_two {w : World} {X : Nat} {v : Value} {d : List EvR} (o : OwnG rE w X v d) (hX : X ≤ w.heap.size) (hd : d.length < 100000) (m : Int) (y : Nat) : ∃ v' w', (Builtin.append_ #[22, 22] 22 #[v, .slice (some ⟨w.heap.size, 0, none⟩) 2 2]).run Try.prog (w.alloc (.cells #[.int .i64 1, .int .i64 (-1), .int .i64 m, .int .u64 0, .int .u64 0, .int .u64 0, .int .i64 2, .int .i64 0, .int .i64 m, .int .u64 y, .int .u64 0, .int .u64 0] 25)) = .ok v' w' ∧
    OwnG rE w' X v' (d ++ [mkE m, relE m y]) ∧ Below X w w' := o.pushs (mkE m) (relE m y) (by omega) hX 22
theorem own_one {w : World} {X : Nat} {v : Value} {d : List EvR} (o : OwnG rE w X v d) (hX : X ≤ w.heap.size) (hd : d.length < 100000) (e : EvR) : ∃ v' w', (Builtin.append_ #[22, 22] 22 #[v, .slice (some ⟨w.heap.size, 0, none⟩) 1 1]).run Try.prog (w.alloc (.cells #[.int .i64 e.k, .int .i64 e.t, .int .i64 e.i, .int .u64 e.y, .int .u64 e.c, .int .u64 e.n] 25)) = .ok v' w' ∧
    OwnG rE w' X v' (d ++ [e]) ∧ Below X w w' := o.push e (by omega) hX 22
/-- What stands while the law makes its row. -/
def WSt (w w' : World) (X : Nat) (v : Value) (d : List EvR) : Prop := OwnG rE w' X v d ∧ Below X w w' ∧ X ≤ w'.heap.size
theorem WSt.on {w w1 w2 : World} {X : Nat} {v v' : Value} {d e : List EvR} (h : WSt w w1 X v d) (o : OwnG rE w2 X v' e) (b : Below X w1 w2) : WSt w w2 X v' e := ⟨o, h.2.1.trans b, by have := b.size; have := h.2.2; omega⟩
theorem zero_any (id : Int) (W : World) : Calls Try.prog 13 #[.int .i64 id] W fun e w' => e = .returned (.int .i64 0) ∧ Below W.heap.size W w' := by
  go_enter Try.func13, Try.ntmps13
  go_wp2
  go_ret
  exact ⟨rfl, Below.refl _ _⟩
set_option maxHeartbeats 8000000 in
set_option maxRecDepth 100000 in
theorem boundWaits_walk (x y : Int) (w : World) (wx : (Lit.int .i64 x).wf = true) (wy : (Lit.int .i64 y).wf = true) :
    Calls Try.prog 4 #[.int .i64 x, .int .i64 y] w fun e w' => e = .returned (.bool true) ∧ Below w.heap.size w w' := by
  clear wx wy
  obtain ⟨P, hP, P0, P1⟩ : ∃ Q, bits .and .i64 x 255 = Q ∧ 0 ≤ Q ∧ Q < 256 := ⟨_, mask_i64 x 8 255 256 (by omega) rfl rfl, by omega, by omega⟩
  obtain ⟨Q, hQ, Q0, Q1⟩ : ∃ Q, bits .and .i64 y 255 = Q ∧ 0 ≤ Q ∧ Q < 256 := ⟨_, mask_i64 y 8 255 256 (by omega) rfl rfl, by omega, by omega⟩
  obtain ⟨A, hA, hA2⟩ : ∃ A : Nat, P.tmod 20 = (A : Int) ∧ A < 20 := by
    rw [Int.tmod_eq_emod_of_nonneg P0]
    exact ⟨(P % 20).toNat, by omega, by omega⟩
  obtain ⟨B, hB, hB2⟩ : ∃ A : Nat, Q.tmod 20 = (A : Int) ∧ A < 20 := by
    rw [Int.tmod_eq_emod_of_nonneg Q0]
    exact ⟨(Q % 20).toNat, by omega, by omega⟩
  clear P0 P1 Q0 Q1
  obtain ⟨X, hX⟩ : ∃ X, w.heap.size = X := ⟨_, rfl⟩
  have HX : Aside _ := hX
  have S0 : Aside (WSt w w X (.slice none 0 0) []) := ⟨OwnG.nil _ _ _, by rw [← hX]; exact Below.refl _ _, by omega⟩
  clear hX
  go_enter Try.func4, Try.ntmps4
  go_wp2_with fail
  go_loopg [5, 6] A (fun kx s5 s6 wr => ∃ (I : Nat) (v : Value), v = s5 ∧ s6 = .int .i64 ((I + 1 : Nat) : Int) ∧ I ≤ A ∧ A - I ≤ kx ∧ Aside (WSt w wr X v (relsL 1 I)))
  case atStart => exact ⟨0, _, rfl, rfl, by omega, by omega, S0⟩
  case round =>
    clear S0
    obtain ⟨I, v, rfl, rfl, hI, hkx, SI⟩ := hrel
    by_cases hlt : I < A
    · have hz : ((I + 1 : Nat) : Int) ≤ (A : Int) := by omega
      have hi : ((I + 1 : Nat) : Int) ≤ 20 := by omega
      have hi0 : (0 : Int) ≤ ((I + 1 : Nat) : Int) := by omega
      obtain ⟨v2, w2, hr2, o2, b2⟩ := own_two SI.out.1 SI.out.2.2 (by rw [rels_len]; omega) ((I + 1 : Nat) : Int) 0
      have S2 : Aside (WSt w w2 X v2 (relsL 1 (I + 1))) := by
        have e : relsL 1 I ++ [mkE ((I + 1 : Nat) : Int), relE ((I + 1 : Nat) : Int) 0] = relsL 1 (I + 1) := by
          show _ = relsL 1 I ++ [mkE ((1 + I : Nat) : Int), relE ((1 + I : Nat) : Int) 0]
          rw [Nat.add_comm 1 I]
        rw [e] at o2
        exact SI.out.on o2 b2
      obtain ⟨q, hq⟩ : ∃ q : Int, ((I + 1 : Nat) : Int) = q := ⟨_, rfl⟩
      rw [hq] at hz hi hi0 hr2
      have e1 : IntKind.i64.wrap (q + 1) = ((I + 1 + 1 : Nat) : Int) := by rw [IntKind.wrap_i64]; omega
      have HQ : Aside _ := hq
      rw [hq]
      clear o2 b2 SI hq
      go_wp2_with (at_builtin; refine wpList_app _ rfl _ _ 22 rfl _ _ rfl rfl v2 w2 hr2 ?_; clear hr2)
      go_roundg (A - (I + 1))
      case measure => omega
      case rel => exact ⟨I + 1, v2, rfl, rfl, by omega, Nat.le_refl _, S2⟩
    · have hz : ¬ ((I + 1 : Nat) : Int) ≤ (A : Int) := by omega
      have e0 : I = A := by omega
      subst e0
      obtain ⟨a1, k1, rfl, G1⟩ := SI.out.1.isG
      have k1l := G1.le
      have LN : ((relsL 1 I).length : Int) = 2 * (I : Int) := by rw [rels_len]; omega
      have wl : IntKind.i64.wrap (((relsL 1 I).length : Int) + 1) = ((2 * I + 1 : Nat) : Int) := by rw [IntKind.wrap_i64]; omega
      have wa : IntKind.i64.wrap ((I : Int) + 1) = ((I + 1 : Nat) : Int) := by rw [IntKind.wrap_i64]; omega
      obtain ⟨v2, w2, hr2, o2, b2⟩ := own_two SI.out.1 SI.out.2.2 (by rw [rels_len]; omega) ((I + 1 : Nat) : Int) 900
      have S2 : Aside (WSt w w2 X v2 (wait2 I 0)) := by
        have e : wait2 I 0 = relsL 1 I ++ [mkE ((I + 1 : Nat) : Int), relE ((I + 1 : Nat) : Int) 900] := List.append_nil _
        rw [e]
        exact SI.out.on o2 b2
      obtain ⟨l1, hl1⟩ : ∃ l, (relsL 1 I).length = l := ⟨_, rfl⟩
      rw [hl1] at hr2 wl LN ⊢
      clear o2 b2 SI G1 k1l LN hl1
      go_upto_region 9 with (at_builtin; refine wpList_app _ rfl _ _ 22 rfl _ _ rfl rfl v2 w2 hr2 ?_; clear hr2)
      go_wp2_with fail
      go_loopg [5, 8] B (fun kx s5 s8 wr => ∃ (J : Nat) (v : Value), v = s5 ∧ s8 = .int .i64 ((J + 1 : Nat) : Int) ∧ J ≤ B ∧ B - J ≤ kx ∧ Aside (WSt w wr X v (wait2 I J)))
      case atStart => exact ⟨0, _, rfl, rfl, by omega, by omega, S2⟩
      case round =>
        clear S2
        obtain ⟨J, v, rfl, rfl, hJ, hkx, SJ⟩ := hrel
        by_cases hlt : J < B
        · have hz : ((J + 1 : Nat) : Int) ≤ (B : Int) := by omega
          obtain ⟨r, hr⟩ : ∃ q : Int, ((I + 2 + J : Nat) : Int) = q := ⟨_, rfl⟩
          obtain ⟨v2, w2, hr2, o2, b2⟩ := own_two SJ.out.1 SJ.out.2.2 (by rw [wait2_len]; omega) r 0
          have S2 : Aside (WSt w w2 X v2 (wait2 I (J + 1))) := by
            have e : wait2 I J ++ [mkE r, relE r 0] = wait2 I (J + 1) := by
              rw [← hr]
              show (wait1 I ++ relsL (I + 2) J) ++ _ = wait1 I ++ (relsL (I + 2) J ++ [mkE ((I + 2 + J : Nat) : Int), relE ((I + 2 + J : Nat) : Int) 0])
              rw [List.append_assoc]
            rw [e] at o2
            exact SJ.out.on o2 b2
          obtain ⟨q, hq⟩ : ∃ q : Int, ((J + 1 : Nat) : Int) = q := ⟨_, rfl⟩
          have e1 : IntKind.i64.wrap (q + 1) = ((J + 1 + 1 : Nat) : Int) := by rw [IntKind.wrap_i64]; omega
          have e2 : IntKind.i64.wrap ((I : Int) + 1 + q) = r := by rw [IntKind.wrap_i64]; omega
          rw [hq] at hz
          have HQ : Aside _ := hq
          rw [hq]
          clear o2 b2 SJ hq hr
          go_wp2_with (at_builtin; refine wpList_app _ rfl _ _ 22 rfl _ _ rfl rfl v2 w2 hr2 ?_; clear hr2)
          go_roundg (B - (J + 1))
          case measure => omega
          case rel => exact ⟨J + 1, v2, rfl, rfl, by omega, Nat.le_refl _, S2⟩
        · have hz : ¬ ((J + 1 : Nat) : Int) ≤ (B : Int) := by omega
          have e0 : J = B := by omega
          subst e0
          have SJ : Aside (WSt w wr X v (wait2 I J ++ clsL I 0)) := by
            show WSt _ _ _ _ (wait2 I J ++ [])
            rw [List.append_nil]
            exact SJ.out
          go_wp2_with fail
          go_loopg [5, 9] (I + J + 1) (fun kx s5 s9 wr => ∃ (K : Nat) (v : Value), v = s5 ∧ s9 = .int .i64 ((K + 1 : Nat) : Int) ∧ K ≤ I + J + 1 ∧ I + J + 1 - K ≤ kx ∧ Aside (WSt w wr X v (wait2 I J ++ clsL I K)))
          case atStart => exact ⟨0, _, rfl, rfl, by omega, by omega, SJ⟩
          case round =>
            clear SJ
            obtain ⟨K, v, rfl, rfl, hK, hkx, SK⟩ := hrel
            have wab : IntKind.i64.wrap ((I : Int) + (J : Int)) = (I : Int) + (J : Int) := by rw [IntKind.wrap_i64]; omega
            have wab1 : IntKind.i64.wrap ((I : Int) + (J : Int) + 1) = (I : Int) + (J : Int) + 1 := by rw [IntKind.wrap_i64]; omega
            have LK : (wait2 I J ++ clsL I K).length ≤ 2 * I + 2 * J + 2 + K := by
              have := cls_len I K
              rw [List.length_append, wait2_len]; omega
            by_cases hlt : K < I + J + 1
            · obtain ⟨q, hq⟩ : ∃ q : Int, ((K + 1 : Nat) : Int) = q := ⟨_, rfl⟩
              have hz : q ≤ (I : Int) + (J : Int) + 1 := by omega
              have e1 : IntKind.i64.wrap (q + 1) = ((K + 1 + 1 : Nat) : Int) := by rw [IntKind.wrap_i64]; omega
              by_cases hs : K = I
              · have hne : q = (I : Int) + 1 := by omega
                have S2 : Aside (WSt w wr X v (wait2 I J ++ clsL I (K + 1))) := by
                  show WSt _ _ _ _ (wait2 I J ++ (clsL I K ++ (if K + 1 = I + 1 then [] else _)))
                  rw [if_pos (by omega), List.append_nil]
                  exact SK.out
                have HQ : Aside _ := hq
                rw [hq]
                clear SK hq LK
                go_wp2_with fail
                go_roundg (I + J + 1 - (K + 1))
                case measure => omega
                case rel => exact ⟨K + 1, v, rfl, by subst hs; rfl, by omega, Nat.le_refl _, S2⟩
              · have hne : ¬ q = (I : Int) + 1 := by omega
                have e2 : IntKind.u64.wrap q = ((K + 1 : Nat) : Int) := by rw [IntKind.wrap_u64]; omega
                obtain ⟨v2, w2, hr2, o2, b2⟩ := own_one SK.out.1 SK.out.2.2 (by omega) (clE (K + 1) 0)
                have hr2 : (Builtin.append_ #[22, 22] 22 #[v, .slice (some ⟨wr.heap.size, 0, none⟩) 1 1]).run Try.prog (wr.alloc (.cells #[.int .i64 3, .int .i64 0, .int .i64 q, .int .u64 0, .int .u64 ((K + 1 : Nat) : Int), .int .u64 0] 25)) = .ok v2 w2 := by
                  rw [← hq]; exact hr2
                have S2 : Aside (WSt w w2 X v2 (wait2 I J ++ clsL I (K + 1))) := by
                  have e : wait2 I J ++ clsL I K ++ [clE (K + 1) 0] = wait2 I J ++ clsL I (K + 1) := by
                    show _ = wait2 I J ++ (clsL I K ++ (if K + 1 = I + 1 then [] else [clE (K + 1) 0]))
                    rw [if_neg (by omega), List.append_assoc]
                  rw [e] at o2
                  exact SK.out.on o2 b2
                have HQ : Aside _ := hq
                rw [hq]
                obtain ⟨p, hp⟩ : ∃ p : Int, ((K + 1 : Nat) : Int) = p := ⟨_, rfl⟩
                rw [hp] at e2 hr2
                have HP : Aside _ := hp
                clear o2 b2 SK hq LK hp
                go_wp2_with (at_builtin; refine wpList_app _ rfl _ _ 22 rfl _ _ rfl rfl v2 w2 hr2 ?_; clear hr2)
                go_roundg (I + J + 1 - (K + 1))
                case measure => omega
                case rel => exact ⟨K + 1, v2, rfl, rfl, by omega, Nat.le_refl _, S2⟩
            · have e0 : K = I + J + 1 := by omega
              obtain ⟨q, hq⟩ : ∃ q : Int, ((K + 1 : Nat) : Int) = q := ⟨_, rfl⟩
              have hz : ¬ q ≤ (I : Int) + (J : Int) + 1 := by omega
              obtain ⟨v2, w2, hr2, o2, b2⟩ := own_one SK.out.1 SK.out.2.2 (by omega) ⟨3, 0, ((I + 1 : Nat) : Int), 900, 0, 0⟩
              dsimp only at hr2
              have S2 : Aside (WSt w w2 X v2 (waitL I J)) := by
                have e : wait2 I J ++ clsL I K ++ [⟨3, 0, ((I + 1 : Nat) : Int), 900, 0, 0⟩] = waitL I J := by rw [e0]; rfl
                rw [e] at o2
                exact SK.out.on o2 b2
              rw [hq]
              clear o2 b2 SK
              go_upto_region 19 with (at_builtin; refine wpList_app _ rfl _ _ 22 rfl _ _ rfl rfl v2 w2 hr2 ?_; clear hr2)
              obtain ⟨a8, k8, rfl, G8⟩ := S2.out.1.isG
              have B8 : Aside (Below X w w2) := S2.out.2.1
              have RO := wait_ok I J hA2 hB2
              have fits : ∀ x ∈ waitL I J, x.fits := fit_wait (by omega) (by omega)
              have e3 := wait_at I J
              have lL : (waitL I J).length ≤ 1000 := by
                unfold waitL
                rw [List.length_append, ← e0]
                have e : ([⟨3, 0, ((I + 1 : Nat) : Int), 900, 0, 0⟩] : List EvR).length = 1 := rfl
                omega
              unfold waitOk at RO
              simp only [Bool.and_eq_true, decide_eq_true_eq, beq_iff_eq] at RO
              obtain ⟨r1, r2, r3⟩ := RO
              obtain ⟨d, hd⟩ : ∃ d, waitL I J = d := ⟨_, rfl⟩
              rw [hd] at G8 fits e3 r1 r2 r3 lL
              rw [hd]
              have dl : d.length ≤ 10000 := by omega
              obtain ⟨Y, hY⟩ : ∃ Y, w2.heap.size = Y := ⟨_, rfl⟩
              obtain ⟨w8, hw8⟩ : ∃ u, w2.alloc (.cells #[.int .i64 1, .int .i64 0, .int .i64 1] 32) = u := ⟨_, rfl⟩
              have b8 : Below w2.heap.size w2 w8 := by rw [← hw8]; exact bel1 _ _
              have c8 : w8.cell? ⟨Y, 0, none⟩ = some (.int .i64 1) ∧ w8.cell? ⟨Y, 1, none⟩ = some (.int .i64 0) ∧ w8.cell? ⟨Y, 2, none⟩ = some (.int .i64 1) := by
                rw [← hw8, ← hY]
                refine ⟨?_, ?_, ?_⟩ <;> rw [cell_fresh] <;> rfl
              have l8 : Y < w8.heap.size := by rw [← hw8, alloc_sz]; omega
              have G9 := G8.below b8
              have BB : Aside (Below X w w8) := B8.out.trans (b8.mono S2.out.2.2)
              have CK : Aside (∀ V, Below w8.heap.size w8 V → V.cell? ⟨Y, 0, none⟩ = some (.int .i64 1) ∧ V.cell? ⟨Y, 1, none⟩ = some (.int .i64 0) ∧ V.cell? ⟨Y, 2, none⟩ = some (.int .i64 1)) := fun V h => ⟨(h.cell (p := ⟨Y, 0, none⟩) l8).trans c8.1, (h.cell (p := ⟨Y, 1, none⟩) l8).trans c8.2.1, (h.cell (p := ⟨Y, 2, none⟩) l8).trans c8.2.2⟩
              have PA : Aside (∀ V, Below w8.heap.size w8 V → Calls Try.prog 9 #[.slice a8 d.length k8, .int .i64 (2 * (I : Int) + 1)] V fun r w' => r = .returned (.int .i64 J) ∧ Below V.heap.size V w') := fun V h => by
                have := waitedF_yes (G9.below h) dl fits e3 rfl
                rw [r1] at this
                exact this
              have PB : Aside (∀ V, Below w8.heap.size w8 V → Calls Try.prog 11 #[.slice a8 d.length k8] V fun r w' => r = .returned (.int .i64 ((I : Int) + (J : Int))) ∧ Below V.heap.size V w') := fun V h => by
                have := behind_any (G9.below h) dl fits
                rw [r2] at this
                exact this
              have PC : Aside (∀ V, Below w8.heap.size w8 V → Calls Try.prog 12 #[.agg #[.int .i64 1, .int .i64 0, .int .i64 1], .slice a8 d.length k8, .func (.func 13) #[] #[]] V fun r w' => r = .returned (.bool (decide (J ≤ 3))) ∧ Below V.heap.size V w') := fun V h => by
                have := beta_any (G9.below h) dl fits 1 0 1 0 13 #[] (fun args w => Go.Proofs.enters_of Try.func13 (by kernel_rfl) rfl args w) (fun id W => zero_any id W)
                rw [show betaN 0 1 1 = 3 by decide, r3] at this
                exact this
              have HY : Aside _ := hY
              have HW8 : Aside _ := hw8
              clear hY hw8 b8 l8 G8 G9 fits e3 r1 r2 r3 hd S2
              obtain ⟨c80, c81, c82⟩ := c8
              go_upto_region 20 with fail
              rw [HW8.out, HY.out]
              clear c80 c81 c82
              go_wp2_with fail
              refine (PA.out w8 (Below.refl _ _)).mono ?_
              rintro r w9 ⟨rfl, b9⟩
              have B9 : Aside (Below w8.heap.size w8 w9) := b9
              clear b9
              go_wp2_with fail
              refine (PB.out w9 B9.out).mono ?_
              rintro r w10 ⟨rfl, b10⟩
              have B10 : Aside (Below w8.heap.size w8 w10) := Below.tr B9.out b10
              clear b10
              obtain ⟨c80, c81, c82⟩ := CK.out w10 B10.out
              go_wp2_with fail
              refine (PC.out w10 B10.out).mono ?_
              rintro r w12 ⟨rfl, b12⟩
              have B12 : Aside (Below w8.heap.size w8 w12) := Below.tr B10.out b12
              clear c80 c81 c82 b12
              by_cases h3 : J ≤ 3
              · rw [decide_eq_true h3]
                have h3' : (J : Int) ≤ 3 := by omega
                go_wp2_with fail
                refine (awake_any w12).mono ?_
                rintro r w13 ⟨rfl, b13⟩
                have B13 : Aside (Below w8.heap.size w8 w13) := Below.tr B12.out b13
                clear b13
                go_wp2_with fail
                go_ret
                exact ⟨rfl, by rw [HX.out]; exact BB.out.trans (B13.out.mono (by have := BB.out.size; have := HX.out; omega))⟩
              · rw [decide_eq_false h3]
                have h3' : ¬ (J : Int) ≤ 3 := by omega
                go_wp2_with fail
                refine (awake_any w12).mono ?_
                rintro r w13 ⟨rfl, b13⟩
                have B13 : Aside (Below w8.heap.size w8 w13) := Below.tr B12.out b13
                clear b13
                go_wp2_with fail
                go_ret
                exact ⟨by simp [h3'], by rw [HX.out]; exact BB.out.trans (B13.out.mono (by have := BB.out.size; have := HX.out; omega))⟩
end Go.Proofs.Ytpcmdbpgplcnnaa
