/- The walk of 'WheelFar'. -/
import Derived.Test.YtbopobgnmkhabaaDoorWhY
import Derived.Test.YtbopobgnmkhabaaDoorRowAt
namespace Go.Proofs.YtbopobgnmkhabaaDoor
open Go.RowKit Go.Lib Go.Sort Go.WideMaps Go.Maps
set_option linter.unusedVariables false

/-- The timers: that of id 1, and others of ids up to n + 1. -/
def FarI (due n : Nat) (T : List Ent) : Prop := ((due : Int), (1 : Int)) ∈ T ∧ T.length = n + 1 ∧ ∀ x ∈ T, x.2 ≤ (n : Int) + 1
theorem far_none {due n : Nat} {T : List Ent} (h : FarI due n T) : dueOf T ((n : Int) + 2) = none := by
  cases e : dueOf T ((n : Int) + 2) with
  | none => rfl
  | some v => have := h.2.2 _ (dueOf_some e); simp only at this; omega
theorem far_add {due n : Nat} {T : List Ent} (h : FarI due n T) (hn : n < 900) (D : Nat) : addR T ((n : Int) + 2) = 0 ∧ FarI due (n + 1) (addT T ((n : Int) + 2) D) := by
  have e1 : addR T ((n : Int) + 2) = 0 := by
    unfold addR
    rw [if_neg (by omega), far_none h, if_neg (by simp), if_neg (by have := h.2.1; omega)]
  refine ⟨e1, ?_⟩
  unfold addT
  rw [if_pos e1]
  refine ⟨insL_mem.2 (.inr h.1), by rw [insL_len, h.2.1], fun x hx => ?_⟩
  rcases insL_mem.1 hx with rfl | hx
  · simp only; omega
  · have := h.2.2 x hx; omega
theorem far_first (due : Nat) : addR [] 1 = 0 ∧ FarI due 0 (addT [] 1 due) := by
  have e1 : addR [] 1 = 0 := by decide
  refine ⟨e1, ?_⟩
  have e2 : addT [] 1 due = [((due : Int), (1 : Int))] := rfl
  rw [e2]
  exact ⟨by simp, rfl, fun x hx => by simp at hx; subst hx; simp⟩

theorem wfI_of {i : Int} (h1 : -9223372036854775808 ≤ i) (h2 : i ≤ 9223372036854775807) : wfI i := by
  unfold wfI
  simp [Lit.wf, IntKind.min, IntKind.max, IntKind.bits, IntKind.signed]
  omega
/-- Is it among the first ones? -/
def fnd (due : Nat) (d : List Ent) (i : Nat) : Bool := (d.take i).any (fun x => x.2 == 1 && x.1 == (due : Int))
theorem fnd_next (due : Nat) {d : List Ent} {i : Nat} (hi : i < d.length) : fnd due d (i + 1) = (fnd due d i || (d[i].2 == 1 && d[i].1 == (due : Int))) := by
  unfold fnd
  rw [List.take_succ_eq_append_getElem hi, List.any_append]
  simp
set_option maxHeartbeats 8000000 in
set_option maxRecDepth 100000 in
theorem wheelFar_walk (dz : Int) (a1 : Option Addr) (len1 cap1 : Nat) (zs : List Int) (w : World) (wd : (Lit.int .u64 dz).wf = true) (h1 : IsRow .u64 w a1 len1 cap1 zs) (hN : TabW w ∧ 0 < w.heap.size) :
    Calls Tryd.prog 8 #[.int .u64 dz, .slice a1 len1 cap1] w fun r w' => r = .returned (.bool true) ∧ Below w.heap.size w w' := by
  obtain ⟨B, hB⟩ : ∃ B, w.heap.size + 1 = B := ⟨_, rfl⟩
  obtain ⟨base, hbs⟩ : ∃ base, w.heap.size = base := ⟨_, rfl⟩
  obtain ⟨due, rfl, hdue⟩ : ∃ d : Nat, dz = (d : Int) ∧ d < B64 := by
    simp [Lit.wf, IntKind.min, IntKind.max, IntKind.bits, IntKind.signed] at wd
    exact ⟨dz.toNat, by omega, by unfold B64; omega⟩
  have hl1 := h1.len_le
  have H1 : Aside (IsRow .u64 w a1 len1 cap1 zs) := h1
  have NEW : Aside (Calls Tryd.prog 9 #[.int .u64 0] w fun e w' => e = .returned (.pointer (some ⟨B, 0, none⟩)) ∧ ∃ F, Wst w w' F B base 0 []) := by
    refine Calls.mono (Wst.new 0 (by decide) (Below.refl w.heap.size w) hN.1 hN.2) ?_
    rintro e w' ⟨rfl, -, F, q⟩
    exact ⟨by rw [hB], F, by rw [hB, hbs] at q; exact q⟩
  have ADD1 : Aside (∀ w1 F, Wst w w1 F B base 0 [] → Calls Tryd.prog 10 #[.pointer (some ⟨B, 0, none⟩), .int .i64 1, .int .u64 due] w1 fun e w' => e = .returned (.int .i64 0) ∧ ∃ F T, Wst w w' F B base 0 T ∧ FarI due 0 T) := fun w1 F h => by
    refine Calls.mono (h.add (i := 1) (D := due) (by unfold wfI; decide) hdue) ?_
    rintro e w' ⟨rfl, F', q, -⟩
    exact ⟨rfl, F', _, q, (far_first due).2⟩
  have ADD : Aside (∀ w1 F T j D, Wst w w1 F B base 0 T → FarI due j T → j < 900 → D < B64 → Calls Tryd.prog 10 #[.pointer (some ⟨B, 0, none⟩), .int .i64 ((j : Int) + 2), .int .u64 (D : Int)] w1 fun e w' => e = .returned (.int .i64 0) ∧ ∃ F T, Wst w w' F B base 0 T ∧ FarI due (j + 1) T) := fun w1 F T j D h hf hj hD => by
    refine Calls.mono (h.add (i := (j : Int) + 2) (D := D) (wfI_of (by omega) (by omega)) hD) ?_
    rintro e w' ⟨rfl, F', q, -⟩
    exact ⟨by rw [(far_add hf hj D).1], F', _, q, (far_add hf hj D).2⟩
  have ADV1 : Aside (∀ w1 F T n, Wst w w1 F B base 0 T → FarI due n T → 0 < due → Calls Tryd.prog 11 #[.pointer (some ⟨B, 0, none⟩), .int .u64 ((due : Int) - 1)] w1 fun e w' => ∃ a L cap d, e = .returned (.slice a L cap) ∧ d.length = L ∧ L ≤ 1000 ∧ IsL w' a cap d ∧ (∀ x ∈ d, ¬ x.2 = 1) ∧ ∃ F now T, Wst w w' F B base now T ∧ ((due : Int), (1 : Int)) ∈ T ∧ now ≤ due) := fun w1 F T n h hf hp => by
    have e1 : ((due : Int) - 1) = ((due - 1 : Nat) : Int) := by omega
    rw [e1]
    refine Calls.mono (h.advance (tt := due - 1) (by omega)) ?_
    have e2 : max 0 (due - 1) = due - 1 := by omega
    rw [e2]
    rintro e w' ⟨a, cap, rfl, q, F', q2, -⟩
    refine ⟨a, _, cap, _, rfl, rfl, Nat.le_trans (List.length_filter_le _ _) h.whl.ok.len, q, fun x hx e => ?_, F', _, _, q2, mem_rest.2 ⟨hf.1, by show ((due - 1 : Nat) : Int) < (due : Int); omega⟩, by omega⟩
    obtain ⟨x1, x2⟩ := mem_due.1 hx
    have := ids_inj h.whl.ok.ids x1 hf.1 e
    rw [this] at x2
    simp only at x2
    omega
  have ADV2 : Aside (∀ w1, (∃ F now T, Wst w w1 F B base now T ∧ ((due : Int), (1 : Int)) ∈ T ∧ now ≤ due) → Calls Tryd.prog 11 #[.pointer (some ⟨B, 0, none⟩), .int .u64 (due : Int)] w1 fun e w' => ∃ a L cap d, e = .returned (.slice a L cap) ∧ d.length = L ∧ L ≤ 1000 ∧ IsL w' a cap d ∧ fnd due d L = true ∧ ∃ F now T, Wst w w' F B base now T ∧ dueOf T 1 = none) := fun w1 hf => by
    obtain ⟨F, now, T, h, hm, hnd⟩ := hf
    refine Calls.mono (h.advance (tt := due) hdue) ?_
    have e2 : max now due = due := by omega
    rw [e2]
    rintro e w' ⟨a, cap, rfl, q, F', q2, -⟩
    refine ⟨a, _, cap, _, rfl, rfl, Nat.le_trans (List.length_filter_le _ _) h.whl.ok.len, q, ?_, F', _, _, q2, ?_⟩
    · unfold fnd
      rw [List.take_length, List.any_eq_true]
      exact ⟨_, mem_due.2 ⟨hm, Int.le_refl _⟩, by simp⟩
    · cases e : dueOf (restL due T) 1 with
      | none => rfl
      | some v =>
        obtain ⟨x1, x2⟩ := mem_rest.1 (dueOf_some e)
        have := ids_inj h.whl.ok.ids x1 hm rfl
        injection this with t1 t2
        simp only at x2
        omega
  have DUE1 : Aside (∀ w1, (∃ F now T, Wst w w1 F B base now T ∧ dueOf T 1 = none) → Calls Tryd.prog 21 #[.pointer (some ⟨B, 0, none⟩), .int .i64 1] w1 fun e w' => e = .returned (.tuple #[.int .u64 0, .bool false]) ∧ w' = w1) := fun w1 hf => by
    obtain ⟨F, now, T, h, hm⟩ := hf
    refine Calls.mono (due_any h.whl (wfI_of (i := 1) (by decide) (by decide))) ?_
    rintro e w' ⟨rfl, rfl⟩
    exact ⟨by unfold dueV; rw [hm]; rfl, rfl⟩
  have AWK : Aside (∀ w1, (∃ F now T, Wst w w1 F B base now T ∧ dueOf T 1 = none) → Calls Tryd.prog 14 #[] w1 fun e w' => e = .returned (.bool true) ∧ Below w.heap.size w w') := fun w1 hf => by
    obtain ⟨F, now, T, h, hm⟩ := hf
    refine Calls.mono (awake_any w1 h.tabW (Nat.lt_of_lt_of_le h.pos h.bel.size)) ?_
    rintro e w' ⟨rfl, q⟩
    exact ⟨rfl, h.bel.trans (q.mono h.bel.size)⟩
  clear wd h1 hB hbs
  go_enter Tryd.func8, Tryd.ntmps8
  go_wp2_with (go_at_call 9; refine NEW.out.mono ?_; rintro e w1 ⟨rfl, F, K0⟩)
  refine (ADD1.out _ _ K0).mono ?_
  rintro e w2 ⟨rfl, F2, T, K1, K2⟩
  clear NEW ADD1 K0
  have I0 : Aside (∃ F T, Wst w w2 F B base 0 T ∧ FarI due 0 T) := ⟨_, _, K1, K2⟩
  clear K1 K2
  obtain ⟨n, hn⟩ : ∃ n, min len1 20 = n := ⟨_, rfl⟩
  have n20 : n ≤ 20 := by omega
  have nl : n ≤ len1 := by omega
  have nx : n < 20 → n = len1 := by omega
  have DU : Aside (due < B64) := hdue
  have hdb : due < 18446744073709551616 := hdue
  clear hn hdue
  go_wp2_with fail
  go_loopg [6] n (fun kx s6 wr => ∃ (i : Nat), s6 = .int .i64 i ∧ i ≤ n ∧ n - i ≤ kx ∧ Aside (∃ F T, Wst w wr F B base 0 T ∧ FarI due i T))
  case atStart => exact ⟨0, rfl, by omega, by omega, I0⟩
  case round =>
    clear I0
    obtain ⟨i, rfl, hi, hkx, I⟩ := hrel
    by_cases hlt : i < n
    · obtain ⟨F3, T3, q1, q2⟩ := I.out
      have hz : (i : Int) < (len1 : Int) := by omega
      have hz20 : (i : Int) < 20 := by omega
      obtain ⟨b, off, ha, hb, hc, hw⟩ := H1.out.at (show i < len1 by omega)
      subst ha
      obtain ⟨D, hD, hDb⟩ : ∃ d : Nat, zs.getD i 0 = (d : Int) ∧ d < B64 := by
        generalize zs.getD i 0 = z at hw
        simp [Lit.wf, IntKind.min, IntKind.max, IntKind.bits, IntKind.signed] at hw
        exact ⟨z.toNat, by omega, by unfold B64; omega⟩
      rw [hD] at hc
      have hc2 : wr.cell? ⟨b, off + i, none⟩ = some (.int .u64 (D : Int)) := (World.cell?_of_block (q1.bel.block b hb)).trans hc
      have AD : Aside (Calls Tryd.prog 10 #[.pointer (some ⟨B, 0, none⟩), .int .i64 ((i : Int) + 2), .int .u64 (D : Int)] wr fun e w' => e = .returned (.int .i64 0) ∧ ∃ F T, Wst w w' F B base 0 T ∧ FarI due (i + 1) T) := ADD.out _ _ _ _ _ q1 q2 (by omega) hDb
      clear q1 q2 hc hw hD hDb hb I hdb
      go_wp2_with (go_at_call 10; refine AD.out.mono ?_; rintro e w' ⟨rfl, G1⟩)
      have G2 : Aside (∃ F T, Wst w w' F B base 0 T ∧ FarI due (i + 1) T) := G1
      go_roundg (n - (i + 1))
      case measure => omega
      case rel => exact ⟨i + 1, by go_num, by omega, Nat.le_refl _, G2⟩
    · have e0 : i = n := by omega
      subst e0
      have hcase : ((i : Int) < (len1 : Int) ∧ ¬ (i : Int) < 20) ∨ ¬ (i : Int) < (len1 : Int) := by omega
      have IX : Aside (∃ F now T, Wst w wr F B base now T ∧ ((due : Int), (1 : Int)) ∈ T ∧ now ≤ due) := by
        obtain ⟨F3, T3, q1, q2⟩ := I.out
        exact ⟨F3, 0, T3, q1, q2.1, by omega⟩
      by_cases hd0 : 0 < due
      · have hd1 : (0 : Int) < (due : Int) := by omega
        have AV : Aside (Calls Tryd.prog 11 #[.pointer (some ⟨B, 0, none⟩), .int .u64 ((due : Int) - 1)] wr fun e w' => ∃ a L cap d, e = .returned (.slice a L cap) ∧ d.length = L ∧ L ≤ 1000 ∧ IsL w' a cap d ∧ (∀ x ∈ d, ¬ x.2 = 1) ∧ ∃ F now T, Wst w w' F B base now T ∧ ((due : Int), (1 : Int)) ∈ T ∧ now ≤ due) := by
          obtain ⟨F3, T3, q1, q2⟩ := I.out
          exact ADV1.out _ _ _ _ q1 q2 hd0
        clear I ADD ADV1 IX
        rcases hcase with ⟨hx, hx2⟩ | hx
        all_goals
          go_wp2_with fail
          refine AV.out.mono ?_
          rintro e w3 ⟨a3, L3, c3, d3, rfl, hL3, hL3m, is3, ne3, st3⟩
          have HL3 : Hid (d3.length = L3) := hL3
          have IS3 : Aside (IsL w3 a3 c3 d3) := is3
          have NE3 : Aside (∀ x ∈ d3, ¬ x.2 = 1) := ne3
          have IX : Aside (∃ F now T, Wst w w3 F B base now T ∧ ((due : Int), (1 : Int)) ∈ T ∧ now ≤ due) := st3
          clear hL3 is3 ne3 st3 AV
          go_wp2_with fail
          go_loopg [8] L3 (fun kx s8 wr => ∃ (j : Nat), s8 = .int .i64 j ∧ j ≤ L3 ∧ L3 - j ≤ kx ∧ wr = w3)
          case atStart => exact ⟨0, rfl, by omega, by omega, rfl⟩
          case round =>
            obtain ⟨j, rfl, hj, hkx, rfl⟩ := hrel
            by_cases hlt : j < L3
            · have hzj : (j : Int) < (L3 : Int) := by omega
              have hj3 : j < d3.length := by rw [HL3.out]; exact hlt
              obtain ⟨b, off, ha, hb, y1, y2⟩ := IS3.out.elem j d3[j] (List.getElem?_eq_getElem hj3)
              subst ha
              have hne := NE3.out _ (List.getElem_mem hj3)
              obtain ⟨xd, hxd⟩ : ∃ xd, d3[j].1 = xd := ⟨_, rfl⟩
              obtain ⟨xi, hxi⟩ : ∃ xi, d3[j].2 = xi := ⟨_, rfl⟩
              rw [hxd] at y1
              rw [hxi] at y2 hne
              clear hxd hxi hb
              go_wp2_with fail
              go_roundg (L3 - (j + 1))
              case measure => omega
              case rel => exact ⟨j + 1, by go_num, by omega, Nat.le_refl _, rfl⟩
            · have e0 : j = L3 := by omega
              subst e0
              have hzj : ¬ (j : Int) < (j : Int) := by omega
              go_wp2_with fail
              refine (ADV2.out _ IX.out).mono ?_
              rintro e w4 ⟨a4, L4, c4, d4, rfl, hL4, hL4m, is4, fn4, st4⟩
              have HL4 : Hid (d4.length = L4) := hL4
              have IS4 : Aside (IsL w4 a4 c4 d4) := is4
              have FN4 : Aside (fnd due d4 L4 = true) := fn4
              have ST4 : Aside (∃ F now T, Wst w w4 F B base now T ∧ dueOf T 1 = none) := st4
              clear hL4 is4 fn4 st4 IX ADV2
              go_wp2_with fail
              go_loopg [10, 11] L4 (fun kx s10 s11 wr => ∃ (j : Nat), s11 = .int .i64 j ∧ s10 = .bool (fnd due d4 j) ∧ j ≤ L4 ∧ L4 - j ≤ kx ∧ wr = w4)
              case atStart => exact ⟨0, rfl, rfl, by omega, by omega, rfl⟩
              case round =>
                obtain ⟨j, rfl, rfl, hj, hkx, rfl⟩ := hrel
                by_cases hlt : j < L4
                · have hzj : (j : Int) < (L4 : Int) := by omega
                  have hj4 : j < d4.length := by rw [HL4.out]; exact hlt
                  have fx := fnd_next due hj4
                  obtain ⟨b, off, ha, hb, y1, y2⟩ := IS4.out.elem j d4[j] (List.getElem?_eq_getElem hj4)
                  subst ha
                  obtain ⟨xd, hxd⟩ : ∃ xd, d4[j].1 = xd := ⟨_, rfl⟩
                  obtain ⟨xi, hxi⟩ : ∃ xi, d4[j].2 = xi := ⟨_, rfl⟩
                  rw [hxd] at y1
                  rw [hxi] at y2
                  rw [hxd, hxi] at fx
                  have FX : Hid (fnd due d4 (j + 1) = (fnd due d4 j || (xi == 1 && xd == (due : Int)))) := fx
                  clear fx hxd hxi hb
                  generalize fnd due d4 j = fb at FX
                  cases fb with
                  | true =>
                    go_wp2_with fail
                    go_roundg (L4 - (j + 1))
                    case measure => omega
                    case rel => exact ⟨j + 1, by go_num, by rw [FX.out]; rfl, by omega, Nat.le_refl _, rfl⟩
                  | false =>
                    by_cases hi1 : xi = 1
                    · by_cases hd1 : xd = (due : Int)
                      · go_wp2_with fail
                        go_roundg (L4 - (j + 1))
                        case measure => omega
                        case rel => exact ⟨j + 1, by go_num, by rw [FX.out, hi1, hd1]; simp, by omega, Nat.le_refl _, rfl⟩
                      · go_wp2_with fail
                        go_roundg (L4 - (j + 1))
                        case measure => omega
                        case rel => exact ⟨j + 1, by go_num, by rw [FX.out, hi1]; simp, by omega, Nat.le_refl _, rfl⟩
                    · go_wp2_with fail
                      go_roundg (L4 - (j + 1))
                      case measure => omega
                      case rel => exact ⟨j + 1, by go_num, by rw [FX.out]; simp [hi1], by omega, Nat.le_refl _, rfl⟩
                · have e0 : j = L4 := by omega
                  subst e0
                  rw [FN4.out]
                  go_wp2_with (first | (go_at_call 21; refine (DUE1.out _ ST4.out).mono ?_; rintro e w5 ⟨rfl, rfl⟩) | (go_at_call 14; refine (AWK.out _ ST4.out).mono ?_; rintro e w5 ⟨rfl, bel⟩))
                  go_ret
                  exact ⟨rfl, bel⟩
      · have hd1 : ¬ (0 : Int) < (due : Int) := by omega
        clear I
        rcases hcase with ⟨hx, hx2⟩ | hx
        all_goals
          go_wp2_with fail
          refine (ADV2.out _ IX.out).mono ?_
          rintro e w4 ⟨a4, L4, c4, d4, rfl, hL4, hL4m, is4, fn4, st4⟩
          have HL4 : Hid (d4.length = L4) := hL4
          have IS4 : Aside (IsL w4 a4 c4 d4) := is4
          have FN4 : Aside (fnd due d4 L4 = true) := fn4
          have ST4 : Aside (∃ F now T, Wst w w4 F B base now T ∧ dueOf T 1 = none) := st4
          clear hL4 is4 fn4 st4 IX ADV2
          go_wp2_with fail
          go_loopg [10, 11] L4 (fun kx s10 s11 wr => ∃ (j : Nat), s11 = .int .i64 j ∧ s10 = .bool (fnd due d4 j) ∧ j ≤ L4 ∧ L4 - j ≤ kx ∧ wr = w4)
          case atStart => exact ⟨0, rfl, rfl, by omega, by omega, rfl⟩
          case round =>
            obtain ⟨j, rfl, rfl, hj, hkx, rfl⟩ := hrel
            by_cases hlt : j < L4
            · have hzj : (j : Int) < (L4 : Int) := by omega
              have hj4 : j < d4.length := by rw [HL4.out]; exact hlt
              have fx := fnd_next due hj4
              obtain ⟨b, off, ha, hb, y1, y2⟩ := IS4.out.elem j d4[j] (List.getElem?_eq_getElem hj4)
              subst ha
              obtain ⟨xd, hxd⟩ : ∃ xd, d4[j].1 = xd := ⟨_, rfl⟩
              obtain ⟨xi, hxi⟩ : ∃ xi, d4[j].2 = xi := ⟨_, rfl⟩
              rw [hxd] at y1
              rw [hxi] at y2
              rw [hxd, hxi] at fx
              have FX : Hid (fnd due d4 (j + 1) = (fnd due d4 j || (xi == 1 && xd == (due : Int)))) := fx
              clear fx hxd hxi hb
              generalize fnd due d4 j = fb at FX
              cases fb with
              | true =>
                go_wp2_with fail
                go_roundg (L4 - (j + 1))
                case measure => omega
                case rel => exact ⟨j + 1, by go_num, by rw [FX.out]; rfl, by omega, Nat.le_refl _, rfl⟩
              | false =>
                by_cases hi1 : xi = 1
                · by_cases hd1 : xd = (due : Int)
                  · go_wp2_with fail
                    go_roundg (L4 - (j + 1))
                    case measure => omega
                    case rel => exact ⟨j + 1, by go_num, by rw [FX.out, hi1, hd1]; simp, by omega, Nat.le_refl _, rfl⟩
                  · go_wp2_with fail
                    go_roundg (L4 - (j + 1))
                    case measure => omega
                    case rel => exact ⟨j + 1, by go_num, by rw [FX.out, hi1]; simp, by omega, Nat.le_refl _, rfl⟩
                · go_wp2_with fail
                  go_roundg (L4 - (j + 1))
                  case measure => omega
                  case rel => exact ⟨j + 1, by go_num, by rw [FX.out]; simp [hi1], by omega, Nat.le_refl _, rfl⟩
            · have e0 : j = L4 := by omega
              subst e0
              rw [FN4.out]
              go_wp2_with (first | (go_at_call 21; refine (DUE1.out _ ST4.out).mono ?_; rintro e w5 ⟨rfl, rfl⟩) | (go_at_call 14; refine (AWK.out _ ST4.out).mono ?_; rintro e w5 ⟨rfl, bel⟩))
              go_ret
              exact ⟨rfl, bel⟩
end Go.Proofs.YtbopobgnmkhabaaDoor
