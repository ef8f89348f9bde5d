/- The walk of 'DagPlays'. -/
import Derived.Test.YthpdnlokjhafeaaDrB
import Derived.Test.YthpdnlokjhafeaaDrIn
import Derived.Deep.RegionHeld3
namespace Go.Proofs.Ythpdnlokjhafeaa
open Go.RowKit Go.Lib
set_option linter.unusedVariables false
set_option maxHeartbeats 16000000 in
set_option maxRecDepth 100000 in
theorem dagPlays_walk (a : Option Addr) (len cap : Nat) (O : Nat → OpR) (w : World) (h : IsOps w a len O) :
    Calls Try.prog 5 #[.slice a len cap] w fun r w' => r = .returned (.bool true) ∧ Below w.heap.size w w' := by
  have hl := h.len_le
  have HH : Aside (IsOps w a len O) := h
  clear h
  go_enter Try.func5, Try.ntmps5
  go_wp2_with fail
  refine (newG w).mono ?_
  rintro e w1 ⟨B, X, rfl, D, low, b1⟩
  obtain ⟨F, hF⟩ : ∃ F, w1.heap.size = F := ⟨_, rfl⟩
  obtain ⟨w2, hw2⟩ : ∃ w2, w1.alloc (.cells #[.slice none 0 0] 37) = w2 := ⟨_, rfl⟩
  have L0 : Aside (∃ u Z, Like w u w2 Z B (fun _ _ => False) 0 F 0) := by
    rw [← hw2, ← hF]
    exact Like.start D low b1
  have HW2 : Hid _ := hw2
  clear D low b1 hw2
  go_wp2_with fail
  rw [HW2.out]
  clear hF HW2
  go_loopw [5] (fun s5 wr => ∃ (j N n : Nat) (E : Rel), s5 = .int .i64 j ∧ j ≤ 50 ∧ N ≤ 50 * j ∧ n ≤ j ∧ Aside (∃ u Z, Like w u wr Z B E N F n)) (fun i _ => 50 - (intOf i).toNat)
  case atStart => exact ⟨0, 0, 0, fun _ _ => False, rfl, by omega, by omega, by omega, L0⟩
  case round =>
    clear L0
    obtain ⟨j, N, n, E, rfl, hj, hN, hn, L⟩ := hrel
    obtain ⟨ub, Zb, L0⟩ := L.out
    by_cases hgo : j < len ∧ j < 50
    · have l1 : (j : Int) < (len : Int) := by omega
      have l2 : (j : Int) < 50 := by omega
      have hj50 : j < 50 := hgo.2
      obtain ⟨b, off, ha, hbl, hc0, hc1, hc2, wi, qi⟩ := HH.out.elem j hgo.1
      subst ha
      have bel := Half.bel L0
      replace hc0 := (bel.cell (p := ⟨b, off + j * 3, none⟩) hbl).trans hc0
      replace hc1 := (bel.cell (p := ⟨b, off + j * 3 + 1, none⟩) hbl).trans hc1
      replace hc2 := (bel.cell (p := ⟨b, off + j * 3 + 2, none⟩) hbl).trans hc2
      generalize (O j).kind = K at hc0
      generalize (O j).id = i at hc1 wi
      generalize (O j).p = pa at hc2 qi
      generalize (O j).c = pc at hc2 qi
      generalize (O j).ps = d at hc2 qi
      have ml := qi.len
      obtain ⟨m, hd⟩ : ∃ m, d.length = m := ⟨_, rfl⟩
      rw [hd] at hc2 ml
      have WI : Aside (wfI i) := wi
      have QI : Aside (IsI w pa pc d) := qi
      have N3 : N ≤ 3000 := by omega
      have hn6 : n ≤ 60 := by omega
      obtain ⟨Z, L1, hZ⟩ := L0.round (.cells #[.int .i64 K, .int .i64 i, .slice pa m pc] 39)
      obtain ⟨u, hu⟩ : ∃ u, wr.alloc (.cells #[.int .i64 K, .int .i64 i, .slice pa m pc] 39) = u := ⟨_, rfl⟩
      obtain ⟨S, hS⟩ : ∃ S, wr.heap.size = S := ⟨_, rfl⟩
      have o0 : u.cell? ⟨S, 0, none⟩ = some (.int .i64 K) := by rw [← hu, ← hS]; simp
      have o1 : u.cell? ⟨S, 1, none⟩ = some (.int .i64 i) := by rw [← hu, ← hS]; simp
      have o2 : u.cell? ⟨S, 2, none⟩ = some (.slice pa m pc) := by rw [← hu, ← hS]; simp
      have hSu : S < u.heap.size := by rw [← hu, ← hS]; simp
      rw [hu] at L1
      rw [hS] at hZ
      have LU : Aside (Like w u u Z B E N F n) := L1
      have BX : Aside (∀ v E1 N1 E2 n1, Half w u v Z B E1 N1 F E2 n1 → v.cell? ⟨S, 1, none⟩ = some (.int .i64 i) ∧ v.cell? ⟨S, 2, none⟩ = some (.slice pa m pc) ∧ S < v.heap.size) := fun v E1 N1 E2 n1 hv => ⟨(hv.cell (p := ⟨S, 1, none⟩) hSu hZ).trans o1, (hv.cell (p := ⟨S, 2, none⟩) hSu hZ).trans o2, by
        obtain ⟨X, Y, R, _, D⟩ := hv
        have := D.fr.size
        omega⟩
      have HU : Hid _ := hu
      clear L0 L1 hZ hSu L wi qi hu hbl hgo bel
      go_upto_region 9 with fail
      rw [HU.out]
      clear HU hS hc0 hc1 hc2
      by_cases c50 : m ≤ 50
      · by_cases K0 : K = 0
        · subst K0
          obtain ⟨r, ec, E1, AA0, AR0⟩ := LU.out.add N3 hn6 WI.out (d := d) (by rw [hd]; exact c50) QI.out
          rw [hd] at AA0 AR0
          have AA : Aside (Calls Try.prog 9 #[.pointer (some ⟨B, 0, none⟩), .int .i64 i, .slice pa m pc] u fun x w' => x = .returned (.tuple #[.int .i64 (r : Nat), .int .i64 (ec : Nat)]) ∧ Half w u w' Z B E1 (N + 50) F E n) := AA0
          have AR : Aside (∀ v, Half w u v Z B E1 (N + 50) F E n → Calls Try.prog 15 #[.pointer (some ⟨F, 0, none⟩), .int .i64 i, .slice pa m pc] v fun x w' => x = .returned (.tuple #[.int .i64 (r : Nat), .int .i64 (ec : Nat)]) ∧ Like w u w' Z B E1 (N + 50) F (n + 1)) := AR0
          clear AA0 AR0
          go_wp2_with fail
          refine AA.out.mono ?_
          rintro e v1 ⟨rfl, H1⟩
          have k1 := BX.out _ _ _ _ _ H1
          have k11 := k1.1
          have k12 := k1.2.1
          have AR1 : Aside _ := AR.out v1 H1
          clear AA AR H1 k1 o0 o1 o2
          go_wp2_with fail
          refine Calls.mono AR1.out ?_
          rintro e v2 ⟨rfl, L2⟩
          clear AR1 k11 k12
          obtain ⟨N1, hN1, eN⟩ : ∃ N1, N1 ≤ 50 * (j + 1) ∧ N + 50 = N1 := ⟨_, by omega, rfl⟩
          obtain ⟨n1, hn1, en⟩ : ∃ n1, n1 ≤ j + 1 ∧ n + 1 = n1 := ⟨_, by omega, rfl⟩
          have LT : Aside (Like w u v2 Z B E1 N1 F n1) := by rw [← eN, ← en]; exact L2
          clear L2 LU eN en
          replace N3 : N1 ≤ 3000 := by omega
          have n6 : n1 ≤ 60 := by omega
          clear hN hn

          go_wp2_with fail
          go_loopw [11] (fun s11 wr => ∃ t : Nat, s11 = .int .i64 t ∧ t ≤ 14 ∧ Aside (Like w u wr Z B E1 N1 F n1)) (fun i _ => 14 - (intOf i).toNat)
          case atStart => exact ⟨0, rfl, by omega, LT⟩
          case round =>
            clear LT
            obtain ⟨t, rfl, ht, LT⟩ := hrel
            by_cases ct : t < 14
            · have wt : wfI (t : Int) := wfI_of (by omega) (by omega)
              have W1 : Aside _ := LT.out.waits N3 wt
              have NB : Aside (∀ v, Like w u v Z B E1 N1 F n1 → Calls Try.prog 20 #[.pointer (some ⟨B, 0, none⟩), .int .i64 t] v fun x w' => ∃ a m c, x = .returned (.slice a m c) ∧ HalfV w u w' Z B E1 N1 F E1 n1 (fun j => E1 t j) a m c) := fun v hv => hv.behind N3 wt
              clear LT wt
              go_wp2_with fail
              refine Calls.mono W1.out ?_
              rintro e v1 ⟨a1, m1, c1, rfl, H1, _⟩
              clear W1
              go_wp2_with fail
              refine (H1.waits n6).mono ?_
              rintro e v2 ⟨a2, c2, rfl, T2, L2, rfl⟩
              clear H1
              have L2 : Aside _ := L2
              go_wp2_with fail
              refine T2.same.mono ?_
              rintro e v3 ⟨rfl, b3⟩
              have NB3 : Aside _ := NB.out v3 (L2.out.below b3)
              clear T2 L2 b3 NB
              go_wp2_with fail
              refine Calls.mono NB3.out ?_
              rintro e v4 ⟨a4, m4, c4, rfl, H4⟩
              clear NB3
              go_wp2_with fail
              refine (H4.behind n6).mono ?_
              rintro e v5 ⟨a5, c5, rfl, T5, L5⟩
              clear H4
              have L5 : Aside _ := L5
              go_wp2_with fail
              refine T5.same.mono ?_
              rintro e v6 ⟨rfl, b6⟩
              have L6 : Aside (Like w u v6 Z B E1 N1 F n1) := L5.out.below b6
              clear T5 L5 b6
              go_wp2_with fail
              go_roundw
              case rel => exact ⟨t + 1, by go_num, by omega, L6⟩
              case measure => simp [intOf]; omega
            · obtain rfl : t = 14 := by omega
              have LD : Like w u wr.drew Z B E1 N1 F n1 := LT.out.below ((Below.refl _ _).drew)
              obtain ⟨m, ra, rc, hm, CF, LN⟩ := LD.len
              have kB := BX.out _ _ _ _ _ LD
              have KS : Aside (∀ v, Below wr.drew.heap.size wr.drew v → v.cell? ⟨S, 1, none⟩ = some (.int .i64 i) ∧ v.cell? ⟨F, 0, none⟩ = some (.slice ra m rc)) := fun v hv => ⟨by rw [← kB.1]; exact hv.cell (p := ⟨S, 1, none⟩) kB.2.2, CF v hv⟩
              have LEN : Aside (Calls Try.prog 12 #[.pointer (some ⟨B, 0, none⟩)] wr.drew fun x w' => x = .returned (.int .i64 (m : Nat)) ∧ w' = wr.drew) := LN wr.drew (Below.refl _ _)
              have WT : Aside (Calls Try.prog 18 #[.pointer (some ⟨B, 0, none⟩), .int .i64 i] wr.drew fun x w' => ∃ a m c, x = .returned (.slice a m c) ∧ HalfV w u w' Z B E1 N1 F E1 n1 (fun p => E1 p i) a m c ∧ Below wr.drew.heap.size wr.drew w') := LD.waits N3 WI.out
              have k0 := KS.out wr.drew (Below.refl _ _)
              have mb : m ≤ 60 := by omega
              clear LD CF LN kB LT hm
              go_upto_region 27 with fail
              go_region_held3 (fun v => v.cell? ⟨S, 1, none⟩ = some (.int .i64 i) ∧ v.cell? ⟨F, 0, none⟩ = some (.slice ra m rc)) (first | with_reducible exact k0 | with_reducible exact k1 | with_reducible exact k3)
                ((first
                  | (go_at_call 11; (with_reducible refine Calls.mono T2.same ?_); rintro e v3 ⟨rfl, b3⟩; have k3 := KS.out v3 (b1.trans (b3.mono b1.size)))
                  | (go_at_call 19; (with_reducible refine Calls.mono (H1.waits n6) ?_); rintro e v2 ⟨a2, c2, rfl, T2, L2, rfl⟩)
                  | (go_at_call 18; (with_reducible refine Calls.mono WT.out ?_); rintro e v1 ⟨a1, m1, c1, rfl, H1, b1⟩; have k1 := KS.out v1 b1)
                  | (go_at_call 12; (with_reducible refine Calls.mono LEN.out ?_); rintro e v0 ⟨rfl, rfl⟩)))
              have L9 : Aside (∃ u Z, Like w u v3 Z B E1 N1 F n1) := ⟨_, _, L2.below b3⟩
              clear WT LEN KS k0 k1 k3 T2 L2 H1 b1 b3
              go_wp2_with fail
              go_roundw
              case rel => exact ⟨j + 1, N1, n1, E1, by go_num, by omega, hN1, hn1, L9⟩
              case measure => simp [intOf]; omega
        · have f0 : (K == 0) = false := by simpa using K0
          by_cases K1 : K = 1
          · subst K1
            have ORD := LU.out.ord
            have LD : Like w u u.drew Z B E N F n := LU.out.below ((Below.refl _ _).drew)
            obtain ⟨E1, hE1⟩ : ∃ E1 : Rel, (fun q j => E q j ∧ q ≠ i) = E1 := ⟨_, rfl⟩
            obtain ⟨P1, hP1⟩ : ∃ P1 : Int → Prop, (fun j => E i j ∧ ∀ q, E q j → q = i) = P1 := ⟨_, rfl⟩
            have AA : Aside (Calls Try.prog 10 #[.pointer (some ⟨B, 0, none⟩), .int .i64 i] u.drew fun x w' => ∃ a m c, x = .returned (.slice a m c) ∧ HalfV w u w' Z B E1 N F E n P1 a m c) := by
              rw [← hE1, ← hP1]
              exact LD.done N3 WI.out
            have AR : Aside (∀ v a m c, HalfV w u v Z B E1 N F E n P1 a m c → Calls Try.prog 16 #[.pointer (some ⟨F, 0, none⟩), .int .i64 i] v fun x w' => ∃ a2 c2, x = .returned (.slice a2 m c2) ∧ Two w' a c a2 c2 m ∧ Like w u w' Z B E1 N F n) := fun v a m c hv => by
              rw [← hE1, ← hP1] at hv
              rw [← hE1]
              exact hv.done hn6
            have k0 : u.drew.cell? ⟨S, 1, none⟩ = some (.int .i64 i) := o1
            clear LD hE1 hP1 ORD
            go_upto_region 20 with fail
            go_region_held3 (fun v => v.cell? ⟨S, 1, none⟩ = some (.int .i64 i)) (first | with_reducible exact k0 | with_reducible exact k1 | with_reducible exact k2 | with_reducible exact k3)
              ((first
                | (go_at_call 11; (with_reducible refine Calls.mono T2.same ?_); rintro e v3 ⟨rfl, b3⟩; have L3 := L2.below b3; have k3 := (BX.out _ _ _ _ _ L3).1)
                | (go_at_call 16; (with_reducible refine Calls.mono (AR.out _ _ _ _ H1) ?_); rintro e v2 ⟨a2, c2, rfl, T2, L2⟩; have k2 := (BX.out _ _ _ _ _ L2).1)
                | (go_at_call 10; (with_reducible refine Calls.mono AA.out ?_); rintro e v1 ⟨a1, m1, c1, rfl, H1⟩; have k1 := (BX.out _ _ _ _ _ H1.half).1)))
            obtain ⟨N1, hN1, eN⟩ : ∃ N1, N1 ≤ 50 * (j + 1) ∧ N = N1 := ⟨_, by omega, rfl⟩
            obtain ⟨n1, hn1, en⟩ : ∃ n1, n1 ≤ j + 1 ∧ n = n1 := ⟨_, by omega, rfl⟩
            have LT : Aside (Like w u v3 Z B E1 N1 F n1) := by rw [← eN, ← en]; exact L3
            clear AA AR k0 k1 k2 k3 H1 T2 L2 L3 b3 LU eN en
            replace N3 : N1 ≤ 3000 := by omega
            have n6 : n1 ≤ 60 := by omega
            clear hN hn

            go_wp2_with fail
            go_loopw [11] (fun s11 wr => ∃ t : Nat, s11 = .int .i64 t ∧ t ≤ 14 ∧ Aside (Like w u wr Z B E1 N1 F n1)) (fun i _ => 14 - (intOf i).toNat)
            case atStart => exact ⟨0, rfl, by omega, LT⟩
            case round =>
              clear LT
              obtain ⟨t, rfl, ht, LT⟩ := hrel
              by_cases ct : t < 14
              · have wt : wfI (t : Int) := wfI_of (by omega) (by omega)
                have W1 : Aside _ := LT.out.waits N3 wt
                have NB : Aside (∀ v, Like w u v Z B E1 N1 F n1 → Calls Try.prog 20 #[.pointer (some ⟨B, 0, none⟩), .int .i64 t] v fun x w' => ∃ a m c, x = .returned (.slice a m c) ∧ HalfV w u w' Z B E1 N1 F E1 n1 (fun j => E1 t j) a m c) := fun v hv => hv.behind N3 wt
                clear LT wt
                go_wp2_with fail
                refine Calls.mono W1.out ?_
                rintro e v1 ⟨a1, m1, c1, rfl, H1, _⟩
                clear W1
                go_wp2_with fail
                refine (H1.waits n6).mono ?_
                rintro e v2 ⟨a2, c2, rfl, T2, L2, rfl⟩
                clear H1
                have L2 : Aside _ := L2
                go_wp2_with fail
                refine T2.same.mono ?_
                rintro e v3 ⟨rfl, b3⟩
                have NB3 : Aside _ := NB.out v3 (L2.out.below b3)
                clear T2 L2 b3 NB
                go_wp2_with fail
                refine Calls.mono NB3.out ?_
                rintro e v4 ⟨a4, m4, c4, rfl, H4⟩
                clear NB3
                go_wp2_with fail
                refine (H4.behind n6).mono ?_
                rintro e v5 ⟨a5, c5, rfl, T5, L5⟩
                clear H4
                have L5 : Aside _ := L5
                go_wp2_with fail
                refine T5.same.mono ?_
                rintro e v6 ⟨rfl, b6⟩
                have L6 : Aside (Like w u v6 Z B E1 N1 F n1) := L5.out.below b6
                clear T5 L5 b6
                go_wp2_with fail
                go_roundw
                case rel => exact ⟨t + 1, by go_num, by omega, L6⟩
                case measure => simp [intOf]; omega
              · obtain rfl : t = 14 := by omega
                have LD : Like w u wr.drew Z B E1 N1 F n1 := LT.out.below ((Below.refl _ _).drew)
                obtain ⟨m, ra, rc, hm, CF, LN⟩ := LD.len
                have kB := BX.out _ _ _ _ _ LD
                have KS : Aside (∀ v, Below wr.drew.heap.size wr.drew v → v.cell? ⟨S, 1, none⟩ = some (.int .i64 i) ∧ v.cell? ⟨F, 0, none⟩ = some (.slice ra m rc)) := fun v hv => ⟨by rw [← kB.1]; exact hv.cell (p := ⟨S, 1, none⟩) kB.2.2, CF v hv⟩
                have LEN : Aside (Calls Try.prog 12 #[.pointer (some ⟨B, 0, none⟩)] wr.drew fun x w' => x = .returned (.int .i64 (m : Nat)) ∧ w' = wr.drew) := LN wr.drew (Below.refl _ _)
                have WT : Aside (Calls Try.prog 18 #[.pointer (some ⟨B, 0, none⟩), .int .i64 i] wr.drew fun x w' => ∃ a m c, x = .returned (.slice a m c) ∧ HalfV w u w' Z B E1 N1 F E1 n1 (fun p => E1 p i) a m c ∧ Below wr.drew.heap.size wr.drew w') := LD.waits N3 WI.out
                have k0 := KS.out wr.drew (Below.refl _ _)
                have mb : m ≤ 60 := by omega
                clear LD CF LN kB LT hm
                go_upto_region 27 with fail
                go_region_held3 (fun v => v.cell? ⟨S, 1, none⟩ = some (.int .i64 i) ∧ v.cell? ⟨F, 0, none⟩ = some (.slice ra m rc)) (first | with_reducible exact k0 | with_reducible exact k1 | with_reducible exact k3)
                  ((first
                    | (go_at_call 11; (with_reducible refine Calls.mono T2.same ?_); rintro e v3 ⟨rfl, b3⟩; have k3 := KS.out v3 (b1.trans (b3.mono b1.size)))
                    | (go_at_call 19; (with_reducible refine Calls.mono (H1.waits n6) ?_); rintro e v2 ⟨a2, c2, rfl, T2, L2, rfl⟩)
                    | (go_at_call 18; (with_reducible refine Calls.mono WT.out ?_); rintro e v1 ⟨a1, m1, c1, rfl, H1, b1⟩; have k1 := KS.out v1 b1)
                    | (go_at_call 12; (with_reducible refine Calls.mono LEN.out ?_); rintro e v0 ⟨rfl, rfl⟩)))
                have L9 : Aside (∃ u Z, Like w u v3 Z B E1 N1 F n1) := ⟨_, _, L2.below b3⟩
                clear WT LEN KS k0 k1 k3 T2 L2 H1 b1 b3
                go_wp2_with fail
                go_roundw
                case rel => exact ⟨j + 1, N1, n1, E1, by go_num, by omega, hN1, hn1, L9⟩
                case measure => simp [intOf]; omega
          · have f1 : (K == 1) = false := by simpa using K1
            have ORD := LU.out.ord
            have LD : Like w u u.drew Z B E N F n := LU.out.below ((Below.refl _ _).drew)
            obtain ⟨E1, hE1⟩ : ∃ E1 : Rel, (fun q j => E q j ∧ j ≠ i ∧ ¬ Rch E i j) = E1 := ⟨_, rfl⟩
            obtain ⟨P1, hP1⟩ : ∃ P1 : Int → Prop, (fun j => Rch E i j) = P1 := ⟨_, rfl⟩
            have AA : Aside (Calls Try.prog 14 #[.pointer (some ⟨B, 0, none⟩), .int .i64 i] u.drew fun x w' => ∃ a m c, x = .returned (.slice a m c) ∧ HalfV w u w' Z B E1 N F E n P1 a m c) := by
              rw [← hE1, ← hP1]
              exact LD.kill N3 WI.out
            have AR : Aside (∀ v a m c, HalfV w u v Z B E1 N F E n P1 a m c → Calls Try.prog 17 #[.pointer (some ⟨F, 0, none⟩), .int .i64 i] v fun x w' => ∃ a2 c2, x = .returned (.slice a2 m c2) ∧ Two w' a c a2 c2 m ∧ Like w u w' Z B E1 N F n) := fun v a m c hv => by
              rw [← hE1, ← hP1] at hv
              rw [← hE1]
              exact hv.kill hn6 ORD
            have k0 : u.drew.cell? ⟨S, 1, none⟩ = some (.int .i64 i) := o1
            clear LD hE1 hP1 ORD
            go_upto_region 12 with fail
            go_region_held3 (fun v => v.cell? ⟨S, 1, none⟩ = some (.int .i64 i)) (first | with_reducible exact k0 | with_reducible exact k1 | with_reducible exact k2 | with_reducible exact k3)
              ((first
                | (go_at_call 11; (with_reducible refine Calls.mono T2.same ?_); rintro e v3 ⟨rfl, b3⟩; have L3 := L2.below b3; have k3 := (BX.out _ _ _ _ _ L3).1)
                | (go_at_call 17; (with_reducible refine Calls.mono (AR.out _ _ _ _ H1) ?_); rintro e v2 ⟨a2, c2, rfl, T2, L2⟩; have k2 := (BX.out _ _ _ _ _ L2).1)
                | (go_at_call 14; (with_reducible refine Calls.mono AA.out ?_); rintro e v1 ⟨a1, m1, c1, rfl, H1⟩; have k1 := (BX.out _ _ _ _ _ H1.half).1)))
            obtain ⟨N1, hN1, eN⟩ : ∃ N1, N1 ≤ 50 * (j + 1) ∧ N = N1 := ⟨_, by omega, rfl⟩
            obtain ⟨n1, hn1, en⟩ : ∃ n1, n1 ≤ j + 1 ∧ n = n1 := ⟨_, by omega, rfl⟩
            have LT : Aside (Like w u v3 Z B E1 N1 F n1) := by rw [← eN, ← en]; exact L3
            clear AA AR k0 k1 k2 k3 H1 T2 L2 L3 b3 LU eN en
            replace N3 : N1 ≤ 3000 := by omega
            have n6 : n1 ≤ 60 := by omega
            clear hN hn

            go_wp2_with fail
            go_loopw [11] (fun s11 wr => ∃ t : Nat, s11 = .int .i64 t ∧ t ≤ 14 ∧ Aside (Like w u wr Z B E1 N1 F n1)) (fun i _ => 14 - (intOf i).toNat)
            case atStart => exact ⟨0, rfl, by omega, LT⟩
            case round =>
              clear LT
              obtain ⟨t, rfl, ht, LT⟩ := hrel
              by_cases ct : t < 14
              · have wt : wfI (t : Int) := wfI_of (by omega) (by omega)
                have W1 : Aside _ := LT.out.waits N3 wt
                have NB : Aside (∀ v, Like w u v Z B E1 N1 F n1 → Calls Try.prog 20 #[.pointer (some ⟨B, 0, none⟩), .int .i64 t] v fun x w' => ∃ a m c, x = .returned (.slice a m c) ∧ HalfV w u w' Z B E1 N1 F E1 n1 (fun j => E1 t j) a m c) := fun v hv => hv.behind N3 wt
                clear LT wt
                go_wp2_with fail
                refine Calls.mono W1.out ?_
                rintro e v1 ⟨a1, m1, c1, rfl, H1, _⟩
                clear W1
                go_wp2_with fail
                refine (H1.waits n6).mono ?_
                rintro e v2 ⟨a2, c2, rfl, T2, L2, rfl⟩
                clear H1
                have L2 : Aside _ := L2
                go_wp2_with fail
                refine T2.same.mono ?_
                rintro e v3 ⟨rfl, b3⟩
                have NB3 : Aside _ := NB.out v3 (L2.out.below b3)
                clear T2 L2 b3 NB
                go_wp2_with fail
                refine Calls.mono NB3.out ?_
                rintro e v4 ⟨a4, m4, c4, rfl, H4⟩
                clear NB3
                go_wp2_with fail
                refine (H4.behind n6).mono ?_
                rintro e v5 ⟨a5, c5, rfl, T5, L5⟩
                clear H4
                have L5 : Aside _ := L5
                go_wp2_with fail
                refine T5.same.mono ?_
                rintro e v6 ⟨rfl, b6⟩
                have L6 : Aside (Like w u v6 Z B E1 N1 F n1) := L5.out.below b6
                clear T5 L5 b6
                go_wp2_with fail
                go_roundw
                case rel => exact ⟨t + 1, by go_num, by omega, L6⟩
                case measure => simp [intOf]; omega
              · obtain rfl : t = 14 := by omega
                have LD : Like w u wr.drew Z B E1 N1 F n1 := LT.out.below ((Below.refl _ _).drew)
                obtain ⟨m, ra, rc, hm, CF, LN⟩ := LD.len
                have kB := BX.out _ _ _ _ _ LD
                have KS : Aside (∀ v, Below wr.drew.heap.size wr.drew v → v.cell? ⟨S, 1, none⟩ = some (.int .i64 i) ∧ v.cell? ⟨F, 0, none⟩ = some (.slice ra m rc)) := fun v hv => ⟨by rw [← kB.1]; exact hv.cell (p := ⟨S, 1, none⟩) kB.2.2, CF v hv⟩
                have LEN : Aside (Calls Try.prog 12 #[.pointer (some ⟨B, 0, none⟩)] wr.drew fun x w' => x = .returned (.int .i64 (m : Nat)) ∧ w' = wr.drew) := LN wr.drew (Below.refl _ _)
                have WT : Aside (Calls Try.prog 18 #[.pointer (some ⟨B, 0, none⟩), .int .i64 i] wr.drew fun x w' => ∃ a m c, x = .returned (.slice a m c) ∧ HalfV w u w' Z B E1 N1 F E1 n1 (fun p => E1 p i) a m c ∧ Below wr.drew.heap.size wr.drew w') := LD.waits N3 WI.out
                have k0 := KS.out wr.drew (Below.refl _ _)
                have mb : m ≤ 60 := by omega
                clear LD CF LN kB LT hm
                go_upto_region 27 with fail
                go_region_held3 (fun v => v.cell? ⟨S, 1, none⟩ = some (.int .i64 i) ∧ v.cell? ⟨F, 0, none⟩ = some (.slice ra m rc)) (first | with_reducible exact k0 | with_reducible exact k1 | with_reducible exact k3)
                  ((first
                    | (go_at_call 11; (with_reducible refine Calls.mono T2.same ?_); rintro e v3 ⟨rfl, b3⟩; have k3 := KS.out v3 (b1.trans (b3.mono b1.size)))
                    | (go_at_call 19; (with_reducible refine Calls.mono (H1.waits n6) ?_); rintro e v2 ⟨a2, c2, rfl, T2, L2, rfl⟩)
                    | (go_at_call 18; (with_reducible refine Calls.mono WT.out ?_); rintro e v1 ⟨a1, m1, c1, rfl, H1, b1⟩; have k1 := KS.out v1 b1)
                    | (go_at_call 12; (with_reducible refine Calls.mono LEN.out ?_); rintro e v0 ⟨rfl, rfl⟩)))
                have L9 : Aside (∃ u Z, Like w u v3 Z B E1 N1 F n1) := ⟨_, _, L2.below b3⟩
                clear WT LEN KS k0 k1 k3 T2 L2 H1 b1 b3
                go_wp2_with fail
                go_roundw
                case rel => exact ⟨j + 1, N1, n1, E1, by go_num, by omega, hN1, hn1, L9⟩
                case measure => simp [intOf]; omega
      · have c51 : (m : Int) > 50 := by omega
        have AW : Aside (Calls Try.prog 13 #[] u fun e w' => e = .returned (.bool true) ∧ Below w.heap.size w w') := LU.out.awake
        clear LU BX
        go_wp2_with fail
        refine AW.out.mono ?_
        rintro e w9 ⟨rfl, bel⟩
        go_wp2_with fail
        go_ret
        exact ⟨rfl, bel⟩
    · have hcase : ((j : Int) < (len : Int) ∧ ¬ (j : Int) < 50) ∨ ¬ (j : Int) < (len : Int) := by omega
      have AW : Aside (Calls Try.prog 13 #[] wr fun e w' => e = .returned (.bool true) ∧ Below w.heap.size w w') := L0.awake
      clear L L0 hgo hj
      rcases hcase with ⟨y1, y2⟩ | y1
      all_goals
        go_wp2_with fail
        refine AW.out.mono ?_
        rintro e w9 ⟨rfl, bel⟩
        go_wp2_with fail
        go_ret
        exact ⟨rfl, bel⟩
end Go.Proofs.Ythpdnlokjhafeaa
