/- The walk of 'GridTells'. -/
import Derived.Test.YtgclepkjeepanaaGrW
import Derived.Test.YtgclepkjeepanaaGrR
import Derived.WalkSmall
import Derived.Deep.QuietTactic
import Derived.BigQuiet
import Derived.Deep.CutBlock
import Derived.Deep.DeepCutAuto
import Derived.Deep.RegionHeld3
namespace Go.Proofs.Ytgclepkjeepanaa
open Go.RowKit
set_option linter.unusedVariables false

/-- Both Afters answer alike. -/
theorem after_both (f p d r m n : Int) (hf : IsT f) (hp : IsT p) (hd : IsT d) (hn : IsT n) : ∃ (D R M : Int) (o : Bool),
    (∀ w, Calls Try.prog 9 #[.agg #[.int .u64 f, .int .u64 p, .int .u64 d, .int .u64 r, .int .u64 m], .int .u64 n] w fun e w' => e = .returned (.tuple #[.agg #[.int .u64 f, .int .u64 p, .int .u64 D, .int .u64 R, .int .u64 M], .bool o]) ∧ Below w.heap.size w w') ∧
    ∀ w, Calls Try.prog 11 #[.agg #[.int .u64 f, .int .u64 p, .int .u64 d, .int .u64 r, .int .u64 m], .int .u64 n] w fun e w' => e = .returned (.tuple #[.agg #[.int .u64 f, .int .u64 p, .int .u64 D, .int .u64 R, .int .u64 M], .bool o]) ∧ Below w.heap.size w w' := by
  by_cases h : okJ f p d = true
  · exact ⟨_, _, _, _, fun w => after_yes f p d r m n w hf hp hd hn h, fun w => refAfter_yes f p d r m n w hf hp hd hn h⟩
  · have h' : okJ f p d = false := by simpa using h
    exact ⟨d, r, m, false, fun w => after_no f p d r m n w hf hp hd h', fun w => refAfter_no f p d r m n w hf hp hd h'⟩
/-- What New answers. -/
theorem new_both (f p : Int) : ∃ (x y e : Int), ((p = 0 ∧ x = 0 ∧ y = 0 ∧ e = 1) ∨ (p ≠ 0 ∧ x = f ∧ y = p ∧ e = 0)) ∧
    ∀ w, Calls Try.prog 7 #[.int .u64 f, .int .u64 p] w fun r w' => r = .returned (.tuple #[.agg #[.int .u64 x, .int .u64 y, .int .u64 x, .int .u64 0, .int .u64 0], .int .i64 e]) ∧ Below w.heap.size w w' := by
  by_cases h : p = 0
  · subst h
    exact ⟨0, 0, 1, .inl ⟨rfl, rfl, rfl, rfl⟩, fun w => new_no f w⟩
  · exact ⟨f, p, 0, .inr ⟨h, rfl, rfl, rfl⟩, fun w => new_any f p h w⟩
set_option maxHeartbeats 4000000 in
set_option maxRecDepth 100000 in
theorem gridTells_walk (f p d r m fi pe n k : Int) (w : World) (hf : IsT f) (hp : IsT p) (hd : IsT d) (w1 : (Lit.int .u64 fi).wf = true) (w2 : (Lit.int .u64 pe).wf = true) (w3 : (Lit.int .u64 n).wf = true) (w4 : (Lit.int .i64 k).wf = true) :
    Calls Try.prog 5 #[.agg #[.int .u64 f, .int .u64 p, .int .u64 d, .int .u64 r, .int .u64 m], .int .u64 fi, .int .u64 pe, .int .u64 n, .int .i64 k] w fun e w' => e = .returned (.bool true) ∧ Below w.heap.size w w' := by
  have hn : IsT n := bounds_u64 w3
  have hpe := bounds_u64 w2
  obtain ⟨k1, k2⟩ := bounds_i64 w4
  obtain ⟨x, y, e0, hx, nw⟩ := new_both fi pe
  obtain ⟨D, R, M, o, ca, cb⟩ := after_both f p d r m n hf hp hd hn
  have l1 := fun w => ahead_any f p d r m n k w hf hp hn k1 k2
  have l2 := fun w => refAhead_any f p d r m n k w hf hp hn k1 k2
  have o1 := fun w => ok_any f p d r m w hf hp hd
  have o2 := fun w => jobOk_any f p d r m w hf hp hd
  unfold AheadIs at l1 l2
  generalize okJ f p d = ok at *
  obtain ⟨K, hK⟩ : ∃ K, aN f p n k = K := ⟨_, rfl⟩
  have K1 : K ≤ 100 := by have := (aN_is hf hp hn k).1; omega
  simp only [hK] at l1 l2
  obtain ⟨g, hg⟩ : ∃ g : Nat → Int, (fun j => gI f p n (j + 1)) = g := ⟨_, rfl⟩
  simp only [hg] at l1 l2
  obtain ⟨S, hS⟩ : ∃ S, w.heap.size = S := ⟨_, rfl⟩
  obtain ⟨u0, hu0⟩ : ∃ u, w.alloc (.cells #[.int .u64 f, .int .u64 p, .int .u64 d, .int .u64 r, .int .u64 m] 24) = u := ⟨_, rfl⟩
  have x0 : JBox u0 S f p d r m := by rw [← hu0, ← hS]; exact JBox.new _ _ _ _ _ _
  have b0 : Below S w u0 := by rw [← hu0, ← hS]; exact bel1 _ _
  have X0 : Aside (JBox u0 S f p d r m ∧ Below S w u0) := ⟨x0, b0⟩
  have HU0 : Hid _ := hu0
  clear hK hg hf hp hd hn w1 w2 w3 w4 k1 k2 hu0 x0 b0
  go_enter Try.func5, Try.ntmps5
  go_wp2_with fail
  rw [HU0.out]
  refine (nw _).mono ?_
  rintro e w1 ⟨rfl, b1⟩
  clear nw HU0
  obtain ⟨S1, hS1⟩ : ∃ S, w1.heap.size = S := ⟨_, rfl⟩
  obtain ⟨u1, hu1⟩ : ∃ u, w1.alloc (.cells #[.int .u64 x, .int .u64 y, .int .u64 x, .int .u64 0, .int .u64 0] 24) = u := ⟨_, rfl⟩
  have y0 : JBox w1 S f p d r m := X0.out.1.below b1
  have y1 : JBox u1 S f p d r m := y0.below (by rw [← hu1]; exact bel1 _ _)
  have y2 : JBox u1 S1 x y x 0 0 := by rw [← hu1, ← hS1]; exact JBox.new _ _ _ _ _ _
  have b2 : Below S w u1 := by rw [← hu1]; exact (X0.out.2.trans (b1.mono (by have := X0.out.2.size; omega))).alloc (by have := X0.out.2.size; have := b1.size; omega) _
  have X1 : Aside (JBox u1 S f p d r m ∧ JBox u1 S1 x y x 0 0 ∧ Below S w u1) := ⟨y1, y2, b2⟩
  have HU1 : Hid _ := hu1
  clear hu1 b1 y0 y1 y2 b2 X0
  go_upto_region 2 with fail
  rw [HU1.out]
  clear HU1 hS1
  go_upto_if 27 with fail
  go_cut [] from 28 to 44 (fun wx => wx = u1)
  case first =>
    obtain ⟨c0, c1, c2, c3, c4⟩ := X1.out.2.1.cell
    clear ca cb l1 l2 o1 o2 X1
    rcases hx with ⟨rfl, rfl, rfl, rfl⟩ | ⟨h1, rfl, rfl, rfl⟩
    · go_wp2_with fail
      go_meet
      rfl
    · have hb : (y == 0) = false := by simp [h1]
      go_wp2_with fail
      go_meet
      rfl
  case rest =>
    obtain rfl := hcut
    clear hx hpe
    obtain ⟨k0, k1, k2, k3, k4⟩ := X1.out.1.cell
    go_wp2_with fail
    refine (ca _).mono ?_
    rintro e w2 ⟨rfl, b2⟩
    clear k0 k1 k2 k3 k4 ca
    obtain ⟨SA, hSA⟩ : ∃ S, w2.heap.size = S := ⟨_, rfl⟩
    obtain ⟨u2, hu2⟩ : ∃ u, w2.alloc (.cells #[.int .u64 f, .int .u64 p, .int .u64 D, .int .u64 R, .int .u64 M] 24) = u := ⟨_, rfl⟩
    have bu2 : Below wc.heap.size wc u2 := by rw [← hu2]; exact b2.alloc b2.size _
    have y2 : JBox u2 SA f p D R M := by rw [← hu2, ← hSA]; exact JBox.new _ _ _ _ _ _
    have X2 : Aside (JBox u2 S f p d r m ∧ JBox u2 SA f p D R M ∧ Below S w u2) := ⟨X1.out.1.below bu2, y2, X1.out.2.2.trans (bu2.mono (by have := X1.out.2.2.size; omega))⟩
    have HU2 : Hid _ := hu2
    clear hu2 bu2 y2 b2 X1
    go_upto_region 8 with fail
    rw [HU2.out]
    clear HU2 hSA
    obtain ⟨k0, k1, k2, k3, k4⟩ := X2.out.1.cell
    go_wp2_with fail
    refine (cb _).mono ?_
    rintro e w3 ⟨rfl, b3⟩
    clear k0 k1 k2 k3 k4 cb
    obtain ⟨SB, hSB⟩ : ∃ S, w3.heap.size = S := ⟨_, rfl⟩
    obtain ⟨u3, hu3⟩ : ∃ u, w3.alloc (.cells #[.int .u64 f, .int .u64 p, .int .u64 D, .int .u64 R, .int .u64 M] 24) = u := ⟨_, rfl⟩
    have bu3 : Below u2.heap.size u2 u3 := by rw [← hu3]; exact b3.alloc b3.size _
    have y3 : JBox u3 SB f p D R M := by rw [← hu3, ← hSB]; exact JBox.new _ _ _ _ _ _
    have X3 : Aside (JBox u3 S f p d r m ∧ JBox u3 SA f p D R M ∧ JBox u3 SB f p D R M ∧ Below S w u3) := ⟨X2.out.1.below bu3, X2.out.2.1.below bu3, y3, X2.out.2.2.trans (bu3.mono (by have := X2.out.2.2.size; omega))⟩
    have HU3 : Hid _ := hu3
    clear hu3 bu3 y3 b3 X2
    go_upto_region 9 with fail
    rw [HU3.out]
    clear HU3 hSB
    have L1 : Aside (∀ w : World, Calls Try.prog 8 #[.agg #[.int .u64 f, .int .u64 p, .int .u64 d, .int .u64 r, .int .u64 m], .int .u64 n, .int .i64 k] w fun e w' => ∃ a c, e = .returned (.slice a K c) ∧ Ticks w' a K g ∧ Below w.heap.size w w') := l1
    have L2 : Aside (∀ w : World, Calls Try.prog 12 #[.agg #[.int .u64 f, .int .u64 p, .int .u64 d, .int .u64 r, .int .u64 m], .int .u64 n, .int .i64 k] w fun e w' => ∃ a c, e = .returned (.slice a K c) ∧ Ticks w' a K g ∧ Below w.heap.size w w') := l2
    have KC : Aside (∀ W : World, Below u3.heap.size u3 W → W.cell? ⟨S, 0, none⟩ = some (.int .u64 f) ∧ W.cell? ⟨S, 1, none⟩ = some (.int .u64 p) ∧ W.cell? ⟨S, 2, none⟩ = some (.int .u64 d) ∧ W.cell? ⟨S, 3, none⟩ = some (.int .u64 r) ∧ W.cell? ⟨S, 4, none⟩ = some (.int .u64 m)) := fun W hW => (X3.out.1.below hW).cell
    have g0 : Below u3.heap.size u3 u3.drew := (Below.refl _ _).drew
    clear l1 l2
    go_cut [17, 18] from 57 to 64 (fun v1 v2 wx => ∃ a c a' c', v1 = .slice a K c ∧ v2 = .slice a' K c' ∧ Ticks wx a K g ∧ Ticks wx a' K g ∧ Below u3.heap.size u3 wx)
    case first =>
      clear o1 o2 X3
      go_region_held3 (fun W => W.cell? ⟨S, 0, none⟩ = some (.int .u64 f) ∧ W.cell? ⟨S, 1, none⟩ = some (.int .u64 p) ∧ W.cell? ⟨S, 2, none⟩ = some (.int .u64 d) ∧ W.cell? ⟨S, 3, none⟩ = some (.int .u64 r) ∧ W.cell? ⟨S, 4, none⟩ = some (.int .u64 m)) (first | with_reducible exact KC.out _ g0 | with_reducible exact KC.out _ ga | with_reducible exact KC.out _ gb)
        ((first
          | (go_at_call 8; (with_reducible refine Calls.mono (L1.out _) ?_); rintro r_ wa ⟨a1, c1, rfl, ta, da⟩; first | (have ga := gb.trans (da.mono gb.size)) | (have ga := g0.trans (da.mono g0.size)))
          | (go_at_call 12; (with_reducible refine Calls.mono (L2.out _) ?_); rintro r_ wb ⟨a2, c2, rfl, tb, db⟩; first | (have gb := ga.trans (db.mono ga.size)) | (have gb := g0.trans (db.mono g0.size)))))
      have FIN : Aside (Ticks wb a1 K g ∧ Ticks wb a2 K g ∧ Below u3.heap.size u3 wb) := ⟨ta.below db, tb, gb⟩
      clear ta tb da db ga gb g0
      go_wp2_with fail
      go_meet
      exact ⟨a1, c1, a2, c2, rfl, rfl, FIN.out⟩
    case rest =>
      obtain ⟨a1, c1, a2, c2, rfl, rfl, t1, t2, b4⟩ := hcut
      rename World => W4
      have X4 : Aside ((JBox W4 S f p d r m ∧ JBox W4 SA f p D R M ∧ JBox W4 SB f p D R M) ∧ Below S w W4) := ⟨⟨X3.out.1.below b4, X3.out.2.1.below b4, X3.out.2.2.1.below b4⟩, X3.out.2.2.2.trans (b4.mono (by have := X3.out.2.2.2.size; omega))⟩
      have T4 : Aside (Ticks W4 a1 K g ∧ Ticks W4 a2 K g) := ⟨t1, t2⟩
      have KD : Aside (∀ W : World, Below W4.heap.size W4 W → W.cell? ⟨S, 0, none⟩ = some (.int .u64 f) ∧ W.cell? ⟨S, 1, none⟩ = some (.int .u64 p) ∧ W.cell? ⟨S, 2, none⟩ = some (.int .u64 d) ∧ W.cell? ⟨S, 3, none⟩ = some (.int .u64 r) ∧ W.cell? ⟨S, 4, none⟩ = some (.int .u64 m) ∧ W.cell? ⟨SA, 0, none⟩ = some (.int .u64 f) ∧ W.cell? ⟨SA, 1, none⟩ = some (.int .u64 p) ∧ W.cell? ⟨SA, 2, none⟩ = some (.int .u64 D) ∧ W.cell? ⟨SA, 3, none⟩ = some (.int .u64 R) ∧ W.cell? ⟨SA, 4, none⟩ = some (.int .u64 M) ∧ W.cell? ⟨SB, 0, none⟩ = some (.int .u64 f) ∧ W.cell? ⟨SB, 1, none⟩ = some (.int .u64 p) ∧ W.cell? ⟨SB, 2, none⟩ = some (.int .u64 D) ∧ W.cell? ⟨SB, 3, none⟩ = some (.int .u64 R) ∧ W.cell? ⟨SB, 4, none⟩ = some (.int .u64 M)) := fun W hW => by
        obtain ⟨q0, q1, q2, q3, q4⟩ := (X4.out.1.1.below hW).cell
        obtain ⟨r0, r1, r2, r3, r4⟩ := (X4.out.1.2.1.below hW).cell
        obtain ⟨s0, s1, s2, s3, s4⟩ := (X4.out.1.2.2.below hW).cell
        exact ⟨q0, q1, q2, q3, q4, r0, r1, r2, r3, r4, s0, s1, s2, s3, s4⟩
      have O1 : Aside (∀ w : World, Calls Try.prog 13 #[.agg #[.int .u64 f, .int .u64 p, .int .u64 d, .int .u64 r, .int .u64 m]] w fun e w' => e = .returned (.bool ok) ∧ Below w.heap.size w w') := fun w => (o1 w).mono (by rintro e w' ⟨rfl, rfl⟩; exact ⟨rfl, bel1 _ _⟩)
      have O2 : Aside (∀ w : World, Calls Try.prog 14 #[.agg #[.int .u64 f, .int .u64 p, .int .u64 d, .int .u64 r, .int .u64 m]] w fun e w' => e = .returned (.bool ok) ∧ Below w.heap.size w w') := fun w => (o2 w).mono (by rintro e w' ⟨rfl, rfl⟩; exact ⟨rfl, bel1 _ _⟩)
      have h0 : Below W4.heap.size W4 W4.drew := (Below.refl _ _).drew
      clear t1 t2 b4 X3 KC o1 o2 L1 L2 g0
      go_upto_region 10 with fail
      go_cut [86] from 65 to 86 (fun v1 wx => v1 = .bool false ∧ Below W4.heap.size W4 wx)
      case first =>
        clear X4 T4
        go_region_held3 (fun W => W.cell? ⟨S, 0, none⟩ = some (.int .u64 f) ∧ W.cell? ⟨S, 1, none⟩ = some (.int .u64 p) ∧ W.cell? ⟨S, 2, none⟩ = some (.int .u64 d) ∧ W.cell? ⟨S, 3, none⟩ = some (.int .u64 r) ∧ W.cell? ⟨S, 4, none⟩ = some (.int .u64 m) ∧ W.cell? ⟨SA, 0, none⟩ = some (.int .u64 f) ∧ W.cell? ⟨SA, 1, none⟩ = some (.int .u64 p) ∧ W.cell? ⟨SA, 2, none⟩ = some (.int .u64 D) ∧ W.cell? ⟨SA, 3, none⟩ = some (.int .u64 R) ∧ W.cell? ⟨SA, 4, none⟩ = some (.int .u64 M) ∧ W.cell? ⟨SB, 0, none⟩ = some (.int .u64 f) ∧ W.cell? ⟨SB, 1, none⟩ = some (.int .u64 p) ∧ W.cell? ⟨SB, 2, none⟩ = some (.int .u64 D) ∧ W.cell? ⟨SB, 3, none⟩ = some (.int .u64 R) ∧ W.cell? ⟨SB, 4, none⟩ = some (.int .u64 M)) (first | with_reducible exact KD.out _ h0 | with_reducible exact KD.out _ ga | with_reducible exact KD.out _ gb)
          ((first
            | (go_at_call 14; (with_reducible refine Calls.mono (O2.out _) ?_); rintro r_ wb ⟨rfl, db⟩; have gb := ga.trans (db.mono ga.size))
            | (go_at_call 13; (with_reducible refine Calls.mono (O1.out _) ?_); rintro r_ wa ⟨rfl, da⟩; have ga := h0.trans (da.mono h0.size))))
        have FIN : Aside (Below W4.heap.size W4 wb) := gb
        clear da db ga gb h0
        go_wp2_with fail
        go_meet
        exact ⟨rfl, FIN.out⟩
      case rest =>
        obtain ⟨rfl, b5⟩ := hcut
        rename World => W5
        have X5 : Aside (Below S w W5) := X4.out.2.trans (b5.mono (by have := X4.out.2.size; omega))
        have T5 : Aside (Ticks W5 a1 K g ∧ Ticks W5 a2 K g) := ⟨T4.out.1.below b5, T4.out.2.below b5⟩
        clear X4 T4 KD O1 O2 h0 b5
        go_wp2_with fail
        go_loopw [19] (fun s19 wr => ∃ I : Nat, s19 = .int .i64 I ∧ I ≤ K ∧ Ticks wr a1 K g ∧ Ticks wr a2 K g ∧ Below S w wr) (fun i _ => K - (intOf i).toNat)
        case atStart => exact ⟨0, rfl, by omega, T5.out.1, T5.out.2, X5.out⟩
        case round =>
          clear X5 T5
          obtain ⟨I, rfl, hI, t1, t2, hb⟩ := hrel
          by_cases h : I < K
          · have h' : (I : Int) < (K : Int) := by omega
            obtain ⟨z1, e1, z2, z3⟩ := t1 I h
            obtain ⟨y1, f1, y2, y3⟩ := t2 I h
            have NX : Aside (∀ nq, Ticks (wr.drewN nq) a1 K g ∧ Ticks (wr.drewN nq) a2 K g ∧ Below S w (wr.drewN nq)) := fun nq => ⟨t1.below (below_drewN (Below.refl _ _) nq), t2.below (below_drewN (Below.refl _ _) nq), below_drewN hb nq⟩
            clear t1 t2 hb
            subst e1 f1
            generalize g I = V at *
            go_wp2_with fail
            go_quiet (fail)
            go_wp2_with fail
            go_roundw
            case rel => exact ⟨I + 1, by go_num, by omega, NX.out nq⟩
            case measure => (simp [intOf]; try omega)
          · obtain rfl : I = K := by omega
            have aw := awake_any wr
            have BB : Aside (Below S w wr) := hb
            clear t1 t2 hb
            go_wp2_with fail
            refine aw.mono ?_
            rintro e w9 ⟨rfl, b9⟩
            go_wp2_with fail
            go_ret
            have C : Below S w w9 := BB.out.trans (b9.mono (by have := BB.out.size; omega))
            exact ⟨rfl, by first | exact C | (rw [hS]; exact C)⟩
end Go.Proofs.Ytgclepkjeepanaa
