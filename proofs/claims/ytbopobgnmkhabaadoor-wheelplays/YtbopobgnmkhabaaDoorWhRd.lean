/- The document's wheel: Advance. -/
import Derived.Test.YtbopobgnmkhabaaDoorWhRc
namespace Go.Proofs.YtbopobgnmkhabaaDoor
open Go.RowKit Go.Lib Go.Sort Go.WideMaps Go.Maps
set_option linter.unusedVariables false
variable {w w' : World} {X : Nat → Prop} {B now : Nat} {T : List Ent}
theorem RWh.tick (h : RWh w X B now T) (M : Nat) : RWh (w.setCell ⟨B, 0, none⟩ (.int .u64 (M : Int))) X B M T ∧ Fr X w (w.setCell ⟨B, 0, none⟩ (.int .u64 (M : Int))) := by
  have hB := h.hasB
  obtain ⟨a, cap, h1, h2, h3⟩ := h
  refine ⟨⟨a, cap, ?_, ⟨h2.le, h2.big, fun i x hi => ?_⟩, h3⟩, Fr.setCell _ _ _ _ _ hB⟩
  · rw [heap_setCell_same _ _ _ _ _ _ h1]; rfl
  · obtain ⟨b, off, e, hb, c1, c2⟩ := h2.elem i x hi
    have hne : b ≠ B := by
      rintro rfl
      rw [cell_of_row _ _ _ _ _ _ h1] at c2
      generalize off + i * 2 + 1 = q at c2
      match q, c2 with
      | 0, c2 => simp at c2
      | 1, c2 => simp at c2
      | q + 2, c2 => simp at c2
    have hk : (w.setCell ⟨B, 0, none⟩ (.int .u64 (M : Int))).heap[b]? = w.heap[b]? := heap_setCell_other _ _ b _ hne
    exact ⟨b, off, e, by simpa using hb, (World.cell?_of_block hk).trans c1, (World.cell?_of_block hk).trans c2⟩

set_option maxHeartbeats 8000000 in
set_option maxRecDepth 100000 in
theorem vadv_any (h : RWh w X B now T) (hT : TOk T) (tt : Nat) : Calls Tryd.prog 19 #[.pointer (some ⟨B, 0, none⟩), .int .u64 (tt : Int)] w fun e w' => ∃ r t, e = .returned (.slice r (dueL (max now tt) T).length t) ∧ IsL w' r t (dueL (max now tt) T) ∧ RGo w X B (max now tt) (restL (max now tt) T) w' := by
  obtain ⟨M, hM⟩ : ∃ M, max now tt = M := ⟨_, rfl⟩
  have hm : max (now : Int) (tt : Int) = (M : Int) := by omega
  rw [hM]
  obtain ⟨-, -, c0, -, -, frz0, hB0⟩ := h.open
  have fz := frz0 0
  obtain ⟨w1, hw1⟩ : ∃ w1, w.setCell ⟨B, 0, none⟩ (.int .u64 (M : Int)) = w1 := ⟨_, rfl⟩
  have HW1 : Hid _ := hw1
  obtain ⟨r1, f1⟩ := h.tick M
  rw [hw1] at r1 f1
  have RR : Aside (RWh w1 X B M T) := r1
  have FF : Aside (Fr X w w1) := f1
  obtain ⟨a, cap, d0, d1, il, frz, hBl⟩ := r1.open
  have hcap := il.le
  have hbig := il.big
  unfold maxLen at hbig
  have H : Aside (IsL w1 a cap T) := il
  have hTl := hT.len
  have SR : Aside (Srt T) := hT.srt
  have mx := mixed
  clear h hT r1 f1 il hw1 frz0 hM
  go_enter Tryd.func19, Tryd.ntmps19
  go_wp2_with fail
  rw [HW1.out]
  clear c0 fz hB0
  go_loopg [5] T.length (fun kx s5 wr => ∃ k : Nat, s5 = .int .i64 k ∧ k ≤ T.length ∧ T.length - k ≤ kx ∧ Aside (∃ q, wr = w1.drewN q) ∧ Aside (∀ j (hj : j < T.length), j < k → T[j].1 ≤ (M : Int)))
  case atStart => exact ⟨0, rfl, by omega, by omega, (⟨0, rfl⟩ : ∃ q, w1 = w1.drewN q), (fun j hj h => absurd h (by omega) : ∀ j (hj : j < T.length), j < 0 → T[j].1 ≤ (M : Int))⟩
  case round =>
    obtain ⟨k, rfl, hk, hkx, G, A⟩ := hrel
    obtain ⟨q, hq⟩ := G.out
    have HQ : Hid (wr = w1.drewN q) := hq
    have e0 : wr.cell? ⟨B, 0, none⟩ = some (.int .u64 (M : Int)) := by rw [hq]; exact d0
    have e1 : wr.cell? ⟨B, 1, none⟩ = some (.slice a T.length cap) := by rw [hq]; exact d1
    clear hq G
    by_cases hlt : k < T.length
    · have t1 : decide ((k : Int) < (T.length : Int)) = true := decide_eq_true (by omega)
      have t2 : (k : Int) < (T.length : Int) := by omega
      have t3 : decide (k < T.length) = true := decide_eq_true hlt
      obtain ⟨b, off, ha, hb, x1, x2⟩ := H.out.elem k T[k] (List.getElem?_eq_getElem hlt)
      have e2 : wr.cell? ⟨b, off + k * 2, none⟩ = some (.int .u64 T[k].1) := by rw [HQ.out]; exact x1
      obtain ⟨x, hx⟩ : ∃ x, T[k].1 = x := ⟨_, rfl⟩
      rw [hx] at e2
      have HX : Hid _ := hx
      rw [ha] at e1
      clear hx x1 x2 ha
      by_cases hL : x ≤ (M : Int)
      · have t4 : decide (x ≤ (M : Int)) = true := decide_eq_true hL
        go_wp2_with fail
        go_quiet (fail)
        have G2 : Aside (∃ q, wr.drewN nq = w1.drewN q) := ⟨q + nq, by rw [HQ.out, World.drewN_drewN]⟩
        clear e0 e1 e2 HQ
        generalize wr.drewN nq = w2 at G2 ⊢
        go_wp2
        go_roundg (T.length - (k + 1))
        case measure => omega
        case rel =>
          refine ⟨k + 1, by go_num, by omega, Nat.le_refl _, G2, (fun j hj hjk => ?_ : ∀ j (hj : j < T.length), j < k + 1 → T[j].1 ≤ (M : Int))⟩
          by_cases z : j = k
          · subst z; rw [HX.out]; exact hL
          · exact A.out j hj (by omega)
      · have t4 : decide (x ≤ (M : Int)) = false := decide_eq_false hL
        have E := due_take SR.out M k hk A.out (fun h => by rw [HX.out]; omega)
        go_wp2_with fail
        go_quiet (fail)
        have hck : ¬ cap = k := by omega
        obtain ⟨w2, hw2⟩ : ∃ w2, wr.drewN nq = w2 := ⟨_, rfl⟩
        have b2 : Below w1.heap.size w1 w2 := by rw [← hw2, HQ.out, World.drewN_drewN]; exact below_drewN w1 _
        have HL := H.out.below b2
        have k1 : (k : Int) ≤ (cap : Int) := by omega
        have k2 : (k : Int) ≤ (T.length : Int) := by omega
        have k3 : (0 : Int) ≤ (k : Int) := by omega
        have l1 : (T.take k).length = k := by simp; omega
        have l2 : (T.drop k).length = T.length - k := by simp
        have b3 : Below w1.heap.size w1 (w2.alloc (.cells #[] 33)) := b2.alloc b2.size _
        have o3 : OwnE (w2.alloc (.cells #[] 33)) w1.heap.size (.slice (some ⟨w2.heap.size, 0, none⟩) 0 0) [] := OwnE.made (base := w1.heap.size) w2 #[] 0 b2.size (by unfold maxLen; omega) rfl
        obtain ⟨v4, w4, h4, o4, g4⟩ := app_run (d := []) (c := T.take k) o3 ((H.out.below b3).take k) (by simp; omega) b3.size 28
        obtain ⟨r4, t4', rfl, m4⟩ := o4.isL
        have b4 : Below w1.heap.size w1 w4 := OwnE.grown o3 b3 g4 b3.size
        have b5 : Below w1.heap.size w1 (w4.alloc (.cells #[] 33)) := b4.alloc b4.size _
        have b45 : Below w4.heap.size w4 (w4.alloc (.cells #[] 33)) := (Below.refl _ _).alloc (Nat.le_refl _) _
        have o5 : OwnE (w4.alloc (.cells #[] 33)) w4.heap.size (.slice (some ⟨w4.heap.size, 0, none⟩) 0 0) [] := OwnE.made (base := w4.heap.size) w4 #[] 0 (Nat.le_refl _) (by unfold maxLen; omega) rfl
        have L5 := (H.out.below b5).drop k hk
        rw [if_neg hck] at L5
        obtain ⟨v6, w6, h6, o6, g6⟩ := app_run (d := []) (c := T.drop k) o5 L5 (by simp; omega) b45.size 28
        obtain ⟨r6, t6, rfl, m6⟩ := o6.isL
        have b46 : Below w4.heap.size w4 w6 := OwnE.grown o5 b45 g6 b45.size
        have b6 : Below w1.heap.size w1 w6 := b4.trans (b46.mono b4.size)
        rw [List.nil_append] at h4 h6 o4 o6 m4 m6
        rw [l1] at h4
        rw [l2] at h6
        have m4' := m4.below b46
        have F : Aside ((dueL M T).length = k ∧ IsL (w6.setCell ⟨B, 1, none⟩ (.slice r6 (T.length - k) t6)) r4 t4' (dueL M T) ∧ RGo w X B M (restL M T) (w6.setCell ⟨B, 1, none⟩ (.slice r6 (T.length - k) t6))) := by
          rw [E.1, E.2]
          rw [← l2]
          have o6' : OwnE w6 w1.heap.size (.slice r6 (T.drop k).length t6) (T.drop k) := OwnE.low o6 b4.size
          obtain ⟨X', y1, y2, y3⟩ := RR.out.store b6 o6'
          refine ⟨l1, ⟨m4'.le, m4'.big, fun j x hj => ?_⟩, X', y1, FF.out.trans y2 (fun j hj => .inl hj), fun j hj => ?_⟩
          · obtain ⟨b', off', e, hb', z1, z2⟩ := m4'.elem j x hj
            have hbB : b' ≠ B := by
              obtain ⟨g, hg, hlo, _⟩ := OwnE.row o4 (fun e0 => by rw [e0] at hj; simp at hj)
              rw [hg] at e
              cases e
              omega
            have hk2 : (w6.setCell ⟨B, 1, none⟩ (.slice r6 (T.drop k).length t6)).heap[b']? = w6.heap[b']? := heap_setCell_other _ _ b' _ hbB
            exact ⟨b', off', e, by simpa using hb', (World.cell?_of_block hk2).trans z1, (World.cell?_of_block hk2).trans z2⟩
          · rcases y3 j hj with q | q
            · exact .inl q
            · exact .inr (Nat.le_trans FF.out.size q)
        have n1 : (w2.alloc (.cells #[] 33)).cell? ⟨B, 1, none⟩ = some (.slice a T.length cap) := (b3.cell (p := ⟨B, 1, none⟩) hBl).trans d1
        have n2 : (w4.alloc (.cells #[] 33)).cell? ⟨B, 1, none⟩ = some (.slice a T.length cap) := (b5.cell (p := ⟨B, 1, none⟩) hBl).trans d1
        have n3 : w6.cell? ⟨B, 1, none⟩ = some (.slice a T.length cap) := (b6.cell (p := ⟨B, 1, none⟩) hBl).trans d1
        have n4 : w6.frozen? ⟨B, 1, none⟩ = false := (b6.frozen (p := ⟨B, 1, none⟩) hBl).trans (frz 1)
        have n5 : B < w6.heap.size := Nat.lt_of_lt_of_le hBl b6.size
        rw [hw2]
        clear e0 HQ hw2 b2 HL b3 o3 o4 g4 b4 b5 b45 o5 L5 o6 g6 b46 b6 m4 m6 m4' E A t1 t2 t3 l1 l2 d0 d1
        go_wp2_with (at_builtin; first | (refine Lib.wpList_append_run (w4.alloc (.cells #[] 33)) rfl _ _ 28 28 rfl _ _ rfl rfl _ w6 h6 ?_) | (refine Lib.wpList_append_run (w2.alloc (.cells #[] 33)) rfl _ _ 28 28 rfl _ _ rfl rfl _ w4 h4 ?_))
        go_ret
        exact ⟨r4, t4', by rw [F.out.1]; rfl, F.out.2.1, F.out.2.2⟩
    · have t1 : decide ((k : Int) < (T.length : Int)) = false := decide_eq_false (by omega)
      have t2 : ¬ (k : Int) < (T.length : Int) := by omega
      have t3 : decide (k < T.length) = false := decide_eq_false hlt
      have E := due_take SR.out M k hk A.out (fun h => absurd h hlt)
      go_wp2_with fail
      go_quiet (fail)
      by_cases hck : cap = k
      · subst hck
        have hs1 : T.length - cap = 0 := by omega
        obtain ⟨w2, hw2⟩ : ∃ w2, wr.drewN nq = w2 := ⟨_, rfl⟩
        have b2 : Below w1.heap.size w1 w2 := by rw [← hw2, HQ.out, World.drewN_drewN]; exact below_drewN w1 _
        have HL := H.out.below b2
        have k1 : (cap : Int) ≤ (cap : Int) := by omega
        have k2 : (cap : Int) ≤ (T.length : Int) := by omega
        have k3 : (0 : Int) ≤ (cap : Int) := by omega
        have l1 : (T.take cap).length = cap := by simp; omega
        have l2 : (T.drop cap).length = T.length - cap := by simp
        have b3 : Below w1.heap.size w1 (w2.alloc (.cells #[] 33)) := b2.alloc b2.size _
        have o3 : OwnE (w2.alloc (.cells #[] 33)) w1.heap.size (.slice (some ⟨w2.heap.size, 0, none⟩) 0 0) [] := OwnE.made (base := w1.heap.size) w2 #[] 0 b2.size (by unfold maxLen; omega) rfl
        obtain ⟨v4, w4, h4, o4, g4⟩ := app_run (d := []) (c := T.take cap) o3 ((H.out.below b3).take cap) (by simp; omega) b3.size 28
        obtain ⟨r4, t4', rfl, m4⟩ := o4.isL
        have b4 : Below w1.heap.size w1 w4 := OwnE.grown o3 b3 g4 b3.size
        have b5 : Below w1.heap.size w1 (w4.alloc (.cells #[] 33)) := b4.alloc b4.size _
        have b45 : Below w4.heap.size w4 (w4.alloc (.cells #[] 33)) := (Below.refl _ _).alloc (Nat.le_refl _) _
        have o5 : OwnE (w4.alloc (.cells #[] 33)) w4.heap.size (.slice (some ⟨w4.heap.size, 0, none⟩) 0 0) [] := OwnE.made (base := w4.heap.size) w4 #[] 0 (Nat.le_refl _) (by unfold maxLen; omega) rfl
        have L5 := (H.out.below b5).drop cap hk
        rw [if_pos rfl] at L5
        obtain ⟨v6, w6, h6, o6, g6⟩ := app_run (d := []) (c := T.drop cap) o5 L5 (by simp; omega) b45.size 28
        obtain ⟨r6, t6, rfl, m6⟩ := o6.isL
        have b46 : Below w4.heap.size w4 w6 := OwnE.grown o5 b45 g6 b45.size
        have b6 : Below w1.heap.size w1 w6 := b4.trans (b46.mono b4.size)
        rw [List.nil_append] at h4 h6 o4 o6 m4 m6
        rw [l1] at h4
        rw [l2, hs1, Nat.sub_self] at h6
        have m4' := m4.below b46
        have F : Aside ((dueL M T).length = cap ∧ IsL (w6.setCell ⟨B, 1, none⟩ (.slice r6 0 t6)) r4 t4' (dueL M T) ∧ RGo w X B M (restL M T) (w6.setCell ⟨B, 1, none⟩ (.slice r6 0 t6))) := by
          rw [E.1, E.2]
          rw [← (l2.trans hs1)]
          have o6' : OwnE w6 w1.heap.size (.slice r6 (T.drop cap).length t6) (T.drop cap) := OwnE.low o6 b4.size
          obtain ⟨X', y1, y2, y3⟩ := RR.out.store b6 o6'
          refine ⟨l1, ⟨m4'.le, m4'.big, fun j x hj => ?_⟩, X', y1, FF.out.trans y2 (fun j hj => .inl hj), fun j hj => ?_⟩
          · obtain ⟨b', off', e, hb', z1, z2⟩ := m4'.elem j x hj
            have hbB : b' ≠ B := by
              obtain ⟨g, hg, hlo, _⟩ := OwnE.row o4 (fun e0 => by rw [e0] at hj; simp at hj)
              rw [hg] at e
              cases e
              omega
            have hk2 : (w6.setCell ⟨B, 1, none⟩ (.slice r6 (T.drop cap).length t6)).heap[b']? = w6.heap[b']? := heap_setCell_other _ _ b' _ hbB
            exact ⟨b', off', e, by simpa using hb', (World.cell?_of_block hk2).trans z1, (World.cell?_of_block hk2).trans z2⟩
          · rcases y3 j hj with q | q
            · exact .inl q
            · exact .inr (Nat.le_trans FF.out.size q)
        have n1 : (w2.alloc (.cells #[] 33)).cell? ⟨B, 1, none⟩ = some (.slice a T.length cap) := (b3.cell (p := ⟨B, 1, none⟩) hBl).trans d1
        have n2 : (w4.alloc (.cells #[] 33)).cell? ⟨B, 1, none⟩ = some (.slice a T.length cap) := (b5.cell (p := ⟨B, 1, none⟩) hBl).trans d1
        have n3 : w6.cell? ⟨B, 1, none⟩ = some (.slice a T.length cap) := (b6.cell (p := ⟨B, 1, none⟩) hBl).trans d1
        have n4 : w6.frozen? ⟨B, 1, none⟩ = false := (b6.frozen (p := ⟨B, 1, none⟩) hBl).trans (frz 1)
        have n5 : B < w6.heap.size := Nat.lt_of_lt_of_le hBl b6.size
        rw [hw2]
        clear e0 HQ hw2 b2 HL b3 o3 o4 g4 b4 b5 b45 o5 L5 o6 g6 b46 b6 m4 m6 m4' E A t1 t2 t3 l1 l2 d0 d1
        go_wp2_with (at_builtin; first | (refine Lib.wpList_append_run (w4.alloc (.cells #[] 33)) rfl _ _ 28 28 rfl _ _ rfl rfl _ w6 h6 ?_) | (refine Lib.wpList_append_run (w2.alloc (.cells #[] 33)) rfl _ _ 28 28 rfl _ _ rfl rfl _ w4 h4 ?_))
        go_ret
        exact ⟨r4, t4', by rw [F.out.1]; rfl, F.out.2.1, F.out.2.2⟩
      · skip
        obtain ⟨w2, hw2⟩ : ∃ w2, wr.drewN nq = w2 := ⟨_, rfl⟩
        have b2 : Below w1.heap.size w1 w2 := by rw [← hw2, HQ.out, World.drewN_drewN]; exact below_drewN w1 _
        have HL := H.out.below b2
        have k1 : (k : Int) ≤ (cap : Int) := by omega
        have k2 : (k : Int) ≤ (T.length : Int) := by omega
        have k3 : (0 : Int) ≤ (k : Int) := by omega
        have l1 : (T.take k).length = k := by simp; omega
        have l2 : (T.drop k).length = T.length - k := by simp
        have b3 : Below w1.heap.size w1 (w2.alloc (.cells #[] 33)) := b2.alloc b2.size _
        have o3 : OwnE (w2.alloc (.cells #[] 33)) w1.heap.size (.slice (some ⟨w2.heap.size, 0, none⟩) 0 0) [] := OwnE.made (base := w1.heap.size) w2 #[] 0 b2.size (by unfold maxLen; omega) rfl
        obtain ⟨v4, w4, h4, o4, g4⟩ := app_run (d := []) (c := T.take k) o3 ((H.out.below b3).take k) (by simp; omega) b3.size 28
        obtain ⟨r4, t4', rfl, m4⟩ := o4.isL
        have b4 : Below w1.heap.size w1 w4 := OwnE.grown o3 b3 g4 b3.size
        have b5 : Below w1.heap.size w1 (w4.alloc (.cells #[] 33)) := b4.alloc b4.size _
        have b45 : Below w4.heap.size w4 (w4.alloc (.cells #[] 33)) := (Below.refl _ _).alloc (Nat.le_refl _) _
        have o5 : OwnE (w4.alloc (.cells #[] 33)) w4.heap.size (.slice (some ⟨w4.heap.size, 0, none⟩) 0 0) [] := OwnE.made (base := w4.heap.size) w4 #[] 0 (Nat.le_refl _) (by unfold maxLen; omega) rfl
        have L5 := (H.out.below b5).drop k hk
        rw [if_neg hck] at L5
        obtain ⟨v6, w6, h6, o6, g6⟩ := app_run (d := []) (c := T.drop k) o5 L5 (by simp; omega) b45.size 28
        obtain ⟨r6, t6, rfl, m6⟩ := o6.isL
        have b46 : Below w4.heap.size w4 w6 := OwnE.grown o5 b45 g6 b45.size
        have b6 : Below w1.heap.size w1 w6 := b4.trans (b46.mono b4.size)
        rw [List.nil_append] at h4 h6 o4 o6 m4 m6
        rw [l1] at h4
        rw [l2] at h6
        have m4' := m4.below b46
        have F : Aside ((dueL M T).length = k ∧ IsL (w6.setCell ⟨B, 1, none⟩ (.slice r6 (T.length - k) t6)) r4 t4' (dueL M T) ∧ RGo w X B M (restL M T) (w6.setCell ⟨B, 1, none⟩ (.slice r6 (T.length - k) t6))) := by
          rw [E.1, E.2]
          rw [← l2]
          have o6' : OwnE w6 w1.heap.size (.slice r6 (T.drop k).length t6) (T.drop k) := OwnE.low o6 b4.size
          obtain ⟨X', y1, y2, y3⟩ := RR.out.store b6 o6'
          refine ⟨l1, ⟨m4'.le, m4'.big, fun j x hj => ?_⟩, X', y1, FF.out.trans y2 (fun j hj => .inl hj), fun j hj => ?_⟩
          · obtain ⟨b', off', e, hb', z1, z2⟩ := m4'.elem j x hj
            have hbB : b' ≠ B := by
              obtain ⟨g, hg, hlo, _⟩ := OwnE.row o4 (fun e0 => by rw [e0] at hj; simp at hj)
              rw [hg] at e
              cases e
              omega
            have hk2 : (w6.setCell ⟨B, 1, none⟩ (.slice r6 (T.drop k).length t6)).heap[b']? = w6.heap[b']? := heap_setCell_other _ _ b' _ hbB
            exact ⟨b', off', e, by simpa using hb', (World.cell?_of_block hk2).trans z1, (World.cell?_of_block hk2).trans z2⟩
          · rcases y3 j hj with q | q
            · exact .inl q
            · exact .inr (Nat.le_trans FF.out.size q)
        have n1 : (w2.alloc (.cells #[] 33)).cell? ⟨B, 1, none⟩ = some (.slice a T.length cap) := (b3.cell (p := ⟨B, 1, none⟩) hBl).trans d1
        have n2 : (w4.alloc (.cells #[] 33)).cell? ⟨B, 1, none⟩ = some (.slice a T.length cap) := (b5.cell (p := ⟨B, 1, none⟩) hBl).trans d1
        have n3 : w6.cell? ⟨B, 1, none⟩ = some (.slice a T.length cap) := (b6.cell (p := ⟨B, 1, none⟩) hBl).trans d1
        have n4 : w6.frozen? ⟨B, 1, none⟩ = false := (b6.frozen (p := ⟨B, 1, none⟩) hBl).trans (frz 1)
        have n5 : B < w6.heap.size := Nat.lt_of_lt_of_le hBl b6.size
        rw [hw2]
        clear e0 HQ hw2 b2 HL b3 o3 o4 g4 b4 b5 b45 o5 L5 o6 g6 b46 b6 m4 m6 m4' E A t1 t2 t3 l1 l2 d0 d1
        go_wp2_with (at_builtin; first | (refine Lib.wpList_append_run (w4.alloc (.cells #[] 33)) rfl _ _ 28 28 rfl _ _ rfl rfl _ w6 h6 ?_) | (refine Lib.wpList_append_run (w2.alloc (.cells #[] 33)) rfl _ _ 28 28 rfl _ _ rfl rfl _ w4 h4 ?_))
        go_ret
        exact ⟨r4, t4', by rw [F.out.1]; rfl, F.out.2.1, F.out.2.2⟩
end Go.Proofs.YtbopobgnmkhabaaDoor
