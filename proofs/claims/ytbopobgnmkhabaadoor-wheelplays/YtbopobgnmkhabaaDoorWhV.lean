/- wheel: reach: time goes on, and all that is due or moves down is taken out. -/
import Derived.Test.YtbopobgnmkhabaaDoorWhU
namespace Go.Proofs.YtbopobgnmkhabaaDoor
open Go.RowKit Go.Lib Go.Sort Go.WideMaps Go.Maps
set_option linter.unusedVariables false

variable {w w' : World} {B M base now n : Nat} {hd : Nat → Value} {u : Nat → Nat} {c : Nat → Nat → List Ent} {far : List Ent} {f : Int → Option Int}
/-- A level's slots, those of a mask emptied. -/
def cLev (c : Nat → Nat → List Ent) (l m : Nat) : Nat → Nat → List Ent := fun a s => if a = l then (if m.testBit s then [] else c l s) else c a s
theorem WhA.takeSet (h : WhA w B M base hd now u c far f n) {l mk : Nat} (hl : l < 4) (h' : Hd w' B (hset (hdT hd (2 + l * 65) (u l &&& mk) 64) (2 + l * 65) (.int .u64 ((clr (u l) mk : Nat) : Int)))) (hf : Fr (fun k => k = B) w w') :
    WhA w' B M base (hset (hdT hd (2 + l * 65) (u l &&& mk) 64) (2 + l * 65) (.int .u64 ((clr (u l) mk : Nat) : Int))) now (lset u l (clr (u l) mk)) (cLev c l (u l &&& mk)) far f n ∧
      ∀ k, foot B M (hset (hdT hd (2 + l * 65) (u l &&& mk) 64) (2 + l * 65) (.int .u64 ((clr (u l) mk : Nat) : Int))) k → foot B M hd k := by
  obtain ⟨m, hm⟩ : ∃ m, u l &&& mk = m := ⟨_, rfl⟩
  obtain ⟨U, hU⟩ : ∃ U, clr (u l) mk = U := ⟨_, rfl⟩
  have hUb : U < B64 := by rw [← hU]; exact clr_lt _ _ (h.ub l hl)
  rw [hm, hU] at h' ⊢
  have e1 : hset (hdT hd (2 + l * 65) m 64) (2 + l * 65) (.int .u64 (U : Int)) (2 + l * 65) = .int .u64 (U : Int) := hset_same _ _ _
  have e2 : ∀ i, i ≠ 2 + l * 65 → (i < 2 + l * 65 + 1 ∨ 2 + l * 65 + 65 ≤ i) → hset (hdT hd (2 + l * 65) m 64) (2 + l * 65) (.int .u64 (U : Int)) i = hd i := fun i h1 h2 => by rw [hset_ne _ _ h1, hdT_out _ _ _ _ _ (by omega)]
  have e3 : ∀ s, s < 64 → hset (hdT hd (2 + l * 65) m 64) (2 + l * 65) (.int .u64 (U : Int)) (2 + l * 65 + 1 + s) = if m.testBit s then nilV else hd (2 + l * 65 + 1 + s) := fun s hs => by rw [hset_ne _ _ (by omega), hdT_in _ _ _ hs]
  have rows : ∀ i, i < 263 → ∀ k, rowB (hset (hdT hd (2 + l * 65) m 64) (2 + l * 65) (.int .u64 (U : Int)) i) = some k → rowB (hd i) = some k := fun i hi k hk => by
    by_cases c1 : i = 2 + l * 65
    · subst c1; rw [e1] at hk; cases hk
    · by_cases c2 : i < 2 + l * 65 + 1 ∨ 2 + l * 65 + 65 ≤ i
      · rw [e2 i c1 c2] at hk; exact hk
      · obtain ⟨s, rfl⟩ : ∃ s, i = 2 + l * 65 + 1 + s := ⟨i - (2 + l * 65 + 1), by omega⟩
        rw [e3 s (by omega)] at hk
        split at hk
        · cases hk
        · exact hk
  have own : ∀ i d, i < 263 → OwnF w base (hd i) d → OwnF w' base (hd i) d := fun i d hi o => o.fr hf (fun k hk hx => Hd.ne h.head o (by rw [hk, hx]))
  refine ⟨⟨h', by rw [e2 0 (by omega) (by omega)]; exact h.h0, by rw [e2 1 (by omega) (by omega)]; exact h.h1, fun a ha => ?_, fun a s ha hs => ?_, by rw [e2 262 (by omega) (by omega)]; exact own _ _ (by omega) h.far, h.map.of_block (hf.block M h.map.lt h.BM), fun i j hi hj hij k hk hk2 => h.inj i j hi hj hij k (rows i hi k hk) (rows j hj k hk2), fun a ha => ?_, h.nb, h.lowB, h.lowM⟩, fun k hk => ?_⟩
  · by_cases ca : a = l
    · subst ca; rw [e1, lset_same]
    · rw [e2 _ (by omega) (by omega), lset_ne _ _ ca]; exact h.hu a ha
  · unfold cLev
    by_cases ca : a = l
    · subst ca
      rw [e3 s hs, if_pos rfl]
      split
      · exact OwnF.nil _ _
      · exact own _ _ (by omega) (h.slot a s ha hs)
    · rw [if_neg ca, e2 _ (by omega) (by omega)]
      exact own _ _ (by omega) (h.slot a s ha hs)
  · by_cases ca : a = l
    · subst ca; rw [lset_same]; exact hUb
    · rw [lset_ne _ _ ca]; exact h.ub a ha
  · rcases hk with hk | hk | ⟨i, hi, hk⟩
    · exact .inl hk
    · exact .inr (.inl hk)
    · exact .inr (.inr ⟨i, hi, rows i hi k hk⟩)
/-- The masks and slots behind so many levels being taken. -/
def uLv (now thn : Nat) (u : Nat → Nat) (p : Nat) : Nat → Nat := fun l => if l < p then clr (u l) (msk now thn l) else u l
def cLv (now thn : Nat) (u : Nat → Nat) (c : Nat → Nat → List Ent) (p : Nat) : Nat → Nat → List Ent := fun l s => if l < p then cT now thn u c l s else c l s
theorem uLv_step (now thn : Nat) (u : Nat → Nat) (p : Nat) : lset (uLv now thn u p) p (clr (uLv now thn u p p) (msk now thn p)) = uLv now thn u (p + 1) := by
  funext l
  unfold lset uLv
  by_cases e : l = p
  · subst e; rw [if_pos rfl, if_neg (by omega), if_pos (by omega)]
  · rw [if_neg e]
    by_cases e2 : l < p
    · rw [if_pos e2, if_pos (by omega)]
    · rw [if_neg e2, if_neg (by omega)]
theorem cLv_step (now thn : Nat) (u : Nat → Nat) (c : Nat → Nat → List Ent) (p : Nat) : cLev (cLv now thn u c p) p (uLv now thn u p p &&& msk now thn p) = cLv now thn u c (p + 1) := by
  funext l s
  have e0 : uLv now thn u p p = u p := by unfold uLv; rw [if_neg (by omega)]
  have e1 : cLv now thn u c p p s = c p s := by unfold cLv; rw [if_neg (by omega)]
  unfold cLev
  rw [e0, e1]
  by_cases e : l = p
  · subst e
    rw [if_pos rfl]
    show _ = if l < l + 1 then cT now thn u c l s else c l s
    rw [if_pos (show l < l + 1 by omega)]
    rfl
  · rw [if_neg e]
    show (if l < p then cT now thn u c l s else c l s) = if l < p + 1 then cT now thn u c l s else c l s
    by_cases e2 : l < p
    · rw [if_pos e2, if_pos (by omega)]
    · rw [if_neg e2, if_neg (by omega)]
theorem uLv_zero (now thn : Nat) (u : Nat → Nat) : uLv now thn u 0 = u := by funext l; unfold uLv; rw [if_neg (by omega)]
theorem cLv_zero (now thn : Nat) (u : Nat → Nat) (c : Nat → Nat → List Ent) : cLv now thn u c 0 = c := by funext l s; unfold cLv; rw [if_neg (by omega)]
theorem uLv_at (now thn : Nat) (u : Nat → Nat) (p : Nat) : uLv now thn u p p = u p := by unfold uLv; rw [if_neg (by omega)]
theorem cLv_at (now thn : Nat) (u : Nat → Nat) (c : Nat → Nat → List Ent) (p : Nat) : cLv now thn u c p p = c p := by funext s; unfold cLv; rw [if_neg (by omega)]
/-- What counts below the fourth level alone. -/
theorem WhA.lists (h : WhA w B M base hd now u c far f n) {u' : Nat → Nat} {c' : Nat → Nat → List Ent} (eu : ∀ l, l < 4 → u l = u' l) (ec : ∀ l s, l < 4 → c l s = c' l s) : WhA w B M base hd now u' c' far f n :=
  ⟨h.head, h.h0, h.h1, fun l hl => by rw [← eu l hl]; exact h.hu l hl, fun l s hl hs => by rw [← ec l s hl]; exact h.slot l s hl hs, h.far, h.map, h.inj, fun l hl => by rw [← eu l hl]; exact h.ub l hl, h.nb, h.lowB, h.lowM⟩
/-- The clock is set. -/
theorem WhA.nowSet (h : WhA w B M base hd now u c far f n) {thn : Nat} (ht : thn < B64) : WhA (w.setCell ⟨B, 0, none⟩ (.int .u64 thn)) B M base (hset hd 0 (.int .u64 thn)) thn u c far f n ∧ ∀ k, foot B M (hset hd 0 (.int .u64 thn)) k → foot B M hd k := by
  have hf : Fr (fun k => k = B) w (w.setCell ⟨B, 0, none⟩ (.int .u64 thn)) := Fr.setCell (fun k => k = B) _ _ _ _ rfl
  have own : ∀ i d, i < 263 → OwnF w base (hd i) d → OwnF (w.setCell ⟨B, 0, none⟩ (.int .u64 thn)) base (hd i) d := fun i d hi o => o.fr hf (fun k hk hx => Hd.ne h.head o (by rw [hk, hx]))
  have rows : ∀ i, i < 263 → ∀ k, rowB (hset hd 0 (.int .u64 thn) i) = some k → rowB (hd i) = some k := fun i hi k hk => by
    by_cases c1 : i = 0
    · subst c1; rw [hset_same] at hk; cases hk
    · rw [hset_ne _ _ c1] at hk; exact hk
  refine ⟨⟨h.head.set _ _, hset_same _ _ _, by rw [hset_ne _ _ (by omega)]; exact h.h1, fun l hl => by rw [hset_ne _ _ (by omega)]; exact h.hu l hl, fun l s hl hs => by rw [hset_ne _ _ (by omega)]; exact own _ _ (by omega) (h.slot l s hl hs), by rw [hset_ne _ _ (by omega)]; exact own _ _ (by omega) h.far, h.map.of_block (hf.block M h.map.lt h.BM), fun i j hi hj hij k hk hk2 => h.inj i j hi hj hij k (rows i hi k hk) (rows j hj k hk2), h.ub, ht, h.lowB, h.lowM⟩, fun k hk => ?_⟩
  rcases hk with hk | hk | ⟨i, hi, hk⟩
  · exact .inl hk
  · exact .inr (.inl hk)
  · exact .inr (.inr ⟨i, hi, rows i hi k hk⟩)

def ReachIs (w : World) (B M base now thn n : Nat) (hd : Nat → Value) (u : Nat → Nat) (c : Nat → Nat → List Ent) (far : List Ent) (f : Int → Option Int) (r : Ending) (w' : World) : Prop :=
  ∃ k v hd', k ≤ far.length ∧ r = .returned v ∧ OwnF w' w.heap.size v (metL now thn u c 4 ++ far.take k) ∧ WhA w' B M base hd' thn (fun l => clr (u l) (msk now thn l)) (cT now thn u c) (far.drop k) f n ∧ Fr (fun k => k = B) w w' ∧ (∀ j, foot B M hd' j → foot B M hd j) ∧ (∀ j, rowB v = some j → w.heap.size ≤ j) ∧
    (∀ i (hi : i < far.length), i < k → far[i].1 ≤ ((thn ||| 16777215 : Nat) : Int)) ∧ ∀ h : k < far.length, ((thn ||| 16777215 : Nat) : Int) < far[k].1
theorem metL_len (now thn : Nat) (u : Nat → Nat) (c : Nat → Nat → List Ent) {p q : Nat} (h : p ≤ q) : (metL now thn u c p).length ≤ (metL now thn u c q).length := by
  induction q with
  | zero => rw [show p = 0 by omega]; exact Nat.le_refl _
  | succ q ih =>
    by_cases e : p = q + 1
    · rw [e]; exact Nat.le_refl _
    · rw [metL, List.length_append]
      have := ih (by omega)
      omega
theorem foot_hset262 {v' : Value} (hr : ∀ k, rowB v' = some k → rowB (hd 262) = some k) : ∀ k, foot B M (hset hd 262 v') k → foot B M hd k := by
  intro k hk
  rcases hk with hk | hk | ⟨i, hi, hk⟩
  · exact .inl hk
  · exact .inr (.inl hk)
  · by_cases c3 : i = 262
    · subst c3; rw [hset_same] at hk
      exact .inr (.inr ⟨_, hi, hr k hk⟩)
    · rw [hset_ne _ _ c3] at hk
      exact .inr (.inr ⟨i, hi, hk⟩)
theorem takeL_len (c : Nat → List Ent) (m : Nat) {p q : Nat} (h : p ≤ q) : (takeL c m p).length ≤ (takeL c m q).length := by
  induction q with
  | zero => rw [show p = 0 by omega]; exact Nat.le_refl _
  | succ q ih =>
    by_cases e : p = q + 1
    · rw [e]; exact Nat.le_refl _
    · rw [takeL_succ, List.length_append]
      have := ih (by omega)
      omega
set_option maxHeartbeats 4000000 in
set_option maxRecDepth 100000 in
theorem reach_any (h : WhA w B M base hd now u c far f n) {thn : Nat} (ht : thn < B64) (hl : (metL now thn u c 4).length + far.length ≤ 100000) (hT : TabW w) (hT0 : 0 < base) :
    Calls Tryd.prog 23 #[.pointer (some ⟨B, 0, none⟩), .int .u64 thn] w (ReachIs w B M base now thn n hd u c far f) := by
  have pa := passed_any now thn h.nb ht w
  have c0 := h.head.cell (k := 0) (by omega)
  rw [h.h0] at c0
  have H : Aside (WhA w B M base hd now u c far f n) := h
  have MK : Aside (∀ l, msk now thn l < B64) := msk_lt now thn
  obtain ⟨m, hm⟩ : ∃ m : Nat → Nat, m = msk now thn := ⟨_, rfl⟩
  have HM : Hid (m = msk now thn) := hm
  rw [← hm] at pa
  have hB0 : 0 < B := by have := h.lowB; omega
  have hs0 : 0 < w.heap.size := by have := h.head.lt; omega
  have TB : Aside (∀ W, Fr (fun k => k = B) w W → TabW W) := fun W hW j hj => by
    have := hT j hj
    rw [← this]
    exact World.cell?_of_block (hW.block 0 hs0 (by omega))
  have RT : Aside (∀ (W : World) (hd1 : Nat → Value) (p : Nat), p < 4 → WhA W B M base hd1 now (uLv now thn u p) (cLv now thn u c p) far f n → Fr (fun k => k = B) w W → Calls Tryd.prog 36 #[.pointer (some ⟨B, 2 + p * 65, none⟩), .int .u64 ((m p : Nat) : Int)] W (TakeIs W B (2 + p * 65) base (u p) (m p) hd1 (c p))) := by
    intro W hd1 p hp hw hf
    have q1 := hw.hu p hp
    rw [uLv_at] at q1
    have q2 := hw.slot p
    simp only [cLv_at] at q2
    refine rtake_any B (2 + p * 65) base (u p) (m p) hd1 (c p) W hw.head (by omega) q1 (H.out.ub p hp) (by rw [HM.out]; exact MK.out p) (fun s hs => q2 s hp hs) (fun q hq => ?_) (TB.out W hf) (by have := hf.size; omega) hB0
    have l1 := takeL_len (c p) (u p &&& m p) hq
    have l2 := metL_len now thn u c (show p + 1 ≤ 4 by omega)
    rw [metL, List.length_append] at l2
    rw [HM.out] at l1 ⊢
    omega
  have i0 : ∀ (a b d e : Int) (W : World), (Instr.index 74 (.agg #[.int .u64 a, .int .u64 b, .int .u64 d, .int .u64 e]) (.int .i64 0)).run Tryd.prog W = .ok (.int .u64 a) W := fun _ _ _ _ _ => by kernel_rfl
  have i1 : ∀ (a b d e : Int) (W : World), (Instr.index 74 (.agg #[.int .u64 a, .int .u64 b, .int .u64 d, .int .u64 e]) (.int .i64 1)).run Tryd.prog W = .ok (.int .u64 b) W := fun _ _ _ _ _ => by kernel_rfl
  have i2 : ∀ (a b d e : Int) (W : World), (Instr.index 74 (.agg #[.int .u64 a, .int .u64 b, .int .u64 d, .int .u64 e]) (.int .i64 2)).run Tryd.prog W = .ok (.int .u64 d) W := fun _ _ _ _ _ => by kernel_rfl
  have i3 : ∀ (a b d e : Int) (W : World), (Instr.index 74 (.agg #[.int .u64 a, .int .u64 b, .int .u64 d, .int .u64 e]) (.int .i64 3)).run Tryd.prog W = .ok (.int .u64 e) W := fun _ _ _ _ _ => by kernel_rfl
  have idx0 : ∀ (p : Nat) W, p < 4 → (Instr.index 74 (.agg #[.int .u64 (m 0 : Nat), .int .u64 (m 1 : Nat), .int .u64 (m 2 : Nat), .int .u64 (m 3 : Nat)]) (.int .i64 p)).run Tryd.prog W = .ok (.int .u64 (m p : Nat)) W := fun p W hp => by
    have : p = 0 ∨ p = 1 ∨ p = 2 ∨ p = 3 := by omega
    rcases this with rfl | rfl | rfl | rfl
    · exact i0 _ _ _ _ W
    · exact i1 _ _ _ _ W
    · exact i2 _ _ _ _ W
    · exact i3 _ _ _ _ W
  clear i0 i1 i2 i3
  have idx : Aside (∀ (p : Nat) W, p < 4 → (Instr.index 74 (.agg #[.int .u64 (m 0 : Nat), .int .u64 (m 1 : Nat), .int .u64 (m 2 : Nat), .int .u64 (m 3 : Nat)]) (.int .i64 p)).run Tryd.prog W = .ok (.int .u64 (m p : Nat)) W) := idx0
  clear idx0
  obtain ⟨S, hS⟩ : ∃ S, w.heap.size = S := ⟨_, rfl⟩
  have HL : Aside ((metL now thn u c 4).length + far.length ≤ 100000) := hl
  have ht2 : Aside (thn < B64) := ht
  clear h hT hl ht hm
  go_enter Tryd.func23, Tryd.ntmps23
  go_wp2_with (go_at_call 35; refine pa.mono ?_; rintro e w1 ⟨rfl, b1⟩)
  have B1 : Aside (Below w.heap.size w w1) := b1
  clear b1 pa
  go_loopg [5, 6, 7, 14] 4 (fun kx s5 s6 s7 s14 wr => ∃ (p : Nat) (va : Option Addr) (vn vc : Nat) (hd1 : Nat → Value), s14 = .int .i64 p ∧ s5 = .slice va vn vc ∧ p ≤ 4 ∧ 4 - p ≤ kx ∧ Aside (WhA wr B M base hd1 now (uLv now thn u p) (cLv now thn u c p) far f n) ∧ Aside (OwnF wr S (.slice va vn vc) (metL now thn u c p)) ∧ Aside (Fr (fun k => k = B) w wr ∧ (∀ j, foot B M hd1 j → foot B M hd j) ∧ ∀ k, rowB (.slice va vn vc) = some k → S ≤ k))
  case atStart =>
    refine ⟨0, none, 0, 0, hd, rfl, rfl, by omega, by omega, ?_, OwnF.nil _ _, ⟨Fr.below B1.out, fun _ h => h, fun k hk => by cases hk⟩⟩
    show WhA _ _ _ _ _ _ _ _ _ _ _
    rw [uLv_zero, cLv_zero]
    exact H.out.fr (Fr.below (X := fun _ => False) B1.out) (fun _ _ => id)
  case round =>
    obtain ⟨p, va, vn, vc, hd1, rfl, rfl, hp, hkx, WA, OV, FR⟩ := hrel
    by_cases hlt : p < 4
    · have hz : (p : Int) < 4 := by omega
      have ix := fun W => idx.out p W hlt
      have rt := RT.out wr hd1 p hlt WA.out FR.out.1
      obtain ⟨mp, hmp⟩ : ∃ x, m p = x := ⟨_, rfl⟩
      rw [hmp] at rt ix
      have HMP : Hid (m p = mp) := hmp
      clear hmp
      go_wp2_with fail
      refine rt.mono ?_
      rintro e w2 ⟨v2, rfl, t1, t2, t3, t4⟩
      have mpe : mp = msk now thn p := by rw [← HMP.out, HM.out]
      have wa2 : WhA w2 B M base (hset (hdT hd1 (2 + p * 65) (u p &&& mp) 64) (2 + p * 65) (.int .u64 ((clr (u p) mp : Nat) : Int))) now (uLv now thn u (p + 1)) (cLv now thn u c (p + 1)) far f n ∧ ∀ k, foot B M (hset (hdT hd1 (2 + p * 65) (u p &&& mp) 64) (2 + p * 65) (.int .u64 ((clr (u p) mp : Nat) : Int))) k → foot B M hd1 k := by
        have e1 := uLv_at now thn u p
        have := WA.out.takeSet (l := p) (mk := mp) hlt (w' := w2) (by rw [e1]; exact t1) t3
        rw [mpe] at this
        rw [uLv_step, cLv_step, e1] at this
        rw [mpe]
        exact this
      obtain ⟨pa2, pc2, e2, -, -, -, hL2⟩ := t2.isL
      obtain ⟨pn2, hpn2⟩ : ∃ n, (takeL (c p) (u p &&& mp) 64).length = n := ⟨_, rfl⟩
      rw [hpn2] at e2
      subst e2
      have nB : rowB (.slice va vn vc) ≠ some B := fun e => by have := FR.out.2.2 B e; have := H.out.head.lt; omega
      have ov2 : OwnF w2 S (.slice va vn vc) (metL now thn u c p) := OV.out.fr t3 (fun k hk hx => nB (by rw [hk, hx]))
      have hlen : (metL now thn u c p).length + (takeL (c p) (u p &&& mp) 64).length ≤ 100000 := by
        have l2 := metL_len now thn u c (show p + 1 ≤ 4 by omega)
        rw [metL, List.length_append, ← mpe] at l2
        have := HL.out
        omega
      have sz2 : S ≤ w2.heap.size := by have := FR.out.1.size; have := t3.size; omega
      obtain ⟨v3, w3, hr, o3, g3, n3⟩ := appF ov2 hL2 (by omega) sz2 28
      rw [hpn2] at hr
      obtain ⟨pa3, pc3, e3, -⟩ := o3.isL
      obtain ⟨pn3, hpn3⟩ : ∃ n, (metL now thn u c p ++ takeL (c p) (u p &&& mp) 64).length = n := ⟨_, rfl⟩
      rw [hpn3] at e3
      subst e3
      have x3 : Fr (fun k => rowB (.slice va vn vc) = some k) w2 w3 := Fr.of_grown g3
      have N1 : Aside (WhA w3 B M base (hset (hdT hd1 (2 + p * 65) (u p &&& mp) 64) (2 + p * 65) (.int .u64 ((clr (u p) mp : Nat) : Int))) now (uLv now thn u (p + 1)) (cLv now thn u c (p + 1)) far f n) := wa2.1.fr x3 (fun k hk hx => by
        have h1 := FR.out.2.2 k hx
        have h2 := (H.out.footLt (FR.out.2.1 k (wa2.2 k hk))).2
        omega)
      have N2 : Aside (OwnF w3 S (.slice pa3 pn3 pc3) (metL now thn u c (p + 1))) := by
        show OwnF _ _ _ _
        rw [metL, ← mpe]; exact o3
      have N3 : Aside (Fr (fun k => k = B) w w3 ∧ (∀ j, foot B M (hset (hdT hd1 (2 + p * 65) (u p &&& mp) 64) (2 + p * 65) (.int .u64 ((clr (u p) mp : Nat) : Int))) j → foot B M hd j) ∧ ∀ k, rowB (.slice pa3 pn3 pc3) = some k → S ≤ k) := by
        refine ⟨(FR.out.1.trans t3 (fun j hj => .inl hj)).trans x3 (fun j hj => .inr (by rw [hS]; exact FR.out.2.2 j hj)), fun j hj => FR.out.2.1 j (wa2.2 j hj), fun k hk => ?_⟩
        rcases n3 k hk with x | x
        · exact FR.out.2.2 k x
        · omega
      clear WA OV FR t1 t2 t3 t4 wa2 hL2 nB ov2 hlen o3 g3 n3 x3 rt ix hpn2 hpn3 mpe
      go_wp2_with (at_builtin; refine Lib.wpList_append_run w2 rfl _ _ 28 28 rfl _ _ rfl rfl _ w3 hr ?_)
      go_roundg (4 - (p + 1))
      case measure => omega
      case rel => exact ⟨p + 1, pa3, pn3, pc3, _, by go_num, rfl, by omega, Nat.le_refl _, N1, N2, N3⟩
    · obtain rfl : p = 4 := by omega
      have wa0 : WhA wr B M base hd1 now (fun l => clr (u l) (msk now thn l)) (cT now thn u c) far f n := WA.out.lists (fun l hl => by unfold uLv; rw [if_pos hl]) (fun l s hl => by unfold cLv; rw [if_pos hl])
      have c5 := wa0.head.cell (k := 0) (by omega)
      rw [wa0.h0] at c5
      have f5 := wa0.head.frozen 0
      have bB := wa0.head.lt
      obtain ⟨wa1, ft1⟩ := wa0.nowSet ht2.out
      obtain ⟨w2, hw2⟩ : ∃ w2, wr.setCell ⟨B, 0, none⟩ (.int .u64 thn) = w2 := ⟨_, rfl⟩
      have HW2 : Hid _ := hw2
      rw [hw2] at wa1
      have x2 : Fr (fun k => k = B) wr w2 := by rw [← hw2]; exact Fr.setCell (fun k => k = B) _ _ _ _ rfl
      have nr := near_any wa1 (by have := HL.out; omega)
      have NR : Aside (Calls Tryd.prog 37 #[.pointer (some ⟨B, 0, none⟩)] w2 (NearIs w2 B M base thn n (hset hd1 0 (.int .u64 thn)) (fun l => clr (u l) (msk now thn l)) (cT now thn u c) far f)) := nr
      have nB : rowB (.slice va vn vc) ≠ some B := fun e => by have := FR.out.2.2 B e; have := H.out.head.lt; omega
      have ov2 : Aside (OwnF w2 S (.slice va vn vc) (metL now thn u c 4)) := OV.out.fr x2 (fun k hk hx => nB (by rw [hk, hx]))
      have FR2 : Aside (Fr (fun k => k = B) w w2 ∧ (∀ j, foot B M (hset hd1 0 (.int .u64 thn)) j → foot B M hd j) ∧ (∀ k, rowB (.slice va vn vc) = some k → S ≤ k) ∧ rowB (.slice va vn vc) ≠ some B) := ⟨FR.out.1.trans x2 (fun j hj => .inl hj), fun j hj => FR.out.2.1 j (ft1 j hj), FR.out.2.2, nB⟩
      clear WA OV FR wa0 wa1 ft1 x2 nr nB hw2
      go_wp2_with fail
      rw [HW2.out]
      refine NR.out.mono ?_
      rintro e w3 ⟨k, a3, cap3, v3, hk, rfl, l3, wa3, x3, r3, k1, k2⟩
      have ov3 : OwnF w3 S (.slice va vn vc) (metL now thn u c 4) := ov2.out.fr x3 (fun j hj hx => FR2.out.2.2.2 (by rw [hj, hx]))
      have hkl : (far.take k).length = k := by simp; omega
      have sz3 : S ≤ w3.heap.size := by have := FR2.out.1.size; have := x3.size; omega
      obtain ⟨v4, w4, hr, o4, g4, n4⟩ := appF ov3 l3 (by have := HL.out; omega) sz3 28
      rw [hkl] at hr
      have x4 : Fr (fun j => rowB (.slice va vn vc) = some j) w3 w4 := Fr.of_grown g4
      have ft : ∀ j, foot B M (hset (hset hd1 0 (.int .u64 thn)) 262 v3) j → foot B M hd j := fun j hj => FR2.out.2.1 j (foot_hset262 r3 j hj)
      have FIN : Aside (ReachIs w B M base now thn n hd u c far f (.returned v4) w4) := by
        refine ⟨k, v4, _, hk, rfl, by rw [hS]; exact o4, wa3.fr x4 (fun j hj hx => ?_), (FR2.out.1.trans x3 (fun j hj => .inl hj)).trans x4 (fun j hj => .inr (by rw [hS]; exact FR2.out.2.2.1 j hj)), ft, fun j hj => ?_, k1, k2⟩
        · have h1 := FR2.out.2.2.1 j hx
          have h2 := (H.out.footLt (ft j hj)).2
          omega
        · rcases n4 j hj with x | x
          · rw [hS]; exact FR2.out.2.2.1 j x
          · rw [hS]; omega
      clear ov3 hkl o4 g4 n4 x4 ft wa3 x3 r3 k1 k2 l3 FR2 ov2 NR
      go_wp2_with (at_builtin; refine Lib.wpList_append_run w3 rfl _ _ 28 28 rfl _ _ rfl rfl _ w4 hr ?_)
      go_ret
      exact FIN.out
end Go.Proofs.YtbopobgnmkhabaaDoor
