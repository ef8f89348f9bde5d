/- wheel's ring: take, least. -/
import Derived.Test.YtbopobgnmkhabaaDoorWhD
namespace Go.Proofs.YtbopobgnmkhabaaDoor
open Go.RowKit Go.Lib Go.Sort
set_option linter.unusedVariables false

/-- The head behind the slots of a mask being taken, up to one of them. -/
def hdT (hd : Nat → Value) (R m p : Nat) : Nat → Value := fun k => if R + 1 ≤ k ∧ k < R + 1 + p ∧ m.testBit (k - (R + 1)) = true then nilV else hd k
theorem hdT_zero (hd : Nat → Value) (R m k : Nat) : hdT hd R m 0 k = hd k := by unfold hdT; rw [if_neg (by omega)]
theorem hdT_at (hd : Nat → Value) (R m : Nat) {p s : Nat} (h : p ≤ s) : hdT hd R m p (R + 1 + s) = hd (R + 1 + s) := by unfold hdT; rw [if_neg (by omega)]
theorem hdT_R (hd : Nat → Value) (R m p : Nat) : hdT hd R m p R = hd R := by unfold hdT; rw [if_neg (by omega)]
theorem hdT_in (hd : Nat → Value) (R m : Nat) {p s : Nat} (h : s < p) : hdT hd R m p (R + 1 + s) = if m.testBit s then nilV else hd (R + 1 + s) := by
  unfold hdT
  rw [show R + 1 + s - (R + 1) = s by omega]
  by_cases c : m.testBit s = true
  · rw [if_pos ⟨by omega, by omega, c⟩, if_pos c]
  · rw [if_neg (fun x => c x.2.2), if_neg c]
theorem hdT_out (hd : Nat → Value) (R m p k : Nat) (h : k < R + 1 ∨ R + 1 + p ≤ k) : hdT hd R m p k = hd k := by unfold hdT; rw [if_neg (by omega)]
theorem hdT_skip (hd : Nat → Value) (R m : Nat) {p q : Nat} (h : p ≤ q) (hz : ∀ i, p ≤ i → i < q → m.testBit i = false) (k : Nat) : hdT hd R m q k = hdT hd R m p k := by
  unfold hdT
  by_cases c : R + 1 ≤ k ∧ k < R + 1 + p ∧ m.testBit (k - (R + 1)) = true
  · rw [if_pos c, if_pos ⟨c.1, by omega, c.2.2⟩]
  · rw [if_neg c]
    by_cases c2 : R + 1 ≤ k ∧ k < R + 1 + q ∧ m.testBit (k - (R + 1)) = true
    · exfalso
      have c3 : ¬ k < R + 1 + p := fun hk => c ⟨c2.1, hk, c2.2.2⟩
      have := hz (k - (R + 1)) (by omega) (by omega)
      rw [this] at c2
      simp at c2
    · rw [if_neg c2]
theorem hdT_step (hd : Nat → Value) (R m q : Nat) (hq : m.testBit q = true) (k : Nat) : hset (hdT hd R m q) (R + 1 + q) nilV k = hdT hd R m (q + 1) k := by
  by_cases c : k = R + 1 + q
  · subst c; rw [hset_same, hdT_in _ _ _ (Nat.lt_succ_self q), if_pos hq]
  · rw [hset_ne _ _ c]
    unfold hdT
    by_cases c2 : R + 1 ≤ k ∧ k < R + 1 + q ∧ m.testBit (k - (R + 1)) = true
    · rw [if_pos c2, if_pos ⟨c2.1, by omega, c2.2.2⟩]
    · rw [if_neg c2, if_neg (fun x => c2 ⟨x.1, by omega, x.2.2⟩)]

/-- What take leaves. -/
def TakeIs (w : World) (B R base u mk : Nat) (hd : Nat → Value) (c : Nat → List Ent) (r : Ending) (w' : World) : Prop :=
  ∃ v, r = .returned v ∧ Hd w' B (hset (hdT hd R (u &&& mk) 64) R (.int .u64 ((clr u mk : Nat) : Int))) ∧ OwnF w' w.heap.size v (takeL c (u &&& mk) 64) ∧ Fr (fun k => k = B) w w' ∧ ∀ k, rowB v = some k → w.heap.size ≤ k
set_option maxHeartbeats 4000000 in
set_option maxRecDepth 100000 in
theorem rtake_any (B R base u mk : Nat) (hd : Nat → Value) (c : Nat → List Ent) (w : World) (h : Hd w B hd) (hR : R + 65 ≤ 263) (hu : hd R = .int .u64 u) (hub : u < B64) (hmb : mk < B64) (o : ∀ s, s < 64 → OwnF w base (hd (R + 1 + s)) (c s)) (hlen : ∀ p, p ≤ 64 → (takeL c (u &&& mk) p).length ≤ 100000) (hT : TabW w) (hT0 : 0 < w.heap.size) (hB0 : 0 < B) :
    Calls Tryd.prog 36 #[.pointer (some ⟨B, R, none⟩), .int .u64 mk] w (TakeIs w B R base u mk hd c) := by
  have hB64 : B64 = 18446744073709551616 := rfl
  obtain ⟨m, hm⟩ : ∃ m, u &&& mk = m := ⟨_, rfl⟩
  have hmlt : m < B64 := by rw [← hm]; exact Nat.lt_of_le_of_lt Nat.and_le_left hub
  have a1 : bits BinOp.and IntKind.u64 (u : Int) (mk : Int) = (m : Int) := by rw [← hm]; exact bits_and_u64_nat u mk hub hmb
  have a2 : bits BinOp.andNot IntKind.u64 (u : Int) (mk : Int) = ((clr u mk : Nat) : Int) := u64_andNot_nat u mk hub hmb
  obtain ⟨U, hU⟩ : ∃ U, clr u mk = U := ⟨_, rfl⟩
  rw [hU] at a2
  have HT : Aside (TakeIs w B R base u mk hd c = fun r w' => ∃ v, r = .returned v ∧ Hd w' B (hset (hdT hd R m 64) R (.int .u64 (U : Int))) ∧ OwnF w' w.heap.size v (takeL c m 64) ∧ Fr (fun k => k = B) w w' ∧ ∀ k, rowB v = some k → w.heap.size ≤ k) := by
    show _ = _
    funext r w'
    unfold TakeIs
    rw [hm, hU]
  rw [HT.out]
  rw [hm] at hlen
  have c0 := h.cell (k := R) (by omega)
  rw [hu] at c0
  have H : Aside (Hd w B hd) := h
  have O : Aside (∀ s, s < 64 → OwnF w base (hd (R + 1 + s)) (c s)) := o
  have LEN : Aside (∀ p, p ≤ 64 → (takeL c m p).length ≤ 100000) := hlen
  have TB : Aside (∀ W, Fr (fun k => k = B) w W → TabW W) := fun W hW j hj => by
    have := hT j hj
    rw [← this]
    exact World.cell?_of_block (hW.block 0 hT0 (by omega))
  have HU : Hid (hd R = .int .u64 u) := hu
  have ML : Aside (m < B64) := hmlt
  have tz : Aside (∀ (x : Nat) (W : World), x < B64 → x ≠ 0 → TabW W → Calls Tryd.prog 51 #[.int .u64 x] W fun e w' => e = .returned (.int .i64 (ctz 64 x : Nat)) ∧ w' = W) := fun x W h1 h2 h3 => tz_any x h1 h2 W h3
  clear h o hlen hT hu hub hmb hm hU HT hmlt
  go_enter Tryd.func36, Tryd.ntmps36
  go_wp2
  go_loopg [5, 6, 7] 64 (fun kx s5 s6 s7 wr => ∃ (p x : Nat) (va : Option Addr) (vn vc : Nat), s5 = .slice va vn vc ∧ s6 = .int .u64 x ∧ p ≤ 64 ∧ 64 - p ≤ kx ∧ Aside (x < B64 ∧ ∀ i, i < 64 → x.testBit i = (decide (p ≤ i) && m.testBit i)) ∧ Aside (Hd wr B (hdT hd R m p)) ∧ Aside (OwnF wr w.heap.size (.slice va vn vc) (takeL c m p)) ∧ Aside (Fr (fun k => k = B) w wr ∧ ∀ k, rowB (.slice va vn vc) = some k → w.heap.size ≤ k))
  case atStart =>
    refine ⟨0, m, none, 0, 0, rfl, rfl, by omega, by omega, ⟨ML.out, fun i _ => by simp⟩, H.out.congr fun k _ => (hdT_zero hd R m k).symm, ?_, ⟨Fr.refl _ _, fun k hk => by cases hk⟩⟩
    rw [takeL_zero]; exact OwnF.nil _ _
  case round =>
    obtain ⟨p, x, va, vn, vc, rfl, rfl, hp, hkx, XB, HD, OV, FR⟩ := hrel
    by_cases hx : x = 0
    · subst hx
      have hz : ∀ i, p ≤ i → i < 64 → m.testBit i = false := fun i h1 h2 => by
        have := XB.out.2 i h2
        rw [Nat.zero_testBit] at this
        simpa [h1] using this.symm
      have q1 := HD.out.cell (k := R) (by omega)
      rw [hdT_R, HU.out] at q1
      have q2 := HD.out.frozen R
      have bB := HD.out.lt
      have FIN : Aside (∃ v, Ending.returned (.slice va vn vc) = .returned v ∧ Hd (wr.setCell ⟨B, R, none⟩ (.int .u64 (U : Int))) B (hset (hdT hd R m 64) R (.int .u64 (U : Int))) ∧ OwnF (wr.setCell ⟨B, R, none⟩ (.int .u64 (U : Int))) w.heap.size v (takeL c m 64) ∧ Fr (fun k => k = B) w (wr.setCell ⟨B, R, none⟩ (.int .u64 (U : Int))) ∧ ∀ k, rowB v = some k → w.heap.size ≤ k) := by
        refine ⟨_, rfl, (HD.out.set R _).congr fun k hk => ?_, ?_, FR.out.1.trans (Fr.setCell (fun k => k = B) _ _ _ _ rfl) (fun j hj => .inl hj), FR.out.2⟩
        · unfold hset
          split
          · rfl
          · exact (hdT_skip hd R m hp hz k).symm
        · rw [takeL_skip c m hp hz]
          refine OV.out.of_block fun k hk => heap_setCell_other _ _ _ _ (fun e => ?_)
          have h1 := FR.out.2 k hk
          have h2 := H.out.lt
          rw [e] at h1
          exact absurd h1 (by show ¬ w.heap.size ≤ B; omega)
      clear HD OV FR XB hz
      go_wp2
      go_ret
      exact FIN.out
    · have hx0 : ¬ (x : Int) = 0 := by omega
      have hx1 : ((x : Int) != 0) = true := by simp; omega
      obtain ⟨t1, t2, t3, t4⟩ := ctz_spec x XB.out.1 hx
      have tzc := tz.out x wr XB.out.1 hx (TB.out wr FR.out.1)
      obtain ⟨q, hq⟩ : ∃ q, ctz 64 x = q := ⟨_, rfl⟩
      rw [hq] at t1 t2 t3 t4 tzc
      have hpq : p ≤ q := by
        have := XB.out.2 q t1
        rw [t2] at this
        simp at this
        exact this.1
      have hmq : m.testBit q = true := by
        have := XB.out.2 q t1
        rw [t2] at this
        simp at this
        exact this.2
      have hsk : ∀ i, p ≤ i → i < q → m.testBit i = false := fun i h1 h2 => by
        have := XB.out.2 i (by omega)
        rw [t3 i h2] at this
        simpa [h1] using this.symm
      have hq64 : (q : Int) < 64 := by omega
      obtain ⟨sa, sc, es, _, hs1, hs2, hsL⟩ := (O.out q t1).isL
      obtain ⟨sn, hsn⟩ : ∃ n, (c q).length = n := ⟨_, rfl⟩
      rw [hsn] at es
      have cq := HD.out.cell (k := R + 1 + q) (by omega)
      rw [hdT_at hd R m hpq, es] at cq
      have fq := HD.out.frozen (R + 1 + q)
      have hL2 : IsL wr sa sc (c q) := by
        have oq : OwnF wr base (hd (R + 1 + q)) (c q) := (O.out q t1).fr FR.out.1 (fun k hk e => Hd.ne H.out (O.out q t1) (by rw [hk, e]))
        obtain ⟨sa', sc', es', _, _, _, h'⟩ := oq.isL
        rw [es, hsn] at es'
        injection es' with e1 e2 e3
        rw [e1, e3]; exact h'
      have hl := LEN.out (q + 1) (by omega)
      rw [takeL_succ, if_pos hmq, takeL_skip c m hpq hsk, List.length_append] at hl
      obtain ⟨v2, w2, hr, o2, g2, n2⟩ := appF OV.out hL2 (by omega) FR.out.1.size 28
      obtain ⟨pa, pc, e2, _⟩ := o2.isL
      obtain ⟨pn, hpn⟩ : ∃ n, (takeL c m p ++ c q).length = n := ⟨_, rfl⟩
      rw [hpn] at e2
      subst e2
      rw [hsn] at hr
      have nB : rowB (.slice va vn vc) ≠ some B := fun e => by have := FR.out.2 B e; have := H.out.lt; omega
      have h2 : Hd w2 B (hdT hd R m p) := HD.out.of_block (g2.block B HD.out.lt (fun e => nB e.symm))
      have c2 := h2.cell (k := R + 1 + q) (by omega)
      rw [hdT_at hd R m hpq, es] at c2
      have f2 := h2.frozen (R + 1 + q)
      have bB := h2.lt
      have N1 : Aside (Hd (w2.setCell ⟨B, R + 1 + q, none⟩ nilV) B (hdT hd R m (q + 1))) := (h2.set _ nilV).congr fun k hk => by
        rw [← hdT_step hd R m q hmq k]
        unfold hset
        split
        · rfl
        · exact (hdT_skip hd R m hpq hsk k).symm
      have rn : ∀ k, rowB (.slice pa pn pc) = some k → w.heap.size ≤ k := fun k hk => by
        rcases n2 k hk with x | x
        · exact FR.out.2 k x
        · have := FR.out.1.size; omega
      have N2 : Aside (OwnF (w2.setCell ⟨B, R + 1 + q, none⟩ nilV) w.heap.size (.slice pa pn pc) (takeL c m (q + 1))) := by
        show OwnF _ _ _ _
        rw [takeL_succ, if_pos hmq, takeL_skip c m hpq hsk]
        refine o2.of_block fun k hk => heap_setCell_other _ _ _ _ (fun e => ?_)
        have h1 := rn k hk
        have h2 := H.out.lt
        rw [e] at h1
        exact absurd h1 (by show ¬ w.heap.size ≤ B; omega)
      have N3 : Aside (Fr (fun k => k = B) w (w2.setCell ⟨B, R + 1 + q, none⟩ nilV) ∧ ∀ k, rowB (.slice pa pn pc) = some k → w.heap.size ≤ k) :=
        ⟨(FR.out.1.trans (Fr.of_grown g2) (fun j hj => .inr (FR.out.2 j hj))).trans (Fr.setCell (fun k => k = B) _ _ _ _ rfl) (fun j hj => .inl hj), rn⟩
      have hxb : x &&& (x - 1) < B64 := Nat.lt_of_le_of_lt Nat.and_le_left XB.out.1
      have N4 : Aside (x &&& (x - 1) < B64 ∧ ∀ i, i < 64 → (x &&& (x - 1)).testBit i = (decide (q + 1 ≤ i) && m.testBit i)) := by
        refine ⟨hxb, fun i hi => ?_⟩
        rw [t4 i, XB.out.2 i hi]
        by_cases c1 : i = q
        · subst c1; rw [decide_eq_false (show ¬ i + 1 ≤ i by omega)]; simp
        · by_cases c2 : i < q
          · have : x.testBit i = false := t3 i c2
            rw [XB.out.2 i hi] at this
            rw [this]
            simp
            omega
          · have c3 : p ≤ i := by omega
            have c4 : q + 1 ≤ i := by omega
            simp [c1, c3, c4]
      have e3 : bits BinOp.and IntKind.u64 (x : Int) ((x : Int) - 1) = ((x &&& (x - 1) : Nat) : Int) := by
        rw [show (x : Int) - 1 = ((x - 1 : Nat) : Int) by omega]
        exact bits_and_u64_nat x (x - 1) XB.out.1 (by have hx2 : x < 18446744073709551616 := XB.out.1; omega)
      have hx64 : x ≤ 18446744073709551615 := by have hx2 : x < 18446744073709551616 := XB.out.1; omega
      obtain ⟨X, hX⟩ : ∃ X, x &&& (x - 1) = X := ⟨_, rfl⟩
      rw [hX] at e3 N4
      clear HD OV FR XB h2 o2 g2 n2 t2 t3 t4 hmq hsk hsL hL2 hl nB rn hxb hX fq hq es hs1 hs2 hsn hpn
      go_wp2_with (first | (go_at_call 51; refine tzc.mono ?_; rintro e w' ⟨rfl, hw'⟩; obtain rfl : wr = w' := hw'.symm) | (at_builtin; refine Lib.wpList_append_run wr rfl _ _ 28 28 rfl _ _ rfl rfl _ w2 hr ?_))
      go_roundg (64 - (q + 1))
      case measure => omega
      case rel => exact ⟨q + 1, X, pa, pn, pc, rfl, rfl, by omega, Nat.le_refl _, N4, N1, N2, N3⟩

set_option maxHeartbeats 2000000 in
theorem least_any (B R q : Nat) (u : Nat) (hd : Nat → Value) (y : Ent) (d : List Ent) (base : Nat) (w : World) (h : Hd w B hd) (hR : R + 65 ≤ 263) (hu : hd R = .int .u64 u) (hub : u < B64) (hu0 : u ≠ 0) (hq : ctz 64 u = q) (o : OwnF w base (hd (R + 1 + q)) (y :: d)) (hl : d.length ≤ 100000) (hT : TabW w) :
    Calls Tryd.prog 45 #[.pointer (some ⟨B, R, none⟩)] w fun e w' => e = .returned (.int .u64 (minE d y).1) ∧ Below w.heap.size w w' := by
  have q64 := (ctz_spec u hub hu0).1
  rw [hq] at q64
  have tz := fun W (hW : TabW W) => tz_any u hub hu0 W hW
  rw [hq] at tz
  have tzw := tz w.drew hT
  obtain ⟨sa, sc, es, -, hs1, hs2, hsL⟩ := o.isL
  have mn := min_any sa sc y d w.drew (hsL.below ((Below.refl _ _).drew)) hl
  obtain ⟨n, hn⟩ : ∃ n, d.length = n := ⟨_, rfl⟩
  simp only [List.length_cons, hn] at es mn
  have c1 := h.cell (k := R) (by omega)
  rw [hu] at c1
  have c2 := h.cell (k := R + 1 + q) (by omega)
  rw [es] at c2
  obtain ⟨M, hM⟩ : ∃ M, minE d y = M := ⟨_, rfl⟩
  rw [hM] at mn ⊢
  have TW : Aside (Calls Tryd.prog 51 #[.int .u64 u] w.drew fun e w' => e = .returned (.int .i64 (q : Int)) ∧ w' = w.drew) := tzw
  have MN : Aside (Calls Tryd.prog 66 #[.slice sa (n + 1) sc, .func (.func 25) #[] #[]] w.drew fun e w' => e = .returned (.agg #[.int .u64 M.1, .int .i64 M.2]) ∧ Below w.drew.heap.size w.drew w') := mn
  have hq1 : (q : Int) < 64 := by omega
  have fieldT : ∀ (a b : Value) (W : World), (Instr.field 33 (.agg #[a, b]) 0).run Tryd.prog W = .ok a W := fun _ _ _ => by kernel_rfl
  have K : Aside (∀ W, Below w.heap.size w W → W.cell? ⟨B, R, none⟩ = some (.int .u64 u) ∧ W.cell? ⟨B, R + 1 + q, none⟩ = some (.slice sa (n + 1) sc)) := fun W hW => ⟨(hW.cell (p := ⟨B, R, none⟩) h.lt).trans c1, (hW.cell (p := ⟨B, R + 1 + q, none⟩) h.lt).trans c2⟩
  have g0 : Below w.heap.size w w.drew := (Below.refl _ _).drew
  have mx := mixed
  clear h o hs1 hs2 hsL hu hub hu0 hq hT tz tzw mn es hM hn
  go_enter Tryd.func45, Tryd.ntmps45
  go_wp2_with fail
  go_region_held3 (fun W => W.cell? ⟨B, R, none⟩ = some (.int .u64 u) ∧ W.cell? ⟨B, R + 1 + q, none⟩ = some (.slice sa (n + 1) sc)) (first | with_reducible exact K.out _ g0 | with_reducible exact K.out _ g1)
    (first | (go_at_call 51; (with_reducible refine Calls.mono TW.out ?_); rintro e w1 ⟨rfl, rfl⟩) | (go_at_call 66; (with_reducible refine Calls.mono MN.out ?_); rintro e w1 ⟨rfl, b1⟩; have g1 : Below w.heap.size w w1 := g0.trans b1))
  have G1 : Aside (Below w.heap.size w w1) := g1
  clear b1 g1
  go_wp2
  go_ret
  exact ⟨rfl, G1.out⟩
end Go.Proofs.YtbopobgnmkhabaaDoor
