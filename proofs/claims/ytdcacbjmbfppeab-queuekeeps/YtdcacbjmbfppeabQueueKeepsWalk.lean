/- The walk of 'QueueKeeps'. -/
import Derived.Test.YtdcacbjmbfppeabQKp
import Derived.Test.YtdcacbjmbfppeabQO
import Derived.Test.YtdcacbjmbfppeabQA
import Derived.Test.YtdcacbjmbfppeabQW
import Derived.Test.YtdcacbjmbfppeabQIn
import Derived.Test.YtdcacbjmbfppeabMask
import Derived.Deep.QuietTactic
import Derived.BigQuiet
import Derived.Deep.LoopGhost
import Derived.Deep.CutBlock
import Derived.Deep.DeepCutAuto
import Derived.Deep.RegionHeld3
namespace Go.Proofs.Ytdcacbjmbfppeab
open Go.RowKit Go.Lib Go.Sort
set_option linter.unusedVariables false

/-- An array of n bools. -/
def ArrB (U : TypeId) (w : World) (G n : Nat) (g : Nat → Bool) : Prop := ∃ cs : Array Value, w.heap[G]? = some (.cells cs U (0, 0)) ∧ cs.size = n ∧ ∀ t, t < n → cs[t]? = some (.bool (g t))
theorem ArrB.lt {U : TypeId} {w : World} {G n : Nat} {g : Nat → Bool} (h : ArrB U w G n g) : G < w.heap.size := by
  obtain ⟨cs, h1, h2⟩ := h
  exact lt_of_block h1
theorem ArrB.below {U : TypeId} {w w' : World} {G n : Nat} {g : Nat → Bool} (h : ArrB U w G n g) (hw : Below w.heap.size w w') : ArrB U w' G n g := by
  have l := h.lt
  obtain ⟨cs, h1, h2⟩ := h
  exact ⟨cs, (hw.block G l).trans h1, h2⟩
theorem ArrB.went {U : TypeId} {w w' : World} {G n base : Nat} {g : Nat → Bool} (h : ArrB U w G n g) (hw : Went base w w') (hU : ¬ MQ U) : ArrB U w' G n g := by
  obtain ⟨cs, h1, h2⟩ := h
  exact ⟨cs, hw.block h1 hU, h2⟩
theorem ArrB.cell {U : TypeId} {w : World} {G n : Nat} {g : Nat → Bool} (h : ArrB U w G n g) {t : Nat} (ht : t < n) : w.cell? ⟨G, t, none⟩ = some (.bool (g t)) ∧ w.frozen? ⟨G, t, none⟩ = false := by
  obtain ⟨cs, h1, h2, h3⟩ := h
  exact ⟨by rw [cell_of_row _ _ _ _ _ _ h1]; exact h3 t ht, by simp [World.frozen?, h1]⟩
theorem ArrB.set {U : TypeId} {w : World} {G n : Nat} {g : Nat → Bool} (h : ArrB U w G n g) {t : Nat} (ht : t < n) (b : Bool) : ArrB U (w.setCell ⟨G, t, none⟩ (.bool b)) G n (setN g t b) := by
  obtain ⟨cs, h1, h2, h3⟩ := h
  refine ⟨cs.setIfInBounds t (.bool b), ?_, by simpa using h2, fun i hi => ?_⟩
  · rw [setCell_eq_setRow w G t cs _ (0, 0) _ h1]; exact setRow_heap w G cs _ _ (0, 0) h1
  · unfold setN
    by_cases e : i = t
    · subst e
      rw [if_pos rfl, Array.getElem?_setIfInBounds, if_pos rfl, if_pos (by omega)]
    · rw [if_neg e, Array.getElem?_setIfInBounds, if_neg (by omega)]
      exact h3 i hi
theorem arr0 (w : World) : ArrB 27 (w.alloc (.cells #[.bool false, .bool false, .bool false, .bool false, .bool false, .bool false, .bool false, .bool false, .bool false, .bool false, .bool false, .bool false, .bool false, .bool false, .bool false, .bool false, .bool false, .bool false, .bool false, .bool false, .bool false, .bool false, .bool false, .bool false, .bool false, .bool false, .bool false, .bool false, .bool false, .bool false, .bool false, .bool false, .bool false, .bool false, .bool false, .bool false, .bool false, .bool false, .bool false, .bool false, .bool false, .bool false, .bool false, .bool false, .bool false, .bool false, .bool false, .bool false, .bool false, .bool false, .bool false, .bool false, .bool false, .bool false, .bool false, .bool false, .bool false, .bool false, .bool false, .bool false, .bool false] 27)) w.heap.size 61 (fun _ => false) := by
  refine ⟨_, heap_alloc_new w _, rfl, fun t ht => ?_⟩
  have e : (#[.bool false, .bool false, .bool false, .bool false, .bool false, .bool false, .bool false, .bool false, .bool false, .bool false, .bool false, .bool false, .bool false, .bool false, .bool false, .bool false, .bool false, .bool false, .bool false, .bool false, .bool false, .bool false, .bool false, .bool false, .bool false, .bool false, .bool false, .bool false, .bool false, .bool false, .bool false, .bool false, .bool false, .bool false, .bool false, .bool false, .bool false, .bool false, .bool false, .bool false, .bool false, .bool false, .bool false, .bool false, .bool false, .bool false, .bool false, .bool false, .bool false, .bool false, .bool false, .bool false, .bool false, .bool false, .bool false, .bool false, .bool false, .bool false, .bool false, .bool false, .bool false] : Array Value) = Array.replicate 61 (.bool false) := rfl
  rw [e, Array.getElem?_replicate, if_pos ht]
theorem mq_arr : ¬ MQ 27 := by unfold MQ; decide
theorem qty_arr : ¬ QTy 27 := by unfold QTy; decide
theorem mq_op : ¬ MQ 30 := by unfold MQ; decide
theorem fr_set (w : World) (B o : Nat) (a : Value) : Fr (fun k => k = B) w (w.setCell ⟨B, o, none⟩ a) :=
  ⟨by simp [World.setCell], fun k hk hx => by
    have e : ¬ B = k := fun e => hx e.symm
    simp [World.setCell, Array.getElem?_modify, e]⟩
theorem box5 {w : World} {O : Nat} {a b c d e : Value} {U : TypeId} (h : w.heap[O]? = some (.cells #[a, b, c, d, e] U (0, 0))) :
    w.cell? ⟨O, 0, none⟩ = some a ∧ w.cell? ⟨O, 1, none⟩ = some b ∧ w.cell? ⟨O, 2, none⟩ = some c ∧ w.cell? ⟨O, 3, none⟩ = some d ∧ w.cell? ⟨O, 4, none⟩ = some e := by
  refine ⟨?_, ?_, ?_, ?_, ?_⟩ <;> (rw [cell_of_row _ _ _ _ _ _ h]; rfl)
/-- What stands there behind i rounds. -/
structure KpM (w : World) (S G : Nat) (A : QAd) (T K i n : Nat) (th : Nat → Bool) (wx : World) : Prop where
  que : ∃ s, Que wx S A T K s ∧ KpI T K i n th s
  arr : ArrB 27 wx G 61 th
  low : Below S w wx
theorem KpM.on {w : World} {S G : Nat} {A : QAd} {T K i n : Nat} {th : Nat → Bool} {wx wy : World} (h : KpM w S G A T K i n th wx) (hS : S ≤ wx.heap.size) (hb : Below wx.heap.size wx wy) : KpM w S G A T K i n th wy := by
  obtain ⟨s, q, k⟩ := h.que
  exact ⟨⟨s, q.below hb, k⟩, h.arr.below hb, h.low.trans (hb.mono hS)⟩
/-- A store into the array. -/
theorem KpM.store {w : World} {S G : Nat} {A : QAd} {T K i n t : Nat} {th th' : Nat → Bool} {s : QSt} {wx : World} {b : Bool} (q : Que wx S A T K s) (k : KpI T K i n th' s) (a : ArrB 27 wx G 61 th) (lo : Below S w wx) (hG : S ≤ G) (ht : t < 61) (e : setN th t b = th') : KpM w S G A T K i n th' (wx.setCell ⟨G, t, none⟩ (.bool b)) := by
  have a2 := a.set ht b
  rw [e] at a2
  obtain ⟨cs, h1, _⟩ := a
  exact ⟨⟨s, q.other (fr_set _ _ _ _) h1 qty_arr (by decide), k⟩, a2, lo.trans ((Below.refl _ _).setCell (by show S ≤ G; exact hG) _)⟩

set_option maxHeartbeats 8000000 in
set_option maxRecDepth 100000 in
theorem queueKeeps_walk (a b : Int) (a2 : Option Addr) (len2 cap2 : Nat) (Z : Nat → Nat → Int) (w : World) (wa : (Lit.int .i64 a).wf = true) (wb : (Lit.int .i64 b).wf = true) (h2 : IsRecs opKs w a2 len2 Z) :
    Calls Try.prog 3 #[.int .i64 a, .int .i64 b, .slice a2 len2 cap2] w fun r w' => r = .returned (.bool true) ∧ Below w.heap.size w w' := by
  obtain ⟨S, hS⟩ : ∃ S, w.heap.size = S := ⟨_, rfl⟩
  obtain ⟨T1, hT1, T18⟩ : ∃ N : Nat, bits .and .i64 a 7 = (N : Int) ∧ N < 8 := by
    have := mask_i64 a 3 7 8 (by omega) rfl rfl
    exact ⟨(a % 8).toNat, by rw [this]; omega, by omega⟩
  obtain ⟨K, hK0, K15⟩ : ∃ N : Nat, bits .and .i64 b 15 = (N : Int) ∧ N < 16 := by
    have := mask_i64 b 4 15 16 (by omega) rfl rfl
    exact ⟨(b % 16).toNat, by rw [this]; omega, by omega⟩
  obtain ⟨T, hT⟩ : ∃ N : Nat, T1 + 1 = N := ⟨_, rfl⟩
  have h1 : 1 ≤ T := by omega
  have h8 : T ≤ 8 := by omega
  have hK : K ≤ 16 := by omega
  have hT2 : IntKind.i64.wrap ((T1 : Int) + 1) = (T : Int) := by rw [IntKind.wrap_i64]; omega
  have hl2 := h2.len_le
  have H2 : Aside (IsRecs opKs w a2 len2 Z) := h2
  have nw := qnew_in T K w h1 h8 hK
  have HS : Hid _ := hS
  clear wa wb hT h2
  go_enter Try.func3, Try.ntmps3
  go_wp2_with fail
  refine nw.mono ?_
  rintro r w1 ⟨A, rfl, q1, b1⟩
  rw [hS] at q1 b1
  obtain ⟨G, hG⟩ : ∃ G, w1.heap.size = G := ⟨_, rfl⟩
  have SG : S ≤ G := by rw [← hG]; have := b1.size; omega
  obtain ⟨w2, hw2⟩ : ∃ W, w1.alloc (.cells #[.bool false, .bool false, .bool false, .bool false, .bool false, .bool false, .bool false, .bool false, .bool false, .bool false, .bool false, .bool false, .bool false, .bool false, .bool false, .bool false, .bool false, .bool false, .bool false, .bool false, .bool false, .bool false, .bool false, .bool false, .bool false, .bool false, .bool false, .bool false, .bool false, .bool false, .bool false, .bool false, .bool false, .bool false, .bool false, .bool false, .bool false, .bool false, .bool false, .bool false, .bool false, .bool false, .bool false, .bool false, .bool false, .bool false, .bool false, .bool false, .bool false, .bool false, .bool false, .bool false, .bool false, .bool false, .bool false, .bool false, .bool false, .bool false, .bool false, .bool false, .bool false] 27) = W := ⟨_, rfl⟩
  have b2 : Below w1.heap.size w1 w2 := by rw [← hw2]; exact (Below.refl _ _).alloc (Nat.le_refl _) _
  have K0 : Aside (KpM w S G A T K 0 0 (fun _ => false) w2) := ⟨⟨newQ, q1.below b2, kp_new T K⟩, by rw [← hw2, ← hG]; exact arr0 w1, b1.trans (b2.mono (by omega))⟩
  have HW2 : Hid _ := hw2
  clear nw q1 b1 b2 hw2 hT1 hT2 hK0 hS
  go_wp2_with fail
  rw [HW2.out]
  clear HW2
  go_loopg [10, 11] 61 (fun kx s10 s11 wx => ∃ (i n : Nat) (th : Nat → Bool), s11 = .int .i64 i ∧ s10 = .int .i64 n ∧ i ≤ 60 ∧ n ≤ i ∧ 61 - i ≤ kx ∧ Aside (KpM w S G A T K i n th wx))
  case atStart => exact ⟨0, 0, _, rfl, rfl, by omega, by omega, by omega, K0⟩
  case round =>
    clear K0
    obtain ⟨i, n, th, rfl, rfl, hi, hn, hix, P⟩ := hrel
    obtain ⟨wo, hwo⟩ : ∃ x : World, x = wr := ⟨_, rfl⟩
    subst hwo
    have Sw : S ≤ wo.heap.size := by have := P.out.low.size; have := HS.out; omega
    have Gw : G < wo.heap.size := P.out.arr.lt
    by_cases hlt : i < len2 ∧ i < 60
    · obtain ⟨hl1, hl3⟩ := hlt
      have hz1 : (i : Int) < (len2 : Int) := by omega
      have hz2 : (i : Int) < 60 := by omega
      have hz3 : decide ((i : Int) < (len2 : Int)) = true := decide_eq_true hz1
      obtain ⟨b, off, ha, hb, c0, c1, c2, c3, c4⟩ := H2.out.five hl1
      rw [HS.out] at hb
      have c0' := (P.out.low.cell (p := ⟨b, off + i * 5, none⟩) hb).trans c0
      have c1' := (P.out.low.cell (p := ⟨b, off + i * 5 + 1, none⟩) hb).trans c1
      have c2' := (P.out.low.cell (p := ⟨b, off + i * 5 + 2, none⟩) hb).trans c2
      have c3' := (P.out.low.cell (p := ⟨b, off + i * 5 + 3, none⟩) hb).trans c3
      have c4' := (P.out.low.cell (p := ⟨b, off + i * 5 + 4, none⟩) hb).trans c4
      obtain ⟨kind, hkind⟩ : ∃ z, Z i 0 = z := ⟨_, rfl⟩
      obtain ⟨tz, htz⟩ : ∃ z, Z i 1 = z := ⟨_, rfl⟩
      obtain ⟨dz, hdz⟩ : ∃ z, Z i 2 = z := ⟨_, rfl⟩
      obtain ⟨ky, hky⟩ : ∃ z, Z i 3 = z := ⟨_, rfl⟩
      obtain ⟨dw, hdw⟩ : ∃ z, Z i 4 = z := ⟨_, rfl⟩
      rw [hkind] at c0'
      rw [htz] at c1'
      rw [hdz] at c2'
      rw [hky] at c3'
      rw [hdw] at c4'
      subst ha
      clear c0 c1 c2 c3 c4 hb hkind htz hdz hky hdw
      obtain ⟨O, hO⟩ : ∃ O, wo.heap.size = O := ⟨_, rfl⟩
      obtain ⟨u, hu⟩ : ∃ u, wo.alloc (.cells #[.int .i64 kind, .int .i64 tz, .int .i64 dz, .int .u64 ky, .int .u64 dw] 30) = u := ⟨_, rfl⟩
      have bu : Below wo.heap.size wo u := by rw [← hu]; exact (Below.refl _ _).alloc (Nat.le_refl _) _
      have XO : Aside (u.heap[O]? = some (.cells #[.int .i64 kind, .int .i64 tz, .int .i64 dz, .int .u64 ky, .int .u64 dw] 30 (0, 0))) := by rw [← hu, ← hO]; exact heap_alloc_new wo _
      have PU : Aside (KpM w S G A T K i n th u) := P.out.on Sw bu
      have Su : S ≤ u.heap.size := Nat.le_trans Sw bu.size
      have HU : Hid _ := hu
      clear hu bu P
      go_upto_block 2 with fail
      rw [HU.out]
      try rw [hO]
      clear c0' c1' c2' c3' c4' hO HU
      obtain ⟨y0, y1, y2, y3, y4⟩ := box5 XO.out
      obtain ⟨X, hX, X1⟩ : ∃ X : Nat, bits .and .i64 tz 7 = (X : Int) ∧ X < 8 := by
        have := mask_i64 tz 3 7 8 (by omega) rfl rfl
        exact ⟨(tz % 8).toNat, by rw [this]; omega, by omega⟩
      obtain ⟨t, ht⟩ : ∃ t, X % T = t := ⟨_, rfl⟩
      have tT : t < T := by rw [← ht]; exact Nat.mod_lt _ (by omega)
      have ww4 : (X : Int) % (T : Int) = (t : Int) := by rw [← ht]; rfl
      have ww3 : Int.tmod (X : Int) (T : Int) = (t : Int) := by rw [← ht]; rfl
      have ww6 : ¬ (T : Int) = 0 := by omega
      have ww7 : ((T : Int) == 0) = false := by simp; omega
      clear ht
      go_cut [10, 13, 14] (fun s10 s13 s14 wx => ∃ (n' : Nat) (th' : Nat → Bool), s10 = .int .i64 n' ∧ KpM w S G A T K (i + 1) n' th' wx)
      case first =>
        by_cases k01 : kind = 0 ∨ kind = 1
        · obtain ⟨s, q, kp⟩ := PU.out.que
          have i1w : IntKind.i64.wrap ((i : Int) + 1) = (i : Int) + 1 := by rw [IntKind.wrap_i64]; omega
          have n1w : IntKind.i64.wrap ((n : Int) + 1) = (n : Int) + 1 := by rw [IntKind.wrap_i64]; omega
          have bd : Below u.heap.size u u.drew := (Below.refl _ _).drew
          obtain ⟨sl, ow, sh, v, ok, l⟩ := kp
          have p1 : Aside (Calls Try.prog 5 #[ptr A.B, .int .i64 t, .agg #[.int .u64 ky, .int .i64 ((i : Int) + 1)]] u.drew fun r w' => r = .returned (.int .i64 0) ∧ Que w' S A T K (putQ K s t (ky, (i : Int) + 1)) ∧ Went S u.drew w') := put_in u.drew S A T K i s t ky ((i : Int) + 1) (q.below bd) ok (by omega) hK tT Su
          have k2 : Aside (KpI T K (i + 1) (n + 1) (setN th (i + 1) true) (putQ K s t (ky, (i : Int) + 1))) := kp_put ⟨sl, ow, sh, v, ok, l⟩ tT hK ky
          have ar : Aside (ArrB 27 u.drew G 61 th) := PU.out.arr.below bd
          have lo : Aside (Below S w u.drew) := PU.out.low.trans (bd.mono Su)
          have KC : Aside (∀ W : World, Went S u.drew W → W.cell? ⟨O, 1, none⟩ = some (.int .i64 tz) ∧ W.cell? ⟨O, 3, none⟩ = some (.int .u64 ky)) := fun W hW => by
            have := box5 (hW.block (show u.drew.heap[O]? = _ from XO.out) mq_op)
            exact ⟨this.2.1, this.2.2.2.1⟩
          have g0 : Went S u.drew u.drew := Went.refl _ _
          have mx := mixed
          have wt : IntKind.i64.wrap (t : Int) = (t : Int) := by rw [IntKind.wrap_i64]; omega
          have ww8 : ¬ T = 0 := by omega
          have i1 : (i : Int) + 1 < 61 := by omega
          have i1n : ((i : Int) + 1).toNat = i + 1 := by omega
          have i1p : (0 : Int) ≤ (i : Int) + 1 := by omega
          clear q v ok l PU
          rcases k01 with k0 | k0
          · subst k0
            as_aux_lemma =>
              go_upto_region 21 with fail
              go_region_held3 (fun W => W.cell? ⟨O, 1, none⟩ = some (.int .i64 tz) ∧ W.cell? ⟨O, 3, none⟩ = some (.int .u64 ky)) (first | with_reducible exact KC.out _ g0 | with_reducible exact KC.out _ g8)
                ((go_at_call 5; (with_reducible refine Calls.mono p1.out ?_); rintro r_ w8 ⟨rfl, q8, g8⟩))
              have ar8 := ar.out.went g8 mq_arr
              obtain ⟨ac, af⟩ := ar8.cell (t := i + 1) (by omega)
              have M : Aside (KpM w S G A T K (i + 1) (n + 1) (setN th (i + 1) true) (w8.setCell ⟨G, i + 1, none⟩ (.bool true))) := KpM.store q8 k2.out ar8 (lo.out.trans g8.low) SG (by omega) rfl
              have Gl : G < w8.heap.size := ar8.lt
              clear q8 g8 ar8 g0 KC p1 y0 y1 y2 y3 y4
              go_wp2_with fail
              go_meet
              exact ⟨n + 1, _, by go_num, M.out⟩
          · subst k0
            as_aux_lemma =>
              go_upto_region 21 with fail
              go_region_held3 (fun W => W.cell? ⟨O, 1, none⟩ = some (.int .i64 tz) ∧ W.cell? ⟨O, 3, none⟩ = some (.int .u64 ky)) (first | with_reducible exact KC.out _ g0 | with_reducible exact KC.out _ g8)
                ((go_at_call 5; (with_reducible refine Calls.mono p1.out ?_); rintro r_ w8 ⟨rfl, q8, g8⟩))
              have ar8 := ar.out.went g8 mq_arr
              obtain ⟨ac, af⟩ := ar8.cell (t := i + 1) (by omega)
              have M : Aside (KpM w S G A T K (i + 1) (n + 1) (setN th (i + 1) true) (w8.setCell ⟨G, i + 1, none⟩ (.bool true))) := KpM.store q8 k2.out ar8 (lo.out.trans g8.low) SG (by omega) rfl
              have Gl : G < w8.heap.size := ar8.lt
              clear q8 g8 ar8 g0 KC p1 y0 y1 y2 y3 y4
              go_wp2_with fail
              go_meet
              exact ⟨n + 1, _, by go_num, M.out⟩
        · have m0 : ¬ kind = 0 := fun h => k01 (.inl h)
          have m1 : ¬ kind = 1 := fun h => k01 (.inr h)
          clear k01
          by_cases k2 : kind = 2
          · subst k2
            as_aux_lemma =>
              obtain ⟨s, q, kp⟩ := PU.out.que
              obtain ⟨sl, ow, sh, v, ok, l⟩ := kp
              obtain ⟨f, hf⟩ : ∃ f, (s.g t).f = f := ⟨_, rfl⟩
              have st := settle_in u S A T K i s t f q ok (by omega) hK tT hf Su
              have k2 : Aside (KpI T K (i + 1) n th (settleQ K s t)) := kp_settle ⟨sl, ow, sh, v, ok, l⟩ tT hK
              have ar : Aside (ArrB 27 u G 61 th) := PU.out.arr
              have lo : Aside (Below S w u) := PU.out.low
              clear q v ok l PU hf
              go_wp2_with fail
              refine st.mono ?_
              rintro r w8 ⟨rfl, q8, g8⟩
              have M : Aside (KpM w S G A T K (i + 1) n th w8) := ⟨⟨_, q8, k2.out⟩, ar.out.went g8 mq_arr, lo.out.trans g8.low⟩
              clear st q8 g8 y0 y1 y2 y3 y4
              go_wp2_with fail
              go_meet
              exact ⟨n, th, rfl, M.out⟩
          · obtain ⟨j, hj, j63⟩ : ∃ X : Nat, bits .and .i64 dz 63 = (X : Int) ∧ X < 64 := by
              have := mask_i64 dz 6 63 64 (by omega) rfl rfl
              exact ⟨(dz % 64).toNat, by rw [this]; omega, by omega⟩
            obtain ⟨s, q, kp⟩ := PU.out.que
            obtain ⟨e1, e2, e3⟩ := kp_take kp j
            obtain ⟨sl, ow, sh, v, ok, l⟩ := kp
            have tk := take_any u S A T K i s (j : Int) q ok (by omega) hK h1 h8 Su
            have up : 60 < j → th j = false := fun h => l.up j (by omega)
            have ar : Aside (ArrB 27 u G 61 th) := PU.out.arr
            have lo : Aside (Below S w u) := PU.out.low
            rw [e1] at tk
            clear q v ok l PU e1
            by_cases j1 : 1 ≤ j
            · by_cases j2 : j ≤ 60
              · have d1 : (1 : Int) ≤ (j : Int) := by omega
                have d2 : (j : Int) ≤ 60 := by omega
                have d3 : decide ((1 : Int) ≤ (j : Int)) = true := decide_eq_true d1
                have d4 : decide ((j : Int) ≤ 60) = true := decide_eq_true d2
                have d5 : (j : Int) < 61 := by omega
                have d6 : (0 : Int) ≤ (j : Int) := by omega
                obtain ⟨ac, af⟩ := ar.out.cell (t := j) (by omega)
                rw [decide_eq_true j1, Bool.true_and] at tk e2 e3
                cases hB : th j with
                | true =>
                  as_aux_lemma =>
                    rw [hB] at tk e2 ac
                    obtain ⟨n0, k2⟩ := e2 rfl
                    have K2 : Aside (KpI T K (i + 1) (n - 1) (setN th j false) (takeQ s T (j : Int))) := k2
                    have n1w : IntKind.i64.wrap ((n : Int) - 1) = (n : Int) - 1 := by rw [IntKind.wrap_i64]; omega
                    clear e2 e3 k2 up
                    go_wp2_with fail
                    refine tk.mono ?_
                    rintro r w8 ⟨rfl, q8, g8⟩
                    have ar8 := ar.out.went g8 mq_arr
                    obtain ⟨ac8, af8⟩ := ar8.cell (t := j) (by omega)
                    have M : Aside (KpM w S G A T K (i + 1) (n - 1) (setN th j false) (w8.setCell ⟨G, j, none⟩ (.bool false))) := KpM.store q8 K2.out ar8 (lo.out.trans g8.low) SG (by omega) rfl
                    have Gl : G < w8.heap.size := ar8.lt
                    clear tk q8 g8 ar8 y0 y1 y2 y3 y4 ac af
                    go_wp2_with fail
                    go_meet
                    exact ⟨n - 1, _, by congr 1; omega, M.out⟩
                | false =>
                  as_aux_lemma =>
                    rw [hB] at tk e3 ac
                    have K2 : Aside (KpI T K (i + 1) n th (takeQ s T (j : Int))) := e3 rfl
                    clear e2 e3 up
                    go_wp2_with fail
                    refine tk.mono ?_
                    rintro r w8 ⟨rfl, q8, g8⟩
                    have M : Aside (KpM w S G A T K (i + 1) n th w8) := ⟨⟨_, q8, K2.out⟩, ar.out.went g8 mq_arr, lo.out.trans g8.low⟩
                    clear tk q8 g8 y0 y1 y2 y3 y4 ac af
                    go_wp2_with fail
                    go_meet
                    exact ⟨n, th, rfl, M.out⟩
              · have d1 : (1 : Int) ≤ (j : Int) := by omega
                have d2 : ¬ (j : Int) ≤ 60 := by omega
                have d3 : decide ((1 : Int) ≤ (j : Int)) = true := decide_eq_true d1
                have d4 : decide ((j : Int) ≤ 60) = false := decide_eq_false d2
                as_aux_lemma =>
                  have B0 : (decide (1 ≤ j) && th j) = false := by rw [up (by omega)]; simp
                  rw [B0] at tk
                  have K2 : Aside (KpI T K (i + 1) n th (takeQ s T (j : Int))) := e3 B0
                  clear e2 e3 up B0
                  go_wp2_with fail
                  refine tk.mono ?_
                  rintro r w8 ⟨rfl, q8, g8⟩
                  have M : Aside (KpM w S G A T K (i + 1) n th w8) := ⟨⟨_, q8, K2.out⟩, ar.out.went g8 mq_arr, lo.out.trans g8.low⟩
                  clear tk q8 g8 y0 y1 y2 y3 y4
                  go_wp2_with fail
                  go_meet
                  exact ⟨n, th, rfl, M.out⟩
            · have d1 : ¬ (1 : Int) ≤ (j : Int) := by omega
              have d3 : decide ((1 : Int) ≤ (j : Int)) = false := decide_eq_false d1
              as_aux_lemma =>
                have B0 : (decide (1 ≤ j) && th j) = false := by rw [decide_eq_false j1]; rfl
                rw [B0] at tk
                have K2 : Aside (KpI T K (i + 1) n th (takeQ s T (j : Int))) := e3 B0
                clear e2 e3 up B0
                go_wp2_with fail
                refine tk.mono ?_
                rintro r w8 ⟨rfl, q8, g8⟩
                have M : Aside (KpM w S G A T K (i + 1) n th w8) := ⟨⟨_, q8, K2.out⟩, ar.out.went g8 mq_arr, lo.out.trans g8.low⟩
                clear tk q8 g8 y0 y1 y2 y3 y4
                go_wp2_with fail
                go_meet
                exact ⟨n, th, rfl, M.out⟩
      case rest =>
        obtain ⟨n', th', rfl, M0⟩ := hcut
        have M : Aside (KpM w S G A T K (i + 1) n' th' wc) := M0
        have Sc : S ≤ wc.heap.size := by have := M0.low.size; have := HS.out; omega
        obtain ⟨s, q, kp⟩ := M0.que
        obtain ⟨e1, e2, e3, ka⟩ := kp_all kp
        obtain ⟨sl, ow, sh, v, ok, l⟩ := kp
        have al := qall_any wc S A T K (i + 1) s n' q ok (by omega) hK h1 h8 (by omega) e1
        obtain ⟨D, hD⟩ : ∃ D, sortE (listsQ s T).flatten = D := ⟨_, rfl⟩
        rw [hD] at al ka
        have KA : Aside (KpA (i + 1) n' th' D) := ka
        have LN : Aside (∀ W, Below wc.heap.size wc W → Calls Try.prog 9 #[ptr A.B] W fun r w' => r = .returned (.int .i64 n') ∧ Below W.heap.size W w') := fun W hW => by
          have := qlen_any W S A T K (i + 1) s (q.below hW) ok (by omega) hK h8
          rw [e2] at this
          exact this
        clear M0 q v ok l hD ka e1 e2 y0 y1 y2 y3 y4 PU XO hX ww3 ww4 ww6 ww7 X1
        go_wp2_with fail
        refine al.mono ?_
        rintro r w4 ⟨a4, c4, rfl, o4, b4⟩
        have O4 : Aside (OwnE w4 wc.heap.size (.slice a4 n' c4) D) := o4
        have B4 : Aside (Below wc.heap.size wc w4) := b4
        have ln := LN.out w4 b4
        clear al o4 b4
        go_wp2_with fail
        refine ln.mono ?_
        rintro r w5 ⟨rfl, b5⟩
        have O5 : Aside (OwnE w5 wc.heap.size (.slice a4 n' c4) D) := O4.out.below b5
        have B5 : Aside (Below wc.heap.size wc w5) := B4.out.trans (b5.mono B4.out.size)
        have il : IsL w5 a4 c4 D := by have o := O5.out; rw [← KA.out.len] at o; exact o.is
        have so := refSorted_any a4 c4 D w5 il
        rw [KA.out.len, (srtB_iff D).2 KA.out.srt] at so
        clear ln b5 O4 B4 LN il
        go_wp2_with fail
        refine so.mono ?_
        rintro r w6 ⟨rfl, g6⟩
        have O6 : Aside (OwnE w6 wc.heap.size (.slice a4 n' c4) D) := O5.out.below g6.below
        have B6 : Aside (Below wc.heap.size wc w6) := B5.out.trans (g6.below.mono B5.out.size)
        have K6 : Aside (KpM w S G A T K (i + 1) n' th' w6) := M.out.on Sc B6.out
        have S6 : S ≤ w6.heap.size := Nat.le_trans Sc B6.out.size
        clear so g6 O5 B5 M
        go_wp2_with fail
        go_loopg [16] n' (fun kx s16 wx => ∃ (q : Nat), s16 = .int .i64 q ∧ q ≤ n' ∧ n' - q ≤ kx ∧ Aside (Below w6.heap.size w6 wx))
        case atStart => exact ⟨0, rfl, by omega, by omega, Below.refl _ _⟩
        case round =>
          obtain ⟨q, rfl, hq, hqx, DY⟩ := hrel
          have szy := DY.out.size
          by_cases hlt4 : q < n'
          · have hy4 : (q : Int) < (n' : Int) := by omega
            have qA : q < D.length := by rw [KA.out.len]; exact hlt4
            obtain ⟨k, k1, k2, k3, k4⟩ := KA.out.mem q qA
            have il : IsL wr a4 c4 D := by have o := O6.out.below DY.out; rw [← KA.out.len] at o; exact o.is
            obtain ⟨ac, af⟩ := (K6.out.arr.below DY.out).cell (t := k) (by omega)
            rw [k4] at ac
            obtain ⟨gA, offA, haA, hgA, x0, x1⟩ := il.elem q D[q] (List.getElem?_eq_getElem qA)
            rw [k3] at x1
            have f2 : ∀ n, (wr.drewN n).cell? ⟨gA, offA + q * 2 + 1, none⟩ = some (.int .i64 (k : Int)) := fun _ => x1
            have f3 : ∀ n, (wr.drewN n).cell? ⟨G, k, none⟩ = some (.bool true) := fun _ => ac
            have p2 : (k : Int) < 61 := by omega
            have p1 : (0 : Int) ≤ (k : Int) := by omega
            subst haA
            by_cases q0 : 0 < q
            · have g0 : (0 : Int) < (q : Int) := by omega
              have qB : q - 1 < D.length := by omega
              obtain ⟨m, m1, m2, m3, m4⟩ := KA.out.mem (q - 1) qB
              have ne := KA.out.nd q qA qB q0
              rw [k3, m3] at ne
              obtain ⟨gB, offB, haB, hgB, z0, z1⟩ := il.elem (q - 1) D[q - 1] (List.getElem?_eq_getElem qB)
              injection haB with haB
              injection haB with haB1 haB2 _
              subst haB1 haB2
              rw [m3] at z1
              have f4 : ∀ n, (wr.drewN n).cell? ⟨gA, offA + (q - 1) * 2 + 1, none⟩ = some (.int .i64 (m : Int)) := fun _ => z1
              have q1w : IntKind.i64.wrap ((q : Int) - 1) = (q : Int) - 1 := by rw [IntKind.wrap_i64]; omega
              have q1n : ((q : Int) - 1).toNat = q - 1 := by omega
              have q1p : (0 : Int) ≤ (q : Int) - 1 := by omega
              have q1l : (q : Int) - 1 < (n' : Int) := by omega
              have swr : w6.heap.size ≤ wr.heap.size := szy
              clear x0 x1 z0 z1 ac af il m3 m4 k3 k4
              go_wp2_with fail
              go_quiet (fail)
              have DZ : Aside (Below w6.heap.size w6 (wr.drewN nq)) := DY.out.trans ((Grown.below ⟨nq, #[], by rw [grow_empty]⟩).mono swr)
              clear f2 f3 f4
              go_wp2
              go_roundg (n' - (q + 1))
              case measure => omega
              case rel => exact ⟨q + 1, by go_num, by omega, Nat.le_refl _, DZ⟩
            · have g0 : ¬ (0 : Int) < (q : Int) := by omega
              have swr : w6.heap.size ≤ wr.heap.size := szy
              clear x0 x1 ac af il k3 k4
              go_wp2_with fail
              go_quiet (fail)
              have DZ : Aside (Below w6.heap.size w6 (wr.drewN nq)) := DY.out.trans ((Grown.below ⟨nq, #[], by rw [grow_empty]⟩).mono swr)
              clear f2 f3
              go_wp2
              go_roundg (n' - (q + 1))
              case measure => omega
              case rel => exact ⟨q + 1, by go_num, by omega, Nat.le_refl _, DZ⟩
          · have hy4 : ¬ (q : Int) < (n' : Int) := by omega
            have K9 : Aside (KpM w S G A T K (i + 1) n' th' wr) := K6.out.on S6 DY.out
            clear K6 O6 DY
            go_wp2
            go_roundg (61 - (i + 1))
            case measure => omega
            case rel => exact ⟨i + 1, n', th', by go_num, rfl, by omega, e3, Nat.le_refl _, K9⟩
    · have aw := qawake_any wo
      have LOW : Aside (Below S w wo) := P.out.low
      have fin : Calls Try.prog 11 #[] wo _ := aw
      by_cases hz1 : (i : Int) < (len2 : Int)
      · have hz3 : decide ((i : Int) < (len2 : Int)) = true := decide_eq_true hz1
        have hz2 : ¬ (i : Int) < 60 := by omega
        go_wp2_with fail
        refine aw.mono ?_
        rintro r_ w3 ⟨rfl, b3⟩
        have D3 : Aside (Below S w w3) := LOW.out.trans (b3.mono Sw)
        clear aw fin b3
        go_wp2
        go_ret
        exact ⟨rfl, by first | exact D3.out | (rw [HS.out]; exact D3.out)⟩
      · have hz3 : decide ((i : Int) < (len2 : Int)) = false := decide_eq_false hz1
        go_wp2_with fail
        refine aw.mono ?_
        rintro r_ w3 ⟨rfl, b3⟩
        have D3 : Aside (Below S w w3) := LOW.out.trans (b3.mono Sw)
        clear aw fin b3
        go_wp2
        go_ret
        exact ⟨rfl, by first | exact D3.out | (rw [HS.out]; exact D3.out)⟩
end Go.Proofs.Ytdcacbjmbfppeab
