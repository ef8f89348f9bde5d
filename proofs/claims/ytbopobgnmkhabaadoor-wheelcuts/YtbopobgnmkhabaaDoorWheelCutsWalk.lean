/- The walk of 'WheelCuts'. -/
import Derived.Test.YtbopobgnmkhabaaDoorWhXc
import Derived.Test.YtbopobgnmkhabaaDoorWhY
import Derived.Test.YtbopobgnmkhabaaDoorRowAt
namespace Go.Proofs.YtbopobgnmkhabaaDoor
open Go.RowKit Go.Lib Go.Sort Go.WideMaps Go.Maps
set_option linter.unusedVariables false

theorem mask_u64 (n : Int) (k : Nat) (m K : Int) (hm : m = ((2 ^ k - 1 : Nat) : Int)) (hK : K = ((2 ^ k : Nat) : Int)) (hk : k ≤ 62) (h0 : 0 ≤ n) (h1 : n < 18446744073709551616) : bits .and .u64 n m = n % K := by
  have hp : (2 : Nat) ^ k ≤ 2 ^ 62 := Nat.pow_le_pow_right (by decide) hk
  have hp1 : 0 < (2 : Nat) ^ k := Nat.two_pow_pos k
  rw [u64_and n m h0 h1 (by omega) (by omega)]
  have e : m.toNat = 2 ^ k - 1 := by omega
  rw [e, Nat.and_two_pow_sub_one_eq_mod, hK, Int.natCast_emod, Int.toNat_of_nonneg h0]
theorem wfI_of {i : Int} (h1 : -9223372036854775808 ≤ i) (h2 : i ≤ 9223372036854775807) : wfI i := by
  unfold wfI
  simp [Lit.wf, IntKind.min, IntKind.max, IntKind.bits, IntKind.signed]
  omega
theorem due_split {now tt : Nat} (h : now ≤ tt) : ∀ {T : List Ent}, Srt T → dueL now T ++ dueL tt (restL now T) = dueL tt T
  | [], _ => rfl
  | x :: T, hs => by
    have hs' := List.pairwise_cons.1 hs
    by_cases hx : x.1 ≤ (now : Int)
    · have ih := due_split h hs'.2
      have h1 : x.1 ≤ (tt : Int) := by omega
      have h2 : ¬ (now : Int) < x.1 := by omega
      have e1 : dueL now (x :: T) = x :: dueL now T := by unfold dueL; rw [List.filter_cons_of_pos (by simp [hx])]
      have e2 : restL now (x :: T) = restL now T := by unfold restL; rw [List.filter_cons_of_neg (by simpa using hx)]
      have e3 : dueL tt (x :: T) = x :: dueL tt T := by unfold dueL; rw [List.filter_cons_of_pos (by simp [h1])]
      rw [e1, e2, e3, List.cons_append, ih]
    · have all : ∀ y ∈ x :: T, ¬ y.1 ≤ (now : Int) := fun y hy => by
        rcases List.mem_cons.1 hy with rfl | hy
        · exact hx
        · have := hs'.1 y hy
          unfold ltE at this
          by_cases e : y.1 = x.1
          · omega
          · rw [if_neg e] at this
            simp only [decide_eq_false_iff_not] at this
            omega
      have e1 : dueL now (x :: T) = [] := List.filter_eq_nil_iff.2 (fun y hy => by simpa using all y hy)
      have e2 : restL now (x :: T) = x :: T := List.filter_eq_self.2 (fun y hy => by have := all y hy; simp only [decide_eq_true_eq]; omega)
      rw [e1, e2]; rfl
theorem rest_rest {now tt : Nat} (h : now ≤ tt) (T : List Ent) : restL tt (restL now T) = restL tt T := by
  unfold restL
  rw [List.filter_filter]
  congr 1
  funext x
  by_cases hx : (tt : Int) < x.1
  · have : (now : Int) < x.1 := by omega
    simp [hx, this]
  · simp [hx]

/-- Two wheels side by side. -/
structure Two (w0 w : World) (Fa Fb : Nat → Prop) (A ba na : Nat) (Ta : List Ent) (B bb nb : Nat) (Tb : List Ent) : Prop where
  a : Wst w0 w Fa A ba na Ta
  b : Wst w0 w Fb B bb nb Tb
  ne : ∀ k, Fa k → ¬ Fb k
variable {w0 w w' : World} {Fa Fb : Nat → Prop} {A ba na B bb nb n i now : Nat} {T Ta Tb : List Ent} {v : Value}
theorem Two.goA (h : Two w0 w Fa Fb A ba na Ta B bb nb Tb) {na' : Nat} {Ta' : List Ent} (g : Wgo w0 w Fa A ba na' Ta' w') : ∃ Fa', Two w0 w' Fa' Fb A ba na' Ta' B bb nb Tb ∧ Fr Fa w w' ∧ ∀ k, Fa' k → Fa k ∨ w.heap.size ≤ k := by
  obtain ⟨F', q1, q2, q3⟩ := g
  refine ⟨F', ⟨q1, h.b.fr q2 (fun k hk => ⟨h.ne k hk, by have := (h.a.low hk).1; have := h.a.lo; omega⟩), fun k hk hb => ?_⟩, q2, q3⟩
  rcases q3 k hk with q | q
  · exact h.ne k q hb
  · have := (h.b.low hb).2; omega
theorem Two.goB (h : Two w0 w Fa Fb A ba na Ta B bb nb Tb) {nb' : Nat} {Tb' : List Ent} (g : Wgo w0 w Fb B bb nb' Tb' w') : ∃ Fb', Two w0 w' Fa Fb' A ba na Ta B bb nb' Tb' ∧ Fr Fb w w' ∧ ∀ k, Fb' k → Fb k ∨ w.heap.size ≤ k := by
  obtain ⟨F', q1, q2, q3⟩ := g
  refine ⟨F', ⟨h.a.fr q2 (fun k hk => ⟨fun ha => h.ne k ha hk, by have := (h.b.low hk).1; have := h.b.lo; omega⟩), q1, fun k hk hb => ?_⟩, q2, q3⟩
  rcases q3 k hb with q | q
  · exact h.ne k hk q
  · have := (h.a.low hk).2; omega
theorem Two.fr (h : Two w0 w Fa Fb A ba na Ta B bb nb Tb) {X : Nat → Prop} (hf : Fr X w w') (hx : ∀ k, X k → (¬ Fa k ∧ ¬ Fb k) ∧ w0.heap.size ≤ k) : Two w0 w' Fa Fb A ba na Ta B bb nb Tb :=
  ⟨h.a.fr hf (fun k hk => ⟨(hx k hk).1.1, (hx k hk).2⟩), h.b.fr hf (fun k hk => ⟨(hx k hk).1.2, (hx k hk).2⟩), h.ne⟩

/-- Between two rounds of the first loop. -/
def CutA (w wr : World) (A ba B bb i : Nat) : Prop := ∃ Fa Fb T, Two w wr Fa Fb A ba 0 T B bb 0 T ∧ T.length = i ∧ ∀ x ∈ T, x.2 ≤ (i : Int)
/-- .. when the first wheel has the new one, and the second has not. -/
def CutM (w wr : World) (A ba B bb i D : Nat) : Prop := ∃ Fa Fb T, Two w wr Fa Fb A ba 0 (addT T ((i : Int) + 1) D) B bb 0 T ∧ T.length = i ∧ ∀ x ∈ T, x.2 ≤ (i : Int)
/-- .. of the second loop: v has what was told. -/
def CutS (w wr : World) (A ba B bb now : Nat) (v : Value) : Prop := ∃ Fa Fb T, Two w wr Fa Fb A ba now (restL now T) B bb 0 T ∧ OwnF wr w.heap.size v (dueL now T) ∧ TOk T ∧ ∀ k, rowB v = some k → ¬ Fa k ∧ ¬ Fb k
/-- Behind it: both stand alike. -/
def CutE (w wr : World) (A ba B bb now m : Nat) : Prop := ∃ Fa Fb T, Two w wr Fa Fb A ba now T B bb now T ∧ T.length = m
theorem cut_add {T : List Ent} (hl : T.length = i) (hx : ∀ x ∈ T, x.2 ≤ (i : Int)) (hi : i < 500) (D : Nat) : addR T ((i : Int) + 1) = 0 ∧ (addT T ((i : Int) + 1) D).length = i + 1 ∧ ∀ x ∈ addT T ((i : Int) + 1) D, x.2 ≤ ((i + 1 : Nat) : Int) := by
  have e0 : dueOf T ((i : Int) + 1) = none := by
    cases e : dueOf T ((i : Int) + 1) with
    | none => rfl
    | some v => have := hx _ (dueOf_some e); simp only at this; omega
  have e1 : addR T ((i : Int) + 1) = 0 := by
    unfold addR
    rw [if_neg (by omega), e0, if_neg (by simp), if_neg (by omega)]
  refine ⟨e1, ?_⟩
  unfold addT
  rw [if_pos e1]
  refine ⟨by rw [insL_len, hl], fun x hy => ?_⟩
  rcases insL_mem.1 hy with rfl | hy
  · simp only; omega
  · have := hx x hy; omega
theorem CutA.addA (h : CutA w0 w A ba B bb i) (hi : i < 500) {D : Nat} (hD : D < B64) : Calls Tryd.prog 10 #[.pointer (some ⟨A, 0, none⟩), .int .i64 ((i : Int) + 1), .int .u64 (D : Int)] w fun e w' => e = .returned (.int .i64 0) ∧ CutM w0 w' A ba B bb i D := by
  obtain ⟨Fa, Fb, T, h1, h2, h3⟩ := h
  refine Calls.mono (h1.a.add (i := (i : Int) + 1) (D := D) (wfI_of (by omega) (by omega)) hD) ?_
  rintro e w' ⟨rfl, g⟩
  obtain ⟨Fa', q, -⟩ := h1.goA g
  exact ⟨by rw [(cut_add h2 h3 hi D).1], Fa', Fb, T, q, h2, h3⟩
theorem CutM.addB {D : Nat} (h : CutM w0 w A ba B bb i D) (hi : i < 500) (hD : D < B64) : Calls Tryd.prog 10 #[.pointer (some ⟨B, 0, none⟩), .int .i64 ((i : Int) + 1), .int .u64 (D : Int)] w fun e w' => e = .returned (.int .i64 0) ∧ CutA w0 w' A ba B bb (i + 1) := by
  obtain ⟨Fa, Fb, T, h1, h2, h3⟩ := h
  refine Calls.mono (h1.b.add (i := (i : Int) + 1) (D := D) (wfI_of (by omega) (by omega)) hD) ?_
  rintro e w' ⟨rfl, g⟩
  obtain ⟨Fb', q, -⟩ := h1.goB g
  exact ⟨by rw [(cut_add h2 h3 hi D).1], Fa, Fb', _, q, (cut_add h2 h3 hi D).2⟩
theorem Two.advA (h : Two w0 w Fa Fb A ba na Ta B bb nb Tb) {tt : Nat} (ht : tt < B64) (hn : na ≤ tt) : Calls Tryd.prog 11 #[.pointer (some ⟨A, 0, none⟩), .int .u64 (tt : Int)] w fun e w' => ∃ v, e = .returned v ∧ OwnF w' w.heap.size v (dueL tt Ta) ∧ ∃ Fa', Two w0 w' Fa' Fb A ba tt (restL tt Ta) B bb nb Tb ∧ Fr Fa w w' ∧ (∀ k, rowB v = some k → ¬ Fa' k ∧ ¬ Fb k) ∧ ∀ k, Fa' k → Fa k ∨ w.heap.size ≤ k := by
  have em : max na tt = tt := by omega
  refine Calls.mono (adv_own h.a.whl ht h.a.tabW (Nat.lt_of_lt_of_le h.a.pos h.a.lo) h.a.hi) ?_
  rw [em]
  rintro e w' ⟨v, rfl, q1, F', q2, q3, q4, q5⟩
  obtain ⟨F2, t1, t2, t3⟩ := h.goA (h.a.go ⟨F', q2, q3, q4⟩)
  have hg : ∃ Fa', Two w0 w' Fa' Fb A ba tt (restL tt Ta) B bb nb Tb ∧ Fa' = F' := by
    refine ⟨F', ⟨⟨q2, t1.a.bel, h.a.lo, Nat.le_trans h.a.hi q3.size, h.a.tab, h.a.pos⟩, t1.b, fun k hk hb => ?_⟩, rfl⟩
    rcases q4 k hk with q | q
    · exact h.ne k q hb
    · have := (h.b.low hb).2; omega
  obtain ⟨Fa', g1, rfl⟩ := hg
  exact ⟨v, rfl, q1, Fa', g1, q3, fun k hk => ⟨(q5 k hk).2, fun hb => by have := (h.b.low hb).2; have := (q5 k hk).1; omega⟩, q4⟩
theorem CutA.adv (h : CutA w0 w A ba B bb i) : Calls Tryd.prog 11 #[.pointer (some ⟨A, 0, none⟩), .int .u64 0] w fun e w' => ∃ a L cap, e = .returned (.slice a L cap) ∧ CutS w0 w' A ba B bb 0 (.slice a L cap) := by
  obtain ⟨Fa, Fb, T, h1, h2, h3⟩ := h
  refine Calls.mono (h1.advA (tt := 0) (by decide) (Nat.le_refl _)) ?_
  rintro e w' ⟨v, rfl, o, Fa', q1, q2, q3, q4⟩
  obtain ⟨a, cap, rfl, -, -, -, -⟩ := o.isL
  exact ⟨a, _, cap, rfl, Fa', Fb, T, q1, o.low h1.a.bel.size, h1.a.whl.ok, q3⟩
theorem CutS.adv {pa : Option Addr} {pn pc : Nat} (h : CutS w0 w A ba B bb now (.slice pa pn pc)) {tt : Nat} (ht : tt < B64) (hn : now ≤ tt) : Calls Tryd.prog 11 #[.pointer (some ⟨A, 0, none⟩), .int .u64 (tt : Int)] w fun e w' => ∃ a L cap pa' pn' pc' w2, e = .returned (.slice a L cap) ∧ (Builtin.append_ #[28, 28] 28 #[.slice pa pn pc, .slice a L cap]).run Tryd.prog w' = .ok (.slice pa' pn' pc') w2 ∧ CutS w0 w2 A ba B bb tt (.slice pa' pn' pc') := by
  obtain ⟨Fa, Fb, T, h1, h2, h3, h4⟩ := h
  refine Calls.mono (h1.advA ht hn) ?_
  rintro e w' ⟨v, rfl, o, Fa', q1, q2, q3, q4⟩
  obtain ⟨a, cap, rfl, -, -, -, il⟩ := o.isL
  have p1 : OwnF w' w0.heap.size (.slice pa pn pc) (dueL now T) := h2.fr q2 (fun k hk => (h4 k hk).1)
  have l1 : (dueL now T).length ≤ 1000 := Nat.le_trans (List.length_filter_le _ _) h3.len
  have l2 : (dueL tt (restL now T)).length ≤ 1000 := Nat.le_trans (List.length_filter_le _ _) (Nat.le_trans (List.length_filter_le _ _) h3.len)
  obtain ⟨v', w2, r1, r2, r3, r4⟩ := appF p1 il (by omega) (by have := q1.a.bel.size; omega) 28
  rw [due_split hn h3.srt] at r2
  obtain ⟨pa', pc', rfl, -, -, -, -⟩ := r2.isL
  have f0 : ∀ k, rowB (.slice pa pn pc) = some k → (¬ Fa' k ∧ ¬ Fb k) ∧ w0.heap.size ≤ k := fun k hk => ⟨⟨fun hf => by
    rcases q4 k hf with q | q
    · exact (h4 k hk).1 q
    · have := (h2.rowLt hk).2; omega, (h4 k hk).2⟩, (h2.rowLt hk).1⟩
  have t2 := q1.fr (Fr.of_grown r3) f0
  rw [rest_rest hn] at t2
  refine ⟨a, _, cap, pa', _, pc', w2, rfl, r1, Fa', Fb, T, t2, r2, h3, fun k hk => ?_⟩
  rcases r4 k hk with q | q
  · exact (f0 k q).1
  · exact ⟨fun hf => by have := (q1.a.low hf).2; omega, fun hf => by have := (q1.b.low hf).2; omega⟩
theorem CutS.advB {pa : Option Addr} {pn pc : Nat} (h : CutS w0 w A ba B bb now (.slice pa pn pc)) (ht : now < B64) : Calls Tryd.prog 11 #[.pointer (some ⟨B, 0, none⟩), .int .u64 (now : Int)] w fun e w' => ∃ a cap d m, e = .returned (.slice a pn cap) ∧ d.length = pn ∧ pn ≤ 1000 ∧ IsL w' a cap d ∧ IsL w' pa pc d ∧ CutE w0 w' A ba B bb now m := by
  obtain ⟨Fa, Fb, T, h1, h2, h3, h4⟩ := h
  have em : max 0 now = now := by omega
  refine Calls.mono (h1.b.advance ht) ?_
  rw [em]
  rintro e w' ⟨a, cap, rfl, il, g⟩
  obtain ⟨Fb', q1, q2, q3⟩ := h1.goB g
  have p1 : OwnF w' w0.heap.size (.slice pa pn pc) (dueL now T) := h2.fr q2 (fun k hk => (h4 k hk).2)
  obtain ⟨pa', pc', e, -, -, -, il2⟩ := p1.isL
  injection e with e1 e2 e3
  subst e1 e2 e3
  exact ⟨a, cap, _, _, rfl, rfl, Nat.le_trans (List.length_filter_le _ _) h3.len, il, il2, Fa, Fb', _, q1, rfl⟩
theorem CutE.calls {m : Nat} (h : CutE w0 w A ba B bb now m) : (Calls Tryd.prog 12 #[.pointer (some ⟨A, 0, none⟩)] w fun e w' => e = .returned (.int .i64 (m : Int)) ∧ w' = w) ∧ (Calls Tryd.prog 12 #[.pointer (some ⟨B, 0, none⟩)] w fun e w' => e = .returned (.int .i64 (m : Int)) ∧ w' = w) ∧ (Calls Tryd.prog 13 #[.pointer (some ⟨A, 0, none⟩)] w fun e w' => e = .returned (.int .u64 (now : Int)) ∧ w' = w) ∧ (Calls Tryd.prog 13 #[.pointer (some ⟨B, 0, none⟩)] w fun e w' => e = .returned (.int .u64 (now : Int)) ∧ w' = w) ∧ Calls Tryd.prog 14 #[] w fun e w' => e = .returned (.bool true) ∧ Below w0.heap.size w0 w' := by
  obtain ⟨Fa, Fb, T, h1, rfl⟩ := h
  refine ⟨wlen_any h1.a.whl, wlen_any h1.b.whl, now_any h1.a.whl, now_any h1.b.whl, Calls.mono (awake_any w h1.a.tabW (Nat.lt_of_lt_of_le h1.a.pos h1.a.bel.size)) ?_⟩
  rintro e w' ⟨rfl, q⟩
  exact ⟨rfl, h1.a.bel.trans (q.mono h1.a.bel.size)⟩
theorem CutE.drewN {m : Nat} (h : CutE w0 w A ba B bb now m) (q : Nat) : CutE w0 (w.drewN q) A ba B bb now m := by
  obtain ⟨Fa, Fb, T, h1, h2⟩ := h
  exact ⟨Fa, Fb, T, h1.fr (Fr.below (X := fun _ => False) (below_drewN w q)) (fun k hk => hk.elim), h2⟩

set_option maxHeartbeats 16000000 in
set_option maxRecDepth 100000 in
theorem wheelCuts_walk (a0 : Option Addr) (len0 cap0 : Nat) (zs : List Int) (a1 : Option Addr) (len1 cap1 : Nat) (ys : List Int) (w : World) (h0 : IsRow .u64 w a0 len0 cap0 zs) (h1 : IsRow .u64 w a1 len1 cap1 ys) (hN : TabW w ∧ 0 < w.heap.size) :
    Calls Tryd.prog 3 #[.slice a0 len0 cap0, .slice a1 len1 cap1] w fun r w' => r = .returned (.bool true) ∧ Below w.heap.size w w' := by
  have hl0 := h0.len_le
  have hl1 := h1.len_le
  have H0 : Aside (IsRow .u64 w a0 len0 cap0 zs) := h0
  have H1 : Aside (IsRow .u64 w a1 len1 cap1 ys) := h1
  obtain ⟨n, hn, n40, nl⟩ : ∃ N : Nat, min (len0 : Int) 40 = (N : Int) ∧ N ≤ 40 ∧ N ≤ len0 := ⟨min len0 40, by omega, by omega, by omega⟩
  have NEW1 : Aside (Calls Tryd.prog 9 #[.int .u64 0] w fun e w1 => ∃ A ba F, e = .returned (.pointer (some ⟨A, 0, none⟩)) ∧ Wst w w1 F A ba 0 []) := by
    refine Calls.mono (Wst.new 0 (by decide) (Below.refl w.heap.size w) hN.1 hN.2) ?_
    rintro e w' ⟨rfl, -, F, q⟩
    exact ⟨_, _, F, rfl, q⟩
  have NEW2 : Aside (∀ w1 A ba F, Wst w w1 F A ba 0 [] → Calls Tryd.prog 9 #[.int .u64 0] w1 fun e w2 => ∃ B bb, e = .returned (.pointer (some ⟨B, 0, none⟩)) ∧ CutA w w2 A ba B bb 0) := fun w1 A ba F h => by
    refine Calls.mono (Wst.new 0 (by decide) h.bel hN.1 hN.2) ?_
    rintro e w' ⟨rfl, q0, F', q⟩
    refine ⟨_, _, rfl, F, F', [], ⟨h.below q0, q, fun k hk hb => ?_⟩, rfl, fun x hx => by cases hx⟩
    have := (h.low hk).2
    have := (q.low hb).1
    omega
  clear h0 h1
  go_enter Tryd.func3, Tryd.ntmps3
  go_wp2_with fail
  refine NEW1.out.mono ?_
  rintro e w1 ⟨A, ba, F, rfl, K0⟩
  go_wp2_with fail
  refine (NEW2.out _ _ _ _ K0).mono ?_
  rintro e w2 ⟨B, bb, rfl, K1⟩
  have A1 : Aside (CutA w w2 A ba B bb 0) := K1
  clear NEW1 NEW2 K0 K1
  go_wp2_with fail
  clear hn
  go_loopg [8, 9] n (fun kx s8 s9 wr => ∃ (i : Nat), s8 = .int .i64 i ∧ i ≤ n ∧ n - i ≤ kx ∧ Aside (CutA w wr A ba B bb i))
  case atStart => exact ⟨0, rfl, by omega, by omega, A1⟩
  case round =>
    clear A1
    obtain ⟨i, rfl, hi, hkx, C⟩ := hrel
    by_cases hlt : i < n
    · have hz : (i : Int) < (n : Int) := by omega
      have hz0 : (i : Int) < (len0 : Int) := by omega
      obtain ⟨b, off, ha, hb, hc, hw⟩ := H0.out.at (show i < len0 by omega)
      subst ha
      have hc2 : wr.cell? ⟨b, off + i, none⟩ = some (.int .u64 (zs.getD i 0)) := by
        obtain ⟨Fa, Fb, T, q, -⟩ := C.out
        exact (World.cell?_of_block (q.a.bel.block b hb)).trans hc
      generalize zs.getD i 0 = z at hw hc2
      obtain ⟨z0, z1⟩ : 0 ≤ z ∧ z < 18446744073709551616 := by
        simp [Lit.wf, IntKind.min, IntKind.max, IntKind.bits, IntKind.signed] at hw
        omega
      have mk := mask_u64 z 44 17592186044415 17592186044416 (by decide) (by decide) (by decide) z0 z1
      obtain ⟨D, hD, hDb⟩ : ∃ D : Nat, z % 17592186044416 = (D : Int) ∧ D < 17592186044416 := ⟨(z % 17592186044416).toNat, by omega, by omega⟩
      rw [hD] at mk
      have hDB : D < B64 := by unfold B64; omega
      have AD : Aside (Calls Tryd.prog 10 #[.pointer (some ⟨A, 0, none⟩), .int .i64 ((i : Int) + 1), .int .u64 (D : Int)] wr fun e w' => e = .returned (.int .i64 0) ∧ CutM w w' A ba B bb i D) := C.out.addA (by omega) hDB
      have AX : Aside (∀ w1, CutM w w1 A ba B bb i D → Calls Tryd.prog 10 #[.pointer (some ⟨B, 0, none⟩), .int .i64 ((i : Int) + 1), .int .u64 (D : Int)] w1 fun e w' => e = .returned (.int .i64 0) ∧ CutA w w' A ba B bb (i + 1)) := fun w1 h => h.addB (by omega) hDB
      clear C hc hw hD z0 z1 hb hDB
      go_wp2_with fail
      refine AD.out.mono ?_
      rintro e w3 ⟨rfl, G1⟩
      go_wp2_with fail
      refine (AX.out _ G1).mono ?_
      rintro e w4 ⟨rfl, G2⟩
      have G3 : Aside (CutA w w4 A ba B bb (i + 1)) := G2
      clear G1 G2
      go_wp2_with fail
      go_roundg (n - (i + 1))
      case measure => omega
      case rel => exact ⟨i + 1, by go_num, by omega, Nat.le_refl _, G3⟩
    · have e0 : i = n := by omega
      subst e0
      have hz : ¬ (i : Int) < (i : Int) := by omega
      have AV0 : Aside (Calls Tryd.prog 11 #[.pointer (some ⟨A, 0, none⟩), .int .u64 0] wr fun e w' => ∃ a L cap, e = .returned (.slice a L cap) ∧ CutS w w' A ba B bb 0 (.slice a L cap)) := C.out.adv
      clear C
      go_wp2_with fail
      refine AV0.out.mono ?_
      rintro e w3 ⟨pa0, pn0, pc0, rfl, S0⟩
      have S1 : Aside (CutS w w3 A ba B bb 0 (.slice pa0 pn0 pc0)) := S0
      clear S0 AV0
      go_wp2_with fail
      obtain ⟨M, hM⟩ : ∃ M, min len1 40 = M := ⟨_, rfl⟩
      go_loopg [10, 11, 12] M (fun kx s10 s11 s12 wr => ∃ (j now : Nat) (pa : Option Addr) (pn pc : Nat), s12 = .int .i64 j ∧ s11 = .int .u64 now ∧ s10 = .slice pa pn pc ∧ j ≤ M ∧ M - j ≤ kx ∧ now ≤ j * 274877906944 ∧ Aside (CutS w wr A ba B bb now (.slice pa pn pc)))
      case atStart => exact ⟨0, 0, pa0, pn0, pc0, rfl, rfl, rfl, by omega, by omega, by omega, S1⟩
      case round =>
        clear S1
        obtain ⟨j, now, pa, pn, pc, rfl, rfl, rfl, hj, hkx2, hnow, S⟩ := hrel
        by_cases hlt2 : j < M
        · have hz1 : (j : Int) < (len1 : Int) := by omega
          have hz2 : (j : Int) < 40 := by omega
          obtain ⟨b, off, ha, hb, hc, hw⟩ := H1.out.at (show j < len1 by omega)
          subst ha
          have hc2 : wr.cell? ⟨b, off + j, none⟩ = some (.int .u64 (ys.getD j 0)) := by
            obtain ⟨Fa, Fb, T, q, -⟩ := S.out
            exact (World.cell?_of_block (q.a.bel.block b hb)).trans hc
          generalize ys.getD j 0 = z at hw hc2
          obtain ⟨z0, z1⟩ : 0 ≤ z ∧ z < 18446744073709551616 := by
            simp [Lit.wf, IntKind.min, IntKind.max, IntKind.bits, IntKind.signed] at hw
            omega
          have mk := mask_u64 z 38 274877906943 274877906944 (by decide) (by decide) (by decide) z0 z1
          obtain ⟨D, hD, hDb⟩ : ∃ D : Nat, z % 274877906944 = (D : Int) ∧ D < 274877906944 := ⟨(z % 274877906944).toNat, by omega, by omega⟩
          rw [hD] at mk
          obtain ⟨tt, htt, ht1, ht2, ht3⟩ : ∃ tt : Nat, (now : Int) + (D : Int) = (tt : Int) ∧ now ≤ tt ∧ tt ≤ (j + 1) * 274877906944 ∧ tt < 18446744073709551616 := ⟨now + D, by omega, by omega, by omega, by omega⟩
          have AV : Aside (Calls Tryd.prog 11 #[.pointer (some ⟨A, 0, none⟩), .int .u64 (tt : Int)] wr fun e w' => ∃ a L cap pa' pn' pc' w2, e = .returned (.slice a L cap) ∧ (Builtin.append_ #[28, 28] 28 #[.slice pa pn pc, .slice a L cap]).run Tryd.prog w' = .ok (.slice pa' pn' pc') w2 ∧ CutS w w2 A ba B bb tt (.slice pa' pn' pc')) := S.out.adv ht3 ht1
          clear S hc hw hD z0 z1 hb hM
          go_wp2_with fail
          refine AV.out.mono ?_
          rintro e w4 ⟨la, ln, lc, pa', pn', pc', w5, rfl, hr, S2⟩
          have S3 : Aside (CutS w w5 A ba B bb tt (.slice pa' pn' pc')) := S2
          clear S2 AV mk hc2 htt hnow
          go_wp2_with (at_builtin; refine Lib.wpList_append_run w4 rfl _ _ 28 28 rfl _ _ rfl rfl _ w5 hr ?_)
          go_roundg (M - (j + 1))
          case measure => omega
          case rel => exact ⟨j + 1, tt, pa', pn', pc', by go_num, rfl, rfl, by omega, Nat.le_refl _, ht2, S3⟩
        · have hcase : ((j : Int) < (len1 : Int) ∧ ¬ (j : Int) < 40) ∨ ¬ (j : Int) < (len1 : Int) := by omega
          have AV : Aside (Calls Tryd.prog 11 #[.pointer (some ⟨B, 0, none⟩), .int .u64 (now : Int)] wr fun e w' => ∃ a cap d m, e = .returned (.slice a pn cap) ∧ d.length = pn ∧ pn ≤ 1000 ∧ IsL w' a cap d ∧ IsL w' pa pc d ∧ CutE w w' A ba B bb now m) := S.out.advB (by unfold B64; omega)
          clear S hM hj hkx2 hlt2 hnow
          rcases hcase with ⟨hx, hx2⟩ | hx
          all_goals
            go_wp2_with fail
            refine AV.out.mono ?_
            rintro e w4 ⟨qa, qc, d, m, rfl, hd, hpn, il1, il2, E0⟩
            have HD : Hid (d.length = pn) := hd
            have IL1 : Aside (IsL w4 qa qc d) := il1
            have IL2 : Aside (IsL w4 pa pc d) := il2
            have E1 : Aside (CutE w w4 A ba B bb now m) := E0
            clear hd il1 il2 E0 AV
            go_wp2_with fail
            refine (E1.out.calls.1).mono ?_
            rintro e w5 ⟨rfl, rfl⟩
            go_wp2_with fail
            refine (E1.out.calls.2.1).mono ?_
            rintro e w6 ⟨rfl, rfl⟩
            go_wp2_with fail
            refine (E1.out.calls.2.2.1).mono ?_
            rintro e w7 ⟨rfl, rfl⟩
            go_wp2_with fail
            refine (E1.out.calls.2.2.2.1).mono ?_
            rintro e w8 ⟨rfl, rfl⟩
            go_wp2_with fail
            go_loopg [14] pn (fun kx s14 wr' => ∃ (g : Nat), s14 = .int .i64 g ∧ g ≤ pn ∧ pn - g ≤ kx ∧ Aside (∃ q, wr' = w8.drewN q))
            case atStart => exact ⟨0, rfl, by omega, by omega, 0, rfl⟩
            case round =>
              obtain ⟨g, rfl, hg, hkx4, W⟩ := hrel
              obtain ⟨q, hq0⟩ := W.out
              have HQ : Hid (wr = w8.drewN q) := hq0
              clear W hq0
              by_cases hlt4 : g < pn
              · have hzg : (g : Int) < (pn : Int) := by omega
                have hgd : g < d.length := by rw [HD.out]; exact hlt4
                obtain ⟨b1, o1, ha1, hb1, y1, y2⟩ := IL1.out.elem g d[g] (List.getElem?_eq_getElem hgd)
                obtain ⟨b2, o2, ha2, hb2, x1, x2⟩ := IL2.out.elem g d[g] (List.getElem?_eq_getElem hgd)
                subst ha1 ha2
                have y1' : wr.cell? ⟨b1, o1 + g * 2, none⟩ = some (.int .u64 d[g].1) := by rw [HQ.out]; exact y1
                have y2' : wr.cell? ⟨b1, o1 + g * 2 + 1, none⟩ = some (.int .i64 d[g].2) := by rw [HQ.out]; exact y2
                have x1' : wr.cell? ⟨b2, o2 + g * 2, none⟩ = some (.int .u64 d[g].1) := by rw [HQ.out]; exact x1
                have x2' : wr.cell? ⟨b2, o2 + g * 2 + 1, none⟩ = some (.int .i64 d[g].2) := by rw [HQ.out]; exact x2
                generalize d[g].1 = xd at y1' y2' x1' x2'
                generalize d[g].2 = xi at y1' y2' x1' x2'
                clear y1 y2 x1 x2 hb1 hb2
                go_upto_region 24 with fail
                go_region_held3 (fun W => (W.cell? ⟨b1, o1 + g * 2, none⟩ = some (.int .u64 xd) ∧ W.cell? ⟨b1, o1 + g * 2 + 1, none⟩ = some (.int .i64 xi)) ∧ W.cell? ⟨b2, o2 + g * 2, none⟩ = some (.int .u64 xd) ∧ W.cell? ⟨b2, o2 + g * 2 + 1, none⟩ = some (.int .i64 xi)) (exact ⟨⟨y1', y2'⟩, x1', x2'⟩) (fail)
                have W2 : Aside (∃ q, wr.drew = w8.drewN q) := ⟨q + 1, by rw [HQ.out]; rfl⟩
                clear HQ y1' y2' x1' x2'
                generalize wr.drew = W3 at W2 ⊢
                go_wp2_with fail
                go_roundg (pn - (g + 1))
                case measure => omega
                case rel => exact ⟨g + 1, by go_num, by omega, Nat.le_refl _, W2⟩
              · have e0 : g = pn := by omega
                subst e0
                have hzg : ¬ (g : Int) < (g : Int) := by omega
                have E2 : Aside (CutE w wr A ba B bb now m) := by rw [HQ.out]; exact E1.out.drewN q
                go_wp2_with fail
                refine (E2.out.calls.2.2.2.2).mono ?_
                rintro e w9 ⟨rfl, bel⟩
                go_wp2_with fail
                go_ret
                exact ⟨rfl, bel⟩
end Go.Proofs.YtbopobgnmkhabaaDoor
