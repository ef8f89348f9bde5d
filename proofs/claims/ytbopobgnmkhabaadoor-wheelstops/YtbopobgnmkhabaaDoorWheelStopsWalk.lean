/- The walk of 'WheelStops'. -/
import Derived.Test.YtbopobgnmkhabaaDoorWhZ
import Derived.Test.YtbopobgnmkhabaaDoorRowAt
import Derived.Test.YtbopobgnmkhabaaDoorMask
namespace Go.Proofs.YtbopobgnmkhabaaDoor
open Go.RowKit Go.Lib Go.Sort Go.WideMaps Go.Maps Go.Deep
set_option linter.unusedVariables false

theorem mask_u64 (n : Int) (k : Nat) (m K : Int) (hm : m = ((2 ^ k - 1 : Nat) : Int)) (hK : K = ((2 ^ k : Nat) : Int)) (hk : k ≤ 62) (h0 : 0 ≤ n) (h1 : n < 18446744073709551616) : bits .and .u64 n m = n % K := by
  have hp : (2 : Nat) ^ k ≤ 2 ^ 62 := Nat.pow_le_pow_right (by decide) hk
  have hp1 : 0 < (2 : Nat) ^ k := Nat.two_pow_pos k
  rw [u64_and n m h0 h1 (by omega) (by omega)]
  have e : m.toNat = 2 ^ k - 1 := by omega
  rw [e, Nat.and_two_pow_sub_one_eq_mod, hK, Int.natCast_emod, Int.toNat_of_nonneg h0]

/-- Between two rounds of the first loop. -/
def StA (w wr : World) (B base Q n i : Nat) : Prop := ∃ F T U O, Loc w wr F B base 0 T Q n U O ∧ Has n U O T ∧ (∀ j, U j < 1073741824) ∧ ∀ j, O j = decide (j < i)
/-- .. of the second. -/
def StB (w wr : World) (B base Q n i : Nat) : Prop := ∃ F T U O, Loc w wr F B base 0 T Q n U O ∧ Has n U O T ∧ (∀ j, U j < 1073741824) ∧ ∀ j, i ≤ j → j < n → O j = true
/-- .. of the third. -/
def StC (w wr : World) (B base Q n : Nat) (d : List Ent) : Prop := ∃ F U O, Loc w wr F B base 2147483648 [] Q n U O ∧ Has n U O d ∧ (d.map Prod.snd).Nodup
variable {w wr : World} {B base Q n i : Nat}
theorem StA.zero {F : Nat → Prop} (h : Wst w wr F B base 0 []) (n : Nat) : StA w ((wr.alloc (.cells (madeCells #[.int .u64 0] n) 25)).alloc (.cells (madeCells #[.bool false] n) 4)) B base wr.heap.size n 0 :=
  ⟨F, [], _, _, Loc.make h n, fun x => ⟨fun hx => (by cases hx), fun ⟨j, h1, h2, h3⟩ => (by cases h2)⟩, fun _ => (by decide), fun j => (by simp)⟩
theorem StA.cells (h : StA w wr B base Q n i) (hi : i < n) : (∃ u, wr.cell? ⟨Q, i, none⟩ = some (.int .u64 u)) ∧ wr.cell? ⟨Q + 1, i, none⟩ = some (.bool false) ∧ wr.frozen? ⟨Q, i, none⟩ = false ∧ wr.frozen? ⟨Q + 1, i, none⟩ = false ∧ w.heap.size ≤ Q ∧ Q + 1 < wr.heap.size ∧ Below w.heap.size w wr := by
  obtain ⟨F, T, U, O, h1, h2, h3, h4⟩ := h
  refine ⟨⟨_, h1.cellU hi⟩, by rw [h1.cellO hi, h4 i]; simp, h1.us.frozen i, h1.os.frozen i, h1.q0, h1.os.lt, h1.st.bel⟩
theorem StA.add (h : StA w wr B base Q n i) (hi : i < n) (hn : n ≤ 500) {D : Nat} (hD : D < 1073741824) :
    Calls Tryd.prog 10 #[.pointer (some ⟨B, 0, none⟩), .int .i64 ((i : Int) + 1), .int .u64 (D : Int)] ((wr.setCell ⟨Q, i, none⟩ (.int .u64 (D : Int))).setCell ⟨Q + 1, i, none⟩ (.bool true)) fun e w' => e = .returned (.int .i64 0) ∧ StA w w' B base Q n (i + 1) := by
  obtain ⟨F, T, U, O, h1, h2, h3, h4⟩ := h
  have l1 := (h1.setU i D).setO i true
  have hO : O i = false := by rw [h4 i]; simp
  refine Calls.mono (l1.st.add (i := (i : Int) + 1) (D := D) (wfI_of (by omega) (by omega)) (by unfold B64; omega)) ?_
  rintro e w' ⟨rfl, g⟩
  obtain ⟨F', l2⟩ := l1.go g
  refine ⟨by rw [h2.addR h1.st.whl.ok hi hn hO], F', _, _, _, l2, h2.add h1.st.whl.ok hi hn hO D, fun j => ?_, fun j => ?_⟩
  · by_cases e : j = i
    · simp [e, hD]
    · simp [e, h3 j]
  · by_cases e : j = i
    · simp [e]
    · simp only [e, if_false, h4 j]; congr 1; simp only [eq_iff_iff]; omega
theorem StA.more (h : StA w wr B base Q n (i + 1)) (hi : i < n) :
    Calls Tryd.prog 10 #[.pointer (some ⟨B, 0, none⟩), .int .i64 ((i : Int) + 1), .int .u64 7] wr fun e w' => e = .returned (.int .i64 9) ∧ StA w w' B base Q n (i + 1) := by
  obtain ⟨F, T, U, O, h1, h2, h3, h4⟩ := h
  have hO : O i = true := by rw [h4 i]; simp
  have e1 := h2.addX h1.st.whl.ok hi hO
  have hs : (i : Int) < 9223372036854775807 ∨ ¬ (i : Int) < 9223372036854775807 := by omega
  refine Calls.mono (h1.st.add (i := (i : Int) + 1) (D := 7) (h1.st.whl.ok.wf ((U i : Int), (i : Int) + 1) ((h2 _).2 ⟨i, hi, hO, rfl⟩)) (by decide)) ?_
  rw [e1, addT_no _ (by rw [e1]; decide)]
  rintro e w' ⟨rfl, g⟩
  obtain ⟨F', l2⟩ := h1.go g
  exact ⟨rfl, F', _, _, _, l2, h2, h3, h4⟩
theorem StA.toB (h : StA w wr B base Q n n) : StB w wr B base Q n 0 := by
  obtain ⟨F, T, U, O, h1, h2, h3, h4⟩ := h
  exact ⟨F, T, U, O, h1, h2, h3, fun j _ hj => by rw [h4 j]; simp [hj]⟩

/-- One of them is gone, and its bit is not yet turned. -/
def StX (w wr : World) (B base Q n i : Nat) : Prop := ∃ F T U O, Loc w wr F B base 0 T Q n U O ∧ Has n U (fun j => if j = i then false else O j) T ∧ (∀ j, U j < 1073741824) ∧ ∀ j, i < j → j < n → O j = true
theorem StB.cells (h : StB w wr B base Q n i) (hi : i < n) : w.heap.size ≤ Q ∧ Below w.heap.size w wr := by
  obtain ⟨F, T, U, O, h1, h2, h3, h4⟩ := h
  exact ⟨h1.q0, h1.st.bel⟩
theorem StX.cells (h : StX w wr B base Q n i) (hi : i < n) : (∃ u, wr.cell? ⟨Q, i, none⟩ = some (.int .u64 u)) ∧ (∃ o, wr.cell? ⟨Q + 1, i, none⟩ = some (.bool o)) ∧ wr.frozen? ⟨Q, i, none⟩ = false ∧ wr.frozen? ⟨Q + 1, i, none⟩ = false ∧ Below w.heap.size w wr := by
  obtain ⟨F, T, U, O, h1, h2, h3, h4⟩ := h
  exact ⟨⟨_, h1.cellU hi⟩, ⟨_, h1.cellO hi⟩, h1.us.frozen i, h1.os.frozen i, h1.st.bel⟩
theorem StB.skip (h : StB w wr B base Q n i) : StB w wr B base Q n (i + 1) := by
  obtain ⟨F, T, U, O, h1, h2, h3, h4⟩ := h
  exact ⟨F, T, U, O, h1, h2, h3, fun j hj => h4 j (by omega)⟩
theorem StB.cancel (h : StB w wr B base Q n i) (hi : i < n) :
    Calls Tryd.prog 15 #[.pointer (some ⟨B, 0, none⟩), .int .i64 ((i : Int) + 1)] wr fun e w' => e = .returned (.bool true) ∧ StX w w' B base Q n i := by
  obtain ⟨F, T, U, O, h1, h2, h3, h4⟩ := h
  have hO := h4 i (Nat.le_refl _) hi
  refine Calls.mono (h1.st.cancel (i := (i : Int) + 1) (h1.st.whl.ok.wf ((U i : Int), (i : Int) + 1) ((h2 _).2 ⟨i, hi, hO, rfl⟩))) ?_
  rw [h2.some h1.st.whl.ok hi hO]
  rintro e w' ⟨rfl, g⟩
  obtain ⟨F', l2⟩ := h1.go g
  exact ⟨rfl, F', _, _, _, l2, h2.del h1.st.whl.ok hi hO, h3, fun j hj => h4 j (by omega)⟩
theorem StX.cancel (h : StX w wr B base Q n i) (hi : i < n) (hn : n ≤ 500) :
    Calls Tryd.prog 15 #[.pointer (some ⟨B, 0, none⟩), .int .i64 ((i : Int) + 1)] wr fun e w' => e = .returned (.bool false) ∧ StX w w' B base Q n i := by
  obtain ⟨F, T, U, O, h1, h2, h3, h4⟩ := h
  have e1 : dueOf T ((i : Int) + 1) = none := h2.none (by simp)
  have e2 : canT T ((i : Int) + 1) = T := by unfold canT; rw [e1]
  refine Calls.mono (h1.st.cancel (i := (i : Int) + 1) (wfI_of (by omega) (by omega))) ?_
  rw [e1, e2]
  rintro e w' ⟨rfl, g⟩
  obtain ⟨F', l2⟩ := h1.go g
  exact ⟨rfl, F', _, _, _, l2, h2, h3, h4⟩
theorem StX.off (h : StX w wr B base Q n i) : StB w (wr.setCell ⟨Q + 1, i, none⟩ (.bool false)) B base Q n (i + 1) := by
  obtain ⟨F, T, U, O, h1, h2, h3, h4⟩ := h
  refine ⟨F, T, U, _, h1.setO i false, h2, h3, fun j hj hn => ?_⟩
  have hji : ¬ j = i := by omega
  simp only [hji, if_false]
  exact h4 j (by omega) hn
theorem StX.add (h : StX w wr B base Q n i) (hi : i < n) (hn : n ≤ 500) {D : Nat} (hD : D < 1073741824) :
    Calls Tryd.prog 10 #[.pointer (some ⟨B, 0, none⟩), .int .i64 ((i : Int) + 1), .int .u64 (D : Int)] (((wr.setCell ⟨Q + 1, i, none⟩ (.bool false)).setCell ⟨Q, i, none⟩ (.int .u64 (D : Int))).setCell ⟨Q + 1, i, none⟩ (.bool true)) fun e w' => e = .returned (.int .i64 0) ∧ StB w w' B base Q n (i + 1) := by
  obtain ⟨F, T, U, O, h1, h2, h3, h4⟩ := h
  have l1 := ((h1.setO i false).setU i D).setO i true
  refine Calls.mono (l1.st.add (i := (i : Int) + 1) (D := D) (wfI_of (by omega) (by omega)) (by unfold B64; omega)) ?_
  rintro e w' ⟨rfl, g⟩
  obtain ⟨F', l2⟩ := l1.go g
  have hh := h2.add h1.st.whl.ok hi hn (by simp) D
  refine ⟨by rw [h2.addR h1.st.whl.ok hi hn (by simp)], F', _, _, _, l2, hh, fun j => ?_, fun j hj hjn => ?_⟩
  · by_cases e : j = i
    · simp [e, hD]
    · simp [e, h3 j]
  · have e : ¬ j = i := by omega
    simp only [e, if_false]
    exact h4 j (by omega) hjn
theorem StB.adv (h : StB w wr B base Q n i) :
    Calls Tryd.prog 11 #[.pointer (some ⟨B, 0, none⟩), .int .u64 2147483648] wr fun e w' => ∃ a L cap d, e = .returned (.slice a L cap) ∧ d.length = L ∧ L ≤ 1000 ∧ IsL w' a cap d ∧ StC w w' B base Q n d := by
  obtain ⟨F, T, U, O, h1, h2, h3, h4⟩ := h
  have hT := h1.st.whl.ok
  have e1 : dueL (max 0 2147483648) T = T := List.filter_eq_self.2 (fun x hx => by
    obtain ⟨j, -, -, rfl⟩ := (h2 x).1 hx
    have := h3 j
    simp only [decide_eq_true_eq]
    omega)
  have e2 : restL (max 0 2147483648) T = [] := List.filter_eq_nil_iff.2 (fun x hx => by
    obtain ⟨j, -, -, rfl⟩ := (h2 x).1 hx
    have := h3 j
    simp only [decide_eq_true_eq]
    omega)
  refine Calls.mono (h1.st.advance (tt := 2147483648) (by decide)) ?_
  rw [e1, e2]
  rintro e w' ⟨a, cap, rfl, q, g⟩
  obtain ⟨F', l2⟩ := h1.go g
  exact ⟨a, _, cap, T, rfl, rfl, hT.len, q, F', U, O, l2, h2, hT.ids⟩
theorem StC.step {x : Ent} {d : List Ent} (h : StC w wr B base Q n (x :: d)) : ∃ t, t < n ∧ wr.cell? ⟨Q, t, none⟩ = some (.int .u64 x.1) ∧ wr.cell? ⟨Q + 1, t, none⟩ = some (.bool true) ∧ wr.frozen? ⟨Q + 1, t, none⟩ = false ∧ x.2 = (t : Int) + 1 ∧ StC w (wr.setCell ⟨Q + 1, t, none⟩ (.bool false)) B base Q n d := by
  obtain ⟨F, U, O, h1, h2, h3⟩ := h
  obtain ⟨t, t1, t2, t3, t4⟩ := h2.tail h3
  exact ⟨t, t1, by rw [h1.cellU t1, t3], by rw [h1.cellO t1, t2], h1.os.frozen t, by rw [t3], F, U, _, h1.setO t false, t4, (List.nodup_cons.1 (by simpa using h3)).2⟩
theorem StC.off (h : StC w wr B base Q n []) {j : Nat} (hj : j < n) : wr.cell? ⟨Q + 1, j, none⟩ = some (.bool false) := by
  obtain ⟨F, U, O, h1, h2, h3⟩ := h
  rw [h1.cellO hj, h2.nil hj]
theorem StC.len {d : List Ent} (h : StC w wr B base Q n d) : Calls Tryd.prog 12 #[.pointer (some ⟨B, 0, none⟩)] wr fun e w' => e = .returned (.int .i64 0) ∧ w' = wr := by
  obtain ⟨F, U, O, h1, h2, h3⟩ := h
  exact wlen_any h1.st.whl
theorem StC.awk {d : List Ent} (h : StC w wr B base Q n d) : Calls Tryd.prog 14 #[] wr fun e w' => e = .returned (.bool true) ∧ Below w.heap.size w w' := by
  obtain ⟨F, U, O, h1, h2, h3⟩ := h
  refine Calls.mono (awake_any wr h1.st.tabW (Nat.lt_of_lt_of_le h1.st.pos h1.st.bel.size)) ?_
  rintro e w' ⟨rfl, q⟩
  exact ⟨rfl, h1.st.bel.trans (q.mono h1.st.bel.size)⟩
theorem StC.drewN {d : List Ent} (h : StC w wr B base Q n d) (q : Nat) : StC w (wr.drewN q) B base Q n d := by
  obtain ⟨F, U, O, h1, h2, h3⟩ := h
  exact ⟨F, U, O, ⟨h1.st.below (below_drewN wr q), h1.us.of_block rfl, h1.os.of_block rfl, h1.q0, h1.f0, h1.f1⟩, h2, h3⟩
/-- The row of timers is no row of bits. -/
theorem StC.apart {d d' : List Ent} (h : StC w wr B base Q n d') {b off : Nat} {z : Int} (hc : wr.cell? ⟨b, off, none⟩ = some (.int .i64 z)) : ¬ b = Q + 1 := fun e => by
  obtain ⟨F, U, O, h1, h2, h3⟩ := h
  obtain ⟨c, q1, q2, q3⟩ := h1.os
  subst e
  simp only [World.cell?, q1] at hc
  by_cases ho : off < n
  · have := q3 off ho
    simp [this] at hc
  · have : c[off]? = none := Array.getElem?_eq_none (by omega)
    simp [this] at hc
set_option maxHeartbeats 8000000 in
set_option maxRecDepth 100000 in
theorem wheelStops_walk (a0 : Option Addr) (len0 cap0 : Nat) (zs : List Int) (a1 : Option Addr) (len1 cap1 : Nat) (ys : List Int) (w : World) (h0 : IsRow .u64 w a0 len0 cap0 zs) (h1 : IsRow .i64 w a1 len1 cap1 ys) (hN : TabW w ∧ 0 < w.heap.size) :
    Calls Tryd.prog 4 #[.slice a0 len0 cap0, .slice a1 len1 cap1] w fun r w' => r = .returned (.bool true) ∧ Below w.heap.size w w' := by
  obtain ⟨B, hB⟩ : ∃ B, w.heap.size + 1 = B := ⟨_, rfl⟩
  obtain ⟨base, hbs⟩ : ∃ base, w.heap.size = base := ⟨_, rfl⟩
  have hl0 := h0.len_le
  have hl1 := h1.len_le
  have H0 : Aside (IsRow .u64 w a0 len0 cap0 zs) := h0
  have H1 : Aside (IsRow .i64 w a1 len1 cap1 ys) := h1
  obtain ⟨n, hn, n40, nl⟩ : ∃ N : Nat, min (len0 : Int) 40 = (N : Int) ∧ N ≤ 40 ∧ N ≤ len0 := ⟨min len0 40, by omega, by omega, by omega⟩
  have hmk := run_make_row' (P := Tryd.prog) 22 25 (.int .u64 0) 8 Tryd.underlying22 infoU64 rfl .i64 .i64 n (by omega) (by omega)
  have hmb := run_make_row' (P := Tryd.prog) 37 4 (.bool false) 1 Tryd.underlying37 infoBool rfl .i64 .i64 n (by omega) (by omega)
  have NEW : Aside (Calls Tryd.prog 9 #[.int .u64 0] w fun e w' => e = .returned (.pointer (some ⟨B, 0, none⟩)) ∧ ∃ F, Wst w w' F B base 0 []) := by
    refine Calls.mono (Wst.new 0 (by decide) (Below.refl w.heap.size w) hN.1 hN.2) ?_
    rintro e w' ⟨rfl, -, F, q⟩
    exact ⟨by rw [hB], F, by rw [hB, hbs] at q; exact q⟩
  clear h0 h1 hB hbs
  go_enter Tryd.func4, Tryd.ntmps4
  go_wp2_with (go_at_call 9; refine NEW.out.mono ?_; rintro e w1 ⟨rfl, F, K0⟩)
  have A0 := StA.zero K0 n
  obtain ⟨Q, hQ⟩ : ∃ Q, w1.heap.size = Q := ⟨_, rfl⟩
  rw [hQ] at A0 ⊢
  have A1 : Aside (StA w ((w1.alloc (.cells (madeCells #[.int .u64 0] n) 25)).alloc (.cells (madeCells #[.bool false] n) 4)) B base Q n 0) := A0
  clear NEW K0 A0 hmk hmb hQ
  go_loopg [9] n (fun kx s9 wr => ∃ (i : Nat), s9 = .int .i64 i ∧ i ≤ n ∧ n - i ≤ kx ∧ Aside (StA w wr B base Q n i))
  case atStart => exact ⟨0, rfl, by omega, by omega, A1⟩
  case round =>
    clear A1
    obtain ⟨i, rfl, hi, hkx, A⟩ := hrel
    by_cases hlt : i < n
    · have hz : (i : Int) < (n : Int) := by omega
      have hz0 : (i : Int) < (len0 : Int) := by omega
      obtain ⟨⟨u0, cU⟩, cO, fU, fO, Qw, Qr, bel⟩ := A.out.cells hlt
      obtain ⟨b, off, ha, hb, hc, hw⟩ := H0.out.at (show i < len0 by omega)
      subst ha
      have bQ : ¬ b = Q := by omega
      have hc2 : wr.cell? ⟨b, off + i, none⟩ = some (.int .u64 (zs.getD i 0)) := (World.cell?_of_block (bel.block b hb)).trans hc
      generalize zs.getD i 0 = z at hw hc2
      obtain ⟨z0, z1⟩ : 0 ≤ z ∧ z < 18446744073709551616 := by
        simp [Lit.wf, IntKind.min, IntKind.max, IntKind.bits, IntKind.signed] at hw
        omega
      have mk := mask_u64 z 30 1073741823 1073741824 (by decide) (by decide) (by decide) z0 z1
      obtain ⟨D, hD, hDb⟩ : ∃ D : Nat, z % 1073741824 = (D : Int) ∧ D < 1073741824 := ⟨(z % 1073741824).toNat, by omega, by omega⟩
      rw [hD] at mk
      have AD : Aside (Calls Tryd.prog 10 #[.pointer (some ⟨B, 0, none⟩), .int .i64 ((i : Int) + 1), .int .u64 (D : Int)] ((wr.setCell ⟨Q, i, none⟩ (.int .u64 (D : Int))).setCell ⟨Q + 1, i, none⟩ (.bool true)) fun e w' => e = .returned (.int .i64 0) ∧ StA w w' B base Q n (i + 1)) := A.out.add hlt (by omega) hDb
      have AX : Aside (∀ w1, StA w w1 B base Q n (i + 1) → Calls Tryd.prog 10 #[.pointer (some ⟨B, 0, none⟩), .int .i64 ((i : Int) + 1), .int .u64 7] w1 fun e w' => e = .returned (.int .i64 9) ∧ StA w w' B base Q n (i + 1)) := fun w1 h => h.more hlt
      clear A hc hw hD z0 z1 bel hb Qr
      go_wp2_with fail
      refine AD.out.mono ?_
      rintro e w2 ⟨rfl, G1⟩
      go_wp2_with fail
      refine (AX.out _ G1).mono ?_
      rintro e w3 ⟨rfl, G2⟩
      have G3 : Aside (StA w w3 B base Q n (i + 1)) := G2
      clear G1 G2
      go_wp2_with fail
      go_roundg (n - (i + 1))
      case measure => omega
      case rel => exact ⟨i + 1, by go_num, by omega, Nat.le_refl _, G3⟩
    · have e0 : i = n := by omega
      subst e0
      have hz : ¬ (i : Int) < (i : Int) := by omega
      have B0 : Aside (StB w wr B base Q i 0) := A.out.toB
      clear A
      go_wp2_with fail
      obtain ⟨m, hm⟩ : ∃ m, min i len1 = m := ⟨_, rfl⟩
      go_loopg [10] m (fun kx s10 wr => ∃ (j : Nat), s10 = .int .i64 j ∧ j ≤ m ∧ m - j ≤ kx ∧ Aside (StB w wr B base Q i j))
      case atStart => exact ⟨0, rfl, by omega, by omega, B0⟩
      case round =>
        clear B0
        rename_i wr0
        obtain ⟨j, rfl, hj, hkx2, A⟩ := hrel
        by_cases hlt2 : j < m
        · have hz1 : (j : Int) < (i : Int) := by omega
          have hz2 : (j : Int) < (len1 : Int) := by omega
          obtain ⟨b, off, ha, hb, hc, hw⟩ := H1.out.at (show j < len1 by omega)
          subst ha
          obtain ⟨Qw, bel⟩ := A.out.cells (show j < i by omega)
          have bQ : ¬ b = Q := by omega
          have bQ1 : ¬ b = Q + 1 := by omega
          have hc2 : wr.cell? ⟨b, off + j, none⟩ = some (.int .i64 (ys.getD j 0)) := (World.cell?_of_block (bel.block b hb)).trans hc
          generalize ys.getD j 0 = y at hw hc hc2
          have mk3 := mask_i64 y 2 3 4 (by omega) (by decide) (by decide)
          obtain ⟨q, hq, hq4⟩ : ∃ q : Nat, y % 4 = (q : Int) ∧ q < 4 := ⟨(y % 4).toNat, by omega, by omega⟩
          rw [hq] at mk3
          have HC : Aside (∀ wx, Below w.heap.size w wx → wx.cell? ⟨b, off + j, none⟩ = some (.int .i64 y)) := fun wx bx => (World.cell?_of_block (bx.block b hb)).trans hc
          clear hc hw hq bel hb
          by_cases hq0 : q = 0
          · have hq0' : (q : Int) = 0 := by omega
            have A2 : Aside (StB w wr B base Q i (j + 1)) := A.out.skip
            clear A
            go_wp2_with fail
            go_roundg (m - (j + 1))
            case measure => omega
            case rel => exact ⟨j + 1, by go_num, by omega, Nat.le_refl _, A2⟩
          · have hq0' : ¬ (q : Int) = 0 := by omega
            have C1 : Aside (Calls Tryd.prog 15 #[.pointer (some ⟨B, 0, none⟩), .int .i64 ((j : Int) + 1)] wr fun e w' => e = .returned (.bool true) ∧ StX w w' B base Q i j) := A.out.cancel (by omega)
            have C2 : Aside (∀ wx, StX w wx B base Q i j → Calls Tryd.prog 15 #[.pointer (some ⟨B, 0, none⟩), .int .i64 ((j : Int) + 1)] wx fun e w' => e = .returned (.bool false) ∧ StX w w' B base Q i j) := fun wx h => h.cancel (by omega) (by omega)
            clear A
            go_wp2_with fail
            refine C1.out.mono ?_
            rintro e w4 ⟨rfl, X1⟩
            go_wp2_with fail
            refine (C2.out _ X1).mono ?_
            rintro e w5 ⟨rfl, X2⟩
            clear X1 hc2
            obtain ⟨⟨u0, cU⟩, ⟨o0, cO⟩, fU, fO, bel⟩ := X2.cells (show j < i by omega)
            have hc5 := HC.out w5 bel
            clear bel HC
            by_cases hq1 : q = 1
            · have hq1' : (q : Int) = 1 := by omega
              have mk12 : ∀ x : Int, bits .and .i64 x 4095 = x % 4096 := fun x => mask_i64 x 12 4095 4096 (by omega) (by decide) (by decide)
              have AD : Aside (∀ D : Nat, D < 1073741824 → Calls Tryd.prog 10 #[.pointer (some ⟨B, 0, none⟩), .int .i64 ((j : Int) + 1), .int .u64 (D : Int)] (((w5.setCell ⟨Q + 1, j, none⟩ (.bool false)).setCell ⟨Q, j, none⟩ (.int .u64 (D : Int))).setCell ⟨Q + 1, j, none⟩ (.bool true)) fun e w' => e = .returned (.int .i64 0) ∧ StB w w' B base Q i (j + 1)) := fun D hD => X2.add (by omega) (by omega) hD
              clear X2 C1 C2
              go_wp2_with fail
              obtain ⟨D, hD, hDb⟩ : ∃ D : Nat, y / 4 % 4096 = (D : Int) ∧ D < 4096 := ⟨(y / 4 % 4096).toNat, by omega, by omega⟩
              rw [hD]
              refine (AD.out D (by omega)).mono ?_
              rintro e w6 ⟨rfl, X3⟩
              have X4 : Aside (StB w w6 B base Q i (j + 1)) := X3
              clear X3 AD hD hc5 cU cO fU fO mk12
              go_wp2_with fail
              go_roundg (m - (j + 1))
              case measure => omega
              case rel => exact ⟨j + 1, by go_num, by omega, Nat.le_refl _, X4⟩
            · have hq1' : ¬ (q : Int) = 1 := by omega
              have X3 : Aside (StB w (w5.setCell ⟨Q + 1, j, none⟩ (.bool false)) B base Q i (j + 1)) := X2.off
              clear X2
              go_wp2_with fail
              go_roundg (m - (j + 1))
              case measure => omega
              case rel => exact ⟨j + 1, by go_num, by omega, Nat.le_refl _, X3⟩
        · have hcase : ((j : Int) < (i : Int) ∧ ¬ (j : Int) < (len1 : Int)) ∨ ¬ (j : Int) < (i : Int) := by omega
          have AV : Aside (Calls Tryd.prog 11 #[.pointer (some ⟨B, 0, none⟩), .int .u64 2147483648] wr fun e w' => ∃ a L cap d, e = .returned (.slice a L cap) ∧ d.length = L ∧ L ≤ 1000 ∧ IsL w' a cap d ∧ StC w w' B base Q i d) := A.out.adv
          clear A hm hj hkx2 hlt2
          rcases hcase with ⟨hx, hx2⟩ | hx
          all_goals
            go_wp2_with fail
            refine AV.out.mono ?_
            rintro e w3 ⟨a3, L3, c3, d3, rfl, hL3, hL3m, is3, C0⟩
            have HL3 : Hid (d3.length = L3) := hL3
            have IS3 : Aside (IsL w3 a3 c3 d3) := is3
            have C1 : Aside (StC w w3 B base Q i (d3.drop 0)) := C0
            have C1' : Aside (StC w w3 B base Q i d3) := C0
            clear hL3 is3 C0 AV
            go_wp2_with fail
            go_loopg [12, 13] L3 (fun kx s12 s13 wr => ∃ (k : Nat), s12 = .int .i64 k ∧ k ≤ L3 ∧ L3 - k ≤ kx ∧ Aside (StC w wr B base Q i (d3.drop k)) ∧ Aside (Fr (fun k => k = Q + 1) w3 wr))
            case atStart => exact ⟨0, rfl, by omega, by omega, C1, Fr.refl _ _⟩
            case round =>
              clear C1
              obtain ⟨k, rfl, hk, hkx3, C, FR⟩ := hrel
              by_cases hlt3 : k < L3
              · have hzk : (k : Int) < (L3 : Int) := by omega
                have hk3 : k < d3.length := by rw [HL3.out]; exact hlt3
                have C2 := C.out
                rw [List.drop_eq_getElem_cons hk3] at C2
                obtain ⟨t, ht, cU, cO, fO, hid, C3⟩ := C2.step
                obtain ⟨b, off, ha, hb, y1, y2⟩ := IS3.out.elem k d3[k] (List.getElem?_eq_getElem hk3)
                subst ha
                obtain ⟨xd, hxd⟩ : ∃ xd, d3[k].1 = xd := ⟨_, rfl⟩
                obtain ⟨xi, hxi⟩ : ∃ xi, d3[k].2 = xi := ⟨_, rfl⟩
                rw [hxd] at y1 cU
                rw [hxi] at y2 hid
                have bQ : ¬ b = Q + 1 := by
                  intro e
                  subst e
                  have hz := C1'.out.apart (d := d3) (off := off + k * 2 + 1) y2
                  exact hz rfl
                have y1' : wr.cell? ⟨b, off + k * 2, none⟩ = some (.int .u64 xd) := (World.cell?_of_block (FR.out.block b hb bQ)).trans y1
                have y2' : wr.cell? ⟨b, off + k * 2 + 1, none⟩ = some (.int .i64 xi) := (World.cell?_of_block (FR.out.block b hb bQ)).trans y2
                have t1 : ¬ xi < 1 := by omega
                have t2 : ¬ (i : Int) < xi := by omega
                have t3 : xi - 1 = (t : Int) := by omega
                have C5 : Aside (StC w (wr.setCell ⟨Q + 1, t, none⟩ (.bool false)) B base Q i (d3.drop (k + 1))) := C3
                clear hxd hxi C2 C3 C y1 y2 hid
                go_upto_region 31 with fail
                go_quiet (fail)
                have C4 : Aside (StC w ((wr.drewN nq).setCell ⟨Q + 1, t, none⟩ (.bool false)) B base Q i (d3.drop (k + 1))) := C5.out.drewN nq
                have FR2 : Aside (Fr (fun k => k = Q + 1) w3 ((wr.drewN nq).setCell ⟨Q + 1, t, none⟩ (.bool false))) := (FR.out.trans (Fr.below (X := fun _ => False) (below_drewN wr nq)) (fun j hj => hj.elim)).trans (Fr.setCell (fun k => k = Q + 1) _ _ _ _ rfl) (fun j hj => .inl hj)
                have cO' : (wr.drewN nq).cell? ⟨Q + 1, t, none⟩ = some (.bool true) := cO
                have fO' : (wr.drewN nq).frozen? ⟨Q + 1, t, none⟩ = false := fO
                clear cO fO cU y1' y2' FR C5
                generalize wr.drewN nq = W2 at C4 FR2 cO' fO' ⊢
                go_wp2_with fail
                go_roundg (L3 - (k + 1))
                case measure => omega
                case rel => exact ⟨k + 1, by go_num, by omega, Nat.le_refl _, C4, FR2⟩
              · have e0 : k = L3 := by omega
                subst e0
                have hzk : ¬ (k : Int) < (k : Int) := by omega
                have C2 := C.out
                rw [← HL3.out, List.drop_length] at C2
                have C3 : Aside (StC w wr B base Q i []) := C2
                clear C2 C FR
                go_wp2_with fail
                go_loopg [14] i (fun kx s14 wr' => ∃ (g : Nat), s14 = .int .i64 g ∧ g ≤ i ∧ i - g ≤ kx ∧ wr' = wr)
                case atStart => exact ⟨0, rfl, by omega, by omega, rfl⟩
                case round =>
                  obtain ⟨g, rfl, hg, hkx4, rfl⟩ := hrel
                  by_cases hlt4 : g < i
                  · have hzg : (g : Int) < (i : Int) := by omega
                    have cO := C3.out.off hlt4
                    go_wp2_with fail
                    go_roundg (i - (g + 1))
                    case measure => omega
                    case rel => exact ⟨g + 1, by go_num, by omega, Nat.le_refl _, rfl⟩
                  · have e0 : g = i := by omega
                    subst e0
                    have hzg : ¬ (g : Int) < (g : Int) := by omega
                    go_wp2_with fail
                    refine (C3.out.len).mono ?_
                    rintro e w7 ⟨rfl, rfl⟩
                    go_wp2_with fail
                    refine (C3.out.awk).mono ?_
                    rintro e w8 ⟨rfl, bel⟩
                    go_wp2_with fail
                    go_ret
                    exact ⟨rfl, bel⟩
end Go.Proofs.YtbopobgnmkhabaaDoor
