/- The walk of 'WheelOnce'. -/
import Derived.Test.YtbopobgnmkhabaaDoorWhZ
import Derived.Test.YtbopobgnmkhabaaDoorRowAt
import Derived.Test.YtbopobgnmkhabaaDoorMask
import Derived.Deep.CutBlock
import Derived.Deep.DeepCutAuto
namespace Go.Proofs.YtbopobgnmkhabaaDoor
open Go.RowKit Go.Lib Go.Sort Go.WideMaps Go.Maps Go.Deep
set_option linter.unusedVariables false

theorem mask_u64 (n : Int) (k : Nat) (m K : Int) (hm : m = ((2 ^ k - 1 : Nat) : Int)) (hK : K = ((2 ^ k : Nat) : Int)) (hk : k ≤ 62) (h0 : 0 ≤ n) (h1 : n < 18446744073709551616) : bits .and .u64 n m = n % K := by
  have hp : (2 : Nat) ^ k ≤ 2 ^ 62 := Nat.pow_le_pow_right (by decide) hk
  have hp1 : 0 < (2 : Nat) ^ k := Nat.two_pow_pos k
  rw [u64_and n m h0 h1 (by omega) (by omega)]
  have e : m.toNat = 2 ^ k - 1 := by omega
  rw [e, Nat.and_two_pow_sub_one_eq_mod, hK, Int.natCast_emod, Int.toNat_of_nonneg h0]

/-- Between two rounds of the first loop: none is told yet. -/
def OnA (w wr : World) (B base Q n i : Nat) : Prop := ∃ F T U O, Loc w wr F B base 0 T Q n U (fun _ => false) ∧ Has n U O T ∧ (∀ j, U j < 1099511627776) ∧ ∀ j, O j = decide (j < i)
/-- .. of the second: those that are not told are there, and ahead of now. -/
def OnB (w wr : World) (B base Q n now : Nat) (first : Bool) (last : Bool) : Prop := ∃ F T U O, Loc w wr F B base now T Q n U (fun j => !O j) ∧ Has n U O T ∧ (∀ j, U j < 1099511627776) ∧ (first = false → ∀ x ∈ T, (now : Int) < x.1) ∧ (last = true → T = [])
/-- .. of the third: d is yet to be looked at. -/
def OnC (w wr : World) (B base Q n now : Nat) (last : Bool) (d : List Ent) : Prop := ∃ F T U O, Loc w wr F B base now T Q n U (fun j => !O j) ∧ Has n U O (d ++ T) ∧ ((d ++ T).map Prod.snd).Nodup ∧ (∀ j, U j < 1099511627776) ∧ (∀ x ∈ T, (now : Int) < x.1) ∧ (last = true → T = [])
variable {w wr : World} {B base Q n i now : Nat} {first last : Bool}
theorem OnA.zero {F : Nat → Prop} (h : Wst w wr F B base 0 []) (n : Nat) : OnA w ((wr.alloc (.cells (madeCells #[.int .u64 0] n) 25)).alloc (.cells (madeCells #[.bool false] n) 4)) B base wr.heap.size n 0 :=
  ⟨F, [], _, fun _ => false, Loc.make h n, fun x => ⟨fun hx => (by cases hx), fun ⟨j, h1, h2, h3⟩ => (by cases h2)⟩, fun _ => (by decide), fun j => (by simp)⟩
theorem OnA.cells (h : OnA w wr B base Q n i) (hi : i < n) : (∃ u, wr.cell? ⟨Q, i, none⟩ = some (.int .u64 u)) ∧ wr.frozen? ⟨Q, i, none⟩ = false ∧ w.heap.size ≤ Q ∧ Below w.heap.size w wr := by
  obtain ⟨F, T, U, O, h1, h2, h3, h4⟩ := h
  exact ⟨⟨_, h1.cellU hi⟩, h1.us.frozen i, h1.q0, h1.st.bel⟩
theorem OnA.add (h : OnA w wr B base Q n i) (hi : i < n) (hn : n ≤ 500) {D : Nat} (hD : D < 1099511627776) :
    Calls Tryd.prog 10 #[.pointer (some ⟨B, 0, none⟩), .int .i64 ((i : Int) + 1), .int .u64 (D : Int)] (wr.setCell ⟨Q, i, none⟩ (.int .u64 (D : Int))) fun e w' => e = .returned (.int .i64 0) ∧ OnA w w' B base Q n (i + 1) := by
  obtain ⟨F, T, U, O, h1, h2, h3, h4⟩ := h
  have l1 := h1.setU i D
  have hO : O i = false := by rw [h4 i]; simp
  refine Calls.mono (l1.st.add (i := (i : Int) + 1) (D := D) (wfI_of (by omega) (by omega)) (by unfold B64; omega)) ?_
  rintro e w' ⟨rfl, g⟩
  obtain ⟨F', l2⟩ := l1.go g
  refine ⟨by rw [h2.addR h1.st.whl.ok hi hn hO], F', _, _, _, l2, h2.add h1.st.whl.ok hi hn hO D, fun j => ?_, fun j => ?_⟩
  · by_cases e : j = i
    · simp [e, hD]
    · simp [e, h3 j]
  · by_cases e : j = i
    · simp [e]
    · simp only [e, if_false, h4 j]; congr 1; simp only [eq_iff_iff]; omega
theorem OnA.toB (h : OnA w wr B base Q n n) : OnB w wr B base Q n 0 true false := by
  obtain ⟨F, T, U, O, h1, h2, h3, h4⟩ := h
  refine ⟨F, T, U, O, ⟨h1.st, h1.us, h1.os.congr (fun j hj => by rw [h4 j]; simp [hj]), h1.q0, h1.f0, h1.f1⟩, h2, h3, fun e => (by cases e), fun e => (by cases e)⟩
theorem OnB.adv (h : OnB w wr B base Q n now first false) {tt : Nat} (hb : tt < B64) (hnt : now ≤ tt) (hl : last = true → tt = 1125899906842624) :
    Calls Tryd.prog 11 #[.pointer (some ⟨B, 0, none⟩), .int .u64 (tt : Int)] wr fun e w' => ∃ a L cap d, e = .returned (.slice a L cap) ∧ d.length = L ∧ L ≤ 1000 ∧ IsL w' a cap d ∧ Srt d ∧ (∀ x ∈ d, x.1 ≤ (tt : Int) ∧ (first = false → (now : Int) < x.1)) ∧ OnC w w' B base Q n tt last d := by
  obtain ⟨F, T, U, O, h1, h2, h3, h4, h5⟩ := h
  have hT := h1.st.whl.ok
  have em : max now tt = tt := by omega
  refine Calls.mono (h1.st.advance (tt := tt) hb) ?_
  rw [em]
  rintro e w' ⟨a, cap, rfl, q, g⟩
  obtain ⟨F', l2⟩ := h1.go g
  have hmem : ∀ x, x ∈ dueL tt T ++ restL tt T ↔ x ∈ T := fun x => by
    rw [List.mem_append, mem_due, mem_rest]
    constructor
    · rintro (h | h) <;> exact h.1
    · intro h; by_cases hx : x.1 ≤ (tt : Int)
      · exact .inl ⟨h, hx⟩
      · exact .inr ⟨h, by omega⟩
  have hperm : (dueL tt T ++ restL tt T).Perm T := by
    have e1 : restL tt T = T.filter (fun x => !decide (x.1 ≤ (tt : Int))) := by
      unfold restL
      congr 1
      funext x
      by_cases hx : x.1 ≤ (tt : Int)
      · simp [hx]
      · simp [hx]; omega
    rw [e1]
    exact List.filter_append_perm _ _
  refine ⟨a, _, cap, _, rfl, rfl, Nat.le_trans (List.length_filter_le _ _) hT.len, q, hT.srt.filt _, fun x hx => ⟨(mem_due.1 hx).2, fun hf => h4 hf x (mem_due.1 hx).1⟩, F', _, U, O, l2, fun x => by rw [hmem]; exact h2 x, ?_, h3, fun x hx => (mem_rest.1 hx).2, fun hl' => ?_⟩
  · exact ((hperm.map Prod.snd).nodup_iff).2 hT.ids
  · refine List.filter_eq_nil_iff.2 (fun x hx => ?_)
    obtain ⟨j, -, -, rfl⟩ := (h2 x).1 hx
    have := h3 j
    have := hl hl'
    simp only [decide_eq_true_eq]
    omega
theorem OnC.step {x : Ent} {d : List Ent} (h : OnC w wr B base Q n now last (x :: d)) : ∃ t, t < n ∧ wr.cell? ⟨Q, t, none⟩ = some (.int .u64 x.1) ∧ wr.cell? ⟨Q + 1, t, none⟩ = some (.bool false) ∧ wr.frozen? ⟨Q + 1, t, none⟩ = false ∧ x.2 = (t : Int) + 1 ∧ OnC w (wr.setCell ⟨Q + 1, t, none⟩ (.bool true)) B base Q n now last d := by
  obtain ⟨F, T, U, O, h1, h2, h3, h4, h5, h6⟩ := h
  obtain ⟨t, t1, t2, t3, t4⟩ := Has.tail (T := d ++ T) h2 h3
  refine ⟨t, t1, by rw [h1.cellU t1, t3], by rw [h1.cellO t1, t2]; rfl, h1.os.frozen t, by rw [t3], F, T, U, _, (h1.setO t true).congr (fun _ => rfl) (fun j => ?_), t4, by rw [List.cons_append, List.map_cons] at h3; exact (List.nodup_cons.1 h3).2, h4, h5, h6⟩
  by_cases e : j = t <;> simp [e]
theorem OnC.drewN {d : List Ent} (h : OnC w wr B base Q n now last d) (q : Nat) : OnC w (wr.drewN q) B base Q n now last d := by
  obtain ⟨F, T, U, O, h1, h2, h3⟩ := h
  exact ⟨F, T, U, O, ⟨h1.st.below (below_drewN wr q), h1.us.of_block rfl, h1.os.of_block rfl, h1.q0, h1.f0, h1.f1⟩, h2, h3⟩
theorem OnC.done (h : OnC w wr B base Q n now last []) : OnB w wr B base Q n now false last := by
  obtain ⟨F, T, U, O, h1, h2, h3, h4, h5, h6⟩ := h
  exact ⟨F, T, U, O, h1, h2, h4, fun _ => h5, h6⟩
/-- The row of timers is no row of bits. -/
theorem OnC.apart {d : List Ent} (h : OnC w wr B base Q n now last d) {b off : Nat} {z : Int} (hc : wr.cell? ⟨b, off, none⟩ = some (.int .i64 z)) : ¬ b = Q + 1 := fun e => by
  obtain ⟨F, T, U, O, h1, h2, h3⟩ := h
  obtain ⟨c, q1, q2, q3⟩ := h1.os
  subst e
  simp only [World.cell?, q1] at hc
  by_cases ho : off < n
  · have := q3 off ho
    simp [this] at hc
  · have : c[off]? = none := Array.getElem?_eq_none (by omega)
    simp [this] at hc
theorem OnB.on (h : OnB w wr B base Q n now first true) {j : Nat} (hj : j < n) : wr.cell? ⟨Q + 1, j, none⟩ = some (.bool true) := by
  obtain ⟨F, T, U, O, h1, h2, h3, h4, h5⟩ := h
  rw [h5 rfl] at h2
  rw [h1.cellO hj, h2.nil hj]
  rfl
theorem OnB.len (h : OnB w wr B base Q n now first true) : Calls Tryd.prog 12 #[.pointer (some ⟨B, 0, none⟩)] wr fun e w' => e = .returned (.int .i64 0) ∧ w' = wr := by
  obtain ⟨F, T, U, O, h1, h2, h3, h4, h5⟩ := h
  have e := h5 rfl
  subst e
  exact wlen_any h1.st.whl
theorem OnB.awk (h : OnB w wr B base Q n now first last) : Calls Tryd.prog 14 #[] wr fun e w' => e = .returned (.bool true) ∧ Below w.heap.size w w' := by
  obtain ⟨F, T, U, O, h1, h2, h3⟩ := h
  refine Calls.mono (awake_any wr h1.st.tabW (Nat.lt_of_lt_of_le h1.st.pos h1.st.bel.size)) ?_
  rintro e w' ⟨rfl, q⟩
  exact ⟨rfl, h1.st.bel.trans (q.mono h1.st.bel.size)⟩
theorem OnB.bel (h : OnB w wr B base Q n now first last) : w.heap.size ≤ Q ∧ Below w.heap.size w wr := by
  obtain ⟨F, T, U, O, h1, h2, h3⟩ := h
  exact ⟨h1.q0, h1.st.bel⟩
/-- Of two that follow each other in order, with other ids. -/
theorem srt_next {d : List Ent} (hs : Srt d) (hn : (d.map Prod.snd).Nodup) {k : Nat} (hk : k + 1 < d.length) : d[k].1 < d[k + 1].1 ∨ (d[k].1 = d[k + 1].1 ∧ d[k].2 < d[k + 1].2) := by
  have h1 := List.pairwise_iff_getElem.1 hs k (k + 1) (by omega) hk (by omega)
  have h2 : d[k].2 ≠ d[k + 1].2 := by
    have := List.pairwise_iff_getElem.1 hn k (k + 1) (by simp; omega) (by simp; omega) (by omega)
    simpa using this
  unfold ltE at h1
  by_cases e : d[k + 1].1 = d[k].1
  · rw [if_pos e] at h1
    simp only [decide_eq_false_iff_not] at h1
    right; omega
  · rw [if_neg e] at h1
    simp only [decide_eq_false_iff_not] at h1
    left; omega
theorem OnC.ids {d : List Ent} (h : OnC w wr B base Q n now last d) : (d.map Prod.snd).Nodup := by
  obtain ⟨F, T, U, O, h1, h2, h3, h4⟩ := h
  rw [List.map_append] at h3
  exact (List.nodup_append.1 h3).1

set_option maxHeartbeats 16000000 in
set_option maxRecDepth 100000 in
theorem wheelOnce_walk (a0 : Option Addr) (len0 cap0 : Nat) (zs : List Int) (a1 : Option Addr) (len1 cap1 : Nat) (ys : List Int) (w : World) (h0 : IsRow .u64 w a0 len0 cap0 zs) (h1 : IsRow .u64 w a1 len1 cap1 ys) (hN : TabW w ∧ 0 < w.heap.size) :
    Calls Tryd.prog 7 #[.slice a0 len0 cap0, .slice a1 len1 cap1] w fun r w' => r = .returned (.bool true) ∧ Below w.heap.size w w' := by
  obtain ⟨B, hB⟩ : ∃ B, w.heap.size + 1 = B := ⟨_, rfl⟩
  obtain ⟨base, hbs⟩ : ∃ base, w.heap.size = base := ⟨_, rfl⟩
  have hl0 := h0.len_le
  have hl1 := h1.len_le
  have H0 : Aside (IsRow .u64 w a0 len0 cap0 zs) := h0
  have H1 : Aside (IsRow .u64 w a1 len1 cap1 ys) := h1
  obtain ⟨n, hn, n50, nl⟩ : ∃ N : Nat, min (len0 : Int) 50 = (N : Int) ∧ N ≤ 50 ∧ N ≤ len0 := ⟨min len0 50, by omega, by omega, by omega⟩
  have hmk := run_make_row' (P := Tryd.prog) 22 25 (.int .u64 0) 8 Tryd.underlying22 infoU64 rfl .i64 .i64 n (by omega) (by omega)
  have hmb := run_make_row' (P := Tryd.prog) 37 4 (.bool false) 1 Tryd.underlying37 infoBool rfl .i64 .i64 n (by omega) (by omega)
  have NEW : Aside (Calls Tryd.prog 9 #[.int .u64 0] w fun e w' => e = .returned (.pointer (some ⟨B, 0, none⟩)) ∧ ∃ F, Wst w w' F B base 0 []) := by
    refine Calls.mono (Wst.new 0 (by decide) (Below.refl w.heap.size w) hN.1 hN.2) ?_
    rintro e w' ⟨rfl, -, F, q⟩
    exact ⟨by rw [hB], F, by rw [hB, hbs] at q; exact q⟩
  clear h0 h1 hB hbs
  go_enter Tryd.func7, Tryd.ntmps7
  go_wp2_with (go_at_call 9; refine NEW.out.mono ?_; rintro e w1 ⟨rfl, F, K0⟩)
  have A0 := OnA.zero K0 n
  obtain ⟨Q, hQ⟩ : ∃ Q, w1.heap.size = Q := ⟨_, rfl⟩
  rw [hQ] at A0 ⊢
  have A1 : Aside (OnA w ((w1.alloc (.cells (madeCells #[.int .u64 0] n) 25)).alloc (.cells (madeCells #[.bool false] n) 4)) B base Q n 0) := A0
  clear NEW K0 A0 hmk hmb hQ
  go_loopg [9] n (fun kx s9 wr => ∃ (i : Nat), s9 = .int .i64 i ∧ i ≤ n ∧ n - i ≤ kx ∧ Aside (OnA w wr B base Q n i))
  case atStart => exact ⟨0, rfl, by omega, by omega, A1⟩
  case round =>
    clear A1
    obtain ⟨i, rfl, hi, hkx, A⟩ := hrel
    by_cases hlt : i < n
    · have hz : (i : Int) < (n : Int) := by omega
      have hz0 : (i : Int) < (len0 : Int) := by omega
      obtain ⟨⟨u0, cU⟩, fU, Qw, bel⟩ := A.out.cells hlt
      obtain ⟨b, off, ha, hb, hc, hw⟩ := H0.out.at (show i < len0 by omega)
      subst ha
      have bQ : ¬ b = Q := by omega
      have hc2 : wr.cell? ⟨b, off + i, none⟩ = some (.int .u64 (zs.getD i 0)) := (World.cell?_of_block (bel.block b hb)).trans hc
      generalize zs.getD i 0 = z at hw hc2
      obtain ⟨z0, z1⟩ : 0 ≤ z ∧ z < 18446744073709551616 := by
        simp [Lit.wf, IntKind.min, IntKind.max, IntKind.bits, IntKind.signed] at hw
        omega
      have mk := mask_u64 z 40 1099511627775 1099511627776 (by decide) (by decide) (by decide) z0 z1
      obtain ⟨D, hD, hDb⟩ : ∃ D : Nat, z % 1099511627776 = (D : Int) ∧ D < 1099511627776 := ⟨(z % 1099511627776).toNat, by omega, by omega⟩
      rw [hD] at mk
      have AD : Aside (Calls Tryd.prog 10 #[.pointer (some ⟨B, 0, none⟩), .int .i64 ((i : Int) + 1), .int .u64 (D : Int)] (wr.setCell ⟨Q, i, none⟩ (.int .u64 (D : Int))) fun e w' => e = .returned (.int .i64 0) ∧ OnA w w' B base Q n (i + 1)) := A.out.add hlt (by omega) hDb
      clear A hc hw hD z0 z1 bel hb
      go_wp2_with fail
      refine AD.out.mono ?_
      rintro e w2 ⟨rfl, G1⟩
      have G3 : Aside (OnA w w2 B base Q n (i + 1)) := G1
      clear G1
      go_wp2_with fail
      go_roundg (n - (i + 1))
      case measure => omega
      case rel => exact ⟨i + 1, by go_num, by omega, Nat.le_refl _, G3⟩
    · have e0 : i = n := by omega
      subst e0
      have hz : ¬ (i : Int) < (i : Int) := by omega
      have B0 : Aside (OnB w wr B base Q i 0 true false) := A.out.toB
      clear A
      go_wp2_with fail
      obtain ⟨M, hM⟩ : ∃ M, min len1 40 = M := ⟨_, rfl⟩
      go_loopg [10, 11, 12, 13, 14, 15] (M + 1) (fun kx s10 s11 s12 s13 s14 s15 wr => ∃ (j now : Nat), s11 = .int .i64 j ∧ s10 = .int .u64 now ∧ j ≤ M + 1 ∧ M + 1 - j ≤ kx ∧ (j ≤ M → now ≤ j * 68719476736) ∧ Aside (OnB w wr B base Q i now (decide (j = 0)) (decide (j = M + 1))))
      case atStart => exact ⟨0, 0, rfl, rfl, by omega, by omega, by omega, by simpa using B0⟩
      case round =>
        clear B0
        obtain ⟨j, now, rfl, rfl, hj, hkx2, hnow, A⟩ := hrel
        by_cases hlt2 : j ≤ M
        · have hz1 : (j : Int) ≤ (len1 : Int) := by omega
          have hz2 : (j : Int) ≤ 40 := by omega
          have hnb := hnow hlt2
          obtain ⟨Qw, bel⟩ := A.out.bel
          have A2 := A.out
          rw [show decide (j = M + 1) = false by simp; omega] at A2
          have main : ((j : Int) < (len1 : Int) ∧ (j : Int) < 40 ∧ ∃ b off z D, a1 = some ⟨b, off, none⟩ ∧ wr.cell? ⟨b, off + j, none⟩ = some (.int .u64 z) ∧ bits .and .u64 z 68719476735 = ((D : Nat) : Int) ∧ D < 68719476736) ∨ ((j : Int) < (len1 : Int) ∧ ¬ (j : Int) < 40) ∨ ¬ (j : Int) < (len1 : Int) := by
            by_cases hjm : j < M
            · left
              refine ⟨by omega, by omega, ?_⟩
              obtain ⟨b, off, ha, hb, hc, hw⟩ := H1.out.at (show j < len1 by omega)
              have hc2 : wr.cell? ⟨b, off + j, none⟩ = some (.int .u64 (ys.getD j 0)) := (World.cell?_of_block (bel.block b hb)).trans hc
              generalize ys.getD j 0 = z at hw hc2
              obtain ⟨z0, z1⟩ : 0 ≤ z ∧ z < 18446744073709551616 := by
                simp [Lit.wf, IntKind.min, IntKind.max, IntKind.bits, IntKind.signed] at hw
                omega
              exact ⟨b, off, z, (z % 68719476736).toNat, ha, hc2, by rw [mask_u64 z 36 68719476735 68719476736 (by decide) (by decide) (by decide) z0 z1]; omega, by omega⟩
            · right; omega
          have AVT : Aside (∀ tt : Nat, tt < B64 → now ≤ tt → (decide (j + 1 = M + 1) = true → tt = 1125899906842624) → Calls Tryd.prog 11 #[.pointer (some ⟨B, 0, none⟩), .int .u64 (tt : Int)] wr fun e w' => ∃ a L cap d, e = .returned (.slice a L cap) ∧ d.length = L ∧ L ≤ 1000 ∧ IsL w' a cap d ∧ Srt d ∧ (∀ x ∈ d, x.1 ≤ (tt : Int) ∧ (decide (j = 0) = false → (now : Int) < x.1)) ∧ OnC w w' B base Q i tt (decide (j + 1 = M + 1)) d) := fun tt t1 t2 t3 => A2.adv t1 t2 t3
          obtain ⟨tt, AV, htt, HTT⟩ : ∃ tt : Nat, Aside (Calls Tryd.prog 11 #[.pointer (some ⟨B, 0, none⟩), .int .u64 (tt : Int)] wr fun e w' => ∃ a L cap d, e = .returned (.slice a L cap) ∧ d.length = L ∧ L ≤ 1000 ∧ IsL w' a cap d ∧ Srt d ∧ (∀ x ∈ d, x.1 ≤ (tt : Int) ∧ (decide (j = 0) = false → (now : Int) < x.1)) ∧ OnC w w' B base Q i tt (decide (j + 1 = M + 1)) d) ∧ (j + 1 ≤ M → tt ≤ (j + 1) * 68719476736) ∧ Hid (((j : Int) < (len1 : Int) ∧ (j : Int) < 40 ∧ ∃ b off z D, a1 = some ⟨b, off, none⟩ ∧ wr.cell? ⟨b, off + j, none⟩ = some (.int .u64 z) ∧ bits .and .u64 z 68719476735 = ((D : Nat) : Int) ∧ D < 68719476736 ∧ (now : Int) + (D : Int) = (tt : Int)) ∨ (((j : Int) < (len1 : Int) ∧ ¬ (j : Int) < 40) ∧ (tt : Int) = 1125899906842624) ∨ (¬ (j : Int) < (len1 : Int) ∧ (tt : Int) = 1125899906842624)) := by
            rcases main with ⟨q1, q2, b, off, z, D, q3, q4, q5, q6⟩ | q | q
            · exact ⟨now + D, AVT.out _ (by unfold B64; omega) (by omega) (fun e => by simp at e; omega), by omega, .inl ⟨q1, q2, b, off, z, D, q3, q4, q5, q6, by omega⟩⟩
            · exact ⟨1125899906842624, AVT.out _ (by unfold B64; omega) (by omega) (fun _ => rfl), by omega, .inr (.inl ⟨q, rfl⟩)⟩
            · exact ⟨1125899906842624, AVT.out _ (by unfold B64; omega) (by omega) (fun _ => rfl), by omega, .inr (.inr ⟨q, rfl⟩)⟩
          clear AVT main A A2 bel hM
          obtain ⟨G, hG⟩ : ∃ G : Bool, decide ((j : Int) < (len1 : Int) ∧ (j : Int) < 40) = G := ⟨_, rfl⟩
          have HG : Hid _ := hG
          clear hG
          go_upto_region 18 with fail
          go_cut [67] from 49 to 185 (fun v wv => v = .bool G ∧ wv = wr)
          case first =>
            have HT := HTT.out
            clear HTT AV
            rcases HT with ⟨q1, q2, b, off, z, D, q3, q4, q5, q6, HS⟩ | ⟨⟨q1, q2⟩, HT⟩ | ⟨q1, HT⟩
            · go_wp2_with fail
              go_meet
              exact ⟨by rw [← HG.out, decide_eq_true ⟨q1, q2⟩], rfl⟩
            · go_wp2_with fail
              go_meet
              exact ⟨by rw [← HG.out, decide_eq_false (fun h => by omega)], rfl⟩
            · go_wp2_with fail
              go_meet
              exact ⟨by rw [← HG.out, decide_eq_false (fun h => by omega)], rfl⟩
          case rest =>
            obtain ⟨rfl, hwc⟩ := hcut
            subst hwc
            go_upto_if 67 with fail
            go_cut [10] from 49 to 185 (fun v wv => v = .int .u64 (tt : Int) ∧ wv = wc)
            case first =>
              have HT := HTT.out
              clear HTT AV
              rcases HT with ⟨q1, q2, b, off, z, D, q3, q4, q5, q6, HS⟩ | ⟨⟨q1, q2⟩, HT⟩ | ⟨q1, HT⟩
              · have g0 : G = true := by rw [← HG.out]; exact decide_eq_true ⟨q1, q2⟩
                subst g0 q3
                go_wp2_with fail
                go_meet
                exact ⟨rfl, rfl⟩
              · have g0 : G = false := by rw [← HG.out]; exact decide_eq_false (fun h => by omega)
                subst g0
                go_wp2_with fail
                go_meet
                exact ⟨by rw [HT], rfl⟩
              · have g0 : G = false := by rw [← HG.out]; exact decide_eq_false (fun h => by omega)
                subst g0
                go_wp2_with fail
                go_meet
                exact ⟨by rw [HT], rfl⟩
            case rest =>
              obtain ⟨rfl, hwc⟩ := hcut
              subst hwc
              clear HTT HG
              go_wp2_with fail
              refine AV.out.mono ?_
              rintro e w3 ⟨a3, L3, c3, d3, rfl, hL3, hL3m, is3, sr3, bd3, C0⟩
              have HL3 : Hid (d3.length = L3) := hL3
              have IS3 : Aside (IsL w3 a3 c3 d3) := is3
              have SR3 : Aside (Srt d3) := sr3
              have BD3 : Aside (∀ x ∈ d3, x.1 ≤ (tt : Int) ∧ (decide (j = 0) = false → (now : Int) < x.1)) := bd3
              have ID3 : Aside ((d3.map Prod.snd).Nodup) := C0.ids
              have C1 : Aside (OnC w w3 B base Q i tt (decide (j + 1 = M + 1)) (d3.drop 0)) := C0
              have C1' : Aside (OnC w w3 B base Q i tt (decide (j + 1 = M + 1)) d3) := C0
              clear hL3 is3 sr3 bd3 C0 AV
              go_wp2_with fail
              go_loopg [14, 15] L3 (fun kx s14 s15 wr => ∃ (k : Nat), s14 = .int .i64 k ∧ k ≤ L3 ∧ L3 - k ≤ kx ∧ Aside (OnC w wr B base Q i tt (decide (j + 1 = M + 1)) (d3.drop k)) ∧ Aside (Fr (fun k => k = Q + 1) w3 wr))
              case atStart => exact ⟨0, rfl, by omega, by omega, C1, Fr.refl _ _⟩
              case round =>
                clear C1
                obtain ⟨k, rfl, hk, hkx3, C, FR⟩ := hrel
                by_cases hlt3 : k < L3
                · have hzk : (k : Int) < (L3 : Int) := by omega
                  have hk3 : k < d3.length := by rw [HL3.out]; exact hlt3
                  have C2 := C.out
                  rw [List.drop_eq_getElem_cons hk3] at C2
                  obtain ⟨t, ht, cU, cO, fO, hid, C3⟩ := C2.step
                  obtain ⟨xb, xo, ha, hb, y1, y2⟩ := IS3.out.elem k d3[k] (List.getElem?_eq_getElem hk3)
                  obtain ⟨bd, hf⟩ := BD3.out _ (List.getElem_mem hk3)
                  obtain ⟨xd, hxd⟩ : ∃ xd, d3[k].1 = xd := ⟨_, rfl⟩
                  obtain ⟨xi, hxi⟩ : ∃ xi, d3[k].2 = xi := ⟨_, rfl⟩
                  have bQ : ¬ xb = Q + 1 := C1'.out.apart y2
                  have hcs : ¬ xd ≤ (now : Int) ∨ (xd ≤ (now : Int) ∧ ¬ 0 < j) := by
                    rw [hxd] at hf
                    by_cases hj0 : j = 0
                    · by_cases hx : xd ≤ (now : Int)
                      · right; exact ⟨hx, by omega⟩
                      · left; exact hx
                    · left
                      have := hf (by simp [hj0])
                      omega
                  have hord : ¬ 0 < k ∨ ∃ (k' : Nat) (pd pi : Int), (0 < k ∧ k' < L3 ∧ (k' : Int) < (L3 : Int)) ∧ (k : Int) - 1 = (k' : Int) ∧ wr.cell? ⟨xb, xo + k' * 2, none⟩ = some (.int .u64 pd) ∧ wr.cell? ⟨xb, xo + k' * 2 + 1, none⟩ = some (.int .i64 pi) ∧ ¬ xd < pd ∧ (¬ xd = pd ∨ (xd = pd ∧ ¬ xi ≤ pi)) := by
                    by_cases hk0 : k = 0
                    · left; omega
                    · right
                      obtain ⟨k', rfl⟩ : ∃ k', k = k' + 1 := ⟨k - 1, by omega⟩
                      have hs := srt_next SR3.out ID3.out hk3
                      obtain ⟨xb2, xo2, ha2, hb2, v1, v2⟩ := IS3.out.elem k' d3[k'] (List.getElem?_eq_getElem (by omega))
                      have hab := ha.symm.trans ha2
                      injection hab with hab
                      injection hab with e1 e2 e3
                      subst e1 e2
                      refine ⟨k', d3[k'].1, d3[k'].2, by omega, by omega, (World.cell?_of_block (FR.out.block xb hb bQ)).trans v1, (World.cell?_of_block (FR.out.block xb hb bQ)).trans v2, by omega, ?_⟩
                      rcases hs with hs | ⟨h1, h2⟩
                      · left; omega
                      · right; omega
                  subst ha
                  rw [hxd] at y1 cU bd
                  rw [hxi] at y2 hid
                  have y1' : wr.cell? ⟨xb, xo + k * 2, none⟩ = some (.int .u64 xd) := (World.cell?_of_block (FR.out.block xb hb bQ)).trans y1
                  have y2' : wr.cell? ⟨xb, xo + k * 2 + 1, none⟩ = some (.int .i64 xi) := (World.cell?_of_block (FR.out.block xb hb bQ)).trans y2
                  have t1 : ¬ xi < 1 := by omega
                  have t2 : ¬ (i : Int) < xi := by omega
                  have t3 : xi - 1 = (t : Int) := by omega
                  have t4 : ¬ (tt : Int) < xd := by omega
                  have C5 : Aside (OnC w (wr.setCell ⟨Q + 1, t, none⟩ (.bool true)) B base Q i tt (decide (j + 1 = M + 1)) (d3.drop (k + 1))) := C3
                  clear hxd hxi C2 C3 C y1 y2 hid bd hf
                  go_upto_region 26 with fail
                  go_cut [141] from 78 to 185 (fun v wv => v = .bool false ∧ ∃ q, wv = wr.drewN q)
                  case first =>
                    as_aux_lemma =>
                      clear C5 FR hord
                      rcases hcs with hc1 | ⟨hc1, hc2⟩
                      all_goals try (exfalso; omega)
                      all_goals
                        go_quiet (fail)
                        go_wp2_with fail
                        go_meet
                        exact ⟨rfl, nq, rfl⟩
                  case rest =>
                    obtain ⟨rfl, nq, hwc⟩ := hcut
                    have C4 : Aside (OnC w (wc.setCell ⟨Q + 1, t, none⟩ (.bool true)) B base Q i tt (decide (j + 1 = M + 1)) (d3.drop (k + 1))) := by rw [hwc]; exact C5.out.drewN nq
                    have FR2 : Aside (Fr (fun k => k = Q + 1) w3 wc) := by rw [hwc]; exact FR.out.trans (Fr.below (X := fun _ => False) (below_drewN wr nq)) (fun j hj => hj.elim)
                    have cO' : wc.cell? ⟨Q + 1, t, none⟩ = some (.bool false) := by rw [hwc]; exact cO
                    have fO' : wc.frozen? ⟨Q + 1, t, none⟩ = false := by rw [hwc]; exact fO
                    have z1 : wc.cell? ⟨xb, xo + k * 2, none⟩ = some (.int .u64 xd) := by rw [hwc]; exact y1'
                    have z2 : wc.cell? ⟨xb, xo + k * 2 + 1, none⟩ = some (.int .i64 xi) := by rw [hwc]; exact y2'
                    have hord2 : ¬ 0 < k ∨ ∃ (k' : Nat) (pd pi : Int), (0 < k ∧ k' < L3 ∧ (k' : Int) < (L3 : Int)) ∧ (k : Int) - 1 = (k' : Int) ∧ wc.cell? ⟨xb, xo + k' * 2, none⟩ = some (.int .u64 pd) ∧ wc.cell? ⟨xb, xo + k' * 2 + 1, none⟩ = some (.int .i64 pi) ∧ ¬ xd < pd ∧ (¬ xd = pd ∨ (xd = pd ∧ ¬ xi ≤ pi)) := by rw [hwc]; exact hord
                    clear cO fO cU y1' y2' FR C5 hord hcs hwc
                    go_upto_region 28 with fail
                    go_cut [181] from 78 to 185 (fun v wv => v = .bool false ∧ ∃ q, wv = wc.drewN q)
                    case first =>
                      as_aux_lemma =>
                        clear C4 FR2
                        rcases hord2 with hk0 | ⟨k', pd, pi, ⟨hk0, hk01, hk02⟩, hk1, p1, p2, o1, o2 | ⟨o2, o3⟩⟩
                        all_goals
                          try subst o2
                          try have hkw : IntKind.i64.wrap (k' : Int) = (k' : Int) := by rw [IntKind.wrap_i64]; omega
                          go_quiet (fail)
                          go_wp2_with fail
                          go_meet
                          exact ⟨rfl, nq, rfl⟩
                    case rest =>
                      obtain ⟨rfl, nq, hwd⟩ := hcut
                      rename World => W3
                      have C6 : Aside (OnC w (W3.setCell ⟨Q + 1, t, none⟩ (.bool true)) B base Q i tt (decide (j + 1 = M + 1)) (d3.drop (k + 1))) := by rw [hwd]; exact C4.out.drewN nq
                      have FR3 : Aside (Fr (fun k => k = Q + 1) w3 (W3.setCell ⟨Q + 1, t, none⟩ (.bool true))) := by rw [hwd]; exact (FR2.out.trans (Fr.below (X := fun _ => False) (below_drewN wc nq)) (fun j hj => hj.elim)).trans (Fr.setCell (fun k => k = Q + 1) _ _ _ _ rfl) (fun j hj => .inl hj)
                      have cO2 : W3.cell? ⟨Q + 1, t, none⟩ = some (.bool false) := by rw [hwd]; exact cO'
                      have fO2 : W3.frozen? ⟨Q + 1, t, none⟩ = false := by rw [hwd]; exact fO'
                      clear cO' fO' z1 z2 FR2 C4 hord2 hwd
                      go_wp2_with fail
                      go_roundg (L3 - (k + 1))
                      case measure => omega
                      case rel => exact ⟨k + 1, by go_num, by omega, Nat.le_refl _, C6, FR3⟩
                · have e0 : k = L3 := by omega
                  subst e0
                  have hzk : ¬ (k : Int) < (k : Int) := by omega
                  have C2 := C.out
                  rw [← HL3.out, List.drop_length] at C2
                  have C3 : Aside (OnB w wr B base Q i tt (decide (j + 1 = 0)) (decide (j + 1 = M + 1))) := by
                    rw [show decide (j + 1 = 0) = false by simp]
                    exact C2.done
                  clear C2 C FR
                  go_wp2_with fail
                  go_roundg (M + 1 - (j + 1))
                  case measure => omega
                  case rel => exact ⟨j + 1, tt, by go_num, rfl, by omega, Nat.le_refl _, htt, C3⟩
        · have e0 : j = M + 1 := by omega
          have A2 := A.out
          rw [show decide (j = M + 1) = true by simp [e0]] at A2
          have A3 : Aside (OnB w wr B base Q i now (decide (j = 0)) true) := A2
          have hcase : ((j : Int) ≤ (len1 : Int) ∧ ¬ (j : Int) ≤ 40) ∨ ¬ (j : Int) ≤ (len1 : Int) := by omega
          clear A A2 hj hkx2 hlt2 hM hnow e0
          rcases hcase with ⟨hx, hx2⟩ | hx
          all_goals
            go_wp2_with fail
            go_loopg [16] i (fun kx s16 wr' => ∃ (g : Nat), s16 = .int .i64 g ∧ g ≤ i ∧ i - g ≤ kx ∧ wr' = wr)
            case atStart => exact ⟨0, rfl, by omega, by omega, rfl⟩
            case round =>
              obtain ⟨g, rfl, hg, hkx4, rfl⟩ := hrel
              by_cases hlt4 : g < i
              · have hzg : (g : Int) < (i : Int) := by omega
                have cO := A3.out.on hlt4
                go_wp2_with fail
                go_roundg (i - (g + 1))
                case measure => omega
                case rel => exact ⟨g + 1, by go_num, by omega, Nat.le_refl _, rfl⟩
              · have e0 : g = i := by omega
                subst e0
                have hzg : ¬ (g : Int) < (g : Int) := by omega
                go_wp2_with fail
                refine (A3.out.len).mono ?_
                rintro e w7 ⟨rfl, rfl⟩
                go_wp2_with fail
                refine (A3.out.awk).mono ?_
                rintro e w8 ⟨rfl, bel⟩
                go_wp2_with fail
                go_ret
                exact ⟨rfl, bel⟩
end Go.Proofs.YtbopobgnmkhabaaDoor
