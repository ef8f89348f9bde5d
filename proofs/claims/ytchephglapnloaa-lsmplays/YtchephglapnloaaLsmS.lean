/- Settling: what the walk of the document's settle wants. -/
import Derived.Test.YtchephglapnloaaLsmO
namespace Go.Proofs.Ytchephglapnloaa
open Go.RowKit Go.Lib Go.Sort
set_option linter.unusedVariables false

theorem bel_alloc (X : World) (o : Obj) : Below X.heap.size X (X.alloc o) := (Below.refl _ _).alloc (Nat.le_refl _) _
theorem bel_allocD (X : World) (o : Obj) : Below X.drew.heap.size X.drew (X.alloc o).drew := by
  have h := ((Below.refl X.heap.size X).alloc (Nat.le_refl _) o).drew
  exact ⟨h.os, h.tape, h.output, h.size, h.block⟩
theorem bel_D (X : World) : Below X.heap.size X X.drew := (Below.refl _ _).drew

theorem sett_done {ls T : List (List Ent)} (h : Sett ls T) (hn : ∀ j (hj : j + 1 < ls.length), lv (ls[j]'(by omega)) ≠ lv ls[j + 1]) : ls = T := by
  rcases h with ⟨_, h⟩ | ⟨pre, x, y, suf, rfl, hl, _⟩
  · exact h
  · have hj : pre.length + 1 < (pre ++ x :: y :: suf).length := by simp
    have := hn pre.length hj
    rw [List.getElem_append_right (Nat.le_refl _), List.getElem_append_right (by omega)] at this
    simp at this
    exact absurd hl this
theorem sett_at {ls T : List (List Ent)} {i : Nat} (h : Sett ls T) (hi : i + 1 < ls.length) (he : lv (ls[i]'(by omega)) = lv ls[i + 1]) :
    Fall (ls.take i ++ ls[i] :: ls.drop (i + 2)) ∧ 0 < ls[i + 1].length ∧ layL (ls.take i) (sortE (ls[i] ++ ls[i + 1])) ++ ls.drop (i + 2) = T := by
  rcases h with ⟨hf, _⟩ | ⟨pre, x, y, suf, rfl, hl, hf, hy, hT⟩
  · have := List.pairwise_iff_getElem.1 hf.fall i (i + 1) (by omega) hi (by omega)
    omega
  · have h1 := List.pairwise_append.1 hf.fall
    have h2 := List.pairwise_cons.1 h1.2.1
    have e : i = pre.length := by
      by_cases c1 : i < pre.length
      · by_cases c2 : i + 1 < pre.length
        · rw [List.getElem_append_left c1, List.getElem_append_left c2] at he
          have := List.pairwise_iff_getElem.1 h1.1 i (i + 1) c1 c2 (by omega)
          omega
        · have c3 : i + 1 = pre.length := by omega
          have h3 : (pre ++ x :: y :: suf)[i + 1] = x := by
            rw [List.getElem_append_right (by omega)]
            simp [c3]
          rw [List.getElem_append_left c1, h3] at he
          have := h1.2.2 _ (List.getElem_mem c1) x (by simp)
          omega
      · by_cases c2 : pre.length < i
        · obtain ⟨t, rfl⟩ : ∃ t, i = pre.length + 1 + t := ⟨i - pre.length - 1, by omega⟩
          have hlen : t + 1 < (y :: suf).length := by simp at hi ⊢; omega
          have a1 : (pre ++ x :: y :: suf)[pre.length + 1 + t] = (y :: suf)[t] := by
            rw [List.getElem_append_right (by omega)]
            simp [show pre.length + 1 + t - pre.length = t + 1 by omega]
          have a2 : (pre ++ x :: y :: suf)[pre.length + 1 + t + 1] = (y :: suf)[t + 1] := by
            rw [List.getElem_append_right (by omega)]
            simp [show pre.length + 1 + t + 1 - pre.length = t + 1 + 1 by omega]
          rw [a1, a2] at he
          have pw : (y :: suf).Pairwise (fun a b => lv b < lv a) := List.pairwise_cons.2 ⟨fun b hb => by rw [← hl]; exact h2.1 b hb, h2.2⟩
          have := List.pairwise_iff_getElem.1 pw t (t + 1) (by omega) hlen (by omega)
          omega
        · omega
    subst e
    have g1 : (pre ++ x :: y :: suf)[pre.length]'(by simp) = x := by rw [List.getElem_append_right (Nat.le_refl _)]; simp
    have g2 : (pre ++ x :: y :: suf)[pre.length + 1] = y := by rw [List.getElem_append_right (by omega)]; simp
    have g3 : (pre ++ x :: y :: suf).drop (pre.length + 2) = suf := by rw [List.drop_append]; simp [show pre.length + 2 - pre.length = 2 by omega]
    have g4 : (pre ++ x :: y :: suf).take pre.length = pre := List.take_left' rfl
    rw [g1, g2, g3, g4]
    exact ⟨hf, hy, hT⟩
/-- append of entries. -/
theorem IsL.reads {w : World} {a : Option Addr} {cap n : Nat} {d : List Ent} (h : IsL w a cap d) (hn : d.length = n) : Reads w a n (flat d) := by
  refine ⟨by rw [flat_len, hn], flat_one _, ?_⟩
  · intro j u hj
    have hl : j < (flat d).length := (List.getElem?_eq_some_iff.1 hj).1
    rw [flat_len] at hl
    obtain ⟨x, hx⟩ : ∃ x, d[j / 2]? = some x := ⟨_, List.getElem?_eq_getElem (by omega)⟩
    obtain ⟨b, off, e, _, h1, h2⟩ := h.elem _ x hx
    obtain ⟨g1, g2⟩ := flat_at d _ x hx
    refine ⟨⟨b, off, none⟩, e, ?_⟩
    rw [Addr.add_lit]
    by_cases c : j = j / 2 * 2
    · rw [← c] at g1 h1; rw [h1, ← g1, hj]
    · have c' : j / 2 * 2 + 1 = j := by omega
      rw [c'] at g2
      rw [show off + j = off + j / 2 * 2 + 1 by omega, h2, ← g2, hj]
/-- append of entries onto a new row. -/
theorem pushE0 {V : World} {g n cap : Nat} {a : Option Addr} {d : List Ent} (hr : Reads V a n (flat d)) (hN : n ≤ 100000) :
    ∃ r t V', (Builtin.append_ #[29, 29] 29 #[.slice (some ⟨g, 0, none⟩) 0 0, .slice a n cap]).run Try.prog V = .ok (.slice r n t) V' ∧ OwnZ 28 V' V.heap.size (.slice r n t) n (flat d) ∧ Below V.heap.size V V' := by
  obtain ⟨t2, _⟩ := twoE
  obtain ⟨r, t, w', k1, k2, k3, _⟩ := app0 t2 V V.heap.size g n cap a (flat d) hr hN (Nat.le_refl _) 29
  exact ⟨r, t, w', k1, k2, k3⟩
theorem isL_own {w : World} {base n t : Nat} {r : Option Addr} {d : List Ent} (h : OwnZ 28 w base (.slice r n t) n (flat d)) (hn : d.length = n) : IsL w r t d := by
  rcases h with h | ⟨rfl, h2, g, h3⟩
  · subst hn
    exact OwnE.is h
  · obtain rfl : d = [] := List.length_eq_zero_iff.1 hn
    injection h3 with e1 e2 e3
    subst e1 e3
    exact ⟨by simp, by unfold maxLen; omega, fun i x h => by simp at h⟩
theorem pushE {V : World} {b0 m n cap t0 : Nat} {r0 a : Option Addr} {d c : List Ent} (o : OwnZ 28 V b0 (.slice r0 m t0) m (flat d)) (hd : d.length = m) (hc : c.length = n) (hr : Reads V a n (flat c)) (hN : m + n ≤ 100000) (hb : b0 ≤ V.heap.size) :
    ∃ r t V', (Builtin.append_ #[29, 29] 29 #[.slice r0 m t0, .slice a n cap]).run Try.prog V = .ok (.slice r (m + n) t) V' ∧ IsL V' r t (d ++ c) ∧ Below b0 V V' ∧ Kept (fun X => X = 28) V V' := by
  obtain ⟨t2, hbb⟩ := twoE
  obtain ⟨r, t, w', k1, k2, k3, k4, k5, k6⟩ := appZ t2 hbb V b0 m n cap _ (flat d) a (flat c) o hr hN hb 29
  rw [← flat_append] at k2
  exact ⟨r, t, w', k1, isL_own k2 (by rw [List.length_append, hd, hc]), k3, k4⟩
theorem refOfO {w : World} {a : Option Addr} {p n m : Nat} {c d : List Ent} (h : IsL w a p c) (hl : c.length = n) (hn : n ≤ 10000) (hs : sortE c = d) (hm : lv d = m) : Calls Try.prog 34 #[.slice a n p] w fun r w' => ∃ pa pc, r = .returned (.agg #[.int .i64 m, .slice pa n pc]) ∧ OwnE w' w.heap.size (.slice pa n pc) d ∧ Below w.heap.size w w' := by
  have := refOf_any a p c w h (by omega)
  rw [hl] at this
  refine this.mono fun r w' h => ?_
  rw [hs] at h
  obtain ⟨pa, pc, k1, k2, k3⟩ := h
  have el : d.length = n := by rw [← hs, sortE_len, hl]
  have em : lvl d.length = m := hm
  rw [em] at k1
  rw [el] at k1 k2
  exact ⟨pa, pc, k1, k2, k3⟩
theorem box2_row {w : World} {S : Nat} {x y : Value} {T : TypeId} (h : w.heap[S]? = some (.cells #[x, y] T (0, 0))) : Box2 S x y w := ⟨lt_of_block h, box0 h, box1 h, by simp [World.frozen?, h], by simp [World.frozen?, h]⟩
theorem row_alloc {w : World} {S : Nat} (hS : w.heap.size = S) (cs : Array Value) (T : TypeId) : (w.alloc (.cells cs T)).heap[S]? = some (.cells cs T (0, 0)) := by rw [← hS]; exact heap_alloc_new w _
theorem two_sum {ls : List (List Ent)} {i : Nat} (hi : i + 1 < ls.length) : (ls[i]'(by omega)).length + ls[i + 1].length + ((ls.take i).flatten.length + (ls.drop (i + 2)).flatten.length) = ls.flatten.length := by
  have h := congrArg (fun l => List.length (List.flatten l)) (List.take_append_drop i ls)
  rw [List.drop_eq_getElem_cons (by omega), List.drop_eq_getElem_cons hi] at h
  rw [show i + 1 + 1 = i + 2 by omega] at h
  simp only [List.flatten_append, List.length_append, List.flatten_cons] at h
  omega
/-- A new row of some of the blocks, and the store of it. -/
theorem rcut_chain {wl V : World} {base b0 B n cap i j N t1 : Nat} {a r1 p1 : Option Addr} {bs : List Bk} (hV : Below wl.heap.size wl V) (hb0 : wl.heap.size ≤ b0) (hb1 : b0 ≤ V.heap.size) (hcell : wl.heap[B]? = some (.cells #[.slice a n cap] 44 (0, 0))) (hB : base ≤ B) (hbl : base ≤ wl.heap.size) (rb : RefB wl base a bs) (hn : bs.length = n) (hc : n ≤ cap)
    (o : OwnZ 53 V b0 (.slice r1 i t1) i (flatB (bs.take i))) (hi : i ≤ j) (hj : j ≤ n) (hN : n ≤ 10000) (hp1 : (if cap = j then a else a.map (·.add (j * 2))) = p1) (he : i + (n - j) = N) :
    ∃ r3 t3 w3, (Builtin.append_ #[42, 42] 42 #[.slice r1 i t1, .slice p1 (n - j) (cap - j)]).run Try.prog V = .ok (.slice r3 N t3) w3 ∧ Below wl.heap.size wl w3 ∧
      w3.heap[B]? = some (.cells #[.slice a n cap] 44 (0, 0)) ∧ RTurned wl base B (bs.map Bk.d |>.take i |>.append ((bs.map Bk.d).drop j)) (w3.setCell ⟨B, 0, none⟩ (.slice r3 N t3)) := by
  have rd : Reads V p1 (n - j) (flatB (bs.drop j)) := by
    rw [← hp1]
    exact ((rb.drop j (cap := cap) (by omega)).reads (by rw [List.length_drop, hn])).below hV
  obtain ⟨r3, t3, w3, g1, g2, g3, g4, g5, g6⟩ := pushB (cap := cap - j) o rd (by omega) hb1
  rw [he] at g1 g2 g5
  have b3 : Below wl.heap.size wl w3 := hV.trans (g3.mono hb0)
  have el : (bs.take i ++ bs.drop j).length = N := by simp; omega
  have rf : RefB w3 base r3 (bs.take i ++ bs.drop j) := by
    refine RefB.of_own (n := N) (t := t3) ?_ el ?_
    · rcases g2 with g2 | g2
      · left
        obtain ⟨x1, x2⟩ := g2
        refine ⟨x1, ?_⟩
        rcases x2 with x2 | ⟨y1, y2, y3, y4, y5, y6⟩
        · exact .inl x2
        · exact .inr ⟨y1, y2, y3, y4, Nat.le_trans (Nat.le_trans hbl hb0) y5, y6⟩
      · exact .inr g2
    · intro b hb
      simp only [List.mem_append] at hb
      rcases hb with hb | hb
      · exact (rb.own b (List.mem_of_mem_take hb)).below b3
      · exact (rb.own b (List.mem_of_mem_drop hb)).below b3
  obtain ⟨c3, tt⟩ := rset hcell hB b3 rf el g5 g6
  refine ⟨r3, t3, w3, g1, b3, c3, ?_⟩
  rw [List.map_append, List.map_take, List.map_drop] at tt
  exact tt
/-- One block more at the end of a new row, and the store of it. -/
theorem radd_chain {wl V : World} {base b0 B n cap K m q t1 G : Nat} {a r1 p : Option Addr} {bs : List Bk} {d : List Ent} (hV : Below wl.heap.size wl V) (hb0 : wl.heap.size ≤ b0) (hb1 : b0 ≤ V.heap.size) (hcell : wl.heap[B]? = some (.cells #[.slice a n cap] 44 (0, 0))) (hB : base ≤ B) (hbl : base ≤ wl.heap.size) (rb : RefB wl base a bs) (hn : bs.length = n)
    (od : OwnE V base (.slice p K q) d) (hK : d.length = K) (hm : lv d = m) (o : OwnZ 53 V b0 (.slice r1 n t1) n (flatB bs)) (hG : V.heap[G]? = some (.cells #[.int .i64 m, .slice p K q] 53 (0, 0))) (hN : n ≤ 10000) :
    ∃ r2 t2 w2, (Builtin.append_ #[42, 42] 42 #[.slice r1 n t1, .slice (some ⟨G, 0, none⟩) 1 1]).run Try.prog V = .ok (.slice r2 (n + 1) t2) w2 ∧ Below wl.heap.size wl w2 ∧
      w2.heap[B]? = some (.cells #[.slice a n cap] 44 (0, 0)) ∧ RTurned wl base B (bs.map Bk.d ++ [d]) (w2.setCell ⟨B, 0, none⟩ (.slice r2 (n + 1) t2)) := by
  obtain ⟨r2, t2, w2, h1, h2, h3, h4, h5, h6⟩ := pushB (cap := 1) o (reads_one hG hm hK) (by omega) hb1
  have b2 : Below wl.heap.size wl w2 := hV.trans (h3.mono hb0)
  have el : (bs ++ [(⟨d, p, q⟩ : Bk)]).length = n + 1 := by simp; omega
  have rf : RefB w2 base r2 (bs ++ [(⟨d, p, q⟩ : Bk)]) := by
    refine RefB.of_own (n := n + 1) (t := t2) ?_ el ?_
    · rcases h2 with h2 | ⟨h2, _⟩
      · left
        obtain ⟨x1, x2⟩ := h2
        refine ⟨x1, ?_⟩
        rcases x2 with x2 | ⟨y1, y2, y3, y4, y5, y6⟩
        · exact .inl x2
        · exact .inr ⟨y1, y2, y3, y4, Nat.le_trans (Nat.le_trans hbl hb0) y5, y6⟩
      · omega
    · intro b hb
      simp only [List.mem_append, List.mem_singleton] at hb
      rcases hb with hb | rfl
      · exact (rb.own b hb).below b2
      · subst hK
        exact h4.own (by decide) od
  obtain ⟨c3, tt⟩ := rset hcell hB b2 rf el h5 h6
  rw [List.map_append] at tt
  exact ⟨r2, t2, w2, h1, b2, c3, tt⟩
end Go.Proofs.Ytchephglapnloaa
