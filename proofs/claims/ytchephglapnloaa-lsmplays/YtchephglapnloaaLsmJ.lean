/- The document's lay. -/
import Derived.Deep.QuietTactic
import Derived.BigQuiet
import Derived.Test.YtchephglapnloaaLsmH
namespace Go.Proofs.Ytchephglapnloaa
open Go.RowKit Go.Lib Go.Sort
set_option linter.unusedVariables false

theorem Reads.below {w w' : World} {a : Option Addr} {n : Nat} {news : List Value} (h : Reads w a n news) (hw : Below w.heap.size w w') : Reads w' a n news :=
  ⟨h.1, h.2.1, fun j u hj => by
    obtain ⟨ad, e, hc⟩ := h.2.2 j u hj
    have hl := World.block_lt_of_cell? w _ hc
    exact ⟨ad, e, (hw.cell (p := ad.add j) hl).trans hc⟩⟩
/-- append of blocks onto a new row. -/
theorem pushB {V : World} {b0 m n cap : Nat} {v : Value} {a : Option Addr} {b1 cs : List Bk} (o : OwnZ 53 V b0 v m (flatB b1)) (hr : Reads V a n (flatB cs)) (hN : m + n ≤ 100000) (hb : b0 ≤ V.heap.size) :
    ∃ r t V', (Builtin.append_ #[42, 42] 42 #[v, .slice a n cap]).run Try.prog V = .ok (.slice r (m + n) t) V' ∧ OwnZ 53 V' b0 (.slice r (m + n) t) (m + n) (flatB (b1 ++ cs)) ∧ Below b0 V V' ∧ Kept (fun X => X = 53) V V' ∧ m + n ≤ t ∧ t ≤ maxLen := by
  obtain ⟨t2, hbb⟩ := twoB
  obtain ⟨r, t, w', k1, k2, k3, k4, k5, k6⟩ := appZ t2 hbb V b0 m n cap v (flatB b1) a (flatB cs) o hr hN hb 42
  exact ⟨r, t, w', k1, by rw [flatB_append]; exact k2, k3, k4, k5, k6⟩
theorem push0 {V : World} {g n cap : Nat} {a : Option Addr} {cs : List Bk} (hr : Reads V a n (flatB cs)) (hN : n ≤ 100000) :
    ∃ r t V', (Builtin.append_ #[42, 42] 42 #[.slice (some ⟨g, 0, none⟩) 0 0, .slice a n cap]).run Try.prog V = .ok (.slice r n t) V' ∧ OwnZ 53 V' V.heap.size (.slice r n t) n (flatB cs) ∧ Below V.heap.size V V' ∧ n ≤ t ∧ t ≤ maxLen := by
  obtain ⟨t2, _⟩ := twoB
  exact app0 t2 V V.heap.size g n cap a (flatB cs) hr hN (Nat.le_refl _) 42
theorem reads_one {V : World} {G m K q : Nat} {p : Option Addr} {d : List Ent} (hG : V.heap[G]? = some (.cells #[.int .i64 m, .slice p K q] 53 (0, 0))) (hm : lv d = m) (hK : d.length = K) : Reads V (some ⟨G, 0, none⟩) 1 (flatB [⟨d, p, q⟩]) := by
  refine ⟨rfl, flatB_one _, fun j u hj => ?_⟩
  refine ⟨⟨G, 0, none⟩, rfl, ?_⟩
  rw [Addr.add_lit, Nat.zero_add, cell_of_row _ _ _ _ _ _ hG, ← hj, ← hm, ← hK]
  have : j = 0 ∨ j = 1 := by have := (List.getElem?_eq_some_iff.1 hj).1; simp [flatB, encB] at this; omega
  rcases this with rfl | rfl <;> rfl
/-- The last store of a call that has made a new row. -/
theorem rset {wl w3 : World} {base B n t : Nat} {v : Value} {r : Option Addr} {bs : List Bk} (hcell : wl.heap[B]? = some (.cells #[v] 44 (0, 0))) (hB : base ≤ B) (hb : Below wl.heap.size wl w3) (o : RefB w3 base r bs) (hn : bs.length = n) (h1 : n ≤ t) (h2 : t ≤ maxLen) :
    w3.heap[B]? = some (.cells #[v] 44 (0, 0)) ∧ RTurned wl base B (bs.map Bk.d) (w3.setCell ⟨B, 0, none⟩ (.slice r n t)) := by
  have c3 := (hb.block B (lt_of_block hcell)).trans hcell
  subst hn
  refine ⟨c3, ⟨r, t, bs, rfl, hB, by rw [setCell_row c3]; rfl, h1, h2, o.kept (S := fun X => X = 44) (Kept.set (S := fun X => X = 44) c3 rfl _) (by decide) (by decide)⟩, grownBy_set (grownBy_below hb) _⟩

theorem rlay_chain {wl V : World} {base b0 B n cap k K m q t1 G : Nat} {a r1 p p1 : Option Addr} {bs : List Bk} {d : List Ent} (hV : Below wl.heap.size wl V) (hb0 : wl.heap.size ≤ b0) (hb1 : b0 ≤ V.heap.size) (hcell : wl.heap[B]? = some (.cells #[.slice a n cap] 44 (0, 0))) (hB : base ≤ B) (hbl : base ≤ wl.heap.size) (rb : RefB wl base a bs) (hn : bs.length = n) (hc : n ≤ cap)
    (od : OwnE wl base (.slice p K q) d) (hK : d.length = K) (hm : lv d = m) (o : OwnZ 53 V b0 (.slice r1 k t1) k (flatB (bs.take k))) (hk : k ≤ n) (hG : V.heap[G]? = some (.cells #[.int .i64 m, .slice p K q] 53 (0, 0))) (hN : n ≤ 10000) (hp1 : (if cap = k then a else a.map (·.add (k * 2))) = p1) :
    ∃ r2 t2 w2 r3 t3 w3, (Builtin.append_ #[42, 42] 42 #[.slice r1 k t1, .slice (some ⟨G, 0, none⟩) 1 1]).run Try.prog V = .ok (.slice r2 (k + 1) t2) w2 ∧
      (Builtin.append_ #[42, 42] 42 #[.slice r2 (k + 1) t2, .slice p1 (n - k) (cap - k)]).run Try.prog w2 = .ok (.slice r3 (n + 1) t3) w3 ∧ Below wl.heap.size wl w2 ∧ Below wl.heap.size wl w3 ∧
      w3.heap[B]? = some (.cells #[.slice a n cap] 44 (0, 0)) ∧ RTurned wl base B (laid (bs.map Bk.d) d k) (w3.setCell ⟨B, 0, none⟩ (.slice r3 (n + 1) t3)) := by
  obtain ⟨r2, t2, w2, h1, h2, h3, h4, _, _⟩ := pushB (cap := 1) o (reads_one hG hm hK) (by omega) hb1
  have b2 : Below wl.heap.size wl w2 := hV.trans (h3.mono hb0)
  have rd : Reads w2 p1 (n - k) (flatB (bs.drop k)) := by
    rw [← hp1]
    exact ((rb.drop k (cap := cap) (by omega)).reads (by rw [List.length_drop, hn])).below b2
  obtain ⟨r3, t3, w3, g1, g2, g3, g4, g5, g6⟩ := pushB (cap := cap - k) h2 rd (by omega) (Nat.le_trans hb1 h3.size)
  have e : k + 1 + (n - k) = n + 1 := by omega
  rw [e] at g1 g2 g5
  have b3 : Below wl.heap.size wl w3 := b2.trans (g3.mono hb0)
  have el : (bs.take k ++ [(⟨d, p, q⟩ : Bk)] ++ bs.drop k).length = n + 1 := by simp; omega
  have rf : RefB w3 base r3 (bs.take k ++ [(⟨d, p, q⟩ : Bk)] ++ bs.drop k) := by
    refine RefB.of_own (n := n + 1) (t := t3) ?_ el ?_
    · rcases g2 with g2 | ⟨g2, _⟩
      · left
        obtain ⟨x1, x2⟩ := g2
        refine ⟨x1, ?_⟩
        rcases x2 with x2 | ⟨y1, y2, y3, y4, y5, y6⟩
        · exact .inl x2
        · exact .inr ⟨y1, y2, y3, y4, Nat.le_trans (Nat.le_trans hbl hb0) y5, y6⟩
      · omega
    · intro b hb
      simp only [List.mem_append, List.mem_singleton] at hb
      rcases hb with (hb | rfl) | hb
      · exact (rb.own b (List.mem_of_mem_take hb)).below b3
      · have := od.below b3; rw [← hK] at this; exact this
      · exact (rb.own b (List.mem_of_mem_drop hb)).below b3
  obtain ⟨c3, tt⟩ := rset hcell hB b3 rf el g5 g6
  refine ⟨r2, t2, w2, r3, t3, w3, h1, g1, b2, b3, c3, ?_⟩
  have em : (bs.take k ++ [(⟨d, p, q⟩ : Bk)] ++ bs.drop k).map Bk.d = laid (bs.map Bk.d) d k := by
    unfold laid
    rw [List.map_append, List.map_append, List.map_take, List.map_drop, List.append_assoc]
    rfl
  rw [em] at tt
  exact tt
end Go.Proofs.Ytchephglapnloaa
