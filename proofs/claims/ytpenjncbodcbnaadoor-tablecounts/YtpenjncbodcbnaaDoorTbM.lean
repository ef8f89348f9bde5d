/- A table's memory: tasks as rows of nine cells; a map of counts that is turned at one key. -/
import Derived.Test.YtpenjncbodcbnaaDoorTbL
import Derived.Test.YtpenjncbodcbnaaDoorTbMap
import Derived.WideKeyEntry
namespace Go.Proofs.YtpenjncbodcbnaaDoor
open Go.RowKit Go.Lib Go.WideMaps Go.Maps
set_option linter.unusedVariables false

/-- A task: urgency, due tick, key, what it does (a slice), its job, its state. -/
structure TR where
  prio : Int
  due : Int
  key : Int
  oa : Option Addr
  on : Nat
  oc : Nat
  f : Int
  p : Int
  d : Int
  r : Int
  m : Int
  s : Int
def rT : RowT TR where
  enc := fun x => [.int .i64 x.prio, .int .u64 x.due, .int .u64 x.key, .slice x.oa x.on x.oc, .int .u64 x.f, .int .u64 x.p, .int .u64 x.d, .int .u64 x.r, .int .u64 x.m]
  k := 9
  et := 63
  st := 52
  z := .agg #[.int .i64 0, .int .u64 0, .int .u64 0, .slice none 0 0, .int .u64 0, .int .u64 0, .int .u64 0, .int .u64 0, .int .u64 0]
  nb := 88
  kpos := by decide
  len := fun x => rfl
  one := fun x u hu => by
    simp at hu
    rcases hu with rfl | rfl | rfl | rfl | rfl | rfl | rfl | rfl | rfl <;> rfl
  und := Tryd.underlying52
  info := by
    have h : (Tryd.prog.info? 63).map (fun i => (i.zero, i.size, i.bytes)) = some (some (.agg #[.int .i64 0, .int .u64 0, .int .u64 0, .slice none 0 0, .int .u64 0, .int .u64 0, .int .u64 0, .int .u64 0, .int .u64 0]), 9, 88) := by kernel_rfl
    obtain ⟨i, h1, h2⟩ := Option.map_eq_some_iff.1 h
    simp at h2
    exact ⟨i, h1, h2.1, h2.2.1, h2.2.2⟩
  zs := rfl
  small := by decide

section
variable {α : Type} {R : RowT α} {w w' : World} {a : Option Addr} {cap base : Nat} {d c : List α} {v : Value}
theorem flat_set (d : List α) : ∀ (i : Nat) (x y : α) (j : Nat) (u : Value), d[i]? = some x → R.enc y = (R.enc x).set j u → j < R.k → R.flat (d.set i y) = (R.flat d).set (i * R.k + j) u := by
  induction d with
  | nil => intro i x y j u h; simp at h
  | cons z d ih =>
    intro i x y j u h he hj
    cases i with
    | zero =>
      simp at h; subst h
      rw [List.set_cons_zero, flat_cons, flat_cons, he, Nat.zero_mul, Nat.zero_add, List.set_append_left _ _ (by rw [R.len]; exact hj)]
    | succ i =>
      have := ih i x y j u (by simpa using h) he hj
      rw [List.set_cons_succ, flat_cons, flat_cons, this, List.set_append_right _ _ (by rw [R.len, Nat.succ_mul]; omega), R.len]
      congr 2
      rw [Nat.succ_mul]; omega
theorem OwnG.of_block (h : OwnG R w base v d) (hk : ∀ k, v.ownBlock = some k → w'.heap[k]? = w.heap[k]?) : OwnG R w' base v d := by
  obtain ⟨h1, h2⟩ := h
  refine ⟨h1, ?_⟩
  rcases h2 with h2 | ⟨g, cap, cur, r1, r2, r3, r4⟩
  · exact .inl h2
  · exact .inr ⟨g, cap, cur, r1, r2, (hk g (by rw [r1]; rfl)).trans r3, r4⟩
theorem OwnG.rowLt (h : OwnG R w base v d) {k : Nat} (hk : v.ownBlock = some k) : base ≤ k ∧ k < w.heap.size := World.ownsRow.lt h k hk
theorem OwnG.rowT (h : OwnG R w base v d) {k : Nat} (hk : v.ownBlock = some k) : ∃ cs, w.heap[k]? = some (.cells cs R.et (0, 0)) := by
  obtain ⟨h1, h2⟩ := h
  rcases h2 with ⟨rfl, _⟩ | ⟨g, cap, cur, r1, r2, r3, r4⟩
  · cases hk
  · rw [r1] at hk
    injection hk with hk
    subst hk
    exact ⟨cur, r3⟩
theorem OwnG.addr (h : OwnG R w base v d) (hd : d ≠ []) : ∃ g cap, v = .slice (some ⟨g, 0, none⟩) d.length cap := by
  rcases h.2 with ⟨_, h0⟩ | ⟨g, cap, cur, r1, _⟩
  · exact absurd (List.length_eq_zero_iff.1 h0) hd
  · exact ⟨g, cap, r1⟩
theorem OwnG.frozen {g : Nat} (h : OwnG R w base (.slice (some ⟨g, 0, none⟩) d.length cap) d) (j : Nat) : w.frozen? ⟨g, j, none⟩ = false := World.ownsRow.frozenAt h j
/-- One cell of it. -/
theorem OwnG.cell {g : Nat} (h : OwnG R w base (.slice (some ⟨g, 0, none⟩) d.length cap) d) {i : Nat} {x : α} (hi : d[i]? = some x) {j : Nat} {u : Value} (hu : (R.enc x)[j]? = some u) : w.cell? ⟨g, i * R.k + j, none⟩ = some u := by
  obtain ⟨a', cap', e, hg⟩ := h.isG
  injection e with e1 e2 e3
  subst e1 e3
  obtain ⟨b, off, e, _, hc⟩ := hg.at hi
  cases e
  have := hc j u hu
  rw [Nat.zero_add] at this
  exact this
/-- One cell of it written. -/
theorem OwnG.setAt {g : Nat} (h : OwnG R w base (.slice (some ⟨g, 0, none⟩) d.length cap) d) {i j : Nat} {x y : α} {u : Value} (hi : d[i]? = some x) (he : R.enc y = (R.enc x).set j u) (hj : j < R.k) :
    OwnG R (w.setCell ⟨g, i * R.k + j, none⟩ u) base (.slice (some ⟨g, 0, none⟩) (d.set i y).length cap) (d.set i y) := by
  have := (World.ownsRow.stored h (i * R.k + j) u).1
  unfold OwnG
  rw [List.length_set, flat_set d i x y j u hi he hj]
  exact this
/-- One more at the end; which block it lies in. -/
theorem OwnG.push2 (o : OwnG R w base v d) (x : α) (hd : d.length < 1000000) (hb : base ≤ w.heap.size) (ty : TypeId) :
    ∃ v' w', (Builtin.append_ #[R.st, R.st] ty #[v, .slice (some ⟨w.heap.size, 0, none⟩) 1 1]).run Tryd.prog (w.alloc (.cells (R.enc x).toArray R.et)) = .ok v' w' ∧ OwnG R w' base v' (d ++ [x]) ∧ Fr (fun k => v.ownBlock = some k) w w' ∧ ∀ k, v'.ownBlock = some k → v.ownBlock = some k ∨ w.heap.size ≤ k := by
  obtain ⟨i, hi, hz, hs, hby⟩ := R.info
  have b1 := bel1 w (.cells (R.enc x).toArray R.et)
  have o1 := o.below b1
  have sz : (d.length + 1) * R.nb ≤ 1000000 * 1000 := Nat.mul_le_mul (by omega) R.small
  obtain ⟨v', w', h1, h2, h3, h4, h5⟩ := run_append_own_at (P := Tryd.prog) (w.alloc (.cells (R.enc x).toArray R.et)) base R.st ty R.et i _ R.k R.nb R.und hi hz hs hby R.zs R.kpos v d.length (R.flat d) o1 ⟨w.heap.size, 0, none⟩ 1 1 (R.enc x) (by rw [R.len, Nat.one_mul])
    (fun j u hu => by
      rw [Addr.add_lit, Nat.zero_add, cell_fresh, List.getElem?_toArray, hu]) (R.one x) (by unfold maxLen; omega) (by omega) (by have := b1.size; omega)
  refine ⟨v', w', h1, ?_, ?_, fun k hk => ?_⟩
  · unfold OwnG
    rw [List.length_append, List.length_singleton, flat_append, show R.flat [x] = R.enc x by simp [RowT.flat]]
    exact h2
  · exact (Fr.below (X := fun k => v.ownBlock = some k) b1).trans (Fr.of_grown h3) (fun j hj => .inl hj)
  · rcases h5 with h5 | h5
    · exact .inl (by rw [← h5]; exact hk)
    · rw [h5] at hk
      injection hk with hk
      have := b1.size
      exact .inr (by omega)
end

/-- An entry that is asked for and then written: what lies between. -/
theorem entry_is {P : Program} {w : World} {t k e : TypeId} {R : Value → Option (DataW Value × List MemPlace)} {b : Nat} {es : Array MapEntry} {clock : Nat} (K : Keyed P k) (ht : P.underlying t = some (.map k e)) {z : Value} (hz : ∀ u : World, (zeroValue e).run P u = .ok z u) (hb : w.heap[b]? = some (.map es clock)) (F : WideElems.Fit P k R es clock)
    {key : Value} {kl : Lit} (hkey : keyOf P k key = some kl) : ∃ (v0 : Value) (st : Nat) (w1 : World), (Instr.mapEntry t (.map (some b)) key).run P w = .ok (.tuple #[v0, goInt st]) w1 ∧ (Instr.mapUpdate t (.map (some b)) key v0).run P w = .ok () w1 ∧ (Instr.lookup t (.map (some b)) key false).run P w = .ok v0 w := by
  rcases K.find w hkey es.toList F.keys with ⟨h1, h2⟩ | ⟨j, e0, h1, h2, h3⟩
  · refine ⟨z, clock, ChangeMaps.setBlock w b (.map (es.push ⟨key, z, clock⟩) (clock + 1)), ?_, ?_, ?_⟩
    · simp [Instr.mapEntry, run_underlying ht, MapKept.run_getObj_map hb, K.check w false hkey, h1, hz, MapKept.run_setObj_map _ hb, Result.andThen, ChangeMaps.setBlock]
    · simp [Instr.mapUpdate, run_underlying ht, MapKept.run_getObj_map hb, K.check w false hkey, h1, MapKept.run_setObj_map _ hb, Result.andThen, ChangeMaps.setBlock]
    · simp [Instr.lookup, run_underlying ht, MapKept.run_getObj_map hb, K.check w _ hkey, h1, hz, Result.andThen]
  · have hj : es[j]? = some e0 := by simpa using h2
    have hs1 : es.modify j (fun e => { e with key := key }) = es := by
      apply Array.ext'
      rw [Array.toList_modify, ChangeMaps.modify_eq_set _ _ _ _ h2]
      have : ({ e0 with key := key } : MapEntry) = e0 := by rw [← h3]
      rw [this]
      exact WideElems.set_self _ _ _ h2
    have hs2 : es.modify j (fun e' => { e' with key := key, val := e0.val }) = es := by
      apply Array.ext'
      rw [Array.toList_modify, ChangeMaps.modify_eq_set _ _ _ _ h2]
      have : ({ e0 with key := key, val := e0.val } : MapEntry) = e0 := by rw [← h3]
      rw [this]
      exact WideElems.set_self _ _ _ h2
    refine ⟨e0.val, e0.born, ChangeMaps.setBlock w b (.map es clock), ?_, ?_, ?_⟩
    · simp [Instr.mapEntry, run_underlying ht, MapKept.run_getObj_map hb, K.check w false hkey, h1, hj, h3, K.stays w hkey, hs1, MapKept.run_setObj_map _ hb, Result.andThen, ChangeMaps.setBlock]
    · simp [Instr.mapUpdate, run_underlying ht, MapKept.run_getObj_map hb, K.check w false hkey, h1, hj, h3, K.stays w hkey, hs2, MapKept.run_setObj_map _ hb, Result.andThen, ChangeMaps.setBlock]
    · simp [Instr.lookup, run_underlying ht, MapKept.run_getObj_map hb, K.check w _ hkey, h1, Result.andThen]
theorem lawP : KeyLaw Tryd.prog 64 := deep_law_laid laidOut (m := 2) (by omega) (of_decide_eq_true (by kernel_rfl)) (by kernel_rfl) (by kernel_rfl)
theorem zeroInt (u : World) : (zeroValue 3).run Tryd.prog u = .ok (.int .i64 0) u := by kernel_rfl
theorem st_eq {a b : Value} {i j : Nat} (h : Value.tuple #[a, goInt i] = Value.tuple #[b, goInt j]) : i = j := by
  injection h with h
  simp [goInt] at h
  omega
/-- A count is asked for and written again. -/
theorem MapG.bump {w : World} {M n : Nat} {f : Int × Int → Option Value} {x : Int × Int} (h : MapG keyP w M f n) (hn : n ≤ 1000000) (hx : keyP.ok x) (c : Int) (hc : (f x).getD (.int .i64 0) = .int .i64 c) (val : Value) :
    ∃ (st : Nat) (w1 w2 : World) (m : Nat), (Instr.lookup 51 (.map (some M)) (prV x) false).run Tryd.prog w = .ok (.int .i64 c) w ∧
      (Instr.mapEntry 51 (.map (some M)) (prV x)).run Tryd.prog w = .ok (.tuple #[.int .i64 c, .int .i64 st]) w1 ∧
      (Instr.lookup 51 (.map (some M)) (prV x) false).run Tryd.prog w1 = .ok (.int .i64 c) w1 ∧
      (Instr.entryStore 51 (.map (some M)) (.int .i64 st) val).run Tryd.prog w1 = .ok () w2 ∧ MapG keyP w2 M (fput f x val) m ∧ w.grownBy w2 (some M) ∧ w.grownBy w1 (some M) := by
  have ht : Tryd.prog.underlying 51 = some (.map 64 3) := Tryd.underlying51
  have hk : keyOf Tryd.prog 64 (prV x) = some (keyP.lk x) := keyP.lk_is hx
  have l0 := h.look ht (zeroInt w) hx
  rw [hc] at l0
  have h' := h
  obtain ⟨D, ⟨es, cl, hb, F, hs, hD⟩, h2⟩ := h
  obtain ⟨v0, st, w1, e1, u1, l2⟩ := entry_is keyedP ht zeroInt hb F hk
  have l0' : (Instr.lookup 51 (.map (some M)) (prV x) false).run Tryd.prog w = .ok (.int .i64 c) w := l0
  rw [l2] at l0'
  injection l0' with l0' _
  subst l0'
  obtain ⟨v0', st', es1, cl1, e2, hv, S⟩ := WideElems.entry_then_store lawP ht zeroInt hb F hk
  rw [e1] at e2
  injection e2 with q1 q2
  obtain rfl : st = st' := st_eq q1
  subst q2
  have hw : (ChangeMaps.setBlock w M (.map es1 cl1)).heap[M]? = some (.map es1 cl1) := ChangeMaps.heap_setBlock_same hb _
  obtain ⟨es2, cl2, s1, s2⟩ := S _ val hw
  obtain ⟨w', m, r1, r2, r3, r4⟩ := h'.store ht hn hx val
  have s2' : (Instr.mapUpdate 51 (.map (some M)) (keyP.ek x) val).run Tryd.prog w = .ok () (ChangeMaps.setBlock w M (.map es2 cl2)) := s2
  rw [s2'] at r1
  injection r1 with _ r1
  subst r1
  obtain ⟨w'', m', p1, p2, p3, p4⟩ := h'.store ht hn hx (.int .i64 c)
  have u1' : (Instr.mapUpdate 51 (.map (some M)) (keyP.ek x) (.int .i64 c)).run Tryd.prog w = .ok () (ChangeMaps.setBlock w M (.map es1 cl1)) := u1
  rw [u1'] at p1
  injection p1 with _ p1
  subst p1
  have l1 := p2.look ht (zeroInt _) hx
  have : (fput f x (.int .i64 c) x).getD (.int .i64 0) = .int .i64 c := by simp [fput]
  rw [this] at l1
  refine ⟨st, _, _, m, l2, e1, l1, s1, ?_, ?_, p4⟩
  · exact r2.of_block (by rw [ChangeMaps.heap_setBlock_same hw, ChangeMaps.heap_setBlock_same hb])
  · exact ⟨rfl, rfl, rfl, by simp [ChangeMaps.setBlock], fun i _ hi => (ChangeMaps.heap_setBlock_other hw _ (fun e => hi (by rw [e]))).trans (ChangeMaps.heap_setBlock_other hb _ (fun e => hi (by rw [e])))⟩
end Go.Proofs.YtpenjncbodcbnaaDoor
