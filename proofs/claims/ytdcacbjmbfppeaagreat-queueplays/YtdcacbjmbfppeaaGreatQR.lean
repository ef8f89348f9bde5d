/- The document's own queue (vergerref10) in the heap. -/
import Derived.Test.YtdcacbjmbfppeaaGreatQX
import Derived.Test.YtdcacbjmbfppeaaGreatQO
import Derived.Test.YtdcacbjmbfppeaaGreatQA
namespace Go.Proofs.YtdcacbjmbfppeaaGreat
open Go.RowKit Go.Lib Go.Sort
set_option linter.unusedVariables false

/-- One slot of the document's: whether it has one, and which. -/
abbrev RS := Bool × Ent
def rsL (x : RS) : List Ent := if x.1 then [x.2] else []
/-- Slots, lists and the shared list; where they lie. -/
structure RQ (w : World) (base B SR LR T K : Nat) (g : Nat → RS) (ow : Nat → List Ent) (sh : List Ent) : Prop where
  head : ∃ a cap, w.heap[B]? = some (.cells #[.int .i64 K, .slice (some ⟨SR, 0, none⟩) T T, .slice (some ⟨LR, 0, none⟩) T T, .slice a sh.length cap] 66 (0, 0)) ∧ OwnE w base (.slice a sh.length cap) sh
  slot : ∃ cs, w.heap[SR]? = some (.cells cs 69 (0, 0)) ∧ cs.size = T * 4 ∧ ∀ i, i < T → cs[i * 4]? = some (.bool (g i).1) ∧ cs[i * 4 + 1]? = some (.int .u64 (g i).2.1) ∧ cs[i * 4 + 2]? = some (.int .i64 (g i).2.2) ∧ cs[i * 4 + 3]? = some (.int .u64 0)
  loc : ∃ cs, w.heap[LR]? = some (.cells cs 45 (0, 0)) ∧ cs.size = T ∧ ∀ i, i < T → ∃ a cap, cs[i]? = some (.slice a (ow i).length cap) ∧ OwnE w base (.slice a (ow i).length cap) (ow i)
  low : base ≤ B ∧ base ≤ SR ∧ base ≤ LR
section
variable {w w' : World} {base B SR LR T K : Nat} {g : Nat → RS} {ow : Nat → List Ent} {sh : List Ent}
theorem RQ.keep (h : RQ w base B SR LR T K g ow sh) (k : ∀ {x : Nat} {cs : Array Value} {U : TypeId}, (U = 66 ∨ U = 69 ∨ U = 45) → w.heap[x]? = some (.cells cs U (0, 0)) → w'.heap[x]? = some (.cells cs U (0, 0))) (o : ∀ {v : Value} {d : List Ent}, OwnE w base v d → OwnE w' base v d) : RQ w' base B SR LR T K g ow sh := by
  obtain ⟨a, cap, h1, h2⟩ := h.head
  obtain ⟨cs, s1, s2, s3⟩ := h.slot
  obtain ⟨ds, l1, l2, l3⟩ := h.loc
  refine ⟨⟨a, cap, k (.inl rfl) h1, o h2⟩, ⟨cs, k (.inr (.inl rfl)) s1, s2, s3⟩, ⟨ds, k (.inr (.inr rfl)) l1, l2, fun i hi => ?_⟩, h.low⟩
  obtain ⟨b, c, e1, e2⟩ := l3 i hi
  exact ⟨b, c, e1, o e2⟩
theorem RQ.below (h : RQ w base B SR LR T K g ow sh) (hw : Below w.heap.size w w') : RQ w' base B SR LR T K g ow sh :=
  h.keep (fun _ hx => (hw.block _ (lt_of_block hx)).trans hx) (fun o => o.below hw)
theorem RQ.went {b : Nat} (h : RQ w base B SR LR T K g ow sh) (hw : Went b w w') : RQ w' base B SR LR T K g ow sh :=
  h.keep (fun hU hx => hw.block hx (by rcases hU with rfl | rfl | rfl <;> (unfold MQ; decide))) (fun o => hw.own mq_ent o)
theorem RQ.cells (h : RQ w base B SR LR T K g ow sh) : ∃ a cap, w.cell? ⟨B, 0, none⟩ = some (.int .i64 K) ∧ w.cell? ⟨B, 1, none⟩ = some (.slice (some ⟨SR, 0, none⟩) T T) ∧ w.cell? ⟨B, 2, none⟩ = some (.slice (some ⟨LR, 0, none⟩) T T) ∧ w.cell? ⟨B, 3, none⟩ = some (.slice a sh.length cap) ∧ IsL w a cap sh := by
  obtain ⟨a, cap, h1, h2⟩ := h.head
  refine ⟨a, cap, ?_, ?_, ?_, ?_, h2.is⟩ <;> (rw [cell_of_row _ _ _ _ _ _ h1]; rfl)
theorem RQ.at (h : RQ w base B SR LR T K g ow sh) {i : Nat} (hi : i < T) : w.cell? ⟨SR, i * 4, none⟩ = some (.bool (g i).1) ∧ w.cell? ⟨SR, i * 4 + 1, none⟩ = some (.int .u64 (g i).2.1) ∧ w.cell? ⟨SR, i * 4 + 2, none⟩ = some (.int .i64 (g i).2.2) ∧ w.cell? ⟨SR, i * 4 + 3, none⟩ = some (.int .u64 0) := by
  obtain ⟨cs, s1, s2, s3⟩ := h.slot
  obtain ⟨e1, e2, e3, e4⟩ := s3 i hi
  refine ⟨?_, ?_, ?_, ?_⟩ <;> (rw [cell_of_row _ _ _ _ _ _ s1]; assumption)
theorem RQ.own (h : RQ w base B SR LR T K g ow sh) {i : Nat} (hi : i < T) : ∃ a cap, w.cell? ⟨LR, i, none⟩ = some (.slice a (ow i).length cap) ∧ IsL w a cap (ow i) := by
  obtain ⟨ds, l1, l2, l3⟩ := h.loc
  obtain ⟨b, c, e1, e2⟩ := l3 i hi
  exact ⟨b, c, by rw [cell_of_row _ _ _ _ _ _ l1]; exact e1, e2.is⟩
theorem RQ.lt (h : RQ w base B SR LR T K g ow sh) : B < w.heap.size ∧ SR < w.heap.size ∧ LR < w.heap.size := by
  obtain ⟨a, cap, h1, h2⟩ := h.head
  obtain ⟨cs, s1, s2, s3⟩ := h.slot
  obtain ⟨ds, l1, l2, l3⟩ := h.loc
  exact ⟨lt_of_block h1, lt_of_block s1, lt_of_block l1⟩
/-- The shared list, set anew. -/
theorem RQ.setSh (h : RQ w base B SR LR T K g ow sh) {a : Option Addr} {cap : Nat} {d : List Ent} (o : OwnE w base (.slice a d.length cap) d) : RQ (w.setCell ⟨B, 3, none⟩ (.slice a d.length cap)) base B SR LR T K g ow d := by
  obtain ⟨a0, cap0, h1, h2⟩ := h.head
  obtain ⟨cs, s1, s2, s3⟩ := h.slot
  obtain ⟨ds, l1, l2, l3⟩ := h.loc
  have f := Fr.grown (gr_set w B 3 (.slice a d.length cap))
  have ko : ∀ {v : Value} {d' : List Ent}, OwnE w base v d' → OwnE (w.setCell ⟨B, 3, none⟩ (.slice a d.length cap)) base v d' := fun o => own_fr o f fun x cs' hx _ e => ne_type hx h1 (by decide) e
  refine ⟨⟨a, cap, by simp [World.setCell, Array.getElem?_modify, h1], ko o⟩, ⟨cs, (f.2 _ (lt_of_block s1) (fun e => ne_type s1 h1 (by decide) e)).trans s1, s2, s3⟩, ⟨ds, (f.2 _ (lt_of_block l1) (fun e => ne_type l1 h1 (by decide) e)).trans l1, l2, fun i hi => ?_⟩, h.low⟩
  obtain ⟨b, c, e1, e2⟩ := l3 i hi
  exact ⟨b, c, e1, ko e2⟩
/-- An own list, set anew. -/
theorem RQ.setOwn (h : RQ w base B SR LR T K g ow sh) {t : Nat} (ht : t < T) {a : Option Addr} {cap : Nat} {d : List Ent} (o : OwnE w base (.slice a d.length cap) d) : RQ (w.setCell ⟨LR, t, none⟩ (.slice a d.length cap)) base B SR LR T K g (lset ow t d) sh := by
  obtain ⟨a0, cap0, h1, h2⟩ := h.head
  obtain ⟨cs, s1, s2, s3⟩ := h.slot
  obtain ⟨ds, l1, l2, l3⟩ := h.loc
  have f := Fr.grown (gr_set w LR t (.slice a d.length cap))
  have ko : ∀ {v : Value} {d' : List Ent}, OwnE w base v d' → OwnE (w.setCell ⟨LR, t, none⟩ (.slice a d.length cap)) base v d' := fun o => own_fr o f fun x cs' hx _ e => ne_type hx l1 (by decide) e
  refine ⟨⟨a0, cap0, (f.2 _ (lt_of_block h1) (fun e => ne_type h1 l1 (by decide) e)).trans h1, ko h2⟩, ⟨cs, (f.2 _ (lt_of_block s1) (fun e => ne_type s1 l1 (by decide) e)).trans s1, s2, s3⟩, ⟨ds.setIfInBounds t (.slice a d.length cap), ?_, by simpa using l2, fun i hi => ?_⟩, h.low⟩
  · rw [setCell_eq_setRow w LR t ds _ (0, 0) _ l1]; exact setRow_heap w LR ds _ _ (0, 0) l1
  · by_cases e : i = t
    · subst e
      rw [lset_same]
      exact ⟨a, cap, by rw [Array.getElem?_setIfInBounds, if_pos rfl, if_pos (by omega)], ko o⟩
    · rw [lset_ne _ _ e]
      obtain ⟨b, c, e1, e2⟩ := l3 i hi
      exact ⟨b, c, by rw [Array.getElem?_setIfInBounds, if_neg (fun h => e h.symm)]; exact e1, ko e2⟩
/-- A slot, set anew. -/
theorem RQ.setSlot (h : RQ w base B SR LR T K g ow sh) {t : Nat} (ht : t < T) (f : Bool) (k d : Int) : RQ ((((w.setCell ⟨SR, t * 4, none⟩ (.bool f)).setCell ⟨SR, t * 4 + 1, none⟩ (.int .u64 k)).setCell ⟨SR, t * 4 + 2, none⟩ (.int .i64 d)).setCell ⟨SR, t * 4 + 3, none⟩ (.int .u64 0)) base B SR LR T K (lset g t (f, (k, d))) ow sh := by
  obtain ⟨a0, cap0, h1, h2⟩ := h.head
  obtain ⟨cs, s1, s2, s3⟩ := h.slot
  obtain ⟨ds, l1, l2, l3⟩ := h.loc
  have f1 : Fr (fun x => x = SR) w ((((w.setCell ⟨SR, t * 4, none⟩ (.bool f)).setCell ⟨SR, t * 4 + 1, none⟩ (.int .u64 k)).setCell ⟨SR, t * 4 + 2, none⟩ (.int .i64 d)).setCell ⟨SR, t * 4 + 3, none⟩ (.int .u64 0)) := ⟨by simp [World.setCell], fun x hx hn => by
    have e : ¬ SR = x := fun e => hn e.symm
    simp [World.setCell, Array.getElem?_modify, e]⟩
  have st : ∀ {u : World} {cs : Array Value} (o : Nat) (v : Value), u.heap[SR]? = some (.cells cs 69 (0, 0)) → (u.setCell ⟨SR, o, none⟩ v).heap[SR]? = some (.cells (cs.setIfInBounds o v) 69 (0, 0)) := fun {u cs} o v hb => by
    rw [setCell_eq_setRow u SR o cs _ (0, 0) _ hb]; exact setRow_heap u SR cs _ _ (0, 0) hb
  have b4 := st (t * 4 + 3) (.int .u64 0) (st (t * 4 + 2) (.int .i64 d) (st (t * 4 + 1) (.int .u64 k) (st (t * 4) (.bool f) s1)))
  have ko : ∀ {v : Value} {d' : List Ent}, OwnE w base v d' → OwnE ((((w.setCell ⟨SR, t * 4, none⟩ (.bool f)).setCell ⟨SR, t * 4 + 1, none⟩ (.int .u64 k)).setCell ⟨SR, t * 4 + 2, none⟩ (.int .i64 d)).setCell ⟨SR, t * 4 + 3, none⟩ (.int .u64 0)) base v d' := fun o => own_fr o f1 fun x cs' hx _ e => ne_type hx s1 (by decide) e
  refine ⟨⟨a0, cap0, (f1.2 _ (lt_of_block h1) (fun e => ne_type h1 s1 (by decide) e)).trans h1, ko h2⟩, ⟨_, b4, by simpa using s2, fun i hi => ?_⟩, ⟨ds, (f1.2 _ (lt_of_block l1) (fun e => ne_type l1 s1 (by decide) e)).trans l1, l2, fun i hi => ?_⟩, h.low⟩
  · by_cases e : i = t
    · subst e
      rw [lset_same]
      refine ⟨?_, ?_, ?_, ?_⟩
      · rw [Array.getElem?_setIfInBounds, if_neg (by omega), Array.getElem?_setIfInBounds, if_neg (by omega), Array.getElem?_setIfInBounds, if_neg (by omega), Array.getElem?_setIfInBounds, if_pos rfl, if_pos (by omega)]
      · rw [Array.getElem?_setIfInBounds, if_neg (by omega), Array.getElem?_setIfInBounds, if_neg (by omega), Array.getElem?_setIfInBounds, if_pos rfl, if_pos (by rw [Array.size_setIfInBounds]; omega)]
      · rw [Array.getElem?_setIfInBounds, if_neg (by omega), Array.getElem?_setIfInBounds, if_pos rfl, if_pos (by rw [Array.size_setIfInBounds, Array.size_setIfInBounds]; omega)]
      · rw [Array.getElem?_setIfInBounds, if_pos rfl, if_pos (by rw [Array.size_setIfInBounds, Array.size_setIfInBounds, Array.size_setIfInBounds]; omega)]
    · rw [lset_ne _ _ e]
      obtain ⟨e1, e2, e3, e4⟩ := s3 i hi
      refine ⟨?_, ?_, ?_, ?_⟩ <;> (rw [Array.getElem?_setIfInBounds, if_neg (by omega), Array.getElem?_setIfInBounds, if_neg (by omega), Array.getElem?_setIfInBounds, if_neg (by omega), Array.getElem?_setIfInBounds, if_neg (by omega)]; assumption)
  · obtain ⟨b, c, e1, e2⟩ := l3 i hi
    exact ⟨b, c, e1, ko e2⟩
end
/-- Stores of the document's queue leave the program's. -/
theorem qty_ref : ¬ QTy 66 ∧ ¬ QTy 69 ∧ ¬ QTy 45 := by unfold QTy; decide

theorem there_any (w : World) (base B SR LR T K : Nat) (g : Nat → RS) (ow : Nat → List Ent) (sh : List Ent) (t : Int) (h : RQ w base B SR LR T K g ow sh) (hT : T ≤ 8) :
    Calls Tryz.prog 30 #[ptr B, .int .i64 t] w fun r w' => r = .returned (.bool (decide (0 ≤ t) && decide (t < (T : Int)))) ∧ w' = w := by
  obtain ⟨a, cap, c0, c1, c2, c3, _⟩ := h.cells
  clear c0 c2 c3 h
  by_cases h0 : 0 ≤ t
  · have d0 : decide (0 ≤ t) = true := decide_eq_true h0
    by_cases h1 : t < (T : Int)
    · have d1 : decide (t < (T : Int)) = true := decide_eq_true h1
      go_enter Tryz.func30, Tryz.ntmps30
      go_wp2
      go_ret
      exact ⟨by first | rfl | (rw [d0, d1]; rfl), rfl⟩
    · have d1 : decide (t < (T : Int)) = false := decide_eq_false h1
      go_enter Tryz.func30, Tryz.ntmps30
      go_wp2
      go_ret
      exact ⟨by first | rfl | (rw [d0, d1]; rfl), rfl⟩
  · have d0 : decide (0 ≤ t) = false := decide_eq_false h0
    go_enter Tryz.func30, Tryz.ntmps30
    go_wp2
    go_ret
    exact ⟨by first | rfl | (rw [d0]; rfl), rfl⟩
end Go.Proofs.YtdcacbjmbfppeaaGreat
