/- A table in the heap: its head, its arena, its tasks, its counts; what a turn of one of them leaves of the whole. -/
import Derived.Test.YtpenjncbodcbnaaDoorTbM
import Derived.Test.YtpenjncbodcbnaaDoorArenaAwake
namespace Go.Proofs.YtpenjncbodcbnaaDoor
open Go.RowKit Go.Lib Go.WideMaps Go.Maps
set_option linter.unusedVariables false

structure Tab (w : World) (B a b r M n : Nat) (v : Value) (T : List TR) (ws : Nat → Int) (fc : Int × Int → Option Value) : Prop where
  head : w.heap[B]? = some (.cells #[.pointer (some ⟨a, 0, none⟩), v, .map (some M)] 54 (0, 0))
  own : OwnG rT w 0 v T
  arn : AAt w a b r n ws
  map : ∃ N, MapG keyP w M fc N
/-- Its blocks. -/
def tf (B a b r M : Nat) (v : Value) (k : Nat) : Prop := k = B ∨ k = a ∨ k = b ∨ k = r ∨ k = M ∨ v.ownBlock = some k
theorem un_cells {w : World} {i j : Nat} {c c' : Array Value} {t t' : TypeId} {z z' : Nat × Nat} (h : w.heap[i]? = some (.cells c t z)) (h' : w.heap[j]? = some (.cells c' t' z')) (ht : t ≠ t') : i ≠ j := fun e => by
  subst e
  rw [h] at h'
  simp only [Option.some.injEq, Obj.cells.injEq] at h'
  exact ht h'.2.1
theorem un_map {w : World} {i j : Nat} {c : Array Value} {t : TypeId} {z : Nat × Nat} {es : Array MapEntry} {q : Nat} (h : w.heap[i]? = some (.cells c t z)) (h' : w.heap[j]? = some (.map es q)) : i ≠ j := fun e => by
  subst e
  rw [h] at h'
  cases h'
variable {w w' : World} {B a b r M n : Nat} {v v' : Value} {T T' : List TR} {ws ws' : Nat → Int} {fc fc' : Int × Int → Option Value}
theorem Tab.ha (h : Tab w B a b r M n v T ws fc) : ∃ cs, w.heap[a]? = some (.cells cs 77 (0, 0)) := by
  obtain ⟨cs, h1, _⟩ := h.arn.head
  exact ⟨cs, h1⟩
theorem Tab.hb (h : Tab w B a b r M n v T ws fc) : ∃ cs, w.heap[b]? = some (.cells cs 85 (0, 0)) := by
  obtain ⟨_, _, _, _, hh⟩ := h.arn.mem.head
  exact ⟨_, hh⟩
theorem Tab.hr (h : Tab w B a b r M n v T ws fc) : ∃ cs, w.heap[r]? = some (.cells cs 29 (0, 0)) := by
  obtain ⟨cs, hh, _⟩ := h.arn.mem.row
  exact ⟨cs, hh⟩
theorem Tab.hM (h : Tab w B a b r M n v T ws fc) : ∃ es q, w.heap[M]? = some (.map es q) := by
  obtain ⟨N, hN⟩ := h.map
  exact hN.isMap
theorem Tab.hg (h : Tab w B a b r M n v T ws fc) {g : Nat} (hg : v.ownBlock = some g) : ∃ cs, w.heap[g]? = some (.cells cs 63 (0, 0)) := h.own.rowT hg
theorem Tab.tfLt (h : Tab w B a b r M n v T ws fc) {k : Nat} (hk : tf B a b r M v k) : k < w.heap.size := by
  rcases hk with rfl | rfl | rfl | rfl | rfl | hk
  · exact lt_of_block h.head
  · exact h.arn.alt
  · exact h.arn.mem.blt
  · exact h.arn.mem.rlt
  · obtain ⟨N, hN⟩ := h.map; exact hN.lt
  · exact (h.own.rowLt hk).2
/-- What is none of its blocks may turn. -/
theorem Tab.fr (h : Tab w B a b r M n v T ws fc) {X : Nat → Prop} (hf : Fr X w w') (hx : ∀ k, tf B a b r M v k → ¬ X k) : Tab w' B a b r M n v T ws fc := by
  have key : ∀ k, tf B a b r M v k → w'.heap[k]? = w.heap[k]? := fun k hk => hf.block k (h.tfLt hk) (hx k hk)
  refine ⟨(key B (.inl rfl)).trans h.head, h.own.of_block (fun k hk => key k (.inr (.inr (.inr (.inr (.inr hk)))))), h.arn.of_blocks (key a (.inr (.inl rfl))) (key b (.inr (.inr (.inl rfl)))) (key r (.inr (.inr (.inr (.inl rfl))))), ?_⟩
  obtain ⟨N, hN⟩ := h.map
  exact ⟨N, hN.of_block (key M (.inr (.inr (.inr (.inr (.inl rfl))))))⟩
theorem Tab.below (h : Tab w B a b r M n v T ws fc) (hw : Below w.heap.size w w') : Tab w' B a b r M n v T ws fc := h.fr (Fr.below (X := fun _ => False) hw) (fun _ _ => id)
theorem Tab.drew (h : Tab w B a b r M n v T ws fc) : Tab w.drew B a b r M n v T ws fc := h.fr (Fr.refl (fun _ => False) w).drew (fun _ _ => id)
theorem Fr.kept {a b r : Nat} {w w' : World} (h : Kept a b r w w') : Fr (fun k => k = a ∨ k = b ∨ k = r) w w' := ⟨h.os, h.tape, h.output, h.size, fun k hk hx => h.block k hk (fun e => hx (.inl e)) (fun e => hx (.inr (.inl e))) (fun e => hx (.inr (.inr e)))⟩
/-- The arena has turned. -/
theorem Tab.setA (h : Tab w B a b r M n v T ws fc) (hk : Kept a b r w w') (ha : AAt w' a b r n ws') : Tab w' B a b r M n v T ws' fc := by
  obtain ⟨ca, ha'⟩ := h.ha
  obtain ⟨cb, hb'⟩ := h.hb
  obtain ⟨cr, hr'⟩ := h.hr
  obtain ⟨es, q, hM'⟩ := h.hM
  have f := Fr.kept hk
  refine ⟨(f.block B (lt_of_block h.head) ?_).trans h.head, h.own.of_block fun k hk' => f.block k (h.own.rowLt hk').2 ?_, ha, ?_⟩
  · rintro (e | e | e)
    · exact un_cells h.head ha' (by decide) e
    · exact un_cells h.head hb' (by decide) e
    · exact un_cells h.head hr' (by decide) e
  · obtain ⟨cg, hg⟩ := h.hg hk'
    rintro (e | e | e)
    · exact un_cells hg ha' (by decide) e
    · exact un_cells hg hb' (by decide) e
    · exact un_cells hg hr' (by decide) e
  · obtain ⟨N, hN⟩ := h.map
    refine ⟨N, hN.of_block (f.block M hN.lt ?_)⟩
    rintro (e | e | e)
    · exact un_map ha' hM' e.symm
    · exact un_map hb' hM' e.symm
    · exact un_map hr' hM' e.symm
/-- The counts have turned. -/
theorem Tab.setM (h : Tab w B a b r M n v T ws fc) (hg : w.grownBy w' (some M)) {N : Nat} (hm : MapG keyP w' M fc' N) : Tab w' B a b r M n v T ws fc' := by
  obtain ⟨ca, ha'⟩ := h.ha
  obtain ⟨cb, hb'⟩ := h.hb
  obtain ⟨cr, hr'⟩ := h.hr
  obtain ⟨es, q, hM'⟩ := h.hM
  have key : ∀ k, k < w.heap.size → k ≠ M → w'.heap[k]? = w.heap[k]? := fun k hk hn => hg.block k hk (fun e => hn (by injection e))
  refine ⟨(key B (lt_of_block h.head) (un_map h.head hM')).trans h.head, h.own.of_block fun k hk' => key k (h.own.rowLt hk').2 ?_, h.arn.of_blocks (key a h.arn.alt (un_map ha' hM')) (key b h.arn.mem.blt (un_map hb' hM')) (key r h.arn.mem.rlt (un_map hr' hM')), ⟨N, hm⟩⟩
  obtain ⟨cg, hg'⟩ := h.hg hk'
  exact un_map hg' hM'
/-- The tasks have turned where they lie. -/
theorem Tab.setT (h : Tab w B a b r M n v T ws fc) (hf : Fr (fun k => v.ownBlock = some k) w w') (ho : OwnG rT w' 0 v T') : Tab w' B a b r M n v T' ws fc := by
  obtain ⟨ca, ha'⟩ := h.ha
  obtain ⟨cb, hb'⟩ := h.hb
  obtain ⟨cr, hr'⟩ := h.hr
  obtain ⟨es, q, hM'⟩ := h.hM
  refine ⟨(hf.block B (lt_of_block h.head) fun e => ?_).trans h.head, ho, h.arn.of_blocks (hf.block a h.arn.alt fun e => ?_) (hf.block b h.arn.mem.blt fun e => ?_) (hf.block r h.arn.mem.rlt fun e => ?_), ?_⟩
  · obtain ⟨cg, hg⟩ := h.hg e
    exact un_cells h.head hg (by decide) rfl
  · obtain ⟨cg, hg⟩ := h.hg e
    exact un_cells ha' hg (by decide) rfl
  · obtain ⟨cg, hg⟩ := h.hg e
    exact un_cells hb' hg (by decide) rfl
  · obtain ⟨cg, hg⟩ := h.hg e
    exact un_cells hr' hg (by decide) rfl
  · obtain ⟨N, hN⟩ := h.map
    refine ⟨N, hN.of_block (hf.block M hN.lt fun e => ?_)⟩
    obtain ⟨cg, hg⟩ := h.hg e
    exact un_map hg hM' rfl
/-- The head leads to other tasks. -/
theorem Tab.setV (h : Tab w B a b r M n v T ws fc) (ho : OwnG rT w 0 v' T') : Tab (w.setCell ⟨B, 1, none⟩ v') B a b r M n v' T' ws fc := by
  obtain ⟨ca, ha'⟩ := h.ha
  obtain ⟨cb, hb'⟩ := h.hb
  obtain ⟨cr, hr'⟩ := h.hr
  obtain ⟨es, q, hM'⟩ := h.hM
  have hf := Fr.setCell (fun k => k = B) w B 1 v' rfl
  refine ⟨by rw [set_head h.head]; rfl, ho.of_block fun k hk => hf.block k (ho.rowLt hk).2 fun e => ?_, h.arn.of_blocks (hf.block a h.arn.alt fun e => ?_) (hf.block b h.arn.mem.blt fun e => ?_) (hf.block r h.arn.mem.rlt fun e => ?_), ?_⟩
  · obtain ⟨cg, hg⟩ := ho.rowT hk
    exact un_cells h.head hg (by decide) e.symm
  · exact un_cells h.head ha' (by decide) e.symm
  · exact un_cells h.head hb' (by decide) e.symm
  · exact un_cells h.head hr' (by decide) e.symm
  · obtain ⟨N, hN⟩ := h.map
    exact ⟨N, hN.of_block (hf.block M hN.lt fun e => un_map h.head hM' e.symm)⟩
/-- The tasks have grown, and the head leads to them. -/
theorem Tab.grow (h : Tab w B a b r M n v T ws fc) (hf : Fr (fun k => v.ownBlock = some k) w w') (ho : OwnG rT w' 0 v' T') : Tab (w'.setCell ⟨B, 1, none⟩ v') B a b r M n v' T' ws fc := by
  obtain ⟨ca, ha'⟩ := h.ha
  obtain ⟨cb, hb'⟩ := h.hb
  obtain ⟨cr, hr'⟩ := h.hr
  obtain ⟨es, q, hM'⟩ := h.hM
  obtain ⟨N, hN⟩ := h.map
  have eB := (hf.block B (lt_of_block h.head) fun e => by
    obtain ⟨cg, hg⟩ := h.hg e
    exact un_cells h.head hg (by decide) rfl).trans h.head
  have ea := (hf.block a h.arn.alt fun e => by
    obtain ⟨cg, hg⟩ := h.hg e
    exact un_cells ha' hg (by decide) rfl)
  have eb := (hf.block b h.arn.mem.blt fun e => by
    obtain ⟨cg, hg⟩ := h.hg e
    exact un_cells hb' hg (by decide) rfl)
  have er := (hf.block r h.arn.mem.rlt fun e => by
    obtain ⟨cg, hg⟩ := h.hg e
    exact un_cells hr' hg (by decide) rfl)
  have eM := (hf.block M hN.lt fun e => by
    obtain ⟨cg, hg⟩ := h.hg e
    exact un_map hg hM' rfl)
  have hs := Fr.setCell (fun k => k = B) w' B 1 v' rfl
  have A' := h.arn.of_blocks ea eb er
  refine ⟨by rw [set_head eB]; rfl, ho.of_block fun k hk => hs.block k (ho.rowLt hk).2 fun e => ?_, A'.of_blocks (hs.block a A'.alt fun e => ?_) (hs.block b A'.mem.blt fun e => ?_) (hs.block r A'.mem.rlt fun e => ?_), ⟨N, (hN.of_block eM).of_block (hs.block M (hN.of_block eM).lt fun e => ?_)⟩⟩
  · obtain ⟨cg, hg⟩ := ho.rowT hk
    exact un_cells eB hg (by decide) e.symm
  · exact un_cells h.head ha' (by decide) e.symm
  · exact un_cells h.head hb' (by decide) e.symm
  · exact un_cells h.head hr' (by decide) e.symm
  · exact un_map h.head hM' e.symm
theorem Fr.tb {X : Nat → Prop} {u v w : World} (h : Fr X u v) (b : Below v.heap.size v w) : Fr X u w := h.trans (Fr.below (X := fun _ => False) b) (fun j hj => hj.elim)
theorem Tab.c0 (h : Tab w B a b r M n v T ws fc) : w.cell? ⟨B, 0, none⟩ = some (.pointer (some ⟨a, 0, none⟩)) := by rw [cell_of_row _ _ _ _ _ _ h.head]; rfl
theorem Tab.c1 (h : Tab w B a b r M n v T ws fc) : w.cell? ⟨B, 1, none⟩ = some v := by rw [cell_of_row _ _ _ _ _ _ h.head]; rfl
theorem Tab.c2 (h : Tab w B a b r M n v T ws fc) : w.cell? ⟨B, 2, none⟩ = some (.map (some M)) := by rw [cell_of_row _ _ _ _ _ _ h.head]; rfl
theorem Tab.fz (h : Tab w B a b r M n v T ws fc) (o : Nat) : w.frozen? ⟨B, o, none⟩ = false := by simp [World.frozen?, h.head]
end Go.Proofs.YtpenjncbodcbnaaDoor
