/- queue: a store into a block that is none of its own. -/
import Derived.Test.YtdcacbjmbfppeaaGreatQB
namespace Go.Proofs.YtdcacbjmbfppeaaGreat
open Go.RowKit Go.Lib Go.Sort
set_option linter.unusedVariables false

/-- The types of a queue's blocks, the lists of entries aside. -/
def QTy (U : TypeId) : Prop := U = 59 ∨ U = 60 ∨ U = 23 ∨ U = 3 ∨ U = 97 ∨ U = 106 ∨ U = 102 ∨ U = 110 ∨ U = 100
theorem qty_ent : ¬ QTy 34 := by unfold QTy; decide
theorem RowB.over {w w' : World} {base n cap R : Nat} {a : Option Addr} {bs : List Bk} (h : RowB 110 w base (.slice a n cap) bs) (f : Fr (fun k => k = R) w w') (hr : ∀ g cs, w.heap[g]? = some (.cells cs 110 (0, 0)) → ¬ g = R) (he : ∀ b ∈ bs, ∀ base v, OwnE w base v b.d → OwnE w' base v b.d) : RowB 110 w' base (.slice a n cap) bs :=
  ⟨own_fr h.row f fun g cs hg _ => hr g cs hg, fun b hb => he b hb _ _ (h.own b hb)⟩
theorem QueA.over {w w' : World} {base R : Nat} {A : QAd} {T K : Nat} {s : QSt} {ra : Nat → Option Addr} {sa : Option Addr} {cs : Array Value} {U : TypeId} {fr : Nat × Nat} (h : QueA w base A T K s ra sa) (f : Fr (fun k => k = R) w w') (hR : w.heap[R]? = some (.cells cs U fr)) (hU : ¬ QTy U)
    (e1 : ∀ i, i < T → ∀ d ∈ s.ls i, ∀ base v, OwnE w base v d → OwnE w' base v d) (e2 : ∀ d ∈ s.hs, ∀ base v, OwnE w base v d → OwnE w' base v d) : QueA w' base A T K s ra sa := by
  have ne : ∀ {k : Nat} {ds : Array Value} {V : TypeId} {fr' : Nat × Nat}, w.heap[k]? = some (.cells ds V fr') → QTy V → ¬ k = R := fun {k} {ds} {V} {fr'} hk hV => ne_type hk hR (fun e => hU (e ▸ hV))
  have kb : ∀ {k : Nat} {ds : Array Value} {V : TypeId} {fr' : Nat × Nat}, w.heap[k]? = some (.cells ds V fr') → QTy V → w'.heap[k]? = some (.cells ds V fr') := fun hk hV => (f.2 _ (lt_of_block hk) (ne hk hV)).trans hk
  have t1 : QTy 59 := .inl rfl
  have t2 : QTy 60 := .inr (.inl rfl)
  have t3 : QTy 23 := .inr (.inr (.inl rfl))
  have t4 : QTy 3 := .inr (.inr (.inr (.inl rfl)))
  have t5 : QTy 97 := .inr (.inr (.inr (.inr (.inl rfl))))
  have t6 : QTy 106 := .inr (.inr (.inr (.inr (.inr (.inl rfl)))))
  have t7 : QTy 102 := .inr (.inr (.inr (.inr (.inr (.inr (.inl rfl))))))
  have t8 : QTy 110 := .inr (.inr (.inr (.inr (.inr (.inr (.inr (.inl rfl)))))))
  have t9 : QTy 100 := .inr (.inr (.inr (.inr (.inr (.inr (.inr (.inr rfl)))))))
  obtain ⟨c1, r1, r2⟩ := h.fix.row
  obtain ⟨c2, r3⟩ := h.slt.rowT
  refine ⟨⟨kb h.fix.head t1, ⟨c1, kb r1 t2, r2⟩, ?_, kb h.fix.qc t3, fun i hi => kb (h.fix.tc i hi) t4⟩, h.slt.of_blocks (f.2 _ h.slt.blt (ne h.slt.head t5)) (f.2 _ h.slt.rlt (ne r3 t6)), fun i hi => ?_, ?_, h.inj, h.rne, h.sne, h.lowS, h.lowH⟩
  · refine h.fix.tab.of_block (f.2 _ h.fix.tab.lt fun hx => ?_)
    obtain ⟨es, c, h2⟩ := h.fix.tab.isMap
    rw [hx, hR] at h2
    cases h2
  · have he := e1 i hi
    obtain ⟨cap, bs, h1, h2, h3, h4⟩ := h.own i hi
    exact ⟨cap, bs, h1, h2, kb h3 t7, h4.over f (fun g cs hg => ne hg t8) (fun b hb => he b.d (by rw [← h1]; exact List.mem_map_of_mem hb))⟩
  · obtain ⟨n, cap, h1, bs, h2, h3, h4⟩ := h.shr
    exact ⟨n, cap, kb h1 t9, bs, h2, h3, h4.over f (fun g cs hg => ne hg t8) (fun b hb => e2 b.d (by rw [← h2]; exact List.mem_map_of_mem hb))⟩
/-- The list's block is not a box that holds another entry. -/
theorem OwnE.over {w w' : World} {base R : Nat} {v : Value} {d : List Ent} {l2 : Int} {a1 b1 b2 : Value} (h : OwnE w base v d) (f : Fr (fun k => k = R) w w') (hR : w.heap[R]? = some (.cells #[a1, .int .i64 l2] 34 (0, 0))) (hR' : w'.heap[R]? = some (.cells #[b1, b2] 34 (0, 0))) (hd : ∀ x ∈ d, x.2 ≠ l2) : OwnE w' base v d := by
  obtain ⟨h1, h2⟩ := h
  refine ⟨h1, ?_⟩
  rcases h2 with h2 | ⟨g, cap, cur, r1, r2, r3, r4, r5, r6, r7⟩
  · exact .inl h2
  · by_cases e : g = R
    · subst e
      rw [hR] at r3
      simp only [Option.some.injEq, Obj.cells.injEq] at r3
      obtain ⟨rfl, _, _⟩ := r3
      cases d with
      | nil => exact .inr ⟨g, cap, #[b1, b2], r1, r2, hR', r4, r5, r6, rfl⟩
      | cons x r =>
        exfalso
        have e2 : flat (x :: r) = .int .u64 x.1 :: .int .i64 x.2 :: flat r := rfl
        rw [e2] at r7
        have e3 : (List.take ((x :: r).length * 2) [a1, Value.int .i64 l2])[1]? = some (.int .i64 x.2) := by rw [show List.take ((x :: r).length * 2) [a1, Value.int .i64 l2] = _ from r7]; rfl
        rw [List.getElem?_take, if_pos (by simp; omega)] at e3
        simp at e3
        exact hd x List.mem_cons_self e3.symm
    · exact .inr ⟨g, cap, cur, r1, r2, (f.2 g (lt_of_block r3) e).trans r3, r4, r5, r6, r7⟩
theorem flat_mem {ls : List (List Ent)} {d : List Ent} {x : Ent} (hd : d ∈ ls) (hx : x ∈ d) : x ∈ sortE ls.flatten := (sortE_perm _).mem_iff.2 (List.mem_flatten.2 ⟨d, hd, hx⟩)
/-- A store into a box that holds an entry that the lists lack. -/
theorem Que.box {w w' : World} {base R : Nat} {A : QAd} {T K : Nat} {s : QSt} {sl ow : Nat → List Ent} {sh : List Ent} {l2 : Int} {a1 b1 b2 : Value} (h : Que w base A T K s) (v : View T s sl ow sh) (f : Fr (fun k => k = R) w w') (hR : w.heap[R]? = some (.cells #[a1, .int .i64 l2] 34 (0, 0))) (hR' : w'.heap[R]? = some (.cells #[b1, b2] 34 (0, 0))) (h1 : ∀ i, i < T → ∀ x ∈ ow i, x.2 ≠ l2) (h2 : ∀ x ∈ sh, x.2 ≠ l2) : Que w' base A T K s := by
  obtain ⟨ra, sa, h⟩ := h
  exact ⟨ra, sa, h.over f hR qty_ent (fun i hi d hd _ _ o => o.over f hR hR' (fun x hx => h1 i hi x (by rw [← v.ow i hi]; exact flat_mem hd hx))) (fun d hd _ _ o => o.over f hR hR' (fun x hx => h2 x (by rw [← v.sh]; exact flat_mem hd hx)))⟩
/-- A store into a block of another type. -/
theorem Que.other {w w' : World} {base R : Nat} {A : QAd} {T K : Nat} {s : QSt} {cs : Array Value} {U : TypeId} {fr : Nat × Nat} (h : Que w base A T K s) (f : Fr (fun k => k = R) w w') (hR : w.heap[R]? = some (.cells cs U fr)) (hU : ¬ QTy U) (hE : U ≠ 34) : Que w' base A T K s := by
  obtain ⟨ra, sa, h⟩ := h
  have k : ∀ d : List Ent, ∀ base v, OwnE w base v d → OwnE w' base v d := fun d base v o => own_fr o f fun g cs' hg _ e => ne_type hg hR (fun e => hE e.symm) e
  exact ⟨ra, sa, h.over f hR hU (fun i hi d hd => k d) (fun d hd => k d)⟩
end Go.Proofs.YtdcacbjmbfppeaaGreat
