/- slices.Delete at blocks: one of them. -/
import Derived.Laws.CopyOwn
import Derived.Lib.SliceRun
import Derived.Deep.RegionLaw
import Derived.Lib.Overlaps
import Derived.Laws.Externs
import Derived.BigRegion
import Derived.Test.YtchephglapnloaaLsmW
import Derived.Test.YtchephglapnloaaRefP
namespace Go.Proofs.Ytchephglapnloaa
open Go.RowKit Go.Lib Go.Sort
set_option linter.unusedVariables false

theorem info62 : ∃ i, Try.prog.info? 62 = some i ∧ i.zero = some (.agg #[.int .i64 0, .slice none 0 0]) ∧ i.size = 2 ∧ i.bytes = 32 := by
  have h : (Try.prog.info? 62).map (fun i => (i.zero, i.size, i.bytes)) = some (some (.agg #[.int .i64 0, .slice none 0 0]), 2, 32) := by kernel_rfl
  obtain ⟨i, h1, h2⟩ := Option.map_eq_some_iff.1 h
  simp at h2
  exact ⟨i, h1, h2.1, h2.2.1, h2.2.2⟩

/-- The row of blocks set anew. -/
theorem setRow_ends {S : TypeId → Prop} {w : World} {base g : Nat} {cur cur' : Array Value} (hg : w.heap[g]? = some (.cells cur 62 (0, 0))) (hb : base ≤ g) (hS : S 62) :
    Below base w (w.setRow g cur') ∧ Kept S w (w.setRow g cur') ∧ (w.setRow g cur').heap[g]? = some (.cells cur' 62 (0, 0)) := by
  refine ⟨below_setRow (Below.refl _ _) hb _, ⟨by simp [World.setRow], fun k ds U fr' hk hU => ?_⟩, setRow_heap w g _ _ _ _ hg⟩
  refine setRow_other w g k _ ?_
  rintro rfl
  rw [hg] at hk
  simp only [Option.some.injEq, Obj.cells.injEq] at hk
  rw [← hk.2.1] at hU
  exact hU hS
/-- copy of elements of two cells, within or into a row that is known. -/
theorem run_copy2 (w : World) (ty : TypeId) (g o dLen dCap : Nat) (a : Addr) (sLen sCap : Nat) (cur : Array Value) (cs : List Value)
    (hg : w.heap[g]? = some (.cells cur 62 (0, 0))) (hn : cs.length = Nat.min sLen dLen * 2)
    (hsrc : ∀ j v, cs[j]? = some v → w.cell? (a.add j) = some v) (hfit : o + cs.length ≤ cur.size) (h1 : ∀ v ∈ cs, v.oneCell' = true) :
    (Builtin.copy_ #[58, 58] ty #[.slice (some ⟨g, o, none⟩) dLen dCap, .slice (some a) sLen sCap]).run Try.prog w =
      .ok (goInt (Nat.min sLen dLen)) (w.setRow g (splice cur.toList o cs).toArray) := by
  obtain ⟨i, hi, _, hs, _⟩ := info62
  have hl := run_loadCells_list (P := Try.prog) w a cs hsrc
  have hst := run_storeCells_at Try.prog g o 62 cs 0 cur w hg (by simpa using hfit) h1
  have e : Nat.min sLen dLen * i.size = cs.length := by rw [hn, hs]
  simp only [Nat.add_zero, List.append_assoc] at hst
  simp [Builtin.copy_, run_underlying Try.underlying58, Builtin.lenOf, Builtin.firstCells, sizeOf, typeInfo, hi, e, hl, hst, splice]
/-- clear of the last one. -/
theorem run_clear2 (w : World) (ty : TypeId) (g o c : Nat) (cur : Array Value) (hg : w.heap[g]? = some (.cells cur 62 (0, 0))) (hfit : o + 2 ≤ cur.size) :
    (Builtin.clear_ #[58] ty #[.slice (some ⟨g, o, none⟩) 1 c]).run Try.prog w = .ok (.tuple #[]) (w.setRow g (splice cur.toList o [.int .i64 0, .slice none 0 0]).toArray) := by
  have hst := run_storeCells_at Try.prog g o 62 [.int .i64 0, .slice none 0 0] 0 cur w hg (by simpa using hfit) (by intro v hv; simp at hv; rcases hv with rfl | rfl <;> rfl)
  have hz : ∀ w, (zeroValue 62).run Try.prog w = .ok (.agg #[.int .i64 0, .slice none 0 0]) w := fun w => by kernel_rfl
  have hc : (Builtin.zeroCells (Value.agg #[.int .i64 0, .slice none 0 0]).cells 1).toList = [.int .i64 0, .slice none 0 0] := by first | kernel_rfl | simp [Builtin.zeroCells, Value.cells, Array.range]
  simp only [Nat.add_zero, List.append_assoc] at hst
  simp [Builtin.clear_, run_underlying Try.underlying58, hz, hc, hst, splice]

/-- What the calls of an own list may turn. -/
def LB (T : TypeId) : Prop := T = 60 ∨ T = 62
theorem lb_ent : ¬ LB 28 := by unfold LB; decide
/-- What an append onto a row of blocks leaves. -/
theorem kept_grown {S : TypeId → Prop} {w w' : World} {base n : Nat} {v : Value} {T : TypeId} {vs : List Value} (hS : S T) (o : w.ownsRow base T 2 v n vs) (hg : w.grownBy w' v.ownBlock) : Kept S w w' := by
  refine ⟨hg.size, fun k cs U fr hk hU => hg.block k (lt_of_block hk) ?_⟩
  intro e
  rcases o.2 with ⟨rfl, _⟩ | ⟨g, cap, cur, rfl, _, h, _⟩
  · simp [Value.ownBlock] at e
  · simp only [Value.ownBlock, Option.some.injEq] at e
    subst e
    rw [h] at hk
    simp only [Option.some.injEq, Obj.cells.injEq] at hk
    rw [← hk.2.1] at hU
    exact hU hS
/-- A row of blocks v0 that has turned into another: nothing else has turned. -/
def TurnsB (w : World) (base : Nat) (v0 v : Value) (bs : List Bk) (w' : World) : Prop := RowB 62 w' base v bs ∧ w.grownBy w' v0.ownBlock
theorem TurnsB.ends {w w' : World} {base n : Nat} {v0 v : Value} {vs : List Value} {bs : List Bk} (h : TurnsB w base v0 v bs w') (o : w.ownsRow base 62 2 v0 n vs) (hb : base ≤ w.heap.size) : Below base w w' ∧ Kept LB w w' :=
  ⟨(Below.refl _ _).grown h.2 hb (fun k hk => (World.ownsRow.lt o k hk).1), kept_grown (.inr rfl) o h.2⟩
theorem grown_row {w : World} {g : Nat} (cur : Array Value) : w.grownBy (w.drew.setRow g cur) (some g) := ⟨rfl, rfl, rfl, by simp [World.setRow], fun k hk hne => setRow_other w.drew g k _ (fun e => hne (by rw [e]))⟩
theorem grown_row2 {w w1 : World} {g : Nat} (cur : Array Value) (h : w.grownBy w1 (some g)) : w.grownBy (w1.setRow g cur) (some g) :=
  ⟨h.os, h.tape, h.output, by simpa [World.setRow] using h.size, fun k hk hne => (setRow_other w1 g k _ (fun e => hne (by rw [e]))).trans (h.block k hk hne)⟩

theorem erase_eq (bs : List Bk) (i : Nat) : flatB (bs.eraseIdx i) = flatB (bs.take i) ++ flatB (bs.drop (i + 1)) := by rw [List.eraseIdx_eq_take_drop_succ, flatB_append]

set_option maxHeartbeats 4000000 in
set_option maxRecDepth 100000 in
theorem delete_any (a : Option Addr) (n cap i : Nat) (base : Nat) (bs : List Bk) (w : World) (h : RowB 62 w base (.slice a n cap) bs) (hn : bs.length = n) (hi : i < n) :
    Calls Try.prog 32 #[.slice a n cap, .int .i64 i, .int .i64 ((i : Int) + 1)] w fun r w' => r = .returned (.slice a (n - 1) cap) ∧ TurnsB w base (.slice a n cap) (.slice a (n - 1) cap) (bs.eraseIdx i) w' := by
  obtain ⟨inf, hinf, _, hsz, _⟩ := info62
  rcases h.row.2 with ⟨h1, h0⟩ | ⟨g, cap', cur, h1, hb, hg, hnc, hc, hs, ht⟩
  · omega
  injection h1 with e1 e2 e3
  subst e1 e2 e3
  unfold maxLen at hc
  obtain ⟨news, hnews⟩ : ∃ news, news = flatB (bs.drop (i + 1)) := ⟨_, rfl⟩
  have hlen : news.length = (bs.length - (i + 1)) * 2 := by rw [hnews, flatB_len, List.length_drop]
  obtain ⟨A, hA, hsrc⟩ : ∃ A : Addr, (if cap = i + 1 then some (⟨g, 0, none⟩ : Addr) else some ⟨g, (i + 1) * 2, none⟩) = some A ∧ Hid (∀ t u, news[t]? = some u → w.drew.cell? (A.add t) = some u) := by
    by_cases c : cap = i + 1
    · refine ⟨⟨g, 0, none⟩, by simp [c], fun t u hu => ?_⟩
      have h0 : news.length = 0 := by rw [hlen]; omega
      rw [List.length_eq_zero_iff.1 h0] at hu
      simp at hu
    · refine ⟨⟨g, (i + 1) * 2, none⟩, by simp [c], fun t u hu => ?_⟩
      have ht2 := (List.getElem?_eq_some_iff.1 hu).1
      rw [Addr.add_lit]
      show w.cell? _ = _
      rw [World.ownsRow.cellAt h.row ((i + 1) * 2 + t) (by omega), ← hu, hnews, ← flatB_drop, List.getElem?_drop]
  have hr : (Builtin.append_ #[58, 58] 58 #[.slice (some ⟨g, 0, none⟩) i cap, .slice (some A) (bs.length - (i + 1)) (cap - (i + 1))]).run Try.prog w.drew = .ok (.slice (some ⟨g, 0, none⟩) (bs.length - 1) cap) (w.drew.setRow g (splice cur.toList (i * 2) news).toArray) := by
    have := run_append_room (P := Try.prog) w.drew 58 58 62 inf Try.underlying58 hinf g i cap cur hg A (bs.length - (i + 1)) (cap - (i + 1)) news (by rw [hlen, hsz]) hsrc.out (by rw [hnews]; exact flatB_one _) (by omega) (by rw [hsz, hlen, hs]; omega)
    rw [this, hsz, show i + (bs.length - (i + 1)) = bs.length - 1 by omega, List.append_assoc]
    rfl
  obtain ⟨b1, k1, g1⟩ := setRow_ends (S := fun T => T = 62) (w := w.drew) (cur' := (splice cur.toList (i * 2) news).toArray) hg hb rfl
  have l1 : (splice cur.toList (i * 2) news).length = cap * 2 := by rw [length_splice _ _ _ (by rw [hlen]; simp [hs]; omega)]; simpa using hs
  obtain ⟨w1, hw1⟩ : ∃ w1, w.drew.setRow g (splice cur.toList (i * 2) news).toArray = w1 := ⟨_, rfl⟩
  rw [hw1] at hr b1 k1 g1
  have hcl : ∀ ty, (Builtin.clear_ #[58] ty #[.slice (some ⟨g, (bs.length - 1) * 2, none⟩) 1 (cap - (bs.length - 1))]).run Try.prog w1 = .ok (.tuple #[]) (w1.setRow g (splice (splice cur.toList (i * 2) news) ((bs.length - 1) * 2) [.int .i64 0, .slice none 0 0]).toArray) :=
    fun ty => run_clear2 w1 ty g _ _ _ g1 (by simp; omega)
  obtain ⟨b2, k2, g2⟩ := setRow_ends (S := fun T => T = 62) (w := w1) (cur' := (splice (splice cur.toList (i * 2) news) ((bs.length - 1) * 2) [.int .i64 0, .slice none 0 0]).toArray) g1 hb rfl
  obtain ⟨w2, hw2⟩ : ∃ w2, w1.setRow g (splice (splice cur.toList (i * 2) news) ((bs.length - 1) * 2) [.int .i64 0, .slice none 0 0]).toArray = w2 := ⟨_, rfl⟩
  simp only [hw2] at hcl
  rw [hw2] at b2 k2 g2
  have bw : Below base w w2 := Below.trans (Below.trans ((Below.refl _ _).drew) b1) b2
  have gw : w.grownBy w2 (some g) := by rw [← hw2]; exact grown_row2 _ (by rw [← hw1]; exact grown_row _)
  have kw : Kept (fun T => T = 62) w w2 := Kept.trans (Kept.trans (Kept.of_below ((Below.refl _ _).drew)) k1) k2
  have hfin : TurnsB w base (.slice (some ⟨g, 0, none⟩) bs.length cap) (.slice (some ⟨g, 0, none⟩) (bs.length - 1) cap) (bs.eraseIdx i) w2 := by
    refine ⟨⟨?_, fun b hb' => kw.own (by decide) (h.own b (List.mem_of_mem_eraseIdx hb'))⟩, gw⟩
    have le : (bs.eraseIdx i).length = bs.length - 1 := by rw [List.length_eraseIdx, if_pos hi]
    rw [le]
    refine ⟨by rw [flatB_len, le], .inr ⟨g, cap, _, rfl, hb, g2, by omega, by unfold maxLen; omega, ?_, ?_⟩⟩
    · simp only [List.size_toArray]
      rw [length_splice _ _ _ (by simp; omega), l1]
    · have e1 : (splice cur.toList (i * 2) news).take ((bs.length - 1) * 2) = flatB (bs.eraseIdx i) := by
        have e2 : (cur.toList.take (i * 2)) = flatB (bs.take i) := by
          rw [← flatB_take, ← ht, List.take_take]; congr 1; omega
        unfold splice
        rw [← List.append_assoc, List.take_append_of_le_length (by simp [hlen, hs]; omega), List.take_of_length_le (by simp [hlen, hs]; omega), e2, erase_eq, hnews]
      obtain ⟨X, hX⟩ : ∃ X, splice cur.toList (i * 2) news = X := ⟨_, rfl⟩
      rw [hX] at e1 l1 ⊢
      show List.take _ (X.take ((bs.length - 1) * 2) ++ _) = _
      rw [List.take_append_of_le_length (by rw [List.length_take, l1]; omega), List.take_take, Nat.min_self]
      exact e1
  have F : Aside (TurnsB w base (.slice (some ⟨g, 0, none⟩) bs.length cap) (.slice (some ⟨g, 0, none⟩) (bs.length - 1) cap) (bs.eraseIdx i) w2) := hfin
  obtain ⟨M, hn⟩ : ∃ M, bs.length = M + 1 := ⟨bs.length - 1, by omega⟩
  have mx := mixed
  rw [hn] at hr hcl F hi hnc ⊢
  simp only [Nat.add_sub_cancel] at hr hcl F ⊢
  obtain ⟨n, hM⟩ : ∃ n, M + 1 = n := ⟨_, rfl⟩
  have HM : Hid _ := hM
  have q1 : ((M : Nat) : Int) ≤ (n : Int) := by omega
  have q2 : ¬ cap = M := by omega
  have q3 : n - M = 1 := by omega
  have q4 : (n : Int) ≤ (cap : Int) := by omega
  rw [hM] at hr hi hnc F ⊢
  have j1 : (i : Int) ≤ (n : Int) := by omega
  have j2 : (i : Int) + 1 ≤ (n : Int) := by omega
  have j3 : (0 : Int) ≤ (i : Int) + 1 := by omega
  have j4 : ((i : Int) + 1).toNat = i + 1 := by omega
  have j5 : ((i : Int) == (i : Int) + 1) = false := by simp; omega
  have j6 : ¬ (i : Int) = (i : Int) + 1 := by omega
  have j7 : (i : Int) ≤ (cap : Int) := by omega
  have j8 : (i : Int) + 1 ≤ (cap : Int) := by omega
  clear h hg hs ht hnews hlen hsrc b1 k1 g1 l1 hw1 b2 k2 g2 hw2 bw kw gw hfin hinf hM hn
  go_enter Try.func32, Try.ntmps32
  go_wp2_with fail
  go_region_law_o (refine step_app w.drew rfl _ _ 58 58 rfl _ _ (by simp [Act.eval, Act.put]) (by simp [Act.eval, Act.put]) _ w1 hr ?_)
  go_wp2
  go_ret
  exact ⟨rfl, F.out⟩
end Go.Proofs.Ytchephglapnloaa
