/- The document's Shared in the heap; its Swap. -/
import Derived.Test.YtboccihcomaaoaaShrP
namespace Go.Proofs.Ytboccihcomaaoaa
open Go.RowKit Go.Lib Go.Sort
set_option linter.unusedVariables false

/-- A list that can be read, and lies in neither of two blocks. -/
def Lst (w : World) (S : Nat) (a : Option Addr) (cap : Nat) (d : List Ent) : Prop := IsL w a cap d ∧ ∀ b off, a = some ⟨b, off, none⟩ → d ≠ [] → b ≠ S ∧ b ≠ S + 1
theorem Lst.below {w w' : World} {S cap : Nat} {a : Option Addr} {d : List Ent} (h : Lst w S a cap d) (hw : Below w.heap.size w w') : Lst w' S a cap d := ⟨h.1.below hw, h.2⟩
theorem Lst.grown {w w' : World} {S cap B : Nat} {a : Option Addr} {d : List Ent} (h : Lst w S a cap d) (hg : w.grownBy w' (some B)) (hB : B = S ∨ B = S + 1) : Lst w' S a cap d := by
  refine ⟨⟨h.1.le, h.1.big, fun i x hx => ?_⟩, h.2⟩
  obtain ⟨b, off, e, hb, h1, h2⟩ := h.1.elem i x hx
  have ne := h.2 b off e (by intro c; rw [c] at hx; simp at hx)
  have hk := hg.block b hb (fun c => by injection c with c; omega)
  exact ⟨b, off, e, by have := hg.size; omega, (World.cell?_of_block (a := ⟨b, off + i * 2, none⟩) hk).trans h1, (World.cell?_of_block (a := ⟨b, off + i * 2 + 1, none⟩) hk).trans h2⟩
theorem OwnE.lst {w : World} {base n cap S : Nat} {a : Option Addr} {d : List Ent} (h : OwnE w base (.slice a n cap) d) (hS : S + 1 < base) : Lst w S a cap d := by
  refine ⟨h.is, fun b off e hd => ?_⟩
  rcases h.2 with ⟨h1, h0⟩ | ⟨g, cap', cur, h1, hb, _⟩
  · exact absurd (List.length_eq_zero_iff.1 h0) hd
  · injection h1 with e1
    rw [e] at e1
    injection e1 with e1
    injection e1 with e1
    omega
/-- A slice of the document's blocks: levels as they should be. -/
structure RefS (w : World) (S : Nat) (a : Option Addr) (n cap : Nat) (bs : List Bk) : Prop where
  len : bs.length = n
  fit : n ≤ cap
  big : cap ≤ maxLen
  elem : ∀ i b, bs[i]? = some b → ∃ g off cs, a = some ⟨g, off, none⟩ ∧ w.heap[g]? = some (.cells cs 79 (0, 0)) ∧ cs[off + i * 2]? = some (.int .i64 (lv b.d)) ∧ cs[off + i * 2 + 1]? = some (.slice b.p b.d.length b.q)
  lst : ∀ b ∈ bs, Lst w S b.p b.q b.d
theorem RefS.below {w w' : World} {S n cap : Nat} {a : Option Addr} {bs : List Bk} (h : RefS w S a n cap bs) (hw : Below w.heap.size w w') : RefS w' S a n cap bs :=
  ⟨h.len, h.fit, h.big, fun i b hb => by
    obtain ⟨g, off, cs, e, h1, h2⟩ := h.elem i b hb
    exact ⟨g, off, cs, e, (hw.block g (lt_of_block h1)).trans h1, h2⟩, fun b hb => (h.lst b hb).below hw⟩
theorem RefS.grown {w w' : World} {S n cap B : Nat} {a : Option Addr} {bs : List Bk} {cs : Array Value} {X : TypeId} (h : RefS w S a n cap bs) (hg : w.grownBy w' (some B)) (hB : B = S ∨ B = S + 1) (hX : w.heap[B]? = some (.cells cs X (0, 0))) (hT : X ≠ 79) : RefS w' S a n cap bs :=
  ⟨h.len, h.fit, h.big, fun i b hb => by
    obtain ⟨g, off, cs', e, h1, h2⟩ := h.elem i b hb
    have ne : g ≠ B := by
      rintro rfl
      rw [hX] at h1
      simp only [Option.some.injEq, Obj.cells.injEq] at h1
      exact hT h1.2.1
    exact ⟨g, off, cs', e, (hg.block g (lt_of_block h1) (fun c => by injection c with c; exact ne c)).trans h1, h2⟩, fun b hb => (h.lst b hb).grown hg hB⟩
theorem RefS.cell {w : World} {S n cap : Nat} {a : Option Addr} {bs : List Bk} (h : RefS w S a n cap bs) {i : Nat} (hi : i < bs.length) : ∃ g off, a = some ⟨g, off, none⟩ ∧ g < w.heap.size ∧ w.cell? ⟨g, off + i * 2, none⟩ = some (.int .i64 (lv bs[i].d)) ∧ w.cell? ⟨g, off + i * 2 + 1, none⟩ = some (.slice bs[i].p bs[i].d.length bs[i].q) := by
  obtain ⟨g, off, cs, e, h1, h2, h3⟩ := h.elem i bs[i] (List.getElem?_eq_getElem hi)
  exact ⟨g, off, e, lt_of_block h1, by rw [cell_of_row _ _ _ _ _ _ h1]; exact h2, by rw [cell_of_row _ _ _ _ _ _ h1]; exact h3⟩
theorem RefS.isBs {w : World} {S n cap : Nat} {a : Option Addr} {bs : List Bk} (h : RefS w S a n cap bs) : IsBs w a (bs.map Bk.d) := by
  have hb := h.big
  have hf := h.fit
  unfold maxLen at hb
  refine ⟨by rw [List.length_map, h.len]; omega, fun i d hd => ?_⟩
  rw [List.getElem?_map] at hd
  obtain ⟨b, hb, rfl⟩ := Option.map_eq_some_iff.1 hd
  obtain ⟨hi, rfl⟩ := List.getElem?_eq_some_iff.1 hb
  obtain ⟨g, off, e, hg, c0, c1⟩ := h.cell hi
  exact ⟨g, off, bs[i].p, bs[i].q, _, e, hg, c0, c1, (h.lst _ (List.getElem_mem hi)).1⟩
theorem RefS.reads {w : World} {S n cap : Nat} {a : Option Addr} {bs : List Bk} (h : RefS w S a n cap bs) : Reads w a n (flatB bs) := by
  refine ⟨by rw [flatB_len, h.len], flatB_one _, fun j u hj => ?_⟩
  have hl : j < (flatB bs).length := (List.getElem?_eq_some_iff.1 hj).1
  rw [flatB_len] at hl
  obtain ⟨b, hb⟩ : ∃ b, bs[j / 2]? = some b := ⟨_, List.getElem?_eq_getElem (by omega)⟩
  obtain ⟨g, off, cs, e, k1, k2, k3⟩ := h.elem _ b hb
  obtain ⟨f1, f2⟩ := flatB_at bs _ b hb
  refine ⟨⟨g, off, none⟩, e, ?_⟩
  rw [Addr.add_lit, cell_of_row _ _ _ _ _ _ k1]
  by_cases c : j = j / 2 * 2
  · rw [← c] at f1 k2; rw [k2, ← f1, hj]
  · have c' : j / 2 * 2 + 1 = j := by omega
    rw [c'] at f2
    rw [show off + j = off + j / 2 * 2 + 1 by omega, k3, ← f2, hj]
theorem RefS.take {w : World} {S n cap : Nat} {a : Option Addr} {bs : List Bk} (h : RefS w S a n cap bs) (k : Nat) (hk : k ≤ n) : RefS w S a k cap (bs.take k) :=
  ⟨by rw [List.length_take, h.len]; omega, by have := h.fit; omega, h.big, fun i b hb => h.elem i b (by
    rw [List.getElem?_take] at hb
    split at hb
    · exact hb
    · cases hb), fun b hb => h.lst b (List.mem_of_mem_take hb)⟩
theorem RefS.drop {w : World} {S n cap : Nat} {a : Option Addr} {bs : List Bk} (h : RefS w S a n cap bs) (k : Nat) (hk : k ≤ n) : RefS w S (if cap = k then a else a.map (·.add (k * 2))) (n - k) (cap - k) (bs.drop k) :=
  ⟨by rw [List.length_drop, h.len], by have := h.fit; omega, by have := h.big; omega, fun i b hb => by
    rw [List.getElem?_drop] at hb
    obtain ⟨g, off, cs, e, k1, k2, k3⟩ := h.elem _ b hb
    have := (List.getElem?_eq_some_iff.1 hb).1
    refine ⟨g, off + k * 2, cs, ?_, k1, ?_, ?_⟩
    · rw [if_neg (by have := h.fit; have := h.len; omega), e, Option.map_some, Addr.add_lit]
    · rw [← k2]; congr 1; omega
    · rw [← k3]; congr 1; omega, fun b hb => h.lst b (List.mem_of_mem_drop hb)⟩
theorem RefS.of_own {w : World} {S base n t : Nat} {r : Option Addr} {bs : List Bk} (h : OwnZ 79 w base (.slice r n t) n (flatB bs)) (hn : bs.length = n) (h1 : n ≤ t) (h2 : t ≤ maxLen) (hl : ∀ b ∈ bs, Lst w S b.p b.q b.d) : RefS w S r n t bs := by
  refine ⟨hn, h1, h2, fun i b hb => ?_, hl⟩
  have hi := (List.getElem?_eq_some_iff.1 hb).1
  rcases h with h | ⟨h, _⟩
  · rcases h.2 with ⟨_, h0⟩ | ⟨g, cap', cur, e, _, hg, _, _, hs, ht⟩
    · omega
    · injection e with e1
      obtain ⟨f1, f2⟩ := flatB_at bs i b hb
      have get : ∀ j, j < n * 2 → cur[j]? = (flatB bs)[j]? := fun j hj => by
        rw [← ht, List.getElem?_take, if_pos hj, Array.getElem?_toList]
      exact ⟨g, 0, cur, e1, hg, by rw [Nat.zero_add, get _ (by omega), f1], by rw [Nat.zero_add, get _ (by omega), f2]⟩
  · omega
/-- The document's Shared, at S + 1. -/
def RShr (w : World) (S v : Nat) (ls : List (List Ent)) : Prop :=
  ∃ (a : Option Addr) (n cap : Nat) (bs : List Bk), bs.map Bk.d = ls ∧ w.heap[S + 1]? = some (.cells #[.int .u64 v, .slice a n cap] 50 (0, 0)) ∧ RefS w S a n cap bs
theorem RShr.below {w w' : World} {S v : Nat} {ls : List (List Ent)} (h : RShr w S v ls) (hw : Below w.heap.size w w') : RShr w' S v ls := by
  obtain ⟨a, n, cap, bs, h1, h2, h3⟩ := h
  exact ⟨a, n, cap, bs, h1, (hw.block _ (lt_of_block h2)).trans h2, h3.below hw⟩
theorem RShr.lt {w : World} {S v : Nat} {ls : List (List Ent)} (h : RShr w S v ls) : S + 1 < w.heap.size := by
  obtain ⟨a, n, cap, bs, h1, h2, h3⟩ := h
  exact lt_of_block h2
theorem RShr.len {w : World} {S v : Nat} {ls : List (List Ent)} (h : RShr w S v ls) {a : Option Addr} {n cap : Nat} {bs : List Bk} (h1 : bs.map Bk.d = ls) (h2 : RefS w S a n cap bs) : ls.length = n := by rw [← h1, List.length_map, h2.len]
theorem RShr.grown {w w' : World} {S v : Nat} {ls : List (List Ent)} {cs : Array Value} {X : TypeId} (h : RShr w S v ls) (hg : w.grownBy w' (some S)) (hX : w.heap[S]? = some (.cells cs X (0, 0))) (hT : X ≠ 79) : RShr w' S v ls := by
  obtain ⟨a, n, cap, bs, h1, h2, h3⟩ := h
  exact ⟨a, n, cap, bs, h1, (hg.block _ (lt_of_block h2) (by simp)).trans h2, h3.grown hg (.inl rfl) hX hT⟩
/-- The end of a call that has made a new row for the document's Shared. -/
theorem rshr_set {wl w3 : World} {S v n t : Nat} {r : Option Addr} {y : Value} {bs : List Bk} (hcell : wl.heap[S + 1]? = some (.cells #[.int .u64 v, y] 50 (0, 0))) (hb : Below wl.heap.size wl w3) (o : RefS w3 S r n t bs) :
    w3.heap[S + 1]? = some (.cells #[.int .u64 v, y] 50 (0, 0)) ∧ RShr ((w3.setCell ⟨S + 1, 1, none⟩ (.slice r n t)).setCell ⟨S + 1, 0, none⟩ (.int .u64 ((v : Int) + 1))) S (v + 1) (bs.map Bk.d) ∧ wl.grownBy ((w3.setCell ⟨S + 1, 1, none⟩ (.slice r n t)).setCell ⟨S + 1, 0, none⟩ (.int .u64 ((v : Int) + 1))) (some (S + 1)) := by
  have c3 := (hb.block _ (lt_of_block hcell)).trans hcell
  have g : w3.grownBy ((w3.setCell ⟨S + 1, 1, none⟩ (.slice r n t)).setCell ⟨S + 1, 0, none⟩ (.int .u64 ((v : Int) + 1))) (some (S + 1)) := grown_trans (grown_set w3 (S + 1) 1 _) (grown_set _ (S + 1) 0 _)
  exact ⟨c3, ⟨r, n, t, bs, rfl, shr_set0 (shr_set1 c3 _) _, o.grown g (.inr rfl) c3 (by decide)⟩, grown_trans (grown_of_below hb _) g⟩

/-- The document's blocks that are handed in: a level and a list each. -/
def RawR (w : World) (S : Nat) (a : Option Addr) (xs : List (Int × Bk)) : Prop :=
  ∀ (i : Nat) (hi : i < xs.length), ∃ g, a = some ⟨g, 0, none⟩ ∧ g < w.heap.size ∧ w.cell? ⟨g, i * 2, none⟩ = some (.int .i64 xs[i].1) ∧ w.cell? ⟨g, i * 2 + 1, none⟩ = some (.slice xs[i].2.p xs[i].2.d.length xs[i].2.q) ∧ Lst w S xs[i].2.p xs[i].2.q xs[i].2.d
theorem RawR.below {w w' : World} {S : Nat} {a : Option Addr} {xs : List (Int × Bk)} (h : RawR w S a xs) (hw : Below w.heap.size w w') : RawR w' S a xs := fun i hi => by
  obtain ⟨g, e, hg, c0, c1, L⟩ := h i hi
  exact ⟨g, e, by have := hw.size; omega, (hw.cell (p := ⟨g, i * 2, none⟩) hg).trans c0, (hw.cell (p := ⟨g, i * 2 + 1, none⟩) hg).trans c1, L.below hw⟩
def okB (x : Int × Bk) : Bool := okX (x.1, x.2.d)
/-- What the document's Swap, by the version of now, tells and leaves. -/
def RSwapIs (w : World) (S v : Nat) (ls : List (List Ent)) (xs : List (Int × Bk)) (r : Ending) (w' : World) : Prop := r = .returned (.bool (xs.all okB)) ∧ (if xs.all okB = true then RShr w' S (v + 1) (xs.map (fun x => x.2.d)) else RShr w' S v ls) ∧ w.grownBy w' (some (S + 1))

set_option maxHeartbeats 400000 in
theorem rswap_old (S v old : Nat) (ls : List (List Ent)) (a : Option Addr) (n cap : Nat) (w : World) (h : RShr w S v ls) (hv : v ≠ old) :
    Calls Try.prog 22 #[.pointer (some ⟨S + 1, 0, none⟩), .int .u64 old, .slice a n cap] w fun r w' => r = .returned (.bool false) ∧ w' = w := by
  obtain ⟨a0, n0, cap0, bs, _, hB, hr⟩ := h
  have y0 := shr0 hB
  have t : ((old : Int) == (v : Int)) = false := by simp; omega
  have t2 : ¬ (old : Int) = (v : Int) := by omega
  clear hr hB
  go_enter Try.func22, Try.ntmps22
  go_wp2
  go_ret
  exact ⟨rfl, rfl⟩

set_option maxHeartbeats 4000000 in
set_option maxRecDepth 100000 in
theorem rswap_any (S v : Nat) (ls : List (List Ent)) (a : Option Addr) (n cap : Nat) (xs : List (Int × Bk)) (w : World) (h : RShr w S v ls) (hv : v ≤ 1000000) (hx : RawR w S a xs) (hn : xs.length = n) (hl : n ≤ 1000) (hd : ∀ x ∈ xs, x.2.d.length ≤ 1000000) :
    Calls Try.prog 22 #[.pointer (some ⟨S + 1, 0, none⟩), .int .u64 v, .slice a n cap] w (RSwapIs w S v ls xs) := by
  have H : Aside (RShr w S v ls) := h
  obtain ⟨a0, n0, cap0, bs0, _, hB, _⟩ := h
  have y0 := shr0 hB
  have HX : Aside (RawR w S a xs) := hx
  have HN : Hid _ := hn
  have HD : Aside (∀ x ∈ xs, x.2.d.length ≤ 1000000) := hd
  have HB : Aside (w.heap[S + 1]? = some (.cells #[.int .u64 v, .slice a0 n0 cap0] 50 (0, 0))) := hB
  have wv : IntKind.u64.wrap ((v : Int) + 1) = (v : Int) + 1 := by rw [IntKind.wrap_u64, Int.emod_eq_of_lt (by omega) (by omega)]
  have tv : ((v : Int) == (v : Int)) = true := by simp
  clear hx hn hd hB
  go_enter Try.func22, Try.ntmps22
  go_wp2
  clear y0
  go_loopg [7] n (fun kx s7 wx => ∃ k : Nat, s7 = .int .i64 k ∧ k ≤ n ∧ n - k ≤ kx ∧ Aside (Below w.heap.size w wx) ∧ Aside (∀ i (hi : i < xs.length), i < k → okB xs[i] = true))
  case atStart => exact ⟨0, rfl, by omega, by omega, Below.refl _ _, (fun i _ h => absurd h (by omega) : ∀ i (hi : i < xs.length), i < 0 → okB xs[i] = true)⟩
  case round =>
    obtain ⟨k, rfl, hk, hkx, D, A⟩ := hrel
    have sz := D.out.size
    by_cases hlt : k < n
    · have hz : (k : Int) < (n : Int) := by omega
      have hkl : k < xs.length := by rw [HN.out]; exact hlt
      obtain ⟨g, ha, hg, c0, c1, L⟩ := (HX.out.below D.out) k hkl
      have ok := refOkR_any xs[k].1 xs[k].2.p xs[k].2.q xs[k].2.d wr L.1 (HD.out _ (List.getElem_mem hkl))
      rw [show okX (xs[k].1, xs[k].2.d) = okB xs[k] from rfl] at ok
      obtain ⟨Y, hY⟩ : ∃ Y, okB xs[k] = Y := ⟨_, rfl⟩
      have HY : Hid _ := hY
      rw [hY] at ok
      obtain ⟨x, hx⟩ : ∃ x, xs[k] = x := ⟨_, rfl⟩
      rw [hx] at c0 c1 ok
      obtain ⟨m, hm⟩ : ∃ m, x.1 = m := ⟨_, rfl⟩
      obtain ⟨kl, hkl2⟩ : ∃ m, x.2.d.length = m := ⟨_, rfl⟩
      obtain ⟨xp, hxp⟩ : ∃ m, x.2.p = m := ⟨_, rfl⟩
      obtain ⟨xq, hxq⟩ : ∃ m, x.2.q = m := ⟨_, rfl⟩
      rw [hm] at c0 ok
      rw [hkl2, hxp, hxq] at c1 ok
      subst ha
      clear hY hm hkl2 hx L hxp hxq
      go_wp2_with fail
      refine ok.mono ?_
      rintro r w1 ⟨rfl, g1⟩
      have D2 : Aside (Below w.heap.size w w1) := D.out.trans (g1.mono sz)
      clear g1 D c0 c1 ok
      cases Y with
      | true =>
        go_wp2
        go_roundg (n - (k + 1))
        case measure => omega
        case rel =>
          refine ⟨k + 1, by go_num, by omega, Nat.le_refl _, D2, (fun i hi hik => ?_ : ∀ i (hi : i < xs.length), i < k + 1 → okB xs[i] = true)⟩
          by_cases e : i = k
          · subst e; exact HY.out
          · exact A.out i hi (by omega)
      | false =>
        have all : xs.all okB = false := by
          rw [List.all_eq_false]
          exact ⟨xs[k], List.getElem_mem hkl, by rw [HY.out]; simp⟩
        have AL : Hid _ := all
        clear all
        go_wp2
        go_ret
        exact ⟨by rw [AL.out]; rfl, by rw [AL.out, if_neg (by simp)]; exact H.out.below D2.out, grown_of_below D2.out _⟩
    · obtain rfl : k = n := by omega
      have hz : ¬ (k : Int) < (k : Int) := by omega
      have all : xs.all okB = true := by
        rw [List.all_eq_true]
        intro x hx
        obtain ⟨i, hi, rfl⟩ := List.getElem_of_mem hx
        exact A.out i hi (by have := HN.out; omega)
      have AL : Hid _ := all
      have bsl : xs.map (fun x => x.2.d) = (xs.map Prod.snd).map Bk.d := by rw [List.map_map]; rfl
      have b0 : Below wr.heap.size wr (wr.alloc (.cells #[] 79)) := (Below.refl _ _).alloc (Nat.le_refl _) _
      obtain ⟨Z, hZ⟩ : ∃ Z, wr.heap.size = Z := ⟨_, rfl⟩
      have hxr := (HX.out.below D.out).below b0
      have rd : Reads (wr.alloc (.cells #[] 79)) a k (flatB (xs.map Prod.snd)) := by
        refine ⟨by rw [flatB_len, List.length_map, HN.out], flatB_one _, ?_⟩
        have key := flatB_get (xs.map Prod.snd) (fun j => a.bind fun ad => (wr.alloc (.cells #[] 79)).cell? (ad.add j)) (fun i b hb => by
          obtain ⟨hi, rfl⟩ := List.getElem?_eq_some_iff.1 hb
          rw [List.length_map] at hi
          obtain ⟨g, e, hg, c0, c1, L⟩ := hxr i hi
          have ol := List.all_eq_true.1 all xs[i] (List.getElem_mem hi)
          unfold okB okX at ol
          rw [Bool.and_eq_true, decide_eq_true_iff] at ol
          simp only [List.getElem_map]
          subst e
          simp only [Option.bind_some, Addr.add_lit, Nat.zero_add]
          rw [c0, c1]
          exact ⟨by rw [ol.1]; rfl, rfl⟩)
        intro j u hj
        have := key j u hj
        obtain ⟨ad, e, hc⟩ := Option.bind_eq_some_iff.1 this
        exact ⟨ad, e, hc⟩
      obtain ⟨r5, t5, w5, h5, o5, b5, f5, m5⟩ := push0 (g := Z) (cap := cap) rd (by omega)
      have b15 : Below w.heap.size w w5 := D.out.trans ((b0.trans (b5.mono b0.size)).mono sz)
      have rf : RefS w5 S r5 k t5 (xs.map Prod.snd) := RefS.of_own o5 (by rw [List.length_map, HN.out]) f5 m5 (fun b hb => by
        obtain ⟨x, hx, rfl⟩ := List.mem_map.1 hb
        obtain ⟨i, hi, rfl⟩ := List.getElem_of_mem hx
        obtain ⟨g, e, hg, c0, c1, L⟩ := hxr i hi
        exact L.below b5)
      obtain ⟨c5, rs, gs⟩ := rshr_set HB.out b15 rf
      have k0 := shr0 c5
      have k1 := shr1 c5
      have f0 := shrf c5 0
      have f1 := shrf c5 1
      have FIN : Aside (RShr ((w5.setCell ⟨S + 1, 1, none⟩ (.slice r5 k t5)).setCell ⟨S + 1, 0, none⟩ (.int .u64 ((v : Int) + 1))) S (v + 1) (xs.map (fun x => x.2.d)) ∧ w.grownBy ((w5.setCell ⟨S + 1, 1, none⟩ (.slice r5 k t5)).setCell ⟨S + 1, 0, none⟩ (.int .u64 ((v : Int) + 1))) (some (S + 1))) := ⟨by rw [bsl]; exact rs, gs⟩
      clear all bsl b0 hxr rd o5 b5 b15 rf rs gs c5 A D
      go_wp2_with (at_builtin; refine Lib.wpList_append_run _ rfl _ _ 48 48 rfl _ _ rfl rfl _ w5 h5 ?_)
      go_ret
      exact ⟨by rw [AL.out]; rfl, by rw [AL.out, if_pos rfl]; exact FIN.out.1, FIN.out.2⟩
end Go.Proofs.Ytboccihcomaaoaa
