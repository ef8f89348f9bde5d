/- Blocks: what Of makes, Merge, Cut. -/
import Derived.Test.YtchephglapnloaaBlkN
import Derived.Test.YtchephglapnloaaEntP
import Derived.Test.YtchephglapnloaaEntPut
import Derived.Deep.RegionHeld3
import Derived.Test.YtchephglapnloaaEntR
namespace Go.Proofs.Ytchephglapnloaa
open Go.RowKit Go.Lib Go.Sort
set_option linter.unusedVariables false

/-- A new block of what is in order, its level that of its length; nothing old has turned. -/
def MadeB (w : World) (d : List Ent) (r : Ending) (w' : World) : Prop := ∃ a cap, r = .returned (.agg #[.int .i64 (lvl d.length), .slice a d.length cap]) ∧ OwnE w' w.heap.size (.slice a d.length cap) d ∧ Below w.heap.size w w'

theorem OwnE.set {w : World} {base : Nat} {v : Value} {d : List Ent} (h : OwnE w base v d) {p : Addr} (hp : p.block < base) (u : Value) : OwnE (w.setCell p u) base v d := by
  obtain ⟨h1, h2⟩ := h
  refine ⟨h1, ?_⟩
  rcases h2 with h2 | ⟨g, cap, cur, r1, r2, r3, r4⟩
  · exact .inl h2
  · exact .inr ⟨g, cap, cur, r1, r2, (Below.heap_setCell w p u g (by omega)).trans r3, r4⟩
theorem OwnE.is {w : World} {base cap : Nat} {a : Option Addr} {n : Nat} {d : List Ent} (h : OwnE w base (.slice a n cap) d) : IsL w a cap d := by
  obtain ⟨a', cap', e, l⟩ := h.isL
  injection e with e1 e2 e3
  subst e1 e3
  exact l

/-- A box of two cells at S. -/
structure Box2 (S : Nat) (x y : Value) (w : World) : Prop where
  lt : S < w.heap.size
  c0 : w.cell? ⟨S, 0, none⟩ = some x
  c1 : w.cell? ⟨S, 1, none⟩ = some y
  f0 : w.frozen? ⟨S, 0, none⟩ = false
  f1 : w.frozen? ⟨S, 1, none⟩ = false
theorem Box2.new (w : World) (x y : Value) (T : TypeId) : Box2 w.heap.size x y (w.alloc (.cells #[x, y] T)) := ⟨by simp, by simp, by simp, by simp, by simp⟩
theorem Box2.below {S B : Nat} {x y : Value} {w w' : World} (h : Box2 S x y w) (hw : Below B w w') (hB : S < B) : Box2 S x y w' :=
  ⟨by have := hw.size; have := h.lt; omega, (hw.cell (p := ⟨S, 0, none⟩) hB).trans h.c0, (hw.cell (p := ⟨S, 1, none⟩) hB).trans h.c1, (hw.frozen (p := ⟨S, 0, none⟩) hB).trans h.f0, (hw.frozen (p := ⟨S, 1, none⟩) hB).trans h.f1⟩
theorem Box2.set {S : Nat} {x y : Value} {w : World} (h : Box2 S x y w) (x' y' : Value) : Box2 S x' y' ((w.setCell ⟨S, 0, none⟩ x').setCell ⟨S, 1, none⟩ y') := by
  have k1 : ((w.setCell ⟨S, 0, none⟩ x').cell? ⟨S, 1, none⟩).isSome := by
    rw [World.cell?_setCell_other _ _ _ _ (by simp), h.c1]; rfl
  refine ⟨by simpa [World.setCell] using h.lt, ?_, ?_, ?_, ?_⟩
  · rw [World.cell?_setCell_other _ _ _ _ (by simp), World.cell?_setCell_same' _ _ _ (by rw [h.c0]; rfl)]
  · rw [World.cell?_setCell_same' _ _ _ k1]
  · rw [World.frozen?_setCell, World.frozen?_setCell]; exact h.f0
  · rw [World.frozen?_setCell, World.frozen?_setCell]; exact h.f1
theorem Box2.other {S : Nat} {x y : Value} {w : World} (h : Box2 S x y w) {p : Addr} (hp : p.block ≠ S) (u : Value) : Box2 S x y (w.setCell p u) := by
  refine ⟨by simpa [World.setCell] using h.lt, ?_, ?_, ?_, ?_⟩
  · rw [World.cell?_setCell_other _ _ _ _ (by intro e; exact hp (by rw [e])), h.c0]
  · rw [World.cell?_setCell_other _ _ _ _ (by intro e; exact hp (by rw [e])), h.c1]
  · rw [World.frozen?_setCell]; exact h.f0
  · rw [World.frozen?_setCell]; exact h.f1

set_option maxHeartbeats 400000 in
theorem of_any (a : Option Addr) (cap : Nat) (l : List Ent) (w : World) (h : IsL w a cap l) (hd : l.length ≤ 1000000) :
    Calls Try.prog 25 #[.slice a l.length cap] w (MadeB w (sortE l)) := by
  have lv := level_any l.length hd
  have sl := sortE_len l
  obtain ⟨S, hS⟩ : ∃ S, w.heap.size = S := ⟨_, rfl⟩
  have HS : Hid _ := hS
  obtain ⟨u, hu⟩ : ∃ u, w.alloc (.cells #[.int .i64 0, .slice none 0 0] 62) = u := ⟨_, rfl⟩
  have HU : Hid _ := hu
  have b0 : Below S w u := by rw [← hu]; exact (Below.refl _ _).alloc (by omega) _
  have su : u.heap.size = S + 1 := by rw [← hu, ← hS]; simp
  have x0 : Box2 S (.int .i64 0) (.slice none 0 0) u := by rw [← hu, ← hS]; exact Box2.new _ _ _ _
  have st := sort_made a cap l u (h.below (by rw [hS]; exact b0)) hd
  have B0 : Aside (Below S w u) := b0
  have X0 : Aside (Box2 S (.int .i64 0) (.slice none 0 0) u) := x0
  have SL : Hid _ := sl
  have SU : Hid _ := su
  obtain ⟨m, hm⟩ : ∃ m, lvl l.length = m := ⟨_, rfl⟩
  have HM : Hid _ := hm
  rw [hm] at lv
  clear h b0 x0 sl su hm hu
  go_enter Try.func25, Try.ntmps25
  go_wp2_with fail
  rw [HU.out]
  refine (lv _).mono ?_
  rintro e w1 ⟨rfl, rfl⟩
  go_wp2_with fail
  refine st.mono ?_
  rintro e w2 ⟨r, t, rfl, o2, b2⟩
  rw [SL.out]
  have x2 := X0.out.below b2 (by rw [SU.out]; omega)
  have q0 := x2.c0
  have q1 := x2.c1
  have q2 := x2.f0
  have q3 := x2.f1
  have B3 : Aside (Below S w ((w2.setCell ⟨S, 0, none⟩ (.int .i64 m)).setCell ⟨S, 1, none⟩ (.slice r l.length t))) :=
    ((B0.out.trans (b2.mono (by rw [SU.out]; omega))).setCell (Nat.le_refl _) _).setCell (Nat.le_refl _) _
  have X3 : Aside (Box2 S (.int .i64 m) (.slice r l.length t) ((w2.setCell ⟨S, 0, none⟩ (.int .i64 m)).setCell ⟨S, 1, none⟩ (.slice r l.length t))) := x2.set _ _
  have O3 : Aside (OwnE ((w2.setCell ⟨S, 0, none⟩ (.int .i64 m)).setCell ⟨S, 1, none⟩ (.slice r l.length t)) S (.slice r (sortE l).length t) (sortE l)) :=
    ((o2.set (by rw [SU.out]; exact Nat.lt_succ_self S) _).set (by rw [SU.out]; exact Nat.lt_succ_self S) _).low (by rw [SU.out]; exact Nat.le_succ S)
  clear x2 o2 b2 st X0 B0 lv
  go_wp2
  generalize World.setCell _ _ _ = w3 at B3 X3 O3 ⊢
  have y0 := X3.out.c0
  have y1 := X3.out.c1
  refine bodyPost_ret (v := .agg #[.int .i64 m, .slice r l.length t]) (by simp [results, Try.results25, go_sem, y0, y1]) rfl ⟨r, t, ?_, by rw [HS.out]; exact O3.out, by rw [HS.out]; exact B3.out⟩
  rw [SL.out, HM.out]

/-- One entry more. -/
theorem app_one {w : World} {base k : Nat} {r : Option Addr} {t : Nat} {d : List Ent} (x : Ent) (h : OwnE w base (.slice r k t) d) (hl : d.length = k) (hk : k ≤ 100000) (hb : base ≤ w.heap.size) :
    ∃ r' t' w', (Builtin.append_ #[29, 29] 29 #[.slice r k t, .slice (some ⟨w.heap.size, 0, none⟩) 1 1]).run Try.prog (w.alloc (.cells #[.int .u64 x.1, .int .i64 x.2] 28)) = .ok (.slice r' (k + 1) t') w' ∧ OwnE w' base (.slice r' (k + 1) t') (d ++ [x]) ∧ Below base w w' := by
  have bv : Below w.heap.size w (w.alloc (.cells #[.int .u64 x.1, .int .i64 x.2] 28)) := (Below.refl _ _).alloc (Nat.le_refl _) _
  obtain ⟨v', w', hr, o, g⟩ := app_run (c := [x]) (h.below bv) (IsL.one w x) (by simp; omega) (Nat.le_trans hb bv.size) 29
  obtain ⟨r', t', e, _⟩ := o.isL
  have e2 : (d ++ [x]).length = k + 1 := by simp [hl]
  rw [e2] at e
  subst e
  exact ⟨r', t', w', hr, o, OwnE.grown (h.below bv) (bv.mono hb) g (Nat.le_trans hb bv.size)⟩
end Go.Proofs.Ytchephglapnloaa
/- Blocks: Merge, Cut. -/
namespace Go.Proofs.Ytchephglapnloaa
open Go.RowKit Go.Lib Go.Sort
set_option linter.unusedVariables false

/-- Two lists in a row that was laid for them. -/
theorem two_lists {w : World} {a b : Option Addr} {p q : Nat} {c d : List Ent} (hc : IsL w a p c) (hd : IsL w b q d) :
    IsLL (w.alloc (.cells #[.slice a c.length p, .slice b d.length q] 29)) (some ⟨w.heap.size, 0, none⟩) [c, d] := by
  have b1 : Below w.heap.size w (w.alloc (.cells #[.slice a c.length p, .slice b d.length q] 29)) := (Below.refl _ _).alloc (Nat.le_refl _) _
  refine IsLL.of_block (cs := #[.slice a c.length p, .slice b d.length q]) (T := 29) (fr := (0, 0)) (heap_alloc_new w _) (by simp) (fun i z hz => ?_)
  have hi : i < 2 := by simpa using (List.getElem?_eq_some_iff.1 hz).1
  have : i = 0 ∨ i = 1 := by omega
  rcases this with rfl | rfl
  · simp at hz
    subst hz
    exact ⟨a, p, rfl, hc.below b1⟩
  · simp at hz
    subst hz
    exact ⟨b, q, rfl, hd.below b1⟩

set_option maxHeartbeats 400000 in
theorem mergeB_any (i j : Int) (a b : Option Addr) (p q : Nat) (c d : List Ent) (w : World) (hc : IsL w a p c) (hd : IsL w b q d) (hl : c.length + d.length ≤ 1000000) :
    Calls Try.prog 42 #[.agg #[.int .i64 i, .slice a c.length p], .agg #[.int .i64 j, .slice b d.length q]] w (MadeB w (sortE (c ++ d))) := by
  obtain ⟨S, hS⟩ : ∃ S, w.heap.size = S := ⟨_, rfl⟩
  have HS : Hid _ := hS
  obtain ⟨u, hu⟩ : ∃ u, ((w.alloc (.cells #[.int .i64 i, .slice a c.length p] 62)).alloc (.cells #[.int .i64 j, .slice b d.length q] 62)).alloc (.cells #[.int .i64 0, .slice none 0 0] 62) = u := ⟨_, rfl⟩
  have HU : Hid _ := hu
  have b0 : Below S w u := by rw [← hu, ← hS]; exact (((Below.refl _ _).alloc (Nat.le_refl _) _).alloc (by simp) _).alloc (by simp; omega) _
  have su : u.heap.size = S + 3 := by rw [← hu, ← hS]; simp
  have x0 : Box2 (S + 2) (.int .i64 0) (.slice none 0 0) u := by
    rw [← hu, ← hS]
    have := Box2.new ((w.alloc (.cells #[.int .i64 i, .slice a c.length p] 62)).alloc (.cells #[.int .i64 j, .slice b d.length q] 62)) (.int .i64 0) (.slice none 0 0) 62
    simpa using this
  have k1 : u.cell? ⟨S, 1, none⟩ = some (.slice a c.length p) := by rw [← hu, ← hS]; exact (cells3 w _ _ _ _ _ _ 1).1
  have k2 : u.cell? ⟨S + 1, 1, none⟩ = some (.slice b d.length q) := by rw [← hu, ← hS]; exact (cells3 w _ _ _ _ _ _ 1).2.1
  have tl := two_lists (hc.below (by rw [hS]; exact b0)) (hd.below (by rw [hS]; exact b0))
  rw [su] at tl
  have con := concat_any _ 2 _ _ tl (by simpa using hl)
  simp only [List.length_cons, List.length_nil, List.flatten_cons, List.flatten_nil, List.append_nil, Nat.zero_add, Nat.reduceAdd] at con
  have B0 : Aside (Below S w u) := b0
  have X0 : Aside (Box2 (S + 2) (.int .i64 0) (.slice none 0 0) u) := x0
  have SU : Hid _ := su
  obtain ⟨n, hn⟩ : ∃ n, (c ++ d).length = n := ⟨_, rfl⟩
  have HN : Hid _ := hn
  have hn' : n ≤ 1000000 := by rw [← hn, List.length_append]; exact hl
  obtain ⟨U, hU⟩ : ∃ U, u.alloc (.cells #[.slice a c.length p, .slice b d.length q] 29) = U := ⟨_, rfl⟩
  have HUU : Hid _ := hU
  have bU : Aside (Below (S + 3) u U) := by rw [← hU]; exact (Below.refl _ _).alloc (by omega) _
  have sU : U.heap.size = S + 4 := by rw [← hU]; simp [su]
  rw [hU] at con
  have SUU : Hid _ := sU
  clear b0 x0 su hu tl hn hU sU hc hd hl
  go_enter Try.func42, Try.ntmps42
  go_wp2_with fail
  rw [HU.out, HUU.out]
  refine con.mono ?_
  rintro e w1 ⟨r, t, rfl, o1, b1⟩
  have ofa := of_any r t (c ++ d) w1 o1.is (by rw [HN.out]; exact hn')
  rw [HN.out] at ofa ⊢
  have B1 : Aside (Below (S + 3) u w1) := bU.out.trans (b1.mono (by rw [SUU.out]; omega))
  clear con o1 b1 bU
  go_wp2_with fail
  refine ofa.mono ?_
  rintro e w2 ⟨r2, t2, rfl, o2, b2⟩
  have sl : (sortE (c ++ d)).length = n := by rw [sortE_len, HN.out]
  have SL : Hid _ := sl
  rw [sl]
  have sz : S + 3 ≤ w1.heap.size := by have := B1.out.size; rw [SU.out] at this; exact this
  have B2 : Aside (Below (S + 3) u w2) := B1.out.trans (b2.mono sz)
  have x2 := X0.out.below B2.out (by omega)
  have q0 := x2.c0
  have q1 := x2.c1
  have q2 := x2.f0
  have q3 := x2.f1
  obtain ⟨m, hm⟩ : ∃ m, lvl n = m := ⟨_, rfl⟩
  have HM : Hid _ := hm
  rw [hm]
  have B3 : Aside (Below S w ((w2.setCell ⟨S + 2, 0, none⟩ (.int .i64 m)).setCell ⟨S + 2, 1, none⟩ (.slice r2 n t2))) :=
    ((B0.out.trans (B2.out.mono (by omega))).setCell (by show S ≤ S + 2; omega) _).setCell (by show S ≤ S + 2; omega) _
  have X3 : Aside (Box2 (S + 2) (.int .i64 m) (.slice r2 n t2) ((w2.setCell ⟨S + 2, 0, none⟩ (.int .i64 m)).setCell ⟨S + 2, 1, none⟩ (.slice r2 n t2))) := x2.set _ _
  have O3 : Aside (OwnE ((w2.setCell ⟨S + 2, 0, none⟩ (.int .i64 m)).setCell ⟨S + 2, 1, none⟩ (.slice r2 n t2)) S (.slice r2 (sortE (c ++ d)).length t2) (sortE (c ++ d))) :=
    ((o2.set (by show S + 2 < _; omega) _).set (by show S + 2 < _; omega) _).low (by omega)
  clear x2 o2 b2 ofa X0 B0 B1 B2 hm sl
  go_wp2
  generalize World.setCell _ _ _ = w3 at B3 X3 O3 ⊢
  have y0 := X3.out.c0
  have y1 := X3.out.c1
  refine bodyPost_ret (v := .agg #[.int .i64 m, .slice r2 n t2]) (by simp [results, Try.results42, go_sem, y0, y1]) rfl ⟨r2, t2, ?_, by rw [HS.out]; exact O3.out, by rw [HS.out]; exact B3.out⟩
  rw [SL.out, HM.out]
end Go.Proofs.Ytchephglapnloaa
