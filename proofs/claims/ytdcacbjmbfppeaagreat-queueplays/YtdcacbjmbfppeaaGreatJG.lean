import Derived.Test.YtdcacbjmbfppeaaGreatJG0
import Derived.Test.YtdcacbjmbfppeaaGreatJE
import Derived.Test.YtdcacbjmbfppeaaGreatJF
import Derived.Deep.RegionHeld3
import Derived.Test.YtdcacbjmbfppeaaGreatJD
import Derived.Deep.QuietTactic
import Derived.BigQuiet
/- Blocks: what Of makes, Merge, Cut. -/
namespace Go.Proofs.YtdcacbjmbfppeaaGreat
open Go.RowKit Go.Lib Go.Sort
set_option linter.unusedVariables false

/-- A new block of what is in order, its level that of its length; nothing old has turned. -/
def MadeB (w : World) (d : List Ent) (r : Ending) (w' : World) : Prop := ∃ a cap, r = .returned (.agg #[.int .i64 (lvl d.length), .slice a d.length cap]) ∧ OwnE w' w.heap.size (.slice a d.length cap) d ∧ Below w.heap.size w w'

theorem OwnE.set {w : World} {base : Nat} {v : Value} {d : List Ent} (h : OwnE w base v d) {p : Addr} (hp : p.block < base) (u : Value) : OwnE (w.setCell p u) base v d := by
  obtain ⟨h1, h2⟩ := h
  refine ⟨h1, ?_⟩
  rcases h2 with h2 | ⟨g, cap, cur, r1, r2, r3, r4⟩
  · exact .inl h2
  · exact .inr ⟨g, cap, cur, r1, r2, (Below.heap_setCell w p u g (by omega)).trans r3, r4⟩
theorem OwnE.is {w : World} {base cap : Nat} {a : Option Addr} {n : Nat} {d : List Ent} (h : OwnE w base (.slice a n cap) d) : IsL w a cap d := by
  obtain ⟨a', cap', e, l⟩ := h.isL
  injection e with e1 e2 e3
  subst e1 e3
  exact l

/-- A box of two cells at S. -/
structure Box2 (S : Nat) (x y : Value) (w : World) : Prop where
  lt : S < w.heap.size
  c0 : w.cell? ⟨S, 0, none⟩ = some x
  c1 : w.cell? ⟨S, 1, none⟩ = some y
  f0 : w.frozen? ⟨S, 0, none⟩ = false
  f1 : w.frozen? ⟨S, 1, none⟩ = false
theorem Box2.new (w : World) (x y : Value) (T : TypeId) : Box2 w.heap.size x y (w.alloc (.cells #[x, y] T)) := ⟨by simp, by simp, by simp, by simp, by simp⟩
theorem Box2.below {S B : Nat} {x y : Value} {w w' : World} (h : Box2 S x y w) (hw : Below B w w') (hB : S < B) : Box2 S x y w' :=
  ⟨by have := hw.size; have := h.lt; omega, (hw.cell (p := ⟨S, 0, none⟩) hB).trans h.c0, (hw.cell (p := ⟨S, 1, none⟩) hB).trans h.c1, (hw.frozen (p := ⟨S, 0, none⟩) hB).trans h.f0, (hw.frozen (p := ⟨S, 1, none⟩) hB).trans h.f1⟩
theorem Box2.set {S : Nat} {x y : Value} {w : World} (h : Box2 S x y w) (x' y' : Value) : Box2 S x' y' ((w.setCell ⟨S, 0, none⟩ x').setCell ⟨S, 1, none⟩ y') := by
  have k1 : ((w.setCell ⟨S, 0, none⟩ x').cell? ⟨S, 1, none⟩).isSome := by
    rw [World.cell?_setCell_other _ _ _ _ (by simp), h.c1]; rfl
  refine ⟨by simpa [World.setCell] using h.lt, ?_, ?_, ?_, ?_⟩
  · rw [World.cell?_setCell_other _ _ _ _ (by simp), World.cell?_setCell_same' _ _ _ (by rw [h.c0]; rfl)]
  · rw [World.cell?_setCell_same' _ _ _ k1]
  · rw [World.frozen?_setCell, World.frozen?_setCell]; exact h.f0
  · rw [World.frozen?_setCell, World.frozen?_setCell]; exact h.f1
theorem Box2.other {S : Nat} {x y : Value} {w : World} (h : Box2 S x y w) {p : Addr} (hp : p.block ≠ S) (u : Value) : Box2 S x y (w.setCell p u) := by
  refine ⟨by simpa [World.setCell] using h.lt, ?_, ?_, ?_, ?_⟩
  · rw [World.cell?_setCell_other _ _ _ _ (by intro e; exact hp (by rw [e])), h.c0]
  · rw [World.cell?_setCell_other _ _ _ _ (by intro e; exact hp (by rw [e])), h.c1]
  · rw [World.frozen?_setCell]; exact h.f0
  · rw [World.frozen?_setCell]; exact h.f1

set_option maxHeartbeats 400000 in
theorem of_any (a : Option Addr) (cap : Nat) (l : List Ent) (w : World) (h : IsL w a cap l) (hd : l.length ≤ 1000000) :
    Calls Tryz.prog 71 #[.slice a l.length cap] w (MadeB w (sortE l)) := by
  have lv := level_any l.length hd
  have sl := sortE_len l
  obtain ⟨S, hS⟩ : ∃ S, w.heap.size = S := ⟨_, rfl⟩
  have HS : Hid _ := hS
  obtain ⟨u, hu⟩ : ∃ u, w.alloc (.cells #[.int .i64 0, .slice none 0 0] 110) = u := ⟨_, rfl⟩
  have HU : Hid _ := hu
  have b0 : Below S w u := by rw [← hu]; exact (Below.refl _ _).alloc (by omega) _
  have su : u.heap.size = S + 1 := by rw [← hu, ← hS]; simp
  have x0 : Box2 S (.int .i64 0) (.slice none 0 0) u := by rw [← hu, ← hS]; exact Box2.new _ _ _ _
  have st := sort_made a cap l u (h.below (by rw [hS]; exact b0)) hd
  have B0 : Aside (Below S w u) := b0
  have X0 : Aside (Box2 S (.int .i64 0) (.slice none 0 0) u) := x0
  have SL : Hid _ := sl
  have SU : Hid _ := su
  obtain ⟨m, hm⟩ : ∃ m, lvl l.length = m := ⟨_, rfl⟩
  have HM : Hid _ := hm
  rw [hm] at lv
  clear h b0 x0 sl su hm hu
  go_enter Tryz.func71, Tryz.ntmps71
  go_wp2_with fail
  rw [HU.out]
  refine (lv _).mono ?_
  rintro e w1 ⟨rfl, rfl⟩
  go_wp2_with fail
  refine st.mono ?_
  rintro e w2 ⟨r, t, rfl, o2, b2⟩
  rw [SL.out]
  have x2 := X0.out.below b2 (by rw [SU.out]; omega)
  have q0 := x2.c0
  have q1 := x2.c1
  have q2 := x2.f0
  have q3 := x2.f1
  have B3 : Aside (Below S w ((w2.setCell ⟨S, 0, none⟩ (.int .i64 m)).setCell ⟨S, 1, none⟩ (.slice r l.length t))) :=
    ((B0.out.trans (b2.mono (by rw [SU.out]; omega))).setCell (Nat.le_refl _) _).setCell (Nat.le_refl _) _
  have X3 : Aside (Box2 S (.int .i64 m) (.slice r l.length t) ((w2.setCell ⟨S, 0, none⟩ (.int .i64 m)).setCell ⟨S, 1, none⟩ (.slice r l.length t))) := x2.set _ _
  have O3 : Aside (OwnE ((w2.setCell ⟨S, 0, none⟩ (.int .i64 m)).setCell ⟨S, 1, none⟩ (.slice r l.length t)) S (.slice r (sortE l).length t) (sortE l)) :=
    ((o2.set (by rw [SU.out]; exact Nat.lt_succ_self S) _).set (by rw [SU.out]; exact Nat.lt_succ_self S) _).low (by rw [SU.out]; exact Nat.le_succ S)
  clear x2 o2 b2 st X0 B0 lv
  go_wp2
  generalize World.setCell _ _ _ = w3 at B3 X3 O3 ⊢
  have y0 := X3.out.c0
  have y1 := X3.out.c1
  refine bodyPost_ret (v := .agg #[.int .i64 m, .slice r l.length t]) (by simp [results, Tryz.results71, go_sem, y0, y1]) rfl ⟨r, t, ?_, by rw [HS.out]; exact O3.out, by rw [HS.out]; exact B3.out⟩
  rw [SL.out, HM.out]

/-- One entry more. -/
theorem app_one {w : World} {base k : Nat} {r : Option Addr} {t : Nat} {d : List Ent} (x : Ent) (h : OwnE w base (.slice r k t) d) (hl : d.length = k) (hk : k ≤ 100000) (hb : base ≤ w.heap.size) :
    ∃ r' t' w', (Builtin.append_ #[45, 45] 45 #[.slice r k t, .slice (some ⟨w.heap.size, 0, none⟩) 1 1]).run Tryz.prog (w.alloc (.cells #[.int .u64 x.1, .int .i64 x.2] 34)) = .ok (.slice r' (k + 1) t') w' ∧ OwnE w' base (.slice r' (k + 1) t') (d ++ [x]) ∧ Below base w w' := by
  have bv : Below w.heap.size w (w.alloc (.cells #[.int .u64 x.1, .int .i64 x.2] 34)) := (Below.refl _ _).alloc (Nat.le_refl _) _
  obtain ⟨v', w', hr, o, g⟩ := app_run (c := [x]) (h.below bv) (IsL.one w x) (by simp; omega) (Nat.le_trans hb bv.size) 45
  obtain ⟨r', t', e, _⟩ := o.isL
  have e2 : (d ++ [x]).length = k + 1 := by simp [hl]
  rw [e2] at e
  subst e
  exact ⟨r', t', w', hr, o, OwnE.grown (h.below bv) (bv.mono hb) g (Nat.le_trans hb bv.size)⟩
end Go.Proofs.YtdcacbjmbfppeaaGreat

/- Blocks: Merge, Cut. -/
namespace Go.Proofs.YtdcacbjmbfppeaaGreat
open Go.RowKit Go.Lib Go.Sort
set_option linter.unusedVariables false

/-- Two lists in a row that was laid for them. -/
theorem two_lists {w : World} {a b : Option Addr} {p q : Nat} {c d : List Ent} (hc : IsL w a p c) (hd : IsL w b q d) :
    IsLL (w.alloc (.cells #[.slice a c.length p, .slice b d.length q] 45)) (some ⟨w.heap.size, 0, none⟩) [c, d] := by
  have b1 : Below w.heap.size w (w.alloc (.cells #[.slice a c.length p, .slice b d.length q] 45)) := (Below.refl _ _).alloc (Nat.le_refl _) _
  refine IsLL.of_block (cs := #[.slice a c.length p, .slice b d.length q]) (T := 45) (fr := (0, 0)) (heap_alloc_new w _) (by simp) (fun i z hz => ?_)
  have hi : i < 2 := by simpa using (List.getElem?_eq_some_iff.1 hz).1
  have : i = 0 ∨ i = 1 := by omega
  rcases this with rfl | rfl
  · simp at hz
    subst hz
    exact ⟨a, p, rfl, hc.below b1⟩
  · simp at hz
    subst hz
    exact ⟨b, q, rfl, hd.below b1⟩

set_option maxHeartbeats 400000 in
theorem mergeB_any (i j : Int) (a b : Option Addr) (p q : Nat) (c d : List Ent) (w : World) (hc : IsL w a p c) (hd : IsL w b q d) (hl : c.length + d.length ≤ 1000000) :
    Calls Tryz.prog 93 #[.agg #[.int .i64 i, .slice a c.length p], .agg #[.int .i64 j, .slice b d.length q]] w (MadeB w (sortE (c ++ d))) := by
  obtain ⟨S, hS⟩ : ∃ S, w.heap.size = S := ⟨_, rfl⟩
  have HS : Hid _ := hS
  obtain ⟨u, hu⟩ : ∃ u, ((w.alloc (.cells #[.int .i64 i, .slice a c.length p] 110)).alloc (.cells #[.int .i64 j, .slice b d.length q] 110)).alloc (.cells #[.int .i64 0, .slice none 0 0] 110) = u := ⟨_, rfl⟩
  have HU : Hid _ := hu
  have b0 : Below S w u := by rw [← hu, ← hS]; exact (((Below.refl _ _).alloc (Nat.le_refl _) _).alloc (by simp) _).alloc (by simp; omega) _
  have su : u.heap.size = S + 3 := by rw [← hu, ← hS]; simp
  have x0 : Box2 (S + 2) (.int .i64 0) (.slice none 0 0) u := by
    rw [← hu, ← hS]
    have := Box2.new ((w.alloc (.cells #[.int .i64 i, .slice a c.length p] 110)).alloc (.cells #[.int .i64 j, .slice b d.length q] 110)) (.int .i64 0) (.slice none 0 0) 110
    simpa using this
  have k1 : u.cell? ⟨S, 1, none⟩ = some (.slice a c.length p) := by rw [← hu, ← hS]; exact (cells3 w _ _ _ _ _ _ 1).1
  have k2 : u.cell? ⟨S + 1, 1, none⟩ = some (.slice b d.length q) := by rw [← hu, ← hS]; exact (cells3 w _ _ _ _ _ _ 1).2.1
  have tl := two_lists (hc.below (by rw [hS]; exact b0)) (hd.below (by rw [hS]; exact b0))
  rw [su] at tl
  have con := concat_any _ 2 _ _ tl (by simpa using hl)
  simp only [List.length_cons, List.length_nil, List.flatten_cons, List.flatten_nil, List.append_nil, Nat.zero_add, Nat.reduceAdd] at con
  have B0 : Aside (Below S w u) := b0
  have X0 : Aside (Box2 (S + 2) (.int .i64 0) (.slice none 0 0) u) := x0
  have SU : Hid _ := su
  obtain ⟨n, hn⟩ : ∃ n, (c ++ d).length = n := ⟨_, rfl⟩
  have HN : Hid _ := hn
  have hn' : n ≤ 1000000 := by rw [← hn, List.length_append]; exact hl
  obtain ⟨U, hU⟩ : ∃ U, u.alloc (.cells #[.slice a c.length p, .slice b d.length q] 45) = U := ⟨_, rfl⟩
  have HUU : Hid _ := hU
  have bU : Aside (Below (S + 3) u U) := by rw [← hU]; exact (Below.refl _ _).alloc (by omega) _
  have sU : U.heap.size = S + 4 := by rw [← hU]; simp [su]
  rw [hU] at con
  have SUU : Hid _ := sU
  clear b0 x0 su hu tl hn hU sU hc hd hl
  go_enter Tryz.func93, Tryz.ntmps93
  go_wp2_with fail
  rw [HU.out, HUU.out]
  refine con.mono ?_
  rintro e w1 ⟨r, t, rfl, o1, b1⟩
  have ofa := of_any r t (c ++ d) w1 o1.is (by rw [HN.out]; exact hn')
  rw [HN.out] at ofa ⊢
  have B1 : Aside (Below (S + 3) u w1) := bU.out.trans (b1.mono (by rw [SUU.out]; omega))
  clear con o1 b1 bU
  go_wp2_with fail
  refine ofa.mono ?_
  rintro e w2 ⟨r2, t2, rfl, o2, b2⟩
  have sl : (sortE (c ++ d)).length = n := by rw [sortE_len, HN.out]
  have SL : Hid _ := sl
  rw [sl]
  have sz : S + 3 ≤ w1.heap.size := by have := B1.out.size; rw [SU.out] at this; exact this
  have B2 : Aside (Below (S + 3) u w2) := B1.out.trans (b2.mono sz)
  have x2 := X0.out.below B2.out (by omega)
  have q0 := x2.c0
  have q1 := x2.c1
  have q2 := x2.f0
  have q3 := x2.f1
  obtain ⟨m, hm⟩ : ∃ m, lvl n = m := ⟨_, rfl⟩
  have HM : Hid _ := hm
  rw [hm]
  have B3 : Aside (Below S w ((w2.setCell ⟨S + 2, 0, none⟩ (.int .i64 m)).setCell ⟨S + 2, 1, none⟩ (.slice r2 n t2))) :=
    ((B0.out.trans (B2.out.mono (by omega))).setCell (by show S ≤ S + 2; omega) _).setCell (by show S ≤ S + 2; omega) _
  have X3 : Aside (Box2 (S + 2) (.int .i64 m) (.slice r2 n t2) ((w2.setCell ⟨S + 2, 0, none⟩ (.int .i64 m)).setCell ⟨S + 2, 1, none⟩ (.slice r2 n t2))) := x2.set _ _
  have O3 : Aside (OwnE ((w2.setCell ⟨S + 2, 0, none⟩ (.int .i64 m)).setCell ⟨S + 2, 1, none⟩ (.slice r2 n t2)) S (.slice r2 (sortE (c ++ d)).length t2) (sortE (c ++ d))) :=
    ((o2.set (by show S + 2 < _; omega) _).set (by show S + 2 < _; omega) _).low (by omega)
  clear x2 o2 b2 ofa X0 B0 B1 B2 hm sl
  go_wp2
  generalize World.setCell _ _ _ = w3 at B3 X3 O3 ⊢
  have y0 := X3.out.c0
  have y1 := X3.out.c1
  refine bodyPost_ret (v := .agg #[.int .i64 m, .slice r2 n t2]) (by simp [results, Tryz.results93, go_sem, y0, y1]) rfl ⟨r2, t2, ?_, by rw [HS.out]; exact O3.out, by rw [HS.out]; exact B3.out⟩
  rw [SL.out, HM.out]
end Go.Proofs.YtdcacbjmbfppeaaGreat

/- Blocks: Cut. -/
namespace Go.Proofs.YtdcacbjmbfppeaaGreat
open Go.RowKit Go.Lib Go.Sort
set_option linter.unusedVariables false

/-- Two new blocks. -/
def MadeB2 (w : World) (c d : List Ent) (r : Ending) (w' : World) : Prop :=
  ∃ a p b q, r = .returned (.tuple #[.agg #[.int .i64 (lvl c.length), .slice a c.length p], .agg #[.int .i64 (lvl d.length), .slice b d.length q]]) ∧
    OwnE w' w.heap.size (.slice a c.length p) c ∧ OwnE w' w.heap.size (.slice b d.length q) d ∧ Below w.heap.size w w'

theorem keep_set {w : World} {S i : Nat} {v : Option Value} {p : Addr} {u : Value} (h : w.cell? ⟨S, i, none⟩ = v) (hp : p.block ≠ S) : (w.setCell p u).cell? ⟨S, i, none⟩ = v := by
  rw [World.cell?_setCell_other _ _ _ _ (by intro e; exact hp (by rw [e])), h]

end Go.Proofs.YtdcacbjmbfppeaaGreat

/- Blocks: Ok, Min; the law's awake. -/
namespace Go.Proofs.YtdcacbjmbfppeaaGreat
open Go.RowKit Go.Lib Go.Sort
set_option linter.unusedVariables false

set_option maxHeartbeats 400000 in
theorem okB_any (a : Option Addr) (cap : Nat) (d : List Ent) (w : World) (h : IsL w a cap d) (hs : Srt d) (hd : d.length ≤ 1000000) :
    Calls Tryz.prog 111 #[.agg #[.int .i64 (lvl d.length), .slice a d.length cap]] w fun e w' => e = .returned (.bool true) ∧ Below w.heap.size w w' := by
  obtain ⟨S, hS⟩ : ∃ S, w.heap.size = S := ⟨_, rfl⟩
  have HS : Hid _ := hS
  obtain ⟨n, hn⟩ : ∃ n, d.length = n := ⟨_, rfl⟩
  obtain ⟨m, hm⟩ : ∃ m, lvl n = m := ⟨_, rfl⟩
  obtain ⟨P, hP⟩ : ∃ P, 2 ^ m = P := ⟨_, rfl⟩
  have m20 : m ≤ 20 := by rw [← hm]; exact lvl_le (by omega)
  have hP1 : P ≤ 1048576 := by rw [← hP]; exact Nat.le_trans (Nat.pow_le_pow_right (by omega) m20) (by decide)
  have r1 : n ≤ P := by rw [← hP, ← hm]; exact lvl_room n
  have r2 : 0 < m → P / 2 < n := by rw [← hP, ← hm]; exact fun h => lvl_half h
  have rm := room_any m P (by omega) hP
  obtain ⟨u, hu⟩ : ∃ u, w.alloc (.cells #[.int .i64 m, .slice a n cap] 110) = u := ⟨_, rfl⟩
  have HU : Hid _ := hu
  have b0 : Below S w u := by rw [← hu]; exact (Below.refl _ _).alloc (by omega) _
  have k0 : ∀ q, (u.drewN q).cell? ⟨S, 0, none⟩ = some (.int .i64 m) := fun q => by rw [← hu, ← hS]; exact cell_new w _ _ 0
  have k1 : ∀ q, (u.drewN q).cell? ⟨S, 1, none⟩ = some (.slice a n cap) := fun q => by rw [← hu, ← hS]; exact cell_new w _ _ 1
  have e0 : u.cell? ⟨S, 0, none⟩ = some (.int .i64 m) := k0 0
  have so : ∀ q, Calls Tryz.prog 118 #[.slice a n cap] (u.drewN q) fun e w' => e = .returned (.bool true) ∧ Grown (u.drewN q) w' := fun q => by
    have := sorted_any a cap d (u.drewN q) (h.below (by rw [hS]; exact b0.trans ((Grown.below ⟨q, #[], by rw [grow_empty]⟩).mono (by rw [← hu, ← hS]; simp))))
    rw [hn, (srtB_iff d).2 hs] at this
    exact this
  rw [hn, hm]
  have B0 : Aside (Below S w u) := b0
  have hn' : n ≤ 1000000 := by omega
  have wn : IntKind.u64.wrap (n : Int) = (n : Int) := by rw [IntKind.wrap_u64, Int.emod_eq_of_lt (by omega) (by omega)]
  have t1 : ¬ (m : Int) < 0 := by omega
  have t2 : ¬ (62 : Int) < (m : Int) := by omega
  have t3 : ¬ (P : Int) < (n : Int) := by omega
  have t5 : decide ((m : Int) < 0) = false := decide_eq_false t1
  have t6 : decide ((P : Int) < (n : Int)) = false := decide_eq_false t3
  have sz : S ≤ u.heap.size := by have := b0.size; omega
  clear b0 hu h hs hd hn hm hP
  by_cases c : 0 < m
  · have r3 := r2 c
    have t4 : ¬ (n : Int) ≤ (P : Int) / 2 := by omega
    have t7 : (0 : Int) < (m : Int) := by omega
    have t8 : decide ((0 : Int) < (m : Int)) = true := decide_eq_true t7
    clear r2
    go_enter Tryz.func111, Tryz.ntmps111
    go_wp2_with fail
    rw [HU.out]
    go_quiet ((go_at_call 107; exact Calls.quiet_of_same (rm _)))
    go_wp2_with fail
    refine (so nq).mono ?_
    rintro e w2 ⟨rfl, g2⟩
    have B2 : Aside (Below S w w2) := (B0.out.trans ((Grown.below ⟨nq, #[], by rw [grow_empty]⟩).mono sz)).trans (g2.below.mono sz)
    clear g2 k0 k1 so
    go_wp2
    go_ret
    exact ⟨rfl, by rw [HS.out]; exact B2.out⟩
  · have t7 : ¬ (0 : Int) < (m : Int) := by omega
    have t8 : decide ((0 : Int) < (m : Int)) = false := decide_eq_false t7
    clear r2
    go_enter Tryz.func111, Tryz.ntmps111
    go_wp2_with fail
    rw [HU.out]
    go_quiet ((go_at_call 107; exact Calls.quiet_of_same (rm _)))
    go_wp2_with fail
    refine (so nq).mono ?_
    rintro e w2 ⟨rfl, g2⟩
    have B2 : Aside (Below S w w2) := (B0.out.trans ((Grown.below ⟨nq, #[], by rw [grow_empty]⟩).mono sz)).trans (g2.below.mono sz)
    clear g2 k0 k1 so
    go_wp2
    go_ret
    exact ⟨rfl, by rw [HS.out]; exact B2.out⟩

/-- What Min tells. -/
def MinIs (w : World) (x : Ent) (r : Ending) (w' : World) : Prop := r = .returned (.tuple #[.agg #[.int .u64 x.1, .int .i64 x.2], .bool true]) ∧ Below w.heap.size w w'

set_option maxHeartbeats 400000 in
theorem minB_any (i : Int) (a : Option Addr) (cap : Nat) (x : Ent) (d : List Ent) (w : World) (h : IsL w a cap (x :: d)) :
    Calls Tryz.prog 77 #[.agg #[.int .i64 i, .slice a (x :: d).length cap]] w (MinIs w x) := by
  obtain ⟨S, hS⟩ : ∃ S, w.heap.size = S := ⟨_, rfl⟩
  have HS : Hid _ := hS
  have hl := h.len
  obtain ⟨n, hn⟩ : ∃ n, (x :: d).length = n := ⟨_, rfl⟩
  have n0 : 0 < n := by rw [← hn]; simp
  rw [hn] at hl ⊢
  obtain ⟨b, off, rfl, hb, c0, c1⟩ := h.elem 0 x rfl
  simp only [Nat.zero_mul, Nat.add_zero] at c0 c1
  have t1 : ¬ (n : Int) = 0 := by omega
  have t2 : ((n : Int) == 0) = false := by simp; omega
  have t3 : (0 : Int) < (n : Int) := by omega
  have hb2 : b < S := by omega
  clear h hn
  go_enter Tryz.func77, Tryz.ntmps77
  go_wp2
  refine bodyPost_ret (v := .tuple #[.agg #[.int .u64 x.1, .int .i64 x.2], .bool true]) (by simp [results, Tryz.results77, go_sem, hS]) rfl ⟨rfl, ((Below.refl _ _).alloc (Nat.le_refl _) _).alloc (by simp) _⟩

theorem srt3 : sortE [(3, 1), (1, 2), (2, 3)] = [(1, 2), (2, 3), (3, 1)] := (sortE_of ((srtB_iff _).1 (by decide)) (by decide)).symm
theorem lvl3 : lvl 3 = 2 := lvl_uniq (by decide) (.inr (by decide))
theorem lvl5 : lvl 5 = 3 := lvl_uniq (by decide) (.inr (by decide))

end Go.Proofs.YtdcacbjmbfppeaaGreat

/- The contracts of blocks once more, all lengths and levels as letters: for the walks. -/
namespace Go.Proofs.YtdcacbjmbfppeaaGreat
open Go.RowKit Go.Lib Go.Sort
set_option linter.unusedVariables false

/-- A new block of level m that holds d, n of them. -/
def MadeN (w : World) (m n : Nat) (d : List Ent) (r : Ending) (w' : World) : Prop := ∃ a cap, r = .returned (.agg #[.int .i64 m, .slice a n cap]) ∧ IsL w' a cap d ∧ Below w.heap.size w w'
def MadeN2 (w : World) (m n : Nat) (c : List Ent) (k j : Nat) (d : List Ent) (r : Ending) (w' : World) : Prop :=
  ∃ a p b q, r = .returned (.tuple #[.agg #[.int .i64 m, .slice a n p], .agg #[.int .i64 k, .slice b j q]]) ∧ IsL w' a p c ∧ IsL w' b q d ∧ Below w.heap.size w w'
theorem MadeB.n {w w' : World} {d : List Ent} {r : Ending} (h : MadeB w d r w') {n m : Nat} (hn : d.length = n) (hm : lvl n = m) : MadeN w m n d r w' := by
  obtain ⟨a, cap, h1, h2, h3⟩ := h
  rw [hn, hm] at h1
  exact ⟨a, cap, h1, h2.is, h3⟩
variable {w : World} {a b : Option Addr} {p q : Nat} {c d e : List Ent}
theorem ofN {n m : Nat} (h : IsL w a p c) (hl : c.length = n) (hn : n ≤ 1000000) (hs : sortE c = d) (hm : lvl n = m) : Calls Tryz.prog 71 #[.slice a n p] w (MadeN w m n d) := by
  have := of_any a p c w h (by omega)
  rw [hl] at this
  exact this.mono fun r w' h => by rw [hs] at h; exact h.n (by rw [← hs, sortE_len, hl]) hm
theorem mergeN {i j : Int} {k n t m : Nat} (hc : IsL w a p c) (hd : IsL w b q d) (h1 : c.length = k) (h2 : d.length = n) (hn : k + n ≤ 1000000) (he : sortE (c ++ d) = e) (ht : k + n = t) (hm : lvl t = m) :
    Calls Tryz.prog 93 #[.agg #[.int .i64 i, .slice a k p], .agg #[.int .i64 j, .slice b n q]] w (MadeN w m t e) := by
  have := mergeB_any i j a b p q c d w hc hd (by omega)
  rw [h1, h2] at this
  exact this.mono fun r w' h => by rw [he] at h; exact h.n (by rw [← he, sortE_len, List.length_append, h1, h2, ht]) hm
theorem okN {n m : Nat} (h : IsL w a p d) (hs : Srt d) (hl : d.length = n) (hn : n ≤ 1000000) (hm : lvl n = m) :
    Calls Tryz.prog 111 #[.agg #[.int .i64 m, .slice a n p]] w fun e w' => e = .returned (.bool true) ∧ Below w.heap.size w w' := by
  have := okB_any a p d w h hs (by omega)
  rw [hl, hm] at this
  exact this
theorem sameN {k n : Nat} {B : Bool} (hc : IsL w a p c) (hd : IsL w b q d) (h1 : c.length = k) (h2 : d.length = n) (hB : decide (c = d) = B) :
    Calls Tryz.prog 53 #[.slice a k p, .slice b n q] w fun e w' => e = .returned (.bool B) ∧ Below w.heap.size w w' := by
  have := same_any a b p q c d w hc hd
  rw [h1, h2, hB] at this
  exact this.mono fun r w' h => ⟨h.1, h.2.below⟩
theorem Box2.on {S : Nat} {x y : Value} {w w' : World} (h : Box2 S x y w) (hw : Below w.heap.size w w') : Box2 S x y w' := h.below hw h.lt
/-- Its cells in every world that has grown. -/
theorem Box2.grows {S : Nat} {x y : Value} {w : World} (h : Box2 S x y w) (n : Nat) (os : Array Obj) : (grow (w.drewN n) os).cell? ⟨S, 0, none⟩ = some x ∧ (grow (w.drewN n) os).cell? ⟨S, 1, none⟩ = some y := by
  have := h.on (Grown.below ⟨n, os, rfl⟩)
  exact ⟨this.c0, this.c1⟩
theorem Box2.drews {S : Nat} {x y : Value} {w : World} (h : Box2 S x y w) (n : Nat) : (w.drewN n).cell? ⟨S, 0, none⟩ = some x ∧ (w.drewN n).cell? ⟨S, 1, none⟩ = some y := ⟨h.c0, h.c1⟩
end Go.Proofs.YtdcacbjmbfppeaaGreat

/- Slices of blocks; Pivot. -/
namespace Go.Proofs.YtdcacbjmbfppeaaGreat
open Go.RowKit Go.Lib Go.Sort
set_option linter.unusedVariables false

/-- A slice at a whose blocks hold these lists, whatever their levels say. -/
structure IsBs (w : World) (a : Option Addr) (ls : List (List Ent)) : Prop where
  len : ls.length ≤ 9223372036854775807
  elem : ∀ i d, ls[i]? = some d → ∃ b off p k m, a = some ⟨b, off, none⟩ ∧ b < w.heap.size ∧ w.cell? ⟨b, off + i * 2, none⟩ = some (.int .i64 m) ∧ w.cell? ⟨b, off + i * 2 + 1, none⟩ = some (.slice p d.length k) ∧ IsL w p k d
theorem IsBs.below {w w' : World} {a : Option Addr} {ls : List (List Ent)} (h : IsBs w a ls) (hw : Below w.heap.size w w') : IsBs w' a ls :=
  ⟨h.len, fun i d hd => by
    obtain ⟨b, off, p, k, m, e, hb, h1, h2, h3⟩ := h.elem i d hd
    exact ⟨b, off, p, k, m, e, by have := hw.size; omega, (hw.cell (p := ⟨b, off + i * 2, none⟩) hb).trans h1, (hw.cell (p := ⟨b, off + i * 2 + 1, none⟩) hb).trans h2, h3.below hw⟩⟩
theorem IsBs.nil (w : World) : IsBs w none [] := ⟨by simp, fun i d h => by simp at h⟩

/-- What Pivot tells: a list of the call's own. -/
def PivO (w : World) (K : Nat) (d : List Ent) (r : Ending) (w' : World) : Prop := ∃ a cap, r = .returned (.slice a K cap) ∧ OwnE w' w.heap.size (.slice a K cap) d ∧ Below w.heap.size w w'
theorem OwnE.take {w : World} {base n cap : Nat} {a : Option Addr} {d : List Ent} (h : OwnE w base (.slice a n cap) d) (k : Nat) (hk : k ≤ n) (hn : d.length = n) : OwnE w base (.slice a k cap) (d.take k) := by
  have e : (d.take k).length = k := by rw [List.length_take]; omega
  have hf : flat (d.take k) = (flat d).take (k * 2) := by
    conv => rhs; rw [← List.take_append_drop k d, flat_append]
    rw [List.take_append_of_le_length (by rw [flat_len, e]; omega)]
    exact (List.take_of_length_le (by rw [flat_len, e]; omega)).symm
  subst hn
  refine ⟨by rw [flat_len], ?_⟩
  rw [e]
  rcases h.2 with ⟨h1, h0⟩ | ⟨g, cap', cur, h1, hb, hg, hn, hc, hs, ht⟩
  · injection h1 with e1 e2 e3
    subst e1 e3
    have : k = 0 := by omega
    subst this
    exact .inl ⟨rfl, rfl⟩
  · injection h1 with e1 e2 e3
    subst e1 e3
    exact .inr ⟨g, cap, cur, rfl, hb, hg, by omega, hc, hs, by rw [hf, ← ht, List.take_take]; congr 1; omega⟩
/-- What Pivot tells. -/
def PivN (w : World) (K : Nat) (d : List Ent) (r : Ending) (w' : World) : Prop := ∃ a cap, r = .returned (.slice a K cap) ∧ IsL w' a cap d ∧ Below w.heap.size w w'

set_option maxHeartbeats 4000000 in
set_option maxRecDepth 100000 in
theorem pivotO_any (a : Option Addr) (cap : Nat) (ls : List (List Ent)) (n : Int) (w : World) (h : IsBs w a ls) (hd : ls.flatten.length ≤ 1000000) :
    Calls Tryz.prog 89 #[.slice a ls.length cap, .int .i64 n] w (PivO w (wth n ls.flatten.length) ((sortE ls.flatten).take (wth n ls.flatten.length))) := by
  have hl := h.len
  have H : Aside (IsBs w a ls) := h
  clear h
  go_enter Tryz.func89, Tryz.ntmps89
  go_wp2
  go_loopg [5, 10] ls.length (fun kx s5 s10 wr => ∃ (k n : Nat) (r : Option Addr) (t : Nat), s10 = .int .i64 k ∧ s5 = .slice r n t ∧ Hid ((ls.take k).flatten.length = n) ∧ k ≤ ls.length ∧ ls.length - k ≤ kx ∧ Aside (OwnE wr w.heap.size (.slice r n t) (ls.take k).flatten) ∧ Aside (Below w.heap.size w wr))
  case atStart => exact ⟨0, 0, none, 0, rfl, rfl, rfl, by omega, by omega, OwnE.nil w _, Below.refl _ _⟩
  case round =>
    obtain ⟨k, z, r, t, rfl, rfl, HN, hk, hkx, O, B⟩ := hrel
    by_cases hlt : k < ls.length
    · have hz : (k : Int) < (ls.length : Int) := by omega
      obtain ⟨b, off, p, q, m, rfl, hb, c0, c1, L⟩ := (H.out.below B.out).elem k ls[k] (List.getElem?_eq_getElem hlt)
      have e1 := flat_take hlt
      have e2 := flat_take_le ls (k + 1)
      obtain ⟨d, hdk⟩ : ∃ d, ls[k] = d := ⟨_, rfl⟩
      rw [hdk] at e1 c1 L
      have e3 : (ls.take k).flatten.length + d.length ≤ 1000000 := by rw [e1, List.length_append] at e2; omega
      have bv : Below wr.heap.size wr (wr.alloc (.cells #[.int .i64 m, .slice p d.length q] 110)) := (Below.refl _ _).alloc (Nat.le_refl _) _
      obtain ⟨v2, w2, hr, o2, g2⟩ := app_run (d := (ls.take k).flatten) (c := d) (O.out.below bv) (L.below bv) e3 (Nat.le_trans B.out.size bv.size) 45
      obtain ⟨r2, t2, rfl, _⟩ := o2.isL
      have B2 : Aside (Below w.heap.size w w2) := OwnE.grown (O.out.below bv) (B.out.trans (bv.mono B.out.size)) g2 (Nat.le_trans B.out.size bv.size)
      rw [← e1] at o2 hr
      obtain ⟨n2, hn2⟩ : ∃ n2, (ls.take (k + 1)).flatten.length = n2 := ⟨_, rfl⟩
      rw [hn2] at hr
      have O2 : Aside (OwnE w2 w.heap.size (.slice r2 n2 t2) (ls.take (k + 1)).flatten) := by rw [← hn2]; exact o2
      have HN2 : Hid _ := hn2
      clear o2 g2 e1 e2 e3 hdk hn2 L O B bv
      go_wp2_with (at_builtin; refine Lib.wpList_append_run (World.alloc wr _) rfl _ _ 45 45 rfl _ _ rfl rfl _ w2 hr ?_)
      go_roundg (ls.length - (k + 1))
      case measure => omega
      case rel => exact ⟨k + 1, n2, r2, t2, by go_num, rfl, HN2, by omega, Nat.le_refl _, O2, B2⟩
    · have hz : ¬ (k : Int) < (ls.length : Int) := by omega
      have e : (ls.take k).flatten = ls.flatten := by rw [List.take_of_length_le (by omega)]
      rw [e] at HN O
      have hz2 : z ≤ 1000000 := by have := HN.out; omega
      have so := sort_made r t ls.flatten wr O.out.is hd
      have wi := within_any n z (by omega)
      have k0 := wth_le n z
      rw [HN.out] at so
      obtain ⟨K, hK⟩ : ∃ K, wth n z = K := ⟨_, rfl⟩
      have HK : Hid _ := hK
      rw [hK] at wi k0
      have sl : (sortE ls.flatten).length = z := by rw [sortE_len, HN.out]
      have SL : Hid _ := sl
      have B0 := B.out.size
      clear e sl hK O
      go_wp2_with fail
      refine so.mono ?_
      rintro e w1 ⟨r1, t1, rfl, o1, b1⟩
      rw [SL.out] at o1 ⊢
      have t0 := o1.is.le
      have t3 := o1.is.big
      rw [SL.out] at t0
      unfold maxLen at t3
      have B1 : Aside (Below w.heap.size w w1) := B.out.trans (b1.mono B0)
      have O1 : Aside (OwnE w1 w.heap.size (.slice r1 K t1) ((sortE ls.flatten).take K)) := (o1.take K (by omega) SL.out).low B0
      have j1 : (K : Int) ≤ (t1 : Int) := by omega
      have j2 : (K : Int) ≤ (z : Int) := by omega
      have j3 : (0 : Int) ≤ (K : Int) := by omega
      clear o1 b1 so B
      go_wp2_with fail
      refine (wi _).mono ?_
      rintro e w2 ⟨rfl, rfl⟩
      go_wp2
      go_ret
      exact ⟨r1, t1, by rw [HN.out, HK.out]; rfl, by rw [HN.out, HK.out]; exact O1.out, B1.out⟩

theorem pivot_any (a : Option Addr) (cap : Nat) (ls : List (List Ent)) (n : Int) (w : World) (h : IsBs w a ls) (hd : ls.flatten.length ≤ 1000000) :
    Calls Tryz.prog 89 #[.slice a ls.length cap, .int .i64 n] w (PivN w (wth n ls.flatten.length) ((sortE ls.flatten).take (wth n ls.flatten.length))) :=
  (pivotO_any a cap ls n w h hd).mono fun r w' ⟨x, y, h1, h2, h3⟩ => ⟨x, y, h1, h2.is, h3⟩
theorem pivotN {w : World} {a : Option Addr} {cap : Nat} {ls : List (List Ent)} {n : Int} {k T K : Nat} {d : List Ent} (h : IsBs w a ls) (hk : ls.length = k) (hf : ls.flatten.length = T) (hT : T ≤ 1000000) (hK : wth n T = K) (hd : (sortE ls.flatten).take K = d) :
    Calls Tryz.prog 89 #[.slice a k cap, .int .i64 n] w (PivN w K d) := by
  have := pivot_any a cap ls n w h (by omega)
  rw [hk, hf, hK, hd] at this
  exact this
/-- A row of blocks that was laid. -/
theorem IsBs.of_block {W : World} {g : Nat} {cs : Array Value} {T : TypeId} {fr : Nat × Nat} {ls : List (List Ent)} (h : W.heap[g]? = some (.cells cs T fr)) (hl : ls.length ≤ 9223372036854775807)
    (he : ∀ (i : Nat) (d : List Ent), ls[i]? = some d → ∃ p k m, cs[i * 2]? = some (Value.int .i64 m) ∧ cs[i * 2 + 1]? = some (Value.slice p d.length k) ∧ IsL W p k d) : IsBs W (some ⟨g, 0, none⟩) ls :=
  ⟨hl, fun i d hd => by
    obtain ⟨p, k, m, h0, h1, h2⟩ := he i d hd
    exact ⟨g, 0, p, k, m, rfl, lt_of_block h, by rw [Nat.zero_add, cell_of_row _ _ _ cs T fr h]; exact h0, by rw [Nat.zero_add, cell_of_row _ _ _ cs T fr h]; exact h1, h2⟩⟩
theorem bs2 {w v : World} {m1 m2 : Int} {a b : Option Addr} {p q n1 n2 S : Nat} {c d : List Ent} {T : TypeId} (hv : w.alloc (.cells #[.int .i64 m1, .slice a n1 p, .int .i64 m2, .slice b n2 q] T) = v) (hS : w.heap.size = S) (hc : IsL v a p c) (hd : IsL v b q d) (h1 : c.length = n1) (h2 : d.length = n2) : IsBs v (some ⟨S, 0, none⟩) [c, d] := by
  refine IsBs.of_block (cs := #[.int .i64 m1, .slice a n1 p, .int .i64 m2, .slice b n2 q]) (T := T) (fr := (0, 0)) (by rw [← hv, ← hS]; exact heap_alloc_new w _) (by simp) (fun i z hz => ?_)
  have hi : i < 2 := by simpa using (List.getElem?_eq_some_iff.1 hz).1
  have : i = 0 ∨ i = 1 := by omega
  rcases this with rfl | rfl
  · simp at hz
    subst hz
    exact ⟨a, p, m1, rfl, by rw [h1]; rfl, hc⟩
  · simp at hz
    subst hz
    exact ⟨b, q, m2, rfl, by rw [h2]; rfl, hd⟩
theorem bs1 {w v : World} {m1 : Int} {a : Option Addr} {p n1 S : Nat} {c : List Ent} {T : TypeId} (hv : w.alloc (.cells #[.int .i64 m1, .slice a n1 p] T) = v) (hS : w.heap.size = S) (hc : IsL v a p c) (h1 : c.length = n1) : IsBs v (some ⟨S, 0, none⟩) [c] := by
  refine IsBs.of_block (cs := #[.int .i64 m1, .slice a n1 p]) (T := T) (fr := (0, 0)) (by rw [← hv, ← hS]; exact heap_alloc_new w _) (by simp) (fun i z hz => ?_)
  have hi : i < 1 := by simpa using (List.getElem?_eq_some_iff.1 hz).1
  obtain rfl : i = 0 := by omega
  simp at hz
  subst hz
  exact ⟨a, p, m1, rfl, by rw [h1]; rfl, hc⟩
end Go.Proofs.YtdcacbjmbfppeaaGreat
