/- Blocks: Merge, Cut. -/
import Derived.Test.YtboccihcomaaoaaBlkC
import Derived.Test.YtboccihcomaaoaaEntAwake
import Derived.Deep.RegionHeld3
namespace Go.Proofs.Ytboccihcomaaoaa
open Go.RowKit Go.Lib Go.Sort
set_option linter.unusedVariables false

/-- Two lists in a row that was laid for them. -/
theorem two_lists {w : World} {a b : Option Addr} {p q : Nat} {c d : List Ent} (hc : IsL w a p c) (hd : IsL w b q d) :
    IsLL (w.alloc (.cells #[.slice a c.length p, .slice b d.length q] 32)) (some ⟨w.heap.size, 0, none⟩) [c, d] := by
  have b1 : Below w.heap.size w (w.alloc (.cells #[.slice a c.length p, .slice b d.length q] 32)) := (Below.refl _ _).alloc (Nat.le_refl _) _
  refine IsLL.of_block (cs := #[.slice a c.length p, .slice b d.length q]) (T := 32) (fr := (0, 0)) (heap_alloc_new w _) (by simp) (fun i z hz => ?_)
  have hi : i < 2 := by simpa using (List.getElem?_eq_some_iff.1 hz).1
  have : i = 0 ∨ i = 1 := by omega
  rcases this with rfl | rfl
  · simp at hz
    subst hz
    exact ⟨a, p, rfl, hc.below b1⟩
  · simp at hz
    subst hz
    exact ⟨b, q, rfl, hd.below b1⟩

set_option maxHeartbeats 400000 in
theorem mergeB_any (i j : Int) (a b : Option Addr) (p q : Nat) (c d : List Ent) (w : World) (hc : IsL w a p c) (hd : IsL w b q d) (hl : c.length + d.length ≤ 1000000) :
    Calls Try.prog 53 #[.agg #[.int .i64 i, .slice a c.length p], .agg #[.int .i64 j, .slice b d.length q]] w (MadeB w (sortE (c ++ d))) := by
  obtain ⟨S, hS⟩ : ∃ S, w.heap.size = S := ⟨_, rfl⟩
  have HS : Hid _ := hS
  obtain ⟨u, hu⟩ : ∃ u, ((w.alloc (.cells #[.int .i64 i, .slice a c.length p] 34)).alloc (.cells #[.int .i64 j, .slice b d.length q] 34)).alloc (.cells #[.int .i64 0, .slice none 0 0] 34) = u := ⟨_, rfl⟩
  have HU : Hid _ := hu
  have b0 : Below S w u := by rw [← hu, ← hS]; exact (((Below.refl _ _).alloc (Nat.le_refl _) _).alloc (by simp) _).alloc (by simp; omega) _
  have su : u.heap.size = S + 3 := by rw [← hu, ← hS]; simp
  have x0 : Box2 (S + 2) (.int .i64 0) (.slice none 0 0) u := by
    rw [← hu, ← hS]
    have := Box2.new ((w.alloc (.cells #[.int .i64 i, .slice a c.length p] 34)).alloc (.cells #[.int .i64 j, .slice b d.length q] 34)) (.int .i64 0) (.slice none 0 0) 34
    simpa using this
  have k1 : u.cell? ⟨S, 1, none⟩ = some (.slice a c.length p) := by rw [← hu, ← hS]; exact (cells3 w _ _ _ _ _ _ 1).1
  have k2 : u.cell? ⟨S + 1, 1, none⟩ = some (.slice b d.length q) := by rw [← hu, ← hS]; exact (cells3 w _ _ _ _ _ _ 1).2.1
  have tl := two_lists (hc.below (by rw [hS]; exact b0)) (hd.below (by rw [hS]; exact b0))
  rw [su] at tl
  have con := concat_any _ 2 _ _ tl (by simpa using hl)
  simp only [List.length_cons, List.length_nil, List.flatten_cons, List.flatten_nil, List.append_nil, Nat.zero_add, Nat.reduceAdd] at con
  have B0 : Aside (Below S w u) := b0
  have X0 : Aside (Box2 (S + 2) (.int .i64 0) (.slice none 0 0) u) := x0
  have SU : Hid _ := su
  obtain ⟨n, hn⟩ : ∃ n, (c ++ d).length = n := ⟨_, rfl⟩
  have HN : Hid _ := hn
  have hn' : n ≤ 1000000 := by rw [← hn, List.length_append]; exact hl
  obtain ⟨U, hU⟩ : ∃ U, u.alloc (.cells #[.slice a c.length p, .slice b d.length q] 32) = U := ⟨_, rfl⟩
  have HUU : Hid _ := hU
  have bU : Aside (Below (S + 3) u U) := by rw [← hU]; exact (Below.refl _ _).alloc (by omega) _
  have sU : U.heap.size = S + 4 := by rw [← hU]; simp [su]
  rw [hU] at con
  have SUU : Hid _ := sU
  clear b0 x0 su hu tl hn hU sU hc hd hl
  go_enter Try.func53, Try.ntmps53
  go_wp2_with fail
  rw [HU.out, HUU.out]
  refine con.mono ?_
  rintro e w1 ⟨r, t, rfl, o1, b1⟩
  have ofa := of_any r t (c ++ d) w1 o1.is (by rw [HN.out]; exact hn')
  rw [HN.out] at ofa ⊢
  have B1 : Aside (Below (S + 3) u w1) := bU.out.trans (b1.mono (by rw [SUU.out]; omega))
  clear con o1 b1 bU
  go_wp2_with fail
  refine ofa.mono ?_
  rintro e w2 ⟨r2, t2, rfl, o2, b2⟩
  have sl : (sortE (c ++ d)).length = n := by rw [sortE_len, HN.out]
  have SL : Hid _ := sl
  rw [sl]
  have sz : S + 3 ≤ w1.heap.size := by have := B1.out.size; rw [SU.out] at this; exact this
  have B2 : Aside (Below (S + 3) u w2) := B1.out.trans (b2.mono sz)
  have x2 := X0.out.below B2.out (by omega)
  have q0 := x2.c0
  have q1 := x2.c1
  have q2 := x2.f0
  have q3 := x2.f1
  obtain ⟨m, hm⟩ : ∃ m, lvl n = m := ⟨_, rfl⟩
  have HM : Hid _ := hm
  rw [hm]
  have B3 : Aside (Below S w ((w2.setCell ⟨S + 2, 0, none⟩ (.int .i64 m)).setCell ⟨S + 2, 1, none⟩ (.slice r2 n t2))) :=
    ((B0.out.trans (B2.out.mono (by omega))).setCell (by show S ≤ S + 2; omega) _).setCell (by show S ≤ S + 2; omega) _
  have X3 : Aside (Box2 (S + 2) (.int .i64 m) (.slice r2 n t2) ((w2.setCell ⟨S + 2, 0, none⟩ (.int .i64 m)).setCell ⟨S + 2, 1, none⟩ (.slice r2 n t2))) := x2.set _ _
  have O3 : Aside (OwnE ((w2.setCell ⟨S + 2, 0, none⟩ (.int .i64 m)).setCell ⟨S + 2, 1, none⟩ (.slice r2 n t2)) S (.slice r2 (sortE (c ++ d)).length t2) (sortE (c ++ d))) :=
    ((o2.set (by show S + 2 < _; omega) _).set (by show S + 2 < _; omega) _).low (by omega)
  clear x2 o2 b2 ofa X0 B0 B1 B2 hm sl
  go_wp2
  generalize World.setCell _ _ _ = w3 at B3 X3 O3 ⊢
  have y0 := X3.out.c0
  have y1 := X3.out.c1
  refine bodyPost_ret (v := .agg #[.int .i64 m, .slice r2 n t2]) (by simp [results, Try.results53, go_sem, y0, y1]) rfl ⟨r2, t2, ?_, by rw [HS.out]; exact O3.out, by rw [HS.out]; exact B3.out⟩
  rw [SL.out, HM.out]
end Go.Proofs.Ytboccihcomaaoaa
