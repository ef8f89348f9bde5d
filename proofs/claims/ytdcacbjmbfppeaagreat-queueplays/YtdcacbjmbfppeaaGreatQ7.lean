/- queue: Relaxed. -/
import Derived.Test.YtdcacbjmbfppeaaGreatQ6
namespace Go.Proofs.YtdcacbjmbfppeaaGreat
open Go.RowKit Go.Lib Go.Sort
set_option linter.unusedVariables false

/-- The shared one's Candidate, as a list. -/
def candL (s : QSt) (K dr : Nat) : List Ent := match (sortE s.hs.flatten)[dr % drawN K s.hs.flatten.length]? with
  | some x => if s.hs.flatten.length = 0 then [] else [x]
  | none => []
def own1 (s : QSt) (t : Nat) : List Ent := (sortE (s.ls t).flatten).take 1
def nearQ (s : QSt) (K t dr : Nat) : Option (Nat × Ent) := leastL [own1 s t, candL s K dr] 2
/-- What is Relaxed. -/
def relaxQ (s : QSt) (T K t dr : Nat) : Ent × Bool := if unb (nearQ s K t dr) then (unl (nearQ s K t dr), true) else headO (furtherL s T t)
theorem candO (w : World) (base : Nat) (A : QAd) (T K N : Nat) (s : QSt) (dr : Nat) (h : Que w base A T K s) (ok : QOk K T N s) (hN : N ≤ 1000) (hdr : dr < 18446744073709551616) :
    Calls Tryz.prog 51 #[ptr A.HB, .int .i64 K, .int .u64 dr] w (EntIs w (headO (candL s K dr)).1 (headO (candL s K dr)).2) := by
  obtain ⟨ra, sa, h⟩ := h
  by_cases c : s.hs.flatten.length = 0
  · have e : candL s K dr = [] := by
      unfold candL
      split
      · rw [if_pos c]
      · rfl
    rw [e]
    exact cand_none A.HB s.v s.hs K dr w h.shr.s c
  · have hl : dr % drawN K s.hs.flatten.length < (sortE s.hs.flatten).length := by
      rw [sortE_len]
      have h1 : 0 < drawN K s.hs.flatten.length := by unfold drawN; omega
      have h2 := Nat.mod_lt dr h1
      have h3 : drawN K s.hs.flatten.length ≤ s.hs.flatten.length := by unfold drawN; omega
      omega
    have e : candL s K dr = [(sortE s.hs.flatten)[dr % drawN K s.hs.flatten.length]] := by
      unfold candL
      rw [List.getElem?_eq_getElem hl]
      show (if s.hs.flatten.length = 0 then [] else _) = _
      rw [if_neg c]
    rw [e]
    exact cand_any A.HB s.v s.hs K dr w h.shr.s (by have := ok.hsum; omega) hdr (by omega) _ (List.getElem?_eq_getElem hl)
theorem slotL_head (d : List Ent) : slotL ⟨(headO d).1, 0, (headO d).2⟩ = d.take 1 := by
  cases d <;> rfl
theorem candL_take (s : QSt) (K dr : Nat) : (candL s K dr).take 1 = candL s K dr := by
  unfold candL
  split
  · split <;> rfl
  · rfl
theorem isLL_two {w : World} {g n1 n2 c1 c2 : Nat} {a1 a2 : Option Addr} {d1 d2 : List Ent} (hg : w.heap[g]? = some (.cells #[.slice a1 n1 c1, .slice a2 n2 c2] 45 (0, 0))) (h1 : d1.length = n1) (h2 : d2.length = n2) (l1 : IsL w a1 c1 d1) (l2 : IsL w a2 c2 d2) : IsLL w (some ⟨g, 0, none⟩) [d1, d2] := by
  refine ⟨by simp, fun i x hx => ?_⟩
  match i, hx with
  | 0, hx =>
    simp at hx
    subst hx
    exact ⟨g, 0, a1, c1, rfl, lt_of_block hg, by rw [h1, cell_of_row _ _ _ _ _ _ hg]; rfl, l1⟩
  | 1, hx =>
    simp at hx
    subst hx
    exact ⟨g, 0, a2, c2, rfl, lt_of_block hg, by rw [h2, cell_of_row _ _ _ _ _ _ hg]; rfl, l2⟩
  | i + 2, hx => simp at hx
/-- What the cut behind the two looks keeps. -/
def NearAt (S x1 : Nat) (e1 e2 : Int) (u wx : World) : Prop := Below u.heap.size u wx ∧ wx.heap[x1]? = some (.cells #[.int .u64 e1, .int .i64 e2] 34 (0, 0)) ∧ u.heap.size ≤ x1
theorem _root_.Go.RowKit.Below.box {b : Nat} {u w : World} (h : Below b u w) {G : Nat} (hG : b ≤ G) (x y : Value) : Below b u ((w.setCell ⟨G, 0, none⟩ x).setCell ⟨G, 1, none⟩ y) := (h.setCell hG _).setCell hG _

theorem _root_.Go.RowKit.Below.st {w v x : World} (h : Below w.heap.size w v) (g : Below v.heap.size v x) : Below w.heap.size w x := h.trans (g.mono h.size)
theorem _root_.Go.RowKit.Below.sta {w v x : World} {o : Obj} (h : Below w.heap.size w v) (g : Below (v.alloc o).heap.size (v.alloc o) x) : Below w.heap.size w x := (h.alloc h.size o).trans (g.mono (h.alloc h.size o).size)

set_option maxHeartbeats 8000000 in
set_option maxRecDepth 100000 in
theorem relaxed_in (w : World) (base : Nat) (A : QAd) (T K N : Nat) (s : QSt) (t dr : Nat) (h : Que w base A T K s) (ok : QOk K T N s) (hN : N ≤ 1000) (hK : K ≤ 16) (ht : t < T) (h8 : T ≤ 8) (hdr : dr < 18446744073709551616) :
    Calls Tryz.prog 18 #[ptr A.B, .int .i64 t, .int .u64 dr] w (EntIs w (relaxQ s T K t dr).1 (relaxQ s T K t dr).2) := by
  obtain ⟨S, hS⟩ : ∃ S, w.heap.size = S := ⟨_, rfl⟩
  obtain ⟨u, hu⟩ : ∃ u, w.alloc (.cells #[.int .u64 0, .int .i64 0] 34) = u := ⟨_, rfl⟩
  have bu : Below w.heap.size w u := by rw [← hu]; exact (Below.refl _ _).alloc (Nat.le_refl _) _
  have us : u.heap[S]? = some (.cells #[.int .u64 0, .int .i64 0] 34 (0, 0)) := by rw [← hu, ← hS]; exact heap_alloc_new w _
  have H : Aside (Que u base A T K s) := h.below bu
  have OK : Aside (QOk K T N s) := ok
  have KC : Aside (∀ W, Below u.heap.size u W → W.cell? ⟨A.B, 0, none⟩ = some (.int .i64 K) ∧ W.cell? ⟨A.B, 2, none⟩ = some (.slice (some ⟨A.OR, 0, none⟩) T A.oc) ∧ W.cell? ⟨A.B, 3, none⟩ = some (ptr A.HB) ∧ W.cell? ⟨A.OR, t, none⟩ = some (ptr (A.L t))) := fun W hW => by
    obtain ⟨ra, sa, q⟩ := H.out.below hW
    exact ⟨q.fix.cells.1, q.fix.cells.2.2.1, q.fix.cells.2.2.2.1, q.fix.own ht⟩
  have BU : Aside (Below w.heap.size w u) := bu
  have US : Aside (u.heap[S]? = some (.cells #[.int .u64 0, .int .i64 0] 34 (0, 0))) := us
  have HU : Hid _ := hu
  have HS : Hid _ := hS
  obtain ⟨c2, c3⟩ : w.cell? ⟨A.B, 2, none⟩ = some (.slice (some ⟨A.OR, 0, none⟩) T A.oc) ∧ A.B < w.heap.size := by
    obtain ⟨ra, sa, q⟩ := h
    exact ⟨q.fix.cells.2.2.1, q.fix.blt⟩
  have c3' : A.B < S := by omega
  have c3n : ¬ A.B = S := by omega
  have g1 : ¬ (t : Int) < 0 := by omega
  have g2 : (t : Int) < (T : Int) := by omega
  have g3 : ¬ (T : Int) ≤ (t : Int) := by omega
  obtain ⟨a1, ha1⟩ : ∃ x, (headO (sortE (s.ls t).flatten)).1.1 = x := ⟨_, rfl⟩
  obtain ⟨a2, ha2⟩ : ∃ x, (headO (sortE (s.ls t).flatten)).1.2 = x := ⟨_, rfl⟩
  obtain ⟨af, haf⟩ : ∃ x, (headO (sortE (s.ls t).flatten)).2 = x := ⟨_, rfl⟩
  obtain ⟨b1, hb1⟩ : ∃ x, (headO (candL s K dr)).1.1 = x := ⟨_, rfl⟩
  obtain ⟨b2, hb2⟩ : ∃ x, (headO (candL s K dr)).1.2 = x := ⟨_, rfl⟩
  obtain ⟨bf, hbf⟩ : ∃ x, (headO (candL s K dr)).2 = x := ⟨_, rfl⟩
  have MN : Aside (∀ W, Below u.heap.size u W → Calls Tryz.prog 50 #[ptr (A.L t)] W (EntIs W (a1, a2) af)) := fun W hW => by
    have := lminO W base A T K N s t (H.out.below hW) OK.out hK ht
    rw [haf, show (headO (sortE (s.ls t).flatten)).1 = (a1, a2) from Prod.ext ha1 ha2] at this
    exact this
  have CD : Aside (∀ W, Below u.heap.size u W → Calls Tryz.prog 51 #[ptr A.HB, .int .i64 K, .int .u64 dr] W (EntIs W (b1, b2) bf)) := fun W hW => by
    have := candO W base A T K N s dr (H.out.below hW) OK.out hN hdr
    rw [hbf, show (headO (candL s K dr)).1 = (b1, b2) from Prod.ext hb1 hb2] at this
    exact this
  obtain ⟨l1, hl1⟩ : ∃ l, own1 s t = l := ⟨_, rfl⟩
  obtain ⟨l2, hl2⟩ : ∃ l, candL s K dr = l := ⟨_, rfl⟩
  obtain ⟨n1, hn1⟩ : ∃ n, l1.length = n := ⟨_, rfl⟩
  obtain ⟨n2, hn2⟩ : ∃ n, l2.length = n := ⟨_, rfl⟩
  have L1 : Aside (∀ W, Calls Tryz.prog 49 #[.agg #[.int .u64 a1, .int .i64 a2], .bool af] W fun r w' => ∃ a cap, r = .returned (.slice a n1 cap) ∧ (∀ X, Below w'.heap.size w' X → IsL X a cap l1) ∧ Below W.heap.size W w') := fun W => by
    have := listOf_any ⟨(headO (sortE (s.ls t).flatten)).1, 0, (headO (sortE (s.ls t).flatten)).2⟩ W
    rw [slotL_head, show (sortE (s.ls t).flatten).take 1 = l1 from hl1] at this
    simp only [ha1, ha2, haf] at this
    refine this.mono fun r w' ⟨a, cap, r1, r2, r3⟩ => ?_
    exact ⟨a, cap, by rw [← hn1]; exact r1, fun X hX => r2.is.below hX, r3⟩
  have L2 : Aside (∀ W, Calls Tryz.prog 49 #[.agg #[.int .u64 b1, .int .i64 b2], .bool bf] W fun r w' => ∃ a cap, r = .returned (.slice a n2 cap) ∧ (∀ X, Below w'.heap.size w' X → IsL X a cap l2) ∧ Below W.heap.size W w') := fun W => by
    have := listOf_any ⟨(headO (candL s K dr)).1, 0, (headO (candL s K dr)).2⟩ W
    rw [slotL_head, candL_take, hl2] at this
    rw [hl2] at hb1 hb2 hbf
    simp only [hb1, hb2, hbf] at this
    refine this.mono fun r w' ⟨a, cap, r1, r2, r3⟩ => ?_
    exact ⟨a, cap, by rw [← hn2]; exact r1, fun X hX => r2.is.below hX, r3⟩
  obtain ⟨e1, he1⟩ : ∃ x, (unl (nearQ s K t dr)).1 = x := ⟨_, rfl⟩
  obtain ⟨e2, he2⟩ : ∃ x, (unl (nearQ s K t dr)).2 = x := ⟨_, rfl⟩
  obtain ⟨ej, hej⟩ : ∃ x, unj (nearQ s K t dr) = x := ⟨_, rfl⟩
  obtain ⟨ef, hef⟩ : ∃ x, unb (nearQ s K t dr) = x := ⟨_, rfl⟩
  have LE : Aside (∀ (W : World) (g : Nat) (p1 p2 : Option Addr) (q1 q2 : Nat), W.heap[g]? = some (.cells #[.slice p1 n1 q1, .slice p2 n2 q2] 45 (0, 0)) → IsL W p1 q1 l1 → IsL W p2 q2 l2 → Calls Tryz.prog 48 #[.slice (some ⟨g, 0, none⟩) 2 2] W fun r w' => r = .returned (.tuple #[.agg #[.int .u64 e1, .int .i64 e2], .int .i64 ej, .bool ef]) ∧ Below W.heap.size W w') := fun W g p1 p2 q1 q2 hg i1 i2 => by
    have := least_any (some ⟨g, 0, none⟩) 2 [l1, l2] W (isLL_two hg hn1 hn2 i1 i2)
    have e : leastL [l1, l2] 2 = nearQ s K t dr := by unfold nearQ; rw [hl1, hl2]
    refine this.mono fun r w' ⟨r1, r2⟩ => ⟨?_, r2⟩
    rw [r1]
    show _ = Ending.returned _
    simp only [List.length_cons, List.length_nil]
    rw [show (0 + 1 + 1 : Nat) = 2 from rfl, e, he1, he2, hej, hef]
  have E1 : Hid _ := he1
  have E2 : Hid _ := he2
  have EF : Hid _ := hef
  have hd0 : Below u.heap.size u u := Below.refl _ _
  have hd1 : Below u.heap.size u u.drew := hd0.drew
  have hd1a : Below u.heap.size u (u.drew.alloc (.cells #[.int .u64 0, .int .i64 0] 34)) := hd1.alloc hd1.size _
  have hd0a : Below u.heap.size u (u.alloc (.cells #[.int .u64 0, .int .i64 0] 34)) := hd0.alloc hd0.size _
  have hd1b : Below u.heap.size u (u.alloc (.cells #[.int .u64 0, .int .i64 0] 34)).drew := hd0a.drew
  obtain ⟨y1, y2, y3, y4⟩ := KC.out u hd0
  have t8 : T ≤ 8 := h8
  clear hu bu us h ok ha1 ha2 haf hb1 hb2 hbf hl1 hl2 hn1 hn2 he1 he2 hej hef
  have mx := mixed
  go_enter Tryz.func18, Tryz.ntmps18
  go_upto_region 3 with fail
  rw [HU.out]
  go_cut [8, 10] (fun s8 s10 wx => ∃ G : Nat, s8 = .pointer (some ⟨G, 0, none⟩) ∧ s10 = .bool ef ∧ NearAt S G e1 e2 u wx)
  case first =>
    go_region_held3 (fun W => W.cell? ⟨A.B, 0, none⟩ = some (.int .i64 K) ∧ W.cell? ⟨A.B, 2, none⟩ = some (.slice (some ⟨A.OR, 0, none⟩) T A.oc) ∧ W.cell? ⟨A.B, 3, none⟩ = some (ptr A.HB) ∧ W.cell? ⟨A.OR, t, none⟩ = some (ptr (A.L t))) (first | with_reducible exact KC.out _ hd0 | with_reducible exact KC.out _ hd1 | with_reducible exact KC.out _ hd1a | with_reducible exact KC.out _ hd0a | with_reducible exact KC.out _ hd1b | with_reducible exact KC.out _ hd2 | with_reducible exact KC.out _ (hd2.alloc hd2.size _) | with_reducible exact KC.out _ hd3 | with_reducible exact KC.out _ (hd3.alloc hd3.size _) | with_reducible exact KC.out _ hd4 | with_reducible exact KC.out _ (hd4.alloc hd4.size _) | with_reducible exact KC.out _ hd5 | with_reducible exact KC.out _ (hd5.alloc hd5.size _) | with_reducible exact KC.out _ hd6 | with_reducible exact KC.out _ (hd6.alloc hd6.size _) | with_reducible exact KC.out _ (hd6.box (by first | exact Nat.le_refl _ | exact hd1.size | exact hd2.size | exact hd3.size | exact hd4.size | exact hd5.size | (have := hd5.size; omega)) _ _) | with_reducible exact KC.out _ ((hd5.alloc hd5.size _).alloc (hd5.alloc hd5.size _).size _))
      ((first
        | (go_at_call 49; (first | ((with_reducible refine Calls.mono (L2.out w4) ?_); rintro r w5 ⟨p2, q2, rfl, k, d⟩; have hd5 : Below u.heap.size u w5 := hd4.st d; (try (have bx := (d.block _ (lt_of_block bx)).trans bx)); have k2 := k; have dd3 := dc3.st d) | ((with_reducible refine Calls.mono (L2.out (w4.alloc (.cells #[.int .u64 0, .int .i64 0] 34))) ?_); rintro r w5 ⟨p2, q2, rfl, k, d⟩; have hd5 : Below u.heap.size u w5 := hd4.sta d; have bx := (d.block w4.heap.size (by simp)).trans (heap_alloc_new w4 (.cells #[.int .u64 0, .int .i64 0] 34)); have k2 := k; have dd3 := dc3.sta d)))
        | (go_at_call 51; (first | ((with_reducible refine Calls.mono (CD.out w3 hd3) ?_); rintro r w4 ⟨rfl, d⟩; have hd4 : Below u.heap.size u w4 := hd3.st d; (try (have bx := (d.block _ (lt_of_block bx)).trans bx)); have dc3 := d) | ((with_reducible refine Calls.mono (CD.out (w3.alloc (.cells #[.int .u64 0, .int .i64 0] 34)) (hd3.alloc hd3.size _)) ?_); rintro r w4 ⟨rfl, d⟩; have hd4 : Below u.heap.size u w4 := hd3.sta d; have bx := (d.block w3.heap.size (by simp)).trans (heap_alloc_new w3 (.cells #[.int .u64 0, .int .i64 0] 34)); have dc3 := ((Below.refl w3.heap.size w3)).sta d)))
        | (go_at_call 49; (first | ((with_reducible refine Calls.mono (L1.out w2) ?_); rintro r w3 ⟨p1, q1, rfl, k, d⟩; have hd3 : Below u.heap.size u w3 := hd2.st d; (try (have bx := (d.block _ (lt_of_block bx)).trans bx)); have k1 := k) | ((with_reducible refine Calls.mono (L1.out (w2.alloc (.cells #[.int .u64 0, .int .i64 0] 34))) ?_); rintro r w3 ⟨p1, q1, rfl, k, d⟩; have hd3 : Below u.heap.size u w3 := hd2.sta d; have bx := (d.block w2.heap.size (by simp)).trans (heap_alloc_new w2 (.cells #[.int .u64 0, .int .i64 0] 34)); have k1 := k)))
        | (go_at_call 50; (first | ((with_reducible refine Calls.mono (MN.out u.drew hd1) ?_); rintro r w2 ⟨rfl, d⟩; have hd2 : Below u.heap.size u w2 := hd1.st d; (try (have bx := (d.block _ (lt_of_block bx)).trans bx))) | ((with_reducible refine Calls.mono (MN.out (u.drew.alloc (.cells #[.int .u64 0, .int .i64 0] 34)) (hd1.alloc hd1.size _)) ?_); rintro r w2 ⟨rfl, d⟩; have hd2 : Below u.heap.size u w2 := hd1.sta d; have bx := (d.block u.drew.heap.size (by simp)).trans (heap_alloc_new u.drew (.cells #[.int .u64 0, .int .i64 0] 34))) | ((with_reducible refine Calls.mono (MN.out (u.alloc (.cells #[.int .u64 0, .int .i64 0] 34)).drew hd1b) ?_); rintro r w2 ⟨rfl, d⟩; have hd2 : Below u.heap.size u w2 := hd1b.st d; have bx : w2.heap[u.heap.size]? = some (.cells #[.int .u64 0, .int .i64 0] 34 (0, 0)) := (d.block u.heap.size (by show u.heap.size < (u.alloc (.cells #[.int .u64 0, .int .i64 0] 34)).heap.size; simp)).trans (heap_alloc_new u (.cells #[.int .u64 0, .int .i64 0] 34)))))
        | (go_at_call 48; (first | ((with_reducible refine Calls.mono (LE.out (w5.alloc (.cells #[.slice p1 n1 q1, .slice p2 n2 q2] 45)) w5.heap.size p1 p2 q1 q2 (heap_alloc_new w5 (.cells #[.slice p1 n1 q1, .slice p2 n2 q2] 45)) (k1 _ (dd3.alloc dd3.size _)) (k2 _ ((Below.refl _ _).alloc (Nat.le_refl _) _))) ?_); rintro r w6 ⟨rfl, d⟩; have hd6 : Below u.heap.size u w6 := (hd5.alloc hd5.size (.cells #[.slice p1 n1 q1, .slice p2 n2 q2] 45)).st d; (try (have bx := (d.block _ (Nat.lt_of_lt_of_le (lt_of_block bx) (by simp))).trans ((heap_alloc_old w5 (.cells #[.slice p1 n1 q1, .slice p2 n2 q2] 45) (lt_of_block bx)).trans bx))); (try (have zq0 := (ent0 bx).1; have zq1 := (ent0 bx).2; have zq2 := entf bx 0; have zq3 := entf bx 1; have zq4 := lt_of_block bx))) | ((with_reducible refine Calls.mono (LE.out ((w5.alloc (.cells #[.int .u64 0, .int .i64 0] 34)).alloc (.cells #[.slice p1 n1 q1, .slice p2 n2 q2] 45)) (w5.heap.size + 1) p1 p2 q1 q2 (by have q := heap_alloc_new (w5.alloc (.cells #[.int .u64 0, .int .i64 0] 34)) (.cells #[.slice p1 n1 q1, .slice p2 n2 q2] 45); rw [show (w5.alloc (.cells #[.int .u64 0, .int .i64 0] 34)).heap.size = w5.heap.size + 1 by simp] at q; exact q) (k1 _ ((dd3.alloc dd3.size (.cells #[.int .u64 0, .int .i64 0] 34)).alloc (dd3.alloc dd3.size (.cells #[.int .u64 0, .int .i64 0] 34)).size (.cells #[.slice p1 n1 q1, .slice p2 n2 q2] 45))) (k2 _ (((Below.refl _ _).alloc (Nat.le_refl _) _).alloc (by simp) _))) ?_); rintro r w6 ⟨rfl, d⟩; have hd6 : Below u.heap.size u w6 := ((hd5.alloc hd5.size (.cells #[.int .u64 0, .int .i64 0] 34)).alloc (hd5.alloc hd5.size (.cells #[.int .u64 0, .int .i64 0] 34)).size (.cells #[.slice p1 n1 q1, .slice p2 n2 q2] 45)).st d; have bx := (d.block w5.heap.size (by simp <;> omega)).trans ((heap_alloc_old (w5.alloc (.cells #[.int .u64 0, .int .i64 0] 34)) (.cells #[.slice p1 n1 q1, .slice p2 n2 q2] 45) (by simp)).trans (heap_alloc_new w5 (.cells #[.int .u64 0, .int .i64 0] 34))); (try (have zq0 := (ent0 bx).1; have zq1 := (ent0 bx).2; have zq2 := entf bx 0; have zq3 := entf bx 1; have zq4 := lt_of_block bx))) | ((with_reducible refine Calls.mono (LE.out ((w5.alloc (.cells #[.slice p1 n1 q1, .slice p2 n2 q2] 45)).alloc (.cells #[.int .u64 0, .int .i64 0] 34)) w5.heap.size p1 p2 q1 q2 ((heap_alloc_old (w5.alloc (.cells #[.slice p1 n1 q1, .slice p2 n2 q2] 45)) (.cells #[.int .u64 0, .int .i64 0] 34) (by simp)).trans (heap_alloc_new w5 (.cells #[.slice p1 n1 q1, .slice p2 n2 q2] 45))) (k1 _ ((dd3.alloc dd3.size (.cells #[.slice p1 n1 q1, .slice p2 n2 q2] 45)).alloc (dd3.alloc dd3.size (.cells #[.slice p1 n1 q1, .slice p2 n2 q2] 45)).size (.cells #[.int .u64 0, .int .i64 0] 34))) (k2 _ (((Below.refl _ _).alloc (Nat.le_refl _) _).alloc (by simp) _))) ?_); rintro r w6 ⟨rfl, d⟩; have hd6 : Below u.heap.size u w6 := ((hd5.alloc hd5.size (.cells #[.slice p1 n1 q1, .slice p2 n2 q2] 45)).alloc (hd5.alloc hd5.size (.cells #[.slice p1 n1 q1, .slice p2 n2 q2] 45)).size (.cells #[.int .u64 0, .int .i64 0] 34)).st d; have bx : w6.heap[w5.heap.size + 1]? = some (.cells #[.int .u64 0, .int .i64 0] 34 (0, 0)) := (d.block (w5.heap.size + 1) (by simp <;> omega)).trans (by have q := heap_alloc_new (w5.alloc (.cells #[.slice p1 n1 q1, .slice p2 n2 q2] 45)) (.cells #[.int .u64 0, .int .i64 0] 34); rw [show (w5.alloc (.cells #[.slice p1 n1 q1, .slice p2 n2 q2] 45)).heap.size = w5.heap.size + 1 by simp] at q; exact q); (try (have zq0 := (ent0 bx).1; have zq1 := (ent0 bx).2; have zq2 := entf bx 0; have zq3 := entf bx 1; have zq4 := lt_of_block bx)))))))
    all_goals go_wp2_with fail
    all_goals go_meet
    all_goals first | exact ⟨_, rfl, rfl, hd6.alloc hd6.size _, heap_alloc_new w6 _, hd6.size⟩ | exact ⟨_, rfl, rfl, hd6.box (by first | exact Nat.le_refl _ | exact hd1.size | exact hd2.size | exact hd3.size | exact hd4.size | exact hd5.size | (have := hd5.size; omega)) _ _, entSet2 bx _ _, (by first | exact Nat.le_refl _ | exact hd1.size | exact hd2.size | exact hd3.size | exact hd4.size | exact hd5.size | (have := hd5.size; omega))⟩
  case rest =>
    obtain ⟨G, rfl, rfl, hx, gx, gu⟩ := hcut
    have s2 := (hx.block S (lt_of_block US.out)).trans US.out
    have GS : S < G := Nat.lt_of_lt_of_le (lt_of_block US.out) gu
    have nSG : ¬ S = G := by omega
    have nGS : ¬ G = S := by omega
    have Sl : S < wc.heap.size := lt_of_block s2
    have Gl : G < wc.heap.size := lt_of_block gx
    have DX : Aside (Below u.heap.size u wc) := hx
    have WX : Aside (Below w.heap.size w wc) := BU.out.trans (hx.mono BU.out.size)
    have y0 : wc.cell? ⟨S, 0, none⟩ = some (.int .u64 0) := (ent0 s2).1
    have y1 : wc.cell? ⟨S, 1, none⟩ = some (.int .i64 0) := (ent0 s2).2
    have z0 := entf s2 0
    have z1 := entf s2 1
    have k0 := (ent0 gx).1
    have k1 := (ent0 gx).2
    clear MN CD L1 L2 LE hd0 hd1 hd1a hd0a hd1b c2 c3 c3' c3n
    cases ef with
    | true =>
      have s3 := entSet2 s2 (.int .u64 e1) (.int .i64 e2)
      have FB : Aside (Below w.heap.size w ((wc.setCell ⟨S, 0, none⟩ (.int .u64 e1)).setCell ⟨S, 1, none⟩ (.int .i64 e2))) := below_box WX.out (by have := HS.out; omega) _ _
      have v0 := (ent0 s3).1
      have v1 := (ent0 s3).2
      have FE : Aside ((relaxQ s T K t dr).1.1 = e1 ∧ (relaxQ s T K t dr).1.2 = e2 ∧ (relaxQ s T K t dr).2 = true) := by
        unfold relaxQ
        rw [EF.out, if_pos rfl]
        exact ⟨E1.out, E2.out, rfl⟩
      clear s2 s3 gx hx
      go_wp2_with fail
      refine bodyPost_ret (v := .tuple #[.agg #[.int .u64 e1, .int .i64 e2], .bool true]) (by simp [results, Tryz.results18, go_sem, v0, v1]) rfl ⟨by rw [FE.out.1, FE.out.2.1, FE.out.2.2], FB.out⟩
    | false =>
      obtain ⟨x1, hx1⟩ : ∃ x, (headO (furtherL s T t)).1.1 = x := ⟨_, rfl⟩
      obtain ⟨x2, hx2⟩ : ∃ x, (headO (furtherL s T t)).1.2 = x := ⟨_, rfl⟩
      obtain ⟨f, hf⟩ : ∃ x, (headO (furtherL s T t)).2 = x := ⟨_, rfl⟩
      have fu := further_any wc base A T K N s t (H.out.below hx) OK.out hN hK ht h8
      unfold EntIs at fu
      rw [hx1, hx2, hf] at fu
      have FE : Aside ((relaxQ s T K t dr).1.1 = x1 ∧ (relaxQ s T K t dr).1.2 = x2 ∧ (relaxQ s T K t dr).2 = f) := by
        unfold relaxQ
        rw [EF.out, if_neg (by simp)]
        exact ⟨hx1, hx2, hf⟩
      have S2 : Aside (wc.heap[S]? = some (.cells #[.int .u64 0, .int .i64 0] 34 (0, 0))) := s2
      have GX : Aside (wc.heap[G]? = some (.cells #[.int .u64 e1, .int .i64 e2] 34 (0, 0))) := gx
      clear s2 gx hx hx1 hx2 hf y0 y1 z0 z1 k0 k1 Sl Gl
      go_wp2_with fail
      refine fu.mono ?_
      rintro r wd ⟨rfl, d⟩
      have s2 := (d.block S (lt_of_block S2.out)).trans S2.out
      have gx := (d.block G (lt_of_block GX.out)).trans GX.out
      have Sl : S < wd.heap.size := lt_of_block s2
      have Gl : G < wd.heap.size := lt_of_block gx
      have WD : Aside (Below w.heap.size w wd) := WX.out.trans (d.mono WX.out.size)
      have g3 := entSet2 gx (.int .u64 x1) (.int .i64 x2)
      have k0 := (ent0 gx).1
      have k1 := (ent0 gx).2
      have k2 := entf gx 0
      have k3 := entf gx 1
      obtain ⟨v, hv⟩ : ∃ v, (wd.setCell ⟨G, 0, none⟩ (.int .u64 x1)).setCell ⟨G, 1, none⟩ (.int .i64 x2) = v := ⟨_, rfl⟩
      have sv : v.heap[S]? = some (.cells #[.int .u64 0, .int .i64 0] 34 (0, 0)) := by
        rw [← hv]
        exact ((Below.heap_setCell _ ⟨G, 1, none⟩ _ S (by show S ≠ G; omega)).trans (Below.heap_setCell wd ⟨G, 0, none⟩ _ S (by show S ≠ G; omega))).trans s2
      rw [hv] at g3
      have WV : Aside (Below w.heap.size w v) := by rw [← hv]; exact below_box WD.out (by have := HS.out; omega) _ _
      have y0 : v.cell? ⟨S, 0, none⟩ = some (.int .u64 0) := (ent0 sv).1
      have y1 : v.cell? ⟨S, 1, none⟩ = some (.int .i64 0) := (ent0 sv).2
      have z0 := entf sv 0
      have z1 := entf sv 1
      have i0 := (ent0 g3).1
      have i1 := (ent0 g3).2
      have s3 := entSet2 sv (.int .u64 x1) (.int .i64 x2)
      have v0 := (ent0 s3).1
      have v1 := (ent0 s3).2
      have FB : Aside (Below w.heap.size w ((v.setCell ⟨S, 0, none⟩ (.int .u64 x1)).setCell ⟨S, 1, none⟩ (.int .i64 x2))) := below_box WV.out (by have := HS.out; omega) _ _
      have HV : Hid _ := hv
      clear s2 gx g3 sv s3 d fu hv
      go_upto_region 6 with fail
      rw [HV.out]
      go_wp2_with fail
      refine bodyPost_ret (v := .tuple #[.agg #[.int .u64 x1, .int .i64 x2], .bool f]) (by simp [results, Tryz.results18, go_sem, v0, v1]) rfl ⟨by rw [FE.out.1, FE.out.2.1, FE.out.2.2], FB.out⟩
end Go.Proofs.YtdcacbjmbfppeaaGreat
