/- The row of what was read, in the heap; isKind, newRow, entryOf, Less, within, Phi, happensTo. -/
import Derived.Test.YtpcmdbpgplcnnaaBnM
import Derived.Deep.RegionHeld3
import Derived.Deep.LoopGhost
import Derived.Deep.Fields
import Derived.BigRegion
import Derived.Deep.DeepCutAuto
import Derived.Deep.CutBlock
namespace Go.Proofs.Ytpcmdbpgplcnnaa
open Go.RowKit Go.Lib Go.WideMaps Go.Maps
set_option linter.unusedVariables false
set_option maxRecDepth 10000

def wtV (x : WtR) : Value := .agg #[.int .u64 x.y, .int .i64 x.i, .int .i64 x.s]
def lkV (x : Int × Int) : Value := .agg #[.int .i64 x.1, .int .i64 x.2]
/-- It lies in the heap: its box at R, what is ready at L, the looks at M; at most c entries in each. -/
structure RowB (w : World) (R L M : Nat) (s : RwB) (c : Nat) : Prop where
  hb : w.heap[R]? = some (.cells #[.map (some L), .map (some M)] 51 (0, 0))
  ml : ∃ n, n ≤ c ∧ MapG keyI w L (fun i => (kget i s.S).map wtV) n
  mr : ∃ n, n ≤ c ∧ MapG keyI w M (fun i => (kget i s.K).map lkV) n
  ne : L ≠ M
  ks : Keys s.S
  kk : Keys s.K
section
variable {w w' : World} {R L M c : Nat} {s : RwB}
theorem RowB.lt (h : RowB w R L M s c) : R < w.heap.size ∧ L < w.heap.size ∧ M < w.heap.size := by
  obtain ⟨n, _, h1⟩ := h.ml
  obtain ⟨m, _, h2⟩ := h.mr
  exact ⟨lt_of_block h.hb, h1.lt, h2.lt⟩
theorem RowB.apart (h : RowB w R L M s c) : R ≠ L ∧ R ≠ M := by
  obtain ⟨n, _, h1⟩ := h.ml
  obtain ⟨m, _, h2⟩ := h.mr
  obtain ⟨e1, q1, h1⟩ := h1.isMap
  obtain ⟨e2, q2, h2⟩ := h2.isMap
  have hb := h.hb
  refine ⟨fun e => ?_, fun e => ?_⟩
  · subst e; rw [h1] at hb; cases hb
  · subst e; rw [h2] at hb; cases hb
theorem RowB.below (h : RowB w R L M s c) (hb : Below w.heap.size w w') : RowB w' R L M s c := by
  obtain ⟨l1, l2, l3⟩ := h.lt
  obtain ⟨n, a1, a2⟩ := h.ml
  obtain ⟨m, b1, b2⟩ := h.mr
  exact ⟨(hb.block R l1).trans h.hb, ⟨n, a1, a2.of_block (hb.block L l2)⟩, ⟨m, b1, b2.of_block (hb.block M l3)⟩, h.ne, h.ks, h.kk⟩
theorem RowB.drew (h : RowB w R L M s c) : RowB w.drew R L M s c := ⟨h.hb, h.ml, h.mr, h.ne, h.ks, h.kk⟩
theorem RowB.cells (h : RowB w R L M s c) : w.cell? ⟨R, 0, none⟩ = some (.map (some L)) ∧ w.cell? ⟨R, 1, none⟩ = some (.map (some M)) := by
  refine ⟨?_, ?_⟩ <;> rw [cell_of_row _ _ _ _ _ _ h.hb] <;> rfl
theorem zeroW (w : World) : (zeroValue 58).run Try.prog w = .ok (.agg #[.int .u64 0, .int .i64 0, .int .i64 0]) w := by kernel_rfl
theorem zeroL (w : World) : (zeroValue 53).run Try.prog w = .ok (.agg #[.int .i64 0, .int .i64 0]) w := by kernel_rfl
theorem RowB.look (h : RowB w R L M s c) {x : Int} (hx : wfI x) : (Instr.lookup 49 (.map (some M)) (.int .i64 x) true).run Try.prog w = .ok (.tuple #[((kget x s.K).map lkV).getD (.agg #[.int .i64 0, .int .i64 0]), .bool (kget x s.K).isSome]) w := by
  obtain ⟨n, hn, hm⟩ := h.mr
  have := hm.lookOk (t := 49) Try.underlying49 (zeroL w) (x := x) hx
  rw [Option.isSome_map] at this
  exact this
theorem RowB.lookS (h : RowB w R L M s c) {x : Int} (hx : wfI x) : (Instr.lookup 48 (.map (some L)) (.int .i64 x) true).run Try.prog w = .ok (.tuple #[((kget x s.S).map wtV).getD (.agg #[.int .u64 0, .int .i64 0, .int .i64 0]), .bool (kget x s.S).isSome]) w := by
  obtain ⟨n, hn, hm⟩ := h.ml
  have := hm.lookOk (t := 48) Try.underlying48 (zeroW w) (x := x) hx
  rw [Option.isSome_map] at this
  exact this
theorem fput_kput {α : Type} (enc : α → Value) (l : List (Int × α)) (x : Int) (v : α) : fput (fun i => (kget i l).map enc) x (enc v) = fun i => (kget i (kput x v l)).map enc := by
  funext a; unfold fput; rw [kget_put]; by_cases c : a = x <;> simp [c]
theorem fdel_kdel {α : Type} (enc : α → Value) (l : List (Int × α)) (x : Int) : fdel (fun i => (kget i l).map enc) x = fun i => (kget i (kdel x l)).map enc := by
  funext a; unfold fdel; rw [kget_del]; by_cases c : a = x <;> simp [c]
theorem RowB.setS (h : RowB w R L M s c) (hg : w.grownBy w' (some L)) {S' : List (Int × WtR)} (hk : Keys S') {n c' : Nat} (hm : MapG keyI w' L (fun i => (kget i S').map wtV) n) (hn : n ≤ c') (hc : c ≤ c') : RowB w' R L M { s with S := S' } c' := by
  obtain ⟨l1, l2, l3⟩ := h.lt
  obtain ⟨a1, a2⟩ := h.apart
  obtain ⟨m, hm1, hm2⟩ := h.mr
  exact ⟨(hg.block R l1 fun e => a1 (by injection e)).trans h.hb, ⟨n, hn, hm⟩, ⟨m, by omega, hm2.of_block (hg.block M l3 fun e => h.ne (by injection e with e; exact e.symm))⟩, h.ne, hk, h.kk⟩
theorem RowB.setK (h : RowB w R L M s c) (hg : w.grownBy w' (some M)) {K' : List (Int × (Int × Int))} (hk : Keys K') {n c' : Nat} (hm : MapG keyI w' M (fun i => (kget i K').map lkV) n) (hn : n ≤ c') (hc : c ≤ c') : RowB w' R L M { s with K := K' } c' := by
  obtain ⟨l1, l2, l3⟩ := h.lt
  obtain ⟨a1, a2⟩ := h.apart
  obtain ⟨m, hm1, hm2⟩ := h.ml
  exact ⟨(hg.block R l1 fun e => a2 (by injection e)).trans h.hb, ⟨m, by omega, hm2.of_block (hg.block L l2 fun e => h.ne (by injection e))⟩, ⟨n, hn, hm⟩, h.ne, h.ks, hk⟩
theorem RowB.putS (h : RowB w R L M s c) (hc : c ≤ 100000) {i : Int} (hi : wfI i) (x : WtR) : ∃ w', (Instr.mapUpdate 48 (.map (some L)) (.int .i64 i) (.agg #[.int .u64 x.y, .int .i64 x.i, .int .i64 x.s])).run Try.prog w = .ok () w' ∧ RowB w' R L M { s with S := kput i x s.S } (c + 1) ∧ w.grownBy w' (some L) := by
  obtain ⟨n, hn, hm⟩ := h.ml
  obtain ⟨w1, m, hr, hq, hmn, hg⟩ := hm.store (t := 48) Try.underlying48 (by omega) (x := i) hi (wtV x)
  rw [fput_kput] at hq
  exact ⟨w1, hr, h.setS hg (keys_put h.ks) hq (by rw [hmn]; split <;> omega) (by omega), hg⟩
theorem RowB.putK (h : RowB w R L M s c) (hc : c ≤ 100000) {i : Int} (hi : wfI i) (a j : Int) : ∃ w', (Instr.mapUpdate 49 (.map (some M)) (.int .i64 i) (.agg #[.int .i64 a, .int .i64 j])).run Try.prog w = .ok () w' ∧ RowB w' R L M { s with K := kput i (a, j) s.K } (c + 1) ∧ w.grownBy w' (some M) := by
  obtain ⟨n, hn, hm⟩ := h.mr
  obtain ⟨w1, m, hr, hq, hmn, hg⟩ := hm.store (t := 49) Try.underlying49 (by omega) (x := i) hi (lkV (a, j))
  rw [fput_kput] at hq
  exact ⟨w1, hr, h.setK hg (keys_put h.kk) hq (by rw [hmn]; split <;> omega) (by omega), hg⟩
theorem RowB.delS (h : RowB w R L M s c) {i : Int} (hi : wfI i) : ∃ w', (Builtin.delete_ #[48, 3] 0 #[.map (some L), .int .i64 i]).run Try.prog w = .ok (.tuple #[]) w' ∧ RowB w' R L M { s with S := kdel i s.S } c ∧ w.grownBy w' (some L) := by
  obtain ⟨n, hn, hm⟩ := h.ml
  obtain ⟨w1, m, hr, hq, hmn, hg⟩ := hm.del (t := 48) Try.underlying48 (x := i) hi 0
  rw [fdel_kdel] at hq
  exact ⟨w1, hr, h.setS hg (keys_del h.ks) hq (by omega) (Nat.le_refl _), hg⟩
theorem RowB.wide (h : RowB w R L M s c) {d : Nat} (hd : c ≤ d) : RowB w R L M s d := by
  obtain ⟨n, hn, hm⟩ := h.mr
  obtain ⟨m, hm', hl⟩ := h.ml
  exact ⟨h.hb, ⟨m, by omega, hl⟩, ⟨n, by omega, hm⟩, h.ne, h.ks, h.kk⟩
theorem EBx.grown {X : Nat} {e : EvR} {row : Nat} (h : EBx w X e) (hg : w.grownBy w' (some row)) (hx : X ≠ row) : EBx w' X e := by
  have hb := hg.block X h.lt (fun e => hx (by injection e))
  have hc : ∀ o, w'.cell? ⟨X, o, none⟩ = w.cell? ⟨X, o, none⟩ := fun o => World.cell?_of_block hb
  exact ⟨by have := hg.size; have := h.lt; omega, (hc 0).trans h.c0, (hc 1).trans h.c1, (hc 2).trans h.c2, (hc 3).trans h.c3, (hc 4).trans h.c4, (hc 5).trans h.c5⟩
end
/-! ## isKind, newRow, entryOf, Less, within, Phi, happensTo -/
section
variable {w : World} {a : Option Addr} {cap : Nat} {d : List EvR}
theorem isKind_yes (h : IsG rE w a cap d) {n : Nat} {e : EvR} (he : d[n]? = some e) (k : Int) : Calls Try.prog 15 #[.slice a d.length cap, .int .i64 n, .int .i64 k] w fun r w' => r = .returned (.bool (decide (e.k = k))) ∧ w' = w := by
  obtain ⟨b, off, rfl, hb, c0, c1, c2, c3, c4, c5⟩ := evAt h he
  have hn := (List.getElem?_eq_some_iff.1 he).1
  have h0 : (n : Int) ≥ 0 := by omega
  have h1 : (n : Int) < d.length := by omega
  go_enter Try.func15, Try.ntmps15
  go_wp2
  go_ret
  exact ⟨rfl, rfl⟩
theorem isKind_out {n : Int} (hn : n < 0 ∨ (d.length : Int) ≤ n) (k : Int) : Calls Try.prog 15 #[.slice a d.length cap, .int .i64 n, .int .i64 k] w fun r w' => r = .returned (.bool false) ∧ w' = w := by
  by_cases h0 : n ≥ 0
  · have h1 : ¬ n < d.length := by omega
    go_enter Try.func15, Try.ntmps15
    go_wp2
    go_ret
    exact ⟨rfl, rfl⟩
  · go_enter Try.func15, Try.ntmps15
    go_wp2
    go_ret
    exact ⟨rfl, rfl⟩
def NewIs (w w' : World) (r : Ending) : Prop := ∃ R L M, r = .returned (.pointer (some ⟨R, 0, none⟩)) ∧ RowB w' R L M rb0 0 ∧ Below w.heap.size w w' ∧ w.heap.size ≤ R ∧ w.heap.size ≤ L ∧ w.heap.size ≤ M
theorem makeL (w : World) : (Instr.makeMap 48 none).run Try.prog w = .ok (.map (some w.heap.size)) (w.alloc (.map #[] 0)) := by
  simp [Instr.makeMap, go_sem]
theorem makeR (w : World) : (Instr.makeMap 49 none).run Try.prog w = .ok (.map (some w.heap.size)) (w.alloc (.map #[] 0)) := by
  simp [Instr.makeMap, go_sem]
theorem makeI (w : World) : (Instr.makeMap 45 none).run Try.prog w = .ok (.map (some w.heap.size)) (w.alloc (.map #[] 0)) := by
  simp [Instr.makeMap, go_sem]
theorem newRow_any (w : World) : Calls Try.prog 16 #[] w fun r w' => NewIs w w' r := by
  have h1 := makeL
  have h2 := makeR
  obtain ⟨L, hL⟩ : ∃ L, w.heap.size = L := ⟨_, rfl⟩
  obtain ⟨u1, hu1⟩ : ∃ u, w.alloc (.map #[] 0) = u := ⟨_, rfl⟩
  obtain ⟨M, hM⟩ : ∃ L, u1.heap.size = L := ⟨_, rfl⟩
  obtain ⟨u2, hu2⟩ : ∃ u, u1.alloc (.map #[] 0) = u := ⟨_, rfl⟩
  obtain ⟨R, hR⟩ : ∃ L, u2.heap.size = L := ⟨_, rfl⟩
  obtain ⟨u3, hu3⟩ : ∃ u, u2.alloc (.cells #[.map (some L), .map (some M)] 51) = u := ⟨_, rfl⟩
  have b1 : Below w.heap.size w u1 := by rw [← hu1]; exact bel1 _ _
  have b2 : Below u1.heap.size u1 u2 := by rw [← hu2]; exact bel1 _ _
  have b3 : Below u2.heap.size u2 u3 := by rw [← hu3]; exact bel1 _ _
  have s1 : u1.heap.size = w.heap.size + 1 := by rw [← hu1, alloc_sz]
  have s2 : u2.heap.size = u1.heap.size + 1 := by rw [← hu2, alloc_sz]
  have m1 : MapG keyI u1 L (fun _ => none) 0 := by rw [← hu1, ← hL]; exact MapG.made keyI w
  have m2 : MapG keyI u2 M (fun _ => none) 0 := by rw [← hu2, ← hM]; exact MapG.made keyI u1
  have I : Aside (RowB u3 R L M rb0 0) := ⟨by rw [← hu3, ← hR]; exact heap_alloc_new u2 _, ⟨0, Nat.le_refl _, (m1.of_block (b2.block L (by omega))).of_block (b3.block L (by omega))⟩, ⟨0, Nat.le_refl _, m2.of_block (b3.block M (by omega))⟩, by omega, keys_nil, keys_nil⟩
  have B : Aside (Below w.heap.size w u3 ∧ w.heap.size ≤ R ∧ w.heap.size ≤ L ∧ w.heap.size ≤ M) := ⟨Below.tr (Below.tr b1 b2) b3, by omega, by omega, by omega⟩
  have H1 : Aside _ := hu1
  have H2 : Aside _ := hu2
  have H3 : Aside _ := hu3
  have H4 : Aside _ := hL
  have H5 : Aside _ := hM
  have H6 : Aside _ := hR
  have eM : w.heap.size + 1 = M := by omega
  have eR : w.heap.size + 1 + 1 = R := by omega
  have EM : Aside _ := eM
  have ER : Aside _ := eR
  clear hu1 hu2 hu3 hL hM hR b1 b2 b3 s1 s2 m1 m2 eM eR
  go_enter Try.func16, Try.ntmps16
  go_wp2
  go_ret
  have eW : ((w.alloc (.map #[] 0)).alloc (.map #[] 0)).alloc (.cells #[.map (some w.heap.size), .map (some (w.heap.size + 1))] 51) = u3 := by
    rw [EM.out, H4.out, H1.out, H2.out, H3.out]
  refine ⟨R, L, M, ?_, ?_⟩
  · show Ending.returned (.pointer (some ⟨w.heap.size + 1 + 1, 0, none⟩)) = _
    rw [ER.out]
  · rw [eW]
    exact ⟨I.out, B.out⟩
theorem entryOf_any (e : EvR) (w : World) : Calls Try.prog 24 #[evV e] w fun r w' => r = .returned (.agg #[.int .u64 e.y, .int .i64 e.i]) ∧ Below w.heap.size w w' := by
  unfold evV
  go_enter Try.func24, Try.ntmps24
  go_wp2
  have r0 := cell_fresh (w.alloc (.cells #[.int .i64 e.k, .int .i64 e.t, .int .i64 e.i, .int .u64 e.y, .int .u64 e.c, .int .u64 e.n] 25)) #[.int .u64 e.y, .int .i64 e.i] 55 0
  have r1 := cell_fresh (w.alloc (.cells #[.int .i64 e.k, .int .i64 e.t, .int .i64 e.i, .int .u64 e.y, .int .u64 e.c, .int .u64 e.n] 25)) #[.int .u64 e.y, .int .i64 e.i] 55 1
  rw [alloc_sz] at r0 r1
  refine bodyPost_ret (v := .agg #[.int .u64 e.y, .int .i64 e.i]) (by simp [results, Try.results24, go_sem, r0, r1]) rfl ⟨rfl, ?_⟩
  exact Below.tr (bel1 _ _) (bel1 _ _)
theorem less_any (y : Nat) (i : Int) (z : Nat) (j : Int) (w : World) : Calls Try.prog 25 #[.agg #[.int .u64 y, .int .i64 i], .agg #[.int .u64 z, .int .i64 j]] w fun r w' => r = .returned (.bool (ltB y i z j)) ∧ Below w.heap.size w w' := by
  unfold ltB
  by_cases h : y = z
  · subst h
    go_enter Try.func25, Try.ntmps25
    go_wp2
    go_ret
    exact ⟨by simp, Below.tr (bel1 _ _) (bel1 _ _)⟩
  · rw [if_neg h]
    have h' : ¬ (y : Int) = z := by omega
    go_enter Try.func25, Try.ntmps25
    go_wp2
    go_ret
    exact ⟨by simp, Below.tr (bel1 _ _) (bel1 _ _)⟩
theorem ret_int {k : IntKind} {a b : Int} (h : a = b) : Ending.returned (.int k a) = .returned (.int k b) := by rw [h]
def inB (n : Int) : Int := min (max n 0) 1000
theorem within_any (n : Int) (w : World) : Calls Try.prog 23 #[.int .i64 n] w fun e w' => e = .returned (.int .i64 (inB n)) ∧ w' = w := by
  unfold inB
  go_enter Try.func23, Try.ntmps23
  go_wp2 <;> (go_ret; exact ⟨ret_int (by omega), rfl⟩)
theorem inB_is (n : Int) : 0 ≤ inB n ∧ inB n ≤ 1000 := by unfold inB; omega
theorem phi_any (t n o : Int) (w : World) : Calls Try.prog 14 #[.int .i64 t, .int .i64 n, .int .i64 o] w fun e w' => e = .returned (.int .i64 (inB t * (inB n * (inB o + 5) + 5))) ∧ w' = w := by
  have p1 := within_any t w
  have p2 := within_any n w
  have p3 := within_any o w
  have l1 := inB_is t
  have l2 := inB_is n
  have l3 := inB_is o
  generalize inB t = x at *
  generalize inB n = y at *
  generalize inB o = z at *
  have q0 : 0 ≤ y * (z + 5) := Int.mul_nonneg (by omega) (by omega)
  have q1 : y * (z + 5) ≤ 1000 * 1005 := Int.mul_le_mul (by omega) (by omega) (by omega) (by omega)
  have q2 : 0 ≤ x * (y * (z + 5) + 5) := Int.mul_nonneg (by omega) (by omega)
  have q3 : x * (y * (z + 5) + 5) ≤ 1000 * (1000 * 1005 + 5) := Int.mul_le_mul (by omega) (by omega) (by omega) (by omega)
  have e1 : IntKind.i64.wrap (z + 5) = z + 5 := by rw [IntKind.wrap_i64]; omega
  have e2 : IntKind.i64.wrap (y * (z + 5)) = y * (z + 5) := by rw [IntKind.wrap_i64]; omega
  have e3 : IntKind.i64.wrap (y * (z + 5) + 5) = y * (z + 5) + 5 := by rw [IntKind.wrap_i64]; omega
  have e4 : IntKind.i64.wrap (x * (y * (z + 5) + 5)) = x * (y * (z + 5) + 5) := by rw [IntKind.wrap_i64]; omega
  clear l1 l2 l3 q0 q1 q2 q3
  go_enter Try.func14, Try.ntmps14
  go_wp2_with fail
  refine p1.mono ?_
  rintro e w1 ⟨rfl, rfl⟩
  go_wp2_with fail
  refine p2.mono ?_
  rintro e w1 ⟨rfl, rfl⟩
  go_wp2_with fail
  refine p3.mono ?_
  rintro e w1 ⟨rfl, rfl⟩
  go_wp2
  go_ret
  exact ⟨by first | rfl | simp only [e1, e2, e3, e4], rfl⟩
end
end Go.Proofs.Ytpcmdbpgplcnnaa
