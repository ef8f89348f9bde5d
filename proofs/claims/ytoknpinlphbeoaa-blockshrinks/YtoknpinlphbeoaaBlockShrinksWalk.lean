/- The walk of 'BlockShrinks'. -/
import Derived.Test.YtoknpinlphbeoaaBlkW
import Derived.Test.YtoknpinlphbeoaaMask
import Derived.BigRegion
import Derived.Deep.Cut
import Derived.Deep.CutRange
import Derived.Laws.EntriesVeiled
import Derived.Deep.RegionHeld3
namespace Go.Proofs.Ytoknpinlphbeoaa
open Go.RowKit Go.Lib Go.Sort
set_option linter.unusedVariables false

theorem le_of {a b c : Nat} (h : a ≤ b) (e : b = c) : a ≤ c := by omega
theorem box_at_ (w : World) (T : TypeId) {S : Nat} (h : w.heap.size = S) : Box2 S (.int .i64 0) (.slice none 0 0) (w.alloc (.cells #[.int .i64 0, .slice none 0 0] T)) := by
  rw [← h]; exact Box2.new _ _ _ _
/-- A new block of level m that holds d, n of them, in memory of its own. -/
def MadeO (w : World) (m n : Nat) (d : List Ent) (r : Ending) (w' : World) : Prop := ∃ a cap, r = .returned (.agg #[.int .i64 m, .slice a n cap]) ∧ OwnE w' w.heap.size (.slice a n cap) d ∧ Below w.heap.size w w'
theorem shrinkO {w : World} {i : Int} {a : Option Addr} {q : Nat} {d c : List Ent} {g : Nat} {cb : Array Value} {p : Int → Bool} {N n m : Nat} (h : IsL w a q d) (hl : d.length = N) (hN : N ≤ 100000) (eg : ∀ args w, (callFunc g args).run Try.prog w = .ok (.enter g args) w)
    (hg : ∀ id W, Below w.heap.size w W → Calls Try.prog g (#[.int .i64 id] ++ cb) W fun e w' => e = .returned (.bool (p id)) ∧ w' = W) (hc : sortE (keepL p d) = c) (hn : c.length = n) (hm : lvl n = m) :
    Calls Try.prog 18 #[.agg #[.int .i64 i, .slice a N q], .func (.func g) #[] cb] w (MadeO w m n c) := by
  have := shrink_any i a q d g cb p w h (by omega) eg (fun id W hW => (hg id W hW).mono fun e w' h => ⟨h.1, by rw [h.2]; exact Below.refl _ _⟩)
  rw [hl, hc] at this
  unfold MadeB at this
  rw [hn, hm] at this
  exact this

set_option maxHeartbeats 4000000 in
set_option maxRecDepth 100000 in
theorem blockShrinks_walk (a0 : Option Addr) (p0 : Nat) (l : List Ent) (a b : Int) (w : World) (h : IsL w a0 p0 l) (b1 : l.length ≤ 140737488355328) (ha : (Lit.int .i64 a).wf = true) (hb : (Lit.int .i64 b).wf = true) :
    Calls Try.prog 4 #[.slice a0 l.length p0, .int .i64 a, .int .i64 b] w fun r w' => r = .returned (.bool true) ∧ Below w.heap.size w w' := by
  have mx := mixed
  have hmf : ∀ (fn : Fn) (first cap : Array Value) (w : World), (Instr.makeFunc fn first cap).run Try.prog w = .ok (.func fn first cap) w := fun _ _ _ _ => rfl
  have L0 : Aside (IsL w a0 p0 l) := h
  obtain ⟨N, hN⟩ : ∃ N, l.length = N := ⟨_, rfl⟩
  have HN : Hid _ := hN
  rw [hN] at b1 ⊢
  have few := few_any a0 N p0 (by omega)
  clear h hN
  by_cases hf : N ≤ 120
  · rw [decide_eq_true hf] at few
    obtain ⟨s, hs⟩ : ∃ s, sortE l = s := ⟨_, rfl⟩
    obtain ⟨M, hM⟩ : ∃ M, lvl N = M := ⟨_, rfl⟩
    obtain ⟨Y, hY, Y0⟩ : ∃ Y, bits .and .i64 a 7 = Y ∧ 0 ≤ Y ∧ Y < 8 := ⟨_, mask_i64 a 3 7 8 (by omega) rfl rfl, by omega, by omega⟩
    obtain ⟨Z, hZ, Z0⟩ : ∃ Z, bits .and .i64 b 7 = Z ∧ 0 ≤ Z ∧ Z < 8 := ⟨_, mask_i64 b 3 7 8 (by omega) rfl rfl, by omega, by omega⟩
    obtain ⟨A, hA⟩ : ∃ A, Y + 2 = A := ⟨_, rfl⟩
    obtain ⟨C, hC⟩ : ∃ C, Z + 2 = C := ⟨_, rfl⟩
    have A2 : 2 ≤ A := by omega
    have C2 : 2 ≤ C := by omega
    obtain ⟨c1, hc1⟩ : ∃ c, keepL (mulB A) s = c := ⟨_, rfl⟩
    obtain ⟨c2, hc2⟩ : ∃ c, keepL (mulB C) c1 = c := ⟨_, rfl⟩
    obtain ⟨n1, hn1⟩ : ∃ n, c1.length = n := ⟨_, rfl⟩
    obtain ⟨n2, hn2⟩ : ∃ n, c2.length = n := ⟨_, rfl⟩
    obtain ⟨m1, hm1⟩ : ∃ n, lvl n1 = n := ⟨_, rfl⟩
    obtain ⟨m2, hm2⟩ : ∃ n, lvl n2 = n := ⟨_, rfl⟩
    obtain ⟨z, hz⟩ : ∃ z : Nat, z = 0 := ⟨0, rfl⟩
    have ss : Srt s := by rw [← hs]; exact sortE_srt l
    have sl : s.length = N := by rw [← hs, sortE_len, HN.out]
    have s1 : Srt c1 := by rw [← hc1]; exact keep_srt ss _
    have s2 : Srt c2 := by rw [← hc2]; exact keep_srt s1 _
    have l1 : n1 ≤ N := by rw [← hn1, ← hc1, ← sl]; exact keep_len _ _
    have F : Aside (sortE l = s ∧ lvl N = M ∧ s.length = N ∧ sortE (keepL (mulB A) s) = c1 ∧ c1.length = n1 ∧ lvl n1 = m1 ∧ sortE (keepL (mulB C) c1) = c2 ∧ c2.length = n2 ∧ lvl n2 = m2 ∧ sortE (keepL (fun id => mulB A id || mulB C id) s) = c2 ∧ sortE (keepL (fun _ => false) s) = s ∧ sortE (keepL (fun _ => true) s) = [] ∧ ([] : List Ent).length = z ∧ lvl z = z) :=
      ⟨hs, hM, sl, by rw [hc1, sortE_id s1], hn1, hm1, by rw [hc2, sortE_id s2], hn2, hm2, by rw [← keep_both, hc1, hc2, sortE_id s2], by rw [keep_none, sortE_id ss], by rw [keep_all]; exact sortE_id Srt.nil, by rw [hz]; rfl, by rw [hz]; exact lvl_zero (by omega)⟩
    have z1 : Hid ((z : Int) = 0) := by show _ = _; omega
    clear hs hM hc1 hc2 hn1 hn2 hm1 hm2 hz ss sl s1 s2 ha hb
    have E1 := enters_of Try.func16 (by kernel_rfl) rfl
    have E2 := enters_of Try.func17 (by kernel_rfl) rfl
    have E3 := enters_of Try.func19 (by kernel_rfl) rfl
    have E4 := enters_of Try.func20 (by kernel_rfl) rfl
    have E5 := enters_of Try.func21 (by kernel_rfl) rfl
    go_enter Try.func4, Try.ntmps4
    obtain ⟨S1, hS1⟩ : ∃ S, w.heap.size = S := ⟨_, rfl⟩
    obtain ⟨w1, hw1⟩ : ∃ v, (World.alloc (World.alloc w (.cells #[.int .i64 a] 3)) (.cells #[.int .i64 b] 3)) = v := ⟨_, rfl⟩
    have Hw1 : Hid _ := hw1
    have d1 : Below w.heap.size w w1 := by rw [← hw1]; exact ((Below.refl _ _).alloc (Nat.le_refl _) _).alloc (by simp) _
    have xa_1 : Box1 S1 (.int .i64 a) w1 := by
      have := (Box1.new w (.int .i64 a) 3).on ((Below.refl _ _).alloc (Nat.le_refl _) (.cells #[.int .i64 b] 3))
      rw [hw1] at this
      simpa [hS1] using this
    have Ya_1 : Aside (Box1 S1 (.int .i64 a) w1) := xa_1
    clear xa_1
    have xb_1 : Box1 (S1 + 1) (.int .i64 b) w1 := by
      have := Box1.new (World.alloc w (.cells #[.int .i64 a] 3)) (.int .i64 b) 3
      rw [hw1] at this
      simpa [hS1] using this
    have Yb_1 : Aside (Box1 (S1 + 1) (.int .i64 b) w1) := xb_1
    clear xb_1
    have D1 : Aside (Below w.heap.size w w1) := d1
    have L_1 : Aside (IsL w1 a0 p0 l) := L0.out.below d1
    clear L0
    clear hw1 d1
    go_wp2_with fail
    rw [Hw1.out]
    refine (few _).mono ?_
    rintro r w2 ⟨rfl, ew2⟩
    obtain rfl := ew2.symm
    go_wp2_with fail
    have ofa := of_any a0 p0 l w1 L_1.out (by rw [HN.out]; omega)
    unfold MadeB at ofa
    rw [HN.out, F.out.1, F.out.2.2.1, F.out.2.1] at ofa
    refine ofa.mono ?_
    rintro r w3 ⟨sa, sc, rfl, f3, d3⟩
    have D3 : Aside (Below w.heap.size w w3) := Below.trans D1.out (Below.mono d3 D1.out.size)
    have L_3 : Aside (IsL w3 a0 p0 l) := L_1.out.below d3
    have Ya_3 : Aside (Box1 S1 (.int .i64 a) w3) := Ya_1.out.on d3
    have Yb_3 : Aside (Box1 (S1 + 1) (.int .i64 b) w3) := Yb_1.out.on d3
    clear D1 L_1 Ya_1 Yb_1
    have O3 : Aside (OwnE w3 (S1 + 2) (.slice sa N sc) s) := by
      have z3 : w1.heap.size = S1 + 2 := by rw [← Hw1.out]; simp [hS1]
      rw [z3] at f3
      exact f3
    clear f3 d3 ofa L_3
    obtain ⟨S4, hS4⟩ : ∃ S, w3.heap.size = S := ⟨_, rfl⟩
    have ca0 := Ya_3.out.c0
    have cal : S1 < S4 := by have := Ya_3.out.lt; omega
    have cb0 := Yb_3.out.c0
    have cbl : (S1 + 1) < S4 := by have := Yb_3.out.lt; omega
    obtain ⟨w4, hw4⟩ : ∃ v, (World.alloc w3 (.cells #[.int .i64 M, .slice sa N sc] 26)) = v := ⟨_, rfl⟩
    have Hw4 : Hid _ := hw4
    have d4 : Below w3.heap.size w3 w4 := by rw [← hw4]; exact (Below.refl _ _).alloc (Nat.le_refl _) _
    have Xx_4 : Aside (Box2 S4 (.int .i64 M) (.slice sa N sc) w4) := by rw [← hw4, ← hS4]; exact Box2.new _ _ _ _
    have D4 : Aside (Below w.heap.size w w4) := Below.trans D3.out (Below.mono d4 D3.out.size)
    have Ya_4 : Aside (Box1 S1 (.int .i64 a) w4) := Ya_3.out.on d4
    have Yb_4 : Aside (Box1 (S1 + 1) (.int .i64 b) w4) := Yb_3.out.on d4
    clear D3 Ya_3 Yb_3
    clear hw4 d4
    have O4 : Aside (OwnE w4 (S1 + 2) (.slice sa N sc) s) := by
      rw [← Hw4.out]; exact O3.out.below ((Below.refl _ _).alloc (Nat.le_refl _) _)
    clear O3
    have ne1 : S1 + 1 < S4 := cbl
    go_wp2_with fail
    rw [Hw4.out]
    clear ca0 cal cb0 cbl
    have cx0 := Xx_4.out.c0
    have cx1 := Xx_4.out.c1
    have ca0 := Ya_4.out.c0
    have cb0 := Yb_4.out.c0
    have fa := Ya_4.out.f0
    have fb := Yb_4.out.f0
    go_region
    clear fa fb
    clear cx0 cx1 ca0 cb0
    have D5 : Aside (Below w.heap.size w ((w4.setCell ⟨S1, 0, none⟩ (.int .i64 A)).setCell ⟨S1 + 1, 0, none⟩ (.int .i64 C)).drew) := ((D4.out.setCell (by show w.heap.size ≤ S1; omega) _).setCell (by show w.heap.size ≤ S1 + 1; omega) _).drew
    have Ya_5 : Aside (Box1 S1 (.int .i64 A) ((w4.setCell ⟨S1, 0, none⟩ (.int .i64 A)).setCell ⟨S1 + 1, 0, none⟩ (.int .i64 C)).drew) := ((Ya_4.out.set (.int .i64 A)).other (by show S1 + 1 ≠ S1; omega) _).drew
    have Yb_5 : Aside (Box1 (S1 + 1) (.int .i64 C) ((w4.setCell ⟨S1, 0, none⟩ (.int .i64 A)).setCell ⟨S1 + 1, 0, none⟩ (.int .i64 C)).drew) := ((Yb_4.out.other (by show S1 ≠ S1 + 1; omega) _).set (.int .i64 C)).drew
    have Xx_5 : Aside (Box2 S4 (.int .i64 M) (.slice sa N sc) ((w4.setCell ⟨S1, 0, none⟩ (.int .i64 A)).setCell ⟨S1 + 1, 0, none⟩ (.int .i64 C)).drew) := ((Xx_4.out.other (by show S1 ≠ S4; omega) _).other (by show S1 + 1 ≠ S4; omega) _).drew
    have s_5 : Aside (IsL ((w4.setCell ⟨S1, 0, none⟩ (.int .i64 A)).setCell ⟨S1 + 1, 0, none⟩ (.int .i64 C)).drew sa sc s) := (OwnE.drewN ((O4.out.set (by show S1 < S1 + 2; omega) _).set (by show S1 + 1 < S1 + 2; omega) _) 1).is
    clear D4 Ya_4 Yb_4 Xx_4 O4
    generalize ((w4.setCell ⟨S1, 0, none⟩ (.int .i64 A)).setCell ⟨S1 + 1, 0, none⟩ (.int .i64 C)).drew = w5 at D5 Ya_5 Yb_5 Xx_5 s_5 ⊢
    obtain ⟨S6, hS6⟩ : ∃ S, w5.heap.size = S := ⟨_, rfl⟩
    have cx0 := Xx_5.out.c0
    have cx1 := Xx_5.out.c1
    have cxl : S4 < S6 := by have := Xx_5.out.lt; omega
    have ca0 := Ya_5.out.c0
    have cal : S1 < S6 := by have := Ya_5.out.lt; omega
    have cb0 := Yb_5.out.c0
    have cbl : (S1 + 1) < S6 := by have := Yb_5.out.lt; omega
    obtain ⟨w6, hw6⟩ : ∃ v, (World.alloc (World.alloc w5 (.cells #[.func (.func 16) #[] #[.pointer (some ⟨S1, 0, none⟩)]] 37)) (.cells #[.func (.func 17) #[] #[.pointer (some ⟨S1 + 1, 0, none⟩)]] 37)) = v := ⟨_, rfl⟩
    have Hw6 : Hid _ := hw6
    have d6 : Below w5.heap.size w5 w6 := by rw [← hw6]; exact ((Below.refl _ _).alloc (Nat.le_refl _) _).alloc (by simp) _
    have xone_6 : Box1 S6 (.func (.func 16) #[] #[.pointer (some ⟨S1, 0, none⟩)]) w6 := by
      have := (Box1.new w5 (.func (.func 16) #[] #[.pointer (some ⟨S1, 0, none⟩)]) 37).on ((Below.refl _ _).alloc (Nat.le_refl _) (.cells #[.func (.func 17) #[] #[.pointer (some ⟨S1 + 1, 0, none⟩)]] 37))
      rw [hw6] at this
      simpa [hS6] using this
    have Yone_6 : Aside (Box1 S6 (.func (.func 16) #[] #[.pointer (some ⟨S1, 0, none⟩)]) w6) := xone_6
    clear xone_6
    have xtwo_6 : Box1 (S6 + 1) (.func (.func 17) #[] #[.pointer (some ⟨S1 + 1, 0, none⟩)]) w6 := by
      have := Box1.new (World.alloc w5 (.cells #[.func (.func 16) #[] #[.pointer (some ⟨S1, 0, none⟩)]] 37)) (.func (.func 17) #[] #[.pointer (some ⟨S1 + 1, 0, none⟩)]) 37
      rw [hw6] at this
      simpa [hS6] using this
    have Ytwo_6 : Aside (Box1 (S6 + 1) (.func (.func 17) #[] #[.pointer (some ⟨S1 + 1, 0, none⟩)]) w6) := xtwo_6
    clear xtwo_6
    have D6 : Aside (Below w.heap.size w w6) := Below.trans D5.out (Below.mono d6 D5.out.size)
    have s_6 : Aside (IsL w6 sa sc s) := s_5.out.below d6
    have Xx_6 : Aside (Box2 S4 (.int .i64 M) (.slice sa N sc) w6) := Xx_5.out.on d6
    have Ya_6 : Aside (Box1 S1 (.int .i64 A) w6) := Ya_5.out.on d6
    have Yb_6 : Aside (Box1 (S1 + 1) (.int .i64 C) w6) := Yb_5.out.on d6
    clear D5 s_5 Xx_5 Ya_5 Yb_5
    clear hw6 d6
    go_upto_region 7 with fail
    rw [Hw6.out]
    clear cx0 cx1 cxl ca0 cal cb0 cbl
    obtain ⟨T6, hT6⟩ : ∃ T, w6.heap.size = T := ⟨_, rfl⟩
    have sh1 : ∀ W, Below w6.heap.size w6 W → Calls Try.prog 18 #[.agg #[.int .i64 M, .slice sa N sc], .func (.func 16) #[] #[.pointer (some ⟨S1, 0, none⟩)]] W (MadeO W m1 n1 c1) := fun W hW => shrinkO (p := mulB A) (s_6.out.below hW) F.out.2.2.1 (by omega) E1 (fun id V hV => one_any S1 A id (by omega) A2 V (((Ya_6.out.on hW).on hV).c0)) F.out.2.2.2.1 F.out.2.2.2.2.1 F.out.2.2.2.2.2.1
    have sh2 : ∀ W a p, Below w6.heap.size w6 W → IsL W a p c1 → Calls Try.prog 18 #[.agg #[.int .i64 m1, .slice a n1 p], .func (.func 17) #[] #[.pointer (some ⟨S1 + 1, 0, none⟩)]] W (MadeO W m2 n2 c2) := fun W a p hW hL => shrinkO (p := mulB C) hL F.out.2.2.2.2.1 (by omega) E2 (fun id V hV => two_any (S1 + 1) C id (by omega) C2 V (((Yb_6.out.on hW).on hV).c0)) F.out.2.2.2.2.2.2.1 F.out.2.2.2.2.2.2.2.1 F.out.2.2.2.2.2.2.2.2.1
    have KC : Aside (∀ v, Below w6.heap.size w6 v → v.cell? ⟨S4, 0, none⟩ = some (.int .i64 M) ∧ v.cell? ⟨S4, 1, none⟩ = some (.slice sa N sc) ∧ v.cell? ⟨S6, 0, none⟩ = some (.func (.func 16) #[] #[.pointer (some ⟨S1, 0, none⟩)]) ∧ v.cell? ⟨S6 + 1, 0, none⟩ = some (.func (.func 17) #[] #[.pointer (some ⟨S1 + 1, 0, none⟩)])) := fun v hv => ⟨(Xx_6.out.on hv).c0, (Xx_6.out.on hv).c1, (Yone_6.out.on hv).c0, (Ytwo_6.out.on hv).c0⟩
    have hb0 : Below w6.heap.size w6 w6 := Below.refl _ _
    have t6 : w6.heap.size ≤ T6 := by omega
    have hb1 : Below w6.heap.size w6 w6.drew := hb0.drew
    have hb2 : Below w6.heap.size w6 (w6.alloc (.cells #[.int .i64 0, .slice none 0 0] 26)) := hb0.alloc (Nat.le_refl _) _
    have hb3 : Below w6.heap.size w6 (w6.alloc (.cells #[.int .i64 0, .slice none 0 0] 26)).drew := hb2.drew
    have bx0 : Box2 T6 (.int .i64 0) (.slice none 0 0) (w6.alloc (.cells #[.int .i64 0, .slice none 0 0] 26)).drew := (box_at_ w6 26 hT6).drew
    obtain ⟨k1, k2, k3, k4⟩ := KC.out w6 hb0
    go_cut [10] from 28 to 32 (fun v wx => ∃ (T : Nat) (pa : Option Addr) (pc : Nat), v = .pointer (some ⟨T, 0, none⟩) ∧ Below w6.heap.size w6 wx ∧ Box2 T (.int .i64 m2) (.slice pa n2 pc) wx ∧ IsL wx pa pc c2)
    case first =>
      go_region_held3 (fun v => v.cell? ⟨S4, 0, none⟩ = some (.int .i64 M) ∧ v.cell? ⟨S4, 1, none⟩ = some (.slice sa N sc) ∧ v.cell? ⟨S6, 0, none⟩ = some (.func (.func 16) #[] #[.pointer (some ⟨S1, 0, none⟩)]) ∧ v.cell? ⟨S6 + 1, 0, none⟩ = some (.func (.func 17) #[] #[.pointer (some ⟨S1 + 1, 0, none⟩)])) (first | with_reducible exact KC.out _ hb0 | with_reducible exact KC.out _ hb1 | with_reducible exact KC.out _ hb2 | with_reducible exact KC.out _ hb3 | with_reducible exact KC.out _ hA | with_reducible exact KC.out _ hA2 | with_reducible exact KC.out _ hB | with_reducible exact KC.out _ hB2 | with_reducible exact KC.out _ (Below.alloc hB hB.size _) | with_reducible exact KC.out _ (Below.setCell (Below.setCell hB (p := ⟨T6, 0, none⟩) t6 _) (p := ⟨T6, 1, none⟩) t6 _) | with_reducible exact KC.out _ (Below.setCell (Below.setCell hB (p := ⟨TA, 0, none⟩) tA _) (p := ⟨TA, 1, none⟩) tA _))
        ((first | (go_at_call 18; (with_reducible refine Calls.mono (sh2 (wA.alloc (.cells #[.int .i64 0, .slice none 0 0] 26)) xa xc hA2 (lA.below ((Below.refl _ _).alloc (Nat.le_refl _) _))) ?_); rintro r wB ⟨ya, yc, rfl, oB, dB⟩; have hB : Below w6.heap.size w6 wB := hA2.trans (dB.mono hA2.size); have bxB := (bxA2.on dB); have q0 := bxB.c0; have q1 := bxB.c1; have q2 := bxB.f0; have q3 := bxB.f1) | (go_at_call 18; (with_reducible refine Calls.mono (sh2 wA xa xc hA lA) ?_); rintro r wB ⟨ya, yc, rfl, oB, dB⟩; have hB : Below w6.heap.size w6 wB := hA.trans (dB.mono hA.size); have bxB := bxA.on dB; have q0 := bxB.c0; have q1 := bxB.c1; have q2 := bxB.f0; have q3 := bxB.f1) | (go_at_call 18; (with_reducible refine Calls.mono (sh2 wA xa xc hA lA) ?_); rintro r wB ⟨ya, yc, rfl, oB, dB⟩; have hB : Below w6.heap.size w6 wB := hA.trans (dB.mono hA.size); have hB2 : Below w6.heap.size w6 (wB.alloc (.cells #[.int .i64 0, .slice none 0 0] 26)) := hB.alloc hB.size _) | (go_at_call 18; (with_reducible refine Calls.mono (sh1 w6.drew hb1) ?_); rintro r wA ⟨xa, xc, rfl, oA, dA⟩; have lA := oA.is; have hA : Below w6.heap.size w6 wA := hb1.trans (dA.mono hb1.size); have hA2 : Below w6.heap.size w6 (wA.alloc (.cells #[.int .i64 0, .slice none 0 0] 26)) := hA.alloc hA.size _; obtain ⟨TA, hTA⟩ : ∃ T, wA.heap.size = T := ⟨_, rfl⟩; have tA : w6.heap.size ≤ TA := le_of (hA.size) hTA; have bxA2 := box_at_ wA 26 hTA) | (go_at_call 18; (with_reducible refine Calls.mono (sh1 (w6.alloc (.cells #[.int .i64 0, .slice none 0 0] 26)).drew hb3) ?_); rintro r wA ⟨xa, xc, rfl, oA, dA⟩; have lA := oA.is; have hA : Below w6.heap.size w6 wA := hb3.trans (dA.mono hb3.size); have bxA := bx0.on dA)))
      all_goals go_wp2_with fail
      all_goals go_meet
      all_goals first | exact ⟨wB.heap.size, ya, yc, rfl, hB.alloc hB.size _, Box2.new _ _ _ _, oB.is.below ((Below.refl _ _).alloc (Nat.le_refl _) _)⟩ | exact ⟨T6, ya, yc, rfl, Below.setCell (Below.setCell hB (p := ⟨T6, 0, none⟩) t6 _) (p := ⟨T6, 1, none⟩) t6 _, bxB.set _ _, (OwnE.set (OwnE.set oB (p := ⟨T6, 0, none⟩) bxA.lt _) (p := ⟨T6, 1, none⟩) bxA.lt _).is⟩ | exact ⟨TA, ya, yc, rfl, Below.setCell (Below.setCell hB (p := ⟨TA, 0, none⟩) tA _) (p := ⟨TA, 1, none⟩) tA _, bxB.set _ _, (OwnE.set (OwnE.set oB (p := ⟨TA, 0, none⟩) bxA2.lt _) (p := ⟨TA, 1, none⟩) bxA2.lt _).is⟩
    case rest =>
      obtain ⟨T, pa, pc, rfl, hx, bx, lx⟩ := hcut
      clear sh1 sh2 KC hb0 hb1 hb2 hb3 t6 bx0 k1 k2 k3 k4 hT6
      have D7 : Aside (Below w.heap.size w wc) := Below.trans D6.out (Below.mono hx D6.out.size)
      have s_7 : Aside (IsL wc sa sc s) := s_6.out.below hx
      have Xx_7 : Aside (Box2 S4 (.int .i64 M) (.slice sa N sc) wc) := Xx_6.out.on hx
      have Ya_7 : Aside (Box1 S1 (.int .i64 A) wc) := Ya_6.out.on hx
      have Yb_7 : Aside (Box1 (S1 + 1) (.int .i64 C) wc) := Yb_6.out.on hx
      have Yone_7 : Aside (Box1 S6 (.func (.func 16) #[] #[.pointer (some ⟨S1, 0, none⟩)]) wc) := Yone_6.out.on hx
      have Ytwo_7 : Aside (Box1 (S6 + 1) (.func (.func 17) #[] #[.pointer (some ⟨S1 + 1, 0, none⟩)]) wc) := Ytwo_6.out.on hx
      clear D6 s_6 Xx_6 Ya_6 Yb_6 Yone_6 Ytwo_6
      have Xp_7 : Aside (Box2 T (.int .i64 m2) (.slice pa n2 pc) wc) := bx
      have p_7 : Aside (IsL wc pa pc c2) := lx
      clear hx bx lx
      have hg3 : ∀ id W, Below wc.heap.size wc W → Calls Try.prog 19 (#[.int .i64 id] ++ #[.pointer (some ⟨S6, 0, none⟩), .pointer (some ⟨S6 + 1, 0, none⟩)]) W fun e w' => e = .returned (.bool (mulB A id || mulB C id)) ∧ Below W.heap.size W w' := fun id V hV => by
        have h := three_any S1 (S1 + 1) S6 (S6 + 1) A C id A2 C2 V ((Ya_7.out.on hV).c0) ((Yb_7.out.on hV).c0) ((Yone_7.out.on hV).c0) ((Ytwo_7.out.on hV).c0)
        exact h.mono fun e w' h => ⟨h.1, by rw [h.2]; exact Below.refl _ _⟩
      have cx0 := Xx_7.out.c0
      have cx1 := Xx_7.out.c1
      have cp0 := Xp_7.out.c0
      have cp1 := Xp_7.out.c1
      have ca0 := Ya_7.out.c0
      have cb0 := Yb_7.out.c0
      have cone0 := Yone_7.out.c0
      have ctwo0 := Ytwo_7.out.c0
      go_wp2_with fail
      refine (shrinkN (p := fun id => mulB A id || mulB C id) s_7.out F.out.2.2.1 (by omega) E3 hg3 F.out.2.2.2.2.2.2.2.2.2.1 F.out.2.2.2.2.2.2.2.1 F.out.2.2.2.2.2.2.2.2.1).mono ?_
      rintro r w8 ⟨qa, qc, rfl, f8, d8⟩
      clear cx0 cx1 cp0 cp1 ca0 cb0 cone0 ctwo0
      have D8 : Aside (Below w.heap.size w w8) := Below.trans D7.out (Below.mono d8 D7.out.size)
      have s_8 : Aside (IsL w8 sa sc s) := s_7.out.below d8
      have p_8 : Aside (IsL w8 pa pc c2) := p_7.out.below d8
      have Xx_8 : Aside (Box2 S4 (.int .i64 M) (.slice sa N sc) w8) := Xx_7.out.on d8
      have Xp_8 : Aside (Box2 T (.int .i64 m2) (.slice pa n2 pc) w8) := Xp_7.out.on d8
      have Ya_8 : Aside (Box1 S1 (.int .i64 A) w8) := Ya_7.out.on d8
      have Yb_8 : Aside (Box1 (S1 + 1) (.int .i64 C) w8) := Yb_7.out.on d8
      have Yone_8 : Aside (Box1 S6 (.func (.func 16) #[] #[.pointer (some ⟨S1, 0, none⟩)]) w8) := Yone_7.out.on d8
      have Ytwo_8 : Aside (Box1 (S6 + 1) (.func (.func 17) #[] #[.pointer (some ⟨S1 + 1, 0, none⟩)]) w8) := Ytwo_7.out.on d8
      clear D7 s_7 p_7 Xx_7 Xp_7 Ya_7 Yb_7 Yone_7 Ytwo_7
      have q_8 : Aside (IsL w8 qa qc c2) := f8
      clear f8 d8
      clear hg3
      clear Ya_8
      clear Yb_8
      clear Yone_8
      clear Ytwo_8
      obtain ⟨S9, hS9⟩ : ∃ S, w8.heap.size = S := ⟨_, rfl⟩
      have cx0 := Xx_8.out.c0
      have cx1 := Xx_8.out.c1
      have cxl : S4 < S9 := by have := Xx_8.out.lt; omega
      have cp0 := Xp_8.out.c0
      have cp1 := Xp_8.out.c1
      have cpl : T < S9 := by have := Xp_8.out.lt; omega
      obtain ⟨w9, hw9⟩ : ∃ v, (World.alloc w8 (.cells #[.int .i64 m2, .slice qa n2 qc] 26)) = v := ⟨_, rfl⟩
      have Hw9 : Hid _ := hw9
      have d9 : Below w8.heap.size w8 w9 := by rw [← hw9]; exact (Below.refl _ _).alloc (Nat.le_refl _) _
      have Xq_9 : Aside (Box2 S9 (.int .i64 m2) (.slice qa n2 qc) w9) := by rw [← hw9, ← hS9]; exact Box2.new _ _ _ _
      have D9 : Aside (Below w.heap.size w w9) := Below.trans D8.out (Below.mono d9 D8.out.size)
      have s_9 : Aside (IsL w9 sa sc s) := s_8.out.below d9
      have p_9 : Aside (IsL w9 pa pc c2) := p_8.out.below d9
      have q_9 : Aside (IsL w9 qa qc c2) := q_8.out.below d9
      have Xx_9 : Aside (Box2 S4 (.int .i64 M) (.slice sa N sc) w9) := Xx_8.out.on d9
      have Xp_9 : Aside (Box2 T (.int .i64 m2) (.slice pa n2 pc) w9) := Xp_8.out.on d9
      clear D8 s_8 p_8 q_8 Xx_8 Xp_8
      clear hw9 d9
      have hg4 : ∀ id W, Below w9.heap.size w9 W → Calls Try.prog 20 (#[.int .i64 id] ++ #[]) W fun e w' => e = .returned (.bool (false)) ∧ Below W.heap.size W w' := fun id V hV => by
        have h := four_any id V
        exact h.mono fun e w' h => ⟨h.1, by rw [h.2]; exact Below.refl _ _⟩
      go_wp2_with fail
      rw [Hw9.out]
      refine (shrinkN (p := fun _ => false) s_9.out F.out.2.2.1 (by omega) E4 hg4 F.out.2.2.2.2.2.2.2.2.2.2.1 F.out.2.2.1 F.out.2.1).mono ?_
      rintro r w10 ⟨oa, oc, rfl, f10, d10⟩
      clear cx0 cx1 cxl cp0 cp1 cpl
      have D10 : Aside (Below w.heap.size w w10) := Below.trans D9.out (Below.mono d10 D9.out.size)
      have s_10 : Aside (IsL w10 sa sc s) := s_9.out.below d10
      have p_10 : Aside (IsL w10 pa pc c2) := p_9.out.below d10
      have q_10 : Aside (IsL w10 qa qc c2) := q_9.out.below d10
      have Xx_10 : Aside (Box2 S4 (.int .i64 M) (.slice sa N sc) w10) := Xx_9.out.on d10
      have Xp_10 : Aside (Box2 T (.int .i64 m2) (.slice pa n2 pc) w10) := Xp_9.out.on d10
      have Xq_10 : Aside (Box2 S9 (.int .i64 m2) (.slice qa n2 qc) w10) := Xq_9.out.on d10
      clear D9 s_9 p_9 q_9 Xx_9 Xp_9 Xq_9
      have o_10 : Aside (IsL w10 oa oc s) := f10
      clear f10 d10
      clear hg4
      obtain ⟨S11, hS11⟩ : ∃ S, w10.heap.size = S := ⟨_, rfl⟩
      have cx0 := Xx_10.out.c0
      have cx1 := Xx_10.out.c1
      have cxl : S4 < S11 := by have := Xx_10.out.lt; omega
      have cp0 := Xp_10.out.c0
      have cp1 := Xp_10.out.c1
      have cpl : T < S11 := by have := Xp_10.out.lt; omega
      have cq0 := Xq_10.out.c0
      have cq1 := Xq_10.out.c1
      have cql : S9 < S11 := by have := Xq_10.out.lt; omega
      obtain ⟨w11, hw11⟩ : ∃ v, (World.alloc w10 (.cells #[.int .i64 M, .slice oa N oc] 26)) = v := ⟨_, rfl⟩
      have Hw11 : Hid _ := hw11
      have d11 : Below w10.heap.size w10 w11 := by rw [← hw11]; exact (Below.refl _ _).alloc (Nat.le_refl _) _
      have Xo_11 : Aside (Box2 S11 (.int .i64 M) (.slice oa N oc) w11) := by rw [← hw11, ← hS11]; exact Box2.new _ _ _ _
      have D11 : Aside (Below w.heap.size w w11) := Below.trans D10.out (Below.mono d11 D10.out.size)
      have s_11 : Aside (IsL w11 sa sc s) := s_10.out.below d11
      have p_11 : Aside (IsL w11 pa pc c2) := p_10.out.below d11
      have q_11 : Aside (IsL w11 qa qc c2) := q_10.out.below d11
      have o_11 : Aside (IsL w11 oa oc s) := o_10.out.below d11
      have Xx_11 : Aside (Box2 S4 (.int .i64 M) (.slice sa N sc) w11) := Xx_10.out.on d11
      have Xp_11 : Aside (Box2 T (.int .i64 m2) (.slice pa n2 pc) w11) := Xp_10.out.on d11
      have Xq_11 : Aside (Box2 S9 (.int .i64 m2) (.slice qa n2 qc) w11) := Xq_10.out.on d11
      clear D10 s_10 p_10 q_10 o_10 Xx_10 Xp_10 Xq_10
      clear hw11 d11
      have hg5 : ∀ id W, Below w11.heap.size w11 W → Calls Try.prog 21 (#[.int .i64 id] ++ #[]) W fun e w' => e = .returned (.bool (true)) ∧ Below W.heap.size W w' := fun id V hV => by
        have h := five_any id V
        exact h.mono fun e w' h => ⟨h.1, by rw [h.2]; exact Below.refl _ _⟩
      go_wp2_with fail
      rw [Hw11.out]
      refine (shrinkN (p := fun _ => true) s_11.out F.out.2.2.1 (by omega) E5 hg5 F.out.2.2.2.2.2.2.2.2.2.2.2.1 F.out.2.2.2.2.2.2.2.2.2.2.2.2.1 F.out.2.2.2.2.2.2.2.2.2.2.2.2.2).mono ?_
      rintro r w12 ⟨ta, tc, rfl, f12, d12⟩
      clear cx0 cx1 cxl cp0 cp1 cpl cq0 cq1 cql
      have D12 : Aside (Below w.heap.size w w12) := Below.trans D11.out (Below.mono d12 D11.out.size)
      have s_12 : Aside (IsL w12 sa sc s) := s_11.out.below d12
      have p_12 : Aside (IsL w12 pa pc c2) := p_11.out.below d12
      have q_12 : Aside (IsL w12 qa qc c2) := q_11.out.below d12
      have o_12 : Aside (IsL w12 oa oc s) := o_11.out.below d12
      have Xx_12 : Aside (Box2 S4 (.int .i64 M) (.slice sa N sc) w12) := Xx_11.out.on d12
      have Xp_12 : Aside (Box2 T (.int .i64 m2) (.slice pa n2 pc) w12) := Xp_11.out.on d12
      have Xq_12 : Aside (Box2 S9 (.int .i64 m2) (.slice qa n2 qc) w12) := Xq_11.out.on d12
      have Xo_12 : Aside (Box2 S11 (.int .i64 M) (.slice oa N oc) w12) := Xo_11.out.on d12
      clear D11 s_11 p_11 q_11 o_11 Xx_11 Xp_11 Xq_11 Xo_11
      have t_12 : Aside (IsL w12 ta tc ([] : List Ent)) := f12
      clear f12 d12
      clear hg5
      obtain ⟨S13, hS13⟩ : ∃ S, w12.heap.size = S := ⟨_, rfl⟩
      have cx0 := Xx_12.out.c0
      have cx1 := Xx_12.out.c1
      have cxl : S4 < S13 := by have := Xx_12.out.lt; omega
      have cp0 := Xp_12.out.c0
      have cp1 := Xp_12.out.c1
      have cpl : T < S13 := by have := Xp_12.out.lt; omega
      have cq0 := Xq_12.out.c0
      have cq1 := Xq_12.out.c1
      have cql : S9 < S13 := by have := Xq_12.out.lt; omega
      have co0 := Xo_12.out.c0
      have co1 := Xo_12.out.c1
      have col : S11 < S13 := by have := Xo_12.out.lt; omega
      obtain ⟨w13, hw13⟩ : ∃ v, (World.alloc w12 (.cells #[.int .i64 z, .slice ta z tc] 26)) = v := ⟨_, rfl⟩
      have Hw13 : Hid _ := hw13
      have d13 : Below w12.heap.size w12 w13 := by rw [← hw13]; exact (Below.refl _ _).alloc (Nat.le_refl _) _
      have Xt_13 : Aside (Box2 S13 (.int .i64 z) (.slice ta z tc) w13) := by rw [← hw13, ← hS13]; exact Box2.new _ _ _ _
      have D13 : Aside (Below w.heap.size w w13) := Below.trans D12.out (Below.mono d13 D12.out.size)
      have s_13 : Aside (IsL w13 sa sc s) := s_12.out.below d13
      have p_13 : Aside (IsL w13 pa pc c2) := p_12.out.below d13
      have q_13 : Aside (IsL w13 qa qc c2) := q_12.out.below d13
      have o_13 : Aside (IsL w13 oa oc s) := o_12.out.below d13
      have t_13 : Aside (IsL w13 ta tc ([] : List Ent)) := t_12.out.below d13
      have Xx_13 : Aside (Box2 S4 (.int .i64 M) (.slice sa N sc) w13) := Xx_12.out.on d13
      have Xp_13 : Aside (Box2 T (.int .i64 m2) (.slice pa n2 pc) w13) := Xp_12.out.on d13
      have Xq_13 : Aside (Box2 S9 (.int .i64 m2) (.slice qa n2 qc) w13) := Xq_12.out.on d13
      have Xo_13 : Aside (Box2 S11 (.int .i64 M) (.slice oa N oc) w13) := Xo_12.out.on d13
      clear D12 s_12 p_12 q_12 o_12 t_12 Xx_12 Xp_12 Xq_12 Xo_12
      clear hw13 d13
      go_wp2_with fail
      rw [Hw13.out]
      refine (sameN p_13.out q_13.out F.out.2.2.2.2.2.2.2.1 F.out.2.2.2.2.2.2.2.1 (decide_eq_true rfl)).mono ?_
      rintro r w14 ⟨rfl, d14⟩
      clear cx0 cx1 cxl cp0 cp1 cpl cq0 cq1 cql co0 co1 col
      have D14 : Aside (Below w.heap.size w w14) := Below.trans D13.out (Below.mono d14 D13.out.size)
      have s_14 : Aside (IsL w14 sa sc s) := s_13.out.below d14
      have p_14 : Aside (IsL w14 pa pc c2) := p_13.out.below d14
      have q_14 : Aside (IsL w14 qa qc c2) := q_13.out.below d14
      have o_14 : Aside (IsL w14 oa oc s) := o_13.out.below d14
      have t_14 : Aside (IsL w14 ta tc ([] : List Ent)) := t_13.out.below d14
      have Xx_14 : Aside (Box2 S4 (.int .i64 M) (.slice sa N sc) w14) := Xx_13.out.on d14
      have Xp_14 : Aside (Box2 T (.int .i64 m2) (.slice pa n2 pc) w14) := Xp_13.out.on d14
      have Xq_14 : Aside (Box2 S9 (.int .i64 m2) (.slice qa n2 qc) w14) := Xq_13.out.on d14
      have Xo_14 : Aside (Box2 S11 (.int .i64 M) (.slice oa N oc) w14) := Xo_13.out.on d14
      have Xt_14 : Aside (Box2 S13 (.int .i64 z) (.slice ta z tc) w14) := Xt_13.out.on d14
      clear D13 s_13 p_13 q_13 o_13 t_13 Xx_13 Xp_13 Xq_13 Xo_13 Xt_13
      clear d14
      have cx0 := Xx_14.out.c0
      have cx1 := Xx_14.out.c1
      have cp0 := Xp_14.out.c0
      have cp1 := Xp_14.out.c1
      have cq0 := Xq_14.out.c0
      have cq1 := Xq_14.out.c1
      have co0 := Xo_14.out.c0
      have co1 := Xo_14.out.c1
      have ct0 := Xt_14.out.c0
      have ct1 := Xt_14.out.c1
      go_wp2_with fail
      refine (sameN o_14.out s_14.out F.out.2.2.1 F.out.2.2.1 (decide_eq_true rfl)).mono ?_
      rintro r w15 ⟨rfl, d15⟩
      clear cx0 cx1 cp0 cp1 cq0 cq1 co0 co1 ct0 ct1
      have D15 : Aside (Below w.heap.size w w15) := Below.trans D14.out (Below.mono d15 D14.out.size)
      have s_15 : Aside (IsL w15 sa sc s) := s_14.out.below d15
      have p_15 : Aside (IsL w15 pa pc c2) := p_14.out.below d15
      have q_15 : Aside (IsL w15 qa qc c2) := q_14.out.below d15
      have o_15 : Aside (IsL w15 oa oc s) := o_14.out.below d15
      have t_15 : Aside (IsL w15 ta tc ([] : List Ent)) := t_14.out.below d15
      have Xx_15 : Aside (Box2 S4 (.int .i64 M) (.slice sa N sc) w15) := Xx_14.out.on d15
      have Xp_15 : Aside (Box2 T (.int .i64 m2) (.slice pa n2 pc) w15) := Xp_14.out.on d15
      have Xq_15 : Aside (Box2 S9 (.int .i64 m2) (.slice qa n2 qc) w15) := Xq_14.out.on d15
      have Xo_15 : Aside (Box2 S11 (.int .i64 M) (.slice oa N oc) w15) := Xo_14.out.on d15
      have Xt_15 : Aside (Box2 S13 (.int .i64 z) (.slice ta z tc) w15) := Xt_14.out.on d15
      clear D14 s_14 p_14 q_14 o_14 t_14 Xx_14 Xp_14 Xq_14 Xo_14 Xt_14
      clear d15
      have z2 : ((z : Int) == 0) = true := by rw [z1.out]; rfl
      have z3 : z = 0 := by have := z1.out; omega
      have cx0 := Xx_15.out.c0
      have cx1 := Xx_15.out.c1
      have cp0 := Xp_15.out.c0
      have cp1 := Xp_15.out.c1
      have cq0 := Xq_15.out.c0
      have cq1 := Xq_15.out.c1
      have co0 := Xo_15.out.c0
      have co1 := Xo_15.out.c1
      have ct0 := Xt_15.out.c0
      have ct1 := Xt_15.out.c1
      go_wp2_with fail
      refine (awake_any _).mono ?_
      rintro r w16 ⟨rfl, d16⟩
      clear cx0 cx1 cp0 cp1 cq0 cq1 co0 co1 ct0 ct1
      have D16 : Aside (Below w.heap.size w w16) := Below.trans D15.out (Below.mono d16 D15.out.size)
      have s_16 : Aside (IsL w16 sa sc s) := s_15.out.below d16
      have p_16 : Aside (IsL w16 pa pc c2) := p_15.out.below d16
      have q_16 : Aside (IsL w16 qa qc c2) := q_15.out.below d16
      have o_16 : Aside (IsL w16 oa oc s) := o_15.out.below d16
      have t_16 : Aside (IsL w16 ta tc ([] : List Ent)) := t_15.out.below d16
      have Xx_16 : Aside (Box2 S4 (.int .i64 M) (.slice sa N sc) w16) := Xx_15.out.on d16
      have Xp_16 : Aside (Box2 T (.int .i64 m2) (.slice pa n2 pc) w16) := Xp_15.out.on d16
      have Xq_16 : Aside (Box2 S9 (.int .i64 m2) (.slice qa n2 qc) w16) := Xq_15.out.on d16
      have Xo_16 : Aside (Box2 S11 (.int .i64 M) (.slice oa N oc) w16) := Xo_15.out.on d16
      have Xt_16 : Aside (Box2 S13 (.int .i64 z) (.slice ta z tc) w16) := Xt_15.out.on d16
      clear D15 s_15 p_15 q_15 o_15 t_15 Xx_15 Xp_15 Xq_15 Xo_15 Xt_15
      clear d16
      go_wp2
      go_ret
      exact ⟨rfl, D16.out⟩
  · rw [decide_eq_false hf] at few
    obtain ⟨S1, hS1⟩ : ∃ S, w.heap.size = S := ⟨_, rfl⟩
    obtain ⟨w1, hw1⟩ : ∃ v, (w.alloc (.cells #[.int .i64 a] 3)).alloc (.cells #[.int .i64 b] 3) = v := ⟨_, rfl⟩
    have H1 : Hid _ := hw1
    have d1 : Aside (Below w.heap.size w w1) := by rw [← hw1]; exact ((Below.refl _ _).alloc (Nat.le_refl _) _).alloc (by simp) _
    clear hw1
    go_enter Try.func4, Try.ntmps4
    go_wp2_with fail
    rw [H1.out]
    refine (few _).mono ?_
    rintro r w2 ⟨rfl, e2⟩
    obtain rfl := e2.symm
    go_wp2_with fail
    refine (awake_any _).mono ?_
    rintro r w2 ⟨rfl, d2⟩
    have D2 : Aside (Below w.heap.size w w2) := d1.out.trans (d2.mono d1.out.size)
    clear d2
    go_wp2
    go_ret
    exact ⟨rfl, D2.out⟩
end Go.Proofs.Ytoknpinlphbeoaa
