/- wheel.levelOf, place, passed. -/
import Derived.Test.YtbopobgnmkhabaaDoorWhA
import Derived.Test.YtbopobgnmkhabaaDoorTmS
import Derived.Deep.LoopGhost
import Derived.Deep.CutBlock
import Derived.Deep.DeepCutAuto
namespace Go.Proofs.YtbopobgnmkhabaaDoor
open Go.RowKit Go.Lib Go.Sort
set_option linter.unusedVariables false

theorem lev_le10 (a b : Nat) (ha : a < B64) (hb : b < B64) : lev a b ≤ 10 := by
  refine (lev_le ha hb).2 ?_
  unfold same
  rw [Nat.div_eq_of_lt (Nat.lt_of_lt_of_le ha (by decide)), Nat.div_eq_of_lt (Nat.lt_of_lt_of_le hb (by decide))]
set_option maxHeartbeats 400000 in
theorem levelOf_any (a b : Nat) (ha : a < B64) (hb : b < B64) (w : World) :
    Calls Tryd.prog 47 #[.int .u64 a, .int .u64 b] w fun e w' => e = .returned (.int .i64 (lev a b : Nat)) ∧ w' = w := by
  have hB : B64 = 18446744073709551616 := rfl
  have hx : a ^^^ b < 2 ^ 64 := Nat.xor_lt_two_pow (show a < 2 ^ 64 from ha) (show b < 2 ^ 64 from hb)
  have hy : (a ^^^ b) ||| 1 < 2 ^ 64 := (or_one_lt _ _ (by omega)).2 hx
  have e1 := bits_xor_u64_nat a b (by omega) (by omega)
  have e2 : bits BinOp.or IntKind.u64 ((a ^^^ b : Nat) : Int) 1 = (((a ^^^ b) ||| 1 : Nat) : Int) := bits_or_u64_nat _ 1 (by omega) (by omega)
  have hl := bitLen_pos _ hy (or_one_ne _)
  have hl2 := (bitLen_iff _ 64 hy (or_one_ne _)).2 hy
  have hlev : lev a b = (Go.Lib.bitLen ((a ^^^ b) ||| 1) - 1) / 6 := rfl
  obtain ⟨X, hX⟩ : ∃ X, (a ^^^ b) ||| 1 = X := ⟨_, rfl⟩
  obtain ⟨Z, hZ⟩ : ∃ X, a ^^^ b = X := ⟨_, rfl⟩
  rw [hX] at hy hl hl2 hlev
  have len := fun w => len64_any X (by omega) w
  rw [hZ] at e1
  rw [hX, hZ] at e2
  obtain ⟨L, hL⟩ : ∃ L, Go.Lib.bitLen X = L := ⟨_, rfl⟩
  simp only [hL] at len hl hl2 hlev
  have HV : Hid _ := hlev
  clear hX hZ hx hL hlev
  go_enter Tryd.func47, Tryd.ntmps47
  go_wp2_with (go_at_call 61; refine (len _).mono ?_; rintro e w' ⟨rfl, rfl⟩)
  go_ret
  refine ⟨ret_i64 ?_, rfl⟩
  rw [HV.out]
  omega
/-- The block of a wheel's head. -/
def Hd (w : World) (B : Nat) (hd : Nat → Value) : Prop := ∃ cs : Array Value, w.heap[B]? = some (.cells cs 61 (0, 0)) ∧ cs.size = 263 ∧ ∀ k, k < 263 → cs[k]? = some (hd k)
theorem Hd.cell {w : World} {B : Nat} {hd : Nat → Value} (h : Hd w B hd) {k : Nat} (hk : k < 263) : w.cell? ⟨B, k, none⟩ = some (hd k) := by
  obtain ⟨cs, h1, h2, h3⟩ := h
  rw [cell_of_row _ _ _ _ _ _ h1, h3 k hk]
theorem Hd.frozen {w : World} {B : Nat} {hd : Nat → Value} (h : Hd w B hd) (k : Nat) : w.frozen? ⟨B, k, none⟩ = false := by
  obtain ⟨cs, h1, h2, h3⟩ := h
  simp [World.frozen?, h1]
theorem Hd.lt {w : World} {B : Nat} {hd : Nat → Value} (h : Hd w B hd) : B < w.heap.size := by
  obtain ⟨cs, h1, h2, h3⟩ := h
  exact lt_of_block h1
theorem Hd.of_block {w w' : World} {B : Nat} {hd : Nat → Value} (h : Hd w B hd) (e : w'.heap[B]? = w.heap[B]?) : Hd w' B hd := by
  obtain ⟨cs, h1, h2, h3⟩ := h
  exact ⟨cs, e.trans h1, h2, h3⟩
def hset (hd : Nat → Value) (k : Nat) (v : Value) : Nat → Value := fun j => if j = k then v else hd j
theorem hset_same (hd : Nat → Value) (k : Nat) (v : Value) : hset hd k v k = v := if_pos rfl
theorem hset_ne (hd : Nat → Value) {k j : Nat} (v : Value) (h : j ≠ k) : hset hd k v j = hd j := if_neg h
theorem Hd.set {w : World} {B : Nat} {hd : Nat → Value} (h : Hd w B hd) (k : Nat) (v : Value) : Hd (w.setCell ⟨B, k, none⟩ v) B (hset hd k v) := by
  obtain ⟨cs, h1, h2, h3⟩ := h
  refine ⟨_, heap_setCell_same _ _ _ _ _ _ h1, by simpa using h2, fun j hj => ?_⟩
  rw [Array.getElem?_setIfInBounds]
  by_cases e : k = j
  · subst e
    rw [if_pos rfl, if_pos (by omega), hset_same]
  · rw [if_neg e, hset_ne _ _ (fun e' => e e'.symm), h3 j hj]
theorem Hd.typ {w : World} {B : Nat} {hd : Nat → Value} (h : Hd w B hd) : ∃ cs, w.heap[B]? = some (.cells cs 61 (0, 0)) := by
  obtain ⟨cs, h1, _⟩ := h
  exact ⟨cs, h1⟩
theorem grown_cell (w : World) (B k : Nat) (v : Value) : w.grownBy (w.setCell ⟨B, k, none⟩ v) (some B) := ⟨rfl, rfl, rfl, by simp, fun j _ hj => heap_setCell_other _ _ j _ (fun e => hj (by rw [e]))⟩

set_option maxHeartbeats 400000 in
theorem place_any (B now due : Nat) (hn : now < B64) (hd : due < B64) (w : World) (hc : w.cell? ⟨B, 0, none⟩ = some (.int .u64 now)) :
    Calls Tryd.prog 31 #[.pointer (some ⟨B, 0, none⟩), .int .u64 due] w fun e w' => e = .returned (.tuple #[.int .i64 ((plc now due).1 : Nat), .int .i64 ((plc now due).2 : Nat)]) ∧ w' = w := by
  obtain ⟨A, hA⟩ : ∃ A, max due now = A := ⟨_, rfl⟩
  have hAb : A < B64 := by omega
  have e1 : (plc now due).1 = lev now A := by unfold plc; rw [hA]
  have e2 : (plc now due).2 = slt A (lev now A) := by unfold plc; rw [hA]
  rw [e1, e2]
  have hl := lev_le10 now A hn hAb
  have lv := fun w => levelOf_any now A hn hAb w
  obtain ⟨L, hL⟩ : ∃ L, lev now A = L := ⟨_, rfl⟩
  simp only [hL] at lv hl ⊢
  have sl := fun w => slotOf_any A L hAb hl w
  obtain ⟨Z, hZ⟩ : ∃ Z, slt A L = Z := ⟨_, rfl⟩
  simp only [hZ] at sl ⊢
  clear hn hd hAb
  have hm : max (due : Int) (now : Int) = (A : Int) := by omega
  clear hA e1 e2 hL hZ
  go_enter Tryd.func31, Tryd.ntmps31
  go_wp2_with (first | (go_at_call 47; refine (lv _).mono ?_; rintro e w' ⟨rfl, rfl⟩) | (go_at_call 48; refine (sl _).mono ?_; rintro e w' ⟨rfl, rfl⟩))
  refine bodyPost_ret (v := .tuple #[.int .i64 L, .int .i64 Z]) (by simp [results, Tryd.results31, go_sem]) rfl ⟨rfl, rfl⟩

/-- The mask of a level. -/
def msk (now thn l : Nat) : Nat := if l < lev now thn then 18446744073709551615 else if l = lev now thn then 2 ^ (slt thn l + 1) - 1 else 0
theorem msk_bit (now thn l s : Nat) (hs : s < 64) : (msk now thn l).testBit s = pass now thn l s := by
  unfold msk pass
  by_cases h1 : l < lev now thn
  · rw [if_pos h1, show (18446744073709551615 : Nat) = 2 ^ 64 - 1 from rfl, Nat.testBit_two_pow_sub_one]
    simp [h1, hs]
  · rw [if_neg h1]
    by_cases h2 : l = lev now thn
    · rw [if_pos h2, Nat.testBit_two_pow_sub_one]
      simp [h2]
      omega
    · rw [if_neg h2]; simp [h1, h2]
theorem msk_lt (now thn l : Nat) : msk now thn l < B64 := by
  unfold msk
  split
  · decide
  · split
    · have : 2 ^ (slt thn l + 1) ≤ 2 ^ 64 := Nat.pow_le_pow_right (by omega) (by have := slt_lt thn l; omega)
      have : B64 = 2 ^ 64 := rfl
      omega
    · decide
def mskF (now thn k l : Nat) : Value := .int .u64 ((if l < k then msk now thn l else 0 : Nat) : Int)
set_option maxHeartbeats 1000000 in
theorem passed_any (now thn : Nat) (hn : now < B64) (ht : thn < B64) (w : World) :
    Calls Tryd.prog 35 #[.int .u64 now, .int .u64 thn] w fun e w' => e = .returned (.agg #[.int .u64 (msk now thn 0 : Nat), .int .u64 (msk now thn 1 : Nat), .int .u64 (msk now thn 2 : Nat), .int .u64 (msk now thn 3 : Nat)]) ∧ Below w.heap.size w w' := by
  have lv := fun w => levelOf_any now thn hn ht w
  have hl := lev_le10 now thn hn ht
  obtain ⟨S, hS⟩ : ∃ S, w.heap.size = S := ⟨_, rfl⟩
  obtain ⟨L, hL⟩ : ∃ L, lev now thn = L := ⟨_, rfl⟩
  have HL : Hid (lev now thn = L) := hL
  simp only [hL] at lv hl
  have sl : Aside (∀ (l : Nat) w, l ≤ 10 → Calls Tryd.prog 48 #[.int .u64 thn, .int .i64 l] w fun e w' => e = .returned (.int .i64 (slt thn l : Nat)) ∧ w' = w) := fun l w hl => slotOf_any thn l ht hl w
  clear hL hn ht
  obtain ⟨M0, hM0⟩ : ∃ M, msk now thn 0 = M := ⟨_, rfl⟩
  obtain ⟨M1, hM1⟩ : ∃ M, msk now thn 1 = M := ⟨_, rfl⟩
  obtain ⟨M2, hM2⟩ : ∃ M, msk now thn 2 = M := ⟨_, rfl⟩
  obtain ⟨M3, hM3⟩ : ∃ M, msk now thn 3 = M := ⟨_, rfl⟩
  rw [hM0, hM1, hM2, hM3]
  have HM : Aside (msk now thn 0 = M0 ∧ msk now thn 1 = M1 ∧ msk now thn 2 = M2 ∧ msk now thn 3 = M3) := ⟨hM0, hM1, hM2, hM3⟩
  obtain ⟨w0, hw0⟩ : ∃ w0, (w.alloc (.cells #[.int .u64 0, .int .u64 0, .int .u64 0, .int .u64 0] 74)).alloc (.cells #[.int .u64 0, .int .u64 0, .int .u64 0, .int .u64 0] 74) = w0 := ⟨_, rfl⟩
  have HW : Hid _ := hw0
  have I0 : Aside (w0.heap[S]? = some (.cells #[.int .u64 0, .int .u64 0, .int .u64 0, .int .u64 0] 74 (0, 0)) ∧ w0.heap[S + 1]? = some (.cells #[mskF now thn 0 0, mskF now thn 0 1, mskF now thn 0 2, mskF now thn 0 3] 74 (0, 0)) ∧ Below S w w0) := by
    refine ⟨?_, ?_, ?_⟩
    · rw [← hw0, ← hS, heap_alloc_old _ _ (by simp)]; exact heap_alloc_new w _
    · rw [← hw0, ← hS]; have := heap_alloc_new (w.alloc (.cells #[.int .u64 0, .int .u64 0, .int .u64 0, .int .u64 0] 74)) (.cells #[.int .u64 0, .int .u64 0, .int .u64 0, .int .u64 0] 74); simpa [mskF] using this
    · rw [← hw0, ← hS]; exact ((Below.refl _ _).alloc (Nat.le_refl _) _).alloc (by simp) _
  clear hw0 hM0 hM1 hM2 hM3
  go_enter Tryd.func35, Tryd.ntmps35
  go_upto_region 2 with fail
  rw [HW.out]
  go_wp2_with (go_at_call 47; refine (lv _).mono ?_; rintro e w' ⟨rfl, rfl⟩)
  go_loopg [7, 11, 14, 20] 4 (fun kx s7 s11 s14 s20 wr => ∃ k : Nat, s11 = .int .i64 k ∧ k ≤ 4 ∧ 4 - k ≤ kx ∧ Aside (wr.heap[S]? = some (.cells #[.int .u64 0, .int .u64 0, .int .u64 0, .int .u64 0] 74 (0, 0)) ∧ wr.heap[S + 1]? = some (.cells #[mskF now thn k 0, mskF now thn k 1, mskF now thn k 2, mskF now thn k 3] 74 (0, 0)) ∧ Below S w wr))
  case atStart => exact ⟨0, rfl, by omega, by omega, I0⟩
  case round =>
    obtain ⟨k, rfl, hk, hkx, I⟩ := hrel
    have hSr : S + 1 < wr.heap.size := lt_of_block I.out.2.1
    by_cases hlt : k < 4
    · have hz : (k : Int) < 4 := by omega
      have c0 : wr.cell? ⟨S + 1, k, none⟩ = some (.int .u64 0) := by
        rw [cell_of_row _ _ _ _ _ _ I.out.2.1]
        have : k = 0 ∨ k = 1 ∨ k = 2 ∨ k = 3 := by omega
        rcases this with rfl | rfl | rfl | rfl <;> simp [mskF]
      have f0 : wr.frozen? ⟨S + 1, k, none⟩ = false := by simp [World.frozen?, I.out.2.1]
      have nx : Aside (∀ V : Nat, V = msk now thn k → (wr.setCell ⟨S + 1, k, none⟩ (.int .u64 V)).heap[S]? = some (.cells #[.int .u64 0, .int .u64 0, .int .u64 0, .int .u64 0] 74 (0, 0)) ∧ (wr.setCell ⟨S + 1, k, none⟩ (.int .u64 V)).heap[S + 1]? = some (.cells #[mskF now thn (k + 1) 0, mskF now thn (k + 1) 1, mskF now thn (k + 1) 2, mskF now thn (k + 1) 3] 74 (0, 0)) ∧ Below S w (wr.setCell ⟨S + 1, k, none⟩ (.int .u64 V))) := fun V hV => by
        refine ⟨?_, ?_, I.out.2.2.setCell (by simp) _⟩
        · rw [heap_setCell_other _ _ _ _ (by simp)]; exact I.out.1
        · rw [heap_setCell_same _ _ _ _ _ _ I.out.2.1, hV]
          have : k = 0 ∨ k = 1 ∨ k = 2 ∨ k = 3 := by omega
          rcases this with rfl | rfl | rfl | rfl <;> simp [mskF]
      by_cases c1 : k < L
      · have q1 : (k : Int) < (L : Int) := by omega
        have hv : 18446744073709551615 = msk now thn k := by unfold msk; rw [HL.out, if_pos c1]
        have N1 := nx.out _ hv
        have N2 : Aside _ := N1
        clear nx I N1 hv
        go_wp2
        go_roundg (4 - (k + 1))
        case measure => omega
        case rel => exact ⟨k + 1, by go_num, by omega, Nat.le_refl _, N2⟩
      · have q1 : ¬ (k : Int) < (L : Int) := by omega
        by_cases c2 : k = L
        · subst c2
          have s1 := fun w => sl.out k w (by omega)
          have hsl := slt_lt thn k
          obtain ⟨Z, hZ⟩ : ∃ Z, slt thn k = Z := ⟨_, rfl⟩
          simp only [hZ] at s1 hsl
          obtain ⟨V, hV⟩ : ∃ V : Nat, V = 2 ^ (Z + 1) - 1 := ⟨_, rfl⟩
          have hv : V = msk now thn k := by unfold msk; rw [HL.out, if_neg c1, if_pos rfl, hZ, hV]
          have N2 : Aside _ := nx.out _ hv
          have hp : 2 ^ (Z + 1) ≤ 2 ^ 64 := Nat.pow_le_pow_right (by omega) (by omega)
          have hp0 : 0 < 2 ^ (Z + 1) := Nat.two_pow_pos _
          have hW : IntKind.u64.wrap (IntKind.u64.wrap (2 * 2 ^ Z) - 1) = (V : Int) := by
            have e : (2 * 2 ^ Z : Int) = ((2 ^ (Z + 1) : Nat) : Int) := by rw [Nat.pow_succ]; push_cast; rw [Int.mul_comm]
            rw [e, IntKind.wrap_u64, IntKind.wrap_u64, hV]
            omega
          have HW2 : Hid _ := hW
          clear nx I hv hZ hW
          go_wp2_with (go_at_call 48; refine (s1 _).mono ?_; rintro e w' ⟨rfl, rfl⟩)
          rw [HW2.out]
          go_roundg (4 - (k + 1))
          case measure => omega
          case rel => exact ⟨k + 1, by go_num, by omega, Nat.le_refl _, N2⟩
        · have q2 : ¬ (k : Int) = (L : Int) := by omega
          have q3 : ((k : Int) == (L : Int)) = false := by simp; omega
          have hv : 0 = msk now thn k := by unfold msk; rw [HL.out, if_neg c1, if_neg c2]
          have I2 : Aside (wr.heap[S]? = some (.cells #[.int .u64 0, .int .u64 0, .int .u64 0, .int .u64 0] 74 (0, 0)) ∧ wr.heap[S + 1]? = some (.cells #[mskF now thn (k + 1) 0, mskF now thn (k + 1) 1, mskF now thn (k + 1) 2, mskF now thn (k + 1) 3] 74 (0, 0)) ∧ Below S w wr) := by
            refine ⟨I.out.1, ?_, I.out.2.2⟩
            rw [I.out.2.1]
            have : k = 0 ∨ k = 1 ∨ k = 2 ∨ k = 3 := by omega
            rcases this with rfl | rfl | rfl | rfl <;> simp [mskF, ← hv]
          clear nx I hv
          go_wp2
          go_roundg (4 - (k + 1))
          case measure => omega
          case rel => exact ⟨k + 1, by go_num, by omega, Nat.le_refl _, I2⟩
    · obtain rfl : k = 4 := by omega
      have i1 := I.out.2.1
      simp only [mskF, show (0 : Nat) < 4 by omega, show (1 : Nat) < 4 by omega, show (2 : Nat) < 4 by omega, show (3 : Nat) < 4 by omega, if_true, HM.out.1, HM.out.2.1, HM.out.2.2.1, HM.out.2.2.2] at i1
      have e0 : wr.cell? ⟨S + 1, 0, none⟩ = some (.int .u64 M0) := by rw [cell_of_row _ _ _ _ _ _ i1]; rfl
      have e1 : wr.cell? ⟨S + 1, 1, none⟩ = some (.int .u64 M1) := by rw [cell_of_row _ _ _ _ _ _ i1]; rfl
      have e2 : wr.cell? ⟨S + 1, 2, none⟩ = some (.int .u64 M2) := by rw [cell_of_row _ _ _ _ _ _ i1]; rfl
      have e3 : wr.cell? ⟨S + 1, 3, none⟩ = some (.int .u64 M3) := by rw [cell_of_row _ _ _ _ _ _ i1]; rfl
      have z : ∀ j, j < 4 → wr.cell? ⟨S, j, none⟩ = some (.int .u64 0) ∧ wr.frozen? ⟨S, j, none⟩ = false := fun j hj => by
        refine ⟨?_, by simp [World.frozen?, I.out.1]⟩
        rw [cell_of_row _ _ _ _ _ _ I.out.1]
        have : j = 0 ∨ j = 1 ∨ j = 2 ∨ j = 3 := by omega
        rcases this with rfl | rfl | rfl | rfl <;> rfl
      obtain ⟨z0, y0⟩ := z 0 (by omega)
      obtain ⟨z1, y1⟩ := z 1 (by omega)
      obtain ⟨z2, y2⟩ := z 2 (by omega)
      obtain ⟨z3, y3⟩ := z 3 (by omega)
      have BB : Aside (Below S w ((((wr.setCell ⟨S, 0, none⟩ (.int .u64 M0)).setCell ⟨S, 1, none⟩ (.int .u64 M1)).setCell ⟨S, 2, none⟩ (.int .u64 M2)).setCell ⟨S, 3, none⟩ (.int .u64 M3))) := (((I.out.2.2.setCell (by simp) _).setCell (by simp) _).setCell (by simp) _).setCell (by simp) _
      clear I i1 z
      go_wp2
      refine bodyPost_ret (v := .agg #[.int .u64 M0, .int .u64 M1, .int .u64 M2, .int .u64 M3]) (by simp [results, Tryd.results35, go_sem, z0, z1, z2, z3]) rfl ⟨rfl, by first | exact BB.out | (rw [hS]; exact BB.out)⟩
end Go.Proofs.YtbopobgnmkhabaaDoor
