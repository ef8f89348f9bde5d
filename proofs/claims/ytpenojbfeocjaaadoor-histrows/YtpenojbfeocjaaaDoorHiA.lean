/- What the document fixes of layer 21 (awake); a row of one event. -/
import Derived.Test.YtpenojbfeocjaaaDoorHiY
import Derived.Test.YtpenojbfeocjaaaDoorHiT
namespace Go.Proofs.YtpenojbfeocjaaaDoor
open Go.RowKit Go.Lib Go.WideMaps Go.Maps
set_option linter.unusedVariables false
set_option maxRecDepth 10000

theorem isG_one (w : World) (e : EvR) : IsG rE (w.alloc (.cells #[.int .i64 e.k, .int .i64 e.t, .int .i64 e.i, .int .u64 e.y, .int .u64 e.c, .int .u64 e.n] 27)) (some ⟨w.heap.size, 0, none⟩) 1 [e] := by
  refine ⟨Nat.le_refl _, by decide, fun j u hu => ⟨_, 0, rfl, by rw [alloc_sz]; omega, ?_⟩⟩
  have e1 : rE.flat [e] = [.int .i64 e.k, .int .i64 e.t, .int .i64 e.i, .int .u64 e.y, .int .u64 e.c, .int .u64 e.n] := rfl
  rw [Nat.zero_add, cell_fresh, ← hu, e1]
  exact List.getElem?_toArray
theorem dec1 {u : Nat} (h : u < 10) : decDigits u = [UInt8.ofNat (48 + u)] := by rw [decDigits, dif_pos h]
theorem itoa1 {u : Nat} (h : u < 10) : itoa (u : Int) = [UInt8.ofNat (48 + u)] := by
  unfold itoa
  rw [if_neg (by omega)]
  exact dec1 h
theorem itoaM : itoa (-1) = [45, 49] := by
  unfold itoa
  rw [if_pos (by decide)]
  show 45 :: decDigits 1 = _
  rw [dec1 (by decide)]
  rfl
theorem txt_awake : txts [⟨1, -1, 1, 0, 0, 0⟩] = [49, 32, 45, 49, 32, 49, 32, 48, 32, 48, 32, 48, 10] := by
  have h1 : itoa 1 = [49] := itoa1 (u := 1) (by decide)
  have h0 : decDigits 0 = [48] := dec1 (by decide)
  rw [txts_cons, txts_nil, lineL_eq, h1, h0, itoaM]
  rfl
theorem ok_no : okB rw0 [⟨3, 0, 1, 0, 0, 0⟩] = false := by decide
theorem bytes_eq {s : ByteArray} {l : List UInt8} (h : s.data.toList = l) : s = ⟨l.toArray⟩ := by
  subst h; rfl
set_option maxHeartbeats 4000000 in
set_option maxRecDepth 100000 in
theorem awake_any (w : World) (t : Tb w) : Calls Tryd.prog 8 #[] w fun r w' => r = .returned (.bool true) ∧ Below w.heap.size w w' := by
  obtain ⟨X, hX⟩ : ∃ X, w.heap.size = X := ⟨_, rfl⟩
  obtain ⟨u1, hu1⟩ : ∃ u, w.alloc (.cells #[.int .i64 1, .int .i64 0, .int .i64 1] 23) = u := ⟨_, rfl⟩
  have B1 : Aside (Below w.heap.size w u1) := by show Below _ _ _; rw [← hu1]; exact bel1 _ _
  have d0 : u1.cell? ⟨X, 0, none⟩ = some (.int .i64 1) := by rw [← hu1, ← hX, cell_fresh]; rfl
  have d1 : u1.cell? ⟨X, 1, none⟩ = some (.int .i64 0) := by rw [← hu1, ← hX, cell_fresh]; rfl
  have d2 : u1.cell? ⟨X, 2, none⟩ = some (.int .i64 1) := by rw [← hu1, ← hX, cell_fresh]; rfl
  have T1 : Aside (Tb u1) := t.below B1.out
  have HX : Aside _ := hX
  have HU : Aside _ := hu1
  have P := ok_any (t := 1) (k := 0) (c := 1) (by decide) none 0 [] u1 (IsG.nil rE u1) (by simp) (by decide)
  clear hX hu1 t
  go_enter Tryd.func8, Tryd.ntmps8
  go_upto_region 2 with fail
  rw [HU.out, HX.out]
  go_wp2_with fail
  refine P.mono ?_
  rintro r w2 ⟨z, rfl, hz, b2⟩
  have hz0 : z = 0 := hz
  subst hz0
  have c0 := (b2.cell (p := ⟨X, 0, none⟩) (World.block_lt_of_cell? _ _ d0)).trans d0
  have c1 := (b2.cell (p := ⟨X, 1, none⟩) (World.block_lt_of_cell? _ _ d1)).trans d1
  have c2 := (b2.cell (p := ⟨X, 2, none⟩) (World.block_lt_of_cell? _ _ d2)).trans d2
  have T2 : Aside (Tb w2) := T1.out.below b2
  have B2 : Aside (Below w.heap.size w w2) := Below.tr B1.out b2
  obtain ⟨Y, hY⟩ : ∃ X, w2.heap.size = X := ⟨_, rfl⟩
  obtain ⟨u3, hu3⟩ : ∃ u, w2.alloc (.cells #[.int .i64 3, .int .i64 0, .int .i64 1, .int .u64 0, .int .u64 0, .int .u64 0] 27) = u := ⟨_, rfl⟩
  have b3 : Below w2.heap.size w2 u3 := by rw [← hu3]; exact bel1 _ _
  have G3 : IsG rE u3 (some ⟨Y, 0, none⟩) 1 [⟨3, 0, 1, 0, 0, 0⟩] := by rw [← hu3, ← hY]; exact isG_one w2 ⟨3, 0, 1, 0, 0, 0⟩
  have Q := ok_any (t := 1) (k := 0) (c := 1) (by decide) _ 1 [⟨3, 0, 1, 0, 0, 0⟩] u3 G3 (by intro x hx; rw [List.mem_singleton] at hx; subst hx; refine ⟨?_, ?_, ?_, ?_, ?_, ?_⟩ <;> decide) (by decide)
  have Q' : Calls Tryd.prog 4 #[.agg #[.int .i64 1, .int .i64 0, .int .i64 1], .slice (some ⟨Y, 0, none⟩) 1 1] u3 fun r w' => ∃ z : Int, r = .returned (.int .i64 z) ∧ OkIs z [⟨3, 0, 1, 0, 0, 0⟩] ∧ Below u3.heap.size u3 w' := Q
  have HY : Aside _ := hY
  have HU3 : Aside _ := hu3
  have T3 : Aside (Tb u3) := T2.out.below b3
  have B3 : Aside (Below w.heap.size w u3) := Below.tr B2.out b3
  clear hY hu3 b3 G3 Q b2 hz P d0 d1 d2
  go_wp2_with fail
  rw [HU3.out, HY.out]
  refine Q'.mono ?_
  rintro r w4 ⟨z, rfl, hz, b4⟩
  have hz0 : z = 3 := by unfold OkIs at hz; rw [ok_no] at hz; exact hz
  subst hz0
  have T4 : Aside (Tb w4) := T3.out.below b4
  have B4 : Aside (Below w.heap.size w w4) := Below.tr B3.out b4
  obtain ⟨Z, hZ⟩ : ∃ X, w4.heap.size = X := ⟨_, rfl⟩
  obtain ⟨u5, hu5⟩ : ∃ u, w4.alloc (.cells #[.int .i64 1, .int .i64 (-1), .int .i64 1, .int .u64 0, .int .u64 0, .int .u64 0] 27) = u := ⟨_, rfl⟩
  have b5 : Below w4.heap.size w4 u5 := by rw [← hu5]; exact bel1 _ _
  have G5 : IsG rE u5 (some ⟨Z, 0, none⟩) 1 [⟨1, -1, 1, 0, 0, 0⟩] := by rw [← hu5, ← hZ]; exact isG_one w4 ⟨1, -1, 1, 0, 0, 0⟩
  have B5 : Aside (Below w.heap.size w u5) := Below.tr B4.out b5
  have S := text_any _ 1 [⟨1, -1, 1, 0, 0, 0⟩] u5 G5 (by intro x hx; rw [List.mem_singleton] at hx; subst hx; refine ⟨?_, ?_, ?_, ?_, ?_, ?_⟩ <;> decide) (by decide) (T4.out.below b5)
  have S' : Calls Tryd.prog 19 #[.slice (some ⟨Z, 0, none⟩) 1 1] u5 fun r w' => ∃ s : ByteArray, r = .returned (.string s) ∧ s.data.toList = txts [⟨1, -1, 1, 0, 0, 0⟩] ∧ Below u5.heap.size u5 w' := S
  have HZ : Aside _ := hZ
  have HU5 : Aside _ := hu5
  clear hZ hu5 b5 G5 S b4 hz Q' c0 c1 c2
  go_wp2_with fail
  rw [HU5.out, HZ.out]
  refine S'.mono ?_
  rintro r w6 ⟨s, rfl, hs, b6⟩
  have B6 : Aside (Below w.heap.size w w6) := Below.tr B5.out b6
  have e6 := bytes_eq (hs.trans txt_awake)
  subst e6
  clear hs S' b6
  go_wp2_with fail
  go_ret
  exact ⟨rfl, B6.out⟩
end Go.Proofs.YtpenojbfeocjaaaDoor
