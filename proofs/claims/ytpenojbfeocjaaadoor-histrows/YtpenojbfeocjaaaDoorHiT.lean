/- Contracts: hist.Text. -/
import Derived.Test.YtpenojbfeocjaaaDoorHiS
import Derived.Shelf.Strings.MapGrows
namespace Go.Proofs.YtpenojbfeocjaaaDoor
open Go.RowKit Go.Lib Go.Shelf Go.Sort
set_option linter.unusedVariables false
set_option maxRecDepth 10000

/-- What Text has written. -/
theorem mem_ok {d : List EvR} (h : ∀ x ∈ d, x.ok) {i : Nat} {x : EvR} (hi : d[i]? = some x) : x.ok := h x (List.mem_of_getElem? hi)
theorem take_up {α : Type} {d : List α} {i : Nat} {x : α} (hi : d[i]? = some x) : d.take (i + 1) = d.take i ++ [x] := by
  have := (List.getElem?_eq_some_iff.1 hi)
  obtain ⟨h, rfl⟩ := this
  exact List.take_succ_eq_append_getElem h
set_option maxHeartbeats 8000000 in
set_option maxRecDepth 100000 in
theorem text_any (a : Option Addr) (cap : Nat) (d : List EvR) (w : World) (h : IsG rE w a cap d) (hok : ∀ x ∈ d, x.ok) (h40 : d.length ≤ 1000) (t : Tb w) :
    Calls Tryd.prog 19 #[.slice a d.length cap] w fun r w' => ∃ s : ByteArray, r = .returned (.string s) ∧ s.data.toList = txts d ∧ Below w.heap.size w w' := by
  obtain ⟨X, hX⟩ : ∃ X, w.heap.size = X := ⟨_, rfl⟩
  obtain ⟨u1, hu1⟩ : ∃ u, w.alloc (.cells #[.pointer none, .slice none 0 0] 65) = u := ⟨_, rfl⟩
  have b1 : Below w.heap.size w u1 := by rw [← hu1]; exact bel1 _ _
  have S0 : Aside (IsB X X [] u1) := by rw [← hu1, ← hX]; exact IsB.fresh w
  have s1 : X + 1 = u1.heap.size := by rw [← hu1, alloc_sz, hX]
  have B1 : Aside (Below X w u1) := by rw [← hX]; exact b1
  have T0 : Aside (Tb w) := t
  have H0 : Aside (IsG rE w a cap d) := h
  have OK : Aside (∀ x ∈ d, x.ok) := hok
  have HX : Aside _ := hX
  have HU : Aside _ := hu1
  have hl := h.len
  clear b1 hX hu1 h t hok
  go_enter Tryd.func19, Tryd.ntmps19
  go_upto_region 2 with fail
  rw [HU.out, HX.out]
  go_wp2_with fail
  go_loopg [8] d.length (fun kx s8 wr => ∃ I : Nat, s8 = .int .i64 I ∧ I ≤ d.length ∧ d.length - I ≤ kx ∧ Aside (IsB X X (txts (d.take I)) wr) ∧ Aside (Below X w wr))
  case atStart => exact ⟨0, rfl, by omega, by omega, S0, B1⟩
  case round =>
    obtain ⟨I, rfl, hI, hkx, SB, G⟩ := hrel
    have hX : w.heap.size = X := HX.out
    have gs := G.out.size
    by_cases hlt : I < d.length
    · have hz : (I : Int) < (d.length : Int) := by omega
      obtain ⟨x, hx⟩ : ∃ x, d[I]? = some x := ⟨_, List.getElem?_eq_getElem hlt⟩
      have Hr : IsG rE wr a cap d := H0.out.below (by rw [hX]; exact G.out)
      obtain ⟨b, off, rfl, hb, c0, c1, c2, c3, c4, c5⟩ := evAt Hr hx
      have HHX : Aside _ := hx
      have xok : Aside x.ok := mem_ok OK.out hx
      obtain ⟨Y, hY⟩ : ∃ Y, wr.heap.size = Y := ⟨_, rfl⟩
      obtain ⟨u2, hu2⟩ : ∃ u, wr.alloc (.cells #[.int .i64 x.k, .int .i64 x.t, .int .i64 x.i, .int .u64 x.y, .int .u64 x.c, .int .u64 x.n] 27) = u := ⟨_, rfl⟩
      have b2 : Below wr.heap.size wr u2 := by rw [← hu2]; exact bel1 _ _
      have E2 : EBx u2 Y x := by rw [← hu2, ← hY]; exact EBx.made wr x
      have S2 : Aside (IsB X X (txts (d.take I)) u2) := Lib.IsBuilderF.below SB.out b2
      have G2 : Aside (Below X w u2) := G.out.trans (b2.mono (by omega))
      have T2 : Tb u2 := T0.out.below (by rw [hX]; exact G2.out)
      have P : Calls Tryd.prog 30 #[.agg #[.int .i64 x.k, .int .i64 x.t, .int .i64 x.i, .int .u64 x.y, .int .u64 x.c, .int .u64 x.n]] u2 fun r w' => ∃ s : ByteArray, r = .returned (.string s) ∧ s.data.toList = lineL x ∧ Below u2.heap.size u2 w' := line_any x xok.out u2 T2
      obtain ⟨d0, d1, d2, d3, d4, d5⟩ := E2.all
      have HY : Aside _ := hY
      have HU2 : Aside _ := hu2
      have GS2 : Aside (X ≤ u2.heap.size) := by have := b2.size; show _ ≤ _; omega
      clear hY hu2 b2 T2 E2 Hr hx SB G hX
      go_wp2_with fail
      rw [HU2.out, HY.out]
      go_wp2_with fail
      refine P.mono ?_
      rintro r w3 ⟨s, rfl, hs, b3⟩
      have HS : Aside _ := hs
      have S3 : IsB X X (txts (d.take I)) w3 := Lib.IsBuilderF.below S2.out b3
      have G3 : Aside (Below X w w3) := G2.out.trans (b3.mono GS2.out)
      have Q := write_any X X (txts (d.take I)) s w3 S3 (by
        rw [hs]
        have l1 := txts_len (d := d.take I) (fun y hy => OK.out y (List.mem_of_mem_take hy))
        have l2 := line_len xok.out
        have l3 : (d.take I).length ≤ 1000 := by rw [List.length_take]; omega
        have l4 := Nat.mul_le_mul_right 126 l3
        omega) (by have := b3.size; have := GS2.out; omega)
      clear d0 d1 d2 d3 d4 d5 c0 c1 c2 c3 c4 c5 P S3 b3 hs
      go_wp2_with fail
      refine Q.mono ?_
      rintro r w4 ⟨⟨v, rfl⟩, S4, b4⟩
      have NX : Aside (IsB X X (txts (d.take (I + 1))) w4) := by rw [take_up HHX.out, txts_snoc, ← HS.out]; exact S4
      have NG : Aside (Below X w w4) := G3.out.trans b4
      clear S4 b4 Q
      go_wp2_with fail
      go_roundg (d.length - (I + 1))
      case measure => omega
      case rel => exact ⟨I + 1, by go_num, by omega, Nat.le_refl _, NX, NG⟩
    · have e0 : I = d.length := by omega
      have hz : ¬ (I : Int) < (d.length : Int) := by omega
      have SB' : IsB X X (txts d) wr := by have := SB.out; rw [e0, List.take_length] at this; exact this
      have P := stringS X X (txts d) wr SB' (by omega)
      clear SB' SB
      go_wp2_with fail
      refine P.mono ?_
      rintro r w3 ⟨s, rfl, hs, b3⟩
      have HS : Aside _ := hs
      have FIN : Aside (Below w.heap.size w w3) := by rw [hX]; exact G.out.trans b3
      clear b3 P G hs
      go_wp2_with fail
      go_ret
      exact ⟨_, rfl, HS.out, FIN.out⟩
end Go.Proofs.YtpenojbfeocjaaaDoor
