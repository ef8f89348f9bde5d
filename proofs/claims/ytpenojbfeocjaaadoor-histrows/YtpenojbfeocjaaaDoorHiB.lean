/- Contracts: hist.Claims; hist.Ready where nothing is ready. -/
import Derived.Test.YtpenojbfeocjaaaDoorHiL
namespace Go.Proofs.YtpenojbfeocjaaaDoor
open Go.RowKit Go.Lib Go.WideMaps Go.Maps
set_option linter.unusedVariables false
set_option maxRecDepth 10000

/-- What was claimed. -/
def clA (e : EvR) : List (Int × Int) := if e.k = 3 then [((e.y : Int), e.i)] else []
def clL (d : List EvR) : List (Int × Int) := d.flatMap clA
theorem clL_snoc (d : List EvR) (e : EvR) : clL (d ++ [e]) = clL d ++ clA e := by simp [clL]
theorem clL_len (d : List EvR) : (clL d).length ≤ d.length := by
  induction d with
  | nil => exact Nat.le_refl _
  | cons e d ih =>
    show (clA e ++ clL d).length ≤ _
    have : (clA e).length ≤ 1 := by unfold clA; split <;> simp
    rw [List.length_append, List.length_cons]; omega
set_option maxHeartbeats 4000000 in
set_option maxRecDepth 100000 in
theorem claims_any {a : Option Addr} {cap : Nat} {d : List EvR} {w : World} (h : IsG rE w a cap d) (hd : d.length ≤ 10000) :
    Calls Tryd.prog 5 #[.slice a d.length cap] w fun r w' => ∃ a' cap', r = .returned (.slice a' (clL d).length cap') ∧ IsG rN w' a' cap' (clL d) ∧ Below w.heap.size w w' := by
  obtain ⟨X, hX⟩ : ∃ X, w.heap.size = X := ⟨_, rfl⟩
  have H0 : Aside (IsG rE w a cap d) := h
  have HX : Aside _ := hX
  have hl := h.len
  have O0 : Aside (OwnG rN w X (.slice none 0 0) (clL (d.take 0))) := OwnG.nil _ _ _
  have B0 : Aside (Below X w w) := Below.refl _ _
  have H4 : Aside (d.length ≤ 10000) := hd
  clear hX h hd
  go_enter Tryd.func5, Tryd.ntmps5
  go_wp2_with fail
  go_loopg [3, 8] d.length (fun kx s3 s8 wr => ∃ (I : Nat) (v : Value), v = s3 ∧ s8 = .int .i64 I ∧ I ≤ d.length ∧ d.length - I ≤ kx ∧ Aside (OwnG rN wr X v (clL (d.take I))) ∧ Aside (Below X w wr))
  case atStart => exact ⟨0, _, rfl, rfl, by omega, by omega, O0, B0⟩
  case round =>
    obtain ⟨I, v, rfl, rfl, hI, hkx, O, G⟩ := hrel
    have hXs : Aside (X ≤ wr.heap.size) := by have := G.out.size; have := HX.out; show _ ≤ _; omega
    by_cases hlt : I < d.length
    · have hz : (I : Int) < (d.length : Int) := by omega
      obtain ⟨x, hx⟩ : ∃ x, d[I]? = some x := ⟨_, List.getElem?_eq_getElem hlt⟩
      have Hr : IsG rE wr a cap d := H0.out.below (by rw [HX.out]; exact G.out)
      obtain ⟨b, off, rfl, hb, e0, e1, e2, e3, e4, e5⟩ := evAt Hr hx
      have ET : Aside (clL (d.take (I + 1)) = clL (d.take I) ++ clA x) := by show _ = _; rw [take_snoc hx, clL_snoc]
      have EL : Aside ((clL (d.take I)).length ≤ 10000) := by show _ ≤ _; have h1 := clL_len (d.take I); rw [List.length_take] at h1; have h2 := H4.out; omega
      obtain ⟨Y, hY⟩ : ∃ Y, wr.heap.size = Y := ⟨_, rfl⟩
      obtain ⟨u2, hu2⟩ : ∃ u, wr.alloc (.cells #[.int .i64 x.k, .int .i64 x.t, .int .i64 x.i, .int .u64 x.y, .int .u64 x.c, .int .u64 x.n] 27) = u := ⟨_, rfl⟩
      have b2 : Below wr.heap.size wr u2 := by rw [← hu2]; exact bel1 _ _
      have E2 : EBx u2 Y x := by rw [← hu2, ← hY]; exact EBx.made wr x
      have O2 : Aside (OwnG rN u2 X v (clL (d.take I))) := O.out.below b2
      have G2 : Aside (Below X w u2) := G.out.trans (b2.mono hXs.out)
      have GS2 : Aside (X ≤ u2.heap.size) := by have := b2.size; have := hXs.out; show _ ≤ _; omega
      obtain ⟨_, d0, d1, d2, d3, d4, d5⟩ := id E2
      have HY : Aside _ := hY
      have HU2 : Aside _ := hu2
      clear hY hu2 b2 Hr hx O G E2
      go_upto_region 5 with fail
      rw [HU2.out, HY.out]
      clear e0 e1 e2 e3 e4 e5 hb
      by_cases hk : x.k = 3
      · have EA : Aside (clA x = [((x.y : Int), x.i)]) := if_pos hk
        have P : Calls Tryd.prog 14 #[.agg #[.int .i64 x.k, .int .i64 x.t, .int .i64 x.i, .int .u64 x.y, .int .u64 x.c, .int .u64 x.n]] u2 fun r w' => r = .returned (.agg #[.int .u64 x.y, .int .i64 x.i]) ∧ Below u2.heap.size u2 w' := entryOf_any x u2
        rw [hk] at P
        go_wp2_with fail
        refine P.mono ?_
        rintro r w3 ⟨rfl, b3⟩
        have B3 : Aside (Below X w w3) := G2.out.trans (b3.mono GS2.out)
        obtain ⟨v', w4, hr, o4, b4⟩ := (O2.out.below b3).push ((x.y : Int), x.i) (by have := EL.out; omega) (by have := b3.size; have := GS2.out; omega) 30
        have hr2 : (Builtin.append_ #[30, 30] 30 #[v, .slice (some ⟨w3.heap.size, 0, none⟩) 1 1]).run Tryd.prog (w3.alloc (.cells #[.int .u64 x.y, .int .i64 x.i] 42)) = .ok v' w4 := hr
        have NO : Aside (OwnG rN w4 X v' (clL (d.take (I + 1)))) := by show OwnG _ _ _ _ _; rw [ET.out, EA.out]; exact o4
        have NB : Aside (Below X w w4) := B3.out.trans b4
        clear P d0 d1 d2 d3 d4 d5 b3 b4 o4 hr
        go_wp2_with (at_builtin; refine wpList_app _ rfl _ _ 30 rfl _ _ rfl rfl v' w4 hr2 ?_; clear hr2)
        go_roundg (d.length - (I + 1))
        case measure => omega
        case rel => exact ⟨I + 1, _, rfl, by go_num, by omega, Nat.le_refl _, NO, NB⟩
      · have EA : Aside (clA x = []) := if_neg hk
        have NO : Aside (OwnG rN u2 X v (clL (d.take (I + 1)))) := by show OwnG _ _ _ _ _; rw [ET.out, EA.out, List.append_nil]; exact O2.out
        go_wp2_with fail
        go_roundg (d.length - (I + 1))
        case measure => omega
        case rel => exact ⟨I + 1, _, rfl, by go_num, by omega, Nat.le_refl _, NO, G2⟩
    · have e0 : I = d.length := by omega
      have hz : ¬ (I : Int) < (d.length : Int) := by omega
      subst e0
      rw [List.take_length] at O
      obtain ⟨a', cap', rfl, hg⟩ := O.out.isG
      have FIN : Aside (IsG rN wr a' cap' (clL d)) := hg
      clear hg
      go_wp2_with fail
      go_ret
      exact ⟨a', cap', rfl, FIN.out, by rw [HX.out]; exact G.out⟩
theorem alloc_owns {w : World} {M n : Nat} {D : DataW Value} (h : w.ownsMap Tryd.prog 52 heldR M n D) {w' : World} (hb : Below w.heap.size w w') : w'.ownsMap Tryd.prog 52 heldR M n D := by
  have hM := h.lt
  obtain ⟨es, clock, h1, Ft, hs, hD⟩ := h
  exact ⟨es, clock, (hb.block M hM).trans h1, Ft, hs, hD⟩
set_option maxHeartbeats 4000000 in
set_option maxRecDepth 100000 in
/-- Ready of a row behind which nothing is ready. -/
theorem ready_none {a : Option Addr} {cap : Nat} {d : List EvR} {w : World} (h : IsG rE w a cap d) (hok : ∀ x ∈ d, x.ok) (h40 : d.length ≤ 10000) (hf : okB rw0 d = true) (hg : (reads rw0 d).g = fun _ => none) :
    Calls Tryd.prog 7 #[.slice a d.length cap, .int .i64 d.length] w fun r w' => r = .returned (.slice none 0 0) ∧ Below w.heap.size w w' := by
  obtain ⟨X, hX⟩ : ∃ X, w.heap.size = X := ⟨_, rfl⟩
  have H0 : Aside (IsG rE w a cap d) := h
  have OK : Aside (∀ x ∈ d, x.ok) := hok
  have L40 : Aside (d.length ≤ 10000) := h40
  have FT0 : Aside (okB (reads rw0 (d.take 0)) (d.drop 0) = true) := hf
  have HG : Aside ((reads rw0 d).g = fun _ => none) := hg
  have HX : Aside _ := hX
  have hl := h.len
  have h1 := h.le
  have h2 := h.big
  unfold maxLen at h2
  have q0 : (0 : Int) ≤ (d.length : Int) := by omega
  have q1 : ¬ (d.length : Int) < 0 := by omega
  have q2 : ¬ (0 : Int) > (d.length : Int) := by omega
  have q3 : ¬ (d.length : Int) < (d.length : Int) := by omega
  clear hX h hok h40 hf hg
  go_enter Tryd.func7, Tryd.ntmps7
  go_wp2_with fail
  refine (newRow_any w).mono ?_
  rintro r w3 ⟨R, L, M, rfl, I3, b3, zR, zL, zM⟩
  rw [HX.out] at b3 zR zL zM
  have G3 : Aside (Below X w w3) := b3
  have Z : Aside (X ≤ R ∧ X ≤ L ∧ X ≤ M) := ⟨zR, zL, zM⟩
  have I3 : Aside (RowI w3 R L M rw0 0) := I3
  clear b3 zR zL zM
  go_wp2_with fail
  go_loopg [17] d.length (fun kx s17 wr => ∃ I : Nat, s17 = .int .i64 I ∧ I ≤ d.length ∧ d.length - I ≤ kx ∧ Aside (RowI wr R L M (reads rw0 (d.take I)) (3 * I)) ∧ Aside (Below X w wr) ∧ Aside (okB (reads rw0 (d.take I)) (d.drop I) = true))
  case atStart => exact ⟨0, rfl, by omega, by omega, I3, G3, FT0⟩
  case round =>
    obtain ⟨I, rfl, hI, hkx, IR, G, OB⟩ := hrel
    have hXs : Aside (X ≤ wr.heap.size) := by have := G.out.size; have := HX.out; show _ ≤ _; omega
    by_cases hlt : I < d.length
    · have hz : (I : Int) < (d.length : Int) := by omega
      obtain ⟨x, hx⟩ : ∃ x, d[I]? = some x := ⟨_, List.getElem?_eq_getElem hlt⟩
      have Hr : IsG rE wr a cap d := H0.out.below (by rw [HX.out]; exact G.out)
      obtain ⟨b, off, rfl, hb, e0, e1, e2, e3, e4, e5⟩ := evAt Hr hx
      have HHX : Aside _ := hx
      have xok : Aside x.ok := OK.out _ (mem_at hx)
      obtain ⟨Y, hY⟩ : ∃ Y, wr.heap.size = Y := ⟨_, rfl⟩
      obtain ⟨u2, hu2⟩ : ∃ u, wr.alloc (.cells #[.int .i64 x.k, .int .i64 x.t, .int .i64 x.i, .int .u64 x.y, .int .u64 x.c, .int .u64 x.n] 27) = u := ⟨_, rfl⟩
      have b2 : Below wr.heap.size wr u2 := by rw [← hu2]; exact bel1 _ _
      have E2 : EBx u2 Y x := by rw [← hu2, ← hY]; exact EBx.made wr x
      obtain ⟨s, hs⟩ : ∃ s, reads rw0 (d.take I) = s := ⟨_, rfl⟩
      have HS : Aside _ := hs
      have WF : Aside (∀ i x, s.f i = some x → wfU x.y) := by
        show ∀ i x, _
        rw [← hs]
        exact reads_wf _ _ (fun i x h => by cases h) (fun e he => ok_wfU (OK.out e (List.mem_of_mem_take he)))
      rw [hs] at IR OB
      have OB2 : s.fits x = true ∧ okB (s.read x) (d.drop (I + 1)) = true := by
        have := OB.out
        rw [drop_at hx] at this
        exact Bool.and_eq_true_iff.1 this
      have I2 : RowI u2 R L M s (3 * I) := IR.out.below b2
      have G2 : Aside (Below X w u2) := G.out.trans (b2.mono hXs.out)
      have GS2 : X ≤ u2.heap.size := by have := b2.size; have := hXs.out; omega
      have P : Calls Tryd.prog 13 #[.pointer (some ⟨R, 0, none⟩), .agg #[.int .i64 x.k, .int .i64 x.t, .int .i64 x.i, .int .u64 x.y, .int .u64 x.c, .int .u64 x.n]] u2 fun r w' => r = .returned (.tuple #[]) ∧ ReadIs u2 w' X R L M (3 * I) (s.read x) := read_any I2 (by have := L40.out; omega) x (ok_wfI xok.out) (ok_wfU xok.out) WF.out (fun k1 => fits_made OB2.1 k1 I2.rg.1) (N := X) ⟨GS2, Z.out⟩
      have FT : Aside (okB (s.read x) (d.drop (I + 1)) = true) := OB2.2
      obtain ⟨_, d0, d1, d2, d3, d4, d5⟩ := id E2
      have HY : Aside _ := hY
      have HU2 : Aside _ := hu2
      clear hY hu2 b2 Hr hx IR G hs OB OB2 I2 E2 GS2
      go_upto_region 5 with fail
      rw [HU2.out, HY.out]
      clear e0 e1 e2 e3 e4 e5 hb
      go_wp2_with fail
      refine P.mono ?_
      rintro r w5 ⟨rfl, I5, b5⟩
      have NI : Aside (RowI w5 R L M (reads rw0 (d.take (I + 1))) (3 * (I + 1))) := by
        show RowI _ _ _ _ _ _
        rw [take_snoc HHX.out, reads_snoc, HS.out]
        exact I5.wide (by omega)
      have NG : Aside (Below X w w5) := G2.out.trans b5
      have NO : Aside (okB (reads rw0 (d.take (I + 1))) (d.drop (I + 1)) = true) := by
        show _ = _
        rw [take_snoc HHX.out, reads_snoc, HS.out]
        exact FT.out
      clear d0 d1 d2 d3 d4 d5 P I5 b5
      go_wp2_with fail
      go_roundg (d.length - (I + 1))
      case measure => omega
      case rel => exact ⟨I + 1, by go_num, by omega, Nat.le_refl _, NI, NG, NO⟩
    · have e0 : I = d.length := by omega
      have hz : ¬ (I : Int) < (d.length : Int) := by omega
      subst e0
      rw [List.take_length] at IR
      have IR2 := IR.out
      obtain ⟨_, c1, _⟩ := IR2.cells
      obtain ⟨n, _, MR⟩ := IR2.mr
      rw [HG.out] at MR
      have n0 := MR.none_left (fun _ => rfl)
      subst n0
      obtain ⟨D, o1, o2, _⟩ := MR
      have O1 : Aside (wr.ownsMap Tryd.prog 52 heldR M 0 D) := o1
      have V := values_any M wr
      have GR : Aside (Below X w wr) := G
      clear IR IR2 o1 OB
      go_wp2_with fail
      refine V.mono ?_
      rintro r w5 ⟨rfl, rfl⟩
      have b5 : Below wr.heap.size wr (wr.alloc (.cells #[.map (some M)] 50)) := bel1 _ _
      have C := collect_none wr.heap.size M D (wr.alloc (.cells #[.map (some M)] 50)) (by rw [alloc_sz]; omega) (by rw [cell_fresh]; rfl) (alloc_owns O1.out b5) o2
      clear V c1
      go_wp2_with fail
      refine C.mono ?_
      rintro r w6 ⟨rfl, b6⟩
      have B6 : Aside (Below X w w6) := GR.out.trans ((Below.tr b5 b6).mono hXs.out)
      clear C b6 b5
      go_wp2_with fail
      refine (sort_nil w6).mono ?_
      rintro r w7 ⟨rfl, rfl⟩
      go_wp2_with fail
      go_ret
      exact ⟨rfl, by rw [HX.out]; exact B6.out⟩
end Go.Proofs.YtpenojbfeocjaaaDoor
