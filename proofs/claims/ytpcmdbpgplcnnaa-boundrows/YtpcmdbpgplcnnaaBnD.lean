/- Contracts: Passed, Rho. -/
import Derived.Test.YtpcmdbpgplcnnaaBnC
namespace Go.Proofs.Ytpcmdbpgplcnnaa
open Go.RowKit Go.Lib Go.WideMaps Go.Maps
set_option linter.unusedVariables false
set_option maxRecDepth 10000

/-- An event that may lie in a row: its numbers are whole ones. -/
def EvR.fits (e : EvR) : Prop := wfI e.i ∧ wfI e.t
theorem mem_at {α : Type} {d : List α} {i : Nat} {x : α} (h : d[i]? = some x) : x ∈ d := List.mem_of_getElem? h
theorem take_snoc {α : Type} {d : List α} {i : Nat} {x : α} (h : d[i]? = some x) : d.take (i + 1) = d.take i ++ [x] := by
  rw [List.take_add_one, h]; rfl
theorem drop_at {α : Type} {d : List α} {i : Nat} {x : α} (h : d[i]? = some x) : d.drop i = x :: d.drop (i + 1) := by
  obtain ⟨h1, h2⟩ := List.getElem?_eq_some_iff.1 h
  rw [List.drop_eq_getElem_cons h1, h2]
theorem readsB_snoc (s : RwB) (n : Nat) (d : List EvR) (e : EvR) : readsB s n (d ++ [e]) = (readsB s n d).read ((n + d.length : Nat) : Int) e := by
  induction d generalizing s n with
  | nil => rfl
  | cons x d ih =>
    show readsB (s.read n x) (n + 1) (d ++ [e]) = _
    rw [ih]
    show _ = (readsB (s.read n x) (n + 1) d).read _ e
    congr 2
    rw [List.length_cons]; omega
section
variable {w w' : World} {a : Option Addr} {cap : Nat} {d : List EvR}
theorem IsG.take (h : IsG rE w a cap d) (n : Nat) : IsG rE w a cap (d.take n) := by
  refine ⟨by have := h.le; rw [List.length_take]; omega, h.big, fun j u hu => ?_⟩
  refine h.elem j u ?_
  have hj := (List.getElem?_eq_some_iff.1 hu).1
  rw [← hu]
  have : rE.flat d = rE.flat (d.take n) ++ rE.flat (d.drop n) := by rw [← flat_append, List.take_append_drop]
  rw [this, List.getElem?_append_left hj]
theorem passed_out {n : Int} (hn : n < 0 ∨ (d.length : Int) ≤ n) (w : World) : Calls Try.prog 7 #[.slice a d.length cap, .int .i64 n] w fun r w' => r = .returned (.int .i64 (-1)) ∧ w' = w := by
  have P := isKind_out (a := a) (cap := cap) (w := w) hn 3
  go_enter Try.func7, Try.ntmps7
  go_wp2_with fail
  refine P.mono ?_
  rintro r w1 ⟨rfl, rfl⟩
  go_wp2_with fail
  go_ret
  exact ⟨rfl, rfl⟩
theorem passed_no (h : IsG rE w a cap d) {n : Nat} {e : EvR} (he : d[n]? = some e) (hk : e.k ≠ 3) : Calls Try.prog 7 #[.slice a d.length cap, .int .i64 n] w fun r w' => r = .returned (.int .i64 (-1)) ∧ w' = w := by
  have P := isKind_yes h he 3
  rw [decide_eq_false hk] at P
  go_enter Try.func7, Try.ntmps7
  go_wp2_with fail
  refine P.mono ?_
  rintro r w1 ⟨rfl, rfl⟩
  go_wp2_with fail
  go_ret
  exact ⟨rfl, rfl⟩
set_option maxHeartbeats 4000000 in
set_option maxRecDepth 100000 in
theorem passed_yes (h : IsG rE w a cap d) (hd : d.length ≤ 10000) (ok : ∀ x ∈ d, x.fits) {n : Nat} {e : EvR} (he : d[n]? = some e) (hk : e.k = 3) : Calls Try.prog 7 #[.slice a d.length cap, .int .i64 n] w fun r w' => r = .returned (.int .i64 (pasB d n e)) ∧ Below w.heap.size w w' := by
  have P := isKind_yes h he 3
  rw [decide_eq_true hk] at P
  have HG : Aside (IsG rE w a cap d) := h
  have OK : Aside (∀ x ∈ d, x.fits) := ok
  have HD : Aside (d.length ≤ 10000) := hd
  have HE : Aside (d[n]? = some e) := he
  have hn := (List.getElem?_eq_some_iff.1 he).1
  have hcap : n ≤ cap := by have := h.le; omega
  have hmax := h.big
  have Hn : Aside (n < d.length) := hn
  clear hk he h ok
  go_enter Try.func7, Try.ntmps7
  go_wp2_with fail
  refine P.mono ?_
  rintro r w0 ⟨rfl, rfl⟩
  clear P
  go_wp2_with fail
  refine (newRow_any _).mono ?_
  rintro r w1 ⟨R, L, M, rfl, I1, b1, zR, zL, zM⟩
  have I1 : Aside (RowB w1 R L M rb0 0) := I1
  have B1 : Aside _ := b1
  have Z : Aside _ := And.intro zR (And.intro zL zM)
  clear b1 zR zL zM
  unfold maxLen at hmax
  obtain ⟨X, hX⟩ : ∃ X, w0.heap.size = X := ⟨_, rfl⟩
  have HX : Aside _ := hX
  rw [hX] at B1 Z
  go_wp2_with fail
  go_loopg [17] n (fun kx s17 wr => ∃ I : Nat, s17 = .int .i64 I ∧ I ≤ n ∧ n - I ≤ kx ∧ Aside (RowB wr R L M (readsB rb0 0 (d.take I)) I) ∧ Aside (Below X w0 wr))
  case atStart => exact ⟨0, rfl, by omega, by omega, I1, B1⟩
  case round =>
    obtain ⟨I, rfl, hI, hkx, IR, G⟩ := hrel
    have hXs : Aside (X ≤ wr.heap.size) := by have := G.out.size; have := HX.out; show _ ≤ _; omega
    have Hr : IsG rE wr a cap d := HG.out.below (by rw [HX.out]; exact G.out)
    by_cases hlt : I < n
    · have hz : (I : Int) < (n : Int) := by omega
      obtain ⟨x, hx⟩ : ∃ x, d[I]? = some x := ⟨_, List.getElem?_eq_getElem (by have := Hn.out; omega)⟩
      obtain ⟨b, off, rfl, hb, e0, e1, e2, e3, e4, e5⟩ := evAt Hr hx
      have HHX : Aside _ := hx
      have xok : x.fits := OK.out _ (mem_at hx)
      obtain ⟨Y, hY⟩ : ∃ Y, wr.heap.size = Y := ⟨_, rfl⟩
      obtain ⟨u2, hu2⟩ : ∃ u, wr.alloc (.cells #[.int .i64 x.k, .int .i64 x.t, .int .i64 x.i, .int .u64 x.y, .int .u64 x.c, .int .u64 x.n] 25) = u := ⟨_, rfl⟩
      have b2 : Below wr.heap.size wr u2 := by rw [← hu2]; exact bel1 _ _
      have E2 : EBx u2 Y x := by rw [← hu2, ← hY]; exact EBx.made wr x
      have I2 : RowB u2 R L M (readsB rb0 0 (d.take I)) I := IR.out.below b2
      have G2 : Aside (Below X w0 u2) := G.out.trans (b2.mono hXs.out)
      have GS2 : X ≤ u2.heap.size := by have := b2.size; have := hXs.out; omega
      have P := read_any I2 (by have := HD.out; have := Hn.out; omega) (I : Int) x xok.1 xok.2 (N := X) ⟨GS2, Z.out⟩
      unfold evV at P
      obtain ⟨_, d0, d1, d2, d3, d4, d5⟩ := id E2
      have HY : Aside _ := hY
      have HU2 : Aside _ := hu2
      clear hY hu2 b2 Hr hx IR G xok I2 E2 GS2
      go_upto_region 7 with fail
      rw [HU2.out, HY.out]
      clear e0 e1 e2 e3 e4 e5 hb
      go_wp2_with fail
      refine P.mono ?_
      rintro r w3 ⟨rfl, I3, b3⟩
      have NI : Aside (RowB w3 R L M (readsB rb0 0 (d.take (I + 1))) (I + 1)) := by
        show RowB _ _ _ _ _ _
        have e1 : (d.take I).length = I := by rw [List.length_take]; have := Hn.out; omega
        rw [take_snoc HHX.out, readsB_snoc, e1, Nat.zero_add]
        exact I3
      have NG : Aside (Below X w0 w3) := G2.out.trans b3
      clear d0 d1 d2 d3 d4 d5 P I3 b3
      go_wp2_with fail
      go_roundg (n - (I + 1))
      case measure => omega
      case rel => exact ⟨I + 1, by go_num, by omega, Nat.le_refl _, NI, NG⟩
    · have e0 : I = n := by omega
      have hz : ¬ (I : Int) < (n : Int) := by omega
      subst e0
      obtain ⟨b, off, rfl, hb, e0, e1, e2, e3, e4, e5⟩ := evAt Hr HE.out
      have hn' : (I : Int) < d.length := by have := Hn.out; omega
      have P := passed_any IR.out (by have := HD.out; have := Hn.out; omega) e (OK.out _ (mem_at HE.out)).2
      unfold evV at P
      clear Hr IR
      go_wp2_with fail
      refine P.mono ?_
      rintro r w3 ⟨rfl, b3⟩
      go_wp2_with fail
      go_ret
      exact ⟨rfl, by rw [HX.out]; exact G.out.trans (b3.mono hXs.out)⟩
/-! ## Rho -/
theorem rhoB_snoc (s : RwB) (g : Int) (n : Nat) (d : List EvR) (e : EvR) : rhoB s g n (d ++ [e]) = if e.k = 3 then max (rhoB s g n d) ((readsB s n d).pas e) else rhoB s g n d := by
  induction d generalizing s g n with
  | nil => rfl
  | cons x d ih => exact ih _ _ _
theorem pas_le (s : RwB) (e : EvR) : -1 ≤ s.pas e ∧ s.pas e ≤ s.S.length := by
  unfold RwB.pas
  have h := List.length_filter_le (fun p : Int × WtR => true) s.S
  cases kget e.t s.K with
  | none => exact ⟨by show (-1 : Int) ≤ -1; omega, by show (-1 : Int) ≤ _; omega⟩
  | some p =>
    obtain ⟨a, j⟩ := p
    show -1 ≤ (if j = e.i then _ else _) ∧ (if j = e.i then _ else _) ≤ _
    have h := List.length_filter_le (fun p : Int × WtR => overB a e p.2) s.S
    split <;> omega
theorem readsB_len (s : RwB) (n : Nat) (d : List EvR) : (readsB s n d).S.length ≤ s.S.length + d.length := by
  induction d generalizing s n with
  | nil => exact Nat.le_refl _
  | cons x d ih =>
    have h1 : (s.read n x).S.length ≤ s.S.length + 1 := by
      unfold RwB.read RwB.turn
      split
      · exact Nat.le_succ _
      · split
        · omega
        · split
          · exact kput_len
          · split
            · have := @kdel_len _ x.i s.S
              show (kdel x.i s.S).length ≤ _
              omega
            · split
              · exact kput_len
              · omega
    have h2 := ih (s.read n x) (n + 1)
    show (readsB (s.read n x) (n + 1) d).S.length ≤ _
    rw [List.length_cons]
    omega
theorem pas_take {d : List EvR} {I : Nat} (hI : I ≤ d.length) (e : EvR) : -1 ≤ (readsB rb0 0 (d.take I)).pas e ∧ (readsB rb0 0 (d.take I)).pas e ≤ I := by
  have h1 := pas_le (readsB rb0 0 (d.take I)) e
  have h2 := readsB_len rb0 0 (d.take I)
  have e1 : (d.take I).length = I := by rw [List.length_take]; omega
  have e2 : rb0.S.length = 0 := rfl
  omega
set_option maxHeartbeats 4000000 in
set_option maxRecDepth 100000 in
theorem rho_any (h : IsG rE w a cap d) (hd : d.length ≤ 10000) (ok : ∀ x ∈ d, x.fits) : Calls Try.prog 8 #[.slice a d.length cap] w fun r w' => r = .returned (.int .i64 (rhoB rb0 0 0 d)) ∧ Below w.heap.size w w' := by
  have HG : Aside (IsG rE w a cap d) := h
  have OK : Aside (∀ x ∈ d, x.fits) := ok
  have HD : Aside (d.length ≤ 10000) := hd
  obtain ⟨X, hX⟩ : ∃ X, w.heap.size = X := ⟨_, rfl⟩
  have HX : Aside _ := hX
  have P := newRow_any w
  clear hX h ok
  go_enter Try.func8, Try.ntmps8
  go_wp2_with fail
  refine P.mono ?_
  rintro r w1 ⟨R, L, M, rfl, I1, b1, zR, zL, zM⟩
  have I1 : Aside (RowB w1 R L M rb0 0) := I1
  have B1 : Aside _ := b1
  have Z : Aside _ := And.intro zR (And.intro zL zM)
  rw [HX.out] at B1 Z
  clear b1 zR zL zM P
  go_wp2_with fail
  go_loopg [4, 10] d.length (fun kx s4 s10 wr => ∃ (I : Nat) (g : Int), s4 = .int .i64 g ∧ s10 = .int .i64 I ∧ I ≤ d.length ∧ d.length - I ≤ kx ∧ Aside (RowB wr R L M (readsB rb0 0 (d.take I)) I) ∧ Aside (Below X w wr) ∧ Aside (g = rhoB rb0 0 0 (d.take I) ∧ 0 ≤ g ∧ g ≤ I))
  case atStart => exact ⟨0, 0, rfl, rfl, by omega, by omega, I1, B1, ⟨rfl, by omega, by omega⟩⟩
  case round =>
    obtain ⟨I, g, rfl, rfl, hI, hkx, IR, G, GR⟩ := hrel
    have hXs : Aside (X ≤ wr.heap.size) := by have := G.out.size; have := HX.out; show _ ≤ _; omega
    have Hr : IsG rE wr a cap d := HG.out.below (by rw [HX.out]; exact G.out)
    by_cases hlt : I < d.length
    · have hz : (I : Int) < (d.length : Int) := by omega
      obtain ⟨x, hx⟩ : ∃ x, d[I]? = some x := ⟨_, List.getElem?_eq_getElem hlt⟩
      obtain ⟨b, off, rfl, hb, e0, e1, e2, e3, e4, e5⟩ := evAt Hr hx
      have HHX : Aside _ := hx
      have xok : Aside x.fits := OK.out _ (mem_at hx)
      obtain ⟨Y, hY⟩ : ∃ Y, wr.heap.size = Y := ⟨_, rfl⟩
      obtain ⟨u2, hu2⟩ : ∃ u, wr.alloc (.cells #[.int .i64 x.k, .int .i64 x.t, .int .i64 x.i, .int .u64 x.y, .int .u64 x.c, .int .u64 x.n] 25) = u := ⟨_, rfl⟩
      have b2 : Below wr.heap.size wr u2 := by rw [← hu2]; exact bel1 _ _
      have E2 : EBx u2 Y x := by rw [← hu2, ← hY]; exact EBx.made wr x
      have I2 : Aside (RowB u2 R L M (readsB rb0 0 (d.take I)) I) := IR.out.below b2
      have G2 : Aside (Below X w u2) := G.out.trans (b2.mono hXs.out)
      have GS2 : Aside (X ≤ u2.heap.size) := by have := b2.size; have := hXs.out; show _ ≤ _; omega
      obtain ⟨_, d0, d1, d2, d3, d4, d5⟩ := id E2
      have HY : Aside _ := hY
      have HU2 : Aside _ := hu2
      clear hY hu2 b2 Hr hx IR G
      go_upto_region 5 with fail
      rw [HU2.out, HY.out]
      clear e0 e1 e2 e3 e4 e5 hb
      have RS : readsB rb0 0 (d.take (I + 1)) = (readsB rb0 0 (d.take I)).read (I : Int) x := by
        have e1 : (d.take I).length = I := by rw [List.length_take]; omega
        rw [take_snoc HHX.out, readsB_snoc, e1, Nat.zero_add]
      have RS : Aside _ := RS
      have RH : rhoB rb0 0 0 (d.take (I + 1)) = if x.k = 3 then max (rhoB rb0 0 0 (d.take I)) ((readsB rb0 0 (d.take I)).pas x) else rhoB rb0 0 0 (d.take I) := by
        rw [take_snoc HHX.out, rhoB_snoc]
      have RH : Aside _ := RH
      have PT := pas_take (d := d) (I := I) (by omega) x
      have PT : Aside _ := PT
      by_cases k3 : x.k = 3
      · have P := passed_any I2.out (by have := HD.out; omega) x xok.out.2
        unfold evV at P
        obtain ⟨q, hq⟩ : ∃ q, (readsB rb0 0 (d.take I)).pas x = q := ⟨_, rfl⟩
        have HQ : Aside _ := hq
        rw [hq] at P
        go_upto_region 6 with fail
        have K3 : Aside _ := k3
        clear k3 hq
        go_wp2_with fail
        refine P.mono ?_
        rintro r w3 ⟨rfl, b3⟩
        have E3 : EBx w3 Y x := E2.below b3
        have I3 : RowB w3 R L M (readsB rb0 0 (d.take I)) I := I2.out.below b3
        have G3 : Aside (Below X w w3) := G2.out.trans (b3.mono GS2.out)
        have GS3 : Aside (X ≤ w3.heap.size) := by have := b3.size; have := GS2.out; show _ ≤ _; omega
        have P := read_any I3 (by have := HD.out; omega) (I : Int) x xok.out.1 xok.out.2 (N := X) ⟨GS3.out, Z.out⟩
        unfold evV at P
        clear d0 d1 d2 d3 d4 d5 b3 I3 E2
        obtain ⟨_, d0, d1, d2, d3, d4, d5⟩ := id E3
        have gm : Aside (max g q = rhoB rb0 0 0 (d.take (I + 1)) ∧ 0 ≤ max g q ∧ max g q ≤ ((I + 1 : Nat) : Int)) := by
          obtain ⟨h1, h2, h3⟩ := GR.out
          have h4 := PT.out
          rw [HQ.out] at h4
          refine ⟨?_, by omega, by omega⟩
          rw [RH.out, if_pos K3.out, HQ.out, ← h1]
        go_wp2_with fail
        all_goals
        · refine P.mono ?_
          rintro r w4 ⟨rfl, I4, b4⟩
          have NI : Aside (RowB w4 R L M (readsB rb0 0 (d.take (I + 1))) (I + 1)) := by
            show RowB _ _ _ _ _ _
            rw [RS.out]
            exact I4
          have NG : Aside (Below X w w4) := G3.out.trans b4
          clear d0 d1 d2 d3 d4 d5 P I4 b4
          go_wp2_with fail
          go_roundg (d.length - (I + 1))
          case measure => omega
          case rel => exact ⟨I + 1, _, rfl, by go_num, by omega, Nat.le_refl _, NI, NG, by first | exact gm | (have := gm.out; show _ ∧ _; omega)⟩
      · have P := read_any I2.out (by have := HD.out; omega) (I : Int) x xok.out.1 xok.out.2 (N := X) ⟨GS2.out, Z.out⟩
        unfold evV at P
        go_wp2_with fail
        refine P.mono ?_
        rintro r w4 ⟨rfl, I4, b4⟩
        have NI : Aside (RowB w4 R L M (readsB rb0 0 (d.take (I + 1))) (I + 1)) := by
          show RowB _ _ _ _ _ _
          rw [RS.out]
          exact I4
        have NG : Aside (Below X w w4) := G2.out.trans b4
        have gm : Aside (g = rhoB rb0 0 0 (d.take (I + 1)) ∧ 0 ≤ g ∧ g ≤ ((I + 1 : Nat) : Int)) := by
          obtain ⟨h1, h2, h3⟩ := GR.out
          refine ⟨?_, by omega, by omega⟩
          rw [RH.out, if_neg k3, ← h1]
        clear d0 d1 d2 d3 d4 d5 P I4 b4
        go_wp2_with fail
        go_roundg (d.length - (I + 1))
        case measure => omega
        case rel => exact ⟨I + 1, g, rfl, by go_num, by omega, Nat.le_refl _, NI, NG, gm⟩
    · have e0 : I = d.length := by omega
      have hz : ¬ (I : Int) < (d.length : Int) := by omega
      subst e0
      have FIN : Aside (g = rhoB rb0 0 0 d) := by
        have := GR.out.1
        rw [List.take_length] at this
        exact this
      go_wp2_with fail
      go_ret
      refine ⟨?_, by rw [HX.out]; exact G.out⟩
      rw [← FIN.out]
      rfl
end
end Go.Proofs.Ytpcmdbpgplcnnaa
