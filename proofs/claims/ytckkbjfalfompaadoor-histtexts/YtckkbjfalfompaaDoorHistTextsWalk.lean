/- 'HistTexts': the walk. -/
import Derived.Test.YtckkbjfalfompaaDoorHiA
import Derived.Test.YtckkbjfalfompaaDoorHiIn
namespace Go.Proofs.YtckkbjfalfompaaDoor
open Go.RowKit Go.Lib Go.Shelf Go.Sort
set_option linter.unusedVariables false
set_option maxRecDepth 10000

theorem byte_at (s : ByteArray) (l : List UInt8) (hs : s.data.toList = l) (I : Nat) (h : I < s.size) (h' : I < l.length) : s[I] = l[I] := by
  subst hs
  show s.data[I] = _
  simp
theorem eqE (x y : EvR) (w : World) : (if x.k = y.k then
      if x.t = y.t then
        if x.i = y.i then
          if (x.y : Int) = y.y then
            if (x.c : Int) = y.c then
              if (x.n : Int) = y.n then Result.ok (Next.value (Value.bool true)) w
              else Result.ok (Next.value (Value.bool false)) w
            else Result.ok (Next.value (Value.bool false)) w
          else Result.ok (Next.value (Value.bool false)) w
        else Result.ok (Next.value (Value.bool false)) w
      else Result.ok (Next.value (Value.bool false)) w
    else Result.ok (Next.value (Value.bool false)) w : Result Next) = Result.ok (Next.value (Value.bool (eqB x y))) w := by
  by_cases h : x = y
  · subst h; rw [eqB_self]; simp
  · rw [eqB_no h]
    by_cases h1 : x.k = y.k
    · by_cases h2 : x.t = y.t
      · by_cases h3 : x.i = y.i
        · by_cases h4 : (x.y : Int) = y.y
          · by_cases h5 : (x.c : Int) = y.c
            · by_cases h6 : (x.n : Int) = y.n
              · exact absurd (EvR.ext h1 h2 h3 (by omega) (by omega) (by omega)) h
              · rw [if_pos h1, if_pos h2, if_pos h3, if_pos h4, if_pos h5, if_neg h6]
            · rw [if_pos h1, if_pos h2, if_pos h3, if_pos h4, if_neg h5]
          · rw [if_pos h1, if_pos h2, if_pos h3, if_neg h4]
        · rw [if_pos h1, if_pos h2, if_neg h3]
      · rw [if_pos h1, if_neg h2]
    · rw [if_neg h1]
theorem txts_dec (d e : List EvR) : txts d = txts e ↔ d = e := ⟨txts_inj, fun h => by rw [h]⟩
set_option maxHeartbeats 16000000 in
set_option maxRecDepth 100000 in
theorem histTexts_evs (a1 a2 : Option Addr) (c1 c2 : Nat) (d e : List EvR) (w : World) (h1 : IsG rE w a1 c1 d) (h2 : IsG rE w a2 c2 e) (k1 : ∀ x ∈ d, x.ok) (k2 : ∀ x ∈ e, x.ok) (hN : Tb w) :
    Calls Tryd.prog 4 #[.slice a1 d.length c1, .slice a2 e.length c2] w fun r w' => r = .returned (.bool true) ∧ Below w.heap.size w w' := by
  have hl1 := h1.len
  have hl2 := h2.len
  have TB : Aside (Tb w) := hN
  have H1 : Aside (IsG rE w a1 c1 d) := h1
  have H2 : Aside (IsG rE w a2 c2 e) := h2
  have K1 : Aside (∀ x ∈ d, x.ok) := k1
  have K2 : Aside (∀ x ∈ e, x.ok) := k2
  clear hN h1 h2 k1 k2
  by_cases hb : 40 < d.length
  · have hb' : (40 : Int) < (d.length : Int) := by omega
    have aq := awake_any w TB.out
    go_enter Tryd.func4, Tryd.ntmps4
    go_wp2_with fail
    refine aq.mono ?_
    rintro r w1 ⟨rfl, b1⟩
    go_wp2
    go_ret
    exact ⟨rfl, b1⟩
  · have hb' : ¬ (40 : Int) < (d.length : Int) := by omega
    by_cases hc : 40 < e.length
    · have hc' : (40 : Int) < (e.length : Int) := by omega
      have aq := awake_any w TB.out
      go_enter Tryd.func4, Tryd.ntmps4
      go_wp2_with fail
      refine aq.mono ?_
      rintro r w1 ⟨rfl, b1⟩
      go_wp2
      go_ret
      exact ⟨rfl, b1⟩
    · have hc' : ¬ (40 : Int) < (e.length : Int) := by omega
      have P := text_any a1 c1 d w H1.out K1.out (by omega) TB.out
      go_enter Tryd.func4, Tryd.ntmps4
      go_wp2_with fail
      refine P.mono ?_
      rintro r w2 ⟨s, rfl, hs, b2⟩
      have Q := text_any a2 c2 e w2 (H2.out.below b2) K2.out (by omega) (TB.out.below b2)
      have B2 : Aside (Below w.heap.size w w2) := b2
      have HS : Aside (s.data.toList = txts d) := hs
      clear P hs b2
      go_wp2_with fail
      refine Q.mono ?_
      rintro r w3 ⟨t, rfl, ht, b3⟩
      have B3 : Aside (Below w.heap.size w w3) := Below.tr B2.out b3
      have HT : Aside (t.data.toList = txts e) := ht
      have LS : s.size = (txts d).length := by rw [size_eq, HS.out]
      have LB : (txts d).length ≤ 40 * 126 := Nat.le_trans (txts_len K1.out) (Nat.mul_le_mul_right 126 (by omega))
      have hsz : s.size ≤ 10000 := by omega
      have HLS : Aside _ := LS
      clear Q ht b3 LS LB
      go_wp2_with fail
      go_loopg [7, 8] s.size (fun kx s7 s8 wr => ∃ I N : Nat, s7 = .int .i64 N ∧ s8 = .int .i64 I ∧ I ≤ s.size ∧ s.size - I ≤ kx ∧ N ≤ I ∧ Aside (N = ((txts d).take I).count 10) ∧ Aside (Below w3.heap.size w3 wr))
      case atStart => exact ⟨0, 0, rfl, rfl, by omega, by omega, Nat.le_refl _, rfl, Below.refl _ w3⟩
      case round =>
        obtain ⟨I, N, rfl, rfl, hI, hkx, hNI, CN, G⟩ := hrel
        by_cases hlt : I < s.size
        · have hzI : (I : Int) < (s.size : Int) := by omega
          have hlt' : I < (txts d).length := by rw [← HLS.out]; exact hlt
          have hx := byte_at s (txts d) HS.out I hlt hlt'
          obtain ⟨x, hxx⟩ : ∃ x, (txts d)[I] = x := ⟨_, rfl⟩
          rw [hxx] at hx
          have TK : (txts d).take (I + 1) = (txts d).take I ++ [x] := by rw [← hxx]; exact List.take_succ_eq_append_getElem hlt'
          have HTK : Aside _ := TK
          clear hxx TK
          by_cases e10 : x = 10
          · subst e10
            have NC : Aside (N + 1 = ((txts d).take (I + 1)).count 10) := by
              show _ = _
              rw [HTK.out, List.count_append, ← CN.out]; rfl
            go_wp2
            go_roundg (s.size - (I + 1))
            case measure => omega
            case rel => exact ⟨I + 1, N + 1, by go_num, by go_num, by omega, Nat.le_refl _, by omega, NC, G⟩
          · have e' : ¬ (x.toNat : Int) = 10 := fun h => e10 (UInt8.toNat_inj.1 (by show x.toNat = 10; omega))
            have e2 : ((x.toNat : Int) == 10) = false := by simpa using e'
            have NC : Aside (N = ((txts d).take (I + 1)).count 10) := by
              show _ = _
              rw [HTK.out, List.count_append, ← CN.out, List.count_singleton]
              simp [e10]
            go_wp2
            go_roundg (s.size - (I + 1))
            case measure => omega
            case rel => exact ⟨I + 1, N, rfl, by go_num, by omega, Nat.le_refl _, by omega, NC, G⟩
        · have hzI : ¬ (I : Int) < (s.size : Int) := by omega
          have NE : N = d.length := by
            have h := CN.out
            have e0 : I = (txts d).length := by rw [← HLS.out]; omega
            rw [e0, List.take_length, txts_count] at h
            exact h
          subst NE
          clear CN
          go_upto_region 11 with fail
          go_wp2_with fail
          go_loopg [9, 10] d.length (fun kx s9 s10 wq => ∃ (J : Nat) (V : Bool), s9 = .bool V ∧ s10 = .int .i64 J ∧ J ≤ d.length ∧ d.length - J ≤ kx ∧ Aside ((V = true → d.take J = e.take J ∧ d.length = e.length) ∧ (V = false → d ≠ e)) ∧ Aside (Below w3.heap.size w3 wq))
          case atStart => exact ⟨0, _, rfl, rfl, by omega, by omega, ⟨fun h => ⟨rfl, by simp at h; omega⟩, fun h e => by subst e; simp at h⟩, G⟩
          case round =>
            obtain ⟨J, V, rfl, rfl, hJ, hkj, IV, GQ⟩ := hrel
            cases V with
            | false =>
              have hne : d ≠ e := IV.out.2 rfl
              have nst : ¬ s.toList = t.toList := fun h => hne (txts_inj (by rw [← HS.out, ← HT.out, ← ByteArray.toList_eq, ← ByteArray.toList_eq, h]))
              have nsb : (s.toList == t.toList) = false := by simp [nst]
              have aq := awake_any _ (TB.out.below (Below.tr B3.out GQ.out))
              have GF := Below.tr B3.out GQ.out
              have GF : Aside _ := GF
              go_wp2_with fail
              refine aq.mono ?_
              rintro r w9 ⟨rfl, b9⟩
              go_wp2
              go_ret
              exact ⟨rfl, Below.tr GF.out b9⟩
              | true =>
              have hL : d.length = e.length := (IV.out.1 rfl).2
              by_cases hlt : J < d.length
              · have hzJ : (J : Int) < (d.length : Int) := by omega
                have hlt2 : J < e.length := by omega
                have hlt2z : (J : Int) < (e.length : Int) := by omega
                obtain ⟨x, hx⟩ : ∃ x, d[J]? = some x := ⟨_, List.getElem?_eq_getElem hlt⟩
                obtain ⟨y, hy⟩ : ∃ y, e[J]? = some y := ⟨_, List.getElem?_eq_getElem hlt2⟩
                have GB : RowKit.Below w.heap.size w wr := Below.tr B3.out GQ.out
                obtain ⟨b1, o1, ha1, hb1, x0, x1, x2, x3, x4, x5⟩ := evAt (H1.out.below GB) hx
                obtain ⟨b2, o2, ha2, hb2, y0, y1, y2, y3, y4, y5⟩ := evAt (H2.out.below GB) hy
                subst ha1 ha2
                have HX : Aside _ := hx
                have HY : Aside _ := hy
                have IV' : Aside (d.take J = e.take J) := (IV.out.1 rfl).1
                clear hx hy IV
                go_upto_region 14 with fail
                refine wp_region_held_drew (S := (fun V : World => V.cell? ⟨b1, o1 + J * 6, none⟩ = some (.int .i64 x.k) ∧ V.cell? ⟨b1, o1 + J * 6 + 1, none⟩ = some (.int .i64 x.t) ∧ V.cell? ⟨b1, o1 + J * 6 + 2, none⟩ = some (.int .i64 x.i) ∧ V.cell? ⟨b1, o1 + J * 6 + 3, none⟩ = some (.int .u64 x.y) ∧ V.cell? ⟨b1, o1 + J * 6 + 4, none⟩ = some (.int .u64 x.c) ∧ V.cell? ⟨b1, o1 + J * 6 + 5, none⟩ = some (.int .u64 x.n) ∧ V.cell? ⟨b2, o2 + J * 6, none⟩ = some (.int .i64 y.k) ∧ V.cell? ⟨b2, o2 + J * 6 + 1, none⟩ = some (.int .i64 y.t) ∧ V.cell? ⟨b2, o2 + J * 6 + 2, none⟩ = some (.int .i64 y.i) ∧ V.cell? ⟨b2, o2 + J * 6 + 3, none⟩ = some (.int .u64 y.y) ∧ V.cell? ⟨b2, o2 + J * 6 + 4, none⟩ = some (.int .u64 y.c) ∧ V.cell? ⟨b2, o2 + J * 6 + 5, none⟩ = some (.int .u64 y.n))) (by kernel_rfl) ((⟨x0, x1, x2, x3, x4, x5, y0, y1, y2, y3, y4, y5⟩ : _)) (fun hHeld => ?_)
                refine wpAnyH_take (i := 0) (oi := { dst := some 50, op := Op.move (Operand.tmp 0), type := 24, pos := "extra.go:81", after := #[], guard := none }) (v := ?_) rfl (by kernel_rfl) (by kernel_rfl) (by kernel_rfl) (fun _ _ _ h => h) (Or.inl ⟨by rfl, ?_⟩) (by assumption) ?_
                rotate_left
                · (intro w hSw; (try dsimp only at hSw); go_simp; try with_reducible rfl)
                simp only [Act.put, List.setIfInBounds_toArray, List.set_cons_zero, List.set_cons_succ]
                refine wpAnyH_take (i := 1) (oi := { dst := some 51, op := Op.move (Operand.tmp 10), type := 3, pos := "extra.go:81", after := #[], guard := none }) (v := ?_) rfl (by kernel_rfl) (by kernel_rfl) (by kernel_rfl) (fun _ _ _ h => h) (Or.inl ⟨by rfl, ?_⟩) (by assumption) ?_
                rotate_left
                · (intro w hSw; (try dsimp only at hSw); go_simp; try with_reducible rfl)
                simp only [Act.put, List.setIfInBounds_toArray, List.set_cons_zero, List.set_cons_succ]
                refine wpAnyH_take (i := 2) (oi := { dst := some 52, op := Op.indexAddr 24 (Operand.tmp 50) (Operand.tmp 51), type := 0, pos := "extra.go:81", after := #[{ on := 0, ground := Ground.data }, { on := 1, ground := Ground.data }], guard := none }) (v := ?_) rfl (by kernel_rfl) (by kernel_rfl) (by kernel_rfl) (fun _ _ _ h => h) (Or.inl ⟨by rfl, ?_⟩) (by assumption) ?_
                rotate_left
                · (intro w hSw; (try dsimp only at hSw); go_simp; try with_reducible rfl)
                simp only [Act.put, List.setIfInBounds_toArray, List.set_cons_zero, List.set_cons_succ]
                refine wpAnyH_take (i := 3) (oi := { dst := some 53, op := Op.load 27 (Operand.tmp 52), type := 27, pos := "extra.go:81", after := #[{ on := 2, ground := Ground.data }], guard := none }) (v := ?_) rfl (by kernel_rfl) (by kernel_rfl) (by kernel_rfl) (fun _ _ _ h => h) (Or.inl ⟨by rfl, ?_⟩) (by assumption) ?_
                rotate_left
                · (intro w hSw; (try dsimp only at hSw); go_simp; try with_reducible rfl)
                simp only [Act.put, List.setIfInBounds_toArray, List.set_cons_zero, List.set_cons_succ]
                refine wpAnyH_take (i := 4) (oi := { dst := some 54, op := Op.move (Operand.tmp 1), type := 24, pos := "extra.go:81", after := #[], guard := none }) (v := ?_) rfl (by kernel_rfl) (by kernel_rfl) (by kernel_rfl) (fun _ _ _ h => h) (Or.inl ⟨by rfl, ?_⟩) (by assumption) ?_
                rotate_left
                · (intro w hSw; (try dsimp only at hSw); go_simp; try with_reducible rfl)
                simp only [Act.put, List.setIfInBounds_toArray, List.set_cons_zero, List.set_cons_succ]
                refine wpAnyH_take (i := 5) (oi := { dst := some 55, op := Op.move (Operand.tmp 10), type := 3, pos := "extra.go:81", after := #[], guard := none }) (v := ?_) rfl (by kernel_rfl) (by kernel_rfl) (by kernel_rfl) (fun _ _ _ h => h) (Or.inl ⟨by rfl, ?_⟩) (by assumption) ?_
                rotate_left
                · (intro w hSw; (try dsimp only at hSw); go_simp; try with_reducible rfl)
                simp only [Act.put, List.setIfInBounds_toArray, List.set_cons_zero, List.set_cons_succ]
                refine wpAnyH_take (i := 6) (oi := { dst := some 56, op := Op.indexAddr 24 (Operand.tmp 54) (Operand.tmp 55), type := 0, pos := "extra.go:81", after := #[{ on := 4, ground := Ground.data }, { on := 5, ground := Ground.data }], guard := none }) (v := ?_) rfl (by kernel_rfl) (by kernel_rfl) (by kernel_rfl) (fun _ _ _ h => h) (Or.inl ⟨by rfl, ?_⟩) (by assumption) ?_
                rotate_left
                · (intro w hSw; (try dsimp only at hSw); go_simp; try with_reducible rfl)
                simp only [Act.put, List.setIfInBounds_toArray, List.set_cons_zero, List.set_cons_succ]
                refine wpAnyH_take (i := 7) (oi := { dst := some 57, op := Op.load 27 (Operand.tmp 56), type := 27, pos := "extra.go:81", after := #[{ on := 6, ground := Ground.data }], guard := none }) (v := ?_) rfl (by kernel_rfl) (by kernel_rfl) (by kernel_rfl) (fun _ _ _ h => h) (Or.inl ⟨by rfl, ?_⟩) (by assumption) ?_
                rotate_left
                · (intro w hSw; (try dsimp only at hSw); go_simp; try with_reducible rfl)
                simp only [Act.put, List.setIfInBounds_toArray, List.set_cons_zero, List.set_cons_succ]
                refine wpAnyH_take (i := 8) (oi := { dst := some 58, op := Op.binOp BinOp.eql 27 (Operand.tmp 53) (Operand.tmp 57) 27, type := 4, pos := "extra.go:81", after := #[{ on := 3, ground := Ground.data }, { on := 7, ground := Ground.data }], guard := none }) (v := .bool (eqB x y)) rfl (by kernel_rfl) (by kernel_rfl) (by kernel_rfl) (fun _ _ _ h => h) (Or.inl ⟨by rfl, (by intro w hSw; (try dsimp only at hSw); go_simp; exact eqE x y _)⟩) (by assumption) ?_
                simp only [Act.put, List.setIfInBounds_toArray, List.set_cons_zero, List.set_cons_succ]
                refine wpAnyH_take (i := 9) (oi := { dst := some 9, op := Op.assign (Operand.tmp 58), type := 4, pos := "extra.go:81", after := #[{ on := 8, ground := Ground.data }, { on := 0, ground := Ground.phase }, { on := 1, ground := Ground.phase }, { on := 2, ground := Ground.phase }, { on := 3, ground := Ground.phase }, { on := 4, ground := Ground.phase }, { on := 5, ground := Ground.phase }, { on := 6, ground := Ground.phase }, { on := 7, ground := Ground.phase }, { on := 8, ground := Ground.phase }], guard := none }) (v := ?_) rfl (by kernel_rfl) (by kernel_rfl) (by kernel_rfl) (fun _ _ _ h => h) (Or.inl ⟨by rfl, ?_⟩) (by assumption) ?_
                rotate_left
                · (intro w hSw; (try dsimp only at hSw); go_simp; try with_reducible rfl)
                simp only [Act.put, List.setIfInBounds_toArray, List.set_cons_zero, List.set_cons_succ]
                refine wpAnyH_done (by kernel_rfl) ?_ _
                go_wp2
                go_roundg (d.length - (J + 1))
                case measure => omega
                case rel =>
                  refine ⟨J + 1, _, rfl, by go_num, by omega, Nat.le_refl _, ?_, GQ.out.drew⟩
                  refine ⟨fun hq => ?_, fun hq => ?_⟩
                  · have exy : x = y := eqB_yes hq
                    exact ⟨by rw [take_up HX.out, take_up HY.out, IV'.out, exy], hL⟩
                  · intro hde
                    subst hde
                    have := HX.out.symm.trans HY.out
                    simp at this
                    subst this; rw [eqB_self] at hq; cases hq
              · have hzJ : ¬ (J : Int) < (d.length : Int) := by omega
                have hde : d = e := by
                  have h := IV.out
                  have e0 : J = d.length := by omega
                  have h := (h.1 rfl).1
                  rw [e0, List.take_length, hL, List.take_length] at h
                  exact h
                have st : s = t := by
                  have h := HS.out.trans ((congrArg txts hde).trans HT.out.symm)
                  rw [bytes_eq h, bytes_eq (rfl : t.data.toList = _)]
                subst st
                have aq := awake_any _ (TB.out.below (Below.tr B3.out GQ.out))
                have GF := Below.tr B3.out GQ.out
                have GF : Aside _ := GF
                go_wp2_with fail
                refine aq.mono ?_
                rintro r w9 ⟨rfl, b9⟩
                go_wp2
                go_ret
                exact ⟨rfl, Below.tr GF.out b9⟩
theorem histTexts_walk (a0 : Option Addr) (n0 c0 : Nat) (d : List EvR) (a1 : Option Addr) (n1 c1 : Nat) (e : List EvR) (w : World) (h0 : d.length = n0 ∧ IsG rE w a0 c0 d ∧ ∀ x ∈ d, x.ok) (h1 : e.length = n1 ∧ IsG rE w a1 c1 e ∧ ∀ x ∈ e, x.ok) (hN : Tb w) :
    Calls Tryd.prog 4 #[.slice a0 n0 c0, .slice a1 n1 c1] w fun r w' => r = .returned (.bool true) ∧ RowKit.Below w.heap.size w w' := by
  obtain ⟨rfl, g0, k0⟩ := h0
  obtain ⟨rfl, g1, k1⟩ := h1
  exact histTexts_evs a0 a1 c0 c1 d e w g0 g1 k0 k1 hN
end Go.Proofs.YtckkbjfalfompaaDoor
