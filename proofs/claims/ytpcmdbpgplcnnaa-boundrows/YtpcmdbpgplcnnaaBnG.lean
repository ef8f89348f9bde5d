/- Contracts: waited, Waited. -/
import Derived.Test.YtpcmdbpgplcnnaaBnF
import Derived.WalkMore
namespace Go.Proofs.Ytpcmdbpgplcnnaa
open Go.RowKit Go.Lib Go.WideMaps Go.Maps
set_option linter.unusedVariables false
set_option maxRecDepth 10000

section
variable {w w' : World} {a a2 : Option Addr} {cap cap2 : Nat} {d : List EvR} {z : List Int}
theorem happens_evs (e : EvR) (i : Int) (w : World) : Calls Try.prog 26 #[.agg #[.int .i64 e.k, .int .i64 e.t, .int .i64 e.i, .int .u64 e.y, .int .u64 e.c, .int .u64 e.n], .int .i64 i] w fun r w' => r = .returned (.bool (hapB e i)) ∧ Below w.heap.size w w' := happens_any e i w
theorem keep7 {V V' : World} {b : Nat} {p1 p2 p3 p4 p5 p6 p7 : Nat} {v1 v2 v3 v4 v5 v6 v7 : Value} (hb : Below V.heap.size V V') (hl : b < V.heap.size) (h : V.cell? ⟨b, p1, none⟩ = some v1 ∧ V.cell? ⟨b, p2, none⟩ = some v2 ∧ V.cell? ⟨b, p3, none⟩ = some v3 ∧ V.cell? ⟨b, p4, none⟩ = some v4 ∧ V.cell? ⟨b, p5, none⟩ = some v5 ∧ V.cell? ⟨b, p6, none⟩ = some v6 ∧ V.cell? ⟨b, p7, none⟩ = some v7) :
    V'.cell? ⟨b, p1, none⟩ = some v1 ∧ V'.cell? ⟨b, p2, none⟩ = some v2 ∧ V'.cell? ⟨b, p3, none⟩ = some v3 ∧ V'.cell? ⟨b, p4, none⟩ = some v4 ∧ V'.cell? ⟨b, p5, none⟩ = some v5 ∧ V'.cell? ⟨b, p6, none⟩ = some v6 ∧ V'.cell? ⟨b, p7, none⟩ = some v7 := by
  have e : ∀ o, V'.cell? ⟨b, o, none⟩ = V.cell? ⟨b, o, none⟩ := fun o => hb.cell (p := ⟨b, o, none⟩) hl
  rw [e, e, e, e, e, e, e]
  exact h
set_option maxHeartbeats 16000000 in
set_option maxRecDepth 100000 in
theorem waited_any (h : IsG rE w a cap d) (h2 : IsG rI w a2 cap2 z) (hz : z.length = d.length) (hd : d.length ≤ 10000) {n : Nat} {e : EvR} (he : d[n]? = some e) : Calls Try.prog 19 #[.slice a d.length cap, .slice a2 d.length cap2, .int .i64 n] w fun r w' => r = .returned (.int .i64 (waitB e.i n (d.drop (n + 1)) (z.drop (n + 1)))) ∧ Below w.heap.size w w' := by
  have HG : Aside (IsG rE w a cap d) := h
  have H2 : Aside (IsG rI w a2 cap2 z) := h2
  have HD : Aside (d.length ≤ 10000) := hd
  have HE : Aside (d[n]? = some e) := he
  have HZ : Aside (z.length = d.length) := hz
  have hn := (List.getElem?_eq_some_iff.1 he).1
  have n0 : (n : Int) < d.length := by omega
  obtain ⟨X, hX⟩ : ∃ X, w.heap.size = X := ⟨_, rfl⟩
  have HX : Aside _ := hX
  have B0 : Aside (Below X w w) := by show Below _ _ _; rw [← hX]; exact Below.refl _ _
  clear hX h h2 he hz
  go_enter Try.func19, Try.ntmps19
  go_wp2_with fail
  go_step3
  go_wp2_with fail
  go_step3
  go_wp2_with fail
  go_loopg [7, 8] d.length (fun kx s7 s8 wr => ∃ (I : Nat) (g : Int), s7 = .int .i64 g ∧ s8 = .int .i64 I ∧ n + 1 ≤ I ∧ I ≤ d.length ∧ d.length - I ≤ kx ∧ Aside (Below X w wr) ∧ Aside (waitB e.i n (d.drop (n + 1)) (z.drop (n + 1)) = g + waitB e.i n (d.drop I) (z.drop I) ∧ 0 ≤ g ∧ g ≤ I))
  case atStart => exact ⟨n + 1, 0, rfl, by go_num, by omega, by omega, by omega, B0, ⟨by omega, by omega, by omega⟩⟩
  case round =>
    clear B0
    obtain ⟨I, g, rfl, rfl, hnI, hI, hkx, G, GR⟩ := hrel
    have hXs : Aside (X ≤ wr.heap.size) := by have := G.out.size; have := HX.out; show _ ≤ _; omega
    have Hr : IsG rE wr a cap d := HG.out.below (by rw [HX.out]; exact G.out)
    have Hz : Aside (IsG rI wr a2 cap2 z) := H2.out.below (by rw [HX.out]; exact G.out)
    by_cases hlt : I < d.length
    · have hlI : (I : Int) < (d.length : Int) := by omega
      obtain ⟨x, hx⟩ : ∃ x, d[I]? = some x := ⟨_, List.getElem?_eq_getElem hlt⟩
      obtain ⟨y, hy⟩ : ∃ y, z[I]? = some y := ⟨_, List.getElem?_eq_getElem (by rw [HZ.out]; exact hlt)⟩
      have HY : Aside (z[I]? = some y) := hy
      have HHX : Aside (d[I]? = some x) := hx
      obtain ⟨b, off, rfl, hb, e0, e1, e2, e3, e4, e5⟩ := evAt Hr hx
      obtain ⟨b', off', ee, hb', f0, f1, f2, f3, f4, f5⟩ := evAt Hr HE.out
      have ee : (⟨b, off, none⟩ : Addr) = ⟨b', off', none⟩ := by injection ee
      injection ee with ee1 ee2
      subst ee1; subst ee2
      have HB : Aside (b < wr.heap.size) := hb
      have CC : Aside ((wr.cell? ⟨b, off + I * 6, none⟩ = some (.int .i64 x.k) ∧ wr.cell? ⟨b, off + I * 6 + 1, none⟩ = some (.int .i64 x.t) ∧ wr.cell? ⟨b, off + I * 6 + 2, none⟩ = some (.int .i64 x.i) ∧ wr.cell? ⟨b, off + I * 6 + 3, none⟩ = some (.int .u64 x.y) ∧ wr.cell? ⟨b, off + I * 6 + 4, none⟩ = some (.int .u64 x.c) ∧ wr.cell? ⟨b, off + I * 6 + 5, none⟩ = some (.int .u64 x.n) ∧ wr.cell? ⟨b, off + n * 6 + 2, none⟩ = some (.int .i64 e.i))) := ⟨e0, e1, e2, e3, e4, e5, f2⟩
      obtain ⟨q, hq⟩ : ∃ q, hapB x e.i = q := ⟨_, rfl⟩
      have HQ : Aside (hapB x e.i = q) := hq
      have WS : waitB e.i n (d.drop I) (z.drop I) = if q then 0 else (if y > (n : Int) then 1 else 0) + waitB e.i n (d.drop (I + 1)) (z.drop (I + 1)) := by
        rw [drop_at hx, drop_at hy, ← hq]; rfl
      have WS : Aside _ := WS
      clear hq hx hy e0 e1 e2 e3 e4 e5 f0 f1 f2 f3 f4 f5 hb hb' ee Hr
      go_upto_region 5 with fail
      refine wp_region_held_drew (S := (fun V : World => V.cell? ⟨b, off + I * 6, none⟩ = some (.int .i64 x.k) ∧ V.cell? ⟨b, off + I * 6 + 1, none⟩ = some (.int .i64 x.t) ∧ V.cell? ⟨b, off + I * 6 + 2, none⟩ = some (.int .i64 x.i) ∧ V.cell? ⟨b, off + I * 6 + 3, none⟩ = some (.int .u64 x.y) ∧ V.cell? ⟨b, off + I * 6 + 4, none⟩ = some (.int .u64 x.c) ∧ V.cell? ⟨b, off + I * 6 + 5, none⟩ = some (.int .u64 x.n) ∧ V.cell? ⟨b, off + n * 6 + 2, none⟩ = some (.int .i64 e.i))) (by kernel_rfl) (CC.out) (fun hHeld => ?_)
      refine wpAnyH_take (i := 0) (oi := { dst := some 18, op := Op.move (Operand.tmp 0), type := 22, pos := "bound.go:117", after := #[], guard := none }) (v := ?_) rfl (by kernel_rfl) (by kernel_rfl) (by kernel_rfl) (fun _ _ _ h => h) (Or.inl ⟨by rfl, ?_⟩) (by assumption) ?_
      rotate_left
      · (intro w hSw; (try dsimp only at hSw); go_simp; try with_reducible rfl)
      simp only [Act.put, List.setIfInBounds_toArray, List.set_cons_zero, List.set_cons_succ]
      refine wpAnyH_take (i := 1) (oi := { dst := some 19, op := Op.move (Operand.tmp 8), type := 3, pos := "bound.go:117", after := #[], guard := none }) (v := ?_) rfl (by kernel_rfl) (by kernel_rfl) (by kernel_rfl) (fun _ _ _ h => h) (Or.inl ⟨by rfl, ?_⟩) (by assumption) ?_
      rotate_left
      · (intro w hSw; (try dsimp only at hSw); go_simp; try with_reducible rfl)
      simp only [Act.put, List.setIfInBounds_toArray, List.set_cons_zero, List.set_cons_succ]
      refine wpAnyH_take (i := 2) (oi := { dst := some 20, op := Op.indexAddr 22 (Operand.tmp 18) (Operand.tmp 19), type := 0, pos := "bound.go:117", after := #[{ on := 0, ground := Ground.data }, { on := 1, ground := Ground.data }], guard := none }) (v := ?_) rfl (by kernel_rfl) (by kernel_rfl) (by kernel_rfl) (fun _ _ _ h => h) (Or.inl ⟨by rfl, ?_⟩) (by assumption) ?_
      rotate_left
      · (intro w hSw; (try dsimp only at hSw); go_simp; try with_reducible rfl)
      simp only [Act.put, List.setIfInBounds_toArray, List.set_cons_zero, List.set_cons_succ]
      refine wpAnyH_take (i := 3) (oi := { dst := some 21, op := Op.load 25 (Operand.tmp 20), type := 25, pos := "bound.go:117", after := #[{ on := 2, ground := Ground.data }], guard := none }) (v := ?_) rfl (by kernel_rfl) (by kernel_rfl) (by kernel_rfl) (fun _ _ _ h => h) (Or.inl ⟨by rfl, ?_⟩) (by assumption) ?_
      rotate_left
      · (intro w hSw; (try dsimp only at hSw); go_simp; try with_reducible rfl)
      simp only [Act.put, List.setIfInBounds_toArray, List.set_cons_zero, List.set_cons_succ]
      refine wpAnyH_take (i := 4) (oi := { dst := some 22, op := Op.move (Operand.tmp 0), type := 22, pos := "bound.go:117", after := #[], guard := none }) (v := ?_) rfl (by kernel_rfl) (by kernel_rfl) (by kernel_rfl) (fun _ _ _ h => h) (Or.inl ⟨by rfl, ?_⟩) (by assumption) ?_
      rotate_left
      · (intro w hSw; (try dsimp only at hSw); go_simp; try with_reducible rfl)
      simp only [Act.put, List.setIfInBounds_toArray, List.set_cons_zero, List.set_cons_succ]
      refine wpAnyH_take (i := 5) (oi := { dst := some 23, op := Op.move (Operand.tmp 2), type := 3, pos := "bound.go:117", after := #[], guard := none }) (v := ?_) rfl (by kernel_rfl) (by kernel_rfl) (by kernel_rfl) (fun _ _ _ h => h) (Or.inl ⟨by rfl, ?_⟩) (by assumption) ?_
      rotate_left
      · (intro w hSw; (try dsimp only at hSw); go_simp; try with_reducible rfl)
      simp only [Act.put, List.setIfInBounds_toArray, List.set_cons_zero, List.set_cons_succ]
      refine wpAnyH_take (i := 6) (oi := { dst := some 24, op := Op.indexAddr 22 (Operand.tmp 22) (Operand.tmp 23), type := 0, pos := "bound.go:117", after := #[{ on := 4, ground := Ground.data }, { on := 5, ground := Ground.data }], guard := none }) (v := ?_) rfl (by kernel_rfl) (by kernel_rfl) (by kernel_rfl) (fun _ _ _ h => h) (Or.inl ⟨by rfl, ?_⟩) (by assumption) ?_
      rotate_left
      · (intro w hSw; (try dsimp only at hSw); go_simp; try with_reducible rfl)
      simp only [Act.put, List.setIfInBounds_toArray, List.set_cons_zero, List.set_cons_succ]
      refine wpAnyH_take (i := 7) (oi := { dst := some 25, op := Op.fieldAddr 25 (Operand.tmp 24) 2, type := 0, pos := "bound.go:117", after := #[{ on := 6, ground := Ground.data }], guard := none }) (v := ?_) rfl (by kernel_rfl) (by kernel_rfl) (by kernel_rfl) (fun _ _ _ h => h) (Or.inl ⟨by rfl, ?_⟩) (by assumption) ?_
      rotate_left
      · (intro w hSw; (try dsimp only at hSw); go_simp; try with_reducible rfl)
      simp only [Act.put, List.setIfInBounds_toArray, List.set_cons_zero, List.set_cons_succ]
      refine wpAnyH_take (i := 8) (oi := { dst := some 26, op := Op.load 3 (Operand.tmp 25), type := 3, pos := "bound.go:117", after := #[{ on := 7, ground := Ground.data }], guard := none }) (v := ?_) rfl (by kernel_rfl) (by kernel_rfl) (by kernel_rfl) (fun _ _ _ h => h) (Or.inl ⟨by rfl, ?_⟩) (by assumption) ?_
      rotate_left
      · (intro w hSw; (try dsimp only at hSw); go_simp; try with_reducible rfl)
      simp only [Act.put, List.setIfInBounds_toArray, List.set_cons_zero, List.set_cons_succ]
      refine wpAnyH_ready (rs := [9]) (by kernel_rfl) (by simp) ?_
      refine AllReadyH.cons (o := { dst := some 27, op := Op.call { callee := Callee.value (Operand.func 26), args := #[Operand.tmp 21, Operand.tmp 26], argTypes := #[25, 3] }, type := 4, pos := "bound.go:117", after := #[{ on := 3, ground := Ground.data }, { on := 8, ground := Ground.data }], guard := none }) rfl (fun Kt hKt => ?_) AllReadyH.nil
      go_simp
      (with_reducible refine Calls.mono (happens_evs x e.i wr.drew) ?_)
      rintro r1 w3 ⟨rfl, bb⟩
      rw [HQ.out]
      have CC : Aside ((w3.cell? ⟨b, off + I * 6, none⟩ = some (.int .i64 x.k) ∧ w3.cell? ⟨b, off + I * 6 + 1, none⟩ = some (.int .i64 x.t) ∧ w3.cell? ⟨b, off + I * 6 + 2, none⟩ = some (.int .i64 x.i) ∧ w3.cell? ⟨b, off + I * 6 + 3, none⟩ = some (.int .u64 x.y) ∧ w3.cell? ⟨b, off + I * 6 + 4, none⟩ = some (.int .u64 x.c) ∧ w3.cell? ⟨b, off + I * 6 + 5, none⟩ = some (.int .u64 x.n) ∧ w3.cell? ⟨b, off + n * 6 + 2, none⟩ = some (.int .i64 e.i))) := keep7 (b := b) ((Below.refl wr.heap.size wr).drew.trans bb) HB.out CC.out
      have B3 : Aside (Below wr.heap.size wr w3) := (Below.refl wr.heap.size wr).drew.trans bb
      clear bb
      go_wp2_with fail
      refine hKt.out _ _ (CC.out) (fun hHeld => ?_)
      clear hKt Kt
      try simp only [Act.put, List.setIfInBounds_toArray, List.set_cons_zero, List.set_cons_succ]
      refine wpAnyH_take (i := 10) (oi := { dst := some 17, op := Op.assign (Operand.tmp 27), type := 4, pos := "bound.go:117", after := #[{ on := 9, ground := Ground.data }, { on := 9, ground := Ground.chain }], guard := none }) (v := ?_) rfl (by kernel_rfl) (by kernel_rfl) (by kernel_rfl) (fun _ _ _ h => h) (Or.inl ⟨by rfl, ?_⟩) (by assumption) ?_
      rotate_left
      · (intro w hSw; (try dsimp only at hSw); go_simp; try with_reducible rfl)
      simp only [Act.put, List.setIfInBounds_toArray, List.set_cons_zero, List.set_cons_succ]
      refine wpAnyH_done (by kernel_rfl) ?_ _
      have G3 : Aside (Below X w w3) := G.out.trans (B3.out.mono hXs.out)
      have Z3 : IsG rI w3 a2 cap2 z := Hz.out.below B3.out
      cases q with
      | true =>
        have FIN : Aside (waitB e.i n (d.drop (n + 1)) (z.drop (n + 1)) = g) := by
          have := GR.out.1
          rw [WS.out, if_pos rfl] at this
          show _ = _
          omega
        go_wp2_with fail
        go_ret
        exact ⟨by rw [FIN.out]; rfl, by rw [HX.out]; exact G3.out⟩
      | false =>
        obtain ⟨b2, off2, rfl, hb2, c2⟩ := numAt Z3 HY.out
        have hi0 : 0 ≤ g ∧ g ≤ 10000 := by have := GR.out; have := HD.out; omega
        obtain ⟨g0, g1⟩ := hi0
        by_cases hy : y > (n : Int)
        · have NX : Aside (waitB e.i n (d.drop (n + 1)) (z.drop (n + 1)) = (g + 1) + waitB e.i n (d.drop (I + 1)) (z.drop (I + 1)) ∧ 0 ≤ g + 1 ∧ g + 1 ≤ ((I + 1 : Nat) : Int)) := by
            obtain ⟨h1, h2, h3⟩ := GR.out
            rw [WS.out, if_neg (by simp), if_pos hy] at h1
            refine ⟨by omega, by omega, by omega⟩
          go_wp2_with fail
          go_roundg (d.length - (I + 1))
          case measure => omega
          case rel => exact ⟨I + 1, g + 1, by go_num, by go_num, by omega, by omega, Nat.le_refl _, G3, NX⟩
        · have NX : Aside (waitB e.i n (d.drop (n + 1)) (z.drop (n + 1)) = g + waitB e.i n (d.drop (I + 1)) (z.drop (I + 1)) ∧ 0 ≤ g ∧ g ≤ ((I + 1 : Nat) : Int)) := by
            obtain ⟨h1, h2, h3⟩ := GR.out
            rw [WS.out, if_neg (by simp), if_neg hy] at h1
            refine ⟨by omega, by omega, by omega⟩
          go_wp2_with fail
          go_roundg (d.length - (I + 1))
          case measure => omega
          case rel => exact ⟨I + 1, g, rfl, by go_num, by omega, by omega, Nat.le_refl _, G3, NX⟩
    · have e0 : I = d.length := by omega
      have hlI : ¬ (I : Int) < (d.length : Int) := by omega
      have FIN : Aside (waitB e.i n (d.drop (n + 1)) (z.drop (n + 1)) = g) := by
        have := GR.out.1
        rw [e0, List.drop_length] at this
        show _ = _
        rw [this]
        show g + 0 = g
        omega
      clear Hr
      go_wp2_with fail
      go_ret
      exact ⟨by rw [FIN.out]; rfl, by rw [HX.out]; exact G.out⟩
theorem waitedF_out {n : Int} (hn : n < 0 ∨ (d.length : Int) ≤ n) (w : World) : Calls Try.prog 9 #[.slice a d.length cap, .int .i64 n] w fun r w' => r = .returned (.int .i64 (-1)) ∧ w' = w := by
  have P := isKind_out (a := a) (cap := cap) (w := w) hn 2
  go_enter Try.func9, Try.ntmps9
  go_wp2_with fail
  refine P.mono ?_
  rintro r w1 ⟨rfl, rfl⟩
  go_wp2_with fail
  go_ret
  exact ⟨rfl, rfl⟩
def waitF (d : List EvR) (n : Nat) (e : EvR) : Int := waitB e.i n (d.drop (n + 1)) ((srcB [] 0 d).drop (n + 1))
theorem waitedF_yes (h : IsG rE w a cap d) (hd : d.length ≤ 10000) (ok : ∀ x ∈ d, x.fits) {n : Nat} {e : EvR} (he : d[n]? = some e) (hk : e.k = 2) : Calls Try.prog 9 #[.slice a d.length cap, .int .i64 n] w fun r w' => r = .returned (.int .i64 (waitF d n e)) ∧ Below w.heap.size w w' := by
  have P := isKind_yes h he 2
  rw [decide_eq_true hk] at P
  have Q := sources_any h hd ok
  have HG : Aside (IsG rE w a cap d) := h
  have HD : Aside (d.length ≤ 10000) := hd
  have HE : Aside (d[n]? = some e) := he
  clear he hk h ok
  go_enter Try.func9, Try.ntmps9
  go_wp2_with fail
  refine P.mono ?_
  rintro r w0 ⟨rfl, rfl⟩
  go_wp2_with fail
  refine Q.mono ?_
  rintro r w1 ⟨S, rfl, R1, b1⟩
  have sl := srcB_len [] 0 d
  have I1 := R1.isG (by rw [sl]; exact HD.out)
  rw [sl] at I1
  have W := waited_any (HG.out.below b1) I1 sl HD.out HE.out
  have B1 : Aside (Below w0.heap.size w0 w1) := b1
  clear R1 b1 I1 P Q
  go_wp2_with fail
  refine W.mono ?_
  rintro r w2 ⟨rfl, b2⟩
  go_wp2_with fail
  go_ret
  exact ⟨rfl, Below.tr B1.out b2⟩
end
end Go.Proofs.Ytpcmdbpgplcnnaa
