/- Contracts: age.Beta, says, Beta. -/
import Derived.Test.YtpcmdbpgplcnnaaBnH
import Derived.Defers
import Derived.Recover
namespace Go.Proofs.Ytpcmdbpgplcnnaa
open Go.RowKit Go.Lib Go.WideMaps Go.Maps
set_option linter.unusedVariables false
set_option maxRecDepth 10000

/-- n, or the nearer of 0 and m. -/
def inN (n m : Int) : Int := min (max n 0) m
def slN (n : Int) : Int := 2 ^ (inN n 7).toNat - 1
theorem inN_le {n m : Int} (h : 0 ≤ m) : 0 ≤ inN n m ∧ inN n m ≤ m := by unfold inN; omega
theorem in7 (n : Int) : inN n 7 = 0 ∨ inN n 7 = 1 ∨ inN n 7 = 2 ∨ inN n 7 = 3 ∨ inN n 7 = 4 ∨ inN n 7 = 5 ∨ inN n 7 = 6 ∨ inN n 7 = 7 := by
  have := @inN_le n 7 (by omega)
  omega
theorem slN_le (n : Int) : 0 ≤ slN n ∧ slN n ≤ 127 := by
  unfold slN
  rcases in7 n with h | h | h | h | h | h | h | h <;> (rw [h]; decide)
theorem awithin_any (n m : Int) (w : World) : Calls Try.prog 29 #[.int .i64 n, .int .i64 m] w fun e w' => e = .returned (.int .i64 (inN n m)) ∧ w' = w := by
  unfold inN
  go_enter Try.func29, Try.ntmps29
  go_wp2 <;> (go_ret; exact ⟨ret_int (by omega), rfl⟩)
theorem slack_any (n : Int) (w : World) : Calls Try.prog 28 #[.int .i64 n] w fun e w' => e = .returned (.int .u64 (slN n)) ∧ w' = w := by
  have wi := awithin_any n 7 w
  unfold slN
  rcases in7 n with h | h | h | h | h | h | h | h <;>
  ( rw [h] at wi
    rw [h]
    go_enter Try.func28, Try.ntmps28
    go_wp2_with fail
    refine wi.mono ?_
    rintro e w1 ⟨rfl, rfl⟩
    clear wi
    go_wp2
    go_ret
    exact ⟨by first | rfl | (congr 2), rfl⟩)
def betaN (p c t : Int) : Int := slN p + inN c 1000 + 2 * inN t 1000
theorem abeta_any (p c t : Int) (w : World) : Calls Try.prog 22 #[.int .i64 p, .int .i64 c, .int .i64 t] w fun e w' => e = .returned (.int .i64 (betaN p c t)) ∧ w' = w := by
  have w0 := slack_any p w
  have w1 := awithin_any c 1000 w
  have w2 := awithin_any t 1000 w
  have l0 := slN_le p
  have l1 := @inN_le c 1000 (by omega)
  have l2 := @inN_le t 1000 (by omega)
  unfold betaN
  generalize slN p = z at *
  generalize inN c 1000 = x at *
  generalize inN t 1000 = y at *
  have e0 : IntKind.i64.wrap z = z := by rw [IntKind.wrap_i64]; omega
  have e1 : IntKind.i64.wrap (z + x) = z + x := by rw [IntKind.wrap_i64]; omega
  have e2 : IntKind.i64.wrap (2 * y) = 2 * y := by rw [IntKind.wrap_i64]; omega
  have e3 : IntKind.i64.wrap (z + x + 2 * y) = z + x + 2 * y := by rw [IntKind.wrap_i64]; omega
  clear l0 l1 l2
  go_enter Try.func22, Try.ntmps22
  go_wp2_with fail
  refine w0.mono ?_
  rintro e w1 ⟨rfl, rfl⟩
  go_wp2_with fail
  refine w1.mono ?_
  rintro e w1 ⟨rfl, rfl⟩
  go_wp2_with fail
  refine w2.mono ?_
  rintro e w1 ⟨rfl, rfl⟩
  go_wp2
  go_ret
  exact ⟨by first | rfl | simp only [e0, e1, e2, e3], rfl⟩
/-! ## says -/
theorem catch_idle (w : World) : CallsD Try.prog 27 #[] .returning w fun e u' w' => e = .returned (.tuple #[]) ∧ u' = .returning ∧ w' = w := by
  refine callsD_of_wpS Try.func27 rfl fun c₀ cs hu => ?_
  apply wpS_region
  cases c₀
  simp_all [wpOpsS, go_sem, recoverD, bodyPostS, results, Try.results27]
theorem says_any (g : Nat) (cb : Array Value) (id U : Int) (w : World) (eg : ∀ args w, (callFunc g args).run Try.prog w = .ok (.enter g args) w)
    (hg : Calls Try.prog g (#[.int .i64 id] ++ cb) w fun e w' => e = .returned (.int .i64 U) ∧ Below w.heap.size w w') :
    Calls Try.prog 21 #[.func (.func g) #[] cb, .int .i64 id] w fun e w' => e = .returned (.tuple #[.int .i64 U, .bool true]) ∧ Below w.heap.size w w' := by
  have hne : ∀ w, (binOp .eql 34 (.func (.func g) #[] cb) .nilFunc).run Try.prog w = .ok (.bool false) w := fun w => rfl
  go_enter_defers Try.func21, Try.ntmps21
  go_wp2_with fail
  refine hg.mono ?_
  rintro e w1 ⟨rfl, d1⟩
  go_wp2
  refine leaves_cons (f := 27) (args := #[]) (by simp) (by simp [go_sem]) ?_
  refine (catch_idle _).mono ?_
  rintro e u' w'' ⟨rfl, rfl, rfl⟩
  refine ⟨_, ?_, rfl, d1⟩
  simp [results, Try.results21, go_sem]
/-! ## Beta -/
def betaL (β : Int) (n : Nat) : List EvR → List Int → Bool
  | e :: d, z :: s => (if e.k = 2 then decide (waitB e.i n d s ≤ β) else true) && betaL β (n + 1) d s
  | _, _ => true
section
variable {w w' : World} {a : Option Addr} {cap : Nat} {d : List EvR}
theorem keep2 {V V' : World} {b p1 p2 : Nat} {v1 v2 : Value} (hb : Below V.heap.size V V') (hl : b < V.heap.size) (h : V.cell? ⟨b, p1, none⟩ = some v1 ∧ V.cell? ⟨b, p2, none⟩ = some v2) : V'.cell? ⟨b, p1, none⟩ = some v1 ∧ V'.cell? ⟨b, p2, none⟩ = some v2 := by
  have e : ∀ o, V'.cell? ⟨b, o, none⟩ = V.cell? ⟨b, o, none⟩ := fun o => hb.cell (p := ⟨b, o, none⟩) hl
  rw [e, e]
  exact h
/-- What stands while Beta reads: the events, their sources, its box of numbers. -/
structure BetAt (V : World) (a : Option Addr) (cap C S : Nat) (d : List EvR) (t c : Int) : Prop where
  g : IsG rE V a cap d
  s : IsG rI V (some ⟨S, 0, none⟩) d.length (srcB [] 0 d)
  l : C < V.heap.size
  c : V.cell? ⟨C, 0, none⟩ = some (.int .i64 t) ∧ V.cell? ⟨C, 2, none⟩ = some (.int .i64 c)
theorem BetAt.below {V V' : World} {C S : Nat} {t c : Int} (h : BetAt V a cap C S d t c) (hb : Below V.heap.size V V') : BetAt V' a cap C S d t c :=
  ⟨h.g.below hb, h.s.below hb, by have := hb.size; have := h.l; omega, keep2 hb h.l h.c⟩
set_option maxHeartbeats 16000000 in
set_option maxRecDepth 100000 in
theorem beta_any (h : IsG rE w a cap d) (hd : d.length ≤ 10000) (ok : ∀ x ∈ d, x.fits) (t k c U : Int) (g : Nat) (cb : Array Value) (eg : ∀ args w, (callFunc g args).run Try.prog w = .ok (.enter g args) w)
    (hg : ∀ id W, Calls Try.prog g (#[.int .i64 id] ++ cb) W fun e w' => e = .returned (.int .i64 U) ∧ Below W.heap.size W w') :
    Calls Try.prog 12 #[.agg #[.int .i64 t, .int .i64 k, .int .i64 c], .slice a d.length cap, .func (.func g) #[] cb] w fun r w' => r = .returned (.bool (betaL (betaN U c t) 0 d (srcB [] 0 d))) ∧ Below w.heap.size w w' := by
  have OK : Aside (∀ x ∈ d, x.fits) := ok
  have HD : Aside (d.length ≤ 10000) := hd
  have SY : Aside (∀ id W, Calls Try.prog 21 #[.func (.func g) #[] cb, .int .i64 id] W fun e w' => e = .returned (.tuple #[.int .i64 U, .bool true]) ∧ Below W.heap.size W w') := fun id W => says_any g cb id U W eg (hg id W)
  obtain ⟨X, hX⟩ : ∃ X, w.heap.size = X := ⟨_, rfl⟩
  have HX : Aside _ := hX
  obtain ⟨u1, hu1⟩ : ∃ u, w.alloc (.cells #[.int .i64 t, .int .i64 k, .int .i64 c] 32) = u := ⟨_, rfl⟩
  have HU : Aside _ := hu1
  have b1 : Below w.heap.size w u1 := by rw [← hu1]; exact bel1 _ _
  have HG : Aside (IsG rE u1 a cap d) := h.below b1
  have CX : Aside (X < u1.heap.size ∧ u1.cell? ⟨X, 0, none⟩ = some (.int .i64 t) ∧ u1.cell? ⟨X, 2, none⟩ = some (.int .i64 c)) := by
    rw [← hu1, ← hX]
    refine ⟨by rw [alloc_sz]; omega, ?_, ?_⟩ <;> rw [cell_fresh] <;> rfl
  have B1 : Aside (Below X w u1) := by rw [← hX]; exact b1
  have SRC := sources_any HG.out hd ok
  obtain ⟨β, hβ⟩ : ∃ β, betaN U c t = β := ⟨_, rfl⟩
  have HBN : Aside (betaN U c t = β) := hβ
  rw [hβ]
  clear hX h ok hu1 b1 hg eg hβ
  go_enter Try.func12, Try.ntmps12
  go_upto_region 1 with fail
  rw [HU.out, HX.out]
  go_wp2_with fail
  refine SRC.mono ?_
  rintro r w1 ⟨S, rfl, R1, b1⟩
  have sl : Aside ((srcB [] 0 d).length = d.length) := srcB_len [] 0 d
  have BA : Aside (BetAt w1 a cap X S d t c) := by
    refine ⟨HG.out.below b1, ?_, by have := b1.size; have := CX.out.1; omega, keep2 b1 CX.out.1 CX.out.2⟩
    have := R1.isG (by rw [sl.out]; exact HD.out)
    rw [sl.out] at this
    exact this
  have B2 : Aside (Below X w w1) := B1.out.trans (b1.mono (by have := B1.out.size; have := HX.out; omega))
  clear R1 b1 SRC B1 HG CX
  go_wp2_with fail
  go_loopg [16] d.length (fun kx s16 wr => ∃ I : Nat, s16 = .int .i64 I ∧ I ≤ d.length ∧ d.length - I ≤ kx ∧ Aside (BetAt wr a cap X S d t c) ∧ Aside (Below X w wr) ∧ Aside (betaL β 0 d (srcB [] 0 d) = betaL β I (d.drop I) ((srcB [] 0 d).drop I)))
  case atStart => exact ⟨0, rfl, by omega, by omega, BA, B2, rfl⟩
  case round =>
    clear BA B2
    obtain ⟨I, rfl, hI, hkx, BA, G, EQ⟩ := hrel
    have hXs : Aside (X ≤ wr.heap.size) := by have := G.out.size; have := HX.out; show _ ≤ _; omega
    by_cases hlt : I < d.length
    · have hlI : (I : Int) < (d.length : Int) := by omega
      obtain ⟨x, hx⟩ : ∃ x, d[I]? = some x := ⟨_, List.getElem?_eq_getElem hlt⟩
      obtain ⟨z, hz⟩ : ∃ z, (srcB [] 0 d)[I]? = some z := ⟨_, List.getElem?_eq_getElem (by rw [sl.out]; exact hlt)⟩
      have HHX : Aside (d[I]? = some x) := hx
      have STP : Aside (betaL β 0 d (srcB [] 0 d) = ((if x.k = 2 then decide (waitB x.i I (d.drop (I + 1)) ((srcB [] 0 d).drop (I + 1)) ≤ β) else true) && betaL β (I + 1) (d.drop (I + 1)) ((srcB [] 0 d).drop (I + 1)))) := by
        show _ = _
        rw [EQ.out, drop_at hx, drop_at hz]
        rfl
      obtain ⟨b, off, ea, hb, e0, e1, e2, e3, e4, e5⟩ := evAt BA.out.g hx
      have EA : Aside (a = some ⟨b, off, none⟩) := ea
      obtain ⟨Y, hY⟩ : ∃ Y, wr.heap.size = Y := ⟨_, rfl⟩
      obtain ⟨u2, hu2⟩ : ∃ u, wr.alloc (.cells #[.int .i64 x.k, .int .i64 x.t, .int .i64 x.i, .int .u64 x.y, .int .u64 x.c, .int .u64 x.n] 25) = u := ⟨_, rfl⟩
      have b2 : Below wr.heap.size wr u2 := by rw [← hu2]; exact bel1 _ _
      have E2 : EBx u2 Y x := by rw [← hu2, ← hY]; exact EBx.made wr x
      have BA2 : Aside (BetAt u2 a cap X S d t c) := BA.out.below b2
      have G2 : Aside (Below X w u2) := G.out.trans (b2.mono hXs.out)
      have GS2 : Aside (X ≤ u2.heap.size) := by have := b2.size; have := hXs.out; show _ ≤ _; omega
      obtain ⟨_, d0, d1, d2, d3, d4, d5⟩ := id E2
      have HY : Aside _ := hY
      have HU2 : Aside _ := hu2
      clear hY hu2 b2 hx hz
      subst ea
      go_upto_region 5 with fail
      rw [HU2.out, HY.out]
      clear e0 e1 e2 e3 e4 e5 hb
      by_cases k2 : x.k = 2
      · have P := SY.out x.i u2
        obtain ⟨WB, hWB⟩ : ∃ v, waitB x.i I (d.drop (I + 1)) ((srcB [] 0 d).drop (I + 1)) = v := ⟨_, rfl⟩
        have HWB : Aside (waitB x.i I (d.drop (I + 1)) ((srcB [] 0 d).drop (I + 1)) = WB) := hWB
        have K2 : Aside (x.k = 2) := k2
        go_upto_region 6 with fail
        clear hWB k2
        go_wp2_with fail
        refine P.mono ?_
        rintro r w3 ⟨rfl, b3⟩
        have BA3 : Aside (BetAt w3 (some ⟨b, off, none⟩) cap X S d t c) := BA2.out.below b3
        have G3 : Aside (Below X w w3) := G2.out.trans (b3.mono GS2.out)
        have GS3 : Aside (X ≤ w3.heap.size) := by have := b3.size; have := GS2.out; show _ ≤ _; omega
        clear d0 d1 d2 d3 d4 d5 b3 P
        go_upto_region 7 with fail
        refine wp_region_held_drew (S := (fun V : World => V.cell? ⟨X, 0, none⟩ = some (.int .i64 t) ∧ V.cell? ⟨X, 2, none⟩ = some (.int .i64 c))) (by kernel_rfl) (BA3.out.c) (fun hHeld => ?_)
        refine wpAnyH_take (i := 0) (oi := { dst := some 31, op := Op.move (Operand.tmp 11), type := 4, pos := "bound.go:147", after := #[], guard := none }) (v := ?_) rfl (by kernel_rfl) (by kernel_rfl) (by kernel_rfl) (fun _ _ _ h => h) (Or.inl ⟨by rfl, ?_⟩) (by assumption) ?_
        rotate_left
        · (intro w hSw; (try dsimp only at hSw); go_simp; try with_reducible rfl)
        simp only [Act.put, List.setIfInBounds_toArray, List.set_cons_zero, List.set_cons_succ]
        refine wpAnyH_take (i := 1) (oi := { dst := some 32, op := Op.unOp UnOp.not 4 (Operand.tmp 31), type := 4, pos := "bound.go:147", after := #[{ on := 0, ground := Ground.data }], guard := none }) (v := ?_) rfl (by kernel_rfl) (by kernel_rfl) (by kernel_rfl) (fun _ _ _ h => h) (Or.inl ⟨by rfl, ?_⟩) (by assumption) ?_
        rotate_left
        · (intro w hSw; (try dsimp only at hSw); go_simp; try with_reducible rfl)
        simp only [Act.put, List.setIfInBounds_toArray, List.set_cons_zero, List.set_cons_succ]
        refine wpAnyH_take (i := 2) (oi := { dst := some 33, op := Op.move (Operand.tmp 32), type := 4, pos := "bound.go:147", after := #[{ on := 1, ground := Ground.data }], guard := none }) (v := ?_) rfl (by kernel_rfl) (by kernel_rfl) (by kernel_rfl) (fun _ _ _ h => h) (Or.inl ⟨by rfl, ?_⟩) (by assumption) ?_
        rotate_left
        · (intro w hSw; (try dsimp only at hSw); go_simp; try with_reducible rfl)
        simp only [Act.put, List.setIfInBounds_toArray, List.set_cons_zero, List.set_cons_succ]
        refine wpAnyH_take (i := 3) (oi := { dst := some 34, op := Op.move (Operand.tmp 1), type := 22, pos := "bound.go:147", after := #[{ on := 2, ground := Ground.guard }], guard := some (2, false) }) (v := ?_) rfl (by kernel_rfl) (by kernel_rfl) (by kernel_rfl) (fun _ _ _ h => h) (Or.inl ⟨by rfl, ?_⟩) (by assumption) ?_
        rotate_left
        · (intro w hSw; (try dsimp only at hSw); go_simp; try with_reducible rfl)
        simp only [Act.put, List.setIfInBounds_toArray, List.set_cons_zero, List.set_cons_succ]
        refine wpAnyH_take (i := 4) (oi := { dst := some 35, op := Op.move (Operand.tmp 7), type := 43, pos := "bound.go:147", after := #[{ on := 2, ground := Ground.guard }], guard := some (2, false) }) (v := ?_) rfl (by kernel_rfl) (by kernel_rfl) (by kernel_rfl) (fun _ _ _ h => h) (Or.inl ⟨by rfl, ?_⟩) (by assumption) ?_
        rotate_left
        · (intro w hSw; (try dsimp only at hSw); go_simp; try with_reducible rfl)
        simp only [Act.put, List.setIfInBounds_toArray, List.set_cons_zero, List.set_cons_succ]
        refine wpAnyH_take (i := 5) (oi := { dst := some 36, op := Op.move (Operand.tmp 8), type := 3, pos := "bound.go:147", after := #[{ on := 2, ground := Ground.guard }], guard := some (2, false) }) (v := ?_) rfl (by kernel_rfl) (by kernel_rfl) (by kernel_rfl) (fun _ _ _ h => h) (Or.inl ⟨by rfl, ?_⟩) (by assumption) ?_
        rotate_left
        · (intro w hSw; (try dsimp only at hSw); go_simp; try with_reducible rfl)
        simp only [Act.put, List.setIfInBounds_toArray, List.set_cons_zero, List.set_cons_succ]
        refine wpAnyH_take (i := 7) (oi := { dst := some 38, op := Op.move (Operand.tmp 10), type := 3, pos := "bound.go:147", after := #[{ on := 2, ground := Ground.guard }], guard := some (2, false) }) (v := ?_) rfl (by kernel_rfl) (by kernel_rfl) (by kernel_rfl) (fun _ _ _ h => h) (Or.inl ⟨by rfl, ?_⟩) (by assumption) ?_
        rotate_left
        · (intro w hSw; (try dsimp only at hSw); go_simp; try with_reducible rfl)
        simp only [Act.put, List.setIfInBounds_toArray, List.set_cons_zero, List.set_cons_succ]
        refine wpAnyH_take (i := 8) (oi := { dst := some 39, op := Op.fieldAddr 32 (Operand.tmp 3) 2, type := 0, pos := "bound.go:147", after := #[{ on := 2, ground := Ground.guard }], guard := some (2, false) }) (v := ?_) rfl (by kernel_rfl) (by kernel_rfl) (by kernel_rfl) (fun _ _ _ h => h) (Or.inl ⟨by rfl, ?_⟩) (by assumption) ?_
        rotate_left
        · (intro w hSw; (try dsimp only at hSw); go_simp; try with_reducible rfl)
        simp only [Act.put, List.setIfInBounds_toArray, List.set_cons_zero, List.set_cons_succ]
        refine wpAnyH_take (i := 9) (oi := { dst := some 40, op := Op.load 3 (Operand.tmp 39), type := 3, pos := "bound.go:147", after := #[{ on := 8, ground := Ground.data }, { on := 2, ground := Ground.guard }], guard := some (2, false) }) (v := ?_) rfl (by kernel_rfl) (by kernel_rfl) (by kernel_rfl) (fun _ _ _ h => h) (Or.inl ⟨by rfl, ?_⟩) (by assumption) ?_
        rotate_left
        · (intro w hSw; (try dsimp only at hSw); go_simp; try with_reducible rfl)
        simp only [Act.put, List.setIfInBounds_toArray, List.set_cons_zero, List.set_cons_succ]
        refine wpAnyH_take (i := 10) (oi := { dst := some 41, op := Op.fieldAddr 32 (Operand.tmp 3) 0, type := 0, pos := "bound.go:147", after := #[{ on := 2, ground := Ground.guard }], guard := some (2, false) }) (v := ?_) rfl (by kernel_rfl) (by kernel_rfl) (by kernel_rfl) (fun _ _ _ h => h) (Or.inl ⟨by rfl, ?_⟩) (by assumption) ?_
        rotate_left
        · (intro w hSw; (try dsimp only at hSw); go_simp; try with_reducible rfl)
        simp only [Act.put, List.setIfInBounds_toArray, List.set_cons_zero, List.set_cons_succ]
        refine wpAnyH_take (i := 11) (oi := { dst := some 42, op := Op.load 3 (Operand.tmp 41), type := 3, pos := "bound.go:147", after := #[{ on := 10, ground := Ground.data }, { on := 2, ground := Ground.guard }], guard := some (2, false) }) (v := ?_) rfl (by kernel_rfl) (by kernel_rfl) (by kernel_rfl) (fun _ _ _ h => h) (Or.inl ⟨by rfl, ?_⟩) (by assumption) ?_
        rotate_left
        · (intro w hSw; (try dsimp only at hSw); go_simp; try with_reducible rfl)
        simp only [Act.put, List.setIfInBounds_toArray, List.set_cons_zero, List.set_cons_succ]
        refine wpAnyH_ready (rs := [6]) (by kernel_rfl) (by simp) ?_
        refine AllReadyH.cons (o := { dst := some 37, op := Op.call { callee := Callee.value (Operand.func 19), args := #[Operand.tmp 34, Operand.tmp 35, Operand.tmp 36], argTypes := #[22, 43, 3] }, type := 3, pos := "bound.go:147", after := #[{ on := 3, ground := Ground.data }, { on := 4, ground := Ground.data }, { on := 5, ground := Ground.data }, { on := 2, ground := Ground.chain }, { on := 2, ground := Ground.guard }], guard := some (2, false) }) rfl (fun Kt hKt => ?_) AllReadyH.nil
        go_simp
        have P := waited_any (BA3.out.g.below (Below.refl _ _).drew) (BA3.out.s.below (Below.refl _ _).drew) sl.out HD.out HHX.out
        rw [HWB.out] at P
        (with_reducible refine Calls.mono P ?_)
        rintro r1 w4 ⟨rfl, bb⟩
        have BA4 : Aside (BetAt w4 (some ⟨b, off, none⟩) cap X S d t c) := BA3.out.below ((Below.refl _ _).drew.trans bb)
        have G4 : Aside (Below X w w4) := G3.out.trans (((Below.refl _ _).drew.trans bb).mono GS3.out)
        have GS4 : Aside (X ≤ w4.heap.size) := by have := bb.size; have := GS3.out; show _ ≤ _; have e : w3.drew.heap.size = w3.heap.size := rfl; omega
        clear bb P
        go_wp2_with fail
        refine hKt.out _ _ (BA4.out.c) (fun hHeld => ?_)
        clear hKt Kt
        try simp only [Act.put, List.setIfInBounds_toArray, List.set_cons_zero, List.set_cons_succ]
        refine wpAnyH_ready (rs := [12]) (by kernel_rfl) (by simp) ?_
        refine AllReadyH.cons (o := { dst := some 43, op := Op.call { callee := Callee.value (Operand.func 22), args := #[Operand.tmp 38, Operand.tmp 40, Operand.tmp 42], argTypes := #[3, 3, 3] }, type := 3, pos := "bound.go:147", after := #[{ on := 7, ground := Ground.data }, { on := 9, ground := Ground.data }, { on := 11, ground := Ground.data }, { on := 6, ground := Ground.chain }, { on := 2, ground := Ground.guard }], guard := some (2, false) }) rfl (fun Kt hKt => ?_) AllReadyH.nil
        go_simp
        have P := abeta_any U c t w4
        rw [HBN.out] at P
        (with_reducible refine Calls.mono P ?_)
        rintro r1 w5 ⟨rfl, rfl⟩
        clear P
        go_wp2_with fail
        refine hKt.out _ _ (BA4.out.c) (fun hHeld => ?_)
        clear hKt Kt
        try simp only [Act.put, List.setIfInBounds_toArray, List.set_cons_zero, List.set_cons_succ]
        refine wpAnyH_take (i := 13) (oi := { dst := some 44, op := Op.binOp BinOp.gtr 3 (Operand.tmp 37) (Operand.tmp 43) 3, type := 4, pos := "bound.go:147", after := #[{ on := 6, ground := Ground.data }, { on := 12, ground := Ground.data }, { on := 2, ground := Ground.guard }], guard := some (2, false) }) (v := ?_) rfl (by kernel_rfl) (by kernel_rfl) (by kernel_rfl) (fun _ _ _ h => h) (Or.inl ⟨by rfl, ?_⟩) (by assumption) ?_
        rotate_left
        · (intro w hSw; (try dsimp only at hSw); go_simp; try with_reducible rfl)
        simp only [Act.put, List.setIfInBounds_toArray, List.set_cons_zero, List.set_cons_succ]
        refine wpAnyH_take (i := 14) (oi := { dst := some 45, op := Op.pick (Operand.tmp 33) (Operand.const (Value.bool true)) (Operand.tmp 44), type := 4, pos := "bound.go:147", after := #[{ on := 2, ground := Ground.data }, { on := 13, ground := Ground.data }], guard := none }) (v := ?_) rfl (by kernel_rfl) (by kernel_rfl) (by kernel_rfl) (fun _ _ _ h => h) (Or.inl ⟨by rfl, ?_⟩) (by assumption) ?_
        rotate_left
        · (intro w hSw; (try dsimp only at hSw); go_simp; try with_reducible rfl)
        simp only [Act.put, List.setIfInBounds_toArray, List.set_cons_zero, List.set_cons_succ]
        refine wpAnyH_done (by kernel_rfl) ?_ _
        by_cases hw : WB > β
        · have FIN : Aside (betaL β 0 d (srcB [] 0 d) = false) := by
            show _ = _
            rw [STP.out, if_pos K2.out, HWB.out, decide_eq_false (by omega)]
            rfl
          go_wp2_with fail
          go_ret
          exact ⟨by rw [FIN.out]; rfl, by rw [HX.out]; exact G4.out⟩
        · have NX : Aside (betaL β 0 d (srcB [] 0 d) = betaL β (I + 1) (d.drop (I + 1)) ((srcB [] 0 d).drop (I + 1))) := by
            show _ = _
            rw [STP.out, if_pos K2.out, HWB.out, decide_eq_true (by omega)]
            rfl
          go_wp2_with fail
          go_roundg (d.length - (I + 1))
          case measure => omega
          case rel => exact ⟨I + 1, by go_num, by omega, Nat.le_refl _, BA4, G4, NX⟩
      · have NX : Aside (betaL β 0 d (srcB [] 0 d) = betaL β (I + 1) (d.drop (I + 1)) ((srcB [] 0 d).drop (I + 1))) := by
          show _ = _
          rw [STP.out, if_neg k2]
          rfl
        go_wp2_with fail
        go_roundg (d.length - (I + 1))
        case measure => omega
        case rel => exact ⟨I + 1, by go_num, by omega, Nat.le_refl _, BA2, G2, NX⟩
    · have e0 : I = d.length := by omega
      have hlI : ¬ (I : Int) < (d.length : Int) := by omega
      have FIN : Aside (betaL β 0 d (srcB [] 0 d) = true) := by
        have := EQ.out
        rw [e0, List.drop_length] at this
        exact this
      go_wp2_with fail
      go_ret
      exact ⟨by rw [FIN.out]; rfl, by rw [HX.out]; exact G.out⟩
end
end Go.Proofs.Ytpcmdbpgplcnnaa
