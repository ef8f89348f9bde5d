/- Contracts: body.numbers, body.panics, body.wrong, slices.IndexFunc and ContainsFunc at ops, body.Ok, body.Steps. -/
import Derived.Test.YtoidkiodlfpefaaDoorBdH
import Derived.Deep.LoopGhost
import Derived.Deep.RegionHeld3
import Derived.Deep.Fields
import Derived.BigRegion
import Derived.Deep.DeepCutAuto
import Derived.Deep.CutBlock
namespace Go.Proofs.YtoidkiodlfpefaaDoor
open Go.RowKit Go.Lib Go.Shelf Go.Sort
set_option linter.unusedVariables false

/-- An op as a value. -/
abbrev oV (x : OpR) : Value := .agg #[.int .i64 x.1, .int .i64 x.2.1, .int .i64 x.2.2]
/-- A function of ops that answers p, and only makes memory. -/
def AnsB (g : Nat) (p : OpR → Bool) (w : World) : Prop := ∀ (x : OpR) (W : World), Below w.heap.size w W → Calls Tryd.prog g #[.agg #[.int .i64 x.1, .int .i64 x.2.1, .int .i64 x.2.2]] W fun e w' => e = .returned (.bool (p x)) ∧ Below W.heap.size W w'

theorem numbers_any (k a b : Int) (w : World) : Calls Tryd.prog 32 #[.agg #[.int .i64 k, .int .i64 a, .int .i64 b]] w fun e w' => e = .returned (.agg #[.int .i64 a, .int .i64 b]) ∧ Below w.heap.size w w' := by
  go_enter Tryd.func32, Tryd.ntmps32
  go_wp2
  have r0 := cell_fresh (w.alloc (.cells #[.int .i64 k, .int .i64 a, .int .i64 b] 23)) #[.int .i64 a, .int .i64 b] 54 0
  have r1 := cell_fresh (w.alloc (.cells #[.int .i64 k, .int .i64 a, .int .i64 b] 23)) #[.int .i64 a, .int .i64 b] 54 1
  rw [alloc_sz] at r0 r1
  refine bodyPost_ret (v := .agg #[.int .i64 a, .int .i64 b]) (by simp [results, Tryd.results32, go_sem, r0, r1]) rfl ⟨rfl, ?_⟩
  exact Below.tr (bel1 _ _) (bel1 _ _)
theorem idx2_0 (a b : Int) (w : World) : (Instr.index 54 (.agg #[.int .i64 a, .int .i64 b]) (.int .i64 0)).run Tryd.prog w = .ok (.int .i64 a) w := by
  simp [Instr.index, run_underlying Tryd.underlying54, asIntOf, go_sem]
theorem idx2_1 (a b : Int) (w : World) : (Instr.index 54 (.agg #[.int .i64 a, .int .i64 b]) (.int .i64 1)).run Tryd.prog w = .ok (.int .i64 b) w := by
  simp [Instr.index, run_underlying Tryd.underlying54, asIntOf, go_sem]
/-- Two new blocks. -/
theorem two_new0 (u : World) (x y : Array Value) (t1 t2 : TypeId) (j : Nat) : ((u.alloc (.cells x t1)).alloc (.cells y t2)).cell? ⟨u.heap.size, j, none⟩ = x[j]? :=
  ((bel1 (u.alloc (.cells x t1)) (.cells y t2)).cell (p := ⟨u.heap.size, j, none⟩) (by show u.heap.size < _; rw [alloc_sz]; omega)).trans (cell_fresh u x t1 j)
theorem two_new1 (u : World) (x y : Array Value) (t1 t2 : TypeId) (j : Nat) : ((u.alloc (.cells x t1)).alloc (.cells y t2)).cell? ⟨u.heap.size + 1, j, none⟩ = y[j]? := by
  have := cell_fresh (u.alloc (.cells x t1)) y t2 j
  rw [alloc_sz] at this
  exact this
theorem two_sz (u : World) (x y : Obj) : ((u.alloc x).alloc y).heap.size = u.heap.size + 2 := by rw [alloc_sz, alloc_sz]
theorem panics_any (k a b : Int) (w : World) : Calls Tryd.prog 26 #[.agg #[.int .i64 k, .int .i64 a, .int .i64 b]] w fun e w' => e = .returned (.bool (decide (k = 5))) ∧ Below w.heap.size w w' := by
  go_enter Tryd.func26, Tryd.ntmps26
  go_wp2
  go_ret
  exact ⟨rfl, bel1 _ _⟩
set_option maxHeartbeats 4000000 in
set_option maxRecDepth 100000 in
theorem wrong_any (k a b : Int) (w : World) (h : Tb w) : Calls Tryd.prog 21 #[.agg #[.int .i64 k, .int .i64 a, .int .i64 b]] w fun e w' => e = .returned (.bool (!okO (k, a, b))) ∧ Below w.heap.size w w' := by
  have hb1 := h.big
  by_cases hk : kindB k = true
  · obtain ⟨K, rfl⟩ : ∃ K : Nat, k = (K : Int) := ⟨k.toNat, by rcases kindB_cases hk with rfl | rfl | rfl | rfl | rfl <;> rfl⟩
    have hK : 1 ≤ K ∧ K ≤ 5 := by have := kindB_cases hk; omega
    have hok : okO ((K : Int), a, b) = ((decide (shL.getD K 0 ≤ a) && decide (a ≤ shA.getD K 0)) && (decide (0 ≤ b) && decide (b ≤ shB.getD K 0))) := by
      unfold okO
      rw [hk, Bool.true_and]
      rfl
    rw [hok]
    obtain ⟨u1, hu1⟩ : ∃ u, w.alloc (.cells #[.int .i64 (K : Int), .int .i64 a, .int .i64 b] 23) = u := ⟨_, rfl⟩
    have b1 : Below w.heap.size w u1 := by rw [← hu1]; exact bel1 _ _
    obtain ⟨_, _, c2, c3, c4, c5⟩ := (h.below b1).sh K (by omega)
    have d0 : u1.cell? ⟨w.heap.size, 0, none⟩ = some (.int .i64 (K : Int)) := by rw [← hu1, cell_fresh]; rfl
    have d1 : u1.cell? ⟨w.heap.size, 1, none⟩ = some (.int .i64 a) := by rw [← hu1, cell_fresh]; rfl
    have d2 : u1.cell? ⟨w.heap.size, 2, none⟩ = some (.int .i64 b) := by rw [← hu1, cell_fresh]; rfl
    have t1 : ¬ (K : Int) < 1 := by omega
    have t2 : ¬ (K : Int) > 5 := by omega
    have t3 : (K : Int) < 6 := by omega
    have HU : Hid _ := hu1
    have HB : Hid _ := b1
    clear hu1 b1
    generalize shL.getD K 0 = LO at *
    generalize shA.getD K 0 = HA at *
    generalize shB.getD K 0 = HB' at *
    go_enter Tryd.func21, Tryd.ntmps21
    go_upto_region 3 with fail
    rw [HU.out]
    go_cut [3, 4] (fun s3 s4 wx => ∃ P Q : Nat, s3 = .pointer (some ⟨P, 0, none⟩) ∧ s4 = .pointer (some ⟨Q, 0, none⟩) ∧ Below u1.heap.size u1 wx ∧ P < wx.heap.size ∧ Q < wx.heap.size ∧ wx.cell? ⟨P, 0, none⟩ = some (.int .i64 LO) ∧ wx.cell? ⟨P, 1, none⟩ = some (.int .i64 0) ∧ wx.cell? ⟨Q, 0, none⟩ = some (.int .i64 HA) ∧ wx.cell? ⟨Q, 1, none⟩ = some (.int .i64 HB'))
    case first =>
      have al : ∀ (x y : Obj) (b j : Nat) (v : Value), u1.cell? ⟨b, j, none⟩ = some v → (u1.alloc x).cell? ⟨b, j, none⟩ = some v ∧ ((u1.alloc x).alloc y).cell? ⟨b, j, none⟩ = some v := fun x y b j v hx => by
        have hb : b < u1.heap.size := World.block_lt_of_cell? _ _ hx
        have e1 := (bel1 u1 x).cell (p := ⟨b, j, none⟩) hb
        have e2 := (Below.tr (bel1 u1 x) (bel1 _ y)).cell (p := ⟨b, j, none⟩) hb
        exact ⟨e1.trans hx, e2.trans hx⟩
      have c3 : u1.cell? ⟨0, K * 6 + 2 + 1, none⟩ = some (.int .i64 0) := c3
      have c5 : u1.cell? ⟨0, K * 6 + 4 + 1, none⟩ = some (.int .i64 HB') := c5
      have d0q0 := al (Obj.cells #[Value.int IntKind.i64 0, Value.int IntKind.i64 0] 54) (Obj.cells #[Value.int IntKind.i64 0, Value.int IntKind.i64 0] 54) _ _ _ d0
      have d0q1 := al (Obj.cells #[Value.int IntKind.i64 LO, Value.int IntKind.i64 0] 54) (Obj.cells #[Value.int IntKind.i64 0, Value.int IntKind.i64 0] 54) _ _ _ d0
      have d0q2 := al (Obj.cells #[Value.int IntKind.i64 0, Value.int IntKind.i64 0] 54) (Obj.cells #[Value.int IntKind.i64 LO, Value.int IntKind.i64 0] 54) _ _ _ d0
      have c2q0 := al (Obj.cells #[Value.int IntKind.i64 0, Value.int IntKind.i64 0] 54) (Obj.cells #[Value.int IntKind.i64 0, Value.int IntKind.i64 0] 54) _ _ _ c2
      have c2q1 := al (Obj.cells #[Value.int IntKind.i64 LO, Value.int IntKind.i64 0] 54) (Obj.cells #[Value.int IntKind.i64 0, Value.int IntKind.i64 0] 54) _ _ _ c2
      have c2q2 := al (Obj.cells #[Value.int IntKind.i64 0, Value.int IntKind.i64 0] 54) (Obj.cells #[Value.int IntKind.i64 LO, Value.int IntKind.i64 0] 54) _ _ _ c2
      have c3q0 := al (Obj.cells #[Value.int IntKind.i64 0, Value.int IntKind.i64 0] 54) (Obj.cells #[Value.int IntKind.i64 0, Value.int IntKind.i64 0] 54) _ _ _ c3
      have c3q1 := al (Obj.cells #[Value.int IntKind.i64 LO, Value.int IntKind.i64 0] 54) (Obj.cells #[Value.int IntKind.i64 0, Value.int IntKind.i64 0] 54) _ _ _ c3
      have c3q2 := al (Obj.cells #[Value.int IntKind.i64 0, Value.int IntKind.i64 0] 54) (Obj.cells #[Value.int IntKind.i64 LO, Value.int IntKind.i64 0] 54) _ _ _ c3
      have c4q0 := al (Obj.cells #[Value.int IntKind.i64 0, Value.int IntKind.i64 0] 54) (Obj.cells #[Value.int IntKind.i64 0, Value.int IntKind.i64 0] 54) _ _ _ c4
      have c4q1 := al (Obj.cells #[Value.int IntKind.i64 LO, Value.int IntKind.i64 0] 54) (Obj.cells #[Value.int IntKind.i64 0, Value.int IntKind.i64 0] 54) _ _ _ c4
      have c4q2 := al (Obj.cells #[Value.int IntKind.i64 0, Value.int IntKind.i64 0] 54) (Obj.cells #[Value.int IntKind.i64 LO, Value.int IntKind.i64 0] 54) _ _ _ c4
      have c5q0 := al (Obj.cells #[Value.int IntKind.i64 0, Value.int IntKind.i64 0] 54) (Obj.cells #[Value.int IntKind.i64 0, Value.int IntKind.i64 0] 54) _ _ _ c5
      have c5q1 := al (Obj.cells #[Value.int IntKind.i64 LO, Value.int IntKind.i64 0] 54) (Obj.cells #[Value.int IntKind.i64 0, Value.int IntKind.i64 0] 54) _ _ _ c5
      have c5q2 := al (Obj.cells #[Value.int IntKind.i64 0, Value.int IntKind.i64 0] 54) (Obj.cells #[Value.int IntKind.i64 LO, Value.int IntKind.i64 0] 54) _ _ _ c5
      clear al
      go_region
      all_goals go_wp2_with fail
      all_goals go_meet
      · exact ⟨_, _, rfl, rfl, Below.drew (Below.tr (bel1 _ _) (bel1 _ _)), by show _ < ((u1.alloc _).alloc _).heap.size; rw [two_sz]; omega, by show _ < ((u1.alloc _).alloc _).heap.size; rw [two_sz]; omega, two_new0 _ _ _ _ _ 0, two_new0 _ _ _ _ _ 1, two_new1 _ _ _ _ _ 0, two_new1 _ _ _ _ _ 1⟩
      · exact ⟨_, _, rfl, rfl, Below.drew (Below.tr (bel1 _ _) (bel1 _ _)), by show _ < ((u1.alloc _).alloc _).heap.size; rw [two_sz]; omega, by show _ < ((u1.alloc _).alloc _).heap.size; rw [two_sz]; omega, two_new1 _ _ _ _ _ 0, two_new1 _ _ _ _ _ 1, two_new0 _ _ _ _ _ 0, two_new0 _ _ _ _ _ 1⟩
    case rest =>
      obtain ⟨P, Q, rfl, rfl, hx, pP, pQ, p0, p1, q0, q1⟩ := hcut
      have BX : Aside (Below w.heap.size w wc) := Below.tr HB.out hx
      have e0 := (hx.cell (p := ⟨w.heap.size, 0, none⟩) (World.block_lt_of_cell? _ _ d0)).trans d0
      have e1 := (hx.cell (p := ⟨w.heap.size, 1, none⟩) (World.block_lt_of_cell? _ _ d1)).trans d1
      have e2 := (hx.cell (p := ⟨w.heap.size, 2, none⟩) (World.block_lt_of_cell? _ _ d2)).trans d2
      go_wp2_with fail
      refine (numbers_any K a b wc).mono ?_
      rintro e w2 ⟨rfl, hy⟩
      have p0 := (hy.cell (p := ⟨P, 0, none⟩) pP).trans p0
      have p1 := (hy.cell (p := ⟨P, 1, none⟩) pP).trans p1
      have q0 := (hy.cell (p := ⟨Q, 0, none⟩) pQ).trans q0
      have q1 := (hy.cell (p := ⟨Q, 1, none⟩) pQ).trans q1
      have BY : Aside (Below w.heap.size w w2) := Below.tr BX.out hy
      clear hx hy BX e0 e1 e2
      go_wp2_with fail
      go_loopg [27] 2 (fun kx s27 wr => ∃ i : Nat, s27 = .int .i64 i ∧ i ≤ 2 ∧ 2 - i ≤ kx ∧ wr = w2 ∧ Aside ((1 ≤ i → LO ≤ a ∧ a ≤ HA) ∧ (2 ≤ i → 0 ≤ b ∧ b ≤ HB')))
      case atStart => exact ⟨0, rfl, by omega, by omega, rfl, (⟨fun h => by omega, fun h => by omega⟩ : (1 ≤ 0 → LO ≤ a ∧ a ≤ HA) ∧ (2 ≤ 0 → 0 ≤ b ∧ b ≤ HB'))⟩
      case round =>
        obtain ⟨i, rfl, hi, hkx, rfl, A⟩ := hrel
        have hi' : i = 0 ∨ i = 1 ∨ i = 2 := by omega
        rcases hi' with rfl | rfl | rfl
        · have ri := idx2_0 a b wr
          by_cases x1 : a < LO
          · go_wp2
            go_ret
            refine ⟨?_, BY.out⟩
            have : decide (LO ≤ a) = false := decide_eq_false (by omega)
            rw [this]; rfl
          · by_cases x2 : a > HA
            · go_wp2
              go_ret
              refine ⟨?_, BY.out⟩
              have : decide (a ≤ HA) = false := decide_eq_false (by omega)
              rw [this]; first | rfl | (rw [Bool.and_false]; rfl)
            · go_wp2
              go_roundg 1
              case measure => omega
              case rel => exact ⟨1, rfl, by omega, by omega, rfl, (⟨fun _ => ⟨by omega, by omega⟩, fun h => by omega⟩ : (1 ≤ 1 → LO ≤ a ∧ a ≤ HA) ∧ (2 ≤ 1 → 0 ≤ b ∧ b ≤ HB'))⟩
        · have ri := idx2_1 a b wr
          have A1 := A.out.1 (by omega)
          by_cases x1 : b < 0
          · go_wp2
            go_ret
            refine ⟨?_, BY.out⟩
            have : decide (0 ≤ b) = false := decide_eq_false (by omega)
            rw [this, Bool.false_and, Bool.and_false]; rfl
          · by_cases x2 : b > HB'
            · go_wp2
              go_ret
              refine ⟨?_, BY.out⟩
              have : decide (b ≤ HB') = false := decide_eq_false (by omega)
              rw [this]; first | rfl | (rw [Bool.and_false]; rfl) | (rw [Bool.and_false, Bool.and_false]; rfl)
            · go_wp2
              go_roundg 0
              case measure => omega
              case rel => exact ⟨2, rfl, by omega, by omega, rfl, (⟨fun _ => A1, fun h => ⟨by omega, by omega⟩⟩ : (1 ≤ 2 → LO ≤ a ∧ a ≤ HA) ∧ (2 ≤ 2 → 0 ≤ b ∧ b ≤ HB'))⟩
        · go_wp2
          go_ret
          refine ⟨?_, BY.out⟩
          obtain ⟨A1, A2⟩ := A.out
          obtain ⟨x1, x2⟩ := A1 (by omega)
          obtain ⟨x3, x4⟩ := A2 (by omega)
          rw [decide_eq_true x1, decide_eq_true x2, decide_eq_true x3, decide_eq_true x4]; rfl
  · have hok : okO (k, a, b) = false := by
      unfold okO
      rw [Bool.not_eq_true] at hk
      rw [hk, Bool.false_and]
    rw [hok]
    have hk' : k < 1 ∨ k > 5 := by
      unfold kindB at hk
      rw [Bool.and_eq_true, decide_eq_true_eq, decide_eq_true_eq] at hk
      omega
    by_cases x1 : k < 1
    · go_enter Tryd.func21, Tryd.ntmps21
      go_wp2
      go_ret
      exact ⟨rfl, bel1 _ _⟩
    · have x2 : k > 5 := by omega
      go_enter Tryd.func21, Tryd.ntmps21
      go_wp2
      go_ret
      exact ⟨rfl, bel1 _ _⟩

/-- The first of which p says yes. -/
def FirstIs (d : List OpR) (p : OpR → Bool) (z : Int) : Prop := (z = -1 ∧ ∀ i (hi : i < d.length), p d[i] = false) ∨ ∃ k : Nat, ∃ hk : k < d.length, z = k ∧ p d[k] = true ∧ ∀ i (hi : i < k), p (d[i]'(by omega)) = false
set_option maxHeartbeats 2000000 in
set_option maxRecDepth 100000 in
theorem indexFunc_any (a : Option Addr) (cap : Nat) (d : List OpR) (g : Nat) (p : OpR → Bool) (w : World) (h : IsG rO w a cap d)
    (eg : ∀ args w, (callFunc g args).run Tryd.prog w = .ok (.enter g args) w) (hg : AnsB g p w) :
    Calls Tryd.prog 25 #[.slice a d.length cap, .func (.func g) #[] #[]] w fun r w' => ∃ z : Int, r = .returned (.int .i64 z) ∧ FirstIs d p z ∧ Below w.heap.size w w' := by
  have hl := h.len
  have H : Aside (IsG rO w a cap d) := h
  have HG : Aside (AnsB g p w) := hg
  clear h hg
  go_enter Tryd.func25, Tryd.ntmps25
  go_wp2
  go_loopg [8] d.length (fun kx s8 wr => ∃ k : Nat, s8 = .int .i64 k ∧ k ≤ d.length ∧ d.length - k ≤ kx ∧ Aside (Below w.heap.size w wr) ∧ Aside (∀ i (hi : i < d.length), i < k → p d[i] = false))
  case atStart => exact ⟨0, rfl, by omega, by omega, Below.refl _ w, (fun i _ h => absurd h (by omega) : ∀ i (hi : i < d.length), i < 0 → p d[i] = false)⟩
  case round =>
    obtain ⟨k, rfl, hk, hkx, G, A⟩ := hrel
    by_cases hlt : k < d.length
    · have hz : (k : Int) < (d.length : Int) := by omega
      obtain ⟨x, hx⟩ : ∃ x, d[k] = x := ⟨_, rfl⟩
      obtain ⟨b, off, ha, hb, c0, c1, c2⟩ := opAt (H.out.below G.out) (i := k) (x := x) (by rw [List.getElem?_eq_getElem hlt, hx])
      subst ha
      have HX : Hid _ := hx
      clear hx
      obtain ⟨B, hB⟩ : ∃ B, p x = B := ⟨_, rfl⟩
      have HB : Hid _ := hB
      have pc := HG.out x wr G.out
      rw [hB] at pc
      clear hB
      go_wp2_with fail
      refine pc.mono ?_
      rintro r w1 ⟨rfl, g1⟩
      have G2 : Aside (Below w.heap.size w w1) := Below.tr G.out g1
      clear g1 G c0 c1 c2 pc
      cases B with
      | true =>
        go_wp2
        go_ret
        refine ⟨k, rfl, .inr ⟨k, hlt, rfl, ?_, fun i hi => A.out i (by omega) hi⟩, G2.out⟩
        rw [HX.out]; exact HB.out
      | false =>
        go_wp2
        go_roundg (d.length - (k + 1))
        case measure => omega
        case rel =>
          refine ⟨k + 1, by go_num, by omega, Nat.le_refl _, G2, (fun i hi hik => ?_ : ∀ i (hi : i < d.length), i < k + 1 → p d[i] = false)⟩
          by_cases e : i = k
          · subst e; rw [HX.out]; exact HB.out
          · exact A.out i hi (by omega)
    · have hz : ¬ (k : Int) < (d.length : Int) := by omega
      go_wp2
      go_ret
      exact ⟨-1, rfl, .inl ⟨rfl, fun i hi => A.out i hi (by omega)⟩, G.out⟩
theorem FirstIs.any {d : List OpR} {p : OpR → Bool} {z : Int} (h : FirstIs d p z) : decide (z ≥ 0) = d.any p := by
  rcases h with ⟨rfl, h⟩ | ⟨k, hk, rfl, h, _⟩
  · have : d.any p = false := by
      rw [List.any_eq_false]
      intro x hx
      obtain ⟨i, hi, rfl⟩ := List.getElem_of_mem hx
      rw [h i hi]; simp
    rw [this]; decide
  · have : d.any p = true := List.any_eq_true.2 ⟨d[k], List.getElem_mem hk, h⟩
    rw [this]; simp
theorem containsFunc_any (a : Option Addr) (cap : Nat) (d : List OpR) (g : Nat) (p : OpR → Bool) (w : World) (h : IsG rO w a cap d)
    (eg : ∀ args w, (callFunc g args).run Tryd.prog w = .ok (.enter g args) w) (hg : AnsB g p w) :
    Calls Tryd.prog 20 #[.slice a d.length cap, .func (.func g) #[] #[]] w fun r w' => r = .returned (.bool (d.any p)) ∧ Below w.heap.size w w' := by
  have q := indexFunc_any a cap d g p w h eg hg
  go_enter Tryd.func20, Tryd.ntmps20
  go_wp2_with fail
  refine q.mono ?_
  rintro r w1 ⟨z, rfl, hz, hb⟩
  have e := hz.any
  go_wp2
  go_ret
  exact ⟨by rw [← e]; rfl, hb⟩
theorem okL_any (l : List OpR) : okL l = (decide (l.length ≤ 16) && !(l.any fun x => !okO x)) := by
  unfold okL
  congr 1
  induction l with
  | nil => rfl
  | cons x l ih => rw [List.all_cons, List.any_cons, ih]; cases okO x <;> simp
theorem ok_any (a : Option Addr) (cap : Nat) (d : List OpR) (w : World) (h : IsG rO w a cap d) (t : Tb w) :
    Calls Tryd.prog 8 #[.slice a d.length cap] w fun r w' => r = .returned (.bool (okL d)) ∧ Below w.heap.size w w' := by
  have hl := h.len
  have q := containsFunc_any a cap d 21 (fun x => !okO x) w h (enters_of Tryd.func21 (by kernel_rfl) rfl) (fun x W hW => wrong_any x.1 x.2.1 x.2.2 W (t.below hW))
  rw [okL_any]
  by_cases h16 : d.length ≤ 16
  · have h16' : (d.length : Int) ≤ 16 := by omega
    go_enter Tryd.func8, Tryd.ntmps8
    go_wp2_with fail
    refine q.mono ?_
    rintro r w1 ⟨rfl, hb⟩
    go_wp2
    go_ret
    exact ⟨by rw [decide_eq_true h16]; rfl, hb⟩
  · have h16' : ¬ (d.length : Int) ≤ 16 := by omega
    go_enter Tryd.func8, Tryd.ntmps8
    go_wp2
    go_ret
    exact ⟨rfl, Below.refl _ _⟩
theorem firstStp : ∀ {d : List OpR} {z : Int}, FirstIs d (fun x => decide (x.1 = 5)) z → (stp d : Int) = if z < 0 then (d.length : Int) else z + 1 := by
  have key : ∀ (d : List OpR), (∀ i (hi : i < d.length), decide (d[i].1 = 5) = false) → stp d = d.length := by
    intro d
    induction d with
    | nil => intro _; rfl
    | cons x d ih =>
      intro h
      have h0 := h 0 (by simp)
      simp at h0
      show (if x.1 = 5 then 1 else stp d + 1) = _
      rw [if_neg h0, ih (fun i hi => h (i + 1) (by simpa using hi))]; rfl
  have key2 : ∀ (d : List OpR) (k : Nat) (hk : k < d.length), decide (d[k].1 = 5) = true → (∀ i (hi : i < k), decide ((d[i]'(by omega)).1 = 5) = false) → stp d = k + 1 := by
    intro d
    induction d with
    | nil => intro k hk; simp at hk
    | cons x d ih =>
      intro k hk h1 h2
      show (if x.1 = 5 then 1 else stp d + 1) = _
      cases k with
      | zero =>
        simp at h1
        rw [if_pos h1]
      | succ k =>
        have h0 := h2 0 (by omega)
        simp at h0
        rw [if_neg h0, ih k (by simpa using hk) h1 (fun i hi => h2 (i + 1) (by omega))]
  intro d z h
  rcases h with ⟨rfl, h⟩ | ⟨k, hk, rfl, h, h'⟩
  · rw [key d h]; rfl
  · rw [key2 d k hk h h', if_neg (by omega)]; rfl
theorem steps_any (a : Option Addr) (cap : Nat) (d : List OpR) (w : World) (h : IsG rO w a cap d) :
    Calls Tryd.prog 12 #[.slice a d.length cap] w fun r w' => r = .returned (.int .i64 (stp d)) ∧ Below w.heap.size w w' := by
  have hl := h.len
  have q := indexFunc_any a cap d 26 (fun x => decide (x.1 = 5)) w h (enters_of Tryd.func26 (by kernel_rfl) rfl) (fun x W hW => panics_any x.1 x.2.1 x.2.2 W)
  go_enter Tryd.func12, Tryd.ntmps12
  go_wp2_with fail
  refine q.mono ?_
  rintro r w1 ⟨z, rfl, hz, hb⟩
  have e := firstStp hz
  have hzr : z = -1 ∨ 0 ≤ z ∧ z < (d.length : Int) := by
    rcases hz with ⟨h, _⟩ | ⟨k, hk, h, _⟩
    · exact .inl h
    · exact .inr (by omega)
  clear hz
  by_cases c : z < 0
  · rw [if_pos c] at e
    go_wp2
    go_ret
    exact ⟨by rw [e]; rfl, hb⟩
  · rw [if_neg c] at e
    have z1 : 0 ≤ z := by omega
    have z2 : z < (d.length : Int) := by omega
    go_wp2
    go_ret
    exact ⟨by rw [e]; rfl, hb⟩

end Go.Proofs.YtoidkiodlfpefaaDoor
