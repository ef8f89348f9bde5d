/- The calls that only read slices of entries: Sorted, Smaller, Place; the document's Sorted, Same, Has, Place. -/
import Derived.Deep.LoopGhost
import Derived.Test.YtboccihcomaaoaaEntL
import Derived.Test.YtboccihcomaaoaaEntM
import Derived.Test.YtboccihcomaaoaaSearch
namespace Go.Proofs.Ytboccihcomaaoaa
open Go.RowKit Go.Lib Go.Sort
set_option linter.unusedVariables false

theorem less_grown (x y : Ent) (w : World) (n : Nat) (os : Array Obj) :
    Calls Try.prog 59 #[.agg #[.int .u64 x.1, .int .i64 x.2], .agg #[.int .u64 y.1, .int .i64 y.2]] (grow (w.drewN n) os) fun e w' => e = .returned (.bool (ltE x y)) ∧ ∃ p : GrownBy, w' = grow (w.drewN p.n) p.os :=
  Calls.grown_of (less_any x y _)
theorem refLess_grown (x y : Ent) (w : World) (n : Nat) (os : Array Obj) :
    Calls Try.prog 37 #[.agg #[.int .u64 x.1, .int .i64 x.2], .agg #[.int .u64 y.1, .int .i64 y.2]] (grow (w.drewN n) os) fun e w' => e = .returned (.bool (ltE x y)) ∧ ∃ p : GrownBy, w' = grow (w.drewN p.n) p.os :=
  Calls.grown_of (refLess_any x y _)
/-- Entry i, in every world that has grown. -/
theorem IsL.at {w : World} {a : Option Addr} {cap : Nat} {d : List Ent} (h : IsL w a cap d) {i : Nat} (hi : i < d.length) : ∃ b off, a = some ⟨b, off, none⟩ ∧ ∀ W, Grown w W → ∀ n os, (grow (W.drewN n) os).cell? ⟨b, off + i * 2, none⟩ = some (.int .u64 d[i].1) ∧ (grow (W.drewN n) os).cell? ⟨b, off + i * 2 + 1, none⟩ = some (.int .i64 d[i].2) := by
  obtain ⟨b, off, e, hb, h1, h2⟩ := h.elem i d[i] (List.getElem?_eq_getElem hi)
  refine ⟨b, off, e, fun W hW n os => ?_⟩
  have g : Grown w (grow (W.drewN n) os) := hW.trans ⟨n, os, rfl⟩
  exact ⟨(g.below.cell (p := ⟨b, off + i * 2, none⟩) hb).trans h1, (g.below.cell (p := ⟨b, off + i * 2 + 1, none⟩) hb).trans h2⟩


set_option maxHeartbeats 2000000 in
set_option maxRecDepth 100000 in
theorem sorted_any (a : Option Addr) (cap : Nat) (d : List Ent) (w : World) (h : IsL w a cap d) :
    Calls Try.prog 39 #[.slice a d.length cap] w fun e w' => e = .returned (.bool (srtB d)) ∧ Grown w w' := by
  have hl := h.len
  have H : Aside _ := h
  have mx := mixed
  clear h
  go_enter Try.func39, Try.ntmps39
  go_wp2
  go_loopg [3] (d.length + 1) (fun kx s3 wr => ∃ k : Nat, s3 = .int .i64 (k + 1 : Nat) ∧ (k < d.length ∨ k = 0) ∧ d.length - k ≤ kx ∧ Aside (Grown w wr) ∧ Aside (∀ i (hi : i + 1 < d.length), i < k → ltE d[i + 1] (d[i]'(by omega)) = false))
  case atStart => exact ⟨0, rfl, .inr rfl, by omega, Grown.refl w, (fun i _ h => absurd h (by omega) : ∀ i (hi : i + 1 < d.length), i < 0 → ltE d[i + 1] (d[i]'(by omega)) = false)⟩
  case round =>
    obtain ⟨k, rfl, hk, hkx, G, A⟩ := hrel
    by_cases hlt : k + 1 < d.length
    · have hz : (k : Int) + 1 < (d.length : Int) := by omega
      have hz0 : (k : Int) < (d.length : Int) := by omega
      have e1 : ((k : Int) + 1).toNat = k + 1 := by omega
      have p1 : (0 : Int) ≤ (k : Int) + 1 := by omega
      have wk : IntKind.i64.wrap (k : Int) = (k : Int) := by rw [IntKind.wrap_i64]; omega
      obtain ⟨b, off, ha, hc⟩ := H.out.at hlt
      obtain ⟨b', off', ha', hc'⟩ := H.out.at (show k < d.length by omega)
      obtain ⟨rfl, rfl⟩ : b' = b ∧ off' = off := by rw [ha] at ha'; cases ha'; exact ⟨rfl, rfl⟩
      subst ha
      have c1 := fun n os => (hc wr G.out n os).1
      have c2 := fun n os => (hc wr G.out n os).2
      have c3 := fun n os => (hc' wr G.out n os).1
      have c4 := fun n os => (hc' wr G.out n os).2
      clear hc hc' ha'
      obtain ⟨x, hx⟩ : ∃ x, d[k + 1] = x := ⟨_, rfl⟩
      obtain ⟨y, hy⟩ : ∃ y, d[k]'(by omega) = y := ⟨_, rfl⟩
      rw [hx] at c1 c2
      rw [hy] at c3 c4
      have HX : Hid _ := hx
      have HY : Hid _ := hy
      clear hx hy
      have lg := less_grown x y wr
      cases hL : ltE x y with
      | true =>
        simp only [hL] at lg
        go_wp2_with fail
        go_quiet_grown (first | (go_at_call 59; exact lg _ _))
        have G2 : Aside (Grown w (grow (wr.drewN nq) osq)) := G.out.trans ⟨nq, osq, rfl⟩
        clear c1 c2 c3 c4 G
        generalize grow (wr.drewN nq) osq = w2 at G2 ⊢
        go_wp2
        go_ret
        have := srtB_false (d := d) k hlt (by rw [HX.out, HY.out]; exact hL)
        exact ⟨by rw [this]; rfl, G2.out⟩
      | false =>
        simp only [hL] at lg
        go_wp2_with fail
        go_quiet_grown (first | (go_at_call 59; exact lg _ _))
        have G2 : Aside (Grown w (grow (wr.drewN nq) osq)) := G.out.trans ⟨nq, osq, rfl⟩
        clear c1 c2 c3 c4 G
        generalize grow (wr.drewN nq) osq = w2 at G2 ⊢
        go_wp2
        go_roundg (d.length - (k + 1))
        case measure => omega
        case rel =>
          refine ⟨k + 1, by go_num, by omega, Nat.le_refl _, G2, (fun i hi hik => ?_ : ∀ i (hi : i + 1 < d.length), i < k + 1 → ltE d[i + 1] (d[i]'(by omega)) = false)⟩
          by_cases e : i = k
          · subst e; rw [HX.out, HY.out]; exact hL
          · exact A.out i hi (by omega)
    · have hz : ¬ (k : Int) + 1 < (d.length : Int) := by omega
      go_wp2
      go_ret
      have := srtB_true (d := d) (fun i hi => A.out i hi (by omega))
      exact ⟨by rw [this]; rfl, G.out⟩

set_option maxHeartbeats 2000000 in
set_option maxRecDepth 100000 in
theorem refSorted_any (a : Option Addr) (cap : Nat) (d : List Ent) (w : World) (h : IsL w a cap d) :
    Calls Try.prog 15 #[.slice a d.length cap] w fun e w' => e = .returned (.bool (srtB d)) ∧ Grown w w' := by
  have hl := h.len
  have H : Aside _ := h
  have mx := mixed
  clear h
  go_enter Try.func15, Try.ntmps15
  go_wp2
  go_loopg [3] (d.length + 1) (fun kx s3 wr => ∃ k : Nat, s3 = .int .i64 (k + 1 : Nat) ∧ (k < d.length ∨ k = 0) ∧ d.length - k ≤ kx ∧ Aside (Grown w wr) ∧ Aside (∀ i (hi : i + 1 < d.length), i < k → ltE d[i + 1] (d[i]'(by omega)) = false))
  case atStart => exact ⟨0, rfl, .inr rfl, by omega, Grown.refl w, (fun i _ h => absurd h (by omega) : ∀ i (hi : i + 1 < d.length), i < 0 → ltE d[i + 1] (d[i]'(by omega)) = false)⟩
  case round =>
    obtain ⟨k, rfl, hk, hkx, G, A⟩ := hrel
    by_cases hlt : k + 1 < d.length
    · have hz : (k : Int) + 1 < (d.length : Int) := by omega
      have hz0 : (k : Int) < (d.length : Int) := by omega
      have e1 : ((k : Int) + 1).toNat = k + 1 := by omega
      have p1 : (0 : Int) ≤ (k : Int) + 1 := by omega
      have wk : IntKind.i64.wrap (k : Int) = (k : Int) := by rw [IntKind.wrap_i64]; omega
      obtain ⟨b, off, ha, hc⟩ := H.out.at hlt
      obtain ⟨b', off', ha', hc'⟩ := H.out.at (show k < d.length by omega)
      obtain ⟨rfl, rfl⟩ : b' = b ∧ off' = off := by rw [ha] at ha'; cases ha'; exact ⟨rfl, rfl⟩
      subst ha
      have c1 := fun n os => (hc wr G.out n os).1
      have c2 := fun n os => (hc wr G.out n os).2
      have c3 := fun n os => (hc' wr G.out n os).1
      have c4 := fun n os => (hc' wr G.out n os).2
      clear hc hc' ha'
      obtain ⟨x, hx⟩ : ∃ x, d[k + 1] = x := ⟨_, rfl⟩
      obtain ⟨y, hy⟩ : ∃ y, d[k]'(by omega) = y := ⟨_, rfl⟩
      rw [hx] at c1 c2
      rw [hy] at c3 c4
      have HX : Hid _ := hx
      have HY : Hid _ := hy
      clear hx hy
      have lg := refLess_grown x y wr
      cases hL : ltE x y with
      | true =>
        simp only [hL] at lg
        go_wp2_with fail
        go_quiet_grown (first | (go_at_call 37; exact lg _ _))
        have G2 : Aside (Grown w (grow (wr.drewN nq) osq)) := G.out.trans ⟨nq, osq, rfl⟩
        clear c1 c2 c3 c4 G
        generalize grow (wr.drewN nq) osq = w2 at G2 ⊢
        go_wp2
        go_ret
        have := srtB_false (d := d) k hlt (by rw [HX.out, HY.out]; exact hL)
        exact ⟨by rw [this]; rfl, G2.out⟩
      | false =>
        simp only [hL] at lg
        go_wp2_with fail
        go_quiet_grown (first | (go_at_call 37; exact lg _ _))
        have G2 : Aside (Grown w (grow (wr.drewN nq) osq)) := G.out.trans ⟨nq, osq, rfl⟩
        clear c1 c2 c3 c4 G
        generalize grow (wr.drewN nq) osq = w2 at G2 ⊢
        go_wp2
        go_roundg (d.length - (k + 1))
        case measure => omega
        case rel =>
          refine ⟨k + 1, by go_num, by omega, Nat.le_refl _, G2, (fun i hi hik => ?_ : ∀ i (hi : i + 1 < d.length), i < k + 1 → ltE d[i + 1] (d[i]'(by omega)) = false)⟩
          by_cases e : i = k
          · subst e; rw [HX.out, HY.out]; exact hL
          · exact A.out i hi (by omega)
    · have hz : ¬ (k : Int) + 1 < (d.length : Int) := by omega
      go_wp2
      go_ret
      have := srtB_true (d := d) (fun i hi => A.out i hi (by omega))
      exact ⟨by rw [this]; rfl, G.out⟩
end Go.Proofs.Ytboccihcomaaoaa
/- Slices of slices of entries; entry.Least. -/
namespace Go.Proofs.Ytboccihcomaaoaa
open Go.RowKit Go.Lib Go.Sort
set_option linter.unusedVariables false

/-- A slice at a that holds these lists. -/
structure IsLL (w : World) (a : Option Addr) (ls : List (List Ent)) : Prop where
  len : ls.length ≤ 9223372036854775807
  elem : ∀ i d, ls[i]? = some d → ∃ b off p k, a = some ⟨b, off, none⟩ ∧ b < w.heap.size ∧ w.cell? ⟨b, off + i, none⟩ = some (.slice p d.length k) ∧ IsL w p k d
theorem IsLL.below {w w' : World} {a : Option Addr} {ls : List (List Ent)} (h : IsLL w a ls) (hw : Below w.heap.size w w') : IsLL w' a ls :=
  ⟨h.len, fun i d hd => by
    obtain ⟨b, off, p, k, e, hb, h1, h2⟩ := h.elem i d hd
    exact ⟨b, off, p, k, e, by have := hw.size; omega, (hw.cell (p := ⟨b, off + i, none⟩) hb).trans h1, h2.below hw⟩⟩

def unl : Option (Nat × Ent) → Ent
  | none => (0, 0)
  | some (_, y) => y
def unj : Option (Nat × Ent) → Nat
  | none => 0
  | some (j, _) => j
def unb : Option (Nat × Ent) → Bool
  | none => false
  | some _ => true
theorem least_j (ls : List (List Ent)) : ∀ k, unj (leastL ls k) ≤ k
  | 0 => Nat.le_refl _
  | k + 1 => by
    have ih := least_j ls k
    simp only [leastL]
    generalize leastL ls k = st at ih ⊢
    unfold least1
    split
    · simp [unj]
    · split
      · simp [unj]
      · simp [unj] at ih ⊢; omega
    · omega

/-- What Least tells. -/
def LeastIs (w : World) (ls : List (List Ent)) (r : Ending) (w' : World) : Prop :=
  r = .returned (.tuple #[.agg #[.int .u64 (unl (leastL ls ls.length)).1, .int .i64 (unl (leastL ls ls.length)).2], .int .i64 (unj (leastL ls ls.length)), .bool (unb (leastL ls ls.length))]) ∧ Below w.heap.size w w'

/-- A box for an entry at S. -/
structure Box (S : Nat) (x : Ent) (w : World) : Prop where
  lt : S < w.heap.size
  c0 : w.cell? ⟨S, 0, none⟩ = some (.int .u64 x.1)
  c1 : w.cell? ⟨S, 1, none⟩ = some (.int .i64 x.2)
  f0 : w.frozen? ⟨S, 0, none⟩ = false
  f1 : w.frozen? ⟨S, 1, none⟩ = false
theorem Box.grown {S : Nat} {x : Ent} {w W : World} (h : Box S x w) (g : Grown w W) : Box S x W :=
  ⟨by have := g.below.size; have := h.lt; omega, (g.cells _ _ h.lt).trans h.c0, (g.cells _ _ h.lt).trans h.c1, (g.below.frozen (p := ⟨S, 0, none⟩) h.lt).trans h.f0, (g.below.frozen (p := ⟨S, 1, none⟩) h.lt).trans h.f1⟩
theorem Box.set {S : Nat} {x : Ent} {w : World} (h : Box S x w) (y : Ent) : Box S y ((w.setCell ⟨S, 0, none⟩ (.int .u64 y.1)).setCell ⟨S, 1, none⟩ (.int .i64 y.2)) := by
  have k1 : ((w.setCell ⟨S, 0, none⟩ (.int .u64 y.1)).cell? ⟨S, 1, none⟩).isSome := by
    rw [World.cell?_setCell_other _ _ _ _ (by simp), h.c1]; rfl
  refine ⟨by simpa [World.setCell] using h.lt, ?_, ?_, ?_, ?_⟩
  · rw [World.cell?_setCell_other _ _ _ _ (by simp), World.cell?_setCell_same' _ _ _ (by rw [h.c0]; rfl)]
  · rw [World.cell?_setCell_same' _ _ _ k1]
  · rw [World.frozen?_setCell, World.frozen?_setCell]; exact h.f0
  · rw [World.frozen?_setCell, World.frozen?_setCell]; exact h.f1

end Go.Proofs.Ytboccihcomaaoaa
/- More calls that only read: the document's Same, Has and Place; Smaller, Place. -/
namespace Go.Proofs.Ytboccihcomaaoaa
open Go.RowKit Go.Lib Go.Sort
set_option linter.unusedVariables false

/-- '==' of two entries. -/
theorem eqE (x y : Ent) (w : World) : (Op.equalIn 10000 37 (.agg #[.int .u64 x.1, .int .i64 x.2]) (.agg #[.int .u64 y.1, .int .i64 y.2])).run Try.prog w = .ok (decide (x = y)) w := by
  have u3 := Try.underlying3
  have a3 := Try.isAgg3
  have z3 := Try.sizeOf3
  have u29 := Try.underlying27
  have a29 := Try.isAgg27
  have z29 := Try.sizeOf27
  have hS : Try.prog.underlying 37 = some (.struct (Try.prog.fieldsOf 37)) := by kernel_rfl
  have hp : Try.prog.stoodInHeld 37 = false := by kernel_rfl
  rw [show (10000 : Nat) = 9999 + 1 from rfl, run_equalIn_agg w 9999 37 _ _ hS hp]
  simp only [Program.fieldsOf, Try.underlying37]
  obtain ⟨k1, i1⟩ := x
  obtain ⟨k2, i2⟩ := y
  go_simp
  by_cases h1 : k1 = k2 <;> by_cases h2 : i1 = i2 <;> simp [h1, h2]
theorem guardE : Try.prog.eqGuardType Try.prog.depth 37 = false := by kernel_rfl

theorem eq_take_succ {c d : List Ent} {k : Nat} (hc : k < c.length) (hd : k < d.length) (h : c.take k = d.take k) (e : c[k] = d[k]) : c.take (k + 1) = d.take (k + 1) := by
  rw [List.take_succ_eq_append_getElem hc, List.take_succ_eq_append_getElem hd, h, e]

set_option maxHeartbeats 2000000 in
set_option maxRecDepth 100000 in
theorem same_any (a a' : Option Addr) (cap cap' : Nat) (c d : List Ent) (w : World) (h : IsL w a cap c) (h' : IsL w a' cap' d) :
    Calls Try.prog 13 #[.slice a c.length cap, .slice a' d.length cap'] w fun e w' => e = .returned (.bool (decide (c = d))) ∧ Grown w w' := by
  have hl := h.len
  have hl' := h'.len
  have H : Aside _ := h
  have H' : Aside _ := h'
  have mx := mixed
  clear h h'
  by_cases e : c.length = d.length
  · obtain ⟨n, hn⟩ : ∃ n, c.length = n := ⟨_, rfl⟩
    have hn' : d.length = n := by omega
    have HN : Hid _ := hn
    have HN' : Hid _ := hn'
    rw [hn] at hl ⊢
    rw [hn'] at hl' ⊢
    clear e hn hn'
    go_enter Try.func13, Try.ntmps13
    go_wp2
    go_loopg [5] n (fun kx s5 wr => ∃ k : Nat, s5 = .int .i64 k ∧ k ≤ n ∧ n - k ≤ kx ∧ Aside (Grown w wr) ∧ Aside (c.take k = d.take k))
    case atStart => exact ⟨0, rfl, by omega, by omega, Grown.refl w, (by simp : c.take 0 = d.take 0)⟩
    case round =>
      obtain ⟨k, rfl, hk, hkx, G, A⟩ := hrel
      by_cases hlt : k < n
      · have hz : (k : Int) < (n : Int) := by omega
        obtain ⟨b, off, ha, hc⟩ := H.out.at (show k < c.length by rw [HN.out]; exact hlt)
        obtain ⟨b', off', ha', hc'⟩ := H'.out.at (show k < d.length by rw [HN'.out]; exact hlt)
        subst ha ha'
        have c1 := fun n => (hc wr G.out n #[]).1
        have c2 := fun n => (hc wr G.out n #[]).2
        have c3 := fun n => (hc' wr G.out n #[]).1
        have c4 := fun n => (hc' wr G.out n #[]).2
        simp only [grow_empty] at c1 c2 c3 c4
        clear hc hc'
        obtain ⟨x, hx⟩ : ∃ x, c[k]'(by rw [HN.out]; exact hlt) = x := ⟨_, rfl⟩
        obtain ⟨y, hy⟩ : ∃ y, d[k]'(by rw [HN'.out]; exact hlt) = y := ⟨_, rfl⟩
        rw [hx] at c1 c2
        rw [hy] at c3 c4
        have HX : Hid _ := hx
        have HY : Hid _ := hy
        clear hx hy
        have q1 := eqE x y
        have q2 := guardE
        by_cases e : x = y
        · have E : Hid _ := e
          have ed : decide (x = y) = true := decide_eq_true e
          clear e
          go_wp2_with fail
          go_quiet (fail)
          have G2 : Aside (Grown w (wr.drewN nq)) := G.out.drewN nq
          clear c1 c2 c3 c4 G q1
          generalize wr.drewN nq = w2 at G2 ⊢
          go_wp2
          go_roundg (n - (k + 1))
          case measure => omega
          case rel => exact ⟨k + 1, by go_num, by omega, Nat.le_refl _, G2, eq_take_succ (by rw [HN.out]; exact hlt) (by rw [HN'.out]; exact hlt) A.out (by rw [HX.out, HY.out]; exact E.out)⟩
        · have E : Hid _ := e
          have ed : decide (x = y) = false := decide_eq_false e
          clear e
          go_wp2_with fail
          go_quiet (fail)
          have G2 : Aside (Grown w (wr.drewN nq)) := G.out.drewN nq
          clear c1 c2 c3 c4 G q1
          generalize wr.drewN nq = w2 at G2 ⊢
          go_wp2
          go_ret
          have ne : c ≠ d := fun h => E.out (by rw [← HX.out, ← HY.out]; simp only [h])
          exact ⟨by rw [decide_eq_false ne]; rfl, G2.out⟩
      · have hz : ¬ (k : Int) < (n : Int) := by omega
        go_wp2
        go_ret
        have eq : c = d := by
          have h := A.out
          rw [List.take_of_length_le (by rw [HN.out]; omega), List.take_of_length_le (by rw [HN'.out]; omega)] at h
          exact h
        exact ⟨by rw [decide_eq_true eq]; rfl, G.out⟩
  · have ez : ¬ (c.length : Int) = (d.length : Int) := by omega
    have ne : c ≠ d := fun h => e (by rw [h])
    have : decide (c = d) = false := decide_eq_false ne
    rw [this]
    go_enter Try.func13, Try.ntmps13
    go_wp2
    go_ret
    exact ⟨rfl, Grown.refl w⟩

set_option maxHeartbeats 2000000 in
set_option maxRecDepth 100000 in
theorem has_any (a : Option Addr) (cap : Nat) (d : List Ent) (id : Int) (w : World) (h : IsL w a cap d) :
    Calls Try.prog 41 #[.slice a d.length cap, .int .i64 id] w fun e w' => e = .returned (.bool (hasL d id)) ∧ w' = w := by
  have hl := h.len
  have H : Aside _ := h
  clear h
  go_enter Try.func41, Try.ntmps41
  go_wp2
  go_loop [5] (fun s5 => ∃ k : Nat, s5 = .int .i64 k ∧ k ≤ d.length ∧ Aside (∀ i (hi : i < d.length), i < k → d[i].2 ≠ id)) (fun s5 => d.length - (intOf s5).toNat)
  case atStart => exact ⟨0, rfl, by omega, (fun i _ h => absurd h (by omega) : ∀ i (hi : i < d.length), i < 0 → d[i].2 ≠ id)⟩
  case round =>
    obtain ⟨k, rfl, hk, A⟩ := hrel
    by_cases hlt : k < d.length
    · have hz : (k : Int) < (d.length : Int) := by omega
      obtain ⟨b, off, rfl, hb, c1, c2⟩ := H.out.elem k d[k] (List.getElem?_eq_getElem hlt)
      obtain ⟨x, hx⟩ : ∃ x, d[k].2 = x := ⟨_, rfl⟩
      rw [hx] at c2
      have HX : Hid _ := hx
      clear hx c1
      by_cases e : x = id
      · have E : Hid _ := e
        have e2 : (x == id) = true := by simpa using e
        clear e
        go_wp2
        go_ret
        exact ⟨by rw [hasL_at k hlt (HX.out.trans E.out)]; rfl, rfl⟩
      · have E : Hid _ := e
        have e2 : (x == id) = false := by simpa using e
        go_wp2
        go_round
        case rel =>
          refine ⟨k + 1, by go_num, by omega, (fun i hi hik => ?_ : ∀ i (hi : i < d.length), i < k + 1 → d[i].2 ≠ id)⟩
          by_cases e : i = k
          · subst e; rw [HX.out]; exact E.out
          · exact A.out i hi (by omega)
        case measure => simp [intOf]; omega
    · have hz : ¬ (k : Int) < (d.length : Int) := by omega
      go_wp2
      go_ret
      exact ⟨by rw [hasL_none fun i hi => A.out i hi (by omega)]; rfl, rfl⟩

/-- A boxed entry, in every world that has grown. -/
theorem box_at (w : World) (x : Ent) (T : TypeId) {W : World} (h : Grown (w.alloc (.cells #[.int .u64 x.1, .int .i64 x.2] T)) W) (n : Nat) (os : Array Obj) :
    (grow (W.drewN n) os).cell? ⟨w.heap.size, 0, none⟩ = some (.int .u64 x.1) ∧ (grow (W.drewN n) os).cell? ⟨w.heap.size, 1, none⟩ = some (.int .i64 x.2) := by
  have g : Grown (w.alloc (.cells #[.int .u64 x.1, .int .i64 x.2] T)) (grow (W.drewN n) os) := h.trans ⟨n, os, rfl⟩
  exact ⟨(g.cells _ _ (by simp)).trans (by simp), (g.cells _ _ (by simp)).trans (by simp)⟩


end Go.Proofs.Ytboccihcomaaoaa
/- 'awake' of layer 5. -/
namespace Go.Proofs.Ytboccihcomaaoaa
open Go.RowKit Go.Lib Go.Sort
set_option linter.unusedVariables false

theorem cell_new (w : World) (cs : Array Value) (T : TypeId) (i : Nat) : (w.alloc (.cells cs T)).cell? ⟨w.heap.size, i, none⟩ = cs[i]? := cell_of_row _ _ _ cs T (0, 0) (heap_alloc_new w _)
theorem cell_old (w : World) (o : Obj) {b : Nat} (i : Nat) (hb : b < w.heap.size) : (w.alloc o).cell? ⟨b, i, none⟩ = w.cell? ⟨b, i, none⟩ := World.cell?_of_block (w := w) (Below.heap_alloc _ _ _ hb)
/-- Three blocks laid one behind the other. -/
theorem cells3 (w : World) (cs ds es : Array Value) (T T' T'' : TypeId) (i : Nat) :
    (((w.alloc (.cells cs T)).alloc (.cells ds T')).alloc (.cells es T'')).cell? ⟨w.heap.size, i, none⟩ = cs[i]? ∧
    (((w.alloc (.cells cs T)).alloc (.cells ds T')).alloc (.cells es T'')).cell? ⟨w.heap.size + 1, i, none⟩ = ds[i]? ∧
    (((w.alloc (.cells cs T)).alloc (.cells ds T')).alloc (.cells es T'')).cell? ⟨w.heap.size + 2, i, none⟩ = es[i]? := by
  have s1 : (w.alloc (.cells cs T)).heap.size = w.heap.size + 1 := by simp
  have s2 : ((w.alloc (.cells cs T)).alloc (.cells ds T')).heap.size = w.heap.size + 2 := by simp
  refine ⟨?_, ?_, ?_⟩
  · rw [cell_old _ _ _ (by omega), cell_old _ _ _ (by omega), cell_new]
  · rw [cell_old _ _ _ (by omega), ← s1, cell_new]
  · rw [← s2, cell_new]

end Go.Proofs.Ytboccihcomaaoaa
