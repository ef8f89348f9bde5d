/- Slices of slices of entries; entry.Least. -/
import Derived.Test.YtefkgljpocfpfaaEntR
namespace Go.Proofs.Ytefkgljpocfpfaa
open Go.RowKit Go.Lib Go.Sort
set_option linter.unusedVariables false

/-- A slice at a that holds these lists. -/
structure IsLL (w : World) (a : Option Addr) (ls : List (List Ent)) : Prop where
  len : ls.length ≤ 9223372036854775807
  elem : ∀ i d, ls[i]? = some d → ∃ b off p k, a = some ⟨b, off, none⟩ ∧ b < w.heap.size ∧ w.cell? ⟨b, off + i, none⟩ = some (.slice p d.length k) ∧ IsL w p k d
theorem IsLL.below {w w' : World} {a : Option Addr} {ls : List (List Ent)} (h : IsLL w a ls) (hw : Below w.heap.size w w') : IsLL w' a ls :=
  ⟨h.len, fun i d hd => by
    obtain ⟨b, off, p, k, e, hb, h1, h2⟩ := h.elem i d hd
    exact ⟨b, off, p, k, e, by have := hw.size; omega, (hw.cell (p := ⟨b, off + i, none⟩) hb).trans h1, h2.below hw⟩⟩

def unl : Option (Nat × Ent) → Ent
  | none => (0, 0)
  | some (_, y) => y
def unj : Option (Nat × Ent) → Nat
  | none => 0
  | some (j, _) => j
def unb : Option (Nat × Ent) → Bool
  | none => false
  | some _ => true
theorem least_j (ls : List (List Ent)) : ∀ k, unj (leastL ls k) ≤ k
  | 0 => Nat.le_refl _
  | k + 1 => by
    have ih := least_j ls k
    simp only [leastL]
    generalize leastL ls k = st at ih ⊢
    unfold least1
    split
    · simp [unj]
    · split
      · simp [unj]
      · simp [unj] at ih ⊢; omega
    · omega

/-- What Least tells. -/
def LeastIs (w : World) (ls : List (List Ent)) (r : Ending) (w' : World) : Prop :=
  r = .returned (.tuple #[.agg #[.int .u64 (unl (leastL ls ls.length)).1, .int .i64 (unl (leastL ls ls.length)).2], .int .i64 (unj (leastL ls ls.length)), .bool (unb (leastL ls ls.length))]) ∧ Below w.heap.size w w'

/-- A box for an entry at S. -/
structure Box (S : Nat) (x : Ent) (w : World) : Prop where
  lt : S < w.heap.size
  c0 : w.cell? ⟨S, 0, none⟩ = some (.int .u64 x.1)
  c1 : w.cell? ⟨S, 1, none⟩ = some (.int .i64 x.2)
  f0 : w.frozen? ⟨S, 0, none⟩ = false
  f1 : w.frozen? ⟨S, 1, none⟩ = false
theorem Box.grown {S : Nat} {x : Ent} {w W : World} (h : Box S x w) (g : Grown w W) : Box S x W :=
  ⟨by have := g.below.size; have := h.lt; omega, (g.cells _ _ h.lt).trans h.c0, (g.cells _ _ h.lt).trans h.c1, (g.below.frozen (p := ⟨S, 0, none⟩) h.lt).trans h.f0, (g.below.frozen (p := ⟨S, 1, none⟩) h.lt).trans h.f1⟩
theorem Box.set {S : Nat} {x : Ent} {w : World} (h : Box S x w) (y : Ent) : Box S y ((w.setCell ⟨S, 0, none⟩ (.int .u64 y.1)).setCell ⟨S, 1, none⟩ (.int .i64 y.2)) := by
  have k1 : ((w.setCell ⟨S, 0, none⟩ (.int .u64 y.1)).cell? ⟨S, 1, none⟩).isSome := by
    rw [World.cell?_setCell_other _ _ _ _ (by simp), h.c1]; rfl
  refine ⟨by simpa [World.setCell] using h.lt, ?_, ?_, ?_, ?_⟩
  · rw [World.cell?_setCell_other _ _ _ _ (by simp), World.cell?_setCell_same' _ _ _ (by rw [h.c0]; rfl)]
  · rw [World.cell?_setCell_same' _ _ _ k1]
  · rw [World.frozen?_setCell, World.frozen?_setCell]; exact h.f0
  · rw [World.frozen?_setCell, World.frozen?_setCell]; exact h.f1

set_option maxHeartbeats 4000000 in
set_option maxRecDepth 100000 in
theorem least_any (a : Option Addr) (cap : Nat) (ls : List (List Ent)) (w : World) (h : IsLL w a ls) :
    Calls Try.prog 18 #[.slice a ls.length cap] w (LeastIs w ls) := by
  have hl := h.len
  have H : Aside (IsLL w a ls) := h
  have mx := mixed
  obtain ⟨S, hS⟩ : ∃ S, w.heap.size = S := ⟨_, rfl⟩
  have HS : Hid _ := hS
  clear h
  go_enter Try.func18, Try.ntmps18
  go_wp2
  go_loopg [3, 4, 9] ls.length (fun kx s3 s4 s9 wr => ∃ k : Nat, s9 = .int .i64 k ∧ s3 = .int .i64 (unj (leastL ls k)) ∧ s4 = .bool (unb (leastL ls k)) ∧ k ≤ ls.length ∧ ls.length - k ≤ kx ∧ Aside (Below S w wr) ∧ Aside (Box S (unl (leastL ls k)) wr))
  case atStart =>
    refine ⟨0, rfl, rfl, rfl, by omega, by omega, (Below.refl _ _).alloc (by omega) _, ?_⟩
    subst hS
    exact ⟨by simp, by simp [unl, leastL], by simp [unl, leastL], by simp, by simp⟩
  case round =>
    obtain ⟨k, rfl, rfl, rfl, hk, hkx, B, X⟩ := hrel
    clear hS
    have hj := least_j ls k
    obtain ⟨st, hst⟩ : ∃ st, leastL ls k = st := ⟨_, rfl⟩
    have ST : Hid _ := hst
    rw [hst] at hj X ⊢
    clear hst
    by_cases hlt : k < ls.length
    · have hz : (k : Int) < (ls.length : Int) := by omega
      have H2 : Aside (IsLL wr a ls) := H.out.below (by rw [HS.out]; exact B.out)
      obtain ⟨d, hd⟩ : ∃ d, ls[k]? = some d := ⟨_, List.getElem?_eq_getElem hlt⟩
      have hd2 : ls.getD k [] = d := by rw [List.getD_eq_getElem?_getD, hd]; rfl
      obtain ⟨b, off, p, q, rfl, hb, cc, L⟩ := H2.out.elem k d hd
      have hdl := L.len
      have LL : Aside (IsL wr p q d) := L
      have NX : Hid (leastL ls (k + 1) = least1 st k d) := by show leastL ls (k + 1) = _; simp only [leastL, ST.out, hd2]
      clear L H2 hd hd2
      cases d with
      | nil =>
        have NX2 : Hid (leastL ls (k + 1) = st) := by show _ = _; rw [NX.out]; unfold least1; split <;> simp_all
        have z0 : decide ((0 : Int) < 0) = false := by decide
        go_wp2_with fail
        go_quiet (fail)
        have B2 : Aside (Below S w (wr.drewN nq)) := B.out.trans ((Grown.below ⟨nq, #[], by rw [grow_empty]⟩).mono (Nat.le_of_lt X.out.lt))
        have X2 : Aside (Box S (unl st) (wr.drewN nq)) := X.out.grown ⟨nq, #[], by rw [grow_empty]⟩
        clear B X cc
        generalize wr.drewN nq = w2 at B2 X2 ⊢
        go_wp2
        go_roundg (ls.length - (k + 1))
        case measure => omega
        case rel => exact ⟨k + 1, by go_num, by rw [NX2.out], by rw [NX2.out], by omega, Nat.le_refl _, B2, by rw [NX2.out]; exact X2⟩
      | cons x d =>
        obtain ⟨b', off', ha', hc'⟩ := LL.out.at (show 0 < (x :: d).length by simp)
        subst ha'
        have c1 := fun n os => (hc' wr (Grown.refl wr) n os).1
        have c2 := fun n os => (hc' wr (Grown.refl wr) n os).2
        simp only [List.getElem_cons_zero, Nat.zero_mul, Nat.add_zero] at c1 c2
        clear hc' LL
        simp only [List.length_cons] at cc hdl ⊢
        have z1 : (0 : Int) < (d.length : Int) + 1 := by omega
        have z2 : decide ((0 : Int) < (d.length : Int) + 1) = true := decide_eq_true z1
        cases st with
        | none =>
          have NX2 : Hid (leastL ls (k + 1) = some (k, x)) := NX.out
          go_wp2_with fail
          simp only [unb, unj, unl] at X ⊢
          go_quiet (fail)
          have B2 : Aside (Below S w (wr.drewN nq)) := B.out.trans ((Grown.below ⟨nq, #[], by rw [grow_empty]⟩).mono (Nat.le_of_lt X.out.lt))
          have X2 : Aside (Box S (0, 0) (wr.drewN nq)) := X.out.grown ⟨nq, #[], by rw [grow_empty]⟩
          have e1 : (wr.drewN nq).cell? ⟨b', off', none⟩ = some (.int .u64 x.1) := by have := c1 nq #[]; rwa [grow_empty] at this
          have e2 : (wr.drewN nq).cell? ⟨b', off' + 1, none⟩ = some (.int .i64 x.2) := by have := c2 nq #[]; rwa [grow_empty] at this
          clear B X cc c1 c2
          generalize wr.drewN nq = w2 at B2 X2 e1 e2 ⊢
          have x0 := X2.out.c0
          have x1 := X2.out.c1
          have x2 := X2.out.f0
          have x3 := X2.out.f1
          have B3 : Aside (Below S w ((w2.setCell ⟨S, 0, none⟩ (.int .u64 x.1)).setCell ⟨S, 1, none⟩ (.int .i64 x.2))) := (B2.out.setCell (Nat.le_refl _) _).setCell (Nat.le_refl _) _
          have X3 : Aside (Box S x ((w2.setCell ⟨S, 0, none⟩ (.int .u64 x.1)).setCell ⟨S, 1, none⟩ (.int .i64 x.2))) := X2.out.set x
          clear B2 X2
          go_wp2_with fail
          go_roundg (ls.length - (k + 1))
          case measure => omega
          case rel => exact ⟨k + 1, by go_num, by rw [NX2.out]; rfl, by rw [NX2.out]; rfl, by omega, Nat.le_refl _, B3, by rw [NX2.out]; exact X3⟩
        | some jy =>
          obtain ⟨jj, y⟩ := jy
          simp only [unb, unj, unl] at X hj ⊢
          have c3 := fun n os => (X.out.grown (W := grow (wr.drewN n) os) ⟨n, os, rfl⟩).c0
          have c4 := fun n os => (X.out.grown (W := grow (wr.drewN n) os) ⟨n, os, rfl⟩).c1
          have lg := less_grown x y wr
          cases hL : ltE x y with
          | true =>
            simp only [hL] at lg
            have NX2 : Hid (leastL ls (k + 1) = some (k, x)) := by show _ = _; rw [NX.out]; simp [least1, hL]
            have hok : (!true) = false := rfl
            go_wp2_with fail
            go_quiet_grown (first | (go_at_call 21; exact lg _ _))
            have B2 : Aside (Below S w (grow (wr.drewN nq) osq)) := B.out.trans ((Grown.below ⟨nq, osq, rfl⟩).mono (Nat.le_of_lt X.out.lt))
            have X2 : Aside (Box S y (grow (wr.drewN nq) osq)) := X.out.grown ⟨nq, osq, rfl⟩
            have e1 := c1 nq osq
            have e2 := c2 nq osq
            clear B X cc c1 c2 c3 c4 lg
            generalize grow (wr.drewN nq) osq = w2 at B2 X2 e1 e2 ⊢
            have x0 := X2.out.c0
            have x1 := X2.out.c1
            have x2 := X2.out.f0
            have x3 := X2.out.f1
            have B3 : Aside (Below S w ((w2.setCell ⟨S, 0, none⟩ (.int .u64 x.1)).setCell ⟨S, 1, none⟩ (.int .i64 x.2))) := (B2.out.setCell (Nat.le_refl _) _).setCell (Nat.le_refl _) _
            have X3 : Aside (Box S x ((w2.setCell ⟨S, 0, none⟩ (.int .u64 x.1)).setCell ⟨S, 1, none⟩ (.int .i64 x.2))) := X2.out.set x
            clear B2 X2
            go_wp2_with fail
            go_roundg (ls.length - (k + 1))
            case measure => omega
            case rel => exact ⟨k + 1, by go_num, by rw [NX2.out]; rfl, by rw [NX2.out]; rfl, by omega, Nat.le_refl _, B3, by rw [NX2.out]; exact X3⟩
          | false =>
            simp only [hL] at lg
            have NX2 : Hid (leastL ls (k + 1) = some (jj, y)) := by show _ = _; rw [NX.out]; simp [least1, hL]
            go_wp2_with fail
            go_quiet_grown (first | (go_at_call 21; exact lg _ _))
            have B2 : Aside (Below S w (grow (wr.drewN nq) osq)) := B.out.trans ((Grown.below ⟨nq, osq, rfl⟩).mono (Nat.le_of_lt X.out.lt))
            have X2 : Aside (Box S y (grow (wr.drewN nq) osq)) := X.out.grown ⟨nq, osq, rfl⟩
            clear B X cc c1 c2 c3 c4 lg
            generalize grow (wr.drewN nq) osq = w2 at B2 X2 ⊢
            go_wp2
            go_roundg (ls.length - (k + 1))
            case measure => omega
            case rel => exact ⟨k + 1, by go_num, by rw [NX2.out]; rfl, by rw [NX2.out]; rfl, by omega, Nat.le_refl _, B2, by rw [NX2.out]; exact X2⟩
    · have hz : ¬ (k : Int) < (ls.length : Int) := by omega
      obtain rfl : k = ls.length := by omega
      have x0 := X.out.c0
      have x1 := X.out.c1
      have x2 := X.out.f0
      have x3 := X.out.f1
      have B3 : Aside (Below S w ((wr.setCell ⟨S, 0, none⟩ (.int .u64 (unl st).1)).setCell ⟨S, 1, none⟩ (.int .i64 (unl st).2))) := (B.out.setCell (Nat.le_refl _) _).setCell (Nat.le_refl _) _
      have X3 : Aside (Box S (unl st) ((wr.setCell ⟨S, 0, none⟩ (.int .u64 (unl st).1)).setCell ⟨S, 1, none⟩ (.int .i64 (unl st).2))) := X.out.set _
      clear B X
      obtain ⟨Y, hY⟩ : ∃ Y, unl st = Y := ⟨_, rfl⟩
      obtain ⟨J, hJ⟩ : ∃ J, unj st = J := ⟨_, rfl⟩
      obtain ⟨T, hT⟩ : ∃ T, unb st = T := ⟨_, rfl⟩
      rw [hY] at x0 x1 B3 X3
      have HY : Hid _ := hY
      have HJ : Hid _ := hJ
      have HT : Hid _ := hT
      rw [hJ, hT]
      clear hY hJ hT
      go_wp2_with fail
      generalize World.setCell _ _ _ = w3 at B3 X3 ⊢
      have y0 := X3.out.c0
      have y1 := X3.out.c1
      refine bodyPost_ret (v := .tuple #[.agg #[.int .u64 Y.1, .int .i64 Y.2], .int .i64 J, .bool T]) (by simp [results, Try.results18, go_sem, y0, y1]) rfl ⟨?_, by rw [HS.out]; exact B3.out⟩
      rw [ST.out, HY.out, HJ.out, HT.out]
end Go.Proofs.Ytefkgljpocfpfaa
