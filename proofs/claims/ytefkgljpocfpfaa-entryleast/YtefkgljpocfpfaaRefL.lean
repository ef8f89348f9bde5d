/- The document's Least. -/
import Derived.Test.YtefkgljpocfpfaaEntLe
namespace Go.Proofs.Ytefkgljpocfpfaa
open Go.RowKit Go.Lib Go.Sort
set_option linter.unusedVariables false

def unz : Option (Nat × Ent) → Int
  | none => -1
  | some (j, _) => j
theorem least_at (ls : List (List Ent)) : ∀ k j y, leastL ls k = some (j, y) → j < k ∧ ∃ t, ls.getD j [] = y :: t
  | 0, j, y, h => by simp [leastL] at h
  | k + 1, j, y, h => by
    have ih := least_at ls k
    simp only [leastL] at h
    generalize leastL ls k = st at ih h
    cases hd : ls.getD k [] with
    | nil =>
      rw [hd] at h
      have h2 : st = some (j, y) := by
        rw [← h]
        unfold least1
        split <;> simp_all
      obtain ⟨h3, h4⟩ := ih j y h2
      exact ⟨by omega, h4⟩
    | cons x t =>
      rw [hd] at h
      cases st with
      | none =>
        simp [least1] at h
        obtain ⟨rfl, rfl⟩ := h
        exact ⟨by omega, t, hd⟩
      | some jy =>
        obtain ⟨j', y'⟩ := jy
        obtain ⟨h3, h4⟩ := ih j' y' rfl
        simp only [least1] at h
        split at h
        · simp at h
          obtain ⟨rfl, rfl⟩ := h
          exact ⟨by omega, t, hd⟩
        · simp at h
          obtain ⟨rfl, rfl⟩ := h
          exact ⟨by omega, h4⟩

/-- An element, and its first entry, as the walk reads them. -/
theorem IsLL.first {w : World} {a : Option Addr} {ls : List (List Ent)} (h : IsLL w a ls) {i : Nat} {x : Ent} {t : List Ent} (hi : ls[i]? = some (x :: t)) :
    ∃ b off b' off' q, a = some ⟨b, off, none⟩ ∧ ∀ n os, (grow (w.drewN n) os).cell? ⟨b, off + i, none⟩ = some (.slice (some ⟨b', off', none⟩) (t.length + 1) q) ∧ (grow (w.drewN n) os).cell? ⟨b', off', none⟩ = some (.int .u64 x.1) ∧ (grow (w.drewN n) os).cell? ⟨b', off' + 1, none⟩ = some (.int .i64 x.2) := by
  obtain ⟨b, off, p, q, e, hb, h1, h2⟩ := h.elem i _ hi
  obtain ⟨b', off', e', hb', h3, h4⟩ := h2.elem 0 x rfl
  subst e'
  refine ⟨b, off, b', off', q, e, fun n os => ?_⟩
  have g : Grown w (grow (w.drewN n) os) := ⟨n, os, rfl⟩
  exact ⟨(g.cells _ _ hb).trans h1, by have := (g.cells _ _ hb').trans h3; simpa using this, by have := (g.cells _ _ hb').trans h4; simpa using this⟩

set_option maxHeartbeats 4000000 in
set_option maxRecDepth 100000 in
theorem refLeast_any (a : Option Addr) (cap : Nat) (ls : List (List Ent)) (w : World) (h : IsLL w a ls) :
    Calls Try.prog 28 #[.slice a ls.length cap] w (LeastIs w ls) := by
  have hl := h.len
  have H : Aside (IsLL w a ls) := h
  have mx := mixed
  obtain ⟨S, hS⟩ : ∃ S, w.heap.size = S := ⟨_, rfl⟩
  have HS : Hid _ := hS
  clear h
  go_enter Try.func28, Try.ntmps28
  go_wp2
  go_loopg [5, 6] ls.length (fun kx s5 s6 wr => ∃ k : Nat, s6 = .int .i64 k ∧ s5 = .int .i64 (unz (leastL ls k)) ∧ k ≤ ls.length ∧ ls.length - k ≤ kx ∧ Aside (Below S w wr) ∧ Aside (Box S (0, 0) wr))
  case atStart =>
    refine ⟨0, rfl, rfl, by omega, by omega, (Below.refl _ _).alloc (by omega) _, ?_⟩
    subst hS
    exact ⟨by simp, by simp, by simp, by simp, by simp⟩
  case round =>
    obtain ⟨k, rfl, rfl, hk, hkx, B, X⟩ := hrel
    clear hS
    have hat := least_at ls k
    obtain ⟨st, hst⟩ : ∃ st, leastL ls k = st := ⟨_, rfl⟩
    have ST : Hid _ := hst
    rw [hst] at hat ⊢
    clear hst
    have H2 : Aside (IsLL wr a ls) := H.out.below (by rw [HS.out]; exact B.out)
    by_cases hlt : k < ls.length
    · have hz : (k : Int) < (ls.length : Int) := by omega
      obtain ⟨d, hd⟩ : ∃ d, ls[k]? = some d := ⟨_, List.getElem?_eq_getElem hlt⟩
      have hd2 : ls.getD k [] = d := by rw [List.getD_eq_getElem?_getD, hd]; rfl
      have NX : Hid (leastL ls (k + 1) = least1 st k d) := by show leastL ls (k + 1) = _; simp only [leastL, ST.out, hd2]
      cases d with
      | nil =>
        have NX2 : Hid (leastL ls (k + 1) = st) := by show _ = _; rw [NX.out]; unfold least1; split <;> simp_all
        obtain ⟨b, off, p, q, rfl, hb, cc, L⟩ := H2.out.elem k [] hd
        clear L H2 hd hd2 hat
        have z0 : decide ((0 : Int) < 0) = false := by decide
        go_wp2_with fail
        go_quiet (fail)
        have B2 : Aside (Below S w (wr.drewN nq)) := B.out.trans ((Grown.below ⟨nq, #[], by rw [grow_empty]⟩).mono (Nat.le_of_lt X.out.lt))
        have X2 : Aside (Box S (0, 0) (wr.drewN nq)) := X.out.grown ⟨nq, #[], by rw [grow_empty]⟩
        clear B X cc
        generalize wr.drewN nq = w2 at B2 X2 ⊢
        go_wp2
        go_roundg (ls.length - (k + 1))
        case measure => omega
        case rel => exact ⟨k + 1, by go_num, by rw [NX2.out], by omega, Nat.le_refl _, B2, X2⟩
      | cons x d =>
        have hdl : (x :: d).length ≤ 9223372036854775807 := by
          obtain ⟨_, _, _, _, _, _, _, L⟩ := H2.out.elem k _ hd
          exact L.len
        obtain ⟨b, off, b1, o1, q, rfl, hc⟩ := H2.out.first hd
        simp only [List.length_cons] at hdl
        have z1 : (0 : Int) < (d.length : Int) + 1 := by omega
        have z2 : decide ((0 : Int) < (d.length : Int) + 1) = true := decide_eq_true z1
        cases st with
        | none =>
          have NX2 : Hid (leastL ls (k + 1) = some (k, x)) := NX.out
          simp only [unz]
          have c0 := fun n => (hc n #[]).1
          simp only [grow_empty] at c0
          clear hc H2 hd hd2 hat
          have z3 : decide ((-1 : Int) < 0) = true := by decide
          go_wp2_with fail
          go_quiet (fail)
          have B2 : Aside (Below S w (wr.drewN nq)) := B.out.trans ((Grown.below ⟨nq, #[], by rw [grow_empty]⟩).mono (Nat.le_of_lt X.out.lt))
          have X2 : Aside (Box S (0, 0) (wr.drewN nq)) := X.out.grown ⟨nq, #[], by rw [grow_empty]⟩
          clear B X c0
          generalize wr.drewN nq = w2 at B2 X2 ⊢
          go_wp2
          go_roundg (ls.length - (k + 1))
          case measure => omega
          case rel => exact ⟨k + 1, by go_num, by rw [NX2.out]; rfl, by omega, Nat.le_refl _, B2, X2⟩
        | some jy =>
          obtain ⟨j, y⟩ := jy
          obtain ⟨hjk, t, ht⟩ := hat j y rfl
          have hj2 : ls[j]? = some (y :: t) := by
            rw [List.getD_eq_getElem?_getD, List.getElem?_eq_getElem (by omega)] at ht
            rw [List.getElem?_eq_getElem (by omega)]
            simpa using ht
          have htl : (y :: t).length ≤ 9223372036854775807 := by
            obtain ⟨_, _, _, _, _, _, _, L⟩ := H2.out.elem j _ hj2
            exact L.len
          simp only [List.length_cons] at htl
          obtain ⟨b', off', b2, o2, q2, eb, hc2⟩ := H2.out.first hj2
          cases eb
          simp only [unz]
          have c0 := fun n os => (hc n os).1
          have c1 := fun n os => (hc n os).2.1
          have c2 := fun n os => (hc n os).2.2
          have c3 := fun n os => (hc2 n os).1
          have c4 := fun n os => (hc2 n os).2.1
          have c5 := fun n os => (hc2 n os).2.2
          clear hc hc2 H2 hd hd2 hat ht hj2
          have z3 : decide ((j : Int) < 0) = false := decide_eq_false (by omega)
          have z4 : (j : Int) < (ls.length : Int) := by omega
          have z5 : (0 : Int) < (t.length : Int) + 1 := by omega
          have lg := refLess_grown x y wr
          cases hL : ltE x y with
          | true =>
            simp only [hL] at lg
            have NX2 : Hid (leastL ls (k + 1) = some (k, x)) := by show _ = _; rw [NX.out]; simp [least1, hL]
            go_wp2_with fail
            go_quiet_grown (first | (go_at_call 22; exact lg _ _))
            have B2 : Aside (Below S w (grow (wr.drewN nq) osq)) := B.out.trans ((Grown.below ⟨nq, osq, rfl⟩).mono (Nat.le_of_lt X.out.lt))
            have X2 : Aside (Box S (0, 0) (grow (wr.drewN nq) osq)) := X.out.grown ⟨nq, osq, rfl⟩
            clear B X c0 c1 c2 c3 c4 c5 lg
            generalize grow (wr.drewN nq) osq = w2 at B2 X2 ⊢
            go_wp2
            go_roundg (ls.length - (k + 1))
            case measure => omega
            case rel => exact ⟨k + 1, by go_num, by rw [NX2.out]; rfl, by omega, Nat.le_refl _, B2, X2⟩
          | false =>
            simp only [hL] at lg
            have NX2 : Hid (leastL ls (k + 1) = some (j, y)) := by show _ = _; rw [NX.out]; simp [least1, hL]
            go_wp2_with fail
            go_quiet_grown (first | (go_at_call 22; exact lg _ _))
            have B2 : Aside (Below S w (grow (wr.drewN nq) osq)) := B.out.trans ((Grown.below ⟨nq, osq, rfl⟩).mono (Nat.le_of_lt X.out.lt))
            have X2 : Aside (Box S (0, 0) (grow (wr.drewN nq) osq)) := X.out.grown ⟨nq, osq, rfl⟩
            clear B X c0 c1 c2 c3 c4 c5 lg
            generalize grow (wr.drewN nq) osq = w2 at B2 X2 ⊢
            go_wp2
            go_roundg (ls.length - (k + 1))
            case measure => omega
            case rel => exact ⟨k + 1, by go_num, by rw [NX2.out]; rfl, by omega, Nat.le_refl _, B2, X2⟩
    · have hz : ¬ (k : Int) < (ls.length : Int) := by omega
      obtain rfl : k = ls.length := by omega
      have x0 := X.out.c0
      have x1 := X.out.c1
      have x2 := X.out.f0
      have x3 := X.out.f1
      cases st with
      | none =>
        have B3 : Aside (Below S w ((wr.setCell ⟨S, 0, none⟩ (.int .u64 0)).setCell ⟨S, 1, none⟩ (.int .i64 0))) := (B.out.setCell (Nat.le_refl _) _).setCell (Nat.le_refl _) _
        have X3 : Aside (Box S (0, 0) ((wr.setCell ⟨S, 0, none⟩ (.int .u64 0)).setCell ⟨S, 1, none⟩ (.int .i64 0))) := X.out.set (0, 0)
        clear B X hat H2
        simp only [unz]
        go_wp2_with fail
        generalize World.setCell _ _ _ = w3 at B3 X3 ⊢
        have y0 := X3.out.c0
        have y1 := X3.out.c1
        refine bodyPost_ret (v := .tuple #[.agg #[.int .u64 0, .int .i64 0], .int .i64 0, .bool false]) (by simp [results, Try.results28, go_sem, y0, y1]) rfl ⟨?_, by rw [HS.out]; exact B3.out⟩
        rw [ST.out]; rfl
      | some jy =>
        obtain ⟨j, y⟩ := jy
        obtain ⟨hjk, t, ht⟩ := hat j y rfl
        have hj2 : ls[j]? = some (y :: t) := by
          rw [List.getD_eq_getElem?_getD, List.getElem?_eq_getElem (by omega)] at ht
          rw [List.getElem?_eq_getElem (by omega)]
          simpa using ht
        obtain ⟨b, off, b2, o2, q2, rfl, hc2⟩ := H2.out.first hj2
        have c3 := (hc2 0 #[]).1
        have c4 := (hc2 0 #[]).2.1
        have c5 := (hc2 0 #[]).2.2
        simp only [grow_empty, show wr.drewN 0 = wr from rfl] at c3 c4 c5
        have B3 : Aside (Below S w ((wr.setCell ⟨S, 0, none⟩ (.int .u64 y.1)).setCell ⟨S, 1, none⟩ (.int .i64 y.2))) := (B.out.setCell (Nat.le_refl _) _).setCell (Nat.le_refl _) _
        have X3 : Aside (Box S y ((wr.setCell ⟨S, 0, none⟩ (.int .u64 y.1)).setCell ⟨S, 1, none⟩ (.int .i64 y.2))) := X.out.set y
        clear B X hat H2 hc2 ht hj2
        simp only [unz]
        have z3 : ¬ (j : Int) < 0 := by omega
        have z4 : (j : Int) < (ls.length : Int) := by omega
        have z5 : (0 : Int) < (t.length : Int) + 1 := by omega
        go_wp2_with fail
        generalize World.setCell _ _ _ = w3 at B3 X3 ⊢
        have y0 := X3.out.c0
        have y1 := X3.out.c1
        refine bodyPost_ret (v := .tuple #[.agg #[.int .u64 y.1, .int .i64 y.2], .int .i64 j, .bool true]) (by simp [results, Try.results28, go_sem, y0, y1]) rfl ⟨?_, by rw [HS.out]; exact B3.out⟩
        rw [ST.out]; rfl
end Go.Proofs.Ytefkgljpocfpfaa
