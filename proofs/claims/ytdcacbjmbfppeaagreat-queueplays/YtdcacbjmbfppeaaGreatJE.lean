import Derived.Test.YtdcacbjmbfppeaaGreatJD
/- Slices of slices of entries; entry.Least. -/
namespace Go.Proofs.YtdcacbjmbfppeaaGreat
open Go.RowKit Go.Lib Go.Sort
set_option linter.unusedVariables false

/-- A slice at a that holds these lists. -/
structure IsLL (w : World) (a : Option Addr) (ls : List (List Ent)) : Prop where
  len : ls.length ≤ 9223372036854775807
  elem : ∀ i d, ls[i]? = some d → ∃ b off p k, a = some ⟨b, off, none⟩ ∧ b < w.heap.size ∧ w.cell? ⟨b, off + i, none⟩ = some (.slice p d.length k) ∧ IsL w p k d
theorem IsLL.below {w w' : World} {a : Option Addr} {ls : List (List Ent)} (h : IsLL w a ls) (hw : Below w.heap.size w w') : IsLL w' a ls :=
  ⟨h.len, fun i d hd => by
    obtain ⟨b, off, p, k, e, hb, h1, h2⟩ := h.elem i d hd
    exact ⟨b, off, p, k, e, by have := hw.size; omega, (hw.cell (p := ⟨b, off + i, none⟩) hb).trans h1, h2.below hw⟩⟩

def unl : Option (Nat × Ent) → Ent
  | none => (0, 0)
  | some (_, y) => y
def unj : Option (Nat × Ent) → Nat
  | none => 0
  | some (j, _) => j
def unb : Option (Nat × Ent) → Bool
  | none => false
  | some _ => true
theorem least_j (ls : List (List Ent)) : ∀ k, unj (leastL ls k) ≤ k
  | 0 => Nat.le_refl _
  | k + 1 => by
    have ih := least_j ls k
    simp only [leastL]
    generalize leastL ls k = st at ih ⊢
    unfold least1
    split
    · simp [unj]
    · split
      · simp [unj]
      · simp [unj] at ih ⊢; omega
    · omega

/-- What Least tells. -/
def LeastIs (w : World) (ls : List (List Ent)) (r : Ending) (w' : World) : Prop :=
  r = .returned (.tuple #[.agg #[.int .u64 (unl (leastL ls ls.length)).1, .int .i64 (unl (leastL ls ls.length)).2], .int .i64 (unj (leastL ls ls.length)), .bool (unb (leastL ls ls.length))]) ∧ Below w.heap.size w w'

/-- A box for an entry at S. -/
structure Box (S : Nat) (x : Ent) (w : World) : Prop where
  lt : S < w.heap.size
  c0 : w.cell? ⟨S, 0, none⟩ = some (.int .u64 x.1)
  c1 : w.cell? ⟨S, 1, none⟩ = some (.int .i64 x.2)
  f0 : w.frozen? ⟨S, 0, none⟩ = false
  f1 : w.frozen? ⟨S, 1, none⟩ = false
theorem Box.grown {S : Nat} {x : Ent} {w W : World} (h : Box S x w) (g : Grown w W) : Box S x W :=
  ⟨by have := g.below.size; have := h.lt; omega, (g.cells _ _ h.lt).trans h.c0, (g.cells _ _ h.lt).trans h.c1, (g.below.frozen (p := ⟨S, 0, none⟩) h.lt).trans h.f0, (g.below.frozen (p := ⟨S, 1, none⟩) h.lt).trans h.f1⟩
theorem Box.set {S : Nat} {x : Ent} {w : World} (h : Box S x w) (y : Ent) : Box S y ((w.setCell ⟨S, 0, none⟩ (.int .u64 y.1)).setCell ⟨S, 1, none⟩ (.int .i64 y.2)) := by
  have k1 : ((w.setCell ⟨S, 0, none⟩ (.int .u64 y.1)).cell? ⟨S, 1, none⟩).isSome := by
    rw [World.cell?_setCell_other _ _ _ _ (by simp), h.c1]; rfl
  refine ⟨by simpa [World.setCell] using h.lt, ?_, ?_, ?_, ?_⟩
  · rw [World.cell?_setCell_other _ _ _ _ (by simp), World.cell?_setCell_same' _ _ _ (by rw [h.c0]; rfl)]
  · rw [World.cell?_setCell_same' _ _ _ k1]
  · rw [World.frozen?_setCell, World.frozen?_setCell]; exact h.f0
  · rw [World.frozen?_setCell, World.frozen?_setCell]; exact h.f1

set_option maxHeartbeats 4000000 in
set_option maxRecDepth 100000 in
theorem least_any (a : Option Addr) (cap : Nat) (ls : List (List Ent)) (w : World) (h : IsLL w a ls) :
    Calls Tryz.prog 48 #[.slice a ls.length cap] w (LeastIs w ls) := by
  have hl := h.len
  have H : Aside (IsLL w a ls) := h
  have mx := mixed
  obtain ⟨S, hS⟩ : ∃ S, w.heap.size = S := ⟨_, rfl⟩
  have HS : Hid _ := hS
  clear h
  go_enter Tryz.func48, Tryz.ntmps48
  go_wp2
  go_loopg [3, 4, 9] ls.length (fun kx s3 s4 s9 wr => ∃ k : Nat, s9 = .int .i64 k ∧ s3 = .int .i64 (unj (leastL ls k)) ∧ s4 = .bool (unb (leastL ls k)) ∧ k ≤ ls.length ∧ ls.length - k ≤ kx ∧ Aside (Below S w wr) ∧ Aside (Box S (unl (leastL ls k)) wr))
  case atStart =>
    refine ⟨0, rfl, rfl, rfl, by omega, by omega, (Below.refl _ _).alloc (by omega) _, ?_⟩
    subst hS
    exact ⟨by simp, by simp [unl, leastL], by simp [unl, leastL], by simp, by simp⟩
  case round =>
    obtain ⟨k, rfl, rfl, rfl, hk, hkx, B, X⟩ := hrel
    clear hS
    have hj := least_j ls k
    obtain ⟨st, hst⟩ : ∃ st, leastL ls k = st := ⟨_, rfl⟩
    have ST : Hid _ := hst
    rw [hst] at hj X ⊢
    clear hst
    by_cases hlt : k < ls.length
    · have hz : (k : Int) < (ls.length : Int) := by omega
      have H2 : Aside (IsLL wr a ls) := H.out.below (by rw [HS.out]; exact B.out)
      obtain ⟨d, hd⟩ : ∃ d, ls[k]? = some d := ⟨_, List.getElem?_eq_getElem hlt⟩
      have hd2 : ls.getD k [] = d := by rw [List.getD_eq_getElem?_getD, hd]; rfl
      obtain ⟨b, off, p, q, rfl, hb, cc, L⟩ := H2.out.elem k d hd
      have hdl := L.len
      have LL : Aside (IsL wr p q d) := L
      have NX : Hid (leastL ls (k + 1) = least1 st k d) := by show leastL ls (k + 1) = _; simp only [leastL, ST.out, hd2]
      clear L H2 hd hd2
      cases d with
      | nil =>
        have NX2 : Hid (leastL ls (k + 1) = st) := by show _ = _; rw [NX.out]; unfold least1; split <;> simp_all
        have z0 : decide ((0 : Int) < 0) = false := by decide
        go_wp2_with fail
        go_quiet (fail)
        have B2 : Aside (Below S w (wr.drewN nq)) := B.out.trans ((Grown.below ⟨nq, #[], by rw [grow_empty]⟩).mono (Nat.le_of_lt X.out.lt))
        have X2 : Aside (Box S (unl st) (wr.drewN nq)) := X.out.grown ⟨nq, #[], by rw [grow_empty]⟩
        clear B X cc
        generalize wr.drewN nq = w2 at B2 X2 ⊢
        go_wp2
        go_roundg (ls.length - (k + 1))
        case measure => omega
        case rel => exact ⟨k + 1, by go_num, by rw [NX2.out], by rw [NX2.out], by omega, Nat.le_refl _, B2, by rw [NX2.out]; exact X2⟩
      | cons x d =>
        obtain ⟨b', off', ha', hc'⟩ := LL.out.at (show 0 < (x :: d).length by simp)
        subst ha'
        have c1 := fun n os => (hc' wr (Grown.refl wr) n os).1
        have c2 := fun n os => (hc' wr (Grown.refl wr) n os).2
        simp only [List.getElem_cons_zero, Nat.zero_mul, Nat.add_zero] at c1 c2
        clear hc' LL
        simp only [List.length_cons] at cc hdl ⊢
        have z1 : (0 : Int) < (d.length : Int) + 1 := by omega
        have z2 : decide ((0 : Int) < (d.length : Int) + 1) = true := decide_eq_true z1
        cases st with
        | none =>
          have NX2 : Hid (leastL ls (k + 1) = some (k, x)) := NX.out
          go_wp2_with fail
          simp only [unb, unj, unl] at X ⊢
          go_quiet (fail)
          have B2 : Aside (Below S w (wr.drewN nq)) := B.out.trans ((Grown.below ⟨nq, #[], by rw [grow_empty]⟩).mono (Nat.le_of_lt X.out.lt))
          have X2 : Aside (Box S (0, 0) (wr.drewN nq)) := X.out.grown ⟨nq, #[], by rw [grow_empty]⟩
          have e1 : (wr.drewN nq).cell? ⟨b', off', none⟩ = some (.int .u64 x.1) := by have := c1 nq #[]; rwa [grow_empty] at this
          have e2 : (wr.drewN nq).cell? ⟨b', off' + 1, none⟩ = some (.int .i64 x.2) := by have := c2 nq #[]; rwa [grow_empty] at this
          clear B X cc c1 c2
          generalize wr.drewN nq = w2 at B2 X2 e1 e2 ⊢
          have x0 := X2.out.c0
          have x1 := X2.out.c1
          have x2 := X2.out.f0
          have x3 := X2.out.f1
          have B3 : Aside (Below S w ((w2.setCell ⟨S, 0, none⟩ (.int .u64 x.1)).setCell ⟨S, 1, none⟩ (.int .i64 x.2))) := (B2.out.setCell (Nat.le_refl _) _).setCell (Nat.le_refl _) _
          have X3 : Aside (Box S x ((w2.setCell ⟨S, 0, none⟩ (.int .u64 x.1)).setCell ⟨S, 1, none⟩ (.int .i64 x.2))) := X2.out.set x
          clear B2 X2
          go_wp2_with fail
          go_roundg (ls.length - (k + 1))
          case measure => omega
          case rel => exact ⟨k + 1, by go_num, by rw [NX2.out]; rfl, by rw [NX2.out]; rfl, by omega, Nat.le_refl _, B3, by rw [NX2.out]; exact X3⟩
        | some jy =>
          obtain ⟨jj, y⟩ := jy
          simp only [unb, unj, unl] at X hj ⊢
          have c3 := fun n os => (X.out.grown (W := grow (wr.drewN n) os) ⟨n, os, rfl⟩).c0
          have c4 := fun n os => (X.out.grown (W := grow (wr.drewN n) os) ⟨n, os, rfl⟩).c1
          have lg := less_grown x y wr
          cases hL : ltE x y with
          | true =>
            simp only [hL] at lg
            have NX2 : Hid (leastL ls (k + 1) = some (k, x)) := by show _ = _; rw [NX.out]; simp [least1, hL]
            have hok : (!true) = false := rfl
            go_wp2_with fail
            go_quiet_grown (first | (go_at_call 76; exact lg _ _))
            have B2 : Aside (Below S w (grow (wr.drewN nq) osq)) := B.out.trans ((Grown.below ⟨nq, osq, rfl⟩).mono (Nat.le_of_lt X.out.lt))
            have X2 : Aside (Box S y (grow (wr.drewN nq) osq)) := X.out.grown ⟨nq, osq, rfl⟩
            have e1 := c1 nq osq
            have e2 := c2 nq osq
            clear B X cc c1 c2 c3 c4 lg
            generalize grow (wr.drewN nq) osq = w2 at B2 X2 e1 e2 ⊢
            have x0 := X2.out.c0
            have x1 := X2.out.c1
            have x2 := X2.out.f0
            have x3 := X2.out.f1
            have B3 : Aside (Below S w ((w2.setCell ⟨S, 0, none⟩ (.int .u64 x.1)).setCell ⟨S, 1, none⟩ (.int .i64 x.2))) := (B2.out.setCell (Nat.le_refl _) _).setCell (Nat.le_refl _) _
            have X3 : Aside (Box S x ((w2.setCell ⟨S, 0, none⟩ (.int .u64 x.1)).setCell ⟨S, 1, none⟩ (.int .i64 x.2))) := X2.out.set x
            clear B2 X2
            go_wp2_with fail
            go_roundg (ls.length - (k + 1))
            case measure => omega
            case rel => exact ⟨k + 1, by go_num, by rw [NX2.out]; rfl, by rw [NX2.out]; rfl, by omega, Nat.le_refl _, B3, by rw [NX2.out]; exact X3⟩
          | false =>
            simp only [hL] at lg
            have NX2 : Hid (leastL ls (k + 1) = some (jj, y)) := by show _ = _; rw [NX.out]; simp [least1, hL]
            go_wp2_with fail
            go_quiet_grown (first | (go_at_call 76; exact lg _ _))
            have B2 : Aside (Below S w (grow (wr.drewN nq) osq)) := B.out.trans ((Grown.below ⟨nq, osq, rfl⟩).mono (Nat.le_of_lt X.out.lt))
            have X2 : Aside (Box S y (grow (wr.drewN nq) osq)) := X.out.grown ⟨nq, osq, rfl⟩
            clear B X cc c1 c2 c3 c4 lg
            generalize grow (wr.drewN nq) osq = w2 at B2 X2 ⊢
            go_wp2
            go_roundg (ls.length - (k + 1))
            case measure => omega
            case rel => exact ⟨k + 1, by go_num, by rw [NX2.out]; rfl, by rw [NX2.out]; rfl, by omega, Nat.le_refl _, B2, by rw [NX2.out]; exact X2⟩
    · have hz : ¬ (k : Int) < (ls.length : Int) := by omega
      obtain rfl : k = ls.length := by omega
      have x0 := X.out.c0
      have x1 := X.out.c1
      have x2 := X.out.f0
      have x3 := X.out.f1
      have B3 : Aside (Below S w ((wr.setCell ⟨S, 0, none⟩ (.int .u64 (unl st).1)).setCell ⟨S, 1, none⟩ (.int .i64 (unl st).2))) := (B.out.setCell (Nat.le_refl _) _).setCell (Nat.le_refl _) _
      have X3 : Aside (Box S (unl st) ((wr.setCell ⟨S, 0, none⟩ (.int .u64 (unl st).1)).setCell ⟨S, 1, none⟩ (.int .i64 (unl st).2))) := X.out.set _
      clear B X
      obtain ⟨Y, hY⟩ : ∃ Y, unl st = Y := ⟨_, rfl⟩
      obtain ⟨J, hJ⟩ : ∃ J, unj st = J := ⟨_, rfl⟩
      obtain ⟨T, hT⟩ : ∃ T, unb st = T := ⟨_, rfl⟩
      rw [hY] at x0 x1 B3 X3
      have HY : Hid _ := hY
      have HJ : Hid _ := hJ
      have HT : Hid _ := hT
      rw [hJ, hT]
      clear hY hJ hT
      go_wp2_with fail
      generalize World.setCell _ _ _ = w3 at B3 X3 ⊢
      have y0 := X3.out.c0
      have y1 := X3.out.c1
      refine bodyPost_ret (v := .tuple #[.agg #[.int .u64 Y.1, .int .i64 Y.2], .int .i64 J, .bool T]) (by simp [results, Tryz.results48, go_sem, y0, y1]) rfl ⟨?_, by rw [HS.out]; exact B3.out⟩
      rw [ST.out, HY.out, HJ.out, HT.out]
end Go.Proofs.YtdcacbjmbfppeaaGreat

/- slices.Grow from nothing, slices.Concat at entries. -/
namespace Go.Proofs.YtdcacbjmbfppeaaGreat
open Go.RowKit Go.Lib Go.Sort
set_option linter.unusedVariables false

/-- A slice with room, made by Grow. -/
theorem zeros_run (w : World) (n : Nat) (h0 : 0 < n) (hn : n ≤ 1000000) :
    ∃ w' cap, (Builtin.append_ #[45, 3] 45 #[.slice none 0 0, .int .i64 n]).run Tryz.prog w = .ok (.slice (some ⟨w.heap.size, 0, none⟩) n cap) w' ∧ n ≤ cap ∧ OwnE w' w.heap.size (.slice (some ⟨w.heap.size, 0, none⟩) 0 cap) [] ∧ Below w.heap.size w w' := by
  obtain ⟨i, hi, hz, hs, hby⟩ := infoE
  have hr := Lib.run_append_nil_zeros (P := Tryz.prog) w 45 3 45 34 i _ .i64 .i64 Tryz.underlying45 Tryz.underlying3 hi hz n h0 (by omega) (by omega) (by rw [hby]; omega)
  have h1 := grownCap_ge w n 0 34
  have h2 := grownCap_le_maxLen w n 0 34 (by unfold maxLen; omega)
  refine ⟨_, _, hr, h1, ?_, ?_⟩
  · refine OwnE.made w.drew _ _ (Nat.le_refl _) h2 ?_
    rw [Array.size_append, size_zeroCells, size_zeroCells]
    simp only [Value.cells]
    show n * 2 + (grownCap w n 0 34 - n) * 2 = grownCap w n 0 34 * 2
    omega
  · exact ((Below.refl _ w).drew).alloc (Nat.le_refl _) _

set_option maxHeartbeats 400000 in
set_option maxRecDepth 100000 in
theorem grow_any (n : Nat) (w : World) (hn : n ≤ 1000000) :
    Calls Tryz.prog 82 #[.slice none 0 0, .int .i64 n] w (Made w []) := by
  by_cases h0 : n = 0
  · subst h0
    go_enter Tryz.func82, Tryz.ntmps82
    go_wp2
    go_ret
    exact ⟨none, 0, rfl, OwnE.nil _ _, Below.refl _ _⟩
  · obtain ⟨w', cap, hr, hc, o, b⟩ := zeros_run w n (by omega) hn
    have O : Aside (OwnE w' w.heap.size (.slice (some ⟨w.heap.size, 0, none⟩) 0 cap) []) := o
    have B : Aside (Below w.heap.size w w') := b
    have hz : (0 : Int) < (n : Int) := by omega
    clear o b
    go_enter Tryz.func82, Tryz.ntmps82
    go_wp2_with (at_builtin; refine Lib.wpList_append_run w rfl _ _ 45 3 rfl _ _ rfl rfl _ w' hr ?_)
    go_ret
    exact ⟨some ⟨w.heap.size, 0, none⟩, cap, rfl, O.out, B.out⟩

theorem flat_take {ls : List (List Ent)} {k : Nat} (h : k < ls.length) : (ls.take (k + 1)).flatten = (ls.take k).flatten ++ ls[k] := by
  rw [List.take_succ_eq_append_getElem h, List.flatten_append]
  simp
theorem flat_take_le (ls : List (List Ent)) (k : Nat) : (ls.take k).flatten.length ≤ ls.flatten.length := by
  conv => rhs; rw [← List.take_append_drop k ls, List.flatten_append, List.length_append]
  omega

set_option maxHeartbeats 4000000 in
set_option maxRecDepth 100000 in
theorem concat_any (a : Option Addr) (cap : Nat) (ls : List (List Ent)) (w : World) (h : IsLL w a ls) (hd : ls.flatten.length ≤ 1000000) :
    Calls Tryz.prog 57 #[.slice a ls.length cap] w (Made w ls.flatten) := by
  have hl := h.len
  have H : Aside (IsLL w a ls) := h
  clear h
  go_enter Tryz.func57, Tryz.ntmps57
  go_wp2
  go_loop [3, 11] (fun s3 s11 => ∃ k m : Nat, s11 = .int .i64 k ∧ s3 = .int .i64 m ∧ Hid ((ls.take k).flatten.length = m) ∧ k ≤ ls.length ∧ m ≤ 1000000) (fun _ s11 => ls.length - (intOf s11).toNat)
  case atStart => exact ⟨0, 0, rfl, rfl, rfl, by omega, by omega⟩
  case round =>
    obtain ⟨k, m, rfl, rfl, HM, hk, hm⟩ := hrel
    by_cases hlt : k < ls.length
    · have hz : (k : Int) < (ls.length : Int) := by omega
      obtain ⟨b, off, p, q, rfl, hb, cc, L⟩ := H.out.elem k ls[k] (List.getElem?_eq_getElem hlt)
      have e1 := flat_take hlt
      have e2 := flat_take_le ls (k + 1)
      obtain ⟨d, hdk⟩ : ∃ d, ls[k] = d := ⟨_, rfl⟩
      rw [hdk] at e1 cc L
      have e3 : m + d.length ≤ 1000000 := by rw [e1, List.length_append, HM.out] at e2; omega
      have E1 : Hid ((ls.take (k + 1)).flatten.length = m + d.length) := by show _ = _; rw [e1, List.length_append, HM.out]
      clear e1 e2 L hdk
      have hneg : ¬ (m : Int) + (d.length : Int) < 0 := by omega
      go_wp2
      go_round
      case rel => exact ⟨k + 1, m + d.length, by go_num, by go_num, E1, by omega, e3⟩
      case measure => simp [intOf]; omega
    · have hz : ¬ (k : Int) < (ls.length : Int) := by omega
      have hm2 : Hid (ls.flatten.length = m) := by show _ = _; rw [← HM.out, List.take_of_length_le (by omega)]
      go_wp2_with fail
      refine (grow_any m w hm).mono ?_
      rintro e w1 ⟨r1, t1, rfl, o1, b1⟩
      have O1 : Aside (OwnE w1 w.heap.size (.slice r1 0 t1) []) := o1
      have B1 : Aside (Below w.heap.size w w1) := b1
      clear o1 b1
      simp only [List.length_nil]
      go_wp2_with fail
      go_loopg [6, 27] ls.length (fun kx s6 s27 wr => ∃ (k n : Nat) (r : Option Addr) (t : Nat), s27 = .int .i64 k ∧ s6 = .slice r n t ∧ Hid ((ls.take k).flatten.length = n) ∧ k ≤ ls.length ∧ ls.length - k ≤ kx ∧ Aside (OwnE wr w.heap.size (.slice r n t) (ls.take k).flatten) ∧ Aside (Below w.heap.size w wr))
      case atStart => exact ⟨0, 0, r1, t1, rfl, rfl, rfl, by omega, by omega, O1, B1⟩
      case round =>
        obtain ⟨k, n, r, t, rfl, rfl, HN, hk, hkx, O, B⟩ := hrel
        clear O1 B1
        by_cases hlt : k < ls.length
        · have hz : (k : Int) < (ls.length : Int) := by omega
          obtain ⟨b, off, p, q, rfl, hb, cc, L⟩ := (H.out.below B.out).elem k ls[k] (List.getElem?_eq_getElem hlt)
          have e1 := flat_take hlt
          have e2 := flat_take_le ls (k + 1)
          obtain ⟨d, hdk⟩ : ∃ d, ls[k] = d := ⟨_, rfl⟩
          rw [hdk] at e1 cc L
          have e3 : (ls.take k).flatten.length + d.length ≤ 1000000 := by rw [e1, List.length_append] at e2; omega
          obtain ⟨v2, w2, hr, o2, g2⟩ := app_run (d := (ls.take k).flatten) (c := d) O.out L e3 B.out.size 45
          obtain ⟨r2, t2, rfl, _⟩ := o2.isL
          have B2 : Aside (Below w.heap.size w w2) := OwnE.grown O.out B.out g2 B.out.size
          rw [← e1] at o2 hr
          obtain ⟨n2, hn2⟩ : ∃ n2, (ls.take (k + 1)).flatten.length = n2 := ⟨_, rfl⟩
          rw [hn2] at hr
          have O2 : Aside (OwnE w2 w.heap.size (.slice r2 n2 t2) (ls.take (k + 1)).flatten) := by rw [← hn2]; exact o2
          have HN2 : Hid _ := hn2
          clear o2 g2 e1 e2 e3 hdk hn2 L O B
          go_wp2_with (at_builtin; refine Lib.wpList_append_run wr rfl _ _ 45 45 rfl _ _ rfl rfl _ w2 hr ?_)
          go_roundg (ls.length - (k + 1))
          case measure => omega
          case rel => exact ⟨k + 1, n2, r2, t2, by go_num, rfl, HN2, by omega, Nat.le_refl _, O2, B2⟩
        · have hz : ¬ (k : Int) < (ls.length : Int) := by omega
          have e : (ls.take k).flatten = ls.flatten := by rw [List.take_of_length_le (by omega)]
          rw [e] at HN O
          go_wp2
          go_ret
          have o := O.out
          have hn := HN.out
          rw [← hn] at o
          exact ⟨r, t, by rw [hn]; rfl, o, B.out⟩
end Go.Proofs.YtdcacbjmbfppeaaGreat

/- More calls that only read: the document's Same, Has and Place; Smaller, Place. -/
namespace Go.Proofs.YtdcacbjmbfppeaaGreat
open Go.RowKit Go.Lib Go.Sort
set_option linter.unusedVariables false

/-- '==' of two entries. -/
theorem eqE (x y : Ent) (w : World) : (Op.equalIn 10000 34 (.agg #[.int .u64 x.1, .int .i64 x.2]) (.agg #[.int .u64 y.1, .int .i64 y.2])).run Tryz.prog w = .ok (decide (x = y)) w := by
  have u3 := Tryz.underlying3
  have a3 := Tryz.isAgg3
  have z3 := Tryz.sizeOf3
  have u29 := Tryz.underlying30
  have a29 := Tryz.isAgg30
  have z29 := Tryz.sizeOf30
  have hS : Tryz.prog.underlying 34 = some (.struct (Tryz.prog.fieldsOf 34)) := by kernel_rfl
  have hp : Tryz.prog.stoodInHeld 34 = false := by kernel_rfl
  rw [show (10000 : Nat) = 9999 + 1 from rfl, run_equalIn_agg w 9999 34 _ _ hS hp]
  simp only [Program.fieldsOf, Tryz.underlying34]
  obtain ⟨k1, i1⟩ := x
  obtain ⟨k2, i2⟩ := y
  go_simp
  by_cases h1 : k1 = k2 <;> by_cases h2 : i1 = i2 <;> simp [h1, h2]
theorem guardE : Tryz.prog.eqGuardType Tryz.prog.depth 34 = false := by kernel_rfl

theorem eq_take_succ {c d : List Ent} {k : Nat} (hc : k < c.length) (hd : k < d.length) (h : c.take k = d.take k) (e : c[k] = d[k]) : c.take (k + 1) = d.take (k + 1) := by
  rw [List.take_succ_eq_append_getElem hc, List.take_succ_eq_append_getElem hd, h, e]

set_option maxHeartbeats 2000000 in
set_option maxRecDepth 100000 in
theorem same_any (a a' : Option Addr) (cap cap' : Nat) (c d : List Ent) (w : World) (h : IsL w a cap c) (h' : IsL w a' cap' d) :
    Calls Tryz.prog 53 #[.slice a c.length cap, .slice a' d.length cap'] w fun e w' => e = .returned (.bool (decide (c = d))) ∧ Grown w w' := by
  have hl := h.len
  have hl' := h'.len
  have H : Aside _ := h
  have H' : Aside _ := h'
  have mx := mixed
  clear h h'
  by_cases e : c.length = d.length
  · obtain ⟨n, hn⟩ : ∃ n, c.length = n := ⟨_, rfl⟩
    have hn' : d.length = n := by omega
    have HN : Hid _ := hn
    have HN' : Hid _ := hn'
    rw [hn] at hl ⊢
    rw [hn'] at hl' ⊢
    clear e hn hn'
    go_enter Tryz.func53, Tryz.ntmps53
    go_wp2
    go_loopg [5] n (fun kx s5 wr => ∃ k : Nat, s5 = .int .i64 k ∧ k ≤ n ∧ n - k ≤ kx ∧ Aside (Grown w wr) ∧ Aside (c.take k = d.take k))
    case atStart => exact ⟨0, rfl, by omega, by omega, Grown.refl w, (by simp : c.take 0 = d.take 0)⟩
    case round =>
      obtain ⟨k, rfl, hk, hkx, G, A⟩ := hrel
      by_cases hlt : k < n
      · have hz : (k : Int) < (n : Int) := by omega
        obtain ⟨b, off, ha, hc⟩ := H.out.at (show k < c.length by rw [HN.out]; exact hlt)
        obtain ⟨b', off', ha', hc'⟩ := H'.out.at (show k < d.length by rw [HN'.out]; exact hlt)
        subst ha ha'
        have c1 := fun n => (hc wr G.out n #[]).1
        have c2 := fun n => (hc wr G.out n #[]).2
        have c3 := fun n => (hc' wr G.out n #[]).1
        have c4 := fun n => (hc' wr G.out n #[]).2
        simp only [grow_empty] at c1 c2 c3 c4
        clear hc hc'
        obtain ⟨x, hx⟩ : ∃ x, c[k]'(by rw [HN.out]; exact hlt) = x := ⟨_, rfl⟩
        obtain ⟨y, hy⟩ : ∃ y, d[k]'(by rw [HN'.out]; exact hlt) = y := ⟨_, rfl⟩
        rw [hx] at c1 c2
        rw [hy] at c3 c4
        have HX : Hid _ := hx
        have HY : Hid _ := hy
        clear hx hy
        have q1 := eqE x y
        have q2 := guardE
        by_cases e : x = y
        · have E : Hid _ := e
          have ed : decide (x = y) = true := decide_eq_true e
          clear e
          go_wp2_with fail
          go_quiet (fail)
          have G2 : Aside (Grown w (wr.drewN nq)) := G.out.drewN nq
          clear c1 c2 c3 c4 G q1
          generalize wr.drewN nq = w2 at G2 ⊢
          go_wp2
          go_roundg (n - (k + 1))
          case measure => omega
          case rel => exact ⟨k + 1, by go_num, by omega, Nat.le_refl _, G2, eq_take_succ (by rw [HN.out]; exact hlt) (by rw [HN'.out]; exact hlt) A.out (by rw [HX.out, HY.out]; exact E.out)⟩
        · have E : Hid _ := e
          have ed : decide (x = y) = false := decide_eq_false e
          clear e
          go_wp2_with fail
          go_quiet (fail)
          have G2 : Aside (Grown w (wr.drewN nq)) := G.out.drewN nq
          clear c1 c2 c3 c4 G q1
          generalize wr.drewN nq = w2 at G2 ⊢
          go_wp2
          go_ret
          have ne : c ≠ d := fun h => E.out (by rw [← HX.out, ← HY.out]; simp only [h])
          exact ⟨by rw [decide_eq_false ne]; rfl, G2.out⟩
      · have hz : ¬ (k : Int) < (n : Int) := by omega
        go_wp2
        go_ret
        have eq : c = d := by
          have h := A.out
          rw [List.take_of_length_le (by rw [HN.out]; omega), List.take_of_length_le (by rw [HN'.out]; omega)] at h
          exact h
        exact ⟨by rw [decide_eq_true eq]; rfl, G.out⟩
  · have ez : ¬ (c.length : Int) = (d.length : Int) := by omega
    have ne : c ≠ d := fun h => e (by rw [h])
    have : decide (c = d) = false := decide_eq_false ne
    rw [this]
    go_enter Tryz.func53, Tryz.ntmps53
    go_wp2
    go_ret
    exact ⟨rfl, Grown.refl w⟩

set_option maxHeartbeats 2000000 in
set_option maxRecDepth 100000 in
theorem has_any (a : Option Addr) (cap : Nat) (d : List Ent) (id : Int) (w : World) (h : IsL w a cap d) :
    Calls Tryz.prog 22 #[.slice a d.length cap, .int .i64 id] w fun e w' => e = .returned (.bool (hasL d id)) ∧ w' = w := by
  have hl := h.len
  have H : Aside _ := h
  clear h
  go_enter Tryz.func22, Tryz.ntmps22
  go_wp2
  go_loop [5] (fun s5 => ∃ k : Nat, s5 = .int .i64 k ∧ k ≤ d.length ∧ Aside (∀ i (hi : i < d.length), i < k → d[i].2 ≠ id)) (fun s5 => d.length - (intOf s5).toNat)
  case atStart => exact ⟨0, rfl, by omega, (fun i _ h => absurd h (by omega) : ∀ i (hi : i < d.length), i < 0 → d[i].2 ≠ id)⟩
  case round =>
    obtain ⟨k, rfl, hk, A⟩ := hrel
    by_cases hlt : k < d.length
    · have hz : (k : Int) < (d.length : Int) := by omega
      obtain ⟨b, off, rfl, hb, c1, c2⟩ := H.out.elem k d[k] (List.getElem?_eq_getElem hlt)
      obtain ⟨x, hx⟩ : ∃ x, d[k].2 = x := ⟨_, rfl⟩
      rw [hx] at c2
      have HX : Hid _ := hx
      clear hx c1
      by_cases e : x = id
      · have E : Hid _ := e
        have e2 : (x == id) = true := by simpa using e
        clear e
        go_wp2
        go_ret
        exact ⟨by rw [hasL_at k hlt (HX.out.trans E.out)]; rfl, rfl⟩
      · have E : Hid _ := e
        have e2 : (x == id) = false := by simpa using e
        go_wp2
        go_round
        case rel =>
          refine ⟨k + 1, by go_num, by omega, (fun i hi hik => ?_ : ∀ i (hi : i < d.length), i < k + 1 → d[i].2 ≠ id)⟩
          by_cases e : i = k
          · subst e; rw [HX.out]; exact E.out
          · exact A.out i hi (by omega)
        case measure => simp [intOf]; omega
    · have hz : ¬ (k : Int) < (d.length : Int) := by omega
      go_wp2
      go_ret
      exact ⟨by rw [hasL_none fun i hi => A.out i hi (by omega)]; rfl, rfl⟩

/-- A boxed entry, in every world that has grown. -/
theorem box_at (w : World) (x : Ent) (T : TypeId) {W : World} (h : Grown (w.alloc (.cells #[.int .u64 x.1, .int .i64 x.2] T)) W) (n : Nat) (os : Array Obj) :
    (grow (W.drewN n) os).cell? ⟨w.heap.size, 0, none⟩ = some (.int .u64 x.1) ∧ (grow (W.drewN n) os).cell? ⟨w.heap.size, 1, none⟩ = some (.int .i64 x.2) := by
  have g : Grown (w.alloc (.cells #[.int .u64 x.1, .int .i64 x.2] T)) (grow (W.drewN n) os) := h.trans ⟨n, os, rfl⟩
  exact ⟨(g.cells _ _ (by simp)).trans (by simp), (g.cells _ _ (by simp)).trans (by simp)⟩


set_option maxHeartbeats 2000000 in
set_option maxRecDepth 100000 in
theorem refPlace_any (a : Option Addr) (cap : Nat) (d : List Ent) (e : Ent) (w : World) (h : IsL w a cap d) :
    Calls Tryz.prog 21 #[.slice a d.length cap, .agg #[.int .u64 e.1, .int .i64 e.2]] w fun r w' => r = .returned (.int .i64 (smal d e)) ∧ Grown w w' := by
  have hl := h.len
  have H : Aside _ := h
  have mx := mixed
  clear h
  obtain ⟨S, hS⟩ : ∃ S, w.heap.size = S := ⟨_, rfl⟩
  have HS : Hid _ := hS
  go_enter Tryz.func21, Tryz.ntmps21
  go_wp2
  clear hS
  go_loopg [5, 6] d.length (fun kx s5 s6 wr => ∃ k : Nat, s6 = .int .i64 k ∧ s5 = .int .i64 (smal (d.take k) e) ∧ k ≤ d.length ∧ d.length - k ≤ kx ∧ Aside (Grown (w.alloc (.cells #[.int .u64 e.1, .int .i64 e.2] 34)) wr))
  case atStart => exact ⟨0, rfl, rfl, by omega, by omega, Grown.refl _⟩
  case round =>
    obtain ⟨k, rfl, rfl, hk, hkx, G⟩ := hrel
    obtain ⟨m, hm⟩ : ∃ m, smal (d.take k) e = m := ⟨_, rfl⟩
    have hmk : m ≤ k := by rw [← hm]; exact Nat.le_trans (smal_le _ _) (List.length_take_le _ _)
    have HM : Hid _ := hm
    rw [hm]
    clear hm
    by_cases hlt : k < d.length
    · have hz : (k : Int) < (d.length : Int) := by omega
      obtain ⟨b, off, ha, hc⟩ := H.out.at hlt
      subst ha
      have G0 : Grown w wr := ((Grown.refl w).alloc _).trans G.out
      have c1 := fun n os => (hc wr G0 n os).1
      have c2 := fun n os => (hc wr G0 n os).2
      have c3 := fun n os => (box_at w e 34 G.out n os).1
      have c4 := fun n os => (box_at w e 34 G.out n os).2
      simp only [HS.out] at c3 c4
      clear hc G0
      obtain ⟨x, hx⟩ : ∃ x, d[k] = x := ⟨_, rfl⟩
      rw [hx] at c1 c2
      have HX : Hid _ := hx
      clear hx
      have lg := refLess_grown x e wr
      cases hL : ltE x e with
      | true =>
        simp only [hL] at lg
        go_wp2_with fail
        go_quiet_grown (first | (go_at_call 40; exact lg _ _))
        have G2 : Aside (Grown (w.alloc (.cells #[.int .u64 e.1, .int .i64 e.2] 34)) (grow (wr.drewN nq) osq)) := G.out.trans ⟨nq, osq, rfl⟩
        clear c1 c2 c3 c4 G lg
        generalize grow (wr.drewN nq) osq = w2 at G2 ⊢
        go_wp2
        go_roundg (d.length - (k + 1))
        case measure => omega
        case rel => exact ⟨k + 1, by go_num, by rw [smal_take d e k hlt, HM.out, HX.out, hL]; go_num, by omega, Nat.le_refl _, G2⟩
      | false =>
        simp only [hL] at lg
        go_wp2_with fail
        go_quiet_grown (first | (go_at_call 40; exact lg _ _))
        have G2 : Aside (Grown (w.alloc (.cells #[.int .u64 e.1, .int .i64 e.2] 34)) (grow (wr.drewN nq) osq)) := G.out.trans ⟨nq, osq, rfl⟩
        clear c1 c2 c3 c4 G lg
        generalize grow (wr.drewN nq) osq = w2 at G2 ⊢
        go_wp2
        go_roundg (d.length - (k + 1))
        case measure => omega
        case rel => exact ⟨k + 1, by go_num, by rw [smal_take d e k hlt, HM.out, HX.out, hL]; rfl, by omega, Nat.le_refl _, G2⟩
    · have hz : ¬ (k : Int) < (d.length : Int) := by omega
      go_wp2
      go_ret
      have e1 : smal d e = m := by rw [← HM.out, List.take_of_length_le (by omega)]
      exact ⟨by rw [e1]; rfl, ((Grown.refl w).alloc _).trans G.out⟩
end Go.Proofs.YtdcacbjmbfppeaaGreat

/- 'awake' of layer 5. -/
namespace Go.Proofs.YtdcacbjmbfppeaaGreat
open Go.RowKit Go.Lib Go.Sort
set_option linter.unusedVariables false

theorem cell_new (w : World) (cs : Array Value) (T : TypeId) (i : Nat) : (w.alloc (.cells cs T)).cell? ⟨w.heap.size, i, none⟩ = cs[i]? := cell_of_row _ _ _ cs T (0, 0) (heap_alloc_new w _)
theorem cell_old (w : World) (o : Obj) {b : Nat} (i : Nat) (hb : b < w.heap.size) : (w.alloc o).cell? ⟨b, i, none⟩ = w.cell? ⟨b, i, none⟩ := World.cell?_of_block (w := w) (Below.heap_alloc _ _ _ hb)
/-- Three blocks laid one behind the other. -/
theorem cells3 (w : World) (cs ds es : Array Value) (T T' T'' : TypeId) (i : Nat) :
    (((w.alloc (.cells cs T)).alloc (.cells ds T')).alloc (.cells es T'')).cell? ⟨w.heap.size, i, none⟩ = cs[i]? ∧
    (((w.alloc (.cells cs T)).alloc (.cells ds T')).alloc (.cells es T'')).cell? ⟨w.heap.size + 1, i, none⟩ = ds[i]? ∧
    (((w.alloc (.cells cs T)).alloc (.cells ds T')).alloc (.cells es T'')).cell? ⟨w.heap.size + 2, i, none⟩ = es[i]? := by
  have s1 : (w.alloc (.cells cs T)).heap.size = w.heap.size + 1 := by simp
  have s2 : ((w.alloc (.cells cs T)).alloc (.cells ds T')).heap.size = w.heap.size + 2 := by simp
  refine ⟨?_, ?_, ?_⟩
  · rw [cell_old _ _ _ (by omega), cell_old _ _ _ (by omega), cell_new]
  · rw [cell_old _ _ _ (by omega), ← s1, cell_new]
  · rw [← s2, cell_new]

end Go.Proofs.YtdcacbjmbfppeaaGreat
