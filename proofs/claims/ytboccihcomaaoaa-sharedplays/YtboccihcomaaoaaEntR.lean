/- The calls that only read slices of entries: Sorted, Smaller, Place; the document's Sorted, Same, Has, Place. -/
import Derived.Test.YtboccihcomaaoaaEntL
import Derived.Test.YtboccihcomaaoaaEntS
import Derived.Test.YtboccihcomaaoaaSearch
import Derived.Deep.LoopGhost
namespace Go.Proofs.Ytboccihcomaaoaa
open Go.RowKit Go.Lib Go.Sort
set_option linter.unusedVariables false

theorem less_grown (x y : Ent) (w : World) (n : Nat) (os : Array Obj) :
    Calls Try.prog 59 #[.agg #[.int .u64 x.1, .int .i64 x.2], .agg #[.int .u64 y.1, .int .i64 y.2]] (grow (w.drewN n) os) fun e w' => e = .returned (.bool (ltE x y)) ∧ ∃ p : GrownBy, w' = grow (w.drewN p.n) p.os :=
  Calls.grown_of (less_any x y _)
theorem refLess_grown (x y : Ent) (w : World) (n : Nat) (os : Array Obj) :
    Calls Try.prog 37 #[.agg #[.int .u64 x.1, .int .i64 x.2], .agg #[.int .u64 y.1, .int .i64 y.2]] (grow (w.drewN n) os) fun e w' => e = .returned (.bool (ltE x y)) ∧ ∃ p : GrownBy, w' = grow (w.drewN p.n) p.os :=
  Calls.grown_of (refLess_any x y _)
/-- Entry i, in every world that has grown. -/
theorem IsL.at {w : World} {a : Option Addr} {cap : Nat} {d : List Ent} (h : IsL w a cap d) {i : Nat} (hi : i < d.length) : ∃ b off, a = some ⟨b, off, none⟩ ∧ ∀ W, Grown w W → ∀ n os, (grow (W.drewN n) os).cell? ⟨b, off + i * 2, none⟩ = some (.int .u64 d[i].1) ∧ (grow (W.drewN n) os).cell? ⟨b, off + i * 2 + 1, none⟩ = some (.int .i64 d[i].2) := by
  obtain ⟨b, off, e, hb, h1, h2⟩ := h.elem i d[i] (List.getElem?_eq_getElem hi)
  refine ⟨b, off, e, fun W hW n os => ?_⟩
  have g : Grown w (grow (W.drewN n) os) := hW.trans ⟨n, os, rfl⟩
  exact ⟨(g.below.cell (p := ⟨b, off + i * 2, none⟩) hb).trans h1, (g.below.cell (p := ⟨b, off + i * 2 + 1, none⟩) hb).trans h2⟩


set_option maxHeartbeats 2000000 in
set_option maxRecDepth 100000 in
theorem sorted_any (a : Option Addr) (cap : Nat) (d : List Ent) (w : World) (h : IsL w a cap d) :
    Calls Try.prog 39 #[.slice a d.length cap] w fun e w' => e = .returned (.bool (srtB d)) ∧ Grown w w' := by
  have hl := h.len
  have H : Aside _ := h
  have mx := mixed
  clear h
  go_enter Try.func39, Try.ntmps39
  go_wp2
  go_loopg [3] (d.length + 1) (fun kx s3 wr => ∃ k : Nat, s3 = .int .i64 (k + 1 : Nat) ∧ (k < d.length ∨ k = 0) ∧ d.length - k ≤ kx ∧ Aside (Grown w wr) ∧ Aside (∀ i (hi : i + 1 < d.length), i < k → ltE d[i + 1] (d[i]'(by omega)) = false))
  case atStart => exact ⟨0, rfl, .inr rfl, by omega, Grown.refl w, (fun i _ h => absurd h (by omega) : ∀ i (hi : i + 1 < d.length), i < 0 → ltE d[i + 1] (d[i]'(by omega)) = false)⟩
  case round =>
    obtain ⟨k, rfl, hk, hkx, G, A⟩ := hrel
    by_cases hlt : k + 1 < d.length
    · have hz : (k : Int) + 1 < (d.length : Int) := by omega
      have hz0 : (k : Int) < (d.length : Int) := by omega
      have e1 : ((k : Int) + 1).toNat = k + 1 := by omega
      have p1 : (0 : Int) ≤ (k : Int) + 1 := by omega
      have wk : IntKind.i64.wrap (k : Int) = (k : Int) := by rw [IntKind.wrap_i64]; omega
      obtain ⟨b, off, ha, hc⟩ := H.out.at hlt
      obtain ⟨b', off', ha', hc'⟩ := H.out.at (show k < d.length by omega)
      obtain ⟨rfl, rfl⟩ : b' = b ∧ off' = off := by rw [ha] at ha'; cases ha'; exact ⟨rfl, rfl⟩
      subst ha
      have c1 := fun n os => (hc wr G.out n os).1
      have c2 := fun n os => (hc wr G.out n os).2
      have c3 := fun n os => (hc' wr G.out n os).1
      have c4 := fun n os => (hc' wr G.out n os).2
      clear hc hc' ha'
      obtain ⟨x, hx⟩ : ∃ x, d[k + 1] = x := ⟨_, rfl⟩
      obtain ⟨y, hy⟩ : ∃ y, d[k]'(by omega) = y := ⟨_, rfl⟩
      rw [hx] at c1 c2
      rw [hy] at c3 c4
      have HX : Hid _ := hx
      have HY : Hid _ := hy
      clear hx hy
      have lg := less_grown x y wr
      cases hL : ltE x y with
      | true =>
        simp only [hL] at lg
        go_wp2_with fail
        go_quiet_grown (first | (go_at_call 59; exact lg _ _))
        have G2 : Aside (Grown w (grow (wr.drewN nq) osq)) := G.out.trans ⟨nq, osq, rfl⟩
        clear c1 c2 c3 c4 G
        generalize grow (wr.drewN nq) osq = w2 at G2 ⊢
        go_wp2
        go_ret
        have := srtB_false (d := d) k hlt (by rw [HX.out, HY.out]; exact hL)
        exact ⟨by rw [this]; rfl, G2.out⟩
      | false =>
        simp only [hL] at lg
        go_wp2_with fail
        go_quiet_grown (first | (go_at_call 59; exact lg _ _))
        have G2 : Aside (Grown w (grow (wr.drewN nq) osq)) := G.out.trans ⟨nq, osq, rfl⟩
        clear c1 c2 c3 c4 G
        generalize grow (wr.drewN nq) osq = w2 at G2 ⊢
        go_wp2
        go_roundg (d.length - (k + 1))
        case measure => omega
        case rel =>
          refine ⟨k + 1, by go_num, by omega, Nat.le_refl _, G2, (fun i hi hik => ?_ : ∀ i (hi : i + 1 < d.length), i < k + 1 → ltE d[i + 1] (d[i]'(by omega)) = false)⟩
          by_cases e : i = k
          · subst e; rw [HX.out, HY.out]; exact hL
          · exact A.out i hi (by omega)
    · have hz : ¬ (k : Int) + 1 < (d.length : Int) := by omega
      go_wp2
      go_ret
      have := srtB_true (d := d) (fun i hi => A.out i hi (by omega))
      exact ⟨by rw [this]; rfl, G.out⟩

set_option maxHeartbeats 2000000 in
set_option maxRecDepth 100000 in
theorem refSorted_any (a : Option Addr) (cap : Nat) (d : List Ent) (w : World) (h : IsL w a cap d) :
    Calls Try.prog 15 #[.slice a d.length cap] w fun e w' => e = .returned (.bool (srtB d)) ∧ Grown w w' := by
  have hl := h.len
  have H : Aside _ := h
  have mx := mixed
  clear h
  go_enter Try.func15, Try.ntmps15
  go_wp2
  go_loopg [3] (d.length + 1) (fun kx s3 wr => ∃ k : Nat, s3 = .int .i64 (k + 1 : Nat) ∧ (k < d.length ∨ k = 0) ∧ d.length - k ≤ kx ∧ Aside (Grown w wr) ∧ Aside (∀ i (hi : i + 1 < d.length), i < k → ltE d[i + 1] (d[i]'(by omega)) = false))
  case atStart => exact ⟨0, rfl, .inr rfl, by omega, Grown.refl w, (fun i _ h => absurd h (by omega) : ∀ i (hi : i + 1 < d.length), i < 0 → ltE d[i + 1] (d[i]'(by omega)) = false)⟩
  case round =>
    obtain ⟨k, rfl, hk, hkx, G, A⟩ := hrel
    by_cases hlt : k + 1 < d.length
    · have hz : (k : Int) + 1 < (d.length : Int) := by omega
      have hz0 : (k : Int) < (d.length : Int) := by omega
      have e1 : ((k : Int) + 1).toNat = k + 1 := by omega
      have p1 : (0 : Int) ≤ (k : Int) + 1 := by omega
      have wk : IntKind.i64.wrap (k : Int) = (k : Int) := by rw [IntKind.wrap_i64]; omega
      obtain ⟨b, off, ha, hc⟩ := H.out.at hlt
      obtain ⟨b', off', ha', hc'⟩ := H.out.at (show k < d.length by omega)
      obtain ⟨rfl, rfl⟩ : b' = b ∧ off' = off := by rw [ha] at ha'; cases ha'; exact ⟨rfl, rfl⟩
      subst ha
      have c1 := fun n os => (hc wr G.out n os).1
      have c2 := fun n os => (hc wr G.out n os).2
      have c3 := fun n os => (hc' wr G.out n os).1
      have c4 := fun n os => (hc' wr G.out n os).2
      clear hc hc' ha'
      obtain ⟨x, hx⟩ : ∃ x, d[k + 1] = x := ⟨_, rfl⟩
      obtain ⟨y, hy⟩ : ∃ y, d[k]'(by omega) = y := ⟨_, rfl⟩
      rw [hx] at c1 c2
      rw [hy] at c3 c4
      have HX : Hid _ := hx
      have HY : Hid _ := hy
      clear hx hy
      have lg := refLess_grown x y wr
      cases hL : ltE x y with
      | true =>
        simp only [hL] at lg
        go_wp2_with fail
        go_quiet_grown (first | (go_at_call 37; exact lg _ _))
        have G2 : Aside (Grown w (grow (wr.drewN nq) osq)) := G.out.trans ⟨nq, osq, rfl⟩
        clear c1 c2 c3 c4 G
        generalize grow (wr.drewN nq) osq = w2 at G2 ⊢
        go_wp2
        go_ret
        have := srtB_false (d := d) k hlt (by rw [HX.out, HY.out]; exact hL)
        exact ⟨by rw [this]; rfl, G2.out⟩
      | false =>
        simp only [hL] at lg
        go_wp2_with fail
        go_quiet_grown (first | (go_at_call 37; exact lg _ _))
        have G2 : Aside (Grown w (grow (wr.drewN nq) osq)) := G.out.trans ⟨nq, osq, rfl⟩
        clear c1 c2 c3 c4 G
        generalize grow (wr.drewN nq) osq = w2 at G2 ⊢
        go_wp2
        go_roundg (d.length - (k + 1))
        case measure => omega
        case rel =>
          refine ⟨k + 1, by go_num, by omega, Nat.le_refl _, G2, (fun i hi hik => ?_ : ∀ i (hi : i + 1 < d.length), i < k + 1 → ltE d[i + 1] (d[i]'(by omega)) = false)⟩
          by_cases e : i = k
          · subst e; rw [HX.out, HY.out]; exact hL
          · exact A.out i hi (by omega)
    · have hz : ¬ (k : Int) + 1 < (d.length : Int) := by omega
      go_wp2
      go_ret
      have := srtB_true (d := d) (fun i hi => A.out i hi (by omega))
      exact ⟨by rw [this]; rfl, G.out⟩
end Go.Proofs.Ytboccihcomaaoaa
