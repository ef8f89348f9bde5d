/- Rows of entries: Claims; the document's Less and Sorted; parts of a row of events, one of them put behind the other. -/
import Derived.Test.YtpenojbfeocjaaaDoorHiD
import Derived.Deep.QuietTactic
import Derived.BigQuiet
import Derived.Shelf.SlSortCmp.QuietGrown
import Derived.Deep.LoopGhost
namespace Go.Proofs.YtpenojbfeocjaaaDoor
open Go.RowKit Go.Lib Go.WideMaps Go.Maps Go.Sort
set_option linter.unusedVariables false
set_option maxRecDepth 10000

/-- Draws, and blocks laid behind: nothing else. -/
def Grown (w w' : World) : Prop := ∃ q os, w' = grow (w.drewN q) os
theorem Grown.refl (w : World) : Grown w w := ⟨0, #[], by rw [grow_empty]; rfl⟩
theorem Grown.trans {u v w : World} (h : Grown u v) (k : Grown v w) : Grown u w := by
  obtain ⟨q, os, rfl⟩ := h
  obtain ⟨q', os', rfl⟩ := k
  exact ⟨q + q', os ++ os', by show grow (grow ((u.drewN q).drewN q') os) os' = _; rw [grow_grow, World.drewN_drewN]⟩
theorem Grown.alloc {u v : World} (h : Grown u v) (o : Obj) : Grown u (v.alloc o) := h.trans ⟨0, #[o], by rw [alloc_eq_grow]; rfl⟩
theorem Grown.below {u v : World} (h : Grown u v) : Below u.heap.size u v := by
  obtain ⟨q, os, rfl⟩ := h
  exact ⟨rfl, rfl, rfl, by simp [grow], fun k hk => heap_grow_old _ _ hk⟩
def ltP (x y : Int × Int) : Bool := if x.1 = y.1 then decide (x.2 < y.2) else decide (x.1 < y.1)
theorem vLess_any (x y : Int × Int) (w : World) :
    Calls Tryd.prog 15 #[.agg #[.int .u64 x.1, .int .i64 x.2], .agg #[.int .u64 y.1, .int .i64 y.2]] w fun e w' => e = .returned (.bool (ltP x y)) ∧ Grown w w' := by
  obtain ⟨k1, i1⟩ := x
  obtain ⟨k2, i2⟩ := y
  by_cases h : k1 = k2
  · have e : ltP (k1, i1) (k2, i2) = decide (i1 < i2) := by unfold ltP; rw [if_pos h]
    have h' : ¬ k1 < k2 := by omega
    rw [e]
    clear e
    go_enter Tryd.func15, Tryd.ntmps15
    go_wp2
    go_ret
    exact ⟨rfl, ((Grown.refl w).alloc _).alloc _⟩
  · by_cases h' : k1 < k2
    · have e : ltP (k1, i1) (k2, i2) = true := by unfold ltP; rw [if_neg h]; exact decide_eq_true h'
      rw [e]
      clear e
      go_enter Tryd.func15, Tryd.ntmps15
      go_wp2
      go_ret
      exact ⟨rfl, ((Grown.refl w).alloc _).alloc _⟩
    · have e : ltP (k1, i1) (k2, i2) = false := by unfold ltP; rw [if_neg h]; exact decide_eq_false h'
      rw [e]
      clear e
      go_enter Tryd.func15, Tryd.ntmps15
      go_wp2
      go_ret
      exact ⟨rfl, ((Grown.refl w).alloc _).alloc _⟩
theorem vLess_grown (x y : Int × Int) (w : World) (n : Nat) (os : Array Obj) :
    Calls Tryd.prog 15 #[.agg #[.int .u64 x.1, .int .i64 x.2], .agg #[.int .u64 y.1, .int .i64 y.2]] (grow (w.drewN n) os) fun e w' => e = .returned (.bool (ltP x y)) ∧ ∃ p : GrownBy, w' = grow (w.drewN p.n) p.os :=
  Calls.grown_of (vLess_any x y _)
def rN : RowT (Int × Int) where
  enc := fun x => [.int .u64 x.1, .int .i64 x.2]
  k := 2
  et := 42
  st := 30
  z := .agg #[.int .u64 0, .int .i64 0]
  nb := 16
  kpos := by decide
  len := fun x => rfl
  one := fun x u hu => by
    simp at hu
    rcases hu with rfl | rfl <;> rfl
  und := Tryd.underlying30
  info := by
    have h : (Tryd.prog.info? 42).map (fun i => (i.zero, i.size, i.bytes)) = some (some (.agg #[.int .u64 0, .int .i64 0]), 2, 16) := by kernel_rfl
    obtain ⟨i, h1, h2⟩ := Option.map_eq_some_iff.1 h
    simp at h2
    exact ⟨i, h1, h2.1, h2.2.1, h2.2.2⟩
  zs := rfl
  small := by decide
theorem enGrown {w : World} {a : Option Addr} {cap : Nat} {d : List (Int × Int)} (h : IsG rN w a cap d) {i : Nat} {x : Int × Int} (hi : d[i]? = some x) : ∃ b off, a = some ⟨b, off, none⟩ ∧ ∀ W, Grown w W → ∀ n os, (grow (W.drewN n) os).cell? ⟨b, off + i * 2, none⟩ = some (.int .u64 x.1) ∧ (grow (W.drewN n) os).cell? ⟨b, off + i * 2 + 1, none⟩ = some (.int .i64 x.2) := by
  obtain ⟨b, off, e, hb, h1⟩ := h.at hi
  refine ⟨b, off, e, fun W hW n os => ?_⟩
  have g : Grown w (grow (W.drewN n) os) := hW.trans ⟨n, os, rfl⟩
  exact ⟨(g.below.cell (p := ⟨b, off + i * 2, none⟩) hb).trans (h1 0 _ rfl), (g.below.cell (p := ⟨b, off + i * 2 + 1, none⟩) hb).trans (h1 1 _ rfl)⟩
set_option maxHeartbeats 2000000 in
set_option maxRecDepth 100000 in
theorem vSorted_yes {a : Option Addr} {cap : Nat} {d : List (Int × Int)} {w : World} (h : IsG rN w a cap d) (hs : ∀ i x y, d[i]? = some x → d[i + 1]? = some y → ltP y x = false) :
    Calls Tryd.prog 6 #[.slice a d.length cap] w fun e w' => e = .returned (.bool true) ∧ Grown w w' := by
  have hl := h.len
  have H : Aside _ := h
  have HS : Aside (∀ i x y, d[i]? = some x → d[i + 1]? = some y → ltP y x = false) := hs
  have mx : Tryd.prog.follows .mixedOrders = true := by kernel_rfl
  clear h hs
  go_enter Tryd.func6, Tryd.ntmps6
  go_wp2
  go_loopg [3] (d.length + 1) (fun kx s3 wr => ∃ k : Nat, s3 = .int .i64 (k + 1 : Nat) ∧ (k < d.length ∨ k = 0) ∧ d.length - k ≤ kx ∧ Aside (Grown w wr))
  case atStart => exact ⟨0, rfl, .inr rfl, by omega, Grown.refl w⟩
  case round =>
    obtain ⟨k, rfl, hk, hkx, G⟩ := hrel
    by_cases hlt : k + 1 < d.length
    · have hz : (k : Int) + 1 < (d.length : Int) := by omega
      have hz0 : (k : Int) < (d.length : Int) := by omega
      have e1 : ((k : Int) + 1).toNat = k + 1 := by omega
      have p1 : (0 : Int) ≤ (k : Int) + 1 := by omega
      have wk : IntKind.i64.wrap (k : Int) = (k : Int) := by rw [IntKind.wrap_i64]; omega
      obtain ⟨x, hx⟩ : ∃ x, d[k + 1]? = some x := ⟨_, List.getElem?_eq_getElem hlt⟩
      obtain ⟨y, hy⟩ : ∃ y, d[k]? = some y := ⟨_, List.getElem?_eq_getElem (by omega)⟩
      have hL : ltP x y = false := HS.out k y x hy hx
      obtain ⟨b, off, ha, hc⟩ := enGrown H.out hx
      obtain ⟨b', off', ha', hc'⟩ := enGrown H.out hy
      obtain ⟨rfl, rfl⟩ : b' = b ∧ off' = off := by rw [ha] at ha'; cases ha'; exact ⟨rfl, rfl⟩
      subst ha
      have c1 := fun n os => (hc wr G.out n os).1
      have c2 := fun n os => (hc wr G.out n os).2
      have c3 := fun n os => (hc' wr G.out n os).1
      have c4 := fun n os => (hc' wr G.out n os).2
      clear hc hc' ha'
      clear hx hy
      have lg := vLess_grown x y wr
      rw [hL] at lg
      clear hL
      go_wp2_with fail
      go_quiet_grown (first | (go_at_call 15; exact lg _ _))
      have G2 : Aside (Grown w (grow (wr.drewN nq) osq)) := G.out.trans ⟨nq, osq, rfl⟩
      clear c1 c2 c3 c4 G
      generalize grow (wr.drewN nq) osq = w2 at G2 ⊢
      go_wp2
      go_roundg (d.length - (k + 1))
      case measure => omega
      case rel => exact ⟨k + 1, by go_num, by omega, Nat.le_refl _, G2⟩
    · have hz : ¬ (k : Int) + 1 < (d.length : Int) := by omega
      go_wp2
      go_ret
      exact ⟨rfl, G.out⟩
end Go.Proofs.YtpenojbfeocjaaaDoor
