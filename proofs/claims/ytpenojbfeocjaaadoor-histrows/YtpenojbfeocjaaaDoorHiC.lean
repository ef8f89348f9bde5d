/- What is ready of a row where nothing is: maps.Values of an empty map, slices.Collect of it, entry.Sort of nil. -/
import Derived.Test.YtpenojbfeocjaaaDoorHiO
import Derived.RangeFuncNested
import Derived.RangeFuncBound
import Derived.RangeFuncCalls
import Derived.RangeFuncLeaves
import Derived.RangeFuncOne
import Derived.Shelf.Abstract
import Derived.Shelf.RegionOpen
import Derived.WalkKit
import Derived.OwnWalkIn
import Derived.TacticsInMore
import Derived.LoopNIn
import Derived.LoopIn
import Derived.Maps.OwnIn
namespace Go.Proofs.YtpenojbfeocjaaaDoor
open Go.RowKit Go.Lib Go.WideMaps Go.Maps Go.Shelf
set_option linter.unusedVariables false
set_option maxRecDepth 10000

set_option maxRecDepth 100000 in
set_option maxHeartbeats 1000000 in
/-- The iterator over an empty map: it never yields. -/
theorem values_none (F : Fence) (n : Nat) (h10 : F.fn 28) (hro : F.round = none) (l Bm M : Nat) (D : DataW Value) (J : World → Prop)
    (W : World) (hJ : ∀ W1, W.grownBy W1 none → J W → J W1) (hm : W.cell? ⟨Bm, 0, none⟩ = some (.map (some M))) (hown : W.ownsMap Tryd.prog 52 heldR M 0 D) (hD : Maps.size D = 0) (h0 : J W) :
    CallsIn F n Tryd.prog 28 #[.func (.yield l) #[] #[], .pointer (some ⟨Bm, 0, none⟩)] W fun e W' => (∃ v, e = .returned v) ∧ J W' := by
  refine callsIn_of_wp Tryd.func28 rfl h10 ?_ hro
  simp only [Tryd.ntmps28, List.size_toArray, List.length_cons, List.length_nil, Nat.reduceAdd, Nat.reduceSub, Array.replicate_succ, Array.replicate_zero, List.push_toArray, List.append_toArray, List.nil_append, List.cons_append]
  gi_wp2_with (first
    | (gi_at_range; refine wpListIn_range_own _ rfl _ 50 rfl 52 42 keyP.K Tryd.underlying50 _ M 0 _ rfl hown ?_; intro w0 hrg0 hg0 hs0)
    | gi_in)
  go_frame
  gi_loopw [4] (fun _ wr => ∃ (left : Lit → Bool) (cnt : Nat), wr.ranges Tryd.prog 52 heldR M W.heap.size 0 D left cnt ∧ cnt < 1 ∧ J wr)
    (fun _ wr => 0)
  case atStart =>
    exact ⟨_, _, hrg0, by omega, hJ w0 hg0 h0⟩
  case round =>
    obtain ⟨left, cnt, hrg, hc1, hJs⟩ := hrel
    gi_wp2_with (first
      | (gi_at_next; refine wpListIn_next_ranges _ rfl _ rfl 52 keyP.K heldR id id (fun key kl hk => ⟨key, rfl⟩) (fun v _ _ => ⟨v, rfl⟩) M W.heap.size 0 _ _ _ rfl hrg ?_ ?_)
      | gi_in)
    · intro hc0 hl0
      gi_wp2
      go_end0
      exact ⟨⟨_, rfl⟩, hJs⟩
    · intro x c kl yd yp w2 cnt2 hkey hlk hv hat hrg2 hlt hg2 hs2 hen
      exact absurd hlt (by omega)

set_option maxRecDepth 100000 in
set_option maxHeartbeats 1000000 in
theorem appendSeq_none (F : Fence) (n : Nat) (h27 : F.fn 27) (h28 : F.fn 28) (hro : F.round = none) (hn : 2 ≤ n) (Bm M : Nat) (D : DataW Value)
    (w : World) (hB : Bm < w.heap.size) (hm : w.cell? ⟨Bm, 0, none⟩ = some (.map (some M))) (hown : w.ownsMap Tryd.prog 52 heldR M 0 D) (hD : Maps.size D = 0) :
    CallsIn F n Tryd.prog 27 #[.slice none 0 0, .func (.func 28) #[] #[.pointer (some ⟨Bm, 0, none⟩)]] w fun e w' => e = .returned (.slice none 0 0) ∧ Below w.heap.size w w' := by
  have h1 : 1 ≤ n := by omega
  have hM := hown.lt
  refine callsIn_of_wp_marks Tryd.func27 rfl h27 ?_ hro
  simp only [Tryd.ntmps27, List.size_toArray, List.length_cons, List.length_nil, Nat.reduceAdd, Nat.reduceSub, Array.replicate_succ, Array.replicate_zero, List.push_toArray, List.append_toArray, List.nil_append, List.cons_append]
  gi_wp2
  obtain ⟨W0, hW0⟩ : ∃ W0, w.alloc (.cells #[.slice none 0 0] 30) = W0 := ⟨_, rfl⟩
  have hs0 : W0.heap.size = w.heap.size + 1 := by rw [← hW0]; simp
  have hv0 : W0.cell? ⟨w.heap.size, 0, none⟩ = some (.slice none 0 0) := by rw [← hW0, cell_fresh]; rfl
  have hb0 : Below w.heap.size w W0 := by rw [← hW0]; exact (Below.refl _ w).alloc (Nat.le_refl _) _
  have hm0 : W0.cell? ⟨Bm, 0, none⟩ = some (.map (some M)) := (hb0.cell (p := ⟨Bm, 0, none⟩) hB).trans hm
  rw [hW0]
  clear hW0
  refine wpIn_rangeFunc_ownF (α := Empty) hro h1 (gf := 28) (lb := #[.pointer (some ⟨Bm, 0, none⟩)]) rfl h28 (enters_of Tryd.func28 (by kernel_rfl) rfl)
    (encs := fun x => x.elim) (Kp := fun _ _ => True) (S := fun _ => True) (Sp := fun _ => False) (N := 0) (w0 := W0)
    (fun l J Jx W hW hJ hJx hY h0 => (values_none F (n - 1) h28 hro l Bm M D (J []) W (fun W1 hg h => hJ [] W W1 none h hg (fun r e => by cases e)) ((hW.cell (p := ⟨Bm, 0, none⟩) (by show Bm < _; omega)).trans hm0) (by obtain ⟨es, clock, hb, Ft, hs, hD⟩ := hown; exact ⟨es, clock, ((hb0.trans (hW.mono (by omega))).block M hM).trans hb, Ft, hs, hD⟩) hD h0).mono fun e W' ⟨he, hj⟩ => ⟨he, .inl ⟨[], trivial, hj⟩⟩)
    (fun _ _ => trivial) (fun _ _ _ _ _ _ _ _ => trivial) (Below.refl _ _) (fun x => x.elim)
    (fun _ W => W.cell? ⟨w.heap.size, 0, none⟩ = some (.slice none 0 0) ∧ Below w.heap.size w W) (fun _ _ _ => False)
    (OwnFrom.and (Own.from (fun s A B row hs hg hr => cell_kept hs hg hr) _) (ownFrom_below (Nat.le_refl _) (by omega)))
    (fun _ _ _ _ _ h _ _ => h) ⟨hv0, hb0⟩ (fun x => x.elim) (fun _ x => x.elim) (fun _ _ x => x.elim) ?done ?stop
  case done =>
    rintro D ys W hD2 - ⟨hc, hbb⟩ hK
    gi_wp2
    refine ⟨by simp, .inl ⟨_, _, rfl, run_takeDeferred hK, ?_⟩⟩
    exact ⟨_, results_tmp rfl _ _ _, rfl, hbb.trans (belowK_b (w := w) (Nat.le_refl _) W D _ _ (by omega) hK rfl rfl)⟩
  case stop =>
    rintro D c pre W _ h
    exact h.elim
end Go.Proofs.YtpenojbfeocjaaaDoor
