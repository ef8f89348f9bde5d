/- The law's 'has', and the function that BlockMerges hands to Shrink. -/
import Derived.Test.YtoknpinlphbeoaaBlkW
import Derived.Test.YtoknpinlphbeoaaRow
namespace Go.Proofs.Ytoknpinlphbeoaa
open Go.RowKit Go.Lib Go.Sort
set_option linter.unusedVariables false

/-- A slice of ints at a that holds zs. -/
structure IsI (w : World) (a : Option Addr) (zs : List Int) : Prop where
  len : zs.length ≤ 9223372036854775807
  elem : ∀ j z, zs[j]? = some z → ∃ b off, a = some ⟨b, off, none⟩ ∧ b < w.heap.size ∧ w.cell? ⟨b, off + j, none⟩ = some (.int .i64 z)
theorem IsI.below {w w' : World} {a : Option Addr} {zs : List Int} (h : IsI w a zs) (hw : Below w.heap.size w w') : IsI w' a zs :=
  ⟨h.len, fun j z hz => by
    obtain ⟨b, off, e, hb, h1⟩ := h.elem j z hz
    exact ⟨b, off, e, by have := hw.size; omega, (hw.cell (p := ⟨b, off + j, none⟩) hb).trans h1⟩⟩
theorem IsRow.isI {w : World} {a : Option Addr} {len cap : Nat} {zs : List Int} (h : IsRow .i64 w a len cap zs) : IsI w a (zs.take len) ∧ (zs.take len).length = len := by
  rcases h with ⟨rfl, rfl, rfl, rfl⟩ | ⟨x, rfl, hl, hm, hz, hcell, hwz⟩
  · exact ⟨⟨by simp, fun j z h => by simp at h⟩, rfl⟩
  · unfold maxLen at hm
    refine ⟨⟨by simp; omega, fun j z hj => ?_⟩, by simp; omega⟩
    have hjl : j < len := by have := (List.getElem?_eq_some_iff.1 hj).1; simp at this; omega
    rw [List.getElem?_take_of_lt hjl] at hj
    obtain ⟨b, off, spot⟩ := x
    have hc := hcell j (by omega)
    have hspot : spot = none := by simpa [Addr.add] using World.cell?_spot (hcell 0 (by omega))
    subst hspot
    rw [Addr.add_lit, List.getD, hj] at hc
    exact ⟨b, off, rfl, World.block_lt_of_cell? w _ hc, hc⟩

/-- Is it among them? -/
def isIn (zs : List Int) (id : Int) : Bool := zs.any (· == id)
theorem isIn_false {zs : List Int} {id : Int} (h : ∀ j (hj : j < zs.length), zs[j] ≠ id) : isIn zs id = false := by
  unfold isIn
  rw [List.any_eq_false]
  intro x hx
  obtain ⟨j, hj, rfl⟩ := List.getElem_of_mem hx
  simpa using h j hj
theorem isIn_true {zs : List Int} {id : Int} (j : Nat) (hj : j < zs.length) (h : zs[j] = id) : isIn zs id = true := by
  unfold isIn
  rw [List.any_eq_true]
  exact ⟨zs[j], List.getElem_mem hj, by simpa using h⟩

set_option maxHeartbeats 400000 in
theorem has_any (a : Option Addr) (cap G : Nat) (zs : List Int) (id : Int) (w : World) (h : IsI w a zs) (hG : zs.length = G) :
    Calls Try.prog 25 #[.slice a G cap, .int .i64 id] w fun e w' => e = .returned (.bool (isIn zs id)) ∧ w' = w := by
  have hl := h.len
  rw [hG] at hl
  have HG : Hid _ := hG
  have H : Aside (IsI w a zs) := h
  clear h hG
  go_enter Try.func25, Try.ntmps25
  go_wp2
  go_loop [5] (fun s5 => ∃ k : Nat, s5 = .int .i64 k ∧ k ≤ G ∧ Aside (∀ j (hj : j < zs.length), j < k → zs[j] ≠ id)) (fun s5 => G - (intOf s5).toNat)
  case atStart => exact ⟨0, rfl, by omega, (fun j _ h => absurd h (by omega) : ∀ j (hj : j < zs.length), j < 0 → zs[j] ≠ id)⟩
  case round =>
    obtain ⟨k, rfl, hk, A⟩ := hrel
    by_cases hlt : k < G
    · have hz : (k : Int) < (G : Int) := by omega
      have hlt' : k < zs.length := by rw [HG.out]; exact hlt
      obtain ⟨b, off, rfl, hb, c0⟩ := H.out.elem k zs[k] (List.getElem?_eq_getElem hlt')
      obtain ⟨z, hz0⟩ : ∃ z, zs[k] = z := ⟨_, rfl⟩
      have HZ : Hid _ := hz0
      rw [hz0] at c0
      clear hz0
      by_cases e : z = id
      · have e2 : (z == id) = true := by simp [e]
        subst e
        go_wp2
        go_ret
        exact ⟨by rw [isIn_true k hlt' HZ.out]; rfl, rfl⟩
      · have e2 : (z == id) = false := by simp [e]
        go_wp2
        go_round
        case rel =>
          refine ⟨k + 1, by go_num, by omega, (fun j hj hjk => ?_ : ∀ j (hj : j < zs.length), j < k + 1 → zs[j] ≠ id)⟩
          by_cases ej : j = k
          · subst ej; rw [HZ.out]; exact e
          · exact A.out j hj (by omega)
        case measure => simp [intOf]; omega
    · have hz : ¬ (k : Int) < (G : Int) := by omega
      go_wp2
      go_ret
      exact ⟨by rw [isIn_false (fun j hj => A.out j hj (by have := HG.out; omega))]; rfl, rfl⟩

set_option maxHeartbeats 400000 in
theorem gone_any (S : Nat) (a : Option Addr) (cap G : Nat) (zs : List Int) (id : Int) (w : World) (h : IsI w a zs) (hG : zs.length = G) (c : w.cell? ⟨S, 0, none⟩ = some (.slice a G cap)) :
    Calls Try.prog 26 #[.int .i64 id, .pointer (some ⟨S, 0, none⟩)] w fun e w' => e = .returned (.bool (isIn zs id)) ∧ w' = w := by
  have ha := has_any a cap G zs id w h hG
  clear h hG
  go_enter Try.func26, Try.ntmps26
  go_wp2_with fail
  refine ha.mono ?_
  rintro e w1 ⟨rfl, e1⟩
  obtain rfl := e1.symm
  go_wp2
  go_ret
  exact ⟨rfl, rfl⟩
end Go.Proofs.Ytoknpinlphbeoaa
