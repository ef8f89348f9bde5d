/- wheel: All. -/
import Derived.Test.YtbopobgnmkhabaaDoorWhNx
import Derived.Deep.MidRow
namespace Go.Proofs.YtbopobgnmkhabaaDoor
open Go.RowKit Go.Lib Go.Sort Go.WideMaps Go.Maps
set_option linter.unusedVariables false

/-- The far ones, and those of the first m slots. -/
def accL (c : Nat → Nat → List Ent) (far : List Ent) : Nat → List Ent
  | 0 => far
  | m + 1 => accL c far m ++ c (m / 64) (m % 64)
section
variable {now : Nat} {u : Nat → Nat} {c : Nat → Nat → List Ent} {far : List Ent} {T : List Ent}
theorem accL_mem (c : Nat → Nat → List Ent) (far : List Ent) (x : Ent) : ∀ m, x ∈ accL c far m ↔ x ∈ far ∨ ∃ i, i < m ∧ x ∈ c (i / 64) (i % 64)
  | 0 => by simp [accL]
  | m + 1 => by
    rw [accL, List.mem_append, accL_mem c far x m]
    constructor
    · rintro ((h | ⟨i, h1, h2⟩) | h)
      · exact .inl h
      · exact .inr ⟨i, by omega, h2⟩
      · exact .inr ⟨m, by omega, h⟩
    · rintro (h | ⟨i, h1, h2⟩)
      · exact .inl (.inl h)
      · by_cases e : i = m
        · subst e; exact .inr h2
        · exact .inl (.inr ⟨i, by omega, h2⟩)
theorem WhL.accN (h : WhL now u c far (fun x => x ∈ T)) : ∀ m, m ≤ 256 → (accL c far m).Nodup ∧ ∀ x ∈ accL c far m, x ∈ T
  | 0, _ => ⟨h.farN, fun x hx => ((h.farM x).1 hx).1⟩
  | m + 1, hm => by
    obtain ⟨h1, h2⟩ := h.accN m (by omega)
    have hl : m / 64 < 4 := by omega
    have hs : m % 64 < 64 := by omega
    rw [accL]
    refine ⟨List.nodup_append.2 ⟨h1, h.slotN _ _ hl hs, fun a ha b hb e => ?_⟩, fun x hx => ?_⟩
    · subst e
      obtain ⟨_, p1⟩ := (h.slotM _ _ hl hs a).1 hb
      rcases (accL_mem c far a m).1 ha with q | ⟨i, q1, q2⟩
      · have := ((h.farM a).1 q).2
        rw [p1] at this
        simp only at this
        omega
      · obtain ⟨_, p2⟩ := (h.slotM _ _ (by omega) (by omega) a).1 q2
        rw [p1] at p2
        injection p2 with e1 e2
        omega
    · rcases List.mem_append.1 hx with q | q
      · exact h2 x q
      · exact ((h.slotM _ _ hl hs x).1 q).1
theorem WhL.accAll (h : WhL now u c far (fun x => x ∈ T)) (hT : TOk T) : sortE (accL c far 256) = T := by
  obtain ⟨h1, h2⟩ := h.accN 256 (Nat.le_refl _)
  refine (sortE_of hT.srt (perm_of_mem (nodup_of_ids hT.ids) h1 (fun x => ⟨fun hx => ?_, h2 x⟩))).symm
  rw [accL_mem]
  by_cases hc : (plc now x.1.toNat).1 < 4
  · right
    have hs := plc_slot now x.1.toNat
    refine ⟨(plc now x.1.toNat).1 * 64 + (plc now x.1.toNat).2, by omega, ?_⟩
    rw [show ((plc now x.1.toNat).1 * 64 + (plc now x.1.toNat).2) / 64 = (plc now x.1.toNat).1 by omega, show ((plc now x.1.toNat).1 * 64 + (plc now x.1.toNat).2) % 64 = (plc now x.1.toNat).2 by omega]
    exact (h.slotM _ _ hc hs x).2 ⟨hx, rfl⟩
  · left
    exact (h.farM x).2 ⟨hx, by omega⟩
end
/-- One level's slots, as a value. -/
def slotsV (hd : Nat → Value) (l : Nat) : List Value := (List.range 64).map (fun s => hd (2 + l * 65 + 1 + s))
theorem slotsV_at (hd : Nat → Value) (l : Nat) {s : Nat} (hs : s < 64) : (slotsV hd l)[s]? = some (hd (2 + l * 65 + 1 + s)) := by
  unfold slotsV
  rw [List.getElem?_map, List.getElem?_range hs]
  rfl
theorem idx_any (hd : Nat → Value) (l : Nat) {s : Nat} (hs : s < 64) {a : Option Addr} {n cap : Nat} (e : hd (2 + l * 65 + 1 + s) = .slice a n cap) (w : World) : (Instr.index 56 (.agg (slotsV hd l).toArray) (.int .i64 (s : Int))).run Tryd.prog w = .ok (.slice a n cap) w := by
  have hn : (0 : Int) ≤ (s : Int) ∧ (s : Int) < 64 := by omega
  have hg := slotsV_at hd l hs
  rw [e] at hg
  simp [Instr.index, run_underlying Tryd.underlying56, asIntOf, hn, hg, go_sem]
  intro h; omega
end Go.Proofs.YtbopobgnmkhabaaDoor
