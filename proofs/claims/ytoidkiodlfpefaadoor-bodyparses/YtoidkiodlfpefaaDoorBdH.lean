/- The tables that a call finds, and the library's Split, Join, Itoa, by lists of bytes. -/
import Derived.Test.YtoidkiodlfpefaaDoorBdL
import Derived.Test.YtoidkiodlfpefaaDoorBdShelf
namespace Go.Proofs.YtoidkiodlfpefaaDoor
open Go.RowKit Go.Lib Go.Shelf Go.Sort
set_option linter.unusedVariables false

theorem gPow : Tryd.prog.globalNamed "internal/strconv.uint64pow10" = some 2 := by kernel_rfl
/-- What the tables hold. -/
structure Tb (w : World) : Prop where
  m : ∃ m, w.cell? ⟨1, 0, none⟩ = some (.int .i64 m)
  p : Lib.TabIs Tryd.prog w "internal/strconv.uint64pow10" .u64 Lib.pow10Tab
  sh : ∀ k : Nat, k < 6 → w.cell? ⟨0, k * 6, none⟩ = some (sV (shW.getD k [])) ∧ w.cell? ⟨0, k * 6 + 1, none⟩ = some (.int .i64 (shT.getD k 0 : Nat)) ∧
    w.cell? ⟨0, k * 6 + 2, none⟩ = some (.int .i64 (shL.getD k 0)) ∧ w.cell? ⟨0, k * 6 + 3, none⟩ = some (.int .i64 0) ∧
    w.cell? ⟨0, k * 6 + 4, none⟩ = some (.int .i64 (shA.getD k 0)) ∧ w.cell? ⟨0, k * 6 + 5, none⟩ = some (.int .i64 (shB.getD k 0))
  big : 7 ≤ w.heap.size
theorem tabIs_below {w w' : World} (h : Lib.TabIs Tryd.prog w "internal/strconv.uint64pow10" .u64 Lib.pow10Tab) (hb : Below w.heap.size w w') (hs : 7 ≤ w.heap.size) : Lib.TabIs Tryd.prog w' "internal/strconv.uint64pow10" .u64 Lib.pow10Tab := by
  unfold Lib.TabIs World.var? at *
  rw [gPow] at *
  simp only [Option.bind_some] at *
  rw [hb.block 2 (by omega)]
  exact h
theorem Tb.below {w w' : World} (h : Tb w) (hb : Below w.heap.size w w') : Tb w' := by
  have hs := h.big
  have c : ∀ b j, b < 7 → w'.cell? ⟨b, j, none⟩ = w.cell? ⟨b, j, none⟩ := fun b j hj => hb.cell (p := ⟨b, j, none⟩) (by show b < _; omega)
  refine ⟨?_, tabIs_below h.p hb hs, fun k hk => ?_, by have := hb.size; omega⟩
  · obtain ⟨m, hm⟩ := h.m
    exact ⟨m, (c _ _ (by decide)).trans hm⟩
  · obtain ⟨h1, h2, h3, h4, h5, h6⟩ := h.sh k hk
    exact ⟨(c _ _ (by decide)).trans h1, (c _ _ (by decide)).trans h2, (c _ _ (by decide)).trans h3, (c _ _ (by decide)).trans h4, (c _ _ (by decide)).trans h5, (c _ _ (by decide)).trans h6⟩

theorem extra : Builder.Extra Tryd.prog layJoin_ren := {
  sizeBuilder := by kernel_rfl
  liesBuilder := by kernel_rfl
  t5 := Tryd.underlying5
  a5 := Tryd.isAgg5
  z5 := Tryd.sizeOf5
  v5 := Tryd.zeroValue5
  infoByte := by kernel_rfl
  cellsByte := by kernel_rfl
  sizeByte := by kernel_rfl
  neB5 := by decide }

section
variable {w : World} {a : Option Addr} {cap : Nat}
theorem split_any (l : List UInt8) (c : UInt8) (w : World) (h : Tb w) (hl : l.length < 4294967281) :
    Calls Tryd.prog 23 #[sV l, .string ⟨#[c]⟩] w fun e w' =>
      e = .returned (.slice (some ⟨w.heap.size, 0, none⟩) (wds c l).length (wds c l).length) ∧ w' = w.alloc (.cells ((wds c l).map sV).toArray 9) := by
  obtain ⟨m, hm⟩ := h.m
  have hs : (⟨l.toArray⟩ : ByteArray).size = l.length := rfl
  have q := Any.strings_Split (P := Tryd.prog) (ρ := laySplit_ren) { laySplit with } laySplit.i9 ⟨l.toArray⟩ ⟨#[c]⟩ m w (by rw [hs]; exact hl) hm (Nat.le_refl 1)
  refine q.mono fun e w' hq => ?_
  have e1 : (Lib.splitB ⟨#[c]⟩ 0 (Lib.countB ⟨l.toArray⟩ ⟨#[c]⟩) ⟨l.toArray⟩).map (·.data.toList) = wds c l := by
    rw [Lib.splitB_data]
    exact split_wds c l
  have e2 : (Lib.splitB ⟨#[c]⟩ 0 (Lib.countB ⟨l.toArray⟩ ⟨#[c]⟩) ⟨l.toArray⟩).map Value.string = (wds c l).map sV := by
    rw [← e1, List.map_map]
    exact List.map_congr_left fun x _ => sV_of x
  have e3 : Lib.countB ⟨l.toArray⟩ ⟨#[c]⟩ + 1 = (wds c l).length := by
    rw [← e1, List.length_map, Lib.splitB_all ⟨#[c]⟩ (Nat.le_refl 1) 0 _ _ rfl]
  rw [e3, e2] at hq
  exact hq
theorem join_any (d : List (List UInt8)) (w : World) (hd : IsG rS w a cap d) (h16 : d.length ≤ 1000) (hj : ([59].intercalate d).length ≤ 100000) :
    Calls Tryd.prog 19 #[.slice a d.length cap, .string ⟨#[59]⟩] w fun e w' => e = .returned (sV ([59].intercalate d)) ∧ Below w.heap.size w w' := by
  by_cases h0 : d = []
  · subst h0
    refine (Any.strings_Join_none (P := Tryd.prog) layJoin extra a cap ⟨#[59]⟩ w).mono fun e w' hq => ?_
    obtain ⟨rfl, rfl⟩ := hq
    exact ⟨rfl, Below.refl _ _⟩
  · obtain ⟨x, hx⟩ : ∃ x, d[0]? = some x := ⟨_, List.getElem?_eq_getElem (List.length_pos_iff.2 h0)⟩
    obtain ⟨b, off, rfl, hb, _⟩ := strAt hd hx
    have dm : (d.map fun l => (⟨l.toArray⟩ : ByteArray)).map (·.data.toList) = d := by
      rw [List.map_map]
      exact (List.map_congr_left (g := id) fun x _ => rfl).trans (List.map_id d)
    have q := Any.strings_Join (P := Tryd.prog) layJoin extra b off cap (d.map fun l => (⟨l.toArray⟩ : ByteArray)) ⟨#[59]⟩ w
      (fun j y hy => by
        rw [List.getElem?_map] at hy
        obtain ⟨z, hz, rfl⟩ := Option.map_eq_some_iff.1 hy
        obtain ⟨b', off', e, _, hc⟩ := strAt hd hz
        cases e
        exact hc) hb (by rw [List.length_map]; omega) (by rw [List.length_map]; exact hd.le)
      (by rw [dm]; unfold Lib.join; exact Nat.le_trans hj (by decide))
    rw [List.length_map, dm] at q
    exact q
theorem itoa_any (n : Int) (w : World) (h : Tb w) (h0 : -9223372036854775808 ≤ n) (h1 : n ≤ 9223372036854775807) :
    Calls Tryd.prog 33 #[.int .i64 n] w fun e w' => e = .returned (sV (itoa n)) ∧ Below w.heap.size w w' := by
  refine (Any.strconv_Itoa (P := Tryd.prog) layItoa n h0 h1 w h.p).mono fun e w' hq => ?_
  obtain ⟨rfl, k, os, rfl⟩ := hq
  exact ⟨rfl, ⟨rfl, rfl, rfl, by simp [grow], fun k hk => heap_grow_old _ _ hk⟩⟩
end
end Go.Proofs.YtoidkiodlfpefaaDoor
