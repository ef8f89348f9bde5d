/- The table of powers that a call finds; the library's Join, Itoa, FormatUint by lists of bytes; a Builder's WriteString and String. -/
import Derived.Test.YtpenojbfeocjaaaDoorHiR
import Derived.Test.YtpenojbfeocjaaaDoorHiShelf
import Derived.Lib.AppendIntMem
import Derived.Shelf.Strings.BuilderK
import Derived.BigGuard
import Derived.CellFam
namespace Go.Proofs.YtpenojbfeocjaaaDoor
open Go.RowKit Go.Lib Go.Shelf Go.Sort
set_option linter.unusedVariables false

theorem gPow : Tryd.prog.globalNamed "internal/strconv.uint64pow10" = some 0 := by kernel_rfl
/-- What the table holds. -/
structure Tb (w : World) : Prop where
  p : Lib.TabIs Tryd.prog w "internal/strconv.uint64pow10" .u64 Lib.pow10Tab
  big : 4 ≤ w.heap.size
theorem Tb.below {w w' : World} (h : Tb w) (hb : Below w.heap.size w w') : Tb w' := by
  have hs := h.big
  refine ⟨?_, by have := hb.size; omega⟩
  have h := h.p
  unfold Lib.TabIs World.var? at *
  rw [gPow] at *
  simp only [Option.bind_some] at *
  rw [hb.block 0 (by omega)]
  exact h
theorem extra : Builder.Extra Tryd.prog layJoin_ren := {
  sizeBuilder := by kernel_rfl
  liesBuilder := by kernel_rfl
  t5 := Tryd.underlying5
  a5 := Tryd.isAgg5
  z5 := Tryd.sizeOf5
  v5 := Tryd.zeroValue5
  infoByte := by kernel_rfl
  cellsByte := by kernel_rfl
  sizeByte := by kernel_rfl
  neB5 := by decide }
section
variable {w : World} {a : Option Addr} {cap : Nat}
theorem join_any (d : List (List UInt8)) (w : World) (hd : IsG rS w a cap d) (h0 : d ≠ []) (h16 : d.length ≤ 1000) (hj : ([32].intercalate d).length ≤ 100000) :
    Calls Tryd.prog 37 #[.slice a d.length cap, .string ⟨#[32]⟩] w fun e w' => e = .returned (sV ([32].intercalate d)) ∧ Below w.heap.size w w' := by
  obtain ⟨x, hx⟩ : ∃ x, d[0]? = some x := ⟨_, List.getElem?_eq_getElem (List.length_pos_iff.2 h0)⟩
  obtain ⟨b, off, rfl, hb, _⟩ := strAt hd hx
  have dm : (d.map fun l => (⟨l.toArray⟩ : ByteArray)).map (·.data.toList) = d := by
    rw [List.map_map]
    exact (List.map_congr_left (g := id) fun x _ => rfl).trans (List.map_id d)
  have q := Any.strings_Join (P := Tryd.prog) layJoin extra b off cap (d.map fun l => (⟨l.toArray⟩ : ByteArray)) ⟨#[32]⟩ w
    (fun j y hy => by
      rw [List.getElem?_map] at hy
      obtain ⟨z, hz, rfl⟩ := Option.map_eq_some_iff.1 hy
      obtain ⟨b', off', e, _, hc⟩ := strAt hd hz
      cases e
      exact hc) hb (by rw [List.length_map]; omega) (by rw [List.length_map]; exact hd.le)
    (by rw [dm]; unfold Lib.join; exact Nat.le_trans hj (by decide))
  rw [List.length_map, dm] at q
  exact q
theorem itoa_any (n : Int) (w : World) (h : Tb w) (h0 : -9223372036854775808 ≤ n) (h1 : n ≤ 9223372036854775807) :
    Calls Tryd.prog 35 #[.int .i64 n] w fun e w' => e = .returned (sV (itoa n)) ∧ Below w.heap.size w w' := by
  refine (Any.strconv_Itoa (P := Tryd.prog) layItoa n h0 h1 w h.p).mono fun e w' hq => ?_
  obtain ⟨rfl, k, os, rfl⟩ := hq
  exact ⟨rfl, ⟨rfl, rfl, rfl, by simp [grow], fun k hk => heap_grow_old _ _ hk⟩⟩
end
set_option maxHeartbeats 6400000 in
set_option maxRecDepth 100000 in
theorem ifmt_any (u : Nat) (hu64 : u < 18446744073709551616) (w : World) (h : Tb w) :
    Calls Tryd.prog 42 #[.int .u64 u, .int .i64 10] w fun e w' => e = .returned (sV (decDigits u)) ∧ Below w.heap.size w w' := by
  have htab := h.p
  have e283 : ∀ args w, (callFunc 46 args).run Tryd.prog w = .ok (.enter 46 args) w := enters_of Tryd.func46 (by kernel_rfl) rfl
  have e284 : ∀ args w, (callFunc 47 args).run Tryd.prog w = .ok (.enter 47 args) w := enters_of Tryd.func47 (by kernel_rfl) rfl
  have e285 : ∀ args w, (callFunc 48 args).run Tryd.prog w = .ok (.enter 48 args) w := enters_of Tryd.func48 (by kernel_rfl) rfl
  by_cases hs : u < 100
  · have hw : IntKind.i64.wrap (u : Int) = (u : Int) := by rw [IntKind.wrap_i64]; omega
    have hlt : (u : Int) < 100 := by omega
    go_enter Tryd.func42, Tryd.ntmps42
    go_wp2_with (go_at_fn 46; refine (Any.internal_strconv_small (P := Tryd.prog) (ρ := layItoa_ren) { layItoa with } u hs _).mono ?_; rintro e w' ⟨rfl, rfl⟩)
    go_ret
    exact ⟨rfl, Below.refl _ _⟩
  · have hu1 : 1 ≤ u := by omega
    have hnd20 : Lib.nDigits u ≤ 20 := by have := Lib.numDigits_eq u hu1 hu64; split at this <;> omega
    have hal : Tryd.prog.arrayLen 87 = 24 := by kernel_rfl
    have hsl : ∀ W, (Instr.sliceAt 87 (.pointer (some ⟨w.heap.size, 0, none⟩)) none (some (.int .i64 (Lib.nDigits u : Int))) none).run Tryd.prog W = .ok (.slice (some ⟨w.heap.size, 0, none⟩) (Lib.nDigits u) 24) W := fun W => by
      rw [run_sliceAt_array_h W 87 ⟨w.heap.size, 0, none⟩ (by kernel_rfl) .i64 (Lib.nDigits u : Int) (by omega) (by rw [hal]; omega)]
      go_simp
    have hH0 := Lib.holds_zero0 w 87 (Lib.nDigits u) (by omega)
    have hfmt := Any.internal_strconv_formatBase10 (P := Tryd.prog) (ρ := layItoa_ren) { layItoa with } w.heap.size 0 24 u (Array.replicate (Lib.nDigits u) 0) (w.alloc (.cells Lib.zeros24 87)) hH0 (by rw [Array.size_replicate]; exact Lib.lt_pow_nDigits u) hu64 (by rw [Array.size_replicate]; omega)
    rw [Array.size_replicate] at hfmt
    have HH0 := Lib.hid hH0
    have hlt : ¬ (u : Int) < 100 := by omega
    clear hH0 hal
    go_enter Tryd.func42, Tryd.ntmps42
    go_wp2_with (first
      | (go_at_fn 47; refine (Any.internal_strconv_numDigits (P := Tryd.prog) (ρ := layItoa_ren) { layItoa with } u hu1 hu64 _ (Lib.tabIs_alloc htab _)).mono ?_; rintro e w' ⟨rfl, rfl⟩))
    go_at_fn 48
    refine hfmt.mono ?_
    rintro e w' ⟨rfl, k, v', dk, rfl, hF⟩
    have hcv : (convert 63 9 (.slice (some ⟨w.heap.size, 0, none⟩) (Lib.nDigits u) 24)).run Tryd.prog ((putRow (fun (b : UInt8) => Value.int .u8 (b.toNat : Int)) (w.alloc (.cells Lib.zeros24 87)) w.heap.size 0 dk).drewN k) = .ok (.string ⟨(Lib.decDigits u).toArray⟩) ((putRow (fun (b : UInt8) => Value.int .u8 (b.toNat : Int)) (w.alloc (.cells Lib.zeros24 87)) w.heap.size 0 dk).drewN k) := by
      have h := run_convert_bytes_back (P := Tryd.prog) ((putRow (fun (b : UInt8) => Value.int .u8 (b.toNat : Int)) (w.alloc (.cells Lib.zeros24 87)) w.heap.size 0 dk).drewN k) 63 9 5 ⟨w.heap.size, 0, none⟩ 24 (Lib.decDigits u) Tryd.underlying63 Tryd.underlying5 Tryd.underlying9 (fun j hj => by
        rw [Lib.row_is_numeral hF j hj, Lib.add_plain, World.cell?_drewN]
        exact cell?_putRow (fun (b : UInt8) => Value.int .u8 (b.toNat : Int)) _ w.heap.size 0 _ dk HH0.out (by rw [hF.size, Array.size_replicate]) j (by rw [hF.size]; rw [Lib.decDigits_length] at hj; exact hj))
      rw [Lib.decDigits_length] at h
      exact h
    go_wp2
    go_ret
    obtain ⟨os, eo⟩ := Lib.fin_at w (.cells Lib.zeros24 87) dk k 0
    refine ⟨rfl, ?_⟩
    rw [eo]
    exact Lib.below_grow _ w (Nat.le_refl _) k os
theorem fmt_any (u : Nat) (hu64 : u < 18446744073709551616) (w : World) (h : Tb w) :
    Calls Tryd.prog 36 #[.int .u64 u, .int .i64 10] w fun e w' => e = .returned (sV (decDigits u)) ∧ Below w.heap.size w w' := by
  go_enter Tryd.func36, Tryd.ntmps36
  go_wp2_with fail
  refine (ifmt_any u hu64 w h).mono ?_
  rintro e w' ⟨rfl, b⟩
  go_wp2_with fail
  go_ret
  exact ⟨rfl, b⟩

/-! ## A Builder -/
abbrev IsB (B b : Nat) (l : List UInt8) (w : World) : Prop := Lib.IsBuilderF 65 5 B b (Lib.byteCells l) w
theorem IsB.fresh (w : World) : IsB w.heap.size w.heap.size [] (w.alloc (.cells #[.pointer none, .slice none 0 0] 65)) := Lib.IsBuilderF.of (Lib.fresh_isBuilder _ _ w)
theorem write_any (B b : Nat) (l : List UInt8) (s : ByteArray) (w : World) (h : IsB B b l w) (hl : l.length + s.data.toList.length ≤ 1000000) (hB : B ≤ w.heap.size) :
    Calls Tryd.prog 29 #[.pointer (some ⟨b, 0, none⟩), .string s] w fun e w' => (∃ v, e = .returned v) ∧ IsB B b (l ++ s.data.toList) w' ∧ Below B w w' := by
  have hs : s.size = s.data.toList.length := rfl
  have q := Any.Builder_WriteString_k (P := Tryd.prog) (ρ := layJoin_ren) { layJoin with } extra B b (Lib.byteCells l) s w h (by rw [Lib.byteCells_length, hs]; omega) hB
  refine q.mono fun e w' hq => ?_
  obtain ⟨rfl, h1, h2, _⟩ := hq
  refine ⟨⟨_, rfl⟩, ?_, h2⟩
  have e1 : Lib.strCells s = Lib.byteCells s.data.toList := Lib.strCells_toArray s.data.toList
  rw [e1] at h1
  have e : Lib.byteCells l ++ Lib.byteCells s.data.toList = Lib.byteCells (l ++ s.data.toList) := by simp [Lib.byteCells]
  rw [e] at h1
  exact .inr h1
theorem stringS (B b : Nat) (l : List UInt8) (w : World) (h : IsB B b l w) (hB : B ≤ w.heap.size) :
    Calls Tryd.prog 31 #[.pointer (some ⟨b, 0, none⟩)] w fun e w' => ∃ s : ByteArray, e = .returned (.string s) ∧ s.data.toList = l ∧ Below B w w' := by
  have q := Any.Builder_String_any_k (P := Tryd.prog) (ρ := layJoin_ren) { layJoin with } extra B b l w h hB
  exact q.mono fun e w' hq => ⟨_, hq.1, rfl, hq.2.2.1⟩
end Go.Proofs.YtpenojbfeocjaaaDoor
