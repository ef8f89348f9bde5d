/- slices.Grow from nothing, slices.Concat at entries. -/
import Derived.Test.YtboccihcomaaoaaEntC
import Derived.Test.YtboccihcomaaoaaEntR
namespace Go.Proofs.Ytboccihcomaaoaa
open Go.RowKit Go.Lib Go.Sort
set_option linter.unusedVariables false

/-- A slice with room, made by Grow. -/
theorem zeros_run (w : World) (n : Nat) (h0 : 0 < n) (hn : n ≤ 1000000) :
    ∃ w' cap, (Builtin.append_ #[32, 3] 32 #[.slice none 0 0, .int .i64 n]).run Try.prog w = .ok (.slice (some ⟨w.heap.size, 0, none⟩) n cap) w' ∧ n ≤ cap ∧ OwnE w' w.heap.size (.slice (some ⟨w.heap.size, 0, none⟩) 0 cap) [] ∧ Below w.heap.size w w' := by
  obtain ⟨i, hi, hz, hs, hby⟩ := infoE
  have hr := Lib.run_append_nil_zeros (P := Try.prog) w 32 3 32 37 i _ .i64 .i64 Try.underlying32 Try.underlying3 hi hz n h0 (by omega) (by omega) (by rw [hby]; omega)
  have h1 := grownCap_ge w n 0 37
  have h2 := grownCap_le_maxLen w n 0 37 (by unfold maxLen; omega)
  refine ⟨_, _, hr, h1, ?_, ?_⟩
  · refine OwnE.made w.drew _ _ (Nat.le_refl _) h2 ?_
    rw [Array.size_append, size_zeroCells, size_zeroCells]
    simp only [Value.cells]
    show n * 2 + (grownCap w n 0 37 - n) * 2 = grownCap w n 0 37 * 2
    omega
  · exact ((Below.refl _ w).drew).alloc (Nat.le_refl _) _

set_option maxHeartbeats 400000 in
set_option maxRecDepth 100000 in
theorem grow_any (n : Nat) (w : World) (hn : n ≤ 1000000) :
    Calls Try.prog 76 #[.slice none 0 0, .int .i64 n] w (Made w []) := by
  by_cases h0 : n = 0
  · subst h0
    go_enter Try.func76, Try.ntmps76
    go_wp2
    go_ret
    exact ⟨none, 0, rfl, OwnE.nil _ _, Below.refl _ _⟩
  · obtain ⟨w', cap, hr, hc, o, b⟩ := zeros_run w n (by omega) hn
    have O : Aside (OwnE w' w.heap.size (.slice (some ⟨w.heap.size, 0, none⟩) 0 cap) []) := o
    have B : Aside (Below w.heap.size w w') := b
    have hz : (0 : Int) < (n : Int) := by omega
    clear o b
    go_enter Try.func76, Try.ntmps76
    go_wp2_with (at_builtin; refine Lib.wpList_append_run w rfl _ _ 32 3 rfl _ _ rfl rfl _ w' hr ?_)
    go_ret
    exact ⟨some ⟨w.heap.size, 0, none⟩, cap, rfl, O.out, B.out⟩

theorem flat_take {ls : List (List Ent)} {k : Nat} (h : k < ls.length) : (ls.take (k + 1)).flatten = (ls.take k).flatten ++ ls[k] := by
  rw [List.take_succ_eq_append_getElem h, List.flatten_append]
  simp
theorem flat_take_le (ls : List (List Ent)) (k : Nat) : (ls.take k).flatten.length ≤ ls.flatten.length := by
  conv => rhs; rw [← List.take_append_drop k ls, List.flatten_append, List.length_append]
  omega

set_option maxHeartbeats 4000000 in
set_option maxRecDepth 100000 in
theorem concat_any (a : Option Addr) (cap : Nat) (ls : List (List Ent)) (w : World) (h : IsLL w a ls) (hd : ls.flatten.length ≤ 1000000) :
    Calls Try.prog 68 #[.slice a ls.length cap] w (Made w ls.flatten) := by
  have hl := h.len
  have H : Aside (IsLL w a ls) := h
  clear h
  go_enter Try.func68, Try.ntmps68
  go_wp2
  go_loop [3, 11] (fun s3 s11 => ∃ k m : Nat, s11 = .int .i64 k ∧ s3 = .int .i64 m ∧ Hid ((ls.take k).flatten.length = m) ∧ k ≤ ls.length ∧ m ≤ 1000000) (fun _ s11 => ls.length - (intOf s11).toNat)
  case atStart => exact ⟨0, 0, rfl, rfl, rfl, by omega, by omega⟩
  case round =>
    obtain ⟨k, m, rfl, rfl, HM, hk, hm⟩ := hrel
    by_cases hlt : k < ls.length
    · have hz : (k : Int) < (ls.length : Int) := by omega
      obtain ⟨b, off, p, q, rfl, hb, cc, L⟩ := H.out.elem k ls[k] (List.getElem?_eq_getElem hlt)
      have e1 := flat_take hlt
      have e2 := flat_take_le ls (k + 1)
      obtain ⟨d, hdk⟩ : ∃ d, ls[k] = d := ⟨_, rfl⟩
      rw [hdk] at e1 cc L
      have e3 : m + d.length ≤ 1000000 := by rw [e1, List.length_append, HM.out] at e2; omega
      have E1 : Hid ((ls.take (k + 1)).flatten.length = m + d.length) := by show _ = _; rw [e1, List.length_append, HM.out]
      clear e1 e2 L hdk
      have hneg : ¬ (m : Int) + (d.length : Int) < 0 := by omega
      go_wp2
      go_round
      case rel => exact ⟨k + 1, m + d.length, by go_num, by go_num, E1, by omega, e3⟩
      case measure => simp [intOf]; omega
    · have hz : ¬ (k : Int) < (ls.length : Int) := by omega
      have hm2 : Hid (ls.flatten.length = m) := by show _ = _; rw [← HM.out, List.take_of_length_le (by omega)]
      go_wp2_with fail
      refine (grow_any m w hm).mono ?_
      rintro e w1 ⟨r1, t1, rfl, o1, b1⟩
      have O1 : Aside (OwnE w1 w.heap.size (.slice r1 0 t1) []) := o1
      have B1 : Aside (Below w.heap.size w w1) := b1
      clear o1 b1
      simp only [List.length_nil]
      go_wp2_with fail
      go_loopg [6, 27] ls.length (fun kx s6 s27 wr => ∃ (k n : Nat) (r : Option Addr) (t : Nat), s27 = .int .i64 k ∧ s6 = .slice r n t ∧ Hid ((ls.take k).flatten.length = n) ∧ k ≤ ls.length ∧ ls.length - k ≤ kx ∧ Aside (OwnE wr w.heap.size (.slice r n t) (ls.take k).flatten) ∧ Aside (Below w.heap.size w wr))
      case atStart => exact ⟨0, 0, r1, t1, rfl, rfl, rfl, by omega, by omega, O1, B1⟩
      case round =>
        obtain ⟨k, n, r, t, rfl, rfl, HN, hk, hkx, O, B⟩ := hrel
        clear O1 B1
        by_cases hlt : k < ls.length
        · have hz : (k : Int) < (ls.length : Int) := by omega
          obtain ⟨b, off, p, q, rfl, hb, cc, L⟩ := (H.out.below B.out).elem k ls[k] (List.getElem?_eq_getElem hlt)
          have e1 := flat_take hlt
          have e2 := flat_take_le ls (k + 1)
          obtain ⟨d, hdk⟩ : ∃ d, ls[k] = d := ⟨_, rfl⟩
          rw [hdk] at e1 cc L
          have e3 : (ls.take k).flatten.length + d.length ≤ 1000000 := by rw [e1, List.length_append] at e2; omega
          obtain ⟨v2, w2, hr, o2, g2⟩ := app_run (d := (ls.take k).flatten) (c := d) O.out L e3 B.out.size 32
          obtain ⟨r2, t2, rfl, _⟩ := o2.isL
          have B2 : Aside (Below w.heap.size w w2) := OwnE.grown O.out B.out g2 B.out.size
          rw [← e1] at o2 hr
          obtain ⟨n2, hn2⟩ : ∃ n2, (ls.take (k + 1)).flatten.length = n2 := ⟨_, rfl⟩
          rw [hn2] at hr
          have O2 : Aside (OwnE w2 w.heap.size (.slice r2 n2 t2) (ls.take (k + 1)).flatten) := by rw [← hn2]; exact o2
          have HN2 : Hid _ := hn2
          clear o2 g2 e1 e2 e3 hdk hn2 L O B
          go_wp2_with (at_builtin; refine Lib.wpList_append_run wr rfl _ _ 32 32 rfl _ _ rfl rfl _ w2 hr ?_)
          go_roundg (ls.length - (k + 1))
          case measure => omega
          case rel => exact ⟨k + 1, n2, r2, t2, by go_num, rfl, HN2, by omega, Nat.le_refl _, O2, B2⟩
        · have hz : ¬ (k : Int) < (ls.length : Int) := by omega
          have e : (ls.take k).flatten = ls.flatten := by rw [List.take_of_length_le (by omega)]
          rw [e] at HN O
          go_wp2
          go_ret
          have o := O.out
          have hn := HN.out
          rw [← hn] at o
          exact ⟨r, t, by rw [hn]; rfl, o, B.out⟩
end Go.Proofs.Ytboccihcomaaoaa
