/- table.Count, Set, Make where it may not be: contracts. -/
import Derived.Test.YtpenjncbodcbnaaDoorTbD
import Derived.Test.YtpenjncbodcbnaaDoorTbC
namespace Go.Proofs.YtpenjncbodcbnaaDoor
open Go.RowKit Go.Lib Go.WideMaps Go.Maps
set_option linter.unusedVariables false
variable {w w' u : World} {B a b r M n g cap i O : Nat} {v v' : Value} {T T' : List TR} {x y : TR} {ws ws' : Nat → Int} {fc fc' : Int × Int → Option Value}
/-- Of this state, and an urgency below k. -/
def cntL (s : Int) (k : Nat) (t : TR) : Bool := t.s == s && (decide (0 ≤ t.prio) && decide (t.prio < k))
theorem cntL_up (s : Int) (k : Nat) (T : List TR) : T.countP (cntL s (k + 1)) = T.countP (cntL s k) + T.countP (hasK s k) := by
  induction T with
  | nil => rfl
  | cons t T ih =>
    rw [List.countP_cons, List.countP_cons, List.countP_cons, ih]
    have : (if cntL s (k + 1) t = true then 1 else 0) = (if cntL s k t = true then 1 else 0) + (if hasK s k t = true then (1 : Nat) else 0) := by
      simp only [cntL, hasK, Bool.and_eq_true, beq_iff_eq, decide_eq_true_eq]
      by_cases c1 : t.s = s
      · by_cases c2 : t.prio = k
        · have h1 : 0 ≤ t.prio ∧ t.prio < ((k + 1 : Nat) : Int) := by omega
          have h2 : ¬ (0 ≤ t.prio ∧ t.prio < (k : Int)) := by omega
          rw [if_pos ⟨c1, h1⟩, if_neg (fun e => h2 e.2), if_pos ⟨c1, c2⟩]
        · by_cases c3 : 0 ≤ t.prio ∧ t.prio < (k : Int)
          · have h1 : 0 ≤ t.prio ∧ t.prio < ((k + 1 : Nat) : Int) := by omega
            rw [if_pos ⟨c1, h1⟩, if_pos ⟨c1, c3⟩, if_neg (fun e => c2 e.2)]
          · have h1 : ¬ (0 ≤ t.prio ∧ t.prio < ((k + 1 : Nat) : Int)) := by omega
            rw [if_neg (fun e => h1 e.2), if_neg (fun e => c3 e.2), if_neg (fun e => c2 e.2)]
      · rw [if_neg (fun e => c1 e.1), if_neg (fun e => c1 e.1), if_neg (fun e => c1 e.1)]
    omega
/-- How many tasks have this state. -/
def ofS (s : Int) (t : TR) : Bool := t.s == s
theorem cntL_0 (s : Int) (T : List TR) : T.countP (cntL s 0) = 0 := by
  rw [List.countP_eq_zero]
  intro t _
  simp [cntL]
theorem cntL_8 (s : Int) (T : List TR) (h : ∀ x ∈ T, 0 ≤ x.prio ∧ x.prio ≤ 7) : T.countP (cntL s 8) = T.countP (ofS s) := by
  refine List.countP_congr fun t ht => ?_
  have := h t ht
  simp [cntL, ofS]
  omega
set_option maxHeartbeats 2000000 in
theorem count_any (h : Tab w B a b r M n v T ws fc) (I : TInv T ws fc n) (hn : n ≤ 1000) (s : Int) (hs : wfI s) :
    Calls Tryd.prog 9 #[.pointer (some ⟨B, 0, none⟩), .int .i64 s] w fun e w' => e = .returned (.int .i64 (T.countP (ofS s) : Nat)) ∧ w' = w := by
  have c2 := h.c2
  have lk : Aside (∀ k : Nat, k < 8 → (Instr.lookup 51 (.map (some M)) (.agg #[.int .i64 s, .int .i64 k]) false).run Tryd.prog w = .ok (.int .i64 (T.countP (hasK s k) : Nat)) w) := fun k hk => by
    obtain ⟨N, hN⟩ := h.map
    have := hN.look (t := 51) (e := 3) Tryd.underlying51 (zeroInt w) (x := (s, (k : Int))) ⟨hs, wfI_8 (by omega)⟩
    rw [I.cnt s k] at this
    exact this
  have e8 := cntL_8 s T (fun x hx => (I.ok x hx).1)
  rw [← e8]
  have hTl : T.length ≤ 1000 := by have := I.le; omega
  have HT : Aside (T.length ≤ 1000) := hTl
  clear e8 h I hTl
  go_enter Tryd.func9, Tryd.ntmps9
  go_wp2_with fail
  go_loopw [5, 7] (fun s5 s7 wr => ∃ k A : Nat, k ≤ 8 ∧ s7 = .int .i64 k ∧ s5 = .int .i64 A ∧ Aside (T.countP (cntL s k) = A) ∧ wr = w) (fun s5 s7 _ => 8 - (intOf s7).toNat)
  case atStart => exact ⟨0, 0, by omega, rfl, rfl, cntL_0 s T, rfl⟩
  case round =>
    obtain ⟨k, A, hk, rfl, rfl, hA, rfl⟩ := hrel
    by_cases c : k < 8
    · have hlt : (k : Int) < 8 := by omega
      obtain ⟨C, hC⟩ : ∃ C : Nat, T.countP (hasK s k) = C := ⟨_, rfl⟩
      have l := lk.out k c
      rw [hC] at l
      have hC1 : C ≤ 1000 := by have := cntP_le (hasK s k) T; have := HT.out; omega
      have hA1 : A ≤ 1000 := by have := cntP_le (cntL s k) T; have := HT.out; have := hA.out; omega
      have NX : Aside (T.countP (cntL s (k + 1)) = A + C) := by show T.countP (cntL s (k + 1)) = A + C; rw [cntL_up, hA.out, hC]
      clear hC
      go_wp2_with fail
      go_roundw
      case rel => exact ⟨k + 1, A + C, by omega, by go_num, by go_num, NX.out, by first | rfl | trivial⟩
      case measure => simp [intOf]; omega
    · obtain rfl : k = 8 := by omega
      have hA' := hA.out
      have hnl : ¬ ((8 : Nat) : Int) < 8 := by omega
      go_wp2_with fail
      go_ret
      exact ⟨ret_int (by first | rfl | rw [hA']), by first | rfl | trivial⟩
theorem set_any (h : Tab w B a b r M n (.slice (some ⟨g, 0, none⟩) T.length cap) T ws fc) (I : TInv T ws fc n) (hn : n ≤ 1000) (hi : T[i]? = some x) (due : Int) :
    Calls Tryd.prog 14 #[.pointer (some ⟨B, 0, none⟩), .int .i64 ((i : Int) + 1), .int .u64 due] w fun e w' => e = .returned (.int .i64 0) ∧ Tab w' B a b r M n (.slice (some ⟨g, 0, none⟩) T.length cap) (T.set i { x with due := due }) ws fc ∧ Fr (tf B a b r M (.slice (some ⟨g, 0, none⟩) T.length cap)) w w' := by
  have hlen : i < T.length := (List.getElem?_eq_some_iff.1 hi).1
  obtain ⟨O, hO⟩ : ∃ O, i * 9 = O := ⟨_, rfl⟩
  have hf := find_in h hlen (by have := I.le; omega)
  rw [hO] at hf
  have k1 := (h.tc hi hO).k1
  have fz := (h.tc hi hO).fz (O + 1)
  have FIN : Aside _ := h.setC (y := { x with due := due }) hi (j := 1) (z := .int .u64 due) rfl (by omega) (O := O + 1) (by rw [hO])
  clear h I hi hO
  go_enter Tryd.func14, Tryd.ntmps14
  go_wp2_with fail
  refine hf.mono ?_
  rintro e w1 ⟨rfl, rfl⟩
  clear hf
  go_wp2_with fail
  go_ret
  exact ⟨rfl, by simpa using FIN.out.1, FIN.out.2⟩
theorem make_no (prio f p d rr m s : Int) (w : World) (hs : wfI s) (hm : mayB prio s = false) :
    Calls Tryd.prog 6 #[.pointer (some ⟨B, 0, none⟩), .int .i64 prio, .slice none 0 0, .agg #[.int .u64 f, .int .u64 p, .int .u64 d, .int .u64 rr, .int .u64 m], .int .i64 s] w fun e w' => e = .returned (.tuple #[.int .i64 0, .int .i64 1]) ∧ Below w.heap.size w w' := by
  obtain ⟨u0, hu0⟩ : ∃ x, w.alloc (.cells #[.int .u64 f, .int .u64 p, .int .u64 d, .int .u64 rr, .int .u64 m] 31) = x := ⟨_, rfl⟩
  have B0 : Aside (Below w.heap.size w u0) := by show Below w.heap.size w u0; rw [← hu0]; exact bel1 _ _
  have hb := mayBe_nil prio s u0 hs
  rw [hm] at hb
  have HU0 : Aside _ := hu0
  clear hu0 hm
  go_enter Tryd.func6, Tryd.ntmps6
  go_wp2_with fail
  rw [HU0.out]
  refine hb.mono ?_
  rintro e w1 ⟨rfl, b1⟩
  have FIN : Aside (Below w.heap.size w w1) := Below.tr B0.out b1
  clear hb b1
  go_wp2_with fail
  go_ret2
  exact ⟨rfl, FIN.out⟩
end Go.Proofs.YtpenjncbodcbnaaDoor
