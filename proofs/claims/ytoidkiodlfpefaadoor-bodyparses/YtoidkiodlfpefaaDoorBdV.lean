/- The document's Digits, num, OpText, BodyText. -/
import Derived.Test.YtoidkiodlfpefaaDoorBdF
namespace Go.Proofs.YtoidkiodlfpefaaDoor
open Go.RowKit Go.Lib Go.Shelf Go.Sort
set_option linter.unusedVariables false
set_option maxRecDepth 10000

theorem dec_step {n : Nat} (h : 9 < n) : decDigits n = decDigits (n / 10) ++ [UInt8.ofNat (48 + n % 10)] := by rw [decDigits, dif_neg (by omega)]
theorem dec_last {n : Nat} (h : n < 10) : decDigits n = [UInt8.ofNat (48 + n)] := by rw [decDigits, dif_pos h]
theorem dig_at {k : Nat} (h : k < 10) : ((⟨#[48, 49, 50, 51, 52, 53, 54, 55, 56, 57]⟩ : ByteArray).extract k (k + 1)).data.toList = [UInt8.ofNat (48 + k)] := by
  have : k = 0 ∨ k = 1 ∨ k = 2 ∨ k = 3 ∨ k = 4 ∨ k = 5 ∨ k = 6 ∨ k = 7 ∨ k = 8 ∨ k = 9 := by omega
  rcases this with rfl | rfl | rfl | rfl | rfl | rfl | rfl | rfl | rfl | rfl <;> rfl
/-- One byte of a string, as a string. -/
theorem sub_str (s : ByteArray) (k : Nat) (hk : k + 1 ≤ s.size) (w : World) : (Instr.slice 9 (.string s) (some (.int .i64 (k : Int))) (some (.int .i64 ((k : Int) + 1))) none).run Tryd.prog w = .ok (.string (s.extract k (k + 1))) w := by
  have h1 : (k : Int) ≤ ((k + 1 : Nat) : Int) := by omega
  have h2 : ((k : Int) + 1) ≤ (s.size : Int) := by omega
  have h3 : ((k : Int) + 1).toNat = k + 1 := by omega
  have h4 : (0 : Int) ≤ (k : Int) + 1 := by omega
  have h5 := run_sliceBound (P := Tryd.prog) w .i64 (k : Int) (k + 1) .sliceB (by omega) h1
  rw [Int.toNat_natCast] at h5
  simp [Instr.slice, run_underlying Tryd.underlying9, Instr.sliceBounds, run_sliceBound, h2, h3, h4, h5]
set_option maxHeartbeats 1600000 in
set_option maxRecDepth 100000 in
theorem digits_any (n : Nat) (hn : n ≤ 1000000) (w : World) : Calls Tryd.prog 47 #[.int .u64 (n : Int)] w fun e w' => ∃ s : ByteArray, e = .returned (.string s) ∧ s.data.toList = decDigits n ∧ w' = w := by
  go_enter Tryd.func47, Tryd.ntmps47
  go_wp2
  go_loopg [0, 3] n (fun kx s0 s3 wr => ∃ (m : Nat) (S : ByteArray), s0 = .int .u64 (m : Int) ∧ s3 = .string S ∧ m ≤ kx ∧ m ≤ n ∧ Aside (decDigits n = decDigits m ++ S.data.toList) ∧ S.size + m ≤ 1000000 ∧ wr = w)
  case atStart => exact ⟨n, _, rfl, rfl, Nat.le_refl _, Nat.le_refl _, (by simp : decDigits n = decDigits n ++ (⟨#[]⟩ : ByteArray).data.toList), by show 0 + n ≤ _; omega, rfl⟩
  case round =>
    obtain ⟨m, S, rfl, rfl, hkx, hm, A, hS, rfl⟩ := hrel
    by_cases h9 : 9 < m
    · have h9' : (m : Int) > 9 := by omega
      obtain ⟨k, hk⟩ : ∃ k, m % 10 = k := ⟨_, rfl⟩
      have hk9 : k < 10 := by omega
      have hk1 : (m : Int) % 10 = (k : Int) := by omega
      have sb := sub_str ⟨#[48, 49, 50, 51, 52, 53, 54, 55, 56, 57]⟩ k (by show k + 1 ≤ 10; omega) wr
      obtain ⟨D, hD⟩ : ∃ D, (⟨#[48, 49, 50, 51, 52, 53, 54, 55, 56, 57]⟩ : ByteArray).extract k (k + 1) = D := ⟨_, rfl⟩
      have hd := dig_at hk9
      rw [hD] at sb hd
      have hds : D.size = 1 := by rw [size_eq, hd]; rfl
      have HD : Hid _ := hd
      have A2 : Aside (decDigits n = decDigits (m / 10) ++ (D ++ S).data.toList) := by
        show decDigits n = decDigits (m / 10) ++ (D ++ S).data.toList
        rw [A.out, dec_step h9, hk, List.append_assoc]
        congr 1
        simp [HD.out]
      have q1 : ¬ 9223372036854775807 < 1 + S.size := by omega
      have q2 : (D ++ S).size = 1 + S.size := by simp [hds]
      have q3 : (m : Int) / 10 = ((m / 10 : Nat) : Int) := by omega
      have HQ2 : Hid _ := q2
      have HQ3 : Hid _ := q3
      clear hd hD A q2 q3
      go_wp2
      go_roundg (m / 10)
      case measure => omega
      case rel => exact ⟨m / 10, D ++ S, by rw [← HQ3.out], rfl, Nat.le_refl _, by omega, A2, by rw [HQ2.out]; omega, rfl⟩
    · have h9' : ¬ (m : Int) > 9 := by omega
      have sb := sub_str ⟨#[48, 49, 50, 51, 52, 53, 54, 55, 56, 57]⟩ m (by show m + 1 ≤ 10; omega) wr
      obtain ⟨D, hD⟩ : ∃ D, (⟨#[48, 49, 50, 51, 52, 53, 54, 55, 56, 57]⟩ : ByteArray).extract m (m + 1) = D := ⟨_, rfl⟩
      have hd := dig_at (show m < 10 by omega)
      rw [hD] at sb hd
      have hds : D.size = 1 := by rw [size_eq, hd]; rfl
      have q1 : ¬ 9223372036854775807 < 1 + S.size := by omega
      have A2 : Aside ((D ++ S).data.toList = decDigits n) := by
        show (D ++ S).data.toList = decDigits n
        rw [A.out, dec_last (show m < 10 by omega)]
        simp [hd]
      clear hd hD A
      go_wp2
      go_ret
      exact ⟨_, rfl, A2.out, rfl⟩
theorem num_any (n : Int) (h0 : 0 ≤ n) (h1 : n ≤ 1000000) (w : World) : Calls Tryd.prog 39 #[.int .i64 n] w fun e w' => ∃ s : ByteArray, e = .returned (.string s) ∧ s.data.toList = itoa n ∧ w' = w := by
  obtain ⟨m, rfl⟩ : ∃ m : Nat, n = (m : Int) := ⟨n.toNat, by omega⟩
  have q := digits_any m (by omega) w
  rw [itoa_nat h0, Int.toNat_natCast]
  have h2 : ¬ (m : Int) < 0 := by omega
  go_enter Tryd.func39, Tryd.ntmps39
  go_wp2_with fail
  refine q.mono ?_
  rintro r w1 ⟨s, rfl, hs, rfl⟩
  go_wp2
  go_ret
  exact ⟨s, rfl, hs, rfl⟩

theorem numS (n : Int) (h0 : 0 ≤ n) (h1 : n ≤ 1000000) : ∃ X : ByteArray, X.data.toList = itoa n ∧ X.size ≤ 7 ∧ ∀ w, Calls Tryd.prog 39 #[.int .i64 n] w fun e w' => e = .returned (.string X) ∧ w' = w := by
  refine ⟨⟨(itoa n).toArray⟩, rfl, ?_, fun w => (num_any n h0 h1 w).mono fun e w' hq => ?_⟩
  · rw [size_eq]
    show (itoa n).length ≤ 7
    rw [itoa_nat h0]
    exact dec_len 6 _ (by omega)
  · obtain ⟨s, he, hs, hw⟩ := hq
    exact ⟨by rw [he, bytes_eq hs]; rfl, hw⟩
set_option maxHeartbeats 1600000 in
set_option maxRecDepth 100000 in
theorem opText_any (k a b : Int) (w : World) (hok : okO (k, a, b) = true) : Calls Tryd.prog 28 #[.agg #[.int .i64 k, .int .i64 a, .int .i64 b]] w fun e w' => ∃ s : ByteArray, e = .returned (.string s) ∧ s.data.toList = txtO (k, a, b) ∧ Below w.heap.size w w' := by
  have hk : kindB k = true := okO_kind hok
  obtain ⟨a0, a1, b0, b1⟩ := okO_nums hok
  obtain ⟨NA, na1, na2, na⟩ := numS a a0 (by simp only at a1; omega)
  obtain ⟨NB, nb1, nb2, nb⟩ := numS b b0 b1
  have qa : ¬ 9223372036854775807 < 7 + NA.size := by omega
  have qb : ¬ 9223372036854775807 < 6 + NA.size := by omega
  have qc : ¬ 9223372036854775807 < 6 + NA.size + 1 := by omega
  have qd : ¬ 9223372036854775807 < 6 + NA.size + 1 + NB.size := by omega
  have HA : Hid _ := na1
  have HB : Hid _ := nb1
  clear na1 nb1 na2 nb2 hok a0 a1 b0 b1
  rcases kindB_cases hk with rfl | rfl | rfl | rfl | rfl
  · go_enter Tryd.func28, Tryd.ntmps28
    go_wp2
    go_ret
    exact ⟨_, rfl, rfl, bel1 _ _⟩
  · go_enter Tryd.func28, Tryd.ntmps28
    go_wp2_with fail
    refine (na _).mono ?_
    rintro r w1 ⟨rfl, rfl⟩
    go_wp2
    go_ret
    refine ⟨_, rfl, ?_, bel1 _ _⟩
    simp [HA.out, txtO, wdK, shW, toK, shT]
  · go_enter Tryd.func28, Tryd.ntmps28
    go_upto_region 7 with fail
    obtain ⟨u1, hu1⟩ : ∃ u, w.alloc (.cells #[.int .i64 3, .int .i64 a, .int .i64 b] 23) = u := ⟨_, rfl⟩
    have bu1 : Below w.heap.size w u1 := by rw [← hu1]; exact bel1 _ _
    have d1 : u1.cell? ⟨w.heap.size, 1, none⟩ = some (.int .i64 a) := by rw [← hu1, cell_fresh]; rfl
    have d2 : u1.cell? ⟨w.heap.size, 2, none⟩ = some (.int .i64 b) := by rw [← hu1, cell_fresh]; rfl
    rw [hu1]
    clear hu1
    go_region_held3 (fun W => W.cell? ⟨w.heap.size, 1, none⟩ = some (.int .i64 a) ∧ W.cell? ⟨w.heap.size, 2, none⟩ = some (.int .i64 b)) (exact ⟨d1, d2⟩) ((go_at_call 39; first | (with_reducible refine Calls.mono (na _) ?_; rintro r w1 ⟨rfl, rfl⟩) | (with_reducible refine Calls.mono (nb _) ?_; rintro r w1 ⟨rfl, rfl⟩)))
    go_wp2
    go_ret
    refine ⟨_, rfl, ?_, Below.drew bu1⟩
    simp [HA.out, HB.out, txtO, wdK, shW, toK, shT]
  · go_enter Tryd.func28, Tryd.ntmps28
    go_wp2_with fail
    refine (na _).mono ?_
    rintro r w1 ⟨rfl, rfl⟩
    go_wp2
    go_ret
    refine ⟨_, rfl, ?_, bel1 _ _⟩
    simp [HA.out, txtO, wdK, shW, toK, shT]
  · go_enter Tryd.func28, Tryd.ntmps28
    go_wp2
    go_ret
    exact ⟨_, rfl, rfl, bel1 _ _⟩

/-- The texts of the first so many, a mark between. -/
def tjL (d : List OpR) (I : Nat) : List UInt8 := [59].intercalate ((d.take I).map txtO)
theorem tj_0 (d : List OpR) : tjL d 0 = [] := rfl
theorem inter_snoc (c : UInt8) : ∀ (xs : List (List UInt8)) (x : List UInt8), xs ≠ [] → [c].intercalate (xs ++ [x]) = [c].intercalate xs ++ c :: x
  | [], _, h => absurd rfl h
  | [y], x, _ => by simp [List.intercalate]
  | y :: z :: r, x, _ => by
    have ih := inter_snoc c (z :: r) x (by simp)
    rw [show y :: z :: r ++ [x] = y :: (z :: r ++ [x]) from rfl]
    rw [show [c].intercalate (y :: (z :: r ++ [x])) = y ++ c :: [c].intercalate (z :: r ++ [x]) by simp [List.intercalate], ih,
      show [c].intercalate (y :: z :: r) = y ++ c :: [c].intercalate (z :: r) by simp [List.intercalate]]
    simp
theorem tj_first (d : List OpR) (h : 0 < d.length) : tjL d 1 = txtO d[0] := by
  unfold tjL
  rw [List.take_succ_eq_append_getElem h]
  simp [List.intercalate]
theorem tj_next (d : List OpR) (I : Nat) (h0 : 0 < I) (h : I < d.length) : tjL d (I + 1) = tjL d I ++ 59 :: txtO d[I] := by
  unfold tjL
  rw [List.take_succ_eq_append_getElem h, List.map_append, List.map_singleton, inter_snoc]
  intro e
  have := congrArg List.length e
  rw [List.length_map, List.length_take, List.length_nil] at this
  omega
theorem tj_len {d : List OpR} (h : okL d = true) (I : Nat) : (tjL d I).length ≤ 368 := by
  obtain ⟨h1, h2⟩ := okL_all h
  have := inter_len 59 ((d.take I).map txtO) 22 (fun x hx => by
      obtain ⟨o, ho, rfl⟩ := List.mem_map.1 hx
      exact txtO_len (h2 o (List.mem_of_mem_take ho)))
  rw [List.length_map, List.length_take] at this
  unfold tjL
  omega
/-- What BodyText answers. -/
def BTextIs (w : World) (d : List OpR) (e : Ending) (w' : World) : Prop :=
  (∃ s : ByteArray, e = .returned (.tuple #[.string s, .bool (okL d)]) ∧ s.data.toList = if okL d then txtL d else []) ∧ Below w.heap.size w w'
set_option maxHeartbeats 1600000 in
set_option maxRecDepth 100000 in
theorem bodyText_any (a : Option Addr) (cap : Nat) (d : List OpR) (w : World) (h : IsG rO w a cap d) :
    Calls Tryd.prog 14 #[.slice a d.length cap] w (BTextIs w d) := by
  have hl := h.len
  have q := bodyOk_any a cap d w h
  unfold BTextIs
  cases hok : okL d with
  | false =>
    rw [hok] at q
    go_enter Tryd.func14, Tryd.ntmps14
    go_wp2_with fail
    refine q.mono ?_
    rintro r w1 ⟨rfl, hb⟩
    go_wp2
    go_ret2
    exact ⟨⟨_, rfl, rfl⟩, hb⟩
  | true =>
    rw [hok] at q
    by_cases h0 : d = []
    · subst h0
      go_enter Tryd.func14, Tryd.ntmps14
      go_wp2_with fail
      refine q.mono ?_
      rintro r w1 ⟨rfl, hb⟩
      go_wp2
      go_ret2
      exact ⟨⟨_, rfl, rfl⟩, hb⟩
    · have hz0 : ¬ (d.length : Int) = 0 := by have := List.length_pos_iff.2 h0; omega
      have hz0' : ((d.length : Int) == 0) = false := by simpa using h0
      obtain ⟨h16, hall⟩ := okL_all hok
      go_enter Tryd.func14, Tryd.ntmps14
      go_wp2_with fail
      refine q.mono ?_
      rintro r w1 ⟨rfl, hb⟩
      have I1 : Aside (IsG rO w1 a cap d) := h.below hb
      have B1 : Aside (Below w.heap.size w w1) := hb
      have HA : Aside (∀ o ∈ d, okO o = true) := hall
      have HL : Aside (∀ I, (tjL d I).length ≤ 368) := fun I => tj_len hok I
      clear hb h q hall hok
      go_wp2_with fail
      go_loopg [4, 5] d.length (fun kx s4 s5 wr => ∃ (I : Nat) (S : ByteArray), s4 = .string S ∧ s5 = .int .i64 I ∧ I ≤ d.length ∧ d.length - I ≤ kx ∧ Aside (S.data.toList = tjL d I) ∧ Aside (Below w1.heap.size w1 wr))
      case atStart => exact ⟨0, _, rfl, rfl, by omega, by omega, (rfl : (⟨#[]⟩ : ByteArray).data.toList = tjL d 0), Below.refl _ _⟩
      case round =>
        obtain ⟨I, S, rfl, rfl, hI, hkx, A, G⟩ := hrel
        by_cases hlt : I < d.length
        · have hz : (I : Int) < (d.length : Int) := by omega
          obtain ⟨x, hx⟩ : ∃ x, d[I] = x := ⟨_, rfl⟩
          obtain ⟨b, off, ha, hb, c0, c1, c2⟩ := opAt (I1.out.below G.out) (i := I) (x := x) (by rw [List.getElem?_eq_getElem hlt, hx])
          subst ha
          have HX : Hid _ := hx
          have okx : okO x = true := HA.out x (by rw [← hx]; exact List.getElem_mem hlt)
          have q := opText_any x.1 x.2.1 x.2.2 wr okx
          have hS : S.size ≤ 368 := by rw [size_eq, A.out]; exact HL.out I
          clear hx
          by_cases hI0 : I = 0
          · subst hI0
            have hS0 : S.data.toList = [] := A.out
            simp only [Nat.zero_mul, Nat.add_zero] at c0 c1 c2
            have hS0' : S.size = 0 := by rw [size_eq, hS0]; rfl
            go_wp2_with fail
            refine q.mono ?_
            rintro r w5 ⟨s, rfl, hs, b5⟩
            have z1 : s.size ≤ 22 := by rw [size_eq, hs]; exact txtO_len okx
            have z2 : ¬ 9223372036854775807 < S.size + s.size := by omega
            have z3 : ¬ 9223372036854775807 < s.size := by omega
            have z4 : ¬ 9223372036854775807 < 0 + s.size := by omega
            have G2 : Aside (Below w1.heap.size w1 w5) := Below.tr G.out b5
            have A2 : Aside ((S ++ s).data.toList = tjL d (0 + 1)) := by
              show (S ++ s).data.toList = tjL d (0 + 1)
              rw [tj_first d hlt, HX.out]
              simp [hS0, hs]
            clear hs q G b5 c0 c1 c2 A hS0
            go_wp2_with fail
            go_roundg (d.length - (0 + 1))
            case measure => omega
            case rel => exact ⟨0 + 1, _, rfl, by go_num, by omega, Nat.le_refl _, A2, G2⟩
          · have hI1 : (I : Int) > 0 := by omega
            have z0 : ¬ 9223372036854775807 < S.size + 1 := by omega
            go_wp2_with fail
            refine q.mono ?_
            rintro r w5 ⟨s, rfl, hs, b5⟩
            have z1 : s.size ≤ 22 := by rw [size_eq, hs]; exact txtO_len okx
            have z2 : ¬ 9223372036854775807 < S.size + 1 + s.size := by omega
            have G2 : Aside (Below w1.heap.size w1 w5) := Below.tr G.out b5
            have A2 : Aside ((S ++ ⟨#[59]⟩ ++ s).data.toList = tjL d (I + 1)) := by
              show (S ++ ⟨#[59]⟩ ++ s).data.toList = tjL d (I + 1)
              rw [tj_next d I (by omega) hlt, HX.out, ← A.out]
              simp [hs]
            clear hs q G b5 c0 c1 c2 A
            go_wp2_with fail
            go_roundg (d.length - (I + 1))
            case measure => omega
            case rel => exact ⟨I + 1, _, rfl, by go_num, by omega, Nat.le_refl _, A2, G2⟩
        · have hz : ¬ (I : Int) < (d.length : Int) := by omega
          have e0 : I = d.length := by omega
          subst e0
          have E : Aside (S.data.toList = txtL d) := by
            show S.data.toList = txtL d
            rw [A.out]
            unfold tjL txtL
            rw [List.take_length, if_neg h0]
          go_wp2
          go_ret2
          exact ⟨⟨_, rfl, E.out⟩, Below.tr B1.out G.out⟩

end Go.Proofs.YtoidkiodlfpefaaDoor
