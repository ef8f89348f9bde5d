/- dag.mayWait, Add. -/
import Derived.Test.YthpdnlokjhafeaaDgF
namespace Go.Proofs.Ythpdnlokjhafeaa
open Go.RowKit Go.Lib Go.WideMaps Go.Maps
set_option linter.unusedVariables false
variable {w w' u v : World} {X X' Y Z : Nat → Prop} {B N N' cap : Nat} {E E' : Rel} {p i id : Int} {a : Option Addr} {d : List Int}
/-- Whether id may wait for all these. -/
def mayB (id : Int) (d : List Int) : Bool := decide (1 ≤ id) && d.all fun p => decide (1 ≤ p) && decide (p < id)
theorem mayB_iff (id : Int) (d : List Int) : mayB id d = true ↔ 1 ≤ id ∧ ∀ p ∈ d, 1 ≤ p ∧ p < id := by simp [mayB]
theorem mem_getD {d : List Int} {x : Int} (h : x ∈ d) : ∃ j, j < d.length ∧ d.getD j 0 = x := by
  obtain ⟨j, hj, e⟩ := List.getElem_of_mem h
  exact ⟨j, hj, by rw [List.getD, List.getElem?_eq_getElem hj]; exact e⟩
set_option maxHeartbeats 2000000 in
theorem mayWait_any (h : IsI w a cap d) : Calls Try.prog 23 #[.int .i64 id, .slice a d.length cap] w fun e w' => e = .returned (.bool (mayB id d)) ∧ w' = w := by
  have hl := h.len
  have mb := mayB_iff id d
  obtain ⟨b, hb⟩ : ∃ b, mayB id d = b := ⟨_, rfl⟩
  rw [hb] at mb ⊢
  obtain ⟨n, hn⟩ : ∃ n, d.length = n := ⟨_, rfl⟩
  rw [hn] at hl ⊢
  have H : Aside (IsI w a cap d) := h
  have MB : Aside (b = true ↔ 1 ≤ id ∧ ∀ p ∈ d, 1 ≤ p ∧ p < id) := mb
  clear h mb hb
  by_cases c0 : id < 1
  · obtain rfl : b = false := by
      cases b with
      | false => rfl
      | true => have := (MB.out.1 rfl).1; omega
    go_enter Try.func23, Try.ntmps23
    go_wp2_with fail
    go_ret
    exact ⟨rfl, rfl⟩
  · go_enter Try.func23, Try.ntmps23
    go_wp2_with fail
    go_loopw [11] (fun s11 wr => wr = w ∧ ∃ I : Nat, I ≤ n ∧ s11 = .int .i64 I ∧ ∀ j, j < I → 1 ≤ d.getD j 0 ∧ d.getD j 0 < id) (fun i _ => n - (intOf i).toNat)
    case atStart => exact ⟨rfl, 0, by omega, rfl, fun j hj => by omega⟩
    case round =>
      obtain ⟨rfl, I, hI, rfl, hall⟩ := hrel
      by_cases c : I < n
      · obtain ⟨g, off, rfl, _, hc⟩ := H.out.at (j := I) (by omega)
        have HI : Aside (∀ j, j < I → 1 ≤ d.getD j 0 ∧ d.getD j 0 < id) := hall
        obtain ⟨x, hx⟩ : ∃ x, d.getD I 0 = x := ⟨_, rfl⟩
        rw [hx] at hc
        have HX : Hid _ := hx
        clear hall hx
        by_cases c1 : x < 1
        · obtain rfl : b = false := by
            cases b with
            | false => rfl
            | true => have := ((MB.out.1 rfl).2 x (by rw [← HX.out]; exact getD_mem (by omega))).1; omega
          go_wp2_with fail
          go_ret
          exact ⟨rfl, rfl⟩
        · by_cases c2 : id ≤ x
          · obtain rfl : b = false := by
              cases b with
              | false => rfl
              | true => have := ((MB.out.1 rfl).2 x (by rw [← HX.out]; exact getD_mem (by omega))).2; omega
            go_wp2_with fail
            go_ret
            exact ⟨rfl, rfl⟩
          · go_wp2_with fail
            go_roundw
            case rel =>
              refine ⟨by trivial, I + 1, by omega, by go_num, fun j hj => ?_⟩
              by_cases e : j = I
              · subst e; rw [HX.out]; omega
              · exact HI.out j (by omega)
            case measure => simp [intOf]; omega
      · obtain rfl : I = n := by omega
        obtain rfl : b = true := MB.out.2 ⟨by omega, fun p hp => by
          obtain ⟨j, hj, rfl⟩ := mem_getD hp
          exact hall j (by omega)⟩
        go_wp2_with fail
        go_ret
        exact ⟨rfl, rfl⟩
set_option maxHeartbeats 2000000 in
theorem add_arg (h : IsI w a cap d) (hb : mayB id d = false) : Calls Try.prog 9 #[.pointer (some ⟨B, 0, none⟩), .int .i64 id, .slice a d.length cap] w fun e w' => e = .returned (.tuple #[.int .i64 0, .int .i64 1]) ∧ w' = w := by
  have hm := mayWait_any h (id := id)
  rw [hb] at hm
  go_enter Try.func9, Try.ntmps9
  go_wp2_with fail
  refine hm.mono ?_
  rintro e w1 ⟨rfl, rfl⟩
  clear hm
  go_wp2_with fail
  exact bodyPost_ret (v := .tuple #[.int .i64 0, .int .i64 1]) (by simp [results, Try.results9, go_sem]) rfl ⟨rfl, rfl⟩
set_option maxHeartbeats 2000000 in
theorem add_exists (D : Dg w X B E N) (hN : N ≤ 1000000) (hi : wfI id) (h : IsI w a cap d) (hb : mayB id d = true) {q : Int} (hE : E q id) : Calls Try.prog 9 #[.pointer (some ⟨B, 0, none⟩), .int .i64 id, .slice a d.length cap] w fun e w' => e = .returned (.tuple #[.int .i64 0, .int .i64 9]) ∧ w' = w := by
  have hm := mayWait_any h (id := id)
  rw [hb] at hm
  obtain ⟨M2, aw, nw, cw, c2, lk, nw0, nwN⟩ := D.waitsLen hi
  have hpos : 0 < nw := Nat.pos_of_ne_zero (fun e => nw0.1 e q hE)
  clear nw0
  go_enter Try.func9, Try.ntmps9
  go_wp2_with fail
  refine hm.mono ?_
  rintro e w1 ⟨rfl, rfl⟩
  clear hm
  go_wp2_with fail
  exact bodyPost_ret (v := .tuple #[.int .i64 0, .int .i64 9]) (by simp [results, Try.results9, go_sem]) rfl ⟨rfl, rfl⟩
set_option maxHeartbeats 4000000 in
theorem add_ok (D : Dg w X B E N) (hN : N + d.length < 1000000) (hi : wfI id) (h : IsI w a cap d) (hb : mayB id d = true) (hE : ∀ q, ¬ E q id) : Calls Try.prog 9 #[.pointer (some ⟨B, 0, none⟩), .int .i64 id, .slice a d.length cap] w fun e w' => ∃ r X', e = .returned (.tuple #[.int .i64 (r.length : Nat), .int .i64 0]) ∧ Up r ∧ (∀ x, x ∈ r ↔ x ∈ d) ∧ Dg w' X' B (fun q j => E q j ∨ (j = id ∧ q ∈ d)) (N + d.length) ∧ St X w X' w' := by
  have hm := mayWait_any h (id := id)
  rw [hb] at hm
  have hr := rising_any h (by omega)
  obtain ⟨M2, aw, nw, cw, c2, lk, nw0, nwN⟩ := D.waitsLen hi
  obtain rfl : nw = 0 := nw0.2 hE
  obtain ⟨m1, m2⟩ := (mayB_iff id d).1 hb
  obtain ⟨i1, i2⟩ := of_wfI hi
  obtain ⟨S, hS⟩ : ∃ S, w.heap.size = S := ⟨_, rfl⟩
  have HD : Aside (Dg w X B E N) := D
  clear nw0 nwN D
  go_enter Try.func9, Try.ntmps9
  go_wp2_with fail
  refine hm.mono ?_
  rintro e w1 ⟨rfl, rfl⟩
  clear hm
  go_wp2_with fail
  refine hr.mono ?_
  rintro e w2 ⟨v2, rfl, o2, b2⟩
  clear hr lk c2
  have hc := compact_any o2
  go_wp2_with fail
  refine hc.mono ?_
  rintro e w3 ⟨v3, rfl, o3, g3⟩
  obtain ⟨ur, mr⟩ := compact_mem (sortI d) (sortI_le d)
  obtain ⟨r, hr⟩ : ∃ r, Lib.compact (sortI d) = r := ⟨_, rfl⟩
  rw [hr] at o3 ur mr
  have mr' : ∀ x, x ∈ r ↔ x ∈ d := fun x => (mr x).trans (sortI_mem d x)
  have b3 : Below w1.heap.size w1 w3 := b2.grown g3 b2.size (fun k hk => (o2.rowLt hk).1)
  have lr : r.length ≤ d.length := nodup_le r d ur.nodup (fun x hx => (mr' x).1 hx)
  obtain ⟨a3, cap3, rfl, q3⟩ := o3.isI
  obtain ⟨n, hn⟩ : ∃ n, r.length = n := ⟨_, rfl⟩
  rw [hn] at o3 lr ⊢
  have HS : Aside (OwnI w3 S (.slice a3 n cap3) r ∧ Dis (.slice a3 n cap3) X ∧ Dg w3 X B E N ∧ St X w1 X w3) := ⟨by rw [← hS]; exact o3, HD.out.dis o3, HD.out.below b3, St.below X b3⟩
  clear hc g3 o2 b2 o3 b3 q3 mr hr HD h
  go_wp2_with fail
  go_loopw [28] (fun s28 wr => ∃ I : Nat, I ≤ n ∧ s28 = .int .i64 I ∧ ∃ X', Dg wr X' B (fun q j => E q j ∨ (j = id ∧ q ∈ r.take I)) (N + I) ∧ St X w1 X' wr ∧ OwnI wr S (.slice a3 n cap3) r ∧ Dis (.slice a3 n cap3) X') (fun i _ => n - (intOf i).toNat)
  case atStart =>
    obtain ⟨q1, q2, q3, q4⟩ := HS.out
    exact ⟨0, by omega, rfl, X, q3.congr (fun p i => by simp), q4, q1, q2⟩
  case round =>
    obtain ⟨I, hI, rfl, X1, D, S1, o, di⟩ := hrel
    by_cases c : I < n
    · obtain ⟨g, off, rfl, hc⟩ := o.get hn c
      obtain ⟨x, hx⟩ : ∃ x, r.getD I 0 = x := ⟨_, rfl⟩
      rw [hx] at hc
      have hxd : x ∈ d := (mr' x).1 (by rw [← hx]; exact getD_mem (by omega))
      obtain ⟨x1, x2⟩ := m2 x hxd
      have P := joinG D (by omega) (p := x) (i := id) (fun hh => by
        rcases hh with hh | hh
        · exact hE x hh
        · exact nodup_take ur.nodup (I := I) (by omega) (by rw [hx]; exact hh.2)) x1 x2 i2
      have HD : Aside (OwnI wr S (.slice (some ⟨g, off, none⟩) n cap3) r ∧ Dis (.slice (some ⟨g, off, none⟩) n cap3) X1 ∧ St X w1 X1 wr) := ⟨o, di, S1⟩
      have HX : Hid _ := hx
      clear D S1 o di HS hx
      go_wp2_with fail
      refine P.mono ?_
      rintro e w4 ⟨rfl, X2, D2, S2⟩
      obtain ⟨o, di, S1⟩ := HD.out
      have NX : Aside (∃ X', Dg w4 X' B (fun q j => E q j ∨ (j = id ∧ q ∈ r.take (I + 1))) (N + (I + 1)) ∧ St X w1 X' w4 ∧ OwnI w4 S (.slice (some ⟨g, off, none⟩) n cap3) r ∧ Dis (.slice (some ⟨g, off, none⟩) n cap3) X') :=
        ⟨X2, D2.congr (fun q j => by
          rw [mem_take_up (by omega), HX.out]
          unfold Ejoin
          constructor
          · rintro (h1 | ⟨h1, h2 | h2⟩)
            · exact .inl (.inl h1)
            · exact .inl (.inr ⟨h1, h2⟩)
            · exact .inr ⟨h2, h1⟩
          · rintro ((h1 | ⟨h1, h2⟩) | ⟨h1, h2⟩)
            · exact .inl h1
            · exact .inr ⟨h1, .inl h2⟩
            · exact .inr ⟨h2, .inr h1⟩), S1.trans S2, o.st di S2, di.st o S2⟩
      clear P D2 S2 o di S1 HD
      go_wp2_with fail
      go_roundw
      case rel => exact ⟨I + 1, by omega, by go_num, NX.out⟩
      case measure => simp [intOf]; omega
    · obtain rfl : I = n := by omega
      have FIN : Aside (∃ r X', Ending.returned (.tuple #[.int .i64 I, .int .i64 0]) = .returned (.tuple #[.int .i64 (r.length : Nat), .int .i64 0]) ∧ Up r ∧ (∀ x, x ∈ r ↔ x ∈ d) ∧ Dg wr X' B (fun q j => E q j ∨ (j = id ∧ q ∈ d)) (N + d.length) ∧ St X w1 X' wr) := ⟨r, X1, by rw [hn], ur, mr', (D.up (by omega)).congr (fun q j => by rw [List.take_of_length_le (by omega), mr']), S1⟩
      clear D S1 o di
      go_wp2_with fail
      exact bodyPost_ret (v := .tuple #[.int .i64 I, .int .i64 0]) (by simp [results, Try.results9, go_sem]) rfl FIN.out
end Go.Proofs.Ythpdnlokjhafeaa
