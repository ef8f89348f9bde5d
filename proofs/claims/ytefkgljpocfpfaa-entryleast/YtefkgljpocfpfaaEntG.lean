/- entry.Merge. -/
import Derived.Test.YtefkgljpocfpfaaEntC
import Derived.Test.YtefkgljpocfpfaaEntR
namespace Go.Proofs.Ytefkgljpocfpfaa
open Go.RowKit Go.Lib Go.Sort
set_option linter.unusedVariables false

theorem make_run (w : World) (n : Nat) (hn : n ≤ 2000000) :
    ∃ w', (Instr.makeSlice 22 (.int .i64 0) (.int .i64 (n : Int))).run Try.prog w = .ok (.slice (some ⟨w.heap.size, 0, none⟩) 0 n) w' ∧ OwnE w' w.heap.size (.slice (some ⟨w.heap.size, 0, none⟩) 0 n) [] ∧ w.grownBy w' none := by
  obtain ⟨i, hi, hz, hs, hby⟩ := infoE
  obtain ⟨w', h1, h2, h3⟩ := run_make_own (P := Try.prog) w w.heap.size 22 31 i _ 2 Try.underlying22 hi hz hs .i64 .i64 n (by rw [hby]; omega) (by unfold maxLen; omega) (Nat.le_refl _)
  exact ⟨w', h1, h2, h3⟩

set_option maxHeartbeats 4000000 in
set_option maxRecDepth 100000 in
theorem merge_any (a a' : Option Addr) (cap cap' : Nat) (c d : List Ent) (w : World) (h : IsL w a cap c) (h' : IsL w a' cap' d) (hd : c.length + d.length ≤ 1000000) :
    Calls Try.prog 11 #[.slice a c.length cap, .slice a' d.length cap'] w (Made w (mergeL c d)) := by
  have mx := mixed
  obtain ⟨n, hn⟩ : ∃ n : Nat, (c.length : Int) + (d.length : Int) = (n : Int) := ⟨c.length + d.length, by omega⟩
  obtain ⟨w1, hm, o1, g1⟩ := make_run w n (by omega)
  have B1 : Aside (Below w.heap.size w w1) := (Below.refl _ _).grown g1 (Nat.le_refl _) (fun k hk => by cases hk)
  have O1 : Aside (OwnE w1 w.heap.size (.slice (some ⟨w.heap.size, 0, none⟩) 0 n) []) := o1
  have H : Aside (IsL w a cap c) := h
  have H' : Aside (IsL w a' cap' d) := h'
  have hl := h.len
  have hl' := h'.len
  clear o1 g1 h h'
  go_enter Try.func11, Try.ntmps11
  go_wp2_with fail
  clear hm hn
  go_loopg [0, 1, 5] (c.length + d.length) (fun kx s0 s1 s5 wr => ∃ (p q : Option Addr) (k l : Nat) (cs ds out : List Ent) (r : Option Addr) (t : Nat), s0 = .slice p cs.length k ∧ s1 = .slice q ds.length l ∧ s5 = .slice r out.length t ∧ cs.length + ds.length ≤ kx ∧ cs.length + ds.length + out.length ≤ 1000000 ∧ Aside (IsL w p k cs) ∧ Aside (IsL w q l ds) ∧ Aside (OwnE wr w.heap.size (.slice r out.length t) out) ∧ Aside (Below w.heap.size w wr) ∧ Aside (mergeL c d = out ++ mergeL cs ds))
  case atStart => exact ⟨a, a', cap, cap', c, d, [], _, _, rfl, rfl, rfl, Nat.le_refl _, by simpa using hd, H, H', O1, B1, rfl⟩
  case round =>
    clear O1 B1 H H'
    obtain ⟨p, q, k, l, cs, ds, out, r, t, rfl, rfl, rfl, hkx, hsz, H, H', O, B, E⟩ := hrel
    cases cs with
    | nil =>
      have h1 := H.out.below B.out
      have hw1 : w.heap.size ≤ wr.heap.size := B.out.size
      obtain ⟨v3, w3, hr3, o3, g3⟩ := app_run (c := []) O.out h1 (by simp only [List.length_nil] at hsz ⊢; omega) hw1 22
      obtain ⟨r3, t3, rfl, _⟩ := o3.isL
      have B3 : Below w.heap.size w w3 := OwnE.grown O.out B.out g3 hw1
      obtain ⟨v4, w4, hr4, o4, g4⟩ := app_run (c := ds) o3 (H'.out.below B3) (by simp only [List.length_append, List.length_nil] at hsz ⊢; omega) B3.size 22
      obtain ⟨r4, t4, rfl, _⟩ := o4.isL
      have B4 : Aside (Below w.heap.size w w4) := OwnE.grown o3 B3 g4 B3.size
      have E2 : Hid (out ++ [] ++ ds = mergeL c d) := by
        show out ++ [] ++ ds = mergeL c d
        rw [E.out, List.append_assoc]
        congr 1
        simp [mergeL]
      obtain ⟨N3, hN3⟩ : ∃ N3, (out ++ []).length = N3 := ⟨_, rfl⟩
      obtain ⟨N4, hN4⟩ : ∃ N4, (out ++ [] ++ ds).length = N4 := ⟨_, rfl⟩
      rw [hN3] at hr3 hr4
      rw [hN4] at hr4
      have O4 : Aside (OwnE w4 w.heap.size (.slice r4 N4 t4) (out ++ [] ++ ds)) := by rw [← hN4]; exact o4
      have HN4 : Hid _ := hN4
      clear hN3 hN4
      clear o3 o4 g3 g4 O E h1
      simp only [List.length_nil] at hr3 hr4 ⊢
      go_wp2_with (at_builtin; first | refine Lib.wpList_append_run wr rfl _ _ 22 22 rfl _ _ rfl rfl _ w3 hr3 ?_ | refine Lib.wpList_append_run w3 rfl _ _ 22 22 rfl _ _ rfl rfl _ w4 hr4 ?_)
      go_ret
      have e := E2.out
      have o := O4.out
      rw [e] at o
      refine ⟨r4, t4, by rw [← e, HN4.out]; rfl, ?_, B4.out⟩
      rw [← e, HN4.out, e]
      exact o
    | cons x cs =>
      cases ds with
      | nil =>
        have z1 : (0 : Int) < (cs.length : Int) + 1 := by omega
        have h1 := H.out.below B.out
        have hw1 : w.heap.size ≤ wr.heap.size := B.out.size
        obtain ⟨v3, w3, hr3, o3, g3⟩ := app_run (c := (x :: cs)) O.out h1 (by simp only [List.length_cons, List.length_nil] at hsz ⊢; omega) hw1 22
        obtain ⟨r3, t3, rfl, _⟩ := o3.isL
        have B3 : Below w.heap.size w w3 := OwnE.grown O.out B.out g3 hw1
        obtain ⟨v4, w4, hr4, o4, g4⟩ := app_run (c := []) o3 (H'.out.below B3) (by simp only [List.length_append, List.length_cons, List.length_nil] at hsz ⊢; omega) B3.size 22
        obtain ⟨r4, t4, rfl, _⟩ := o4.isL
        have B4 : Aside (Below w.heap.size w w4) := OwnE.grown o3 B3 g4 B3.size
        have E2 : Hid (out ++ (x :: cs) ++ [] = mergeL c d) := by
          show out ++ (x :: cs) ++ [] = mergeL c d
          rw [E.out, List.append_assoc]
          congr 1
          simp [mergeL]
        obtain ⟨N3, hN3⟩ : ∃ N3, (out ++ (x :: cs)).length = N3 := ⟨_, rfl⟩
        obtain ⟨N4, hN4⟩ : ∃ N4, (out ++ (x :: cs) ++ []).length = N4 := ⟨_, rfl⟩
        rw [hN3] at hr3 hr4
        rw [hN4] at hr4
        have O4 : Aside (OwnE w4 w.heap.size (.slice r4 N4 t4) (out ++ (x :: cs) ++ [])) := by rw [← hN4]; exact o4
        have HN4 : Hid _ := hN4
        clear hN3 hN4
        clear o3 o4 g3 g4 O E h1
        simp only [List.length_nil, List.length_cons] at hr3 hr4 ⊢
        go_wp2_with (at_builtin; first | refine Lib.wpList_append_run wr rfl _ _ 22 22 rfl _ _ rfl rfl _ w3 hr3 ?_ | refine Lib.wpList_append_run w3 rfl _ _ 22 22 rfl _ _ rfl rfl _ w4 hr4 ?_)
        go_ret
        have e := E2.out
        have o := O4.out
        rw [e] at o
        refine ⟨r4, t4, by rw [← e, HN4.out]; rfl, ?_, B4.out⟩
        rw [← e, HN4.out, e]
        exact o
      | cons y ds =>
        obtain ⟨b, off, ha, hc⟩ := (H.out.below B.out).at (show 0 < (x :: cs).length by simp)
        obtain ⟨b', off', ha', hc'⟩ := (H'.out.below B.out).at (show 0 < (y :: ds).length by simp)
        subst ha ha'
        have c1 := fun n os => (hc wr (Grown.refl wr) n os).1
        have c2 := fun n os => (hc wr (Grown.refl wr) n os).2
        have c3 := fun n os => (hc' wr (Grown.refl wr) n os).1
        have c4 := fun n os => (hc' wr (Grown.refl wr) n os).2
        simp only [List.getElem_cons_zero, Nat.zero_mul, Nat.add_zero] at c1 c2 c3 c4
        clear hc hc'
        have hk1 := H.out.le
        have hl1 := H'.out.le
        simp only [List.length_cons] at hk1 hl1 hkx hsz ⊢
        have z1 : (0 : Int) < (cs.length : Int) + 1 := by omega
        have z2 : (0 : Int) < (ds.length : Int) + 1 := by omega
        have lg := less_grown y x wr
        cases hL : ltE y x with
        | true =>
          simp only [hL] at lg
          have E2 : Aside (mergeL c d = (out ++ [y]) ++ mergeL (x :: cs) ds) := by
            show mergeL c d = (out ++ [y]) ++ mergeL (x :: cs) ds
            rw [E.out, mergeL]
            simp [hL]
          have HD : Aside ((l = 1 → IsL w (some ⟨b', off', none⟩) 0 ds) ∧ (l ≠ 1 → IsL w (some ⟨b', off' + 2, none⟩) (l - 1) ds)) := H'.out.tail
          go_wp2_with fail
          go_quiet_grown (first | (go_at_call 21; exact lg _ _))
          have B2 : Aside (Below w.heap.size w (grow (wr.drewN nq) osq)) := B.out.trans ((Grown.below ⟨nq, osq, rfl⟩).mono B.out.size)
          have O2 : Aside (OwnE (grow (wr.drewN nq) osq) w.heap.size (.slice r out.length t) out) := OwnE.below O.out (Grown.below ⟨nq, osq, rfl⟩)
          have d3 := c3 nq osq
          have d4 := c4 nq osq
          clear c1 c2 c3 c4 lg B O E
          generalize grow (wr.drewN nq) osq = w2 at B2 O2 d3 d4 ⊢
          have hw2 : w.heap.size ≤ w2.heap.size := B2.out.size
          obtain ⟨v3, w3, hr, o3, g3⟩ := app_run (w := w2.alloc (.cells #[.int .u64 y.1, .int .i64 y.2] 31)) (a := some ⟨w2.heap.size, 0, none⟩) (cap := 1) (c := [y]) (OwnE.below O2.out ((Below.refl _ _).alloc (Nat.le_refl _) _)) (IsL.one w2 y) (by simp; omega) (by simp; omega) 22
          obtain ⟨r3, t3, rfl, _⟩ := o3.isL
          have B3 : Aside (Below w.heap.size w w3) := OwnE.grown (OwnE.below O2.out ((Below.refl _ _).alloc (Nat.le_refl _) _)) (B2.out.alloc hw2 _) g3 (by simp; omega)
          have O3 : Aside (OwnE w3 w.heap.size (.slice r3 (out ++ [y]).length t3) (out ++ [y])) := o3
          clear O2 B2 o3 g3
          go_wp2_with (at_builtin; refine Lib.wpList_append_run _ rfl _ _ 22 22 rfl _ _ rfl rfl _ w3 hr ?_)
          all_goals
            go_roundg (cs.length + ds.length + 1)
            case measure => omega
            case rel => first | exact ⟨_, _, k, _, x :: cs, ds, out ++ [y], r3, t3, rfl, rfl, by simp, by simp; omega, by simp; omega, H, (HD.out.1 (by omega) : Aside _), O3, B3, E2⟩ | exact ⟨_, _, k, _, x :: cs, ds, out ++ [y], r3, t3, rfl, rfl, by simp, by simp; omega, by simp; omega, H, (HD.out.2 (by omega) : Aside _), O3, B3, E2⟩
        | false =>
          simp only [hL] at lg
          have E2 : Aside (mergeL c d = (out ++ [x]) ++ mergeL cs (y :: ds)) := by
            show mergeL c d = (out ++ [x]) ++ mergeL cs (y :: ds)
            rw [E.out, mergeL]
            simp [hL]
          have HD : Aside ((k = 1 → IsL w (some ⟨b, off, none⟩) 0 cs) ∧ (k ≠ 1 → IsL w (some ⟨b, off + 2, none⟩) (k - 1) cs)) := H.out.tail
          go_wp2_with fail
          go_quiet_grown (first | (go_at_call 21; exact lg _ _))
          have B2 : Aside (Below w.heap.size w (grow (wr.drewN nq) osq)) := B.out.trans ((Grown.below ⟨nq, osq, rfl⟩).mono B.out.size)
          have O2 : Aside (OwnE (grow (wr.drewN nq) osq) w.heap.size (.slice r out.length t) out) := OwnE.below O.out (Grown.below ⟨nq, osq, rfl⟩)
          have d3 := c1 nq osq
          have d4 := c2 nq osq
          clear c1 c2 c3 c4 lg B O E
          generalize grow (wr.drewN nq) osq = w2 at B2 O2 d3 d4 ⊢
          have hw2 : w.heap.size ≤ w2.heap.size := B2.out.size
          obtain ⟨v3, w3, hr, o3, g3⟩ := app_run (w := w2.alloc (.cells #[.int .u64 x.1, .int .i64 x.2] 31)) (a := some ⟨w2.heap.size, 0, none⟩) (cap := 1) (c := [x]) (OwnE.below O2.out ((Below.refl _ _).alloc (Nat.le_refl _) _)) (IsL.one w2 x) (by simp; omega) (by simp; omega) 22
          obtain ⟨r3, t3, rfl, _⟩ := o3.isL
          have B3 : Aside (Below w.heap.size w w3) := OwnE.grown (OwnE.below O2.out ((Below.refl _ _).alloc (Nat.le_refl _) _)) (B2.out.alloc hw2 _) g3 (by simp; omega)
          have O3 : Aside (OwnE w3 w.heap.size (.slice r3 (out ++ [x]).length t3) (out ++ [x])) := o3
          clear O2 B2 o3 g3
          go_wp2_with (at_builtin; refine Lib.wpList_append_run _ rfl _ _ 22 22 rfl _ _ rfl rfl _ w3 hr ?_)
          all_goals
            go_roundg (cs.length + ds.length + 1)
            case measure => omega
            case rel => first | exact ⟨_, _, _, l, cs, y :: ds, out ++ [x], r3, t3, rfl, rfl, by simp, by simp; omega, by simp; omega, (HD.out.1 (by omega) : Aside _), H', O3, B3, E2⟩ | exact ⟨_, _, _, l, cs, y :: ds, out ++ [x], r3, t3, rfl, rfl, by simp, by simp; omega, by simp; omega, (HD.out.2 (by omega) : Aside _), H', O3, B3, E2⟩
end Go.Proofs.Ytefkgljpocfpfaa
