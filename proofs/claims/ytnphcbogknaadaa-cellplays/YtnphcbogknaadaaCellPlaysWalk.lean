/- The walk of 'CellPlays'. -/
import Derived.Test.YtnphcbogknaadaaCellAwake
import Derived.Test.YtnphcbogknaadaaCellRef
import Derived.Test.YtnphcbogknaadaaRecs
import Derived.Test.YtnphcbogknaadaaNum
import Derived.Deep.RegionHeld3
import Derived.Deep.CutBlock
namespace Go.Proofs.Ytnphcbogknaadaa
open Go.RowKit
set_option linter.unusedVariables false

set_option maxRecDepth 100000 in
theorem plays_out (x : Int) (a : Option Addr) (len cap : Nat) (w : World) (hx : x < 1 ∨ 4096 < x) :
    Calls Try.prog 5 #[.int .i64 x, .slice a len cap] w fun e w' => e = .returned (.bool true) ∧ Below w.heap.size w w' := by
  have hx2 : Hid (x < 1 ∨ 4096 < x) := hx
  rcases hx with hx | hx
  · have h20 : ¬ 20 < x := by omega
    go_enter Try.func5, Try.ntmps5
    go_wp2_with fail
    refine (new_out x w hx2).mono ?_
    rintro e w1 ⟨rfl, rfl⟩
    go_wp2_with fail
    refine (awake_any _).mono ?_
    rintro e w12 ⟨rfl, b6⟩
    go_wp2_with fail
    go_ret
    exact ⟨rfl, b6⟩
  · have h20 : 20 < x := by omega
    have h21 : ¬ x ≤ 4096 := by omega
    have h22 : ¬ x < 1 := by omega
    go_enter Try.func5, Try.ntmps5
    go_wp2_with fail
    refine (new_out x w hx2).mono ?_
    rintro e w1 ⟨rfl, rfl⟩
    go_wp2_with fail
    refine (awake_any _).mono ?_
    rintro e w12 ⟨rfl, b6⟩
    go_wp2_with fail
    go_ret
    exact ⟨rfl, b6⟩

/-- Both memories hold the same. -/
structure Both (S n k : Nat) (w0 v : World) (m : Mem) : Prop where
  code : CAt v (S + 1) S n m
  ref : RAt v (S + 2 + 1) (S + 2) n m
  st : m.st ≤ k
  wn : m.wn ≤ k
  last : (m.lk != 0) = decide ((m.st : Int) > 0)
  below : Below S w0 v

theorem Both.mono {S n k k' : Nat} {w0 v : World} {m : Mem} (h : Both S n k w0 v m) (hk : k ≤ k') : Both S n k' w0 v m :=
  ⟨h.code, h.ref, by have := h.st; omega, by have := h.wn; omega, h.last, h.below⟩
theorem Both.drewN {S n k : Nat} {w0 v : World} {m : Mem} (h : Both S n k w0 v m) (q : Nat) : Both S n k w0 (v.drewN q) m :=
  ⟨h.code.of_blocks rfl rfl, h.ref.of_blocks rfl rfl, h.st, h.wn, h.last, below_drewN h.below q⟩
theorem Both.alloc {S n k : Nat} {w0 v : World} {m : Mem} (h : Both S n k w0 v m) (o : Obj) : Both S n k w0 (v.alloc o) m :=
  ⟨h.code.alloc o, h.ref.alloc o, h.st, h.wn, h.last, h.below.alloc (by have := h.code.rlt; omega) o⟩
theorem Both.mid {S n k : Nat} {w0 v v1 : World} {m : Mem} (h : Both S n k w0 v m) (d : Wrote (S + 1) S v v1) : RAt v1 (S + 2 + 1) (S + 2) n m :=
  h.ref.wrote d (by omega) (by omega) (by omega) (by omega)
theorem Both.step {S n k : Nat} {w0 v v1 v2 : World} {m m1 : Mem} (h : Both S n k w0 v m) (d1 : Wrote (S + 1) S v v1) (h1 : CAt v1 (S + 1) S n m1) (d2 : Wrote (S + 2 + 1) (S + 2) v1 v2) (h2 : RAt v2 (S + 2 + 1) (S + 2) n m1)
    (hs : m1.st ≤ k + 1) (hw : m1.wn ≤ k + 1) (hl : (m1.lk != 0) = decide ((m1.st : Int) > 0)) : Both S n (k + 1) w0 v2 m1 :=
  ⟨h1.wrote d2 (by omega) (by omega) (by omega) (by omega), h2, hs, hw, hl, d2.below (d1.below h.below (by omega) (by omega)) (by omega) (by omega)⟩
theorem hit_last (m : Mem) (i : Nat) (c : Int) (hc : c ≠ 0) : ((m.hit i c).lk != 0) = decide (((m.hit i c).st : Int) > 0) := by
  simp [hc]

set_option maxRecDepth 100000 in
set_option maxHeartbeats 4000000 in
theorem plays_in (x : Int) (a : Option Addr) (len cap : Nat) (Z : Nat → Nat → Int) (w : World) (h : IsRecs [.i64, .i64, .u64, .u64] w a len Z) (x1 : 1 ≤ x) (x2 : x ≤ 4096) :
    Calls Try.prog 5 #[.int .i64 x, .slice a len cap] w fun e w' => e = .returned (.bool true) ∧ Below w.heap.size w w' := by
  have hl := h.len_le
  have hh : Hid (IsRecs [.i64, .i64, .u64, .u64] w a len Z) := h
  clear h
  obtain ⟨n, hn, n1, n2⟩ : ∃ n : Nat, (if 20 < x then x % 20 + 1 else x) = n ∧ 1 ≤ n ∧ n ≤ 20 := by
    split
    · exact ⟨(x % 20 + 1).toNat, by omega, by omega, by omega⟩
    · exact ⟨x.toNat, by omega, by omega, by omega⟩
  have g1 : ¬ (n : Int) < 1 := by omega
  have g2 : ¬ (4096 : Int) < (n : Int) := by omega
  have hmk := run_make_row' (P := Try.prog) 22 27 (.int .u64 0) 8 Try.underlying22 infoU64 rfl .i64 .i64 n (by omega) (by omega)
  go_enter Try.func5, Try.ntmps5
  go_upto_region 1 with fail
  go_cut [22] from 17 to 25 (fun v wr => v = .bool (decide (20 < x)) ∧ wr = w)
  case first =>
    by_cases h20 : 20 < x
    · go_wp2_with fail
      go_meet
      exact ⟨by simp [h20], rfl⟩
    · go_wp2_with fail
      go_meet
      exact ⟨by simp [h20], rfl⟩
  case rest =>
    obtain ⟨rfl, rfl⟩ := hcut
    go_upto_if 22 with fail
    go_cut [0] from 17 to 25 (fun v wr => v = .int .i64 n ∧ wr = wc)
    case first =>
      by_cases h20 : 20 < x
      · simp only [h20, if_true] at hn
        go_wp2_with fail
        go_meet
        exact ⟨by rw [← hn], rfl⟩
      · simp only [h20, if_false] at hn
        go_wp2_with fail
        go_meet
        exact ⟨by rw [← hn], rfl⟩
    case rest =>
      obtain ⟨rfl, rfl⟩ := hcut
      clear hn x1 x2
      rename World => w0
      go_wp2_with fail
      refine (new_in n w0 (by omega) (by omega)).mono ?_
      rintro e w1 ⟨rfl, h1, b1, z1⟩
      have hA := (h1.alloc (.cells (madeCells #[.int .u64 0] n) 27)).alloc (.cells #[.slice (some ⟨w0.heap.size + 2, 0, none⟩) n n, .int .i64 0, .int .i64 0, .int .i64 0, .int .i64 0] 41)
      have hB := rnew_at w1 n (by omega)
      rw [z1] at hB
      have hC := (b1.alloc (by omega) (.cells (madeCells #[.int .u64 0] n) 27)).alloc (by simp; omega) (.cells #[.slice (some ⟨w0.heap.size + 2, 0, none⟩) n n, .int .i64 0, .int .i64 0, .int .i64 0, .int .i64 0] 41)
      have HR : Hid _ := And.intro hB hC
      clear hB hC b1
      go_wp2_with fail
      refine (len_any w1 _ _ n _ h1).mono ?_
      rintro e w2 ⟨rfl, rfl⟩
      go_wp2_with fail
      refine (last_any _ _ _ n _ hA).mono ?_
      rintro e w3 ⟨rfl, q, rfl⟩
      have HA : Hid _ := hA
      clear hA h1 z1 hmk
      go_wp2_with fail
      go_loopw [11] (fun i wr => ∃ (I : Nat) (m : Mem), I ≤ 60 ∧ i = .int .i64 I ∧ Both w0.heap.size n I w0 wr m)
        (fun i _ => 60 - (intOf i).toNat)
      case atStart => exact ⟨0, Mem.zero, by omega, rfl, HA.out.of_blocks rfl rfl, HR.out.1.of_blocks rfl rfl, by simp [Mem.zero], by simp [Mem.zero], by simp [Mem.zero], below_drewN HR.out.2 _⟩
      case round =>
        obtain ⟨I, m, hI, rfl, hB⟩ := hrel
        have bw := hB.below
        clear HA HR
        by_cases hgo : I < len ∧ I < 60
        · obtain ⟨l1, l2⟩ := hgo
          have l1' : (I : Int) < (len : Int) := by omega
          have l2' : (I : Int) < 60 := by omega
          obtain ⟨b, off, rfl, hbl, hc⟩ := hh.out.elem I l1
          have hc0 := (bw.cell (p := ⟨b, off + I * 4, none⟩) hbl).trans (hc 0 .i64 rfl).1
          have hc1 := (bw.cell (p := ⟨b, off + I * 4 + 1, none⟩) hbl).trans (hc 1 .i64 rfl).1
          have hc2 := (bw.cell (p := ⟨b, off + I * 4 + 2, none⟩) hbl).trans (hc 2 .u64 rfl).1
          have hc3 := (bw.cell (p := ⟨b, off + I * 4 + 3, none⟩) hbl).trans (hc 3 .u64 rfl).1
          obtain ⟨J0, J1⟩ := bounds_i64 (hc 1 .i64 rfl).2
          obtain ⟨A0, A1⟩ := bounds_u64 (hc 2 .u64 rfl).2
          obtain ⟨B0, B1⟩ := bounds_u64 (hc 3 .u64 rfl).2
          clear hc
          generalize Z I 0 = K at *
          generalize Z I 1 = J at *
          generalize Z I 2 = A at *
          generalize Z I 3 = B at *
          have hS4 := hB.ref.blt
          go_upto_block 2 with fail
          have hb := hB.alloc (.cells #[.int .i64 K, .int .i64 J, .int .u64 A, .int .u64 B] 37)
          obtain ⟨H, hH⟩ : ∃ H, H = wr.heap.size := ⟨_, rfl⟩
          obtain ⟨u, hu⟩ : ∃ u, u = wr.alloc (.cells #[.int .i64 K, .int .i64 J, .int .u64 A, .int .u64 B] 37) := ⟨_, rfl⟩
          have o0 : u.cell? ⟨H, 0, none⟩ = some (.int .i64 K) := by rw [hu, hH]; simp
          have o1 : u.cell? ⟨H, 1, none⟩ = some (.int .i64 J) := by rw [hu, hH]; simp
          have o2 : u.cell? ⟨H, 2, none⟩ = some (.int .u64 A) := by rw [hu, hH]; simp
          have o3 : u.cell? ⟨H, 3, none⟩ = some (.int .u64 B) := by rw [hu, hH]; simp
          rw [← hu] at hb ⊢
          rw [← hH] at hS4
          simp only [← hH]
          clear hu hH hc0 hc1 hc2 hc3 bw hB
          go_cut [] from 69 to 191 (fun v => ∃ m', Both w0.heap.size n (I + 1) w0 v m')
          case first =>
            have KC : Hid (∀ v v' : World, (Wrote (w0.heap.size + 1) w0.heap.size v v' ∨ Wrote (w0.heap.size + 2 + 1) (w0.heap.size + 2) v v') → (v.cell? ⟨H, 1, none⟩ = some (.int .i64 J) ∧ v.cell? ⟨H, 2, none⟩ = some (.int .u64 A) ∧ v.cell? ⟨H, 3, none⟩ = some (.int .u64 B)) → (v'.cell? ⟨H, 1, none⟩ = some (.int .i64 J) ∧ v'.cell? ⟨H, 2, none⟩ = some (.int .u64 A) ∧ v'.cell? ⟨H, 3, none⟩ = some (.int .u64 B))) := by
              rintro v v' (d | d) ⟨x1, x2, x3⟩ <;> exact ⟨(d.cell (by simp; omega) (by simp; omega)).trans x1, (d.cell (by simp; omega) (by simp; omega)).trans x2, (d.cell (by simp; omega) (by simp; omega)).trans x3⟩
            have hst := hb.st
            have hwn := hb.wn
            have rest : J < 0 ∨ (n : Int) ≤ J ∨ (0 ≤ J ∧ J < (n : Int)) := by omega
            by_cases hj : 0 ≤ J ∧ J < (n : Int)
            · obtain ⟨j, rfl⟩ : ∃ j : Nat, J = j := ⟨J.toNat, by omega⟩
              have hjn : j < n := by omega
              have hB : Hid (Both w0.heap.size n I w0 u m) := hb
              have hbd : Hid (Both w0.heap.size n I w0 u.drew m) := hb.drewN 1
              clear hj rest
              by_cases k1 : K = 1
              · subst k1
                go_wp2_with fail
                go_region_held3 (fun w' => w'.cell? ⟨H, 1, none⟩ = some (.int .i64 j) ∧ w'.cell? ⟨H, 2, none⟩ = some (.int .u64 A) ∧ w'.cell? ⟨H, 3, none⟩ = some (.int .u64 B)) (go_keep) ((first | (go_at_call 10; refine (load_in _ _ _ n m j (hb.drewN 1).code hjn (by omega)).mono ?_; rintro e v1 ⟨rfl, hm1, d1⟩; obtain ⟨e1, e2, e3⟩ := KC.out u.drew v1 (.inl d1) ⟨o1, o2, o3⟩; have hr1 := (hb.drewN 1).mid d1) | (go_at_call 17; refine (rload_in _ _ _ n m j hr1 hjn (by omega)).mono ?_; rintro e v2 ⟨rfl, hr2, d2⟩; obtain ⟨e1', e2', e3'⟩ := KC.out v1 v2 (.inr d2) ⟨e1, e2, e3⟩)))
                go_wp2_with fail
                go_meet
                exact ⟨_, hbd.out.step d1 hm1 d2 hr2 (by simp; omega) (by simp; omega) (hit_last _ _ _ (by decide))⟩
              · by_cases k2 : K = 2
                · subst k2
                  go_wp2_with fail
                  refine (store_in _ _ _ n m j A hb.code hjn (by omega) A0 A1).mono ?_
                  rintro e v1 ⟨rfl, hm1, d1⟩
                  obtain ⟨e1, e2, e3⟩ := KC.out u v1 (.inl d1) ⟨o1, o2, o3⟩
                  have hr1 := hb.mid d1
                  go_wp2_with fail
                  refine (rstore_in _ _ _ n m j A hr1 hjn (by omega) A0 A1).mono ?_
                  rintro e v2 ⟨rfl, hr2, d2⟩
                  go_wp2_with fail
                  go_meet
                  exact ⟨_, hB.out.step d1 hm1 d2 hr2 (by simp; omega) (by simp; omega) (hit_last m j 2 (by decide))⟩
                · by_cases k3 : K = 3
                  · subst k3
                    by_cases hA : m.ws j = A
                    · go_wp2_with fail
                      go_region_held3 (fun w' => w'.cell? ⟨H, 1, none⟩ = some (.int .i64 j) ∧ w'.cell? ⟨H, 2, none⟩ = some (.int .u64 A) ∧ w'.cell? ⟨H, 3, none⟩ = some (.int .u64 B)) (go_keep) ((first | (go_at_call 9; refine (cas_won _ _ _ n m j A B (hb.drewN 1).code hjn (by omega) (by omega) hA B0 B1).mono ?_; rintro e v1 ⟨rfl, hm1, d1⟩; obtain ⟨e1, e2, e3⟩ := KC.out u.drew v1 (.inl d1) ⟨o1, o2, o3⟩; have hr1 := (hb.drewN 1).mid d1) | (go_at_call 19; refine (rcas_won _ _ _ n m j A B hr1 hjn (by omega) (by omega) hA B0 B1).mono ?_; rintro e v2 ⟨rfl, hr2, d2⟩; obtain ⟨e1', e2', e3'⟩ := KC.out v1 v2 (.inr d2) ⟨e1, e2, e3⟩)))
                      go_wp2_with fail
                      go_meet
                      exact ⟨_, hbd.out.step d1 hm1 d2 hr2 (by simp; omega) (by simp; omega) (hit_last m j 3 (by decide))⟩
                    · go_wp2_with fail
                      go_region_held3 (fun w' => w'.cell? ⟨H, 1, none⟩ = some (.int .i64 j) ∧ w'.cell? ⟨H, 2, none⟩ = some (.int .u64 A) ∧ w'.cell? ⟨H, 3, none⟩ = some (.int .u64 B)) (go_keep) ((first | (go_at_call 9; refine (cas_lost _ _ _ n m j A B (hb.drewN 1).code hjn (by omega) hA).mono ?_; rintro e v1 ⟨rfl, hm1, d1⟩; obtain ⟨e1, e2, e3⟩ := KC.out u.drew v1 (.inl d1) ⟨o1, o2, o3⟩; have hr1 := (hb.drewN 1).mid d1) | (go_at_call 19; refine (rcas_lost _ _ _ n m j A B hr1 hjn (by omega) hA).mono ?_; rintro e v2 ⟨rfl, hr2, d2⟩; obtain ⟨e1', e2', e3'⟩ := KC.out v1 v2 (.inr d2) ⟨e1, e2, e3⟩)))
                      go_wp2_with fail
                      go_meet
                      exact ⟨_, hbd.out.step d1 hm1 d2 hr2 (by simp; omega) (by simp; omega) (hit_last m j 3 (by decide))⟩
                  · have k1' : (K == 1) = false := by simpa using k1
                    have k2' : (K == 2) = false := by simpa using k2
                    have k3' : (K == 3) = false := by simpa using k3
                    go_wp2_with fail
                    go_region_held3 (fun w' => w'.cell? ⟨H, 1, none⟩ = some (.int .i64 j) ∧ w'.cell? ⟨H, 2, none⟩ = some (.int .u64 A) ∧ w'.cell? ⟨H, 3, none⟩ = some (.int .u64 B)) (go_keep) ((first | (go_at_call 8; refine (add_in _ _ _ n m j A (hb.drewN 1).code hjn (by omega)).mono ?_; rintro e v1 ⟨rfl, hm1, d1⟩; obtain ⟨e1, e2, e3⟩ := KC.out u.drew v1 (.inl d1) ⟨o1, o2, o3⟩; have hr1 := (hb.drewN 1).mid d1) | (go_at_call 20; refine (radd_in _ _ _ n m j A hr1 hjn (by omega)).mono ?_; rintro e v2 ⟨rfl, hr2, d2⟩; obtain ⟨e1', e2', e3'⟩ := KC.out v1 v2 (.inr d2) ⟨e1, e2, e3⟩)))
                    go_wp2_with fail
                    go_meet
                    exact ⟨_, hbd.out.step d1 hm1 d2 hr2 (by simp; omega) (by simp; omega) (hit_last m j 4 (by decide))⟩
            · have hj' : Hid (J < 0 ∨ (n : Int) ≤ J) := by show J < 0 ∨ (n : Int) ≤ J; omega
              have hB : Hid (Both w0.heap.size n I w0 u m) := hb
              have hbd : Hid (Both w0.heap.size n I w0 u.drew m) := hb.drewN 1
              clear hj rest KC
              by_cases k1 : K = 1
              · subst k1
                go_wp2_with fail
                go_region_held3 (fun w' => w'.cell? ⟨H, 1, none⟩ = some (.int .i64 J) ∧ w'.cell? ⟨H, 2, none⟩ = some (.int .u64 A) ∧ w'.cell? ⟨H, 3, none⟩ = some (.int .u64 B)) (go_keep) ((first | (go_at_call 10; refine (load_out _ _ _ n m J hbd.out.code hj').mono ?_; rintro e v1 ⟨rfl, rfl⟩) | (go_at_call 17; refine (rload_out _ _ _ n m J hbd.out.ref hj').mono ?_; rintro e v2 ⟨rfl, rfl⟩)))
                go_wp2_with fail
                go_meet
                exact ⟨_, hbd.out.mono (by omega)⟩
              · by_cases k2 : K = 2
                · subst k2
                  go_wp2_with fail
                  refine (store_out _ _ _ n m J A hb.code hj').mono ?_
                  rintro e v1 ⟨rfl, rfl⟩
                  go_wp2_with fail
                  refine (rstore_out _ _ _ n m J A hb.ref hj').mono ?_
                  rintro e v2 ⟨rfl, rfl⟩
                  go_wp2_with fail
                  go_meet
                  exact ⟨_, hB.out.mono (by omega)⟩
                · by_cases k3 : K = 3
                  · subst k3
                    go_wp2_with fail
                    go_region_held3 (fun w' => w'.cell? ⟨H, 1, none⟩ = some (.int .i64 J) ∧ w'.cell? ⟨H, 2, none⟩ = some (.int .u64 A) ∧ w'.cell? ⟨H, 3, none⟩ = some (.int .u64 B)) (go_keep) ((first | (go_at_call 9; refine (cas_out _ _ _ n m J A B hbd.out.code hj').mono ?_; rintro e v1 ⟨rfl, rfl⟩) | (go_at_call 19; refine (rcas_out _ _ _ n m J A B hbd.out.ref hj').mono ?_; rintro e v2 ⟨rfl, rfl⟩)))
                    go_wp2_with fail
                    go_meet
                    exact ⟨_, hbd.out.mono (by omega)⟩
                  · have k1' : (K == 1) = false := by simpa using k1
                    have k2' : (K == 2) = false := by simpa using k2
                    have k3' : (K == 3) = false := by simpa using k3
                    go_wp2_with fail
                    go_region_held3 (fun w' => w'.cell? ⟨H, 1, none⟩ = some (.int .i64 J) ∧ w'.cell? ⟨H, 2, none⟩ = some (.int .u64 A) ∧ w'.cell? ⟨H, 3, none⟩ = some (.int .u64 B)) (go_keep) ((first | (go_at_call 8; refine (add_out _ _ _ n m J A hbd.out.code hj').mono ?_; rintro e v1 ⟨rfl, rfl⟩) | (go_at_call 20; refine (radd_out _ _ _ n m J A hbd.out.ref hj').mono ?_; rintro e v2 ⟨rfl, rfl⟩)))
                    go_wp2_with fail
                    go_meet
                    exact ⟨_, hbd.out.mono (by omega)⟩
          case rest =>
            obtain ⟨m', hM⟩ := hcut
            clear hb o0 o1 o2 o3 hS4 J0 J1 A0 A1 B0 B1
            have M1 := hM.st
            have M2 := hM.wn
            have M3 := hM.last
            by_cases hz : m'.st = 0
            · have t1 : (m'.lk != 0) = false := by rw [M3]; simp [hz]
              have t2 : decide (0 < (m'.st : Int)) = false := by simp [hz]
              have t3 : decide (0 < m'.st) = false := by simp [hz]
              clear M3 hz
              go_wp2_with fail
              refine (last_any _ _ _ n m' hM.code).mono ?_
              rintro e v1 ⟨rfl, q1, hv1⟩
              have hM1 : Both w0.heap.size n (I + 1) w0 v1 m' := by rw [hv1]; exact hM.drewN q1
              clear hv1
              have c1 := hM1.ref.c1
              have c2 := hM1.ref.c2
              have c3 := hM1.ref.c3
              have c4 := hM1.ref.c4
              have HM : Hid ((∀ k, CAt (v1.drewN k) (w0.heap.size + 1) w0.heap.size n m') ∧ Both w0.heap.size n (I + 1) w0 v1 m') := ⟨fun k => (hM1.drewN k).code, hM1⟩
              clear hM1
              go_wp2_with fail
              go_quiet ((first | (go_at_call 14; exact Calls.quiet_of_same (steps_any _ _ _ n m' (HM.out.1 _) (by omega))) | (go_at_call 11; exact Calls.quiet_of_same (wins_any _ _ _ n m' (HM.out.1 _) (by omega)))))
              go_wp2_with fail
              go_roundw
              case rel => (repeat apply Exists.intro); exact ⟨⟨I + 1, m', by omega, by go_num, HM.out.2.drewN _⟩, rfl⟩
              case measure => simp [intOf]; omega
            · have t1 : (m'.lk != 0) = true := by rw [M3]; simp; omega
              have t2 : 0 < (m'.st : Int) := by omega
              have t3 : 0 < m'.st := by omega
              clear M3 hz
              go_wp2_with fail
              refine (last_any _ _ _ n m' hM.code).mono ?_
              rintro e v1 ⟨rfl, q1, hv1⟩
              have hM1 : Both w0.heap.size n (I + 1) w0 v1 m' := by rw [hv1]; exact hM.drewN q1
              clear hv1
              have c1 := hM1.ref.c1
              have c2 := hM1.ref.c2
              have c3 := hM1.ref.c3
              have c4 := hM1.ref.c4
              have HM : Hid ((∀ k, CAt (v1.drewN k) (w0.heap.size + 1) w0.heap.size n m') ∧ Both w0.heap.size n (I + 1) w0 v1 m') := ⟨fun k => (hM1.drewN k).code, hM1⟩
              clear hM1
              go_wp2_with fail
              go_quiet ((first | (go_at_call 14; exact Calls.quiet_of_same (steps_any _ _ _ n m' (HM.out.1 _) (by omega))) | (go_at_call 11; exact Calls.quiet_of_same (wins_any _ _ _ n m' (HM.out.1 _) (by omega)))))
              go_wp2_with fail
              go_roundw
              case rel => (repeat apply Exists.intro); exact ⟨⟨I + 1, m', by omega, by go_num, HM.out.2.drewN _⟩, rfl⟩
              case measure => simp [intOf]; omega
        · have tests : ((I : Int) < (len : Int) ∧ ¬ (I : Int) < 60) ∨ ¬ (I : Int) < (len : Int) := by omega
          rcases tests with ⟨l1, l2⟩ | l1
          all_goals
            have bs := hB.below.size
            clear bw
            have H0 : Hid _ := hB
            clear hB
            go_wp2_with fail
            go_loopw [16] (fun i v => ∃ (k : Nat) (m2 : Mem), k ≤ n ∧ i = .int .i64 k ∧ CAt v (w0.heap.size + 1) w0.heap.size n m2 ∧ RAt v (w0.heap.size + 2 + 1) (w0.heap.size + 2) n m ∧ m2.ws = m.ws ∧ m2.st ≤ 60 + k ∧ Below w0.heap.size w0 v)
              (fun i _ => n - (intOf i).toNat)
            case atStart => exact ⟨0, m, by omega, rfl, H0.out.code, H0.out.ref, rfl, by have := H0.out.st; omega, H0.out.below⟩
            case round =>
              obtain ⟨k, m2, hk, rfl, hm, hr, hws, hst, bw⟩ := hrel
              clear H0
              by_cases hkn : k < n
              · have hkn' : (k : Int) < (n : Int) := by omega
                have c0 := hr.c0
                have cw := hr.word hkn
                have HW : Hid (m2.ws = m.ws) := hws
                clear hws
                have KR : Hid (∀ v1 : World, Wrote (w0.heap.size + 1) w0.heap.size wr.drew v1 → RAt v1 (w0.heap.size + 2 + 1) (w0.heap.size + 2) n m) := fun v1 d => hr.drew.wrote d (by omega) (by omega) (by omega) (by omega)
                go_wp2_with fail
                go_region_held3 (fun w' => w'.cell? ⟨w0.heap.size + 2 + 1, 0, none⟩ = some (.slice (some ⟨w0.heap.size + 2, 0, none⟩) n n) ∧ w'.cell? ⟨w0.heap.size + 2, k, none⟩ = some (.int .u64 (m.ws k))) (go_keep) ((go_at_call 10; refine (load_in _ _ _ n m2 k hm.drew hkn (by omega)).mono ?_; rintro e v1 ⟨rfl, hm1, d1⟩; rw [HW.out]; have hr1 := KR.out v1 d1; have x0 := hr1.c0; have x1 := hr1.word hkn))
                go_wp2_with fail
                go_roundw
                case rel => exact ⟨k + 1, _, by omega, by go_num, hm1, hr1, HW.out, by simp; omega, d1.below bw.drew (by omega) (by omega)⟩
                case measure => simp [intOf]; omega
              · have hkn' : ¬ (k : Int) < (n : Int) := by omega
                go_wp2_with fail
                refine (awake_any _).mono ?_
                rintro e w6 ⟨rfl, b6⟩
                go_wp2_with fail
                go_ret
                exact ⟨rfl, bw.trans (b6.mono bw.size)⟩
theorem cellPlays_walk (x : Int) (a : Option Addr) (len cap : Nat) (Z : Nat → Nat → Int) (w : World) (wx : (Lit.int .i64 x).wf = true) (h : IsRecs [.i64, .i64, .u64, .u64] w a len Z) :
    Calls Try.prog 5 #[.int .i64 x, .slice a len cap] w fun e w' => e = .returned (.bool true) ∧ Below w.heap.size w w' := by
  by_cases hx : 1 ≤ x ∧ x ≤ 4096
  · exact plays_in x a len cap Z w h hx.1 hx.2
  · exact plays_out x a len cap w (by omega)
end Go.Proofs.Ytnphcbogknaadaa
