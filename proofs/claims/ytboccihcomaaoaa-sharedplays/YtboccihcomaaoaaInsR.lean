/- slices.insertionSortCmpFunc: a range is sorted. -/
import Derived.Test.YtboccihcomaaoaaSwapR
import Derived.Test.YtboccihcomaaoaaEntLess
namespace Go.Proofs.Ytboccihcomaaoaa
open Go.RowKit Go.Lib Go.Sort
set_option linter.unusedVariables false

set_option maxHeartbeats 400000 in
theorem insert_none (p : Option Addr) (cap : Nat) (fv : Value) (w : World) :
    Calls Try.prog 78 #[.slice p 0 cap, .int .i64 0, .int .i64 0, fv] w fun e w' => e = .returned (.tuple #[]) ∧ w' = w := by
  go_enter Try.func78, Try.ntmps78
  go_wp2
  refine wp_loop_rounds 1 ?_
  rw [rounds_succ]
  go_wp2
  go_end0
  exact ⟨rfl, rfl⟩

set_option maxHeartbeats 4000000 in
set_option maxRecDepth 1000000 in
theorem insert_any (blk off cap a b : Nat) (d0 d : Array Ent) (w0 w : World) (R : RE w0 blk off d0) (hs : d0.size = d.size) (S : SE w0 blk off d w) (hab : a ≤ b) (hb : b ≤ d.size) (hsz : d.size < 1152921504606846976) :
    Calls Try.prog 78 #[.slice (some ⟨blk, off, none⟩) d.size cap, .int .i64 a, .int .i64 b, .func (.func 66) #[] #[]] w fun e w' => e = .returned (.tuple #[]) ∧
      ∃ d' : Array Ent, SE w0 blk off d' w' ∧ PermIn a b d d' ∧ SortedIn ltE a b d' := by
  have S0 : Aside _ := S
  clear S
  have mx := mixed
  go_enter Try.func78, Try.ntmps78
  go_wp2
  go_loopg [8] (b - a) (fun g1 vi wr => ∃ (i : Nat) (dk : Array Ent), vi = .int .i64 i ∧ a < i ∧ i ≤ b + 1 ∧ b + 1 - i ≤ g1 + 1 ∧ dk.size = d.size ∧ Aside (SE w0 blk off dk wr) ∧ Hid (insOuter ltE a b i dk = insOuter ltE a b (a + 1) d))
  case atStart => exact ⟨a + 1, d, by go_num, by omega, by omega, by omega, rfl, S0, rfl⟩
  case round =>
    obtain ⟨i, dk, rfl, hai, hib, hg1, hsk, S1, HO⟩ := hrel
    clear S0
    by_cases hlt : i < b
    · have hltz : (i : Int) < (b : Int) := by omega
      go_wp2
      go_loopg [9] i (fun g2 vj wr2 => ∃ (j : Nat) (dj : Array Ent), vj = .int .i64 j ∧ a ≤ j ∧ j ≤ i ∧ j ≤ g2 ∧ dj.size = d.size ∧ Aside (SE w0 blk off dj wr2) ∧ Hid (insInner ltE a j dj = insInner ltE a i dk))
      case atStart => exact ⟨i, dk, rfl, by omega, Nat.le_refl _, Nat.le_refl _, hsk, S1, rfl⟩
      case round =>
        obtain ⟨j, dj, rfl, haj, hji, hg2, hsj, S2, HI⟩ := hrel
        clear S1
        have OUT : Aside ((j ≤ a ∨ ltE dj[j]! dj[j - 1]! = false) → Hid (insOuter ltE a b (i + 1) dj = insOuter ltE a b (a + 1) d)) := fun hs => by
          show _ = _
          rw [← HO.out, insOuter_go _ _ _ _ _ hlt, ← HI.out, insInner_stop _ _ _ _ hs]
        by_cases hja : a < j
        · have hjaz : (a : Int) < (j : Int) := by omega
          obtain ⟨l, rfl⟩ : ∃ l, j = l + 1 := ⟨j - 1, by omega⟩
          have hjaz' : (a : Int) < (l : Int) + 1 := by omega
          have hjd : decide ((a : Int) < (l : Int) + 1) = true := decide_eq_true hjaz'
          have kz1 : (l : Int) + 1 < (d.size : Int) := by omega
          have kz0 : (l : Int) < (d.size : Int) := by omega
          have e1 : ((l : Int) + 1).toNat = l + 1 := by omega
          have p1 : (0 : Int) ≤ (l : Int) + 1 := by omega
          have wl : IntKind.i64.wrap (l : Int) = (l : Int) := by rw [IntKind.wrap_i64]; omega
          obtain ⟨x, hx⟩ : ∃ x, dj[l + 1]! = x := ⟨_, rfl⟩
          obtain ⟨y, hy⟩ : ∃ y, dj[l]! = y := ⟨_, rfl⟩
          have c1 : ∀ n os, (grow (wr.drewN n) os).cell? ⟨blk, off + (l + 1) * 2, none⟩ = some (.int .u64 x.1) := fun n os => by rw [← hx]; exact se_c0 (S2.out.grown n os) R (by omega) (by omega)
          have c2 : ∀ n os, (grow (wr.drewN n) os).cell? ⟨blk, off + (l + 1) * 2 + 1, none⟩ = some (.int .i64 x.2) := fun n os => by rw [← hx]; exact se_c1 (S2.out.grown n os) R (by omega) (by omega)
          have c3 : ∀ n os, (grow (wr.drewN n) os).cell? ⟨blk, off + l * 2, none⟩ = some (.int .u64 y.1) := fun n os => by rw [← hy]; exact se_c0 (S2.out.grown n os) R (by omega) (by omega)
          have c4 : ∀ n os, (grow (wr.drewN n) os).cell? ⟨blk, off + l * 2 + 1, none⟩ = some (.int .i64 y.2) := fun n os => by rw [← hy]; exact se_c1 (S2.out.grown n os) R (by omega) (by omega)
          have HX : Hid _ := hx
          have HY : Hid _ := hy
          clear hx hy
          cases hL : ltE x y with
          | true =>
            have hv := cfE_neg x y hL
            have hd : decide (cfE x y < 0) = true := decide_eq_true hv
            have HL : Hid (ltE dj[l + 1]! dj[l + 1 - 1]! = true) := by show ltE dj[l + 1]! dj[l]! = true; rw [HX.out, HY.out]; exact hL
            clear hL
            go_wp2_with fail
            go_quiet_grown (first | (go_at_call 66; exact cmp_grown x y _ _ _))
            have S3 : Aside (SE w0 blk off dj (grow (wr.drewN nq) osq)) := S2.out.grown nq osq
            clear c1 c2 c3 c4 S2
            generalize grow (wr.drewN nq) osq = w3 at S3 ⊢
            have c1 := se_c0 S3.out R (by omega) (show l + 1 < dj.size by omega)
            have c2 := se_c1 S3.out R (by omega) (show l + 1 < dj.size by omega)
            have c3 := se_c0 S3.out R (by omega) (show l < dj.size by omega)
            have c4 := se_c1 S3.out R (by omega) (show l < dj.size by omega)
            have f1 := se_f0 S3.out R (by omega) (show l + 1 < dj.size by omega)
            have f2 := se_f1 S3.out R (by omega) (show l + 1 < dj.size by omega)
            have f3 := se_f0 S3.out R (by omega) (show l < dj.size by omega)
            have f4 := se_f1 S3.out R (by omega) (show l < dj.size by omega)
            have sw := se_swap S3.out R (show l + 1 < dj.size by omega) (show l < dj.size by omega)
            rw [HX.out] at c1 c2 sw
            rw [HY.out] at c3 c4 sw
            have S4 : Aside _ := sw
            clear sw S3
            go_wp2_with fail
            go_region
            clear c1 c2 c3 c4 f1 f2 f3 f4
            generalize World.drew _ = w4 at S4 ⊢
            go_wp2
            go_roundg l
            case measure => omega
            case rel =>
              refine ⟨l, swp dj (l + 1) l, by first | rfl | go_num, by omega, by omega, Nat.le_refl _, by rw [size_swp]; exact hsj, S4, (show Hid _ from ?_)⟩
              show _ = _
              rw [← HI.out, insInner_go ltE a (l + 1) dj hja HL.out]
              rfl
          | false =>
            have hv := cfE_not x y hL
            have hd : decide (cfE x y < 0) = false := decide_eq_false hv
            have HL : Hid (ltE dj[l + 1]! dj[l + 1 - 1]! = false) := by show ltE dj[l + 1]! dj[l]! = false; rw [HX.out, HY.out]; exact hL
            clear hL
            go_wp2_with fail
            go_quiet_grown (first | (go_at_call 66; exact cmp_grown x y _ _ _))
            have S3 : Aside (SE w0 blk off dj (grow (wr.drewN nq) osq)) := S2.out.grown nq osq
            clear c1 c2 c3 c4 S2
            generalize grow (wr.drewN nq) osq = w3 at S3 ⊢
            go_wp2
            go_roundg (b - (i + 1))
            case measure => omega
            case rel => exact ⟨i + 1, dj, by go_num, by omega, by omega, by omega, hsj, S3, OUT.out (.inr HL.out)⟩
        · have hjaz : decide ((a : Int) < (j : Int)) = false := decide_eq_false (by omega)
          have hjaz' : ¬ (a : Int) < (j : Int) := by omega
          go_wp2_with fail
          go_quiet (fail)
          have S3 : Aside (SE w0 blk off dj (wr.drewN nq)) := S2.out.drewN nq
          clear S2
          generalize wr.drewN nq = w3 at S3 ⊢
          go_wp2
          go_roundg (b - (i + 1))
          case measure => omega
          case rel => exact ⟨i + 1, dj, by go_num, by omega, by omega, by omega, hsj, S3, OUT.out (.inl (by omega))⟩
    · have hltz : ¬ (i : Int) < (b : Int) := by omega
      go_wp2
      go_end0
      have := insertionSort_holds (lt := ltE) swoE d a b hab hb
      refine ⟨rfl, dk, S1.out, ?_⟩
      have e : insertionSort ltE d a b = dk := by unfold Sort.insertionSort; rw [← HO.out, insOuter_stop _ _ _ _ _ hlt]
      rw [e] at this
      exact this
end Go.Proofs.Ytboccihcomaaoaa
