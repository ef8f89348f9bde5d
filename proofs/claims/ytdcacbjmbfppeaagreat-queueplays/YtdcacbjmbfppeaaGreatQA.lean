/- queue: All. -/
import Derived.Test.YtdcacbjmbfppeaaGreatQT
import Derived.Test.YtdcacbjmbfppeaaGreatQL
namespace Go.Proofs.YtdcacbjmbfppeaaGreat
open Go.RowKit Go.Lib Go.Sort
set_option linter.unusedVariables false

theorem listsQ_flat_le {K T N : Nat} {s : QSt} (ok : QOk K T N s) (hN : N ≤ 1000) (hK : K ≤ 16) (h8 : T ≤ 8) {sl ow : Nat → List Ent} {sh : List Ent} (v : View T s sl ow sh) : (listsQ s T).flatten.length ≤ 1000000 := by
  have e : (listsQ s T).flatten.length = lenQ s T := by
    rw [v.lists, v.lenQ]
    simp [List.flatMap_def, List.flatten_append]
    omega
  rw [e]
  unfold lenQ
  have a := slAll_len s.g T
  have b := ok.hsum
  have c := ownN_le ok T (Nat.le_refl _)
  have d : K * T ≤ 16 * 8 := Nat.mul_le_mul hK h8
  omega
set_option maxHeartbeats 2000000 in
theorem qall_any (w : World) (base : Nat) (A : QAd) (T K N : Nat) (s : QSt) (n : Nat) (h : Que w base A T K s) (ok : QOk K T N s) (hN : N ≤ 1000) (hK : K ≤ 16) (h1 : 1 ≤ T) (h8 : T ≤ 8) (hf : (listsQ s T).flatten.length ≤ 1000000) (hn : (listsQ s T).flatten.length = n) :
    Calls Tryz.prog 20 #[ptr A.B] w (PivO w n (sortE (listsQ s T).flatten)) := by
  have li := lists_any w base A T K N s h ok hN hK h1 h8
  have ln := listsQ_len s T
  have LN : Hid _ := ln
  have HN : Hid _ := hn
  have HF : Hid _ := hf
  obtain ⟨m, hm⟩ : ∃ m, 2 * T + 1 = m := ⟨_, rfl⟩
  rw [hm] at li LN
  clear h ok ln hm hn hf
  go_enter Tryz.func20, Tryz.ntmps20
  go_wp2_with fail
  refine li.mono ?_
  rintro r w1 ⟨a, cap, rfl, o1, b1⟩
  rw [← LN.out] at o1
  obtain ⟨a', cap', e1, il⟩ := o1.isLL
  injection e1 with e1 _ e3
  subst e1 e3
  have con := concat_any a cap (listsQ s T) w1 il HF.out
  rw [LN.out] at con
  have B1 : Aside (Below w.heap.size w w1) := b1
  clear o1 b1 il li
  go_wp2_with fail
  refine con.mono ?_
  rintro r w2 ⟨a2, cap2, rfl, o2, b2⟩
  have so := sort_made a2 cap2 (listsQ s T).flatten w2 o2.is HF.out
  rw [HN.out] at so ⊢
  have B2 : Aside (Below w.heap.size w w2) := B1.out.trans (b2.mono B1.out.size)
  clear o2 b2 con
  go_wp2_with fail
  refine so.mono ?_
  rintro r w3 ⟨a3, cap3, rfl, o3, b3⟩
  rw [sortE_len, HN.out] at o3 ⊢
  have M : Aside (PivO w n (sortE (listsQ s T).flatten) (.returned (.slice a3 n cap3)) w3) := ⟨a3, cap3, rfl, o3.low B2.out.size, B2.out.trans (b3.mono B2.out.size)⟩
  clear o3 b3 so
  go_wp2
  go_ret
  exact M.out
end Go.Proofs.YtdcacbjmbfppeaaGreat
