/- What Take and Give answer, the document's too; awake. -/
import Derived.Test.YtigaonoilbakfaaCrd
namespace Go.Proofs.Ytigaonoilbakfaa
open Go.RowKit
set_option linter.unusedVariables false
variable {w w' : World} {a b r n o m : Nat}

theorem maxU (s : TypeId) (us : Array TypeId) (x y K : Int) (h : max x y = K) (w : World) : (Builtin.max_ us s #[.int .u64 x, .int .u64 y]).run Try.prog w = .ok (.int .u64 K) w := by
  have e : (if x < y then y else x) = K := by split <;> omega
  rw [← e]
  rfl
theorem maxI (s : TypeId) (us : Array TypeId) (x y K : Int) (h : max x y = K) (w : World) : (Builtin.max_ us s #[.int .i64 x, .int .i64 y]).run Try.prog w = .ok (.int .i64 K) w := by
  have e : (if x < y then y else x) = K := by split <;> omega
  rw [← e]
  rfl
theorem take_no (w : World) (h : Cr w a b r n n m) :
    Calls Try.prog 7 #[.pointer (some ⟨a, 0, none⟩)] w fun e w' => e = .returned (.bool false) ∧ Cr w' a b r n n m ∧ Kept b b r w w' := by
  have H : Hid _ := h
  have hz : ((n : Int) - n == 0) = true := by simp
  clear h
  go_enter Try.func7, Try.ntmps7
  go_wp2_with fail
  refine (free_any w H.out).mono ?_
  rintro e w1 ⟨rfl, h4, hk⟩
  have HK : Hid _ := And.intro h4 hk
  clear h4 hk
  go_wp2_with fail
  go_ret
  exact ⟨rfl, HK.out.1, HK.out.2⟩
theorem take_ok (w : World) (h : Cr w a b r n o m) (ho : o < n) :
    Calls Try.prog 7 #[.pointer (some ⟨a, 0, none⟩)] w fun e w' => e = .returned (.bool true) ∧ Cr w' a b r n (o + 1) (max m (o + 1)) ∧ Kept b b r w w' := by
  have H : Hid _ := h
  have hz : ((n : Int) - o == 0) = false := by simp; omega
  have q1 := h.om
  have q2 := h.mn
  have q3 := h.most
  clear h
  obtain ⟨p, hp⟩ : ∃ p, o + 1 = p := ⟨_, rfl⟩
  rw [hp]
  go_enter Try.func7, Try.ntmps7
  go_wp2_with fail
  refine (free_any w H.out).mono ?_
  rintro e w1 ⟨rfl, h4, hk⟩
  have c1 := h4.c1
  obtain ⟨ws, m1, m2, m3⟩ := h4.mem
  have HK : Hid _ := And.intro h4 hk
  clear h4 hk
  go_wp2_with fail
  have eP : ((o : Int) + 1) % 18446744073709551616 = (p : Int) := by omega
  refine (madd_in w1 b r 2 ws 0 1 o (p : Int) m1 (by omega) m2 eP).mono ?_
  rintro e w2 ⟨rfl, m4, k2⟩
  obtain ⟨K, hK⟩ : ∃ K : Nat, K = max m p := ⟨_, rfl⟩
  have hmax := maxU 42 #[42, 42] (p : Int) (m : Int) K (by omega)
  have e1 : putW ws 0 (p : Int) 1 = m := by rw [putW_other _ _ _ _ (by omega), m3]
  have hd : w2.cell? ⟨a, 1, none⟩ = some (.pointer (some ⟨b, 0, none⟩)) := (k2.cell HK.out.1.alt HK.out.1.nb HK.out.1.nb HK.out.1.nr).trans c1
  have m4' : WAt w2.drew b r 2 (putW ws 0 (p : Int)) := m4.drew
  have alt2 : Hid (a < w2.drew.heap.size) := Nat.lt_of_lt_of_le HK.out.1.alt k2.size
  have nb : Hid (a ≠ b ∧ a ≠ r) := ⟨HK.out.1.nb, HK.out.1.nr⟩
  have K2 : Hid _ := k2.drew
  have hKh : Hid _ := hK
  have kb : K ≤ 64 := by omega
  clear m1 m4 k2 hz eP hK
  go_wp2_with fail
  go_region_held3 (fun w' => w'.cell? ⟨a, 1, none⟩ = some (.pointer (some ⟨b, 0, none⟩))) (go_keep) ((first | (go_at_call 17; refine (mstore_in _ b r 2 _ 1 (K : Int) m5 (by omega) (by omega) (by omega)).mono ?_; rintro e w4 ⟨rfl, m6, k4⟩; have hd4 : w4.cell? ⟨a, 1, none⟩ = some (.pointer (some ⟨b, 0, none⟩)) := (k4.cell alt3.out nb.out.1 nb.out.1 nb.out.2).trans hd3) | (go_at_call 18; refine (mload_in _ b r 2 _ 1 m4' (by omega)).mono ?_; rintro e w3 ⟨rfl, m5, k3⟩; rw [e1]; have hd3 : w3.cell? ⟨a, 1, none⟩ = some (.pointer (some ⟨b, 0, none⟩)) := (k3.cell alt2.out nb.out.1 nb.out.1 nb.out.2).trans hd; have alt3 : Hid (a < w3.heap.size) := Nat.lt_of_lt_of_le alt2.out k3.size)))
  have KK : Hid _ := And.intro m6 ((K2.out.trans k3).trans k4)
  clear m6 k3 k4 m5 m4'
  go_wp2_with fail
  go_ret
  refine ⟨rfl, ?_, HK.out.2.trans KK.out.2⟩
  have hK := hKh.out
  rw [← hK]
  exact HK.out.1.turn KK.out.2 KK.out.1 (by rw [putW_other _ _ _ _ (by omega)]; simp) (by simp) (by omega) (by omega)
theorem give_no (w : World) (h : Cr w a b r n 0 m) :
    Calls Try.prog 8 #[.pointer (some ⟨a, 0, none⟩)] w fun e w' => e = .returned (.int .i64 7) ∧ Cr w' a b r n 0 m ∧ Kept b b r w w' := by
  have H : Hid _ := h
  clear h
  go_enter Try.func8, Try.ntmps8
  go_wp2_with fail
  refine (out_any w H.out).mono ?_
  rintro e w1 ⟨rfl, h4, hk⟩
  have HK : Hid _ := And.intro h4 hk
  clear h4 hk
  go_wp2_with fail
  go_ret
  exact ⟨rfl, HK.out.1, HK.out.2⟩
theorem give_ok (w : World) (h : Cr w a b r n (o + 1) m) :
    Calls Try.prog 8 #[.pointer (some ⟨a, 0, none⟩)] w fun e w' => e = .returned (.int .i64 0) ∧ Cr w' a b r n o m ∧ Kept b b r w w' := by
  have H : Hid _ := h
  have q1 := h.om
  have q2 := h.mn
  have q3 := h.most
  clear h
  obtain ⟨p, hp⟩ : ∃ p, o + 1 = p := ⟨_, rfl⟩
  rw [hp] at H
  have hz : ((p : Int) == 0) = false := by simp; omega
  go_enter Try.func8, Try.ntmps8
  go_wp2_with fail
  refine (out_any w H.out).mono ?_
  rintro e w1 ⟨rfl, h4, hk⟩
  have c1 := h4.c1
  obtain ⟨ws, m1, m2, m3⟩ := h4.mem
  have HK : Hid _ := And.intro h4 hk
  clear h4 hk
  go_wp2_with fail
  refine (madd_in w1 b r 2 ws 0 18446744073709551615 p (o : Int) m1 (by omega) m2 (by omega)).mono ?_
  rintro e w2 ⟨rfl, m4, k2⟩
  have KK : Hid _ := And.intro m4 k2
  clear m4 k2 m1
  go_wp2_with fail
  go_ret
  exact ⟨rfl, HK.out.1.turn KK.out.2 KK.out.1 (by simp) (by rw [putW_other _ _ _ _ (by omega), m3]) (by omega) q2, HK.out.2.trans KK.out.2⟩
end Go.Proofs.Ytigaonoilbakfaa
