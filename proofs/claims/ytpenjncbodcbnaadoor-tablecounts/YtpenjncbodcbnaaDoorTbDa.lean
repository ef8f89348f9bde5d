/- table.Turn: contracts. -/
import Derived.Test.YtpenjncbodcbnaaDoorTbD
namespace Go.Proofs.YtpenjncbodcbnaaDoor
open Go.RowKit Go.Lib Go.WideMaps Go.Maps
set_option linter.unusedVariables false
variable {w w' u : World} {B a b r M n g cap i O : Nat} {v v' : Value} {T T' : List TR} {x y : TR} {ws ws' : Nat → Int} {fc fc' : Int × Int → Option Value}
theorem tf_abr {B a b r M : Nat} {v : Value} {j : Nat} (h : j = a ∨ j = b ∨ j = r) : tf B a b r M v j := by
  rcases h with rfl | rfl | rfl
  · exact .inr (.inl rfl)
  · exact .inr (.inr (.inl rfl))
  · exact .inr (.inr (.inr (.inl rfl)))
set_option maxHeartbeats 4000000 in
set_option maxRecDepth 100000 in
theorem tturn_arg (h : Tab w B a b r M n (.slice (some ⟨g, 0, none⟩) T.length cap) T ws fc) (I : TInv T ws fc n) (hn : n ≤ 1000) (hi : T[i]? = some x) (s : Int) (hs : s < 1 ∨ 6 < s) :
    Calls Tryd.prog 7 #[.pointer (some ⟨B, 0, none⟩), .int .i64 ((i : Int) + 1), .int .i64 s] w fun e w' => e = .returned (.int .i64 1) ∧ Tab w' B a b r M n (.slice (some ⟨g, 0, none⟩) T.length cap) T ws fc ∧ Fr (tf B a b r M (.slice (some ⟨g, 0, none⟩) T.length cap)) w w' := by
  have HS : Aside (s < 1 ∨ 6 < s) := hs
  clear hs
  have hlen : i < T.length := (List.getElem?_eq_some_iff.1 hi).1
  have hin : i < n := by have := I.le; omega
  have okx := I.ok x (List.mem_of_getElem? hi)
  have hst := I.st i x hi
  obtain ⟨O, hO⟩ : ∃ O, i * 9 = O := ⟨_, rfl⟩
  have hf := find_in h hlen (by have := I.le; omega)
  rw [hO] at hf
  have c0 := h.c0
  have hS := state_in w a b r n ws h.arn i hin
  rw [hst] at hS
  have HI : Aside (TInv T ws fc n) := I
  have HT : Aside (Tab w B a b r M n (.slice (some ⟨g, 0, none⟩) T.length cap) T ws fc ∧ T[i]? = some x ∧ i * 9 = O ∧ ws i % 8 = x.s ∧ i < n) := ⟨h, hi, hO, hst, hin⟩
  obtain ⟨X, hX⟩ : ∃ X, x.s = X := ⟨_, rfl⟩
  rw [hX] at hS
  have HX : Aside (x.s = X) := hX
  clear h I hi hO hst hlen hX
  go_enter Tryd.func7, Tryd.ntmps7
  go_wp2_with fail
  refine hf.mono ?_
  rintro e w1 ⟨rfl, rfl⟩
  clear hf
  go_wp2_with fail
  refine hS.mono ?_
  rintro e w2 ⟨rfl, a2, k2⟩
  clear hS c0
  have X2 : Aside (Tab w2.drew B a b r M n (.slice (some ⟨g, 0, none⟩) T.length cap) T ws fc ∧ Fr (tf B a b r M (.slice (some ⟨g, 0, none⟩) T.length cap)) w1 w2.drew) := ⟨(HT.out.1.setA k2 a2).drew, ((Fr.refl _ w1).trans (Fr.kept k2) (fun j hj => .inl (tf_abr hj))).drew⟩
  have c0 : w2.drew.cell? ⟨B, 0, none⟩ = some (.pointer (some ⟨a, 0, none⟩)) := X2.out.1.c0
  have HW : Aside _ := word_in w2.drew a b r n ws X2.out.1.arn i HT.out.2.2.2.2
  clear a2 k2
  go_upto_region 5 with fail
  go_region_held3 (fun w' => w'.cell? ⟨B, 0, none⟩ = some (.pointer (some ⟨a, 0, none⟩))) (go_keep) ((first | (go_at_call 24; refine Calls.mono (turn_arg v3 a b r n ws X3.out.arn _ _ s (.inr (.inr HS.out))) ?_; rintro e v4 ⟨rfl, rfl⟩; have x0 : v4.cell? ⟨B, 0, none⟩ = some (.pointer (some ⟨a, 0, none⟩)) := by exact x0) | (go_at_call 25; refine Calls.mono HW.out ?_; rintro e v3 ⟨rfl, a3, k3⟩; have X3 : Aside (Tab v3 B a b r M n (.slice (some ⟨g, 0, none⟩) T.length cap) T ws fc) := (X2.out.1.setA k3 a3); have x0 : v3.cell? ⟨B, 0, none⟩ = some (.pointer (some ⟨a, 0, none⟩)) := X3.out.c0)))
  go_wp2_with fail
  go_ret
  exact ⟨rfl, X3.out, X2.out.2.trans (Fr.kept k3) (fun j hj => .inl (tf_abr hj))⟩
set_option maxHeartbeats 4000000 in
set_option maxRecDepth 100000 in
theorem tturn_state (h : Tab w B a b r M n (.slice (some ⟨g, 0, none⟩) T.length cap) T ws fc) (I : TInv T ws fc n) (hn : n ≤ 1000) (hi : T[i]? = some x) (s : Int) (hs : 1 ≤ s ∧ s ≤ 6) (hc : canB x.s s = false) :
    Calls Tryd.prog 7 #[.pointer (some ⟨B, 0, none⟩), .int .i64 ((i : Int) + 1), .int .i64 s] w fun e w' => e = .returned (.int .i64 7) ∧ Tab w' B a b r M n (.slice (some ⟨g, 0, none⟩) T.length cap) T ws fc ∧ Fr (tf B a b r M (.slice (some ⟨g, 0, none⟩) T.length cap)) w w' := by
  have HS : Aside ((1 ≤ s ∧ s ≤ 6) ∧ canB x.s s = false) := ⟨hs, hc⟩
  clear hs hc
  have hlen : i < T.length := (List.getElem?_eq_some_iff.1 hi).1
  have hin : i < n := by have := I.le; omega
  have okx := I.ok x (List.mem_of_getElem? hi)
  have hst := I.st i x hi
  obtain ⟨O, hO⟩ : ∃ O, i * 9 = O := ⟨_, rfl⟩
  have hf := find_in h hlen (by have := I.le; omega)
  rw [hO] at hf
  have c0 := h.c0
  have hS := state_in w a b r n ws h.arn i hin
  rw [hst] at hS
  have HI : Aside (TInv T ws fc n) := I
  have HT : Aside (Tab w B a b r M n (.slice (some ⟨g, 0, none⟩) T.length cap) T ws fc ∧ T[i]? = some x ∧ i * 9 = O ∧ ws i % 8 = x.s ∧ i < n) := ⟨h, hi, hO, hst, hin⟩
  obtain ⟨X, hX⟩ : ∃ X, x.s = X := ⟨_, rfl⟩
  rw [hX] at hS
  have HX : Aside (x.s = X) := hX
  clear h I hi hO hst hlen hX
  go_enter Tryd.func7, Tryd.ntmps7
  go_wp2_with fail
  refine hf.mono ?_
  rintro e w1 ⟨rfl, rfl⟩
  clear hf
  go_wp2_with fail
  refine hS.mono ?_
  rintro e w2 ⟨rfl, a2, k2⟩
  clear hS c0
  have X2 : Aside (Tab w2.drew B a b r M n (.slice (some ⟨g, 0, none⟩) T.length cap) T ws fc ∧ Fr (tf B a b r M (.slice (some ⟨g, 0, none⟩) T.length cap)) w1 w2.drew) := ⟨(HT.out.1.setA k2 a2).drew, ((Fr.refl _ w1).trans (Fr.kept k2) (fun j hj => .inl (tf_abr hj))).drew⟩
  have c0 : w2.drew.cell? ⟨B, 0, none⟩ = some (.pointer (some ⟨a, 0, none⟩)) := X2.out.1.c0
  have HW : Aside _ := word_in w2.drew a b r n ws X2.out.1.arn i HT.out.2.2.2.2
  clear a2 k2
  go_upto_region 5 with fail
  go_region_held3 (fun w' => w'.cell? ⟨B, 0, none⟩ = some (.pointer (some ⟨a, 0, none⟩))) (go_keep) ((first | (go_at_call 24; refine Calls.mono (turn_state v3 a b r n ws X3.out.arn i HT.out.2.2.2.2 (ws i) s (X3.out.arn.fits i HT.out.2.2.2.2).1 (X3.out.arn.fits i HT.out.2.2.2.2).2 HS.out.1.1 HS.out.1.2 (by rw [HT.out.2.2.2.1]; exact HS.out.2)) ?_; rintro e v4 ⟨rfl, a4, k4⟩; have X4 : Aside (Tab v4 B a b r M n (.slice (some ⟨g, 0, none⟩) T.length cap) T ws fc) := X3.out.setA k4 a4; have x0 : v4.cell? ⟨B, 0, none⟩ = some (.pointer (some ⟨a, 0, none⟩)) := by exact X4.out.c0) | (go_at_call 25; refine Calls.mono HW.out ?_; rintro e v3 ⟨rfl, a3, k3⟩; have X3 : Aside (Tab v3 B a b r M n (.slice (some ⟨g, 0, none⟩) T.length cap) T ws fc) := (X2.out.1.setA k3 a3); have x0 : v3.cell? ⟨B, 0, none⟩ = some (.pointer (some ⟨a, 0, none⟩)) := X3.out.c0)))
  go_wp2_with fail
  go_ret
  exact ⟨rfl, X4.out, (X2.out.2.trans (Fr.kept k3) (fun j hj => .inl (tf_abr hj))).trans (Fr.kept k4) (fun j hj => .inl (tf_abr hj))⟩
end Go.Proofs.YtpenjncbodcbnaaDoor
