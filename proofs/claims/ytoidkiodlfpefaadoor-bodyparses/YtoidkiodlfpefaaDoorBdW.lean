/- awake: what the document fixes. -/
import Derived.Test.YtoidkiodlfpefaaDoorBdF
namespace Go.Proofs.YtoidkiodlfpefaaDoor
open Go.RowKit Go.Lib Go.Shelf Go.Sort
set_option linter.unusedVariables false
set_option maxRecDepth 10000

def awL : List UInt8 := [115, 117, 98, 109, 105, 116, 32, 51, 59, 112, 97, 110, 105, 99]
def awO : List OpR := [(2, 3, 0), (5, 0, 0)]
theorem aw_code : codeL awL = 0 := by decide
theorem aw_ops : opsL awL = awO := by decide
theorem aw_ok : okL awO = true := by decide
theorem aw_stp : stp awO = 2 := by decide
theorem aw_txt : txtL awO = awL := by
  have e : decDigits 3 = [51] := by rw [decDigits, dif_pos (by decide)]; rfl
  have e1 : txtO (2, 3, 0) = [115, 117, 98, 109, 105, 116, 32, 51] := by
    unfold txtO
    rw [show itoa ((2, 3, 0) : OpR).2.1 = decDigits 3 from itoa_nat (by decide), e]
    rfl
  have e2 : txtO (5, 0, 0) = [112, 97, 110, 105, 99] := rfl
  unfold txtL awO
  rw [if_neg (by simp), List.map_cons, List.map_cons, List.map_nil, e1, e2]
  rfl
set_option maxHeartbeats 1600000 in
set_option maxRecDepth 100000 in
theorem awake_any (w : World) (t : Tb w) : Calls Tryd.prog 9 #[] w fun e w' => e = .returned (.bool true) ∧ Below w.heap.size w w' := by
  have pq := parse_any ⟨#[115, 117, 98, 109, 105, 116, 32, 51, 59, 112, 97, 110, 105, 99]⟩ awL rfl w t
  unfold ParseIs at pq
  rw [aw_code, aw_ops] at pq
  have TB : Aside (Tb w) := t
  clear t
  go_enter Tryd.func9, Tryd.ntmps9
  go_wp2_with fail
  refine pq.mono ?_
  rintro r w1 ⟨v, rfl, o1, b1⟩
  obtain ⟨a, cap, rfl, L⟩ := o1.isG
  have TB1 : Aside (Tb w1) := TB.out.below b1
  have tq := text_any a cap awO w1 L TB1.out
  unfold TextIs at tq
  rw [aw_ok, if_pos rfl, if_pos rfl, aw_txt] at tq
  rw [show awO.length = 2 from rfl] at tq ⊢
  have LL : Aside (IsG rO w1 a cap awO) := L
  have B1 : Aside (Below w.heap.size w w1) := b1
  clear L o1 b1 pq
  go_wp2_with fail
  refine tq.mono ?_
  rintro r w2 ⟨⟨s, rfl, hs⟩, b2⟩
  have ht : s.toList = [115, 117, 98, 109, 105, 116, 32, 51, 59, 112, 97, 110, 105, 99] := by rw [ByteArray.toList_eq, hs]; rfl
  have L2 := LL.out.below b2
  obtain ⟨b, off, rfl, hb, c0, c1, c2⟩ := opAt L2 (i := 0) (x := (2, 3, 0)) rfl
  have sq := steps_any (some ⟨b, off, none⟩) cap awO w2 L2
  rw [aw_stp, show awO.length = 2 from rfl] at sq
  have c1' : w2.cell? ⟨b, off + 1, none⟩ = some (.int .i64 3) := by simpa using c1
  have B2 : Aside (Below w.heap.size w w2) := Below.tr B1.out b2
  clear c0 c1 c2 tq LL L2 hs b2
  go_wp2_with fail
  refine sq.mono ?_
  rintro r w3 ⟨rfl, b3⟩
  go_wp2
  go_ret
  exact ⟨rfl, Below.tr B2.out b3⟩

end Go.Proofs.YtoidkiodlfpefaaDoor
