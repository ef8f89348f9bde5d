/- 'BodyTexts': the walk. -/
import Derived.Test.YtoidkiodlfpefaaDoorBdV
import Derived.Test.YtoidkiodlfpefaaDoorBdW
import Derived.Test.YtoidkiodlfpefaaDoorBdT
namespace Go.Proofs.YtoidkiodlfpefaaDoor
open Go.RowKit Go.Lib Go.Shelf Go.Sort
set_option linter.unusedVariables false
set_option maxRecDepth 10000

set_option maxHeartbeats 1600000 in
set_option maxRecDepth 100000 in
theorem bodyTexts_ops (a1 a2 : Option Addr) (c1 c2 : Nat) (d e : List OpR) (w : World) (h1 : IsG rO w a1 c1 d) (h2 : IsG rO w a2 c2 e) (hN : Tb w) :
    Calls Tryd.prog 5 #[.slice a1 d.length c1, .slice a2 e.length c2] w fun r w' => r = .returned (.bool true) ∧ Below w.heap.size w w' := by
  have hl1 := h1.len
  have hl2 := h2.len
  have TB : Aside (Tb w) := hN
  have H1 : Aside (IsG rO w a1 c1 d) := h1
  have H2 : Aside (IsG rO w a2 c2 e) := h2
  clear hN h1 h2
  by_cases hb : 40 < d.length
  · have hb' : (40 : Int) < (d.length : Int) := by omega
    have aq := awake_any w TB.out
    go_enter Tryd.func5, Tryd.ntmps5
    go_wp2_with fail
    refine aq.mono ?_
    rintro r w1 ⟨rfl, b1⟩
    go_wp2
    go_ret
    exact ⟨rfl, b1⟩
  · have hb' : ¬ (40 : Int) < (d.length : Int) := by omega
    by_cases hc : 40 < e.length
    · have hc' : (40 : Int) < (e.length : Int) := by omega
      have aq := awake_any w TB.out
      go_enter Tryd.func5, Tryd.ntmps5
      go_wp2_with fail
      refine aq.mono ?_
      rintro r w1 ⟨rfl, b1⟩
      go_wp2
      go_ret
      exact ⟨rfl, b1⟩
    · have hc' : ¬ (40 : Int) < (e.length : Int) := by omega
      have tq := text_any a1 c1 d w H1.out TB.out
      unfold TextIs at tq
      obtain ⟨OB, hOB⟩ : ∃ b, okL d = b := ⟨_, rfl⟩
      rw [hOB] at tq
      have HOB : Hid _ := hOB
      obtain ⟨EC, hEC⟩ : ∃ c : Int, (if OB = true then (0 : Int) else 1) = c := ⟨_, rfl⟩
      obtain ⟨TX, hTX⟩ : ∃ c : List UInt8, (if OB = true then txtL d else []) = c := ⟨_, rfl⟩
      rw [hEC, hTX] at tq
      have HEC : Hid _ := hEC
      have HTX : Hid _ := hTX
      obtain ⟨SB, hSB⟩ : ∃ b, decide (d = e) = b := ⟨_, rfl⟩
      have HSB : Hid _ := hSB
      obtain ⟨SN, hSN⟩ : ∃ n : Nat, stp d = n := ⟨_, rfl⟩
      have HSN : Hid _ := hSN
      have BT : Aside (∀ W : World, Below w.heap.size w W → Calls Tryd.prog 14 #[.slice a1 d.length c1] W fun x w' => (∃ s : ByteArray, x = .returned (.tuple #[.string s, .bool OB]) ∧ s.data.toList = TX) ∧ Below W.heap.size W w') := fun W hW => by
        have := bodyText_any a1 c1 d W (H1.out.below hW)
        unfold BTextIs at this
        rw [hOB, hTX] at this
        exact this
      have Q1 : Aside (∀ W : World, Below w.heap.size w W → Calls Tryd.prog 8 #[.slice a1 d.length c1] W fun r w' => r = .returned (.bool OB) ∧ Below W.heap.size W w') := fun W hW => by
        have := ok_any a1 c1 d W (H1.out.below hW) (TB.out.below hW)
        rw [hOB] at this
        exact this
      have Q2 : Aside (∀ W : World, Below w.heap.size w W → Calls Tryd.prog 15 #[.slice a1 d.length c1] W fun r w' => r = .returned (.bool OB) ∧ Below W.heap.size W w') := fun W hW => by
        have := bodyOk_any a1 c1 d W (H1.out.below hW)
        rw [hOB] at this
        exact this
      have Q3 : Aside (∀ W : World, Below w.heap.size w W → Calls Tryd.prog 13 #[.slice a1 d.length c1, .slice a2 e.length c2] W fun r w' => r = .returned (.bool SB) ∧ Below W.heap.size W w') := fun W hW => by
        have := same_any a1 a2 c1 c2 d e W (H1.out.below hW) (H2.out.below hW)
        rw [hSB] at this
        exact this
      have Q4 : Aside (∀ W : World, Below w.heap.size w W → Calls Tryd.prog 11 #[.slice a1 d.length c1, .slice a2 e.length c2] W fun r w' => r = .returned (.bool SB) ∧ Below W.heap.size W w') := fun W hW => by
        have := sameB_any a1 a2 c1 c2 d e W (H1.out.below hW) (H2.out.below hW)
        rw [hSB] at this
        exact this
      have Q5 : Aside (∀ W : World, Below w.heap.size w W → Calls Tryd.prog 12 #[.slice a1 d.length c1] W fun r w' => r = .returned (.int .i64 SN) ∧ Below W.heap.size W w') := fun W hW => by
        have := steps_any a1 c1 d W (H1.out.below hW)
        rw [hSN] at this
        exact this
      have Q6 : Aside (∀ W : World, Below w.heap.size w W → Calls Tryd.prog 16 #[.slice a1 d.length c1] W fun r w' => r = .returned (.int .i64 SN) ∧ Below W.heap.size W w') := fun W hW => by
        have := vsteps_any a1 c1 d W (H1.out.below hW)
        rw [hSN] at this
        exact this
      clear hOB hEC hTX hSB hSN
      go_enter Tryd.func5, Tryd.ntmps5
      go_wp2_with fail
      refine tq.mono ?_
      rintro r w1 ⟨⟨s, rfl, hs⟩, b1⟩
      have B1 : Aside (Below w.heap.size w w1) := b1
      have HS : Hid _ := hs
      clear tq hs b1
      have q := BT.out w1 B1.out
      go_wp2_with fail
      refine q.mono ?_
      rintro r w2 ⟨⟨t, rfl, ht⟩, b2⟩
      have B2 : Aside (Below w.heap.size w w2) := Below.tr B1.out b2
      have HT : Hid _ := ht
      clear q ht b2
      have q := Q1.out w2 B2.out
      go_wp2_with fail
      refine q.mono ?_
      rintro r w3 ⟨rfl, b3⟩
      have B3 : Aside (Below w.heap.size w w3) := Below.tr B2.out b3
      clear q b3
      have q := Q2.out w3 B3.out
      go_wp2_with fail
      refine q.mono ?_
      rintro r w4 ⟨rfl, b4⟩
      have B4 : Aside (Below w.heap.size w w4) := Below.tr B3.out b4
      clear q b4
      have q := Q3.out w4 B4.out
      have eb1 : (OB != OB) = false := by simp
      have eb2 : (!(OB == OB)) = false := by simp
      go_wp2_with fail
      refine q.mono ?_
      rintro r w5 ⟨rfl, b5⟩
      have B5 : Aside (Below w.heap.size w w5) := Below.tr B4.out b5
      clear q b5
      have q := Q4.out w5 B5.out
      go_wp2_with fail
      refine q.mono ?_
      rintro r w6 ⟨rfl, b6⟩
      have B6 : Aside (Below w.heap.size w w6) := Below.tr B5.out b6
      clear q b6
      have q := Q5.out w6 B6.out
      have eb3 : (!(SB == SB)) = false := by simp
      go_wp2_with fail
      refine q.mono ?_
      rintro r w7 ⟨rfl, b7⟩
      have B7 : Aside (Below w.heap.size w w7) := Below.tr B6.out b7
      clear q b7
      have q := Q6.out w7 B7.out
      go_wp2_with fail
      refine q.mono ?_
      rintro r w8 ⟨rfl, b8⟩
      have B8 : Aside (Below w.heap.size w w8) := Below.tr B7.out b8
      clear q b8 Q1 Q2 Q3 Q4 Q5 Q6 BT
      cases OB with
      | false =>
        have e1 : EC = 1 := HEC.out.symm
        have e2 : TX = [] := HTX.out.symm
        have e3 : s.toList = [] := by rw [ByteArray.toList_eq, HS.out, e2]
        clear HEC HTX
        subst e1
        have aq := awake_any w8 (TB.out.below B8.out)
        go_wp2_with fail
        refine aq.mono ?_
        rintro r w9 ⟨rfl, b9⟩
        go_wp2
        go_ret
        exact ⟨rfl, Below.tr B8.out b9⟩
      | true =>
        have e1 : EC = 0 := HEC.out.symm
        have e2 : TX = txtL d := HTX.out.symm
        have e3 : s.toList = t.toList := by rw [ByteArray.toList_eq, ByteArray.toList_eq, HS.out, HT.out]
        clear HEC HTX
        subst e1
        obtain ⟨k1, k2⟩ := code_txt HOB.out
        have pq := parse_any s (txtL d) (by rw [HS.out, e2]) w8 (TB.out.below B8.out)
        unfold ParseIs at pq
        rw [k1, k2] at pq
        go_wp2_with fail
        refine pq.mono ?_
        rintro r w9 ⟨v, rfl, o9, b9⟩
        obtain ⟨a3, c3, rfl, L3⟩ := o9.isG
        have B9 : Aside (Below w.heap.size w w9) := Below.tr B8.out b9
        have sq := sameB_any a3 a1 c3 c1 d d w9 L3 (H1.out.below B9.out)
        rw [decide_eq_true (rfl : d = d)] at sq
        clear pq o9 b9 L3
        go_wp2_with fail
        refine sq.mono ?_
        rintro r wa ⟨rfl, ba⟩
        have BA : Aside (Below w.heap.size w wa) := Below.tr B9.out ba
        have aq := awake_any wa (TB.out.below BA.out)
        clear sq ba
        go_wp2_with fail
        refine aq.mono ?_
        rintro r wb ⟨rfl, bb⟩
        go_wp2
        go_ret
        exact ⟨rfl, Below.tr BA.out bb⟩

theorem bodyTexts_walk (a1 : Option Addr) (len1 c1 : Nat) (d : List OpR) (a2 : Option Addr) (len2 c2 : Nat) (e : List OpR) (w : World) (h1 : d.length = len1 ∧ IsG rO w a1 c1 d) (h2 : e.length = len2 ∧ IsG rO w a2 c2 e) (hN : Tb w) :
    Calls Tryd.prog 5 #[.slice a1 len1 c1, .slice a2 len2 c2] w fun r w' => r = .returned (.bool true) ∧ Below w.heap.size w w' := by
  obtain ⟨rfl, h1⟩ := h1
  obtain ⟨rfl, h2⟩ := h2
  exact bodyTexts_ops a1 a2 c1 c2 d e w h1 h2 hN

end Go.Proofs.YtoidkiodlfpefaaDoor
