/- 'BodyParses': the walk. -/
import Derived.Test.YtoidkiodlfpefaaDoorBdZ
import Derived.Test.YtoidkiodlfpefaaDoorBdW
namespace Go.Proofs.YtoidkiodlfpefaaDoor
open Go.RowKit Go.Lib Go.Shelf Go.Sort
set_option linter.unusedVariables false
set_option maxRecDepth 10000

set_option maxHeartbeats 1600000 in
set_option maxRecDepth 100000 in
theorem bodyParses_walk (s : ByteArray) (w : World) (ws : s.size ≤ maxLen) (hN : Tb w) :
    Calls Tryd.prog 6 #[.string s] w fun r w' => r = .returned (.bool true) ∧ Below w.heap.size w w' := by
  obtain ⟨l, hl⟩ : ∃ l, s.data.toList = l := ⟨_, rfl⟩
  have pq := parse_any s l hl w hN
  have bq := bodyOf_any s l hl
  unfold ParseIs at pq bq
  obtain ⟨c, hc⟩ : ∃ c, codeL l = c := ⟨_, rfl⟩
  obtain ⟨d, hd⟩ : ∃ d, opsL l = d := ⟨_, rfl⟩
  rw [hc, hd] at pq
  have BQ : Aside (∀ W : World, Calls Tryd.prog 17 #[.string s] W fun e w' => ∃ v, e = .returned (.tuple #[v, .int .i64 c]) ∧ OwnG rO w' W.heap.size v d ∧ Below W.heap.size W w') := fun W => by
    have := bq W
    rw [hc, hd] at this
    exact this
  have TB : Aside (Tb w) := hN
  clear bq hc hd hN hl
  go_enter Tryd.func6, Tryd.ntmps6
  go_wp2_with fail
  refine pq.mono ?_
  rintro r w1 ⟨v1, rfl, o1, b1⟩
  obtain ⟨a1, c1, rfl, L1⟩ := o1.isG
  have B1 : Aside (Below w.heap.size w w1) := b1
  have I1 : Aside (IsG rO w1 a1 c1 d) := L1
  have q2 := BQ.out w1
  clear pq o1 b1 L1 BQ
  go_wp2_with fail
  refine q2.mono ?_
  rintro r w2 ⟨v2, rfl, o2, b2⟩
  obtain ⟨a2, c2, rfl, L2⟩ := o2.isG
  have B2 : Aside (Below w.heap.size w w2) := Below.tr B1.out b2
  have sq := sameB_any a1 a2 c1 c2 d d w2 (I1.out.below b2) L2
  rw [decide_eq_true (rfl : d = d)] at sq
  clear q2 o2 b2 L2 I1
  go_wp2_with fail
  refine sq.mono ?_
  rintro r w3 ⟨rfl, b3⟩
  have B3 : Aside (Below w.heap.size w w3) := Below.tr B2.out b3
  have aq := awake_any w3 (TB.out.below B3.out)
  clear sq b3
  go_wp2_with fail
  refine aq.mono ?_
  rintro r w4 ⟨rfl, b4⟩
  go_wp2
  go_ret
  exact ⟨rfl, Below.tr B3.out b4⟩

end Go.Proofs.YtoidkiodlfpefaaDoor
