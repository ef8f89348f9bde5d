/- Contract: body.number. -/
import Derived.Test.YtoidkiodlfpefaaDoorBdG
import Derived.Lib.ConvBytes
namespace Go.Proofs.YtoidkiodlfpefaaDoor
open Go.RowKit Go.Lib Go.Shelf Go.Sort
set_option linter.unusedVariables false
set_option maxRecDepth 10000

/-- What is asked of a numeral ahead of its digits. -/
def preB (most : Nat) (l : List UInt8) : Bool := decide (l ≠ []) && (decide (l.length ≤ most) && (decide (l.headD 0 ≠ 48) || decide (l = [48])))
theorem numB_pre (most : Nat) (l : List UInt8) : numB most l = (preB most l && l.all dgt) := by
  unfold numB preB
  rw [Bool.and_assoc, Bool.and_assoc]
theorem numV_next (l : List UInt8) (I : Nat) (h : I < l.length) : numV (l.take (I + 1)) = numV (l.take I) * 10 + (l[I].toNat - 48) := by
  have q1 : l.take (I + 1) = l.take I ++ [l[I]] := List.take_succ_eq_append_getElem h
  unfold numV
  rw [q1, numF_app]
  rfl
theorem all_next {l : List UInt8} {I : Nat} (h : I < l.length) (ha : (l.take I).all dgt = true) (hd : dgt l[I] = true) : (l.take (I + 1)).all dgt = true := by
  rw [List.take_succ_eq_append_getElem h, List.all_append, ha]
  simp [hd]
theorem not_all {l : List UInt8} {I : Nat} (h : I < l.length) (hd : dgt l[I] = false) : l.all dgt = false :=
  List.all_eq_false.2 ⟨l[I], List.getElem_mem h, by rw [hd]; simp⟩
theorem take_lt {l : List UInt8} {most I : Nat} (ha : (l.take I).all dgt = true) (hl : l.length ≤ most) : numV (l.take I) < 10 ^ most := by
  have := numF_lt (l.take I) 0 ha
  rw [Nat.zero_add, Nat.one_mul] at this
  refine Nat.lt_of_lt_of_le this (Nat.pow_le_pow_right (by decide) ?_)
  simp; omega
theorem conv_bytes (s : ByteArray) (w : World) : ∃ w2 cap, (convert 9 62 (.string s)).run Tryd.prog w = .ok (.slice (some ⟨w.heap.size, 0, none⟩) s.size cap) w2 ∧ Below w.heap.size w w2 ∧
    ∀ j (hj : j < s.data.toList.length), w2.cell? ⟨w.heap.size, j, none⟩ = some (.int .u8 ((s.data.toList[j]).toNat : Int)) := by
  refine ⟨_, _, Lib.run_convert_string_bytes w 9 62 5 s Tryd.underlying9 Tryd.underlying62 Tryd.underlying5, ⟨?_, ?_, ?_, ?_, fun k hk => bytesWorld_at_old _ _ _ _ hk⟩, fun j hj => ?_⟩
  · unfold bytesWorld World.freeze; split <;> rfl
  · unfold bytesWorld World.freeze; split <;> rfl
  · unfold bytesWorld World.freeze; split <;> rfl
  · rw [bytesWorld_size]; omega
  · rw [bytesWorld_cell w 5 s j (by simpa [← size_eq] using hj), List.getD, List.getElem?_eq_getElem hj]; rfl

set_option maxHeartbeats 800000 in
set_option maxRecDepth 100000 in
theorem number_any (s : ByteArray) (l : List UInt8) (hs : s.data.toList = l) (w : World) : Calls Tryd.prog 38 #[.string s] w fun e w' => e = .returned (.tuple #[.int .i64 (if numB 7 l then (numV l : Int) else 0), .bool (numB 7 l)]) ∧ Below w.heap.size w w' := by
  have ht : s.toList = l := by rw [ByteArray.toList_eq, hs]
  have hz : s.size = l.length := by rw [size_eq, hs]
  have h0 : ∀ (h : 0 < s.size), s[0].toNat = (l.headD 0).toNat := fun h => by
    subst hs
    show s.data[0].toNat = _
    have : s.data.toList ≠ [] := fun e => by rw [e, List.length_nil] at hz; omega
    cases hd : s.data.toList with
    | nil => exact absurd hd this
    | cons x r =>
      have : s.data[0] = x := by
        have e : s.data.toList[0]'(by rw [hd]; simp) = x := by simp [hd]
        rw [← e]; simp
      rw [this]; rfl
  obtain ⟨w2, cap, cv, cb, cc⟩ := conv_bytes s w
  obtain ⟨PB, hPB⟩ : ∃ B, preB 7 l = B := ⟨_, rfl⟩
  obtain ⟨B, hB⟩ : ∃ B, numB 7 l = B := ⟨_, rfl⟩
  obtain ⟨V, hV⟩ : ∃ V : Int, (if numB 7 l then (numV l : Int) else 0) = V := ⟨_, rfl⟩
  rw [hV, hB]
  have HB : Aside (numB 7 l = B) := hB
  have HV : Aside ((if numB 7 l then (numV l : Int) else 0) = V) := hV
  have NO : Aside (numB 7 l = false → V = 0 ∧ B = false) := fun h => ⟨by rw [← hV, if_neg (by rw [h]; simp)], by rw [← hB, h]⟩
  have YES : Aside (numB 7 l = true → V = numV l ∧ B = true) := fun h => ⟨by rw [← hV, if_pos h], by rw [← hB, h]⟩
  clear hB hV
  have HS : Hid _ := hs
  have HZ : Hid _ := hz
  have HPB : Hid _ := hPB
  have CC : Aside (∀ j (hj : j < s.data.toList.length), w2.cell? ⟨w.heap.size, j, none⟩ = some (.int .u8 ((s.data.toList[j]).toNat : Int))) := cc
  have CB : Aside (Below w.heap.size w w2) := cb
  clear hs hPB cc cb hz
  go_enter Tryd.func38, Tryd.ntmps38
  go_upto_region 1 with fail
  go_cut [22] (fun s22 wx => s22 = .bool (!PB) ∧ wx = w)
  case first =>
    have hp := HPB.out
    unfold preB at hp
    by_cases c1 : l = []
    · have hz0 : s.size = 0 := by rw [HZ.out, c1]; rfl
      rw [c1] at hp ht
      simp at hp
      clear h0
      subst hp
      go_wp2
      go_meet
      exact ⟨rfl, rfl⟩
    · have c1' : l.isEmpty = false := by simp [c1]
      have pos : 0 < s.size := by rw [HZ.out]; exact List.length_pos_iff.2 c1
      have g0 := h0 pos
      by_cases c2 : l.length ≤ 7
      · have c2' : ¬ (7 : Int) < (s.size : Int) := by have := HZ.out; omega
        by_cases c3 : l.headD 0 = 48
        · have g1 : (s[0].toNat : Int) = 48 := by rw [g0, c3]; rfl
          by_cases c4 : l = [48]
          · have hp' : PB = true := by rw [← hp, decide_eq_true (p := l ≠ []) c1, decide_eq_true c2, decide_eq_true c4, Bool.or_true]; rfl
            have c4' : (l == [48]) = true := by simp [c4]
            clear h0 g0 hp c3
            subst hp'
            go_wp2
            go_meet
            exact ⟨rfl, rfl⟩
          · have hp' : PB = false := by rw [← hp, decide_eq_false (p := l.headD 0 ≠ 48) (fun h => h c3), decide_eq_false c4, Bool.or_false, Bool.and_false, Bool.and_false]
            have c4' : (l == [48]) = false := by simp [c4]
            clear h0 g0 hp c3
            subst hp'
            go_wp2
            go_meet
            exact ⟨rfl, rfl⟩
        · have g1 : ¬ (s[0].toNat : Int) = 48 := fun e => c3 (UInt8.toNat_inj.1 (by rw [← g0]; show s[0].toNat = 48; omega))
          have hp' : PB = true := by rw [← hp, decide_eq_true (p := l ≠ []) c1, decide_eq_true c2, decide_eq_true (p := l.headD 0 ≠ 48) c3]; rfl
          clear h0 g0 hp c3
          subst hp'
          go_wp2
          go_meet
          exact ⟨rfl, rfl⟩
      · have c2' : (7 : Int) < (s.size : Int) := by have := HZ.out; omega
        have hp' : PB = false := by rw [← hp, decide_eq_false c2, Bool.false_and, Bool.and_false]
        clear h0 g0 hp
        subst hp'
        go_wp2
        go_meet
        exact ⟨rfl, rfl⟩
  case rest =>
    obtain ⟨rfl, rfl⟩ := hcut
    clear h0 ht
    cases PB with
    | false =>
      obtain ⟨r1, r2⟩ := NO.out (by rw [numB_pre, HPB.out, Bool.false_and])
      subst r1 r2
      go_wp2
      go_ret2
      exact ⟨rfl, Below.refl _ _⟩
    | true =>
      have h7 : l.length ≤ 7 := by
        have := HPB.out
        unfold preB at this
        simp only [Bool.and_eq_true, decide_eq_true_eq] at this
        exact this.2.1
      have hsz : s.size ≤ 7 := by rw [HZ.out]; exact h7
      go_wp2
      go_loopg [4, 26] s.size (fun kx s4 s26 wr => ∃ I : Nat, s4 = .int .i64 (numV (l.take I) : Nat) ∧ s26 = .int .i64 I ∧ I ≤ s.size ∧ s.size - I ≤ kx ∧ wr = w2 ∧ Aside ((l.take I).all dgt = true))
      case atStart => exact ⟨0, rfl, rfl, by omega, by omega, rfl, (rfl : (l.take 0).all dgt = true)⟩
      case round =>
        obtain ⟨I, rfl, rfl, hI, hkx, rfl, A⟩ := hrel
        by_cases hlt : I < s.size
        · have hz : (I : Int) < (s.size : Int) := by omega
          have hlt' : I < l.length := by rw [← HZ.out]; exact hlt
          have hc : wr.cell? ⟨wc.heap.size, I, none⟩ = some (.int .u8 (l[I].toNat : Int)) := by
            have := CC.out I (by rw [HS.out]; exact hlt')
            rw [this]
            congr 4
            exact List.getElem_of_eq HS.out _
          have hn := take_lt A.out h7
          have nx := numV_next l I hlt'
          obtain ⟨c, hcc⟩ : ∃ c : Nat, l[I].toNat = c := ⟨_, rfl⟩
          have c256 : c < 256 := by rw [← hcc]; exact l[I].toNat_lt
          have hd : dgt l[I] = (decide (48 ≤ c) && decide (c ≤ 57)) := by unfold dgt; rw [hcc]
          rw [hcc] at hc nx
          have NX : Hid _ := nx
          have HD : Hid _ := hd
          obtain ⟨n, hnn⟩ : ∃ n, numV (l.take I) = n := ⟨_, rfl⟩
          rw [hnn] at hn NX ⊢
          have hn' : n < 10000000 := hn
          clear nx hd hcc hn
          by_cases d1 : (c : Int) < 48
          · have E : Aside (l.all dgt = false) := not_all hlt' (by rw [HD.out, decide_eq_false (by omega)]; rfl)
            obtain ⟨r1, r2⟩ := NO.out (by rw [numB_pre, E.out, Bool.and_false])
            clear NO YES HB HV
            subst r1 r2
            go_wp2
            go_ret2
            exact ⟨rfl, CB.out⟩
          · by_cases d2 : (c : Int) > 57
            · have E : Aside (l.all dgt = false) := not_all hlt' (by rw [HD.out, decide_eq_false (p := c ≤ 57) (by omega), Bool.and_false])
              obtain ⟨r1, r2⟩ := NO.out (by rw [numB_pre, E.out, Bool.and_false])
              clear NO YES HB HV
              subst r1 r2
              go_wp2
              go_ret2
              exact ⟨rfl, CB.out⟩
            · have E : Aside ((l.take (I + 1)).all dgt = true) := all_next hlt' A.out (by rw [HD.out, decide_eq_true (by omega), decide_eq_true (by omega)]; rfl)
              have d3 : 0 ≤ (c : Int) - 48 := by omega
              go_wp2
              go_roundg (s.size - (I + 1))
              case measure => omega
              case rel =>
                refine ⟨I + 1, ?_, by go_num, by omega, Nat.le_refl _, rfl, E⟩
                rw [NX.out]
                congr 1
                omega
        · have hz : ¬ (I : Int) < (s.size : Int) := by omega
          have e0 : I = l.length := by have := HZ.out; omega
          have E : Aside (l.all dgt = true) := by
            have := A.out
            rw [e0, List.take_length] at this
            exact this
          obtain ⟨r1, r2⟩ := YES.out (by rw [numB_pre, E.out, HPB.out]; rfl)
          clear NO YES HB HV
          subst r1 r2
          rw [e0, List.take_length]
          go_wp2
          go_ret2
          exact ⟨rfl, CB.out⟩

end Go.Proofs.YtoidkiodlfpefaaDoor
