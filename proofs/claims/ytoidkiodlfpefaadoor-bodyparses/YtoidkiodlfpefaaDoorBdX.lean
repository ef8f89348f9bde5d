/- The document's Words and Number. -/
import Derived.Test.YtoidkiodlfpefaaDoorBdV
namespace Go.Proofs.YtoidkiodlfpefaaDoor
open Go.RowKit Go.Lib Go.Shelf Go.Sort
set_option linter.unusedVariables false
set_option maxRecDepth 10000

theorem own_pushS {w : World} {base : Nat} {v : Value} {d : List (List UInt8)} (o : OwnG rS w base v d) (W : ByteArray) (hd : d.length < 1000000) (hb : base ≤ w.heap.size) :
    ∃ v' w', (Builtin.append_ #[41, 41] 41 #[v, .slice (some ⟨w.heap.size, 0, none⟩) 1 1]).run Tryd.prog (w.alloc (.cells #[.string W] 9)) = .ok v' w' ∧ OwnG rS w' base v' (d ++ [W.data.toList]) ∧ Below base w w' := by
  have := OwnG.push o W.data.toList hd hb 41
  rw [sV_of]
  exact this
theorem own_pushI {w : World} {base : Nat} {v : Value} {d : List Int} (o : OwnG rI w base v d) (x : Int) (hd : d.length < 1000000) (hb : base ≤ w.heap.size) :
    ∃ v' w', (Builtin.append_ #[59, 59] 59 #[v, .slice (some ⟨w.heap.size, 0, none⟩) 1 1]).run Tryd.prog (w.alloc (.cells #[.int .i64 x] 3)) = .ok v' w' ∧ OwnG rI w' base v' (d ++ [x]) ∧ Below base w w' :=
  OwnG.push o x hd hb 59
theorem byte_at (s : ByteArray) (l : List UInt8) (hs : s.data.toList = l) (I : Nat) (h : I < s.size) (h' : I < l.length) : s[I] = l[I] := by
  subst hs
  show s.data[I] = _
  simp
theorem sub_one (s : ByteArray) (l : List UInt8) (hs : s.data.toList = l) (I : Nat) (h' : I < l.length) : (s.extract I (I + 1)).data.toList = [l[I]] := by
  subst hs
  rw [Lib.extract_data]
  apply List.ext_getElem?
  intro j
  cases j with
  | zero => simp [List.getElem?_drop]
  | succ j => simp [List.getElem?_take]
/-- What was cut so far, and what is left. -/
def WdI (c : UInt8) (l : List UInt8) (I : Nat) (D : List (List UInt8)) (cw : List UInt8) : Prop := D ++ (cw ++ (wds c (l.drop I)).headD []) :: (wds c (l.drop I)).tail = wds c l
theorem wdI_0 (c : UInt8) (l : List UInt8) : WdI c l 0 [] [] := by
  unfold WdI
  rw [List.drop_zero, List.nil_append, List.nil_append]
  exact wds_eta c l
theorem wdI_hit {c : UInt8} {l : List UInt8} {I : Nat} {D : List (List UInt8)} {cw : List UInt8} (h : WdI c l I D cw) (hI : I < l.length) (e : l[I] = c) : WdI c l (I + 1) (D ++ [cw]) [] := by
  unfold WdI at *
  rw [List.drop_eq_getElem_cons hI, e, wds_hit] at h
  rw [← h, List.append_assoc, List.nil_append, wds_eta]
  simp
theorem wdI_miss {c : UInt8} {l : List UInt8} {I : Nat} {D : List (List UInt8)} {cw : List UInt8} (h : WdI c l I D cw) (hI : I < l.length) (e : l[I] ≠ c) : WdI c l (I + 1) D (cw ++ [l[I]]) := by
  unfold WdI at *
  rw [List.drop_eq_getElem_cons hI, wds_miss e] at h
  rw [← h]
  simp
theorem wdI_end {c : UInt8} {l : List UInt8} {D : List (List UInt8)} {cw : List UInt8} (h : WdI c l l.length D cw) : D ++ [cw] = wds c l := by
  unfold WdI at h
  rw [List.drop_length, wds_nil] at h
  simpa using h
set_option maxHeartbeats 1600000 in
set_option maxRecDepth 100000 in
theorem words_any (s : ByteArray) (l : List UInt8) (hs : s.data.toList = l) (c : UInt8) (hl : l.length ≤ 400) (w : World) : Calls Tryd.prog 30 #[.string s, .int .u8 (c.toNat : Int)] w fun e w' => ∃ v, e = .returned v ∧ OwnG rS w' w.heap.size v (wds c l) ∧ Below w.heap.size w w' := by
  have hz : s.size = l.length := by rw [size_eq, hs]
  have HZ : Hid _ := hz
  have HS : Hid _ := hs
  have hs4 : s.size ≤ 400 := by omega
  clear hz hs
  go_enter Tryd.func30, Tryd.ntmps30
  go_wp2
  go_loopg [5, 6, 7] s.size (fun kx s5 s6 s7 wr => ∃ (I : Nat) (W : ByteArray) (D : List (List UInt8)), s6 = .string W ∧ s7 = .int .i64 I ∧ I ≤ s.size ∧ s.size - I ≤ kx ∧ W.size ≤ I ∧ D.length ≤ I ∧ Aside (OwnG rS wr w.heap.size s5 D) ∧ Aside (WdI c l I D W.data.toList) ∧ Aside (Below w.heap.size w wr))
  case atStart => exact ⟨0, _, [], rfl, rfl, by omega, by omega, Nat.le_refl _, Nat.le_refl _, OwnG.nil rS w _, wdI_0 c l, Below.refl _ w⟩
  case round =>
    obtain ⟨I, W, D, rfl, rfl, hI, hkx, hW, hD, OW, WI, G⟩ := hrel
    by_cases hlt : I < s.size
    · have hzI : (I : Int) < (s.size : Int) := by omega
      have hlt' : I < l.length := by rw [← HZ.out]; exact hlt
      have hx := byte_at s l HS.out I hlt hlt'
      obtain ⟨x, hxx⟩ : ∃ x, l[I] = x := ⟨_, rfl⟩
      rw [hxx] at hx
      have HX : Hid _ := hxx
      clear hxx
      by_cases e : x = c
      · subst e
        have W2 : Aside (WdI x l (I + 1) (D ++ [W.data.toList]) []) := wdI_hit WI.out hlt' HX.out
        obtain ⟨v7, w7, hr7, o7, b7⟩ := own_pushS OW.out W (by omega) G.out.size
        have O7 : Aside (OwnG rS w7 w.heap.size v7 (D ++ [W.data.toList])) := o7
        have G7 : Aside (Below w.heap.size w w7) := G.out.trans b7
        clear o7 b7 WI OW G
        go_wp2_with (at_builtin; refine wpList_app _ rfl _ _ 41 rfl _ _ rfl rfl v7 w7 hr7 ?_; clear hr7)
        go_roundg (s.size - (I + 1))
        case measure => omega
        case rel => exact ⟨I + 1, _, _, rfl, by go_num, by omega, Nat.le_refl _, Nat.zero_le _, by simp; omega, O7, W2, G7⟩
      · have e' : ¬ (x.toNat : Int) = (c.toNat : Int) := fun h => e (UInt8.toNat_inj.1 (by omega))
        have e2 : ((x.toNat : Int) == (c.toNat : Int)) = false := by simpa using e'
        have sb := sub_str s I (by omega) wr
        have sd := sub_one s l HS.out I hlt'
        obtain ⟨D1, hD1⟩ : ∃ D, s.extract I (I + 1) = D := ⟨_, rfl⟩
        rw [hD1] at sb sd
        have d1 : D1.size = 1 := by rw [size_eq, sd]; rfl
        have W2 : Aside (WdI c l (I + 1) D (W ++ D1).data.toList) := by
          show WdI c l (I + 1) D (W ++ D1).data.toList
          have := wdI_miss WI.out hlt' (by rw [HX.out]; exact e)
          rw [show (W ++ D1).data.toList = W.data.toList ++ [l[I]] by simp [sd]]
          exact this
        have q1 : ¬ 9223372036854775807 < W.size + 1 := by omega
        have q2 : (W ++ D1).size ≤ I + 1 := by simp [d1]; exact hW
        have HQ : Hid _ := q2
        clear sd hD1 WI q2
        go_wp2
        go_roundg (s.size - (I + 1))
        case measure => omega
        case rel => exact ⟨I + 1, _, _, rfl, by go_num, by omega, Nat.le_refl _, HQ.out, by omega, OW, W2, G⟩
    · have hzI : ¬ (I : Int) < (s.size : Int) := by omega
      have e0 : I = l.length := by have := HZ.out; omega
      obtain ⟨v7, w7, hr7, o7, b7⟩ := own_pushS OW.out W (by omega) G.out.size
      have O7 : Aside (OwnG rS w7 w.heap.size v7 (wds c l)) := by
        show OwnG rS w7 w.heap.size v7 (wds c l)
        have := WI.out
        rw [e0] at this
        rw [← wdI_end this]
        exact o7
      have G7 : Aside (Below w.heap.size w w7) := G.out.trans b7
      clear o7 b7 WI OW G
      go_wp2_with (at_builtin; refine wpList_app _ rfl _ _ 41 rfl _ _ rfl rfl v7 w7 hr7 ?_; clear hr7)
      go_ret
      exact ⟨_, rfl, O7.out, G7.out⟩

set_option maxHeartbeats 800000 in
set_option maxRecDepth 100000 in
theorem vnumber_any (s : ByteArray) (l : List UInt8) (hs : s.data.toList = l) (w : World) : Calls Tryd.prog 40 #[.string s, .int .i64 9] w fun e w' => e = .returned (.tuple #[.int .u64 (if numB 9 l then (numV l : Int) else 0), .bool (numB 9 l)]) ∧ Below w.heap.size w w' := by
  have ht : s.toList = l := by rw [ByteArray.toList_eq, hs]
  have hz : s.size = l.length := by rw [size_eq, hs]
  have h0 : ∀ (h : 0 < s.size), s[0].toNat = (l.headD 0).toNat := fun h => by
    subst hs
    show s.data[0].toNat = _
    have : s.data.toList ≠ [] := fun e => by rw [e, List.length_nil] at hz; omega
    cases hd : s.data.toList with
    | nil => exact absurd hd this
    | cons x r =>
      have : s.data[0] = x := by
        have e : s.data.toList[0]'(by rw [hd]; simp) = x := by simp [hd]
        rw [← e]; simp
      rw [this]; rfl
  obtain ⟨PB, hPB⟩ : ∃ B, preB 9 l = B := ⟨_, rfl⟩
  obtain ⟨B, hB⟩ : ∃ B, numB 9 l = B := ⟨_, rfl⟩
  obtain ⟨V, hV⟩ : ∃ V : Int, (if numB 9 l then (numV l : Int) else 0) = V := ⟨_, rfl⟩
  rw [hV, hB]
  have HB : Aside (numB 9 l = B) := hB
  have HV : Aside ((if numB 9 l then (numV l : Int) else 0) = V) := hV
  have NO : Aside (numB 9 l = false → V = 0 ∧ B = false) := fun h => ⟨by rw [← hV, if_neg (by rw [h]; simp)], by rw [← hB, h]⟩
  have YES : Aside (numB 9 l = true → V = numV l ∧ B = true) := fun h => ⟨by rw [← hV, if_pos h], by rw [← hB, h]⟩
  clear hB hV
  have HS : Hid _ := hs
  have HZ : Hid _ := hz
  have HPB : Hid _ := hPB
  clear hs hPB hz
  go_enter Tryd.func40, Tryd.ntmps40
  go_upto_region 1 with fail
  go_cut [24] (fun s22 wx => s22 = .bool (!PB) ∧ wx = w)
  case first =>
    have hp := HPB.out
    unfold preB at hp
    by_cases c1 : l = []
    · have hz0 : s.size = 0 := by rw [HZ.out, c1]; rfl
      rw [c1] at hp ht
      simp at hp
      clear h0
      subst hp
      go_wp2
      go_meet
      exact ⟨rfl, rfl⟩
    · have c1' : l.isEmpty = false := by simp [c1]
      have pos : 0 < s.size := by rw [HZ.out]; exact List.length_pos_iff.2 c1
      have g0 := h0 pos
      by_cases c2 : l.length ≤ 9
      · have c2' : ¬ (9 : Int) < (s.size : Int) := by have := HZ.out; omega
        by_cases c3 : l.headD 0 = 48
        · have g1 : (s[0].toNat : Int) = 48 := by rw [g0, c3]; rfl
          by_cases c4 : l = [48]
          · have hp' : PB = true := by rw [← hp, decide_eq_true (p := l ≠ []) c1, decide_eq_true c2, decide_eq_true c4, Bool.or_true]; rfl
            have c4' : (l == [48]) = true := by simp [c4]
            clear h0 g0 hp c3
            subst hp'
            go_wp2
            go_meet
            exact ⟨rfl, rfl⟩
          · have hp' : PB = false := by rw [← hp, decide_eq_false (p := l.headD 0 ≠ 48) (fun h => h c3), decide_eq_false c4, Bool.or_false, Bool.and_false, Bool.and_false]
            have c4' : (l == [48]) = false := by simp [c4]
            clear h0 g0 hp c3
            subst hp'
            go_wp2
            go_meet
            exact ⟨rfl, rfl⟩
        · have g1 : ¬ (s[0].toNat : Int) = 48 := fun e => c3 (UInt8.toNat_inj.1 (by rw [← g0]; show s[0].toNat = 48; omega))
          have hp' : PB = true := by rw [← hp, decide_eq_true (p := l ≠ []) c1, decide_eq_true c2, decide_eq_true (p := l.headD 0 ≠ 48) c3]; rfl
          clear h0 g0 hp c3
          subst hp'
          go_wp2
          go_meet
          exact ⟨rfl, rfl⟩
      · have c2' : (9 : Int) < (s.size : Int) := by have := HZ.out; omega
        have hp' : PB = false := by rw [← hp, decide_eq_false c2, Bool.false_and, Bool.and_false]
        clear h0 g0 hp
        subst hp'
        go_wp2
        go_meet
        exact ⟨rfl, rfl⟩
  case rest =>
    obtain ⟨rfl, rfl⟩ := hcut
    clear h0 ht
    cases PB with
    | false =>
      obtain ⟨r1, r2⟩ := NO.out (by rw [numB_pre, HPB.out, Bool.false_and])
      subst r1 r2
      go_wp2
      go_ret2
      exact ⟨rfl, Below.refl _ _⟩
    | true =>
      have h7 : l.length ≤ 9 := by
        have := HPB.out
        unfold preB at this
        simp only [Bool.and_eq_true, decide_eq_true_eq] at this
        exact this.2.1
      have hsz : s.size ≤ 9 := by rw [HZ.out]; exact h7
      go_wp2
      go_loopg [6, 7] s.size (fun kx s4 s26 wr => ∃ I : Nat, s4 = .int .u64 (numV (l.take I) : Nat) ∧ s26 = .int .i64 I ∧ I ≤ s.size ∧ s.size - I ≤ kx ∧ wr = wc ∧ Aside ((l.take I).all dgt = true))
      case atStart => exact ⟨0, rfl, rfl, by omega, by omega, rfl, (rfl : (l.take 0).all dgt = true)⟩
      case round =>
        obtain ⟨I, rfl, rfl, hI, hkx, rfl, A⟩ := hrel
        by_cases hlt : I < s.size
        · have hz : (I : Int) < (s.size : Int) := by omega
          have hlt' : I < l.length := by rw [← HZ.out]; exact hlt
          have hc := byte_at s l HS.out I hlt hlt'
          have hn := take_lt A.out h7
          have nx := numV_next l I hlt'
          obtain ⟨X, hX⟩ : ∃ X, l[I] = X := ⟨_, rfl⟩
          rw [hX] at hc nx
          obtain ⟨c, hcc⟩ : ∃ c : Nat, X.toNat = c := ⟨_, rfl⟩
          have c256 : c < 256 := by rw [← hcc]; exact X.toNat_lt
          have hd : dgt l[I] = (decide (48 ≤ c) && decide (c ≤ 57)) := by unfold dgt; rw [hX, hcc]
          rw [hcc] at nx
          have NX : Hid _ := nx
          have HD : Hid _ := hd
          obtain ⟨n, hnn⟩ : ∃ n, numV (l.take I) = n := ⟨_, rfl⟩
          rw [hnn] at hn NX ⊢
          have hn' : n < 1000000000 := hn
          clear nx hd hn hX
          by_cases d1 : (c : Int) < 48
          · have E : Aside (l.all dgt = false) := not_all hlt' (by rw [HD.out, decide_eq_false (by omega)]; rfl)
            obtain ⟨r1, r2⟩ := NO.out (by rw [numB_pre, E.out, Bool.and_false])
            clear NO YES HB HV
            subst r1 r2
            go_wp2
            go_ret2
            exact ⟨rfl, Below.refl _ _⟩
          · by_cases d2 : (c : Int) > 57
            · have E : Aside (l.all dgt = false) := not_all hlt' (by rw [HD.out, decide_eq_false (p := c ≤ 57) (by omega), Bool.and_false])
              obtain ⟨r1, r2⟩ := NO.out (by rw [numB_pre, E.out, Bool.and_false])
              clear NO YES HB HV
              subst r1 r2
              go_wp2
              go_ret2
              exact ⟨rfl, Below.refl _ _⟩
            · have E : Aside ((l.take (I + 1)).all dgt = true) := all_next hlt' A.out (by rw [HD.out, decide_eq_true (by omega), decide_eq_true (by omega)]; rfl)
              have d3 : 0 ≤ (c : Int) - 48 := by omega
              go_wp2
              go_roundg (s.size - (I + 1))
              case measure => omega
              case rel =>
                refine ⟨I + 1, ?_, by go_num, by omega, Nat.le_refl _, rfl, E⟩
                rw [NX.out]
                congr 1
                omega
        · have hz : ¬ (I : Int) < (s.size : Int) := by omega
          have e0 : I = l.length := by have := HZ.out; omega
          have E : Aside (l.all dgt = true) := by
            have := A.out
            rw [e0, List.take_length] at this
            exact this
          obtain ⟨r1, r2⟩ := YES.out (by rw [numB_pre, E.out, HPB.out]; rfl)
          clear NO YES HB HV
          subst r1 r2
          rw [e0, List.take_length]
          go_wp2
          go_ret2
          exact ⟨rfl, Below.refl _ _⟩

end Go.Proofs.YtoidkiodlfpefaaDoor
