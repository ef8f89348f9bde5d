/- Contract: body.Parse. -/
import Derived.Test.YtoidkiodlfpefaaDoorBdE
namespace Go.Proofs.YtoidkiodlfpefaaDoor
open Go.RowKit Go.Lib Go.Shelf Go.Sort
set_option linter.unusedVariables false
set_option maxRecDepth 10000

/-- Which error, and which body. -/
def codeL (l : List UInt8) : Int := if 400 < l.length then 2 else if l = [45] then 0 else if prsB l = true then 0 else 3
def opsL (l : List UInt8) : List OpR := if 400 < l.length then [] else if l = [45] then [] else if prsB l = true then prs l else []
def ParseIs (w : World) (l : List UInt8) (e : Ending) (w' : World) : Prop :=
  ∃ v, e = .returned (.tuple #[v, .int .i64 (codeL l)]) ∧ OwnG rO w' w.heap.size v (opsL l) ∧ Below w.heap.size w w'
theorem own_push {w : World} {base : Nat} {v : Value} {d : List OpR} (o : OwnG rO w base v d) (x : OpR) (hd : d.length < 1000000) (hb : base ≤ w.heap.size) :
    ∃ v' w', (Builtin.append_ #[24, 24] 24 #[v, .slice (some ⟨w.heap.size, 0, none⟩) 1 1]).run Tryd.prog (w.alloc (.cells #[.int .i64 x.1, .int .i64 x.2.1, .int .i64 x.2.2] 23)) = .ok v' w' ∧ OwnG rO w' base v' (d ++ [x]) ∧ Below base w w' :=
  OwnG.push o x hd hb 24
theorem make_ops (n : Nat) (hn : n ≤ 1000) (w : World) : ∃ w', (Instr.makeSlice 24 (.int .i64 0) (.int .i64 (n : Int))).run Tryd.prog w = .ok (.slice (some ⟨w.heap.size, 0, none⟩) 0 n) w' ∧ OwnG rO w' w.heap.size (.slice (some ⟨w.heap.size, 0, none⟩) 0 n) [] ∧ Below w.heap.size w w' := by
  obtain ⟨i, hi, hz, hs, hby⟩ := rO.info
  have hby : i.bytes = 24 := hby
  obtain ⟨w', h1, h2, h3⟩ := run_makeSlice_owned (P := Tryd.prog) w w.heap.size 24 23 i _ 3 rO.und hi hz hs .i64 .i64 n (by omega) (by rw [hby]; omega) (by unfold maxLen; omega) (Nat.le_refl _)
  exact ⟨w', h1, h2, ⟨h3.os, h3.tape, h3.output, h3.size, fun k hk => h3.block k hk (by simp)⟩⟩

set_option maxHeartbeats 1600000 in
set_option maxRecDepth 100000 in
theorem parse_any (s : ByteArray) (l : List UInt8) (hs : s.data.toList = l) (w : World) (t : Tb w) : Calls Tryd.prog 10 #[.string s] w (ParseIs w l) := by
  have ht : s.toList = l := by rw [ByteArray.toList_eq, hs]
  have hz : s.size = l.length := by rw [size_eq, hs]
  unfold ParseIs
  by_cases h400 : 400 < l.length
  · have hb : (400 : Int) < (s.size : Int) := by omega
    have e1 : codeL l = 2 := by unfold codeL; rw [if_pos h400]
    have e2 : opsL l = [] := by unfold opsL; rw [if_pos h400]
    rw [e1, e2]
    clear hz
    go_enter Tryd.func10, Tryd.ntmps10
    go_wp2
    go_ret2
    exact ⟨_, rfl, OwnG.nil _ _ _, Below.refl _ _⟩
  · have hb : ¬ (400 : Int) < (s.size : Int) := by omega
    by_cases h45 : l = [45]
    · have e1 : codeL l = 0 := by unfold codeL; rw [if_neg h400, if_pos h45]
      have e2 : opsL l = [] := by unfold opsL; rw [if_neg h400, if_pos h45]
      rw [e1, e2]
      rw [h45] at ht
      clear hz
      go_enter Tryd.func10, Tryd.ntmps10
      go_wp2
      go_ret2
      exact ⟨_, rfl, OwnG.nil _ _ _, Below.refl _ _⟩
    · have h45' : (l == [45]) = false := by simp [h45]
      have hse : Value.string s = sV l := by rw [sV_of, hs]
      have E1 : Aside (codeL l = if prsB l = true then 0 else 3) := by show _ = _; unfold codeL; rw [if_neg h400, if_neg h45]
      have E2 : Aside (opsL l = if prsB l = true then prs l else []) := by show _ = _; unfold opsL; rw [if_neg h400, if_neg h45]
      have kq := kinds_any w t
      have HSE : Hid _ := hse
      have TB : Aside (Tb w) := t
      have hl4 : l.length ≤ 400 := by omega
      obtain ⟨CO, hCO⟩ : ∃ c, codeL l = c := ⟨_, rfl⟩
      obtain ⟨OP, hOP⟩ : ∃ c, opsL l = c := ⟨_, rfl⟩
      rw [hCO, hOP]
      rw [hCO] at E1
      rw [hOP] at E2
      clear hz t hse hs hCO hOP h400
      go_enter Tryd.func10, Tryd.ntmps10
      go_wp2_with fail
      refine kq.mono ?_
      rintro r w1 ⟨M, rfl, k1, b1⟩
      have sp := split_any l 59 w1 (TB.out.below b1) (by omega)
      rw [← HSE.out] at sp
      obtain ⟨p, hp⟩ : ∃ p, wds 59 l = p := ⟨_, rfl⟩
      have hpp : 0 < p.length := by rw [← hp]; exact wds_pos 59 l
      have hpl : p.length ≤ 401 := by rw [← hp]; have := wds_len 59 l; omega
      have hpm : ∀ x ∈ p, x.length ≤ 400 := by rw [← hp]; exact fun x hx => Nat.le_trans (wds_mem_len 59 l x hx) hl4
      rw [hp] at sp
      obtain ⟨w2, hw2⟩ : ∃ u, w1.alloc (.cells (p.map sV).toArray 9) = u := ⟨_, rfl⟩
      rw [hw2] at sp
      have b2 : Below w1.heap.size w1 w2 := by rw [← hw2]; exact bel1 _ _
      have s2 : w1.heap.size < w2.heap.size := by rw [← hw2, alloc_sz]; omega
      obtain ⟨R, hRR⟩ : ∃ R, w1.heap.size = R := ⟨_, rfl⟩
      have hR : ∀ (j : Nat) x, p[j]? = some x → w2.cell? ⟨R, j, none⟩ = some (sV x) := fun j x hx => by
        rw [← hRR, ← hw2, cell_fresh, List.getElem?_toArray, List.getElem?_map, hx]; rfl
      have HR : Aside (∀ (j : Nat) x, p[j]? = some x → w2.cell? ⟨R, j, none⟩ = some (sV x)) := hR
      have T2 : Aside (Tb w2) := (TB.out.below b1).below b2
      have K2 : Aside (Kds w2 M) := k1.below b2
      have B2 : Aside (Below w.heap.size w w2) := Below.tr b1 b2
      have EP : Aside (prsB l = (p.all rdB && okL (p.map rdO)) ∧ prs l = p.map rdO) := by
        show _ ∧ _
        unfold prsB prs
        rw [hp]
        exact ⟨rfl, rfl⟩
      have HPM : Aside (∀ x ∈ p, x.length ≤ 400) := hpm
      rw [hRR] at sp
      have sR : R < w2.heap.size := by rw [← hRR]; exact s2
      obtain ⟨w3, mk, o3, b3⟩ := make_ops p.length (by omega) w2
      have O3 : Aside (OwnG rO w3 w2.heap.size (.slice (some ⟨w2.heap.size, 0, none⟩) 0 p.length) []) := o3
      have B3 : Aside (Below w2.heap.size w2 w3) := b3
      clear hR hw2 b2 s2 hRR kq TB k1 b1 hpm o3 b3 hp
      go_wp2_with fail
      refine sp.mono ?_
      rintro r w2' ⟨rfl, rfl⟩
      go_wp2_with fail
      go_loopg [6, 24] p.length (fun kx s6 s24 wr => ∃ I : Nat, s24 = .int .i64 I ∧ I ≤ p.length ∧ p.length - I ≤ kx ∧ Aside (OwnG rO wr w2'.heap.size s6 ((p.take I).map rdO)) ∧ Aside (Below w2'.heap.size w2' wr) ∧ Aside ((p.take I).all rdB = true))
      case atStart => exact ⟨0, rfl, by omega, by omega, O3, B3, (rfl : (p.take 0).all rdB = true)⟩
      case round =>
        obtain ⟨I, rfl, hI, hkx, OW, G, AL⟩ := hrel
        by_cases hlt : I < p.length
        · have hzI : (I : Int) < (p.length : Int) := by omega
          obtain ⟨x, hx⟩ : ∃ x, p[I] = x := ⟨_, rfl⟩
          have hx1 : p[I]? = some x := by rw [List.getElem?_eq_getElem hlt, hx]
          have hc := (G.out.cell (p := ⟨R, I, none⟩) (by show R < _; omega)).trans (HR.out _ _ hx1)
          unfold sV at hc
          obtain ⟨X, hX⟩ : ∃ X : ByteArray, ⟨x.toArray⟩ = X := ⟨_, rfl⟩
          rw [hX] at hc
          have rq := read_any X x (by rw [← hX]) (HPM.out x (List.mem_of_getElem? hx1)) M wr (T2.out.below G.out) (K2.out.below G.out)
          have HX : Hid _ := hx
          unfold ReadIs at rq
          obtain ⟨RB, hRB⟩ : ∃ b, rdB x = b := ⟨_, rfl⟩
          rw [hRB] at rq
          have HRB : Hid _ := hRB
          clear hx hX hx1 hRB
          go_wp2_with fail
          refine rq.mono ?_
          rintro r w5 ⟨⟨y, rfl, hy⟩, b5⟩
          have HY : Aside (RB = true → y = rdO x) := hy
          obtain ⟨w6, hw6⟩ : ∃ u, w5.alloc (.cells #[.int .i64 y.1, .int .i64 y.2.1, .int .i64 y.2.2] 23) = u := ⟨_, rfl⟩
          have b6 : Below w5.heap.size w5 w6 := by rw [← hw6]; exact bel1 _ _
          have b56 : Below wr.heap.size wr w6 := Below.tr b5 b6
          have G6 : Aside (Below w2'.heap.size w2' w6) := Below.tr G.out b56
          have d0 : w6.cell? ⟨w5.heap.size, 0, none⟩ = some (.int .i64 y.1) := by rw [← hw6, cell_fresh]; rfl
          have d1 : w6.cell? ⟨w5.heap.size, 1, none⟩ = some (.int .i64 y.2.1) := by rw [← hw6, cell_fresh]; rfl
          have d2 : w6.cell? ⟨w5.heap.size, 2, none⟩ = some (.int .i64 y.2.2) := by rw [← hw6, cell_fresh]; rfl
          obtain ⟨v7, w7, hr7, o7, b7⟩ := own_push (OW.out.below b56) y (by simp; omega) G6.out.size
          have O7 : Aside (OwnG rO w7 w2'.heap.size v7 ((p.take I).map rdO ++ [y])) := o7
          have G7 : Aside (Below w2'.heap.size w2' w7) := (G6.out).trans b7
          have HW6 : Hid _ := hw6
          clear hw6 b6 b5 b56 hy o7 b7 rq hc G
          go_upto_region 12 with fail
          rw [HW6.out]
          cases RB with
          | false =>
            have F : prsB l = false := by
              rw [EP.out.1, List.all_eq_false.2 ⟨x, by rw [← HX.out]; exact List.getElem_mem hlt, by rw [HRB.out]; simp⟩, Bool.false_and]
            have c1 : CO = 3 := by rw [E1.out, F]; rfl
            have c2 : OP = [] := by rw [E2.out, F]; rfl
            clear E1 E2 F
            subst c1 c2
            clear hr7 d0 d1 d2
            go_wp2
            go_ret2
            exact ⟨_, rfl, OwnG.nil _ _ _, Below.tr B2.out G6.out⟩
          | true =>
            have AL2 : Aside ((p.take (I + 1)).all rdB = true) := by
              show (p.take (I + 1)).all rdB = true
              rw [List.take_succ_eq_append_getElem hlt, List.all_append, AL.out]
              simp [HX.out, HRB.out]
            have O8 : Aside (OwnG rO w7 w2'.heap.size v7 ((p.take (I + 1)).map rdO)) := by
              show OwnG rO w7 w2'.heap.size v7 ((p.take (I + 1)).map rdO)
              have := O7.out
              rw [HY.out rfl] at this
              rw [List.take_succ_eq_append_getElem hlt, List.map_append, List.map_singleton, HX.out]
              exact this
            go_wp2_with (at_builtin; refine wpList_app _ rfl _ _ 24 rfl _ _ rfl rfl v7 w7 hr7 ?_; clear hr7)
            go_roundg (p.length - (I + 1))
            case measure => omega
            case rel => exact ⟨I + 1, by go_num, by omega, Nat.le_refl _, O8, G7, AL2⟩
        · have hzI : ¬ (I : Int) < (p.length : Int) := by omega
          have e0 : I = p.length := by omega
          subst e0
          have OW' := OW.out
          have AL' := AL.out
          rw [List.take_length] at OW' AL'
          have EP' := EP.out
          obtain ⟨d, hd⟩ : ∃ d, p.map rdO = d := ⟨_, rfl⟩
          rw [hd] at OW' EP'
          have HD : Hid _ := hd
          clear hd
          obtain ⟨a', cap', hv, L⟩ := OW'.isG
          subst hv
          have oq := ok_any a' cap' d wr L (T2.out.below G.out)
          obtain ⟨OB, hOB⟩ : ∃ b, okL d = b := ⟨_, rfl⟩
          rw [hOB] at oq
          have F : prsB l = OB := by rw [EP'.1, AL', hOB]; rfl
          have c1 : CO = if OB = true then 0 else 3 := by rw [E1.out, F]
          have c2 : OP = if OB = true then d else [] := by rw [E2.out, F, EP'.2]
          have B9 : Aside (Below w.heap.size w wr) := Below.tr B2.out G.out
          have O9 : Aside (OwnG rO wr w2'.heap.size (.slice a' d.length cap') d) := OW'
          clear OW OW' AL AL' E1 E2 F hOB L EP'
          go_wp2_with fail
          refine oq.mono ?_
          rintro r w8 ⟨rfl, b8⟩
          cases OB with
          | false =>
            have d1 : CO = 3 := c1
            have d2 : OP = [] := c2
            clear c1 c2
            subst d1 d2
            go_wp2
            go_ret2
            exact ⟨_, rfl, OwnG.nil _ _ _, Below.tr B9.out b8⟩
          | true =>
            have d1 : CO = 0 := c1
            have d2 : OP = d := c2
            clear c1 c2
            subst d1 d2
            go_wp2
            go_ret2
            exact ⟨_, rfl, (O9.out.below b8).low B2.out.size, Below.tr B9.out b8⟩

end Go.Proofs.YtoidkiodlfpefaaDoor
