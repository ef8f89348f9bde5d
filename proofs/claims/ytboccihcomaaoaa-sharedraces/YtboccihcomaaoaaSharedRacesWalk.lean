/- The walk of 'SharedRaces'. -/
import Derived.Test.YtboccihcomaaoaaShrN
import Derived.Test.YtboccihcomaaoaaShrF
import Derived.Test.YtboccihcomaaoaaMask
import Derived.Test.YtboccihcomaaoaaRowAt
namespace Go.Proofs.Ytboccihcomaaoaa
open Go.RowKit Go.Lib Go.Sort
set_option linter.unusedVariables false

set_option maxHeartbeats 8000000 in
set_option maxRecDepth 100000 in
theorem sharedRaces_walk (n0 : Int) (a1 : Option Addr) (len1 cap1 : Nat) (zs : List Int) (w : World) (h0 : (Lit.int .i64 n0).wf = true) (h1 : IsRow .i64 w a1 len1 cap1 zs) :
    Calls Try.prog 6 #[.int .i64 n0, .slice a1 len1 cap1] w fun r w' => r = .returned (.bool true) ∧ Below w.heap.size w w' := by
  obtain ⟨S, hS⟩ : ∃ S, w.heap.size = S := ⟨_, rfl⟩
  have HS : Hid _ := hS
  have hl := h1.len_le
  have H1 : Aside (IsRow .i64 w a1 len1 cap1 zs) := h1
  obtain ⟨N1, hN1, N18⟩ : ∃ N : Nat, bits .and .i64 (Int.tmod n0 6) 7 = (N : Int) ∧ N < 8 := by
    have := mask_i64 (Int.tmod n0 6) 3 7 8 (by omega) rfl rfl
    exact ⟨((Int.tmod n0 6) % 8).toNat, by rw [this]; omega, by omega⟩
  obtain ⟨N, hN2, hN3⟩ : ∃ N : Nat, (N1 : Int) + 1 = (N : Int) ∧ N1 + 1 = N := ⟨N1 + 1, by omega, rfl⟩
  have N0 : 0 < N := by omega
  have N8 : N ≤ 8 := by omega
  have nw := snew_any w
  rw [hS] at nw
  obtain ⟨w1, hw1⟩ : ∃ W, w.alloc (.cells #[.int .u64 0, .slice none 0 0] 69) = W := ⟨_, rfl⟩
  have L0 : Shr w1 S 0 [] := by rw [← hw1, ← hS]; exact shr_new w
  have D0 : Below S w w1 := by rw [← hw1, ← hS]; exact (Below.refl _ _).alloc (Nat.le_refl _) _
  have z1 : w1.heap.size = S + 1 := by rw [← hw1, ← hS]; simp
  obtain ⟨w2, hm1, sn2, b2, z2⟩ := makeN_run w1 N (by omega)
  obtain ⟨w3, hm2, bo3, b3⟩ := makeBo_run w2 N (by omega)
  rw [z1] at hm1 sn2 z2
  rw [z2] at hm2 bo3
  have R0 : Aside (Race w S N 0 (fun _ => ⟨0, none, 0, 0⟩) (fun _ => false) [] w3) := by
    refine ⟨(L0.below b2).below b3, rfl, Nat.le_refl _, fun d hd => by simp at hd, sn2.kept (b3.block _ sn2.lt), fun t _ => ⟨[], ⟨[], rfl, rfl, RowB.nil _ _ _⟩, rfl, Nat.le_refl _, fun d hd => by simp at hd, Nat.le_refl _⟩, bo3, ?_⟩
    exact (D0.trans (b2.mono (by omega))).trans (b3.mono (by omega))
  have HW1 : Hid _ := hw1
  have n1 : ¬ (N : Int) < 1 := by omega
  clear h0 h1 hw1 L0 D0 sn2 bo3 b2 b3 hN3
  go_enter Try.func6, Try.ntmps6
  go_wp2_with fail
  refine nw.mono ?_
  rintro r w1_ ⟨rfl, rfl⟩
  rw [HW1.out]
  clear nw
  have hN2' : IntKind.i64.wrap ((N1 : Int) + 1) = (N : Int) := by rw [IntKind.wrap_i64]; omega
  go_wp2_with fail
  clear hm1 hm2 hN1 hN2 hN2' z1 z2
  go_loopg [8, 9] 51 (fun kx s8 s9 wx => ∃ (i put : Nat) (f : Nat → Sn) (g : Nat → Bool) (ls : List (List Ent)), s9 = .int .i64 i ∧ s8 = .int .i64 put ∧ i ≤ 50 ∧ put ≤ i ∧ 51 - i ≤ kx ∧ Aside (Race w S N put f g ls wx))
  case atStart => exact ⟨0, 0, _, _, [], rfl, rfl, by omega, by omega, by omega, R0⟩
  case round =>
    clear R0
    obtain ⟨i, put, f, g, ls, rfl, rfl, hi, hpi, hix, R⟩ := hrel
    have sz := R.out.low.size
    have len := R.out.len
    by_cases hlt : i < len1 ∧ i < 50
    · obtain ⟨hl1, hl2⟩ := hlt
      have hz1 : (i : Int) < (len1 : Int) := by omega
      have hz2 : (i : Int) < 50 := by omega
      have hz3 : decide ((i : Int) < (len1 : Int)) = true := decide_eq_true hz1
      obtain ⟨b, off, ha, hb, hc, _⟩ := H1.out.at hl1
      have hc2 := (R.out.low.cell (p := ⟨b, off + i, none⟩) (by show b < S; omega)).trans hc
      obtain ⟨z, hzz⟩ : ∃ z, zs.getD i 0 = z := ⟨_, rfl⟩
      rw [hzz] at hc2
      obtain ⟨X, hX, X1⟩ : ∃ X : Nat, bits .and .i64 z 255 = (X : Int) ∧ X < 256 := by
        have := mask_i64 z 8 255 256 (by omega) rfl rfl
        exact ⟨(z % 256).toNat, by rw [this]; omega, by omega⟩
      obtain ⟨T, hT⟩ : ∃ T, X % N = T := ⟨_, rfl⟩
      have tN : T < N := by rw [← hT]; exact Nat.mod_lt _ N0
      have ww4 : (X : Int) % (N : Int) = (T : Int) := by rw [← hT]; rfl
      have ww3 : Int.tmod (X : Int) (N : Int) = (T : Int) := by rw [← hT]; rfl
      have ww6 : ¬ (N : Int) = 0 := by omega
      have ww7 : ((N : Int) == 0) = false := by simp; omega
      have ww8 : (T : Int) < (N : Int) := by omega
      obtain ⟨gc, gf⟩ := R.out.bo.cell tN
      obtain ⟨fc0, fc1, ff0, ff1⟩ := R.out.sn.cell tN
      have ne1 : ¬ S + 2 = S + 1 := by omega
      have ne2 : ¬ S + 1 = S + 2 := by omega
      subst ha
      clear hc hzz hT
      cases hgt : g T with
      | false =>
        rw [hgt] at gc
        obtain ⟨n, hn⟩ : ∃ n, ls.length = n := ⟨_, rfl⟩
        have cnt := R.out.cnt
        have snp := snap_any S put n ls wr R.out.shr hn (by omega) (fun d hd => by have := mem_len hd; omega)
        go_wp2_with fail
        refine snp.mono ?_
        rintro r w4 ⟨a4, c4, rfl, l4, b4⟩
        have R4 := R.out.on b4
        have R5 := (R4.look tN (l4.low (by have := R.out.shr.lt; omega))).bool tN true
        obtain ⟨gc4, gf4⟩ := R4.bo.cell tN
        obtain ⟨fc40, fc41, ff40, ff41⟩ := R4.sn.cell tN
        have A5 : Aside (Race w S N put _ _ ls _) := R5
        clear snp R5 R4 l4 b4 gc gf fc0 fc1 ff0 ff1 hn
        go_wp2
        go_roundg (51 - (i + 1))
        case measure => omega
        case rel => exact ⟨i + 1, put, _, _, ls, by go_num, rfl, by omega, by omega, Nat.le_refl _, A5⟩
      | true =>
        rw [hgt] at gc
        obtain ⟨v1, hv1⟩ : ∃ W, wr.setCell ⟨S + 2, T, none⟩ (.bool false) = W := ⟨_, rfl⟩
        have R1 : Race w S N put f (setF g T false) ls v1 := by rw [← hv1]; exact R.out.bool tN false
        have HV1 : Hid _ := hv1
        obtain ⟨ks, kb, kl, kc, kS, kp⟩ := R1.se T tN
        obtain ⟨vT, hvT⟩ : ∃ x, (f T).v = x := ⟨_, rfl⟩
        obtain ⟨aT, haT⟩ : ∃ x, (f T).a = x := ⟨_, rfl⟩
        obtain ⟨kT, hkT⟩ : ∃ x, (f T).k = x := ⟨_, rfl⟩
        obtain ⟨cT, hcT⟩ : ∃ x, (f T).c = x := ⟨_, rfl⟩
        obtain ⟨e0, e1, _, _⟩ := R1.sn.cell tN
        rw [hvT] at kl kc kp e0
        rw [haT, hkT, hcT] at kb e1
        rw [hvT] at fc0
        rw [haT, hkT, hcT] at fc1
        have klen := kb.len
        obtain ⟨t2, hbb⟩ := twoBl
        obtain ⟨bs, hbs1, hbs2, hbs3⟩ := kb
        obtain ⟨Z, hZ⟩ : ∃ Z, v1.heap.size = Z := ⟨_, rfl⟩
        have Z1 : S + 1 < Z := by rw [← hZ]; exact R1.sn.lt
        have b0 : Below v1.heap.size v1 (v1.alloc (.cells #[] 34)) := (Below.refl _ _).alloc (Nat.le_refl _) _
        have rd : Reads (v1.alloc (.cells #[] 34)) aT kT (flatB bs) := (hbs3.reads hbs2).below b0
        obtain ⟨r5, t5, w5, h5, o5, b5, _, _⟩ := app0 t2 (v1.alloc (.cells #[] 34)) Z Z kT cT aT (flatB bs) rd (by omega) (by rw [← hZ]; exact b0.size) 28
        have b15 : Below v1.heap.size v1 w5 := b0.trans (b5.mono b0.size)
        obtain ⟨Z5, hZ5⟩ : ∃ Z, w5.heap.size = Z := ⟨_, rfl⟩
        obtain ⟨u5, hu5⟩ : ∃ u, w5.alloc (.cells #[.int .u64 i, .int .i64 ((i : Int) + 1)] 37) = u := ⟨_, rfl⟩
        have HU5 : Hid _ := hu5
        have b5u : Below w5.heap.size w5 u5 := by rw [← hu5]; exact (Below.refl _ _).alloc (Nat.le_refl _) _
        have il : IsL u5 (some ⟨Z5, 0, none⟩) 1 [((i : Int), (i : Int) + 1)] := by rw [← hu5, ← hZ5]; exact IsL.one w5 ((i : Int), (i : Int) + 1)
        have of0 := of_any (some ⟨Z5, 0, none⟩) 1 [((i : Int), (i : Int) + 1)] u5 il (by simp)
        rw [show sortE [((i : Int), (i : Int) + 1)] = [((i : Int), (i : Int) + 1)] from sortE_id (by simp [Srt])] at of0
        have of1 := of0.mono (R' := MadeO u5 0 1 [((i : Int), (i : Int) + 1)]) fun r w' hm => hm.o rfl (lvl_zero (by simp))
        have B1u : Aside (Below v1.heap.size v1 u5) := b15.trans (b5u.mono b15.size)
        have O5 : Aside (OwnZ 34 u5 Z (.slice r5 kT t5) kT (flatB bs)) := o5.below b5u
        have A1 : Aside (Race w S N put f (setF g T false) ls v1) := R1
        have KS : Aside (∀ d ∈ ks, Srt d) := kS
        have HB1 : Hid (bs.map Bk.d = ks) := hbs1
        have HB2 : Hid (bs.length = kT) := hbs2
        have RB : Aside (RowB 34 v1 (S + 1) (.slice aT kT cT) bs) := hbs3
        have wi : IntKind.u64.wrap (i : Int) = (i : Int) := by rw [IntKind.wrap_u64, Int.emod_eq_of_lt (by omega) (by omega)]
        have wp : IntKind.u64.wrap (put : Int) = (put : Int) := by rw [IntKind.wrap_u64, Int.emod_eq_of_lt (by omega) (by omega)]
        have HKL : Hid (ks.flatten.length = vT) := kl
        have kT50 : kT ≤ 50 := by omega
        clear R1 hvT haT hkT hcT kS hbs1 hbs2 hbs3 b0 rd o5 b5 b15 hu5 b5u il of0 kl hv1 fc0 fc1 ff0 ff1
        clear hgt
        go_upto_region 18 with fail
        rw [HV1.out]
        clear hc2 gc gf HV1
        go_wp2_with (at_builtin; refine Lib.wpList_append_run _ rfl _ _ 28 28 rfl _ _ rfl rfl _ w5 h5 ?_)
        try rw [HU5.out]
        refine of1.mono ?_
        rintro r w6 ⟨p6, q6, rfl, o6, b6⟩
        obtain ⟨Z6, hZ6⟩ : ∃ Z, w6.heap.size = Z := ⟨_, rfl⟩
        obtain ⟨u6, hu6⟩ : ∃ u, w6.alloc (.cells #[.int .i64 0, .slice p6 1 q6] 34) = u := ⟨_, rfl⟩
        have HU6 : Hid _ := hu6
        have b6u : Below w6.heap.size w6 u6 := by rw [← hu6]; exact (Below.refl _ _).alloc (Nat.le_refl _) _
        have b56 : Below u5.heap.size u5 u6 := b6.trans (b6u.mono b6.size)
        have rd6 : Reads u6 (some ⟨Z6, 0, none⟩) 1 (flatB [⟨[((i : Int), (i : Int) + 1)], p6, q6⟩]) := reads_blk (by rw [← hu6, ← hZ6]; exact heap_alloc_new w6 _) (lvl_zero (by simp)) rfl
        have b1u6 : Below v1.heap.size v1 u6 := B1u.out.trans (b56.mono B1u.out.size)
        obtain ⟨r7, t7, w7, h7, o7, b7, k7, _, _⟩ := appZ t2 hbb u6 Z kT 1 1 (.slice r5 kT t5) (flatB bs) (some ⟨Z6, 0, none⟩) _ (O5.out.below b56) rd6 (by omega) (by rw [← hZ]; exact b1u6.size) 28
        rw [← flatB_append] at o7
        have b17 : Below v1.heap.size v1 w7 := b1u6.trans (by rw [hZ]; exact b7)
        have oe : OwnE w7 u5.heap.size (.slice p6 1 q6) [((i : Int), (i : Int) + 1)] := k7.own (by decide) (o6.below b6u)
        have raw : RawB w7 r7 (lvs (ks ++ [[((i : Int), (i : Int) + 1)]])) := by
          have := rawZ (bs := bs ++ [⟨[((i : Int), (i : Int) + 1)], p6, q6⟩]) o7 (by simp [HB2.out]) (fun x hx => by
            rcases List.mem_append.1 hx with hx | hx
            · exact ((RB.out.own x hx).below b17).is
            · simp at hx
              subst hx
              exact oe.is)
          rw [List.map_append, HB1.out] at this
          exact this
        have A7 : Aside (Race w S N put f (setF g T false) ls w7) := A1.out.on b17
        have VC : Aside (w7.cell? ⟨S + 1, T * 2, none⟩ = some (.int .u64 vT)) := (b17.cell (p := ⟨S + 1, T * 2, none⟩) (by show S + 1 < _; omega)).trans e0
        have RAW : Aside (RawB w7 r7 (lvs (ks ++ [[((i : Int), (i : Int) + 1)]]))) := raw
        have KS2 : Aside (∀ d ∈ ks ++ [[((i : Int), (i : Int) + 1)]], Srt d) := fun d hd => by
          rcases List.mem_append.1 hd with hd | hd
          · exact KS.out d hd
          · simp at hd; subst hd; simp [Srt]
        have KL2 : Hid ((ks ++ [[((i : Int), (i : Int) + 1)]]).flatten.length = vT + 1) := by show _ = _; rw [List.flatten_append, List.length_append, HKL.out]; rfl
        have KN2 : Hid ((ks ++ [[((i : Int), (i : Int) + 1)]]).length = kT + 1) := by show _ = _; rw [List.length_append, ← HB1.out, List.length_map, HB2.out]; rfl
        rw [← hu6] at h7
        clear of1 o6 b6 hu6 b6u b56 rd6 b1u6 o7 b7 k7 b17 oe raw O5 B1u A1 h5
        go_wp2_with (at_builtin; refine Lib.wpList_append_run _ rfl _ _ 28 28 rfl _ _ rfl rfl _ w7 h7 ?_)
        have KC : Aside (∀ W : World, W.heap[S + 1]? = w7.heap[S + 1]? → W.cell? ⟨S + 1, T * 2, none⟩ = some (.int .u64 vT)) := fun W hW => (World.cell?_of_block (a := ⟨S + 1, T * 2, none⟩) hW).trans VC.out
        have hb0 : Below w7.heap.size w7 w7.drew := (Below.refl _ _).drew
        have c0 : w7.drew.heap[S + 1]? = w7.heap[S + 1]? := rfl
        have mx := mixed
        by_cases ev : vT = put
        · subst ev
          have ee : ((vT : Int) == (vT : Int)) = true := by simp
          have SW : Aside (Calls Try.prog 21 #[.pointer (some ⟨S, 0, none⟩), .int .u64 vT, .slice r7 (kT + 1) t7] w7.drew fun r w' => r = .returned (.bool true) ∧ Shr w' S (vT + 1) (ks ++ [[((i : Int), (i : Int) + 1)]]) ∧ w7.drew.grownBy w' (some S)) :=
            swap_any S vT ls (ks ++ [[((i : Int), (i : Int) + 1)]]) r7 (kT + 1) t7 w7.drew (A7.out.shr.below hb0) (by omega) (RAW.out.below hb0) KS2.out KN2.out (by omega) (fun d hd => by have := mem_len hd; rw [KL2.out] at this; omega)
          clear RAW
          go_region_held3 (fun W => W.cell? ⟨S + 1, T * 2, none⟩ = some (.int .u64 vT)) (first | with_reducible exact KC.out _ c0 | with_reducible exact KC.out _ c8)
            ((go_at_call 21; (with_reducible refine Calls.mono SW.out ?_); rintro r w8 ⟨rfl, s8, g8⟩; have c8 : w8.heap[S + 1]? = w7.heap[S + 1]? := (g8.block (S + 1) A7.out.sn.lt (by simp))))
          have R8 : Aside (Race w S N (vT + 1) f (setF g T false) (ks ++ [[((i : Int), (i : Int) + 1)]]) w8) := (A7.out.on hb0).swap s8 g8 KL2.out (by rw [KN2.out]; omega) KS2.out
          have y8 := KC.out _ c8
          clear s8 g8 c8 SW KC A7
          go_wp2
          go_roundg (51 - (i + 1))
          case measure => omega
          case rel => exact ⟨i + 1, vT + 1, _, _, _, by go_num, by go_num, by omega, by omega, Nat.le_refl _, R8⟩
        · have ee : ((vT : Int) == (put : Int)) = false := by simp; omega
          have ee2 : ¬ (vT : Int) = (put : Int) := by omega
          have SW : Aside (Calls Try.prog 21 #[.pointer (some ⟨S, 0, none⟩), .int .u64 vT, .slice r7 (kT + 1) t7] w7.drew fun r w' => r = .returned (.bool false) ∧ w' = w7.drew) :=
            swap_old S put vT ls r7 (kT + 1) t7 w7.drew (A7.out.shr.below hb0) (fun e => ev e.symm)
          clear RAW
          go_region_held3 (fun W => W.cell? ⟨S + 1, T * 2, none⟩ = some (.int .u64 vT)) (first | with_reducible exact KC.out _ c0 | with_reducible exact KC.out _ c8)
            ((go_at_call 21; (with_reducible refine Calls.mono SW.out ?_); rintro r w8 ⟨rfl, e8⟩; have c8 : w8.heap[S + 1]? = w7.heap[S + 1]? := (by rw [e8]; rfl)))
          have R8 : Aside (Race w S N put f (setF g T false) ls w7.drew) := A7.out.on hb0
          have E8 : Hid _ := e8
          have y8 := KC.out _ c8
          clear e8 c8 SW KC A7
          go_wp2
          go_roundg (51 - (i + 1))
          case measure => omega
          case rel => exact ⟨i + 1, put, _, _, _, by go_num, rfl, by omega, by omega, Nat.le_refl _, by first | exact R8 | (rw [E8.out]; exact R8)⟩
    · have rr := R.out
      have ln := slen_any S put ls wr R.out.shr (by omega)
      rw [len] at ln
      obtain ⟨n, hn⟩ : ∃ n, ls.length = n := ⟨_, rfl⟩
      have cnt := R.out.cnt
      have wp : IntKind.u64.wrap (put : Int) = (put : Int) := by rw [IntKind.wrap_u64, Int.emod_eq_of_lt (by omega) (by omega)]
      have SN : Aside (∀ W, Below wr.heap.size wr W → Calls Try.prog 9 #[.pointer (some ⟨S, 0, none⟩)] W (SnapIs W put n ls)) := fun W hW => snap_any S put n ls W (R.out.shr.below hW) hn (by omega) (fun d hd => by have := mem_len hd; omega)
      have FN : ∀ (a : Option Addr) (c : Nat) (W : World), (Instr.field 30 (.agg #[.int .u64 put, .slice a n c]) 0).run Try.prog W = .ok (.int .u64 put) W := fun a c W => fieldN _ _ W
      have LOW : Aside (Below S w wr) := R.out.low
      clear rr hn
      by_cases c1 : i < len1
      · have z1 : (i : Int) < (len1 : Int) := by omega
        have z2 : ¬ (i : Int) < 50 := by omega
        have z3 : decide ((i : Int) < (len1 : Int)) = true := decide_eq_true z1
        go_wp2_with fail
        refine ln.mono ?_
        rintro r w2 ⟨rfl, b2⟩
        have sn := SN.out w2 b2
        have B2 : Aside (Below wr.heap.size wr w2) := b2
        clear b2 ln SN
        go_wp2_with fail
        refine sn.mono ?_
        rintro r w3 ⟨a3, c3, rfl, l3, b3⟩
        have F3 := FN a3 c3 w3
        have D3 : Aside (Below S w w3) := LOW.out.trans ((B2.out.trans (b3.mono B2.out.size)).mono (by omega))
        have aw := sawake_any w3
        clear b3 l3 sn FN
        go_wp2_with fail
        refine aw.mono ?_
        rintro r w4 ⟨rfl, b4⟩
        have s3 := D3.out.size
        have D4 : Aside (Below S w w4) := D3.out.trans (b4.mono (by omega))
        clear b4 aw
        go_wp2
        go_ret
        exact ⟨rfl, by first | exact D4.out | (rw [HS.out]; exact D4.out)⟩
      · have z1 : ¬ (i : Int) < (len1 : Int) := by omega
        have z3 : decide ((i : Int) < (len1 : Int)) = false := decide_eq_false z1
        go_wp2_with fail
        refine ln.mono ?_
        rintro r w2 ⟨rfl, b2⟩
        have sn := SN.out w2 b2
        have B2 : Aside (Below wr.heap.size wr w2) := b2
        clear b2 ln SN
        go_wp2_with fail
        refine sn.mono ?_
        rintro r w3 ⟨a3, c3, rfl, l3, b3⟩
        have F3 := FN a3 c3 w3
        have D3 : Aside (Below S w w3) := LOW.out.trans ((B2.out.trans (b3.mono B2.out.size)).mono (by omega))
        have aw := sawake_any w3
        clear b3 l3 sn FN
        go_wp2_with fail
        refine aw.mono ?_
        rintro r w4 ⟨rfl, b4⟩
        have s3 := D3.out.size
        have D4 : Aside (Below S w w4) := D3.out.trans (b4.mono (by omega))
        clear b4 aw
        go_wp2
        go_ret
        exact ⟨rfl, by first | exact D4.out | (rw [HS.out]; exact D4.out)⟩
end Go.Proofs.Ytboccihcomaaoaa
