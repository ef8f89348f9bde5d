/- Contracts: body.tell, body.Text. -/
import Derived.Test.YtoidkiodlfpefaaDoorBdB
namespace Go.Proofs.YtoidkiodlfpefaaDoor
open Go.RowKit Go.Lib Go.Shelf Go.Sort
set_option linter.unusedVariables false

/-- The text, so many numbers told. -/
def txtP (o : OpR) (i : Nat) : List UInt8 := wdK o.1 ++ ((if 1 ≤ i then 32 :: itoa o.2.1 else []) ++ (if 2 ≤ i then 32 :: itoa o.2.2 else []))
theorem txtP_told (o : OpR) : txtP o (toK o.1) = txtO o := rfl
theorem txtP_0 (o : OpR) : txtP o 0 = wdK o.1 := by unfold txtP; simp
theorem txtP_1 (o : OpR) : txtP o 1 = txtP o 0 ++ 32 :: itoa o.2.1 := by unfold txtP; simp
theorem txtP_2 (o : OpR) : txtP o 2 = txtP o 1 ++ 32 :: itoa o.2.2 := by unfold txtP; simp
theorem txtP_len {o : OpR} (h : okO o = true) (i : Nat) : (txtP o i).length ≤ 22 := by
  have hk := okO_kind h
  obtain ⟨a0, a1, b0, b1⟩ := okO_nums h
  have la : (itoa o.2.1).length ≤ 7 := by rw [itoa_nat a0]; exact dec_len 6 _ (by omega)
  have lb : (itoa o.2.2).length ≤ 7 := by rw [itoa_nat b0]; exact dec_len 6 _ (by omega)
  have lw := wdK_len hk
  unfold txtP
  rw [List.length_append, List.length_append]
  have h1 : (if 1 ≤ i then 32 :: itoa o.2.1 else ([] : List UInt8)).length ≤ 8 := by split <;> simp; omega
  have h2 : (if 2 ≤ i then 32 :: itoa o.2.2 else ([] : List UInt8)).length ≤ 8 := by split <;> simp; omega
  omega
theorem bytes_eq {s : ByteArray} {l : List UInt8} (h : s.data.toList = l) : Value.string s = sV l := by rw [sV_of, h]
theorem itoaS (n : Int) (w : World) (h : Tb w) (h0 : -9223372036854775808 ≤ n) (h1 : n ≤ 9223372036854775807) :
    Calls Tryd.prog 33 #[.int .i64 n] w fun e w' => ∃ s : ByteArray, e = .returned (.string s) ∧ s.data.toList = itoa n ∧ Below w.heap.size w w' :=
  (itoa_any n w h h0 h1).mono fun e w' hq => ⟨_, hq.1, rfl, hq.2⟩

set_option maxHeartbeats 4000000 in
set_option maxRecDepth 100000 in
theorem tell_any (k a b : Int) (w : World) (t : Tb w) (hok : okO (k, a, b) = true) : Calls Tryd.prog 18 #[.agg #[.int .i64 k, .int .i64 a, .int .i64 b]] w fun e w' => ∃ s : ByteArray, e = .returned (.string s) ∧ s.data.toList = txtO (k, a, b) ∧ Below w.heap.size w w' := by
  have hb1 := t.big
  have hk : kindB k = true := okO_kind hok
  obtain ⟨a0, a1, b0, b1⟩ := okO_nums hok
  obtain ⟨K, rfl⟩ : ∃ K : Nat, k = (K : Int) := ⟨k.toNat, by rcases kindB_cases hk with rfl | rfl | rfl | rfl | rfl <;> rfl⟩
  have hK : 1 ≤ K ∧ K ≤ 5 := by have := kindB_cases hk; omega
  obtain ⟨u1, hu1⟩ : ∃ u, w.alloc (.cells #[.int .i64 (K : Int), .int .i64 a, .int .i64 b] 23) = u := ⟨_, rfl⟩
  have bu1 : Below w.heap.size w u1 := by rw [← hu1]; exact bel1 _ _
  obtain ⟨c0, c1, c2, c3, c4, c5⟩ := (t.below bu1).sh K (by omega)
  have d0 : u1.cell? ⟨w.heap.size, 0, none⟩ = some (.int .i64 (K : Int)) := by rw [← hu1, cell_fresh]; rfl
  have d1 : u1.cell? ⟨w.heap.size, 1, none⟩ = some (.int .i64 a) := by rw [← hu1, cell_fresh]; rfl
  have d2 : u1.cell? ⟨w.heap.size, 2, none⟩ = some (.int .i64 b) := by rw [← hu1, cell_fresh]; rfl
  have t3 : (K : Int) < 6 := by omega
  have HU : Hid _ := hu1
  have HB : Hid _ := bu1
  clear hu1 bu1
  obtain ⟨o, ho⟩ : ∃ o : OpR, ((K : Int), a, b) = o := ⟨_, rfl⟩
  have o1 : o.1 = (K : Int) := by rw [← ho]
  have o2 : o.2.1 = a := by rw [← ho]
  have o3 : o.2.2 = b := by rw [← ho]
  have hw0 : wdK o.1 = shW.getD K [] := by rw [o1]; rfl
  have ht0 : toK o.1 = shT.getD K 0 := by rw [o1]; rfl
  rw [ho]
  unfold sV at c0
  obtain ⟨W0, hW0⟩ : ∃ W : ByteArray, ⟨(shW.getD K []).toArray⟩ = W := ⟨_, rfl⟩
  have w0 : W0.data.toList = txtP o 0 := by rw [← hW0, txtP_0, hw0]
  have ht2 : shT.getD K 0 ≤ 2 := by
    rw [← ht0, o1]
    rcases kindB_cases hk with e | e | e | e | e <;> rw [e] <;> decide
  rw [hW0] at c0
  generalize shT.getD K 0 = T at *
  generalize shL.getD K 0 = LO at *
  generalize shA.getD K 0 = HA at *
  generalize shB.getD K 0 = HB' at *
  have ht2' : (T : Int) ≤ 2 := by omega
  have W0' : Aside (W0.data.toList = txtP o 0) := w0
  have O : Aside (o.2.1 = a ∧ o.2.2 = b ∧ toK o.1 = T) := ⟨o2, o3, ht0⟩
  have TB : Aside (Tb u1) := t.below HB.out
  have HL : Aside (∀ i, (txtP o i).length ≤ 22) := fun i => txtP_len (by rw [← ho]; exact hok) i
  clear hW0 w0 hw0 ht0 o1 o2 o3 ho hok hk
  obtain ⟨u2, hu2⟩ : ∃ u, u1.alloc (.cells #[.string W0, .int .i64 T, .int .i64 LO, .int .i64 0, .int .i64 HA, .int .i64 HB'] 56) = u := ⟨_, rfl⟩
  have bu2 : Below u1.heap.size u1 u2 := by rw [← hu2]; exact bel1 _ _
  have sz2 : u2.heap.size = u1.heap.size + 1 := by rw [← hu2, alloc_sz]
  have f0 : u2.cell? ⟨u1.heap.size, 0, none⟩ = some (.string W0) := by rw [← hu2, cell_fresh]; rfl
  have f1 : u2.cell? ⟨u1.heap.size, 1, none⟩ = some (.int .i64 T) := by rw [← hu2, cell_fresh]; rfl
  have e0 := (bu2.cell (p := ⟨w.heap.size, 0, none⟩) (World.block_lt_of_cell? _ _ d0)).trans d0
  have e1 := (bu2.cell (p := ⟨w.heap.size, 1, none⟩) (World.block_lt_of_cell? _ _ d1)).trans d1
  have e2 := (bu2.cell (p := ⟨w.heap.size, 2, none⟩) (World.block_lt_of_cell? _ _ d2)).trans d2
  have HU2 : Hid _ := hu2
  have HB2 : Aside (Below w.heap.size w u2) := Below.tr HB.out bu2
  have TB2 : Aside (Tb u2) := TB.out.below bu2
  clear hu2 bu2 TB
  have nq := numbers_any K a b u2
  go_enter Tryd.func18, Tryd.ntmps18
  go_upto_region 1 with fail
  rw [HU.out]
  go_upto_region 2 with fail
  rw [HU2.out]
  clear HU HU2 d0 d1 d2 c0 c1 c2 c3 c4 c5
  go_upto_region 3 with (go_at_call 32; refine nq.mono ?_; rintro e w3 ⟨rfl, b3⟩)
  obtain ⟨S4, hS4⟩ : ∃ S, w3.heap.size = S := ⟨_, rfl⟩
  obtain ⟨u4, hu4⟩ : ∃ u, w3.alloc (.cells #[.int .i64 a, .int .i64 b] 54) = u := ⟨_, rfl⟩
  rw [hu4, hS4]
  have b4 : Below u2.heap.size u2 u4 := by rw [← hu4]; exact Below.tr b3 (bel1 _ _)
  have f0 := (b4.cell (p := ⟨u1.heap.size, 0, none⟩) (by show u1.heap.size < u2.heap.size; omega)).trans f0
  have f1 := (b4.cell (p := ⟨u1.heap.size, 1, none⟩) (by show u1.heap.size < u2.heap.size; omega)).trans f1
  have g0 : u4.cell? ⟨S4, 0, none⟩ = some (.int .i64 a) := by rw [← hu4, ← hS4, cell_fresh]; rfl
  have g1 : u4.cell? ⟨S4, 1, none⟩ = some (.int .i64 b) := by rw [← hu4, ← hS4, cell_fresh]; rfl
  have s4 : S4 < u4.heap.size := by rw [← hu4, alloc_sz]; omega
  have HB4 : Aside (Below w.heap.size w u4) := Below.tr HB2.out b4
  have TB4 : Aside (Tb u4) := TB2.out.below b4
  clear hS4 hu4 b4 b3 HB2 TB2 nq e0 e1 e2
  go_wp2_with fail
  go_loopg [5, 20] T (fun kx s5 s20 wr => ∃ I : Nat, ∃ S : ByteArray, s5 = .string S ∧ s20 = .int .i64 I ∧ I ≤ T ∧ T - I ≤ kx ∧ Aside (S.data.toList = txtP o I) ∧ Aside (Below u4.heap.size u4 wr))
  case atStart => exact ⟨0, W0, rfl, rfl, by omega, by omega, W0', Below.refl _ _⟩
  case round =>
    obtain ⟨I, S, rfl, rfl, hI, hkx, A, G⟩ := hrel
    by_cases hlt : I < T
    · have hz : (I : Int) < (T : Int) := by omega
      have h0 := (G.out.cell (p := ⟨S4, 0, none⟩) s4).trans g0
      have h1 := (G.out.cell (p := ⟨S4, 1, none⟩) s4).trans g1
      have hI' : I = 0 ∨ I = 1 := by omega
      obtain ⟨n, hn1, hn2, hc, hn⟩ : ∃ n : Int, 0 ≤ n ∧ n ≤ 1000000 ∧ wr.cell? ⟨S4, I, none⟩ = some (.int .i64 n) ∧ txtP o (I + 1) = txtP o I ++ 32 :: itoa n := by
        obtain ⟨q1, q2, _⟩ := O.out
        rcases hI' with rfl | rfl
        · exact ⟨a, a0, by omega, h0, by rw [txtP_1, q1]⟩
        · exact ⟨b, b0, b1, h1, by rw [txtP_2, q2]⟩
      have q := itoaS n wr (TB4.out.below G.out) (by omega) (by omega)
      have HN : Hid _ := hn
      clear hn h0 h1
      go_wp2_with fail
      refine q.mono ?_
      rintro r w5 ⟨s, rfl, hs, b5⟩
      have G2 : Aside (Below u4.heap.size u4 w5) := Below.tr G.out b5
      have HS : Hid _ := hs
      have z1 : s.size ≤ 7 := by
        rw [size_eq, hs, itoa_nat hn1]
        exact dec_len 6 _ (by omega)
      have z2 : S.size ≤ 22 := by
        rw [size_eq, A.out]
        exact HL.out I
      have z3 : ¬ 9223372036854775807 < 1 + s.size := by omega
      have z4 : ¬ 9223372036854775807 < S.size + (1 + s.size) := by omega
      clear hs b5 G q hc
      go_wp2_with fail
      go_roundg (T - (I + 1))
      case measure => omega
      case rel =>
        refine ⟨I + 1, _, rfl, by go_num, by omega, Nat.le_refl _, ?_, G2⟩
        show _ = txtP o (I + 1)
        rw [HN.out, ← A.out, ← HS.out]
        simp
    · have e0 : I = T := by omega
      have hz : ¬ (I : Int) < (T : Int) := by omega
      go_wp2
      go_ret
      refine ⟨S, rfl, ?_, Below.tr HB4.out G.out⟩
      rw [A.out, e0, ← O.out.2.2, txtP_told]

theorem infoStr : (Tryd.prog.info? 9).map (fun i => (i.zero, i.size, i.bytes)) = some (some (.string ⟨#[]⟩), 1, 16) := by kernel_rfl
theorem ownS_made (w : World) (n : Nat) (hn : n ≤ 1000) : OwnG rS (w.alloc (.cells (madeCells #[.string ⟨#[]⟩] n) 9)) w.heap.size (.slice (some ⟨w.heap.size, 0, none⟩) (List.replicate n ([] : List UInt8)).length n) (List.replicate n []) := by
  have e : madeCells #[Value.string ⟨#[]⟩] n = (List.replicate n (Value.string ⟨#[]⟩)).toArray := by
    apply Array.ext
    · simp [madeCells]
    · intro i h1 h2
      simp [madeCells, Nat.mod_one]
  unfold OwnG
  rw [List.length_replicate]
  refine ⟨by rw [flat_len, List.length_replicate], .inr ⟨w.heap.size, n, _, rfl, Nat.le_refl _, heap_alloc_new w _, Nat.le_refl _, by unfold maxLen; omega, by rw [e]; simp [rS], ?_⟩⟩
  rw [e, flat_rS]
  simp [rS, sV]
theorem ownS_set {w : World} {base g cap : Nat} {d : List (List UInt8)} (h : OwnG rS w base (.slice (some ⟨g, 0, none⟩) d.length cap) d) (j : Nat) (x : List UInt8) : OwnG rS (w.setCell ⟨g, j, none⟩ (sV x)) base (.slice (some ⟨g, 0, none⟩) (d.set j x).length cap) (d.set j x) := by
  have := (World.ownsRow.stored h j (sV x)).1
  unfold OwnG
  rw [List.length_set, flat_rS, List.map_set, ← flat_rS]
  exact this
/-- The texts told so far, then empty ones. -/
def liT (d : List OpR) (I : Nat) : List (List UInt8) := (d.take I).map txtO ++ List.replicate (d.length - I) []
theorem liT_len {d : List OpR} {I : Nat} (hI : I ≤ d.length) : (liT d I).length = d.length := by unfold liT; simp; omega
theorem liT_all (d : List OpR) : liT d d.length = d.map txtO := by unfold liT; simp
theorem liT_0 (d : List OpR) : liT d 0 = List.replicate d.length [] := by unfold liT; simp
theorem liT_next (d : List OpR) (I : Nat) (hI : I < d.length) : (liT d I).set I (txtO d[I]) = liT d (I + 1) := by
  unfold liT
  have q1 : d.take (I + 1) = d.take I ++ [d[I]] := List.take_succ_eq_append_getElem hI
  have hl : ((d.take I).map txtO).length = I := by simp; omega
  rw [List.set_append_right _ _ (by omega), hl, Nat.sub_self, show d.length - I = (d.length - (I + 1)) + 1 by omega, List.replicate_succ, List.set_cons_zero, q1, List.map_append, List.append_assoc]
  rfl

/-- What Text answers. -/
def TextIs (w : World) (d : List OpR) (e : Ending) (w' : World) : Prop :=
  (∃ s : ByteArray, e = .returned (.tuple #[.string s, .int .i64 (if okL d then 0 else 1)]) ∧ s.data.toList = if okL d then txtL d else []) ∧ Below w.heap.size w w'
set_option maxHeartbeats 4000000 in
set_option maxRecDepth 100000 in
theorem text_any (a : Option Addr) (cap : Nat) (d : List OpR) (w : World) (h : IsG rO w a cap d) (t : Tb w) :
    Calls Tryd.prog 7 #[.slice a d.length cap] w (TextIs w d) := by
  have hl := h.len
  have q := ok_any a cap d w h t
  unfold TextIs
  cases hok : okL d with
  | false =>
    rw [hok] at q
    go_enter Tryd.func7, Tryd.ntmps7
    go_wp2_with fail
    refine q.mono ?_
    rintro r w1 ⟨rfl, hb⟩
    go_wp2
    go_ret2
    exact ⟨⟨_, rfl, rfl⟩, hb⟩
  | true =>
    rw [hok] at q
    by_cases h0 : d = []
    · subst h0
      go_enter Tryd.func7, Tryd.ntmps7
      go_wp2_with fail
      refine q.mono ?_
      rintro r w1 ⟨rfl, hb⟩
      go_wp2
      go_ret2
      exact ⟨⟨_, rfl, rfl⟩, hb⟩
    · have hz0 : ¬ (d.length : Int) = 0 := by have := List.length_pos_iff.2 h0; omega
      have hz0' : ((d.length : Int) == 0) = false := by simpa using h0
      obtain ⟨h16, hall⟩ := okL_all hok
      have hmk := run_make_row' (P := Tryd.prog) 41 9 (.string ⟨#[]⟩) 16 Tryd.underlying41 infoStr rfl .i64 .i64 d.length (by omega) (by omega)
      go_enter Tryd.func7, Tryd.ntmps7
      go_wp2_with fail
      refine q.mono ?_
      rintro r w1 ⟨rfl, hb⟩
      have T1 : Aside (Tb w1) := t.below hb
      have I1 : Aside (IsG rO w1 a cap d) := h.below hb
      have B1 : Aside (Below w.heap.size w w1) := hb
      have O0 : Aside (OwnG rS (w1.alloc (.cells (madeCells #[.string ⟨#[]⟩] d.length) 9)) w1.heap.size (.slice (some ⟨w1.heap.size, 0, none⟩) (liT d 0).length d.length) (liT d 0)) := by
        show OwnG rS _ _ _ _
        rw [liT_0]
        exact ownS_made w1 d.length (by omega)
      have HA : Aside (∀ o ∈ d, okO o = true) := hall
      have HK : Aside (okL d = true) := hok
      clear hb h t q hall hok
      obtain ⟨R, hR⟩ : ∃ R, w1.heap.size = R := ⟨_, rfl⟩
      rw [hR] at O0
      go_wp2_with fail
      go_loopg [18] d.length (fun kx s18 wr => ∃ I : Nat, s18 = .int .i64 I ∧ I ≤ d.length ∧ d.length - I ≤ kx ∧ Aside (OwnG rS wr R (.slice (some ⟨R, 0, none⟩) (liT d I).length d.length) (liT d I)) ∧ Aside (Below w1.heap.size w1 wr))
      case atStart => exact ⟨0, rfl, by omega, by omega, O0, bel1 _ _⟩
      case round =>
        obtain ⟨I, rfl, hI, hkx, OW, G⟩ := hrel
        by_cases hlt : I < d.length
        · have hz : (I : Int) < (d.length : Int) := by omega
          obtain ⟨x, hx⟩ : ∃ x, d[I] = x := ⟨_, rfl⟩
          obtain ⟨b, off, ha, hb, c0, c1, c2⟩ := opAt (I1.out.below G.out) (i := I) (x := x) (by rw [List.getElem?_eq_getElem hlt, hx])
          subst ha
          have HX : Hid _ := hx
          have okx : okO x = true := HA.out x (by rw [← hx]; exact List.getElem_mem hlt)
          clear hx
          obtain ⟨u2, hu2⟩ : ∃ u, wr.alloc (.cells #[.int .i64 x.1, .int .i64 x.2.1, .int .i64 x.2.2] 23) = u := ⟨_, rfl⟩
          have b2 : Below wr.heap.size wr u2 := by rw [← hu2]; exact bel1 _ _
          have q := tell_any x.1 x.2.1 x.2.2 u2 ((T1.out.below G.out).below b2) okx
          have d0 : u2.cell? ⟨wr.heap.size, 0, none⟩ = some (.int .i64 x.1) := by rw [← hu2, cell_fresh]; rfl
          have d1 : u2.cell? ⟨wr.heap.size, 1, none⟩ = some (.int .i64 x.2.1) := by rw [← hu2, cell_fresh]; rfl
          have d2 : u2.cell? ⟨wr.heap.size, 2, none⟩ = some (.int .i64 x.2.2) := by rw [← hu2, cell_fresh]; rfl
          have HU : Hid _ := hu2
          clear hu2
          go_upto_region 9 with fail
          rw [HU.out]
          go_wp2_with fail
          refine q.mono ?_
          rintro r w5 ⟨s, rfl, hs, b5⟩
          have b25 : Below wr.heap.size wr w5 := Below.tr b2 b5
          have O5 := OW.out.below b25
          have hc : w5.cell? ⟨R, I, none⟩ = some (sV []) := by
            have := World.ownsRow.cellAt O5 I (by rw [liT_len hI]; show I < d.length * 1; omega)
            rw [this, flat_rS, List.getElem?_map]
            have e : (liT d I)[I]? = some [] := by
              unfold liT
              have hl : ((d.take I).map txtO).length = I := by simp; omega
              rw [List.getElem?_append_right (by omega), hl, Nat.sub_self, List.getElem?_replicate, if_pos (by omega)]
            rw [e]; rfl
          have hf : w5.frozen? ⟨R, I, none⟩ = false := World.ownsRow.frozenAt O5 I
          have O6 : Aside (OwnG rS (w5.setCell ⟨R, I, none⟩ (.string s)) R (.slice (some ⟨R, 0, none⟩) (liT d (I + 1)).length d.length) (liT d (I + 1))) := by
            have := ownS_set O5 I (txtO d[I])
            rw [liT_next d I hlt] at this
            rw [bytes_eq (show s.data.toList = txtO d[I] by rw [HX.out]; exact hs)]
            exact this
          have G6 : Aside (Below w1.heap.size w1 (w5.setCell ⟨R, I, none⟩ (.string s))) := Below.setCell (Below.tr G.out b25) (by show w1.heap.size ≤ R; omega) _
          have hm : (I : Int) < ((liT d I).length : Int) := by rw [liT_len hI]; exact hz
          have hR5 : R < w5.heap.size := World.block_lt_of_cell? _ _ hc
          clear b25 O5 b2 b5 G OW q hs d0 d1 d2
          go_wp2_with fail
          go_roundg (d.length - (I + 1))
          case measure => omega
          case rel => exact ⟨I + 1, by go_num, by omega, Nat.le_refl _, O6, G6⟩
        · have hz : ¬ (I : Int) < (d.length : Int) := by omega
          have e0 : I = d.length := by omega
          subst e0
          obtain ⟨a', cap', e1, L⟩ := OW.out.isG
          have hlen := liT_len (Nat.le_refl d.length)
          rw [hlen] at e1
          simp only [Value.slice.injEq, true_and] at e1
          obtain ⟨rfl, rfl⟩ := e1
          have ej : [59].intercalate (liT d d.length) = txtL d := by unfold txtL; rw [if_neg h0, liT_all]
          have q := join_any (liT d d.length) wr L (by omega) (by rw [ej]; have := txtL_len HK.out; omega)
          rw [hlen, ej] at q
          have B9 : Aside (Below w.heap.size w wr) := Below.tr B1.out G.out
          clear L ej hlen OW G
          go_wp2_with fail
          refine q.mono ?_
          rintro r w7 ⟨rfl, b7⟩
          unfold sV
          go_wp2
          go_ret2
          exact ⟨⟨_, rfl, rfl⟩, Below.tr B9.out b7⟩

end Go.Proofs.YtoidkiodlfpefaaDoor
