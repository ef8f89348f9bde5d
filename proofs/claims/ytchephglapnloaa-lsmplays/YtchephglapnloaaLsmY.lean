/- lsm: Drop. -/
import Derived.Test.YtchephglapnloaaLsmX
namespace Go.Proofs.Ytchephglapnloaa
open Go.RowKit Go.Lib Go.Sort
set_option linter.unusedVariables false

/-- An own list whose cell is set to a row with one block less. -/
theorem lsm_less {w : World} {base B n cap : Nat} {a : Option Addr} {bs : List Bk} {w' : World} {k : Nat} (hB : base ≤ B) (hc : w.heap[B]? = some (.cells #[.slice a n cap] 60 (0, 0))) (hr : RowB 62 w base (.slice a n cap) bs) (hn : bs.length = n) (hk : k < n) (t : TurnsB w base (.slice a n cap) (.slice a (n - 1) cap) (bs.eraseIdx k) w') (hbase : base ≤ w.heap.size) :
    w'.heap[B]? = some (.cells #[.slice a n cap] 60 (0, 0)) ∧ LsmC 60 62 (w'.setCell ⟨B, 0, none⟩ (.slice a (n - 1) cap)) base B ((bs.map Bk.d).eraseIdx k) cap ∧ Below base w (w'.setCell ⟨B, 0, none⟩ (.slice a (n - 1) cap)) ∧ Kept LB w (w'.setCell ⟨B, 0, none⟩ (.slice a (n - 1) cap)) := by
  have e := t.ends hr.row hbase
  have hr' := hr.row
  rw [hn] at hr'
  have c4 : w'.heap[B]? = some (.cells #[.slice a n cap] 60 (0, 0)) := (t.2.block B (lt_of_block hc) (row_neB hr' hc)).trans hc
  have le : (bs.eraseIdx k).length = n - 1 := by rw [List.length_eraseIdx, if_pos (by omega), hn]
  refine ⟨c4, ⟨a, bs.eraseIdx k, ?_, hB, ?_, ?_⟩, e.1.setCell hB _, e.2.trans (Kept.set c4 (.inl rfl) _)⟩
  · rw [List.eraseIdx_eq_take_drop_succ, List.eraseIdx_eq_take_drop_succ, List.map_append, List.map_take, List.map_drop]
  · rw [le, setCell_row c4]; rfl
  · rw [le]; exact t.1.setCell c4 (by decide) (by decide) _

set_option maxHeartbeats 4000000 in
set_option maxRecDepth 100000 in
theorem ldrop_any (B base : Nat) (ls : List (List Ent)) (id : Int) (w : World) (h : Lsm w base B ls) (hf : Fall ls) (hlen : ls.length ≤ 10000) (hsum : ls.flatten.length ≤ 10000) (hbase : base ≤ w.heap.size) :
    Calls Try.prog 16 #[.pointer (some ⟨B, 0, none⟩), .int .i64 id] w fun r w' => r = .returned (.bool (hasL ls.flatten id)) ∧ Turned w base B (dropLs ls id) w' := by
  obtain ⟨S, hS⟩ : ∃ S, w.heap.size = S := ⟨_, rfl⟩
  have HS : Hid _ := hS
  obtain ⟨u, hu⟩ : ∃ u, w.alloc (.cells #[.int .i64 id] 3) = u := ⟨_, rfl⟩
  have HU : Hid _ := hu
  have bu : Below w.heap.size w u := by rw [← hu]; exact (Below.refl _ _).alloc (Nat.le_refl _) _
  have su : S < u.heap.size := by rw [← hu, ← hS]; simp
  have cu : u.cell? ⟨S, 0, none⟩ = some (.int .i64 id) := by rw [← hu, ← hS]; exact cell_new w _ _ 0
  have hU := h.below bu
  obtain ⟨a, cap, bs, hbs, hB, hcell, hrow⟩ := hU
  obtain ⟨a', cap', cB, hc1, hc2, hB1, hat⟩ := Lsm.at (h.below bu)
  have ea : a' = a ∧ cap' = cap ∧ ls.length = bs.length := by
    have := lsm_cell hcell
    rw [cB] at this
    simp only [Option.some.injEq, Value.slice.injEq] at this
    exact ⟨this.1, this.2.2, this.2.1⟩
  obtain ⟨rfl, rfl, el⟩ := ea
  have ix := indexB_any S id a' cap' ls u hat hlen su cu
  obtain ⟨n, hn⟩ : ∃ n, ls.length = n := ⟨_, rfl⟩
  have HN : Hid _ := hn
  rw [hn] at cB ix hlen el
  have hmf : ∀ (fn : Fn) (first cap : Array Value) (w : World), (Instr.makeFunc fn first cap).run Try.prog w = .ok (.func fn first cap) w := fun _ _ _ _ => rfl
  have BU : Aside (Below w.heap.size w u) := bu
  have CU : Aside (u.cell? ⟨S, 0, none⟩ = some (.int .i64 id)) := cu
  have LU : Aside (Lsm u base B ls) := h.below bu
  have CE : Aside (u.heap[B]? = some (.cells #[.slice a' n cap'] 60 (0, 0))) := by rw [el]; exact hcell
  have RW : Aside (RowB 62 u base (.slice a' n cap') bs) := by rw [el]; exact hrow
  have HBS : Hid (bs.map Bk.d = ls) := hbs
  have HF : Aside (Fall ls) := hf
  have EL : Hid (n = bs.length) := el
  have BS : B < S := by rw [← hS]; exact h.lt.2
  have cBw : w.cell? ⟨B, 0, none⟩ = some (.slice a' n cap') := (bu.cell (p := ⟨B, 0, none⟩) (by show B < _; omega)).symm.trans cB
  clear hu bu cu hcell hrow hbs hf hat h hc1 el hn cB
  go_enter Try.func16, Try.ntmps16
  go_wp2_with fail
  rw [HU.out]
  refine ix.mono ?_
  rintro r w1 ⟨z, rfl, fi, b1⟩
  have B1 : Aside (Below u.heap.size u w1) := b1
  clear b1 ix
  rcases fi with ⟨rfl, hno⟩ | ⟨hlt, rfl⟩
  · have hh : hasL ls.flatten id = false := by
      cases e : hasL ls.flatten id with
      | false => rfl
      | true => have := firstB_has.2 e; rw [HN.out] at this; omega
    have hd : dropLs ls id = ls := by unfold dropLs; rw [if_neg (by rw [HN.out]; omega)]
    have bw : Below w.heap.size w w1 := BU.out.trans (B1.out.mono BU.out.size)
    have FIN : Aside (Turned w base B (dropLs ls id) w1) := by rw [hd]; exact ⟨LU.out.below B1.out, bw.mono hbase, Kept.of_below bw⟩
    have HH : Hid _ := hh
    clear hh hd bw hno
    go_wp2
    go_ret
    exact ⟨by rw [HH.out]; rfl, FIN.out⟩
  · obtain ⟨k, hk⟩ : ∃ k, firstB ls id = k := ⟨_, rfl⟩
    have hlt0 : firstB ls id < ls.length := by rw [HN.out]; exact hlt
    have hh : hasL ls.flatten id = true := firstB_has.1 hlt0
    rw [hk] at hlt ⊢
    have HK : Hid _ := hk
    have HH : Hid _ := hh
    have hkl : k < ls.length := by rw [HN.out]; exact hlt
    have hkb : k < bs.length := by rw [← EL.out]; exact hlt
    -- the block
    have R1 : Aside (RowB 62 w1 base (.slice a' n cap') bs) := RW.out.below B1.out
    have C1 : Aside (w1.heap[B]? = some (.cells #[.slice a' n cap'] 60 (0, 0))) := (B1.out.block B (lt_of_block CE.out)).trans CE.out
    obtain ⟨g, ha, hbg, hgs, c0, c1⟩ := R1.out.at hkb
    obtain ⟨x, hx⟩ : ∃ x, bs[k] = x := ⟨_, rfl⟩
    have xd : x.d = ls[k] := by
      have : (bs.map Bk.d)[k]? = ls[k]? := by rw [HBS.out]
      rw [List.getElem?_map, List.getElem?_eq_getElem hkb, List.getElem?_eq_getElem hkl, hx] at this
      simpa using this
    rw [hx] at c0 c1
    have xm : x ∈ bs := by rw [← hx]; exact List.getElem_mem hkb
    have ox := R1.out.own x xm
    have sx : Srt x.d := by rw [xd]; exact HF.out.srt _ (List.getElem_mem hkl)
    have lx : x.d.length ≤ 10000 := by
      have := (flat_split hkl).length_eq
      rw [List.length_append, ← xd] at this
      omega
    have cS1 : ∀ W, Below w1.heap.size w1 W → W.cell? ⟨S, 0, none⟩ = some (.int .i64 id) := fun W hW => (hW.cell (p := ⟨S, 0, none⟩) (by have := B1.out.size; show S < _; omega)).trans ((B1.out.cell (p := ⟨S, 0, none⟩) su).trans CU.out)
    have sh := shrink_any (lv x.d) x.p x.q x.d 31 #[.pointer (some ⟨S, 0, none⟩)] (fun o => decide (o = id)) w1 ox.is (by omega) (enters_of Try.func31 (by kernel_rfl) rfl) (fun o W hW => drop2_any S id o W (cS1 W hW))
    rw [keep_out, outL_srt sx] at sh
    obtain ⟨E, hE⟩ : ∃ E, outL id x.d = E := ⟨_, rfl⟩
    rw [hE] at sh
    obtain ⟨m, hm⟩ : ∃ m, lv x.d = m := ⟨_, rfl⟩
    obtain ⟨kl, hkl2⟩ : ∃ m, x.d.length = m := ⟨_, rfl⟩
    obtain ⟨xp, hxp⟩ : ∃ m, x.p = m := ⟨_, rfl⟩
    obtain ⟨xq, hxq⟩ : ∃ m, x.q = m := ⟨_, rfl⟩
    rw [hm] at c0 sh
    rw [hkl2, hxp, hxq] at c1 sh
    obtain ⟨KE, hKE⟩ : ∃ E', E.length = E' := ⟨_, rfl⟩
    obtain ⟨ME, hME⟩ : ∃ E', lv E = E' := ⟨_, rfl⟩
    have HE : Hid (outL id ls[k] = E) := by show _ = _; rw [← xd]; exact hE
    have HKE : Hid _ := hKE
    have HME : Hid _ := hME
    have yB := lsm_cell C1.out
    have z0 : ¬ (k : Int) < 0 := by omega
    have z1 : (k : Int) < (n : Int) := by omega
    subst ha
    have EB : base ≤ u.heap.size := by have := BU.out.size; omega
    clear hk hh hlt0 hx xd xm ox sx lx cS1 hE hm hkl2 hxp hxq hKE hME
    have e0 : dropLs ls id = if E.length = 0 then ls.eraseIdx k else layL (ls.eraseIdx k) E := by
      unfold dropLs
      rw [if_pos (by rw [HK.out]; exact hkl)]
      unfold dropB
      rw [HK.out, List.getElem?_eq_getElem hkl, Option.getD_some, HE.out]
    have E0 : Hid _ := e0
    have BW1 : Aside (Below w.heap.size w w1) := BU.out.trans (B1.out.mono BU.out.size)
    have sw1 : w.heap.size ≤ w1.heap.size := BW1.out.size
    clear e0
    go_wp2_with fail
    refine sh.mono ?_
    rintro r w2 ⟨a2, c2, rfl, o2, b2⟩
    rw [show lvl E.length = ME from HME.out, HKE.out]
    obtain ⟨R2, hR2⟩ : ∃ R, w2.heap.size = R := ⟨_, rfl⟩
    obtain ⟨v2, hv2⟩ : ∃ v, w2.alloc (.cells #[.int .i64 ME, .slice a2 KE c2] 62) = v := ⟨_, rfl⟩
    have bv2 : Below w2.heap.size w2 v2 := by rw [← hv2]; exact (Below.refl _ _).alloc (Nat.le_refl _) _
    have HV2 : Hid _ := hv2
    have b12 : Below w1.heap.size w1 v2 := b2.trans (bv2.mono b2.size)
    have XL : Aside (Box2 R2 (.int .i64 ME) (.slice a2 KE c2) v2) := by rw [← hv2, ← hR2]; exact Box2.new _ _ _ _
    have R2' : Aside (RowB 62 v2 base (.slice (some ⟨g, 0, none⟩) n cap') bs) := R1.out.below b12
    have C2 : Aside (v2.heap[B]? = some (.cells #[.slice (some ⟨g, 0, none⟩) n cap'] 60 (0, 0))) := (b12.block B (lt_of_block C1.out)).trans C1.out
    have OE : Aside (OwnE v2 base (.slice a2 KE c2) E) := by have := (o2.low (Nat.le_trans hbase sw1)).below bv2; rw [HKE.out] at this; exact this
    have BV2 : Aside (Below w.heap.size w v2) := BW1.out.trans (b12.mono sw1)
    have yB2 := lsm_cell ((b2.block B (lt_of_block C1.out)).trans C1.out)
    have dl := delete_any (some ⟨g, 0, none⟩) n cap' k base bs v2 R2'.out EL.out.symm hlt
    obtain ⟨n1, hn1⟩ : ∃ n1, n - 1 = n1 := ⟨_, rfl⟩
    have HN1 : Hid _ := hn1
    rw [hn1] at dl
    have gR : g < R2 := by have := b2.size; omega
    have BR : B < R2 := by have := lt_of_block C1.out; have := b2.size; omega
    have nBR : ¬ B = R2 := by omega
    have nRB : ¬ R2 = B := by omega
    clear o2 b2 bv2 b12 hv2 sh hn1 c0 c1 yB R1 C1
    go_wp2_with fail
    rw [HV2.out]
    refine dl.mono ?_
    rintro r w3 ⟨rfl, t3⟩
    rw [← HN1.out] at t3
    have ll := lsm_less hB C2.out R2'.out EL.out.symm hlt t3 (Nat.le_trans hbase BV2.out.size)
    rw [HN1.out, HBS.out] at ll
    obtain ⟨c4, l4, b4, k4⟩ := ll
    have y3 := lsm_cell c4
    have f3 := lsm_fro c4
    have x3 : Box2 R2 (.int .i64 ME) (.slice a2 KE c2) w3 := XL.out.grown t3.2 (by simp only [Value.ownBlock, ne_eq, Option.some.injEq]; omega)
    have x4 : Box2 R2 (.int .i64 ME) (.slice a2 KE c2) (w3.setCell ⟨B, 0, none⟩ (.slice (some ⟨g, 0, none⟩) n1 cap')) := x3.other (by show B ≠ R2; omega) _
    have i0 := x3.c0
    have i1 := x3.c1
    obtain ⟨w4, hw4⟩ : ∃ W, w3.setCell ⟨B, 0, none⟩ (.slice (some ⟨g, 0, none⟩) n1 cap') = W := ⟨_, rfl⟩
    rw [hw4] at l4 b4 k4 x4
    have HW4 : Hid _ := hw4
    have L4 : Aside (LsmC 60 62 w4 base B (ls.eraseIdx k) cap') := l4
    have O4 : Aside (OwnE w4 base (.slice a2 KE c2) E) := k4.own lb_ent OE.out
    have B4 : Aside (Below base w w4) := (BV2.out.mono hbase).trans b4
    have K4 : Aside (Kept LB w w4) := (Kept.of_below BV2.out).trans k4
    have ncap : n ≤ cap' := by
      obtain ⟨a9, c9, e, h1, h2⟩ := R2'.out.slice
      injection e with _ _ e3
      have := EL.out
      omega
    have el : (ls.eraseIdx k).length = n - 1 := by rw [List.length_eraseIdx, if_pos hkl, HN.out]
    have ef := (flat_split hkl).length_eq
    rw [List.length_append] at ef
    have eE : E.length ≤ ls[k].length := by rw [← HE.out]; exact outL_len _ _
    have EF : Hid ((ls.eraseIdx k).flatten.length + E.length ≤ 10000) := by show _ ≤ _; omega
    have ELN : Hid ((ls.eraseIdx k).length = n - 1) := el
    clear t3 l4 b4 k4 x3 c4 dl hw4 el ef eE
    by_cases hz : KE = 0
    · subst hz
      have FIN : Aside (Turned w base B (dropLs ls id) w4) := by
        rw [E0.out, if_pos HKE.out]
        exact ⟨L4.out.t, B4.out, K4.out⟩
      go_wp2_with fail
      rw [HW4.out]
      go_ret
      exact ⟨by rw [HH.out]; rfl, FIN.out⟩
    · have hz2 : (0 : Int) < (KE : Int) := by omega
      have ly := lay_any B base cap' (ls.eraseIdx k) E a2 c2 w4 L4.out (by rw [HKE.out]; exact O4.out) (.inl (by rw [ELN.out]; omega)) (by rw [ELN.out]; omega) (by have := EF.out; omega) (Nat.le_trans hbase K4.out.size)
      rw [HME.out, HKE.out] at ly
      go_wp2_with fail
      rw [HW4.out]
      refine ly.mono ?_
      rintro r w5 ⟨rfl, t5⟩
      have FIN : Aside (Turned w base B (dropLs ls id) w5) := by
        rw [E0.out, if_neg (by rw [HKE.out]; exact hz)]
        exact ⟨t5.1, B4.out.trans t5.2.1, K4.out.trans t5.2.2⟩
      clear t5 ly
      go_wp2
      go_ret
      exact ⟨by rw [HH.out]; rfl, FIN.out⟩
end Go.Proofs.Ytchephglapnloaa
