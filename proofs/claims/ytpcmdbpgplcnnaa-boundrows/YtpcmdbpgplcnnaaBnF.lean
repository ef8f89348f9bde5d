/- Contract: sources. -/
import Derived.Test.YtpcmdbpgplcnnaaBnE
namespace Go.Proofs.Ytpcmdbpgplcnnaa
open Go.RowKit Go.Lib Go.WideMaps Go.Maps
set_option linter.unusedVariables false
set_option maxRecDepth 10000

section
variable {w w' : World} {a : Option Addr} {cap : Nat} {d : List EvR}
/-- A row of whole numbers. -/
def RowS (w : World) (S : Nat) (l : List Int) : Prop := w.heap[S]? = some (.cells (l.map ivV).toArray 3 (0, 0))
theorem RowS.lt {S : Nat} {l : List Int} (h : RowS w S l) : S < w.heap.size := lt_of_block h
theorem RowS.of_block {S : Nat} {l : List Int} (h : RowS w S l) (e : w'.heap[S]? = w.heap[S]?) : RowS w' S l := e.trans h
theorem RowS.cell {S i : Nat} {l : List Int} {x : Int} (h : RowS w S l) (hi : l[i]? = some x) : w.cell? ⟨S, i, none⟩ = some (.int .i64 x) := by
  rw [cell_of_row _ _ _ _ _ _ h, List.getElem?_toArray, List.getElem?_map, hi]; rfl
theorem RowS.frozen {S : Nat} {l : List Int} (h : RowS w S l) (o : Nat) : w.frozen? ⟨S, o, none⟩ = false := by
  have : w.heap[S]? = _ := h
  simp [World.frozen?, this]
theorem RowS.set {S i : Nat} {l : List Int} (h : RowS w S l) (x : Int) : RowS (w.setCell ⟨S, i, none⟩ (.int .i64 x)) S (l.set i x) := by
  have hb : w.heap[S]? = _ := h
  unfold RowS
  simp [World.setCell, Array.getElem?_modify, hb, List.map_set, ivV]
theorem RowS.isG {S : Nat} {l : List Int} (h : RowS w S l) (hl : l.length ≤ 10000) : IsG rI w (some ⟨S, 0, none⟩) l.length l := by
  refine ⟨Nat.le_refl _, by unfold maxLen; omega, fun j u hu => ⟨S, 0, rfl, h.lt, ?_⟩⟩
  have e : rI.flat l = l.map ivV := by
    have : ∀ l : List Int, l.flatMap (fun x => [ivV x]) = l.map ivV := fun l => by induction l with
      | nil => rfl
      | cons x l ih => rw [List.flatMap_cons, ih]; rfl
    exact this l
  rw [e] at hu
  rw [Nat.zero_add, cell_of_row _ _ _ _ _ _ h, List.getElem?_toArray, hu]
theorem makeS (n : Nat) (hn : n ≤ 10000) (w : World) : (Instr.makeSlice 43 (.int .i64 (n : Int)) (.int .i64 (n : Int))).run Try.prog w = .ok (.slice (some ⟨w.heap.size, 0, none⟩) n n) (w.alloc (.cells (Array.replicate n (ivV 0)) 3)) := by
  have h : (Try.prog.info? 3).map (fun i => (i.zero, i.size, i.bytes)) = some (some (.int .i64 0), 1, 8) := by kernel_rfl
  obtain ⟨i, hi, h2⟩ := Option.map_eq_some_iff.1 h
  simp at h2
  have hm := run_make (P := Try.prog) w 43 3 i _ Try.underlying43 hi h2.1 .i64 .i64 n n (by omega) (Int.le_refl _) (by rw [h2.2.2]; omega) (by omega)
  simp only [Int.toNat_natCast, h2.2.1] at hm
  rw [hm]
  congr 3
  refine Array.ext (by simp [madeCells]) (fun j h1 h2 => by simp [madeCells, Value.cells, ivV, Nat.mod_one])
theorem rowS_zero (w : World) (n : Nat) : RowS (w.alloc (.cells (Array.replicate n (ivV 0)) 3)) w.heap.size (List.replicate n 0) := by
  unfold RowS
  rw [heap_alloc_new]
  simp
theorem src_start1 (w : World) (n : Nat) : ∃ M S V, ((w.alloc (.map #[] 0)).alloc (.cells (Array.replicate n (ivV 0)) 3)).drew = V ∧ w.heap.size + 1 = S ∧ w.heap.size = M ∧ MapI V M [] 0 ∧ RowS V S (List.replicate n 0) ∧ Below w.heap.size w V ∧ w.heap.size ≤ M ∧ w.heap.size ≤ S ∧ M ≠ S := by
  have b1 := bel1 w (.map #[] 0)
  have b2 := bel1 (w.alloc (.map #[] 0)) (.cells (Array.replicate n (ivV 0)) 3)
  have r := rowS_zero (w.alloc (.map #[] 0)) n
  rw [alloc_sz] at r
  exact ⟨_, _, _, rfl, rfl, rfl, (MapI.made w).below b2.drew, r, (Below.tr b1 b2).drew, Nat.le_refl _, by omega, by omega⟩
theorem src_start2 (w : World) (n : Nat) : ∃ M S V, ((w.alloc (.cells (Array.replicate n (ivV 0)) 3)).alloc (.map #[] 0)).drew = V ∧ w.heap.size + 1 = M ∧ w.heap.size = S ∧ MapI V M [] 0 ∧ RowS V S (List.replicate n 0) ∧ Below w.heap.size w V ∧ w.heap.size ≤ M ∧ w.heap.size ≤ S ∧ M ≠ S := by
  have b1 := bel1 w (.cells (Array.replicate n (ivV 0)) 3)
  have b2 := bel1 (w.alloc (.cells (Array.replicate n (ivV 0)) 3)) (.map #[] 0)
  have r := rowS_zero w n
  have m := MapI.made (w.alloc (.cells (Array.replicate n (ivV 0)) 3))
  rw [alloc_sz] at m
  exact ⟨_, _, _, rfl, rfl, rfl, m.below (Below.refl _ _).drew, r.of_block (b2.drew.block _ r.lt), (Below.tr b1 b2).drew, by omega, Nat.le_refl _, by omega⟩
/-- What sources has behind so many events. -/
def SrcAt (V w : World) (X M S : Nat) (d : List EvR) (I : Nat) : Prop := MapI V M (lastB [] 0 (d.take I)) I ∧ RowS V S (srcB [] 0 (d.take I) ++ List.replicate (d.length - I) 0) ∧ Below X w V ∧ X ≤ M ∧ X ≤ S ∧ M ≠ S
def SrcIs (w w' : World) (e : Ending) (d : List EvR) : Prop := ∃ S, e = .returned (.slice (some ⟨S, 0, none⟩) d.length d.length) ∧ RowS w' S (srcB [] 0 d) ∧ Below w.heap.size w w'
set_option maxHeartbeats 16000000 in
set_option maxRecDepth 100000 in
theorem sources_any (h : IsG rE w a cap d) (hd : d.length ≤ 10000) (ok : ∀ x ∈ d, x.fits) : Calls Try.prog 20 #[.slice a d.length cap] w fun e w' => SrcIs w w' e d := by
  have HG : Aside (IsG rE w a cap d) := h
  have OK : Aside (∀ x ∈ d, x.fits) := ok
  have HD : Aside (d.length ≤ 10000) := hd
  obtain ⟨X, hX⟩ : ∃ X, w.heap.size = X := ⟨_, rfl⟩
  have HX : Aside _ := hX
  have mm := makeI
  have ms := makeS d.length hd
  clear h ok
  go_enter Try.func20, Try.ntmps20
  go_upto_region 1 with fail
  go_cut [3, 4] from 7 to 10 (fun s3 s4 wx => ∃ M S : Nat, s3 = .map (some M) ∧ s4 = .slice (some ⟨S, 0, none⟩) d.length d.length ∧ Aside (SrcAt wx w X M S d 0))
  case first =>
    refine wp_region_held_drew (S := (fun _ : World => True)) (by kernel_rfl) (trivial) (fun hHeld => ?_)
    refine wpAnyH_take (i := 1) (oi := { dst := some 8, op := Op.move (Operand.tmp 0), type := 22, pos := "bound.go:99", after := #[], guard := none }) (v := ?_) rfl (by kernel_rfl) (by kernel_rfl) (by kernel_rfl) (fun _ _ _ h => h) (Or.inl ⟨by rfl, ?_⟩) (by assumption) ?_
    rotate_left
    · (intro w hSw; (try dsimp only at hSw); go_simp; try with_reducible rfl)
    simp only [Act.put, List.setIfInBounds_toArray, List.set_cons_zero, List.set_cons_succ]
    refine wpAnyH_take (i := 2) (oi := { dst := some 9, op := Op.call { callee := Callee.builtin Builtin.len, args := #[Operand.tmp 8], argTypes := #[22] }, type := 3, pos := "bound.go:99", after := #[{ on := 1, ground := Ground.data }], guard := none }) (v := ?_) rfl (by kernel_rfl) (by kernel_rfl) (by kernel_rfl) (fun _ _ _ h => h) (Or.inl ⟨by rfl, ?_⟩) (by assumption) ?_
    rotate_left
    · (intro w hSw; (try dsimp only at hSw); go_simp; try with_reducible rfl)
    simp only [Act.put, List.setIfInBounds_toArray, List.set_cons_zero, List.set_cons_succ]
    refine wpAnyH_ready (rs := [0, 3]) (by kernel_rfl) (by simp) ?_
    refine AllReadyH.cons (o := { dst := some 7, op := Op.makeMap 45 none, type := 45, pos := "bound.go:99", after := #[], guard := none }) rfl (fun Kt hKt => ?_) (AllReadyH.cons (o := { dst := some 10, op := Op.makeSlice 43 (Operand.tmp 9) (Operand.tmp 9), type := 43, pos := "bound.go:99", after := #[{ on := 2, ground := Ground.data }, { on := 2, ground := Ground.data }], guard := none }) rfl (fun Kt hKt => ?_) AllReadyH.nil)
    · go_simp
      go_wp2_with fail
      refine hKt.out _ _ (trivial) (fun hHeld => ?_)
      clear hKt Kt
      try simp only [Act.put, List.setIfInBounds_toArray, List.set_cons_zero, List.set_cons_succ]
      refine wpAnyH_take (i := 4) (oi := { dst := some 3, op := Op.assign (Operand.tmp 7), type := 45, pos := "bound.go:99", after := #[{ on := 0, ground := Ground.data }, { on := 0, ground := Ground.phase }, { on := 1, ground := Ground.textOnly Departure.lateStores }, { on := 2, ground := Ground.textOnly Departure.lateStoresUnsure }, { on := 3, ground := Ground.textOnly Departure.lateStoresUnsure }], guard := none }) (v := ?_) rfl (by kernel_rfl) (by kernel_rfl) (by kernel_rfl) (fun _ _ _ h => h) (Or.inl ⟨by rfl, ?_⟩) (by assumption) ?_
      rotate_left
      · (intro w hSw; (try dsimp only at hSw); go_simp; try with_reducible rfl)
      simp only [Act.put, List.setIfInBounds_toArray, List.set_cons_zero, List.set_cons_succ]
      refine wpAnyH_ready (rs := [3]) (by kernel_rfl) (by simp) ?_
      refine AllReadyH.cons (o := { dst := some 10, op := Op.makeSlice 43 (Operand.tmp 9) (Operand.tmp 9), type := 43, pos := "bound.go:99", after := #[{ on := 2, ground := Ground.data }, { on := 2, ground := Ground.data }], guard := none }) rfl (fun Kt hKt => ?_) AllReadyH.nil
      go_simp
      go_wp2_with fail
      refine hKt.out _ _ (trivial) (fun hHeld => ?_)
      clear hKt Kt
      try simp only [Act.put, List.setIfInBounds_toArray, List.set_cons_zero, List.set_cons_succ]
      refine wpAnyH_take (i := 5) (oi := { dst := some 4, op := Op.assign (Operand.tmp 10), type := 43, pos := "bound.go:99", after := #[{ on := 3, ground := Ground.data }, { on := 4, ground := Ground.chain }, { on := 0, ground := Ground.phase }, { on := 1, ground := Ground.phase }, { on := 2, ground := Ground.phase }, { on := 3, ground := Ground.phase }, { on := 4, ground := Ground.phase }], guard := none }) (v := ?_) rfl (by kernel_rfl) (by kernel_rfl) (by kernel_rfl) (fun _ _ _ h => h) (Or.inl ⟨by rfl, ?_⟩) (by assumption) ?_
      rotate_left
      · (intro w hSw; (try dsimp only at hSw); go_simp; try with_reducible rfl)
      simp only [Act.put, List.setIfInBounds_toArray, List.set_cons_zero, List.set_cons_succ]
      refine wpAnyH_done (by kernel_rfl) ?_ _
      go_wp2_with fail
      obtain ⟨M, S, V, hV, hS, hM, q1, q2, q3, q4, q5, q6⟩ := src_start1 w d.length
      rw [hV]
      rw [hX] at hM hS q3 q4 q5
      go_meet
      refine ⟨M, S, ?_, ?_, q1, q2, q3, q4, q5, q6⟩
      · simp [hM]
      · simp [hS]
    · go_simp
      go_wp2_with fail
      refine hKt.out _ _ (trivial) (fun hHeld => ?_)
      clear hKt Kt
      try simp only [Act.put, List.setIfInBounds_toArray, List.set_cons_zero, List.set_cons_succ]
      refine wpAnyH_ready (rs := [0]) (by kernel_rfl) (by simp) ?_
      refine AllReadyH.cons (o := { dst := some 7, op := Op.makeMap 45 none, type := 45, pos := "bound.go:99", after := #[], guard := none }) rfl (fun Kt hKt => ?_) AllReadyH.nil
      go_simp
      go_wp2_with fail
      refine hKt.out _ _ (trivial) (fun hHeld => ?_)
      clear hKt Kt
      try simp only [Act.put, List.setIfInBounds_toArray, List.set_cons_zero, List.set_cons_succ]
      refine wpAnyH_take (i := 4) (oi := { dst := some 3, op := Op.assign (Operand.tmp 7), type := 45, pos := "bound.go:99", after := #[{ on := 0, ground := Ground.data }, { on := 0, ground := Ground.phase }, { on := 1, ground := Ground.textOnly Departure.lateStores }, { on := 2, ground := Ground.textOnly Departure.lateStoresUnsure }, { on := 3, ground := Ground.textOnly Departure.lateStoresUnsure }], guard := none }) (v := ?_) rfl (by kernel_rfl) (by kernel_rfl) (by kernel_rfl) (fun _ _ _ h => h) (Or.inl ⟨by rfl, ?_⟩) (by assumption) ?_
      rotate_left
      · (intro w hSw; (try dsimp only at hSw); go_simp; try with_reducible rfl)
      simp only [Act.put, List.setIfInBounds_toArray, List.set_cons_zero, List.set_cons_succ]
      refine wpAnyH_take (i := 5) (oi := { dst := some 4, op := Op.assign (Operand.tmp 10), type := 43, pos := "bound.go:99", after := #[{ on := 3, ground := Ground.data }, { on := 4, ground := Ground.chain }, { on := 0, ground := Ground.phase }, { on := 1, ground := Ground.phase }, { on := 2, ground := Ground.phase }, { on := 3, ground := Ground.phase }, { on := 4, ground := Ground.phase }], guard := none }) (v := ?_) rfl (by kernel_rfl) (by kernel_rfl) (by kernel_rfl) (fun _ _ _ h => h) (Or.inl ⟨by rfl, ?_⟩) (by assumption) ?_
      rotate_left
      · (intro w hSw; (try dsimp only at hSw); go_simp; try with_reducible rfl)
      simp only [Act.put, List.setIfInBounds_toArray, List.set_cons_zero, List.set_cons_succ]
      refine wpAnyH_done (by kernel_rfl) ?_ _
      go_wp2_with fail
      obtain ⟨M, S, V, hV, hM, hS, q1, q2, q3, q4, q5, q6⟩ := src_start2 w d.length
      rw [hV]
      rw [hX] at hM hS q3 q4 q5
      go_meet
      refine ⟨M, S, ?_, ?_, q1, q2, q3, q4, q5, q6⟩
      · simp [hM]
      · simp [hS]
  case rest =>
  obtain ⟨M, S, rfl, rfl, IS⟩ := hcut
  have hlen := HG.out.len
  go_wp2_with fail
  go_loopg [13] d.length (fun kx s13 wr => ∃ I : Nat, s13 = .int .i64 I ∧ I ≤ d.length ∧ d.length - I ≤ kx ∧ Aside (SrcAt wr w X M S d I))
  case atStart => exact ⟨0, rfl, by omega, by omega, IS⟩
  case round =>
    clear IS
    obtain ⟨I, rfl, hI, hkx, IS⟩ := hrel
    obtain ⟨MI, RS, G, zM, zS, zz⟩ := IS.out
    have hXs : Aside (X ≤ wr.heap.size) := by have := G.size; have := HX.out; show _ ≤ _; omega
    have Hr : IsG rE wr a cap d := HG.out.below (by rw [HX.out]; exact G)
    by_cases hlt : I < d.length
    · have hz : (I : Int) < (d.length : Int) := by omega
      obtain ⟨x, hx⟩ : ∃ x, d[I]? = some x := ⟨_, List.getElem?_eq_getElem hlt⟩
      obtain ⟨b, off, rfl, hb, e0, e1, e2, e3, e4, e5⟩ := evAt Hr hx
      have HHX : Aside _ := hx
      have xok : Aside x.fits := OK.out _ (mem_at hx)
      obtain ⟨Y, hY⟩ : ∃ Y, wr.heap.size = Y := ⟨_, rfl⟩
      obtain ⟨u2, hu2⟩ : ∃ u, wr.alloc (.cells #[.int .i64 x.k, .int .i64 x.t, .int .i64 x.i, .int .u64 x.y, .int .u64 x.c, .int .u64 x.n] 25) = u := ⟨_, rfl⟩
      have b2 : Below wr.heap.size wr u2 := by rw [← hu2]; exact bel1 _ _
      have E2 : EBx u2 Y x := by rw [← hu2, ← hY]; exact EBx.made wr x
      have M2 : MapI u2 M (lastB [] 0 (d.take I)) I := MI.below b2
      have R2 : RowS u2 S (srcB [] 0 (d.take I) ++ List.replicate (d.length - I) 0) := RS.of_block (b2.block S RS.lt)
      have G2 : Below X w u2 := G.trans (b2.mono hXs.out)
      have GS2 : Aside (X ≤ u2.heap.size) := by have := b2.size; have := hXs.out; show _ ≤ _; omega
      have YM : Aside (Y ≠ M) := by have := MI.lt; show _ ≠ _; omega
      have YS : Aside (Y ≠ S) := by have := RS.lt; show _ ≠ _; omega
      obtain ⟨_, d0, d1, d2, d3, d4, d5⟩ := id E2
      have HY : Aside _ := hY
      have HU2 : Aside _ := hu2
      have tl : (d.take I).length = I := by rw [List.length_take]; omega
      have TL : Aside _ := tl
      have sl : Aside ((srcB [] 0 (d.take I)).length = I) := by show _ = _; rw [srcB_len, tl]
      have LB : lastB [] 0 (d.take (I + 1)) = if x.k = 2 then kput x.i (I : Int) (lastB [] 0 (d.take I)) else lastB [] 0 (d.take I) := by rw [take_snoc hx, lastB_snoc, tl, Nat.zero_add]
      have SB : srcB [] 0 (d.take (I + 1)) = srcB [] 0 (d.take I) ++ [if x.k = 3 then (kget x.i (lastB [] 0 (d.take I))).getD 0 else 0] := by rw [take_snoc hx, srcB_snoc]
      have LB : Aside _ := LB
      have SB : Aside _ := SB
      have RP : List.replicate (d.length - I) (0 : Int) = 0 :: List.replicate (d.length - (I + 1)) 0 := by
        rw [show d.length - I = (d.length - (I + 1)) + 1 by omega, List.replicate_succ]
      have RP : Aside _ := RP
      have Z : Aside (X ≤ M ∧ X ≤ S ∧ M ≠ S) := ⟨zM, zS, zz⟩
      have M2 : Aside (MapI u2 M (lastB [] 0 (d.take I)) I) := M2
      have R2 : Aside (RowS u2 S (srcB [] 0 (d.take I) ++ List.replicate (d.length - I) 0)) := R2
      have G2 : Aside (Below X w u2) := G2
      clear hY hu2 b2 Hr hx MI RS G IS tl zM zS zz
      go_upto_region 5 with fail
      rw [HU2.out, HY.out]
      clear e0 e1 e2 e3 e4 e5 hb
      by_cases k2 : x.k = 2
      · have NR : Aside (RowS u2 S (srcB [] 0 (d.take (I + 1)) ++ List.replicate (d.length - (I + 1)) 0)) := by
          show RowS _ _ _
          rw [SB.out, if_neg (by omega), List.append_assoc, List.singleton_append, ← RP.out]
          exact R2.out
        obtain ⟨v2, hr2, M3, g3⟩ := M2.out.put (by have := HD.out; omega) xok.out.1 (I : Int)
        have IS : Aside (SrcAt v2 w X M S d (I + 1)) := by
          refine ⟨?_, NR.out.of_block (g3.block S NR.out.lt (fun h => Z.out.2.2 (by injection h with h; exact h.symm))), G2.out.grown g3 GS2.out (fun k hk => by injection hk with hk; rw [← hk]; exact Z.out.1), Z.out⟩
          rw [LB.out, if_pos k2]
          exact M3
        clear g3 M3
        go_wp2_with fail
        go_roundg (d.length - (I + 1))
        case measure => omega
        case rel => exact ⟨I + 1, by go_num, by omega, Nat.le_refl _, IS⟩
      · have NM : Aside (MapI u2 M (lastB [] 0 (d.take (I + 1))) (I + 1)) := by
          show MapI _ _ _ _
          rw [LB.out, if_neg k2]
          exact M2.out.wide (by omega)
        by_cases k3 : x.k = 3
        · obtain ⟨z, hz⟩ : ∃ z, (kget x.i (lastB [] 0 (d.take I))).getD 0 = z := ⟨_, rfl⟩
          have LK := M2.out.look xok.out.1
          rw [hz] at LK
          have HZ : Aside _ := hz
          have row0 : (srcB [] 0 (d.take I) ++ List.replicate (d.length - I) 0)[I]? = some 0 := by
            rw [RP.out, List.getElem?_append_right (by have := sl.out; omega), sl.out, Nat.sub_self]; rfl
          have c0 : ∀ V : World, RowS V S (srcB [] 0 (d.take I) ++ List.replicate (d.length - I) 0) → V.cell? ⟨S, I, none⟩ = some (.int .i64 0) ∧ V.frozen? ⟨S, I, none⟩ = false := fun V h => ⟨h.cell row0, h.frozen I⟩
          have R3 : RowS u2 S (srcB [] 0 (d.take I) ++ List.replicate (d.length - I) 0) := R2.out
          have cz := c0 u2 R3
          have NS : Aside (RowS (u2.setCell ⟨S, I, none⟩ (.int .i64 z)) S (srcB [] 0 (d.take (I + 1)) ++ List.replicate (d.length - (I + 1)) 0)) := by
            have := R3.set (i := I) z
            show RowS _ _ _
            rw [SB.out, if_pos k3, HZ.out]
            rw [RP.out, List.set_append_right _ _ (by have := sl.out; omega), sl.out, Nat.sub_self] at this
            rw [List.append_assoc]
            exact this
          have NM2 : Aside (MapI (u2.setCell ⟨S, I, none⟩ (.int .i64 z)) M (lastB [] 0 (d.take (I + 1))) (I + 1)) := NM.out.of_block (heap_setCell_other _ _ _ _ (fun h => Z.out.2.2 h))
          have NG : Aside (Below X w (u2.setCell ⟨S, I, none⟩ (.int .i64 z))) := G2.out.setCell Z.out.2.1 _
          obtain ⟨cz0, cz1⟩ := cz
          clear hz R3 row0 c0
          go_wp2_with fail
          go_roundg (d.length - (I + 1))
          case measure => omega
          case rel => exact ⟨I + 1, by go_num, by omega, Nat.le_refl _, NM2.out, NS.out, NG.out, Z.out⟩
        · have NR : Aside (RowS u2 S (srcB [] 0 (d.take (I + 1)) ++ List.replicate (d.length - (I + 1)) 0)) := by
            show RowS _ _ _
            rw [SB.out, if_neg k3, List.append_assoc, List.singleton_append, ← RP.out]
            exact R2.out
          have IS : Aside (SrcAt u2 w X M S d (I + 1)) := ⟨NM.out, NR.out, G2.out, Z.out⟩
          go_wp2_with fail
          go_roundg (d.length - (I + 1))
          case measure => omega
          case rel => exact ⟨I + 1, by go_num, by omega, Nat.le_refl _, IS⟩
    · have e0 : I = d.length := by omega
      have hz : ¬ (I : Int) < (d.length : Int) := by omega
      subst e0
      rw [List.take_length, Nat.sub_self] at RS
      have FIN : Aside (SrcIs w wr (.returned (.slice (some ⟨S, 0, none⟩) d.length d.length)) d) := ⟨S, rfl, by simpa using RS, by rw [HX.out]; exact G⟩
      clear MI RS G
      go_wp2_with fail
      go_ret
      exact FIN.out
end
end Go.Proofs.Ytpcmdbpgplcnnaa
