/- The document's Drop. -/
import Derived.Deep.LoopGhost
import Derived.Test.YtchephglapnloaaLsmPA
import Derived.Test.YtchephglapnloaaLsmX
namespace Go.Proofs.Ytchephglapnloaa
open Go.RowKit Go.Lib Go.Sort
set_option linter.unusedVariables false
theorem drop_none {ls : List (List Ent)} {id : Int} (h : ∀ j (hj : j < ls.length), hasL ls[j] id = false) : hasL ls.flatten id = false ∧ dropLs ls id = ls := by
  have e : firstB ls id = ls.length := firstB_none fun d hd => by
    obtain ⟨j, hj, rfl⟩ := List.getElem_of_mem hd
    exact h j hj
  refine ⟨?_, by unfold dropLs; rw [if_neg (by omega)]⟩
  cases c : hasL ls.flatten id with
  | false => rfl
  | true => have := firstB_has.2 c; omega
theorem drop_sett {ls : List (List Ent)} {E : List Ent} {id : Int} {i : Nat} (hf : Fall ls) (hi : i < ls.length) (hh : hasL ls[i] id = true) (hA : ∀ j (hj : j < ls.length), j < i → hasL ls[j] id = false) (hE : outL id ls[i] = E) :
    hasL ls.flatten id = true ∧ Srt E ∧ (ls.take i ++ ls.drop (i + 1)).flatten.length + ls[i].length = ls.flatten.length ∧ (E.length = 0 → Sett (ls.take i ++ ls.drop (i + 1)) (dropLs ls id)) ∧ ∀ k, 0 < E.length → LayAt (ls.take i ++ ls.drop (i + 1)) E k → Sett (laid (ls.take i ++ ls.drop (i + 1)) E k) (dropLs ls id) := by
  have e : firstB ls id = i := firstB_at hi hh fun j hj => hA j (by omega) hj
  have er : ls.take i ++ ls.drop (i + 1) = ls.eraseIdx i := (List.eraseIdx_eq_take_drop_succ ls i).symm
  have fe : Fall (ls.eraseIdx i) := hf.sub (List.eraseIdx_sublist ls i)
  have sE : Srt E := by rw [← hE]; exact (hf.srt _ (List.getElem_mem hi)).filter _
  have dl : dropLs ls id = if E.length = 0 then ls.eraseIdx i else layL (ls.eraseIdx i) E := by
    unfold dropLs dropB
    rw [e, if_pos hi, List.getElem?_eq_getElem hi, Option.getD_some, hE]
  rw [er]
  refine ⟨firstB_has.1 (by omega), sE, ?_, fun h0 => ?_, fun k hk la => ?_⟩
  · have := (flat_split hi).length_eq
    rw [List.length_append] at this
    exact this.symm
  · rw [dl, if_pos h0]
    exact .inl ⟨fe, rfl⟩
  · rw [dl, if_neg (by omega)]
    exact sett_lay fe hk sE la
set_option maxHeartbeats 4000000 in
set_option maxRecDepth 100000 in
theorem rdrop_any (B base : Nat) (ls : List (List Ent)) (id : Int) (w : World) (h : RLsm w base B ls) (hf : Fall ls) (hlen : ls.length ≤ 1000) (hsum : ls.flatten.length ≤ 5000) (hbase : base ≤ w.heap.size) :
    Calls Try.prog 19 #[.pointer (some ⟨B, 0, none⟩), .int .i64 id] w fun r w' => r = .returned (.bool (hasL ls.flatten id)) ∧ RTurned w base B (dropLs ls id) w' := by
  obtain ⟨a, cap, bs, hbs, hB, hcell, hcap, hmax, rb⟩ := h
  obtain ⟨n, hn⟩ : ∃ n, bs.length = n := ⟨_, rfl⟩
  have hln : ls.length = n := by rw [← hbs, List.length_map, hn]
  have HN : Hid _ := hn
  have HLN : Hid _ := hln
  have HBS : Hid (bs.map Bk.d = ls) := hbs
  have HF : Aside (Fall ls) := hf
  have RW : Aside (RLsm w base B ls) := ⟨a, cap, bs, hbs, hB, hcell, hcap, hmax, rb⟩
  rw [hn] at hcell hcap
  have CW : Aside (w.heap[B]? = some (.cells #[.slice a n cap] 44 (0, 0))) := hcell
  have RB0 : Aside (RefB w base a bs) := rb
  unfold maxLen at hmax
  have n63 : n ≤ 1000 := by omega
  have mx := mixed
  clear hcell rb hbs hn hln hf hlen
  go_enter Try.func19, Try.ntmps19
  go_wp2_with fail
  go_loopg [4, 5, 6] (n + 1) (fun kx s4 s5 s6 wr => ∃ (i : Nat), s4 = .bool false ∧ s5 = .int .i64 i ∧ i ≤ n ∧ n + 1 - i ≤ kx ∧ Aside (Below w.heap.size w wr) ∧ Aside (∀ j (hj : j < ls.length), j < i → hasL ls[j] id = false))
  case atStart => exact ⟨0, rfl, rfl, by omega, by omega, Below.refl _ _, (fun j _ h => absurd h (by omega) : ∀ j (hj : j < ls.length), j < 0 → hasL ls[j] id = false)⟩
  case round =>
    obtain ⟨i, rfl, rfl, hi, hix, D, AH⟩ := hrel
    have cB := (D.out.block B (lt_of_block CW.out)).trans CW.out
    have swr : w.heap.size ≤ wr.heap.size := D.out.size
    have yB := lsm_cell cB
    have CB : Aside (wr.heap[B]? = some (.cells #[.slice a n cap] 44 (0, 0))) := cB
    have RB : Aside (RefB wr base a bs) := RB0.out.below D.out
    clear cB
    by_cases hlt : i < n
    · have hz : (i : Int) < (n : Int) := by omega
      have hib : i < bs.length := by rw [HN.out]; omega
      have hik : i < ls.length := by rw [HLN.out]; omega
      obtain ⟨g, off, ha, hg, _, c1⟩ := RB.out.cell hib
      have ex : bs[i].d = ls[i] := by
        have : (bs.map Bk.d)[i]? = ls[i]? := by rw [HBS.out]
        rw [List.getElem?_map, List.getElem?_eq_getElem hib, List.getElem?_eq_getElem hik] at this
        simpa using this
      obtain ⟨x, hx⟩ : ∃ x, bs[i] = x := ⟨_, rfl⟩
      obtain ⟨d1, hd1⟩ : ∃ d, ls[i] = d := ⟨_, rfl⟩
      rw [hx] at ex c1
      rw [hd1] at ex
      rw [ex] at c1
      obtain ⟨k1, hk1⟩ : ∃ m, d1.length = m := ⟨_, rfl⟩
      obtain ⟨p1, hp1⟩ : ∃ m, x.p = m := ⟨_, rfl⟩
      obtain ⟨q1, hq1⟩ : ∃ m, x.q = m := ⟨_, rfl⟩
      have L1 : Aside (IsL wr p1 q1 d1) := by
        have := (RB.out.own x (by rw [← hx]; exact List.getElem_mem hib)).is
        rw [ex, hp1, hq1] at this
        exact this
      rw [hk1, hp1, hq1] at c1
      have hk5 : k1 ≤ 5000 := by
        have := (flat_split hik).length_eq
        rw [List.length_append, hd1, hk1] at this
        omega
      have HD1 : Hid _ := hd1
      have HK1 : Hid _ := hk1
      subst ha
      have has := refHas_any p1 q1 d1 id wr L1.out
      rw [hk1] at has
      clear ex hx hd1 hk1 hp1 hq1 hg
      cases hh : hasL d1 id with
      | false =>
        rw [hh] at has
        have A2 : Aside (∀ j (hj : j < ls.length), j < i + 1 → hasL ls[j] id = false) := fun j hj hji => by
          by_cases e : j = i
          · subst e
            rw [HD1.out]
            exact hh
          · exact AH.out j hj (by omega)
        clear hh
        go_wp2_with fail
        (with_reducible refine Calls.mono has ?_)
        rintro r wx ⟨rfl, rfl⟩
        clear has
        go_wp2
        go_roundg (n + 1 - (i + 1))
        case measure => omega
        case rel => exact ⟨i + 1, rfl, by go_num, by omega, Nat.le_refl _, D, A2⟩
      | true =>
        rw [hh] at has
        have HH : Hid _ := hh
        obtain ⟨E, hE⟩ : ∃ E, outL id d1 = E := ⟨_, rfl⟩
        obtain ⟨K, hK⟩ : ∃ K, E.length = K := ⟨_, rfl⟩
        obtain ⟨M, hM⟩ : ∃ K, lv E = K := ⟨_, rfl⟩
        have kE : K ≤ k1 := by rw [← hK, ← hE, ← HK1.out]; exact outL_len _ _
        have ds := drop_sett (E := E) (id := id) HF.out hik (by rw [HD1.out]; exact hh) AH.out (by rw [HD1.out]; exact hE)
        have DS : Aside _ := ds
        have sE : sortE E = E := sortE_id ds.2.1
        have wo := refWithout_any p1 q1 d1 id wr L1.out (by rw [HK1.out]; omega)
        rw [hE, HK1.out] at wo
        have HK : Hid _ := hK
        have HM : Hid _ := hM
        clear hh hE ds AH
        go_wp2_with fail
        (with_reducible refine Calls.mono has ?_)
        rintro r wx ⟨rfl, hwx⟩
        obtain rfl : wr = wx := hwx.symm
        clear has hwx
        go_wp2_with fail
        (with_reducible refine Calls.mono wo ?_)
        rintro r w2 ⟨a2, c2, rfl, o2, b2⟩
        rw [hK] at o2 ⊢
        clear wo
        have ref := refOfO (w := w2) (n := K) (m := M) (by rw [hK] at *; exact OwnE.is o2) hK (by omega) sE hM
        go_wp2_with fail
        (with_reducible refine Calls.mono ref ?_)
        rintro r w3 ⟨pa, pc, rfl, o3, b3⟩
        clear ref hK hM sE o2
        obtain ⟨S, hS⟩ : ∃ S, w3.heap.size = S := ⟨_, rfl⟩
        go_upto_region 6 with fail
        obtain ⟨wl, hwl⟩ : ∃ W, w3.alloc (.cells #[.int .i64 M, .slice pa K pc] 53) = W := ⟨_, rfl⟩
        have HWL : Hid _ := hwl
        have xa : Below w2.heap.size w2 w3 := b3
        have x3 : Below wr.heap.size wr w3 := b2.trans (b3.mono b2.size)
        have x4 : Below wr.heap.size wr wl := by rw [← hwl]; exact x3.trans ((bel_alloc _ _).mono x3.size)
        have BX : Box2 S (.int .i64 M) (.slice pa K pc) wl := by rw [← hwl, ← hS]; exact Box2.new _ _ _ _
        have B4 : Aside (Box2 S (.int .i64 M) (.slice pa K pc) wl) := BX
        have BZ3 : base ≤ w2.heap.size := Nat.le_trans (Nat.le_trans hbase swr) b2.size
        have O4 : Aside (OwnE wl base (.slice pa K pc) E) := by rw [← hwl]; exact (o3.below (bel_alloc _ _)).low BZ3
        have C4 : Aside (wl.heap[B]? = some (.cells #[.slice (some ⟨g, off, none⟩) n cap] 44 (0, 0))) := (x4.block B (lt_of_block CB.out)).trans CB.out
        have R4 : Aside (RefB wl base (some ⟨g, off, none⟩) bs) := RB.out.below x4
        have D4 : Aside (Below w.heap.size w wl) := D.out.trans (x4.mono D.out.size)
        have NS : B ≠ S := by have h1 := lt_of_block CB.out; have h2 := x3.size; omega
        have BZ4 : base ≤ wl.heap.size := Nat.le_trans hbase D4.out.size
        rw [HWL.out]
        clear xa x3 x4 BX BZ3 hwl b2 b3 o3 RB CB L1 yB c1 D swr hS
        obtain ⟨Z, hZ⟩ : ∃ Z, wl.heap.size = Z := ⟨_, rfl⟩
        have v8 : Below wl.heap.size wl (wl.alloc (.cells #[] 53)).drew := (bel_alloc _ _).drew
        have q8 : Below wl.heap.size wl wl.drew := bel_D _
        have rd : Reads wl (some ⟨g, off, none⟩) i (flatB (bs.take i)) := (R4.out.take i).reads (by rw [List.length_take, HN.out]; omega)
        obtain ⟨p8, hp8⟩ : ∃ p8, (if cap = i + 1 then (some ⟨g, off, none⟩ : Option Addr) else some ⟨g, off + (i + 1) * 2, none⟩) = p8 := ⟨_, rfl⟩
        have HP8 : (if cap = i + 1 then ((some ⟨g, off, none⟩) : Option Addr) else Option.map (fun (x : Addr) => x.add ((i + 1) * 2)) (some ⟨g, off, none⟩)) = p8 := by rw [← hp8]; simp only [Option.map_some, Addr.add_lit]
        obtain ⟨N2, hN2⟩ : ∃ m, i + (n - (i + 1)) = m := ⟨_, rfl⟩
        obtain ⟨r5, t5, w5, h5, o5, b5, _, _⟩ := push0 (g := Z) (cap := cap) (rd.below v8) (by omega)
        have x5 : Below wl.heap.size wl w5 := v8.trans (b5.mono v8.size)
        obtain ⟨r6, t6, w6, h6, x6, c6, tt⟩ := rcut_chain x5 v8.size b5.size C4.out hB BZ4 R4.out HN.out (by omega) o5 (by omega) (by omega) (by omega) HP8 hN2
        have TT : Aside (RTurned wl base B (ls.take i ++ ls.drop (i + 1)) (w6.setCell ⟨B, 0, none⟩ (.slice r6 N2 t6))) := by have := tt; rw [HBS.out] at this; exact this
        have f1 := lsm_cell c6
        have f2 := lsm_fro c6
        have B7 := ((B4.out.on x6).other (p := ⟨B, 0, none⟩) NS (.slice r6 N2 t6))
        have O7 : Aside (OwnE (w6.setCell ⟨B, 0, none⟩ (.slice r6 N2 t6)) base (.slice pa K pc) E) := (Kept.set (S := fun X => X = 44) c6 rfl _).own (by decide) (O4.out.below x6)
        have SZ7 : base ≤ (w6.setCell ⟨B, 0, none⟩ (.slice r6 N2 t6)).heap.size := Nat.le_trans BZ4 TT.out.2.size
        have g0 := B7.c0
        have g1 := B7.c1
        have KL : (ls.take i ++ ls.drop (i + 1)).length + 1 = n := by have := HLN.out; simp; omega
        have ly := rlay_any B base (ls.take i ++ ls.drop (i + 1)) E pa pc (w6.setCell ⟨B, 0, none⟩ (.slice r6 N2 t6)) TT.out.1 (by rw [HK.out]; exact O7.out) (by omega) (by rw [HK.out]; omega) SZ7
        rw [HK.out, HM.out] at ly
        have KC : Aside (∀ v, Below wl.heap.size wl v → v.cell? ⟨B, 0, none⟩ = some (.slice (some ⟨g, off, none⟩) n cap)) := fun v hv => lsm_cell ((hv.block B (lt_of_block C4.out)).trans C4.out)
        have j1 : (i : Int) ≤ (cap : Int) := by omega
        have j2 : IntKind.i64.wrap ((i : Int) + 1) = (i : Int) + 1 := by rw [IntKind.wrap_i64]; omega
        have j3 : ((i : Int) + 1).toNat = i + 1 := by omega
        have j4 : (0 : Int) ≤ (i : Int) + 1 := by omega
        have j5 : (i : Int) + 1 ≤ (n : Int) := by omega
        have j6 : (n : Int) ≤ (cap : Int) := by omega
        have j7 : (i : Int) ≤ (n : Int) := by omega
        have KLH : Hid _ := KL
        clear KL tt rd
        refine anyE_start (S := fun v => v.cell? ⟨B, 0, none⟩ = some (.slice (some ⟨g, off, none⟩) n cap)) (L := 19) (by kernel_rfl) ?_
        refine anyE_take (i := 0) (oi := { dst := some 37, op := Op.move (Operand.tmp 0), type := 41, pos := "vergerref5.go:196", after := #[], guard := none }) (v := ?_) rfl (by kernel_rfl) (by kernel_rfl) (by kernel_rfl) (by kernel_rfl) (fun _ _ _ h => h) (Or.inl ⟨by rfl, ?_⟩) (KC.out _ q8) ?_
        rotate_left
        · (intro w hSw; (try dsimp only at hSw); go_simp; try with_reducible rfl)
        simp only [Act.put, List.setIfInBounds_toArray, List.set_cons_zero, List.set_cons_succ]
        refine anyE_take (i := 2) (oi := { dst := some 39, op := Op.move (Operand.tmp 0), type := 41, pos := "vergerref5.go:196", after := #[], guard := none }) (v := ?_) rfl (by kernel_rfl) (by kernel_rfl) (by kernel_rfl) (by kernel_rfl) (fun _ _ _ h => h) (Or.inl ⟨by rfl, ?_⟩) (KC.out _ q8) ?_
        rotate_left
        · (intro w hSw; (try dsimp only at hSw); go_simp; try with_reducible rfl)
        simp only [Act.put, List.setIfInBounds_toArray, List.set_cons_zero, List.set_cons_succ]
        refine anyE_take (i := 3) (oi := { dst := some 40, op := Op.nilCheck (Operand.tmp 39), type := 0, pos := "vergerref5.go:196", after := #[{ on := 2, ground := Ground.data }], guard := none }) (v := ?_) rfl (by kernel_rfl) (by kernel_rfl) (by kernel_rfl) (by kernel_rfl) (fun _ _ _ h => h) (Or.inl ⟨by rfl, ?_⟩) (KC.out _ q8) ?_
        rotate_left
        · (intro w hSw; (try dsimp only at hSw); go_simp; try with_reducible rfl)
        simp only [Act.put, List.setIfInBounds_toArray, List.set_cons_zero, List.set_cons_succ]
        refine anyE_take (i := 4) (oi := { dst := some 41, op := Op.fieldAddr 44 (Operand.tmp 40) 0, type := 0, pos := "vergerref5.go:196", after := #[{ on := 3, ground := Ground.data }], guard := none }) (v := ?_) rfl (by kernel_rfl) (by kernel_rfl) (by kernel_rfl) (by kernel_rfl) (fun _ _ _ h => h) (Or.inl ⟨by rfl, ?_⟩) (KC.out _ q8) ?_
        rotate_left
        · (intro w hSw; (try dsimp only at hSw); go_simp; try with_reducible rfl)
        simp only [Act.put, List.setIfInBounds_toArray, List.set_cons_zero, List.set_cons_succ]
        refine anyE_take (i := 5) (oi := { dst := some 42, op := Op.load 42 (Operand.tmp 41), type := 42, pos := "vergerref5.go:196", after := #[{ on := 4, ground := Ground.data }], guard := none }) (v := ?_) rfl (by kernel_rfl) (by kernel_rfl) (by kernel_rfl) (by kernel_rfl) (fun _ _ _ h => h) (Or.inl ⟨by rfl, ?_⟩) (KC.out _ q8) ?_
        rotate_left
        · (intro w hSw; (try dsimp only at hSw); go_simp; try with_reducible rfl)
        simp only [Act.put, List.setIfInBounds_toArray, List.set_cons_zero, List.set_cons_succ]
        refine anyE_take (i := 6) (oi := { dst := some 43, op := Op.move (Operand.tmp 5), type := 3, pos := "vergerref5.go:196", after := #[], guard := none }) (v := ?_) rfl (by kernel_rfl) (by kernel_rfl) (by kernel_rfl) (by kernel_rfl) (fun _ _ _ h => h) (Or.inl ⟨by rfl, ?_⟩) (KC.out _ q8) ?_
        rotate_left
        · (intro w hSw; (try dsimp only at hSw); go_simp; try with_reducible rfl)
        simp only [Act.put, List.setIfInBounds_toArray, List.set_cons_zero, List.set_cons_succ]
        refine anyE_take (i := 7) (oi := { dst := some 44, op := Op.slice 42 (Operand.tmp 42) none (some (Operand.tmp 43)) none, type := 42, pos := "vergerref5.go:196", after := #[{ on := 5, ground := Ground.data }, { on := 6, ground := Ground.data }], guard := none }) (v := ?_) rfl (by kernel_rfl) (by kernel_rfl) (by kernel_rfl) (by kernel_rfl) (fun _ _ _ h => h) (Or.inl ⟨by rfl, ?_⟩) (KC.out _ q8) ?_
        rotate_left
        · (intro w hSw; (try dsimp only at hSw); go_simp; try with_reducible rfl)
        simp only [Act.put, List.setIfInBounds_toArray, List.set_cons_zero, List.set_cons_succ]
        refine anyE_take (i := 9) (oi := { dst := some 46, op := Op.move (Operand.tmp 0), type := 41, pos := "vergerref5.go:196", after := #[], guard := none }) (v := ?_) rfl (by kernel_rfl) (by kernel_rfl) (by kernel_rfl) (by kernel_rfl) (fun _ _ _ h => h) (Or.inl ⟨by rfl, ?_⟩) (KC.out _ q8) ?_
        rotate_left
        · (intro w hSw; (try dsimp only at hSw); go_simp; try with_reducible rfl)
        simp only [Act.put, List.setIfInBounds_toArray, List.set_cons_zero, List.set_cons_succ]
        refine anyE_take (i := 10) (oi := { dst := some 47, op := Op.nilCheck (Operand.tmp 46), type := 0, pos := "vergerref5.go:196", after := #[{ on := 9, ground := Ground.data }], guard := none }) (v := ?_) rfl (by kernel_rfl) (by kernel_rfl) (by kernel_rfl) (by kernel_rfl) (fun _ _ _ h => h) (Or.inl ⟨by rfl, ?_⟩) (KC.out _ q8) ?_
        rotate_left
        · (intro w hSw; (try dsimp only at hSw); go_simp; try with_reducible rfl)
        simp only [Act.put, List.setIfInBounds_toArray, List.set_cons_zero, List.set_cons_succ]
        refine anyE_take (i := 11) (oi := { dst := some 48, op := Op.fieldAddr 44 (Operand.tmp 47) 0, type := 0, pos := "vergerref5.go:196", after := #[{ on := 10, ground := Ground.data }], guard := none }) (v := ?_) rfl (by kernel_rfl) (by kernel_rfl) (by kernel_rfl) (by kernel_rfl) (fun _ _ _ h => h) (Or.inl ⟨by rfl, ?_⟩) (KC.out _ q8) ?_
        rotate_left
        · (intro w hSw; (try dsimp only at hSw); go_simp; try with_reducible rfl)
        simp only [Act.put, List.setIfInBounds_toArray, List.set_cons_zero, List.set_cons_succ]
        refine anyE_take (i := 12) (oi := { dst := some 49, op := Op.load 42 (Operand.tmp 48), type := 42, pos := "vergerref5.go:196", after := #[{ on := 11, ground := Ground.data }], guard := none }) (v := ?_) rfl (by kernel_rfl) (by kernel_rfl) (by kernel_rfl) (by kernel_rfl) (fun _ _ _ h => h) (Or.inl ⟨by rfl, ?_⟩) (KC.out _ q8) ?_
        rotate_left
        · (intro w hSw; (try dsimp only at hSw); go_simp; try with_reducible rfl)
        simp only [Act.put, List.setIfInBounds_toArray, List.set_cons_zero, List.set_cons_succ]
        refine anyE_take (i := 13) (oi := { dst := some 50, op := Op.move (Operand.tmp 5), type := 3, pos := "vergerref5.go:196", after := #[], guard := none }) (v := ?_) rfl (by kernel_rfl) (by kernel_rfl) (by kernel_rfl) (by kernel_rfl) (fun _ _ _ h => h) (Or.inl ⟨by rfl, ?_⟩) (KC.out _ q8) ?_
        rotate_left
        · (intro w hSw; (try dsimp only at hSw); go_simp; try with_reducible rfl)
        simp only [Act.put, List.setIfInBounds_toArray, List.set_cons_zero, List.set_cons_succ]
        refine anyE_take (i := 14) (oi := { dst := some 51, op := Op.binOp BinOp.add 3 (Operand.tmp 50) (Operand.const (Value.int IntKind.i64 1)) 3, type := 3, pos := "vergerref5.go:196", after := #[{ on := 13, ground := Ground.data }], guard := none }) (v := ?_) rfl (by kernel_rfl) (by kernel_rfl) (by kernel_rfl) (by kernel_rfl) (fun _ _ _ h => h) (Or.inl ⟨by rfl, ?_⟩) (KC.out _ q8) ?_
        rotate_left
        · (intro w hSw; (try dsimp only at hSw); go_simp; try with_reducible rfl)
        simp only [Act.put, List.setIfInBounds_toArray, List.set_cons_zero, List.set_cons_succ]
        refine anyE_take (i := 15) (oi := { dst := some 52, op := Op.slice 42 (Operand.tmp 49) (some (Operand.tmp 51)) none none, type := 42, pos := "vergerref5.go:196", after := #[{ on := 12, ground := Ground.data }, { on := 14, ground := Ground.data }], guard := none }) (v := ?_) rfl (by kernel_rfl) (by kernel_rfl) (by kernel_rfl) (by kernel_rfl) (fun _ _ _ h => h) (Or.inl ⟨by rfl, ?_⟩) (KC.out _ q8) ?_
        rotate_left
        · (intro w hSw; (try dsimp only at hSw); go_simp; try with_reducible rfl)
        simp only [Act.put, List.setIfInBounds_toArray, List.set_cons_zero, List.set_cons_succ]
        refine anyE_ready (rs := [1]) (by kernel_rfl) (by simp) ?_
        refine AllE.cons (o := { dst := some 38, op := Op.buildSlice 42 0 #[], type := 42, pos := "vergerref5.go:196", after := #[], guard := none }) rfl (fun Kt hKt => ?_) ?_
        · go_simp
          refine hKt.out _ _ (fun _ => KC.out _ v8) ?_
          clear hKt Kt
          try simp only [Act.put, List.setIfInBounds_toArray, List.set_cons_zero, List.set_cons_succ]
          refine anyE_ready (rs := [8]) (by kernel_rfl) (by simp) ?_
          refine AllE.cons (o := { dst := some 45, op := Op.call { callee := Callee.builtin Builtin.append, args := #[Operand.tmp 38, Operand.tmp 44], argTypes := #[42, 42] }, type := 42, pos := "vergerref5.go:196", after := #[{ on := 1, ground := Ground.data }, { on := 7, ground := Ground.data }], guard := none }) rfl (fun Kt hKt => ?_) ?_
          · refine step_app (wl.alloc (.cells #[] 53)).drew (by rfl) _ _ 42 42 (by rfl) (.slice (some ⟨Z, 0, none⟩) 0 0) (.slice (some ⟨g, off, none⟩) i cap) (by rfl) (by rfl) (.slice r5 i t5) w5 h5 ?_
            refine hKt.out _ _ (fun _ => KC.out _ x5) ?_
            clear hKt Kt
            try simp only [Act.put, List.setIfInBounds_toArray, List.set_cons_zero, List.set_cons_succ]
            refine anyE_ready (rs := [16]) (by kernel_rfl) (by simp) ?_
            refine AllE.cons (o := { dst := some 53, op := Op.call { callee := Callee.builtin Builtin.append, args := #[Operand.tmp 45, Operand.tmp 52], argTypes := #[42, 42] }, type := 42, pos := "vergerref5.go:196", after := #[{ on := 8, ground := Ground.data }, { on := 15, ground := Ground.data }, { on := 8, ground := Ground.chain }], guard := none }) rfl (fun Kt hKt => ?_) ?_
            · refine step_app w5 (by rfl) _ _ 42 42 (by rfl) (.slice r5 i t5) (.slice p8 (n - (i + 1)) (cap - (i + 1))) (by rfl) (by rfl) (.slice r6 N2 t6) w6 h6 ?_
              refine hKt.out _ _ (fun _ => KC.out _ x6) ?_
              clear hKt Kt
              try simp only [Act.put, List.setIfInBounds_toArray, List.set_cons_zero, List.set_cons_succ]
              refine anyE_ready (rs := [17]) (by kernel_rfl) (by simp) ?_
              refine AllE.cons (o := { dst := some 54, op := Op.nilCheck (Operand.tmp 37), type := 0, pos := "vergerref5.go:196", after := #[{ on := 0, ground := Ground.data }, { on := 0, ground := Ground.phase }, { on := 1, ground := Ground.phase }, { on := 2, ground := Ground.phase }, { on := 3, ground := Ground.phase }, { on := 4, ground := Ground.phase }, { on := 5, ground := Ground.phase }, { on := 6, ground := Ground.phase }, { on := 7, ground := Ground.phase }, { on := 8, ground := Ground.phase }, { on := 9, ground := Ground.phase }, { on := 10, ground := Ground.phase }, { on := 11, ground := Ground.phase }, { on := 12, ground := Ground.phase }, { on := 13, ground := Ground.phase }, { on := 14, ground := Ground.phase }, { on := 15, ground := Ground.phase }, { on := 16, ground := Ground.phase }], guard := none }) rfl (fun Kt hKt => ?_) ?_
              · go_simp
                refine hKt.out _ _ (fun _ => KC.out _ x6) ?_
                clear hKt Kt
                try simp only [Act.put, List.setIfInBounds_toArray, List.set_cons_zero, List.set_cons_succ]
                refine anyE_ready (rs := [18]) (by kernel_rfl) (by simp) ?_
                refine AllE.cons (o := { dst := some 55, op := Op.fieldAddr 44 (Operand.tmp 54) 0, type := 0, pos := "vergerref5.go:196", after := #[{ on := 17, ground := Ground.data }, { on := 0, ground := Ground.phase }, { on := 1, ground := Ground.phase }, { on := 2, ground := Ground.phase }, { on := 3, ground := Ground.phase }, { on := 4, ground := Ground.phase }, { on := 5, ground := Ground.phase }, { on := 6, ground := Ground.phase }, { on := 7, ground := Ground.phase }, { on := 8, ground := Ground.phase }, { on := 9, ground := Ground.phase }, { on := 10, ground := Ground.phase }, { on := 11, ground := Ground.phase }, { on := 12, ground := Ground.phase }, { on := 13, ground := Ground.phase }, { on := 14, ground := Ground.phase }, { on := 15, ground := Ground.phase }, { on := 16, ground := Ground.phase }], guard := none }) rfl (fun Kt hKt => ?_) ?_
                · go_simp
                  refine hKt.out _ _ (fun _ => KC.out _ x6) ?_
                  clear hKt Kt
                  try simp only [Act.put, List.setIfInBounds_toArray, List.set_cons_zero, List.set_cons_succ]
                  refine anyE_ready (rs := [19]) (by kernel_rfl) (by simp) ?_
                  refine AllE.cons (o := { dst := none, op := Op.store 42 (Operand.tmp 55) (Operand.tmp 53), type := 0, pos := "vergerref5.go:196", after := #[{ on := 18, ground := Ground.data }, { on := 16, ground := Ground.data }, { on := 16, ground := Ground.chain }, { on := 0, ground := Ground.phase }, { on := 1, ground := Ground.phase }, { on := 2, ground := Ground.phase }, { on := 3, ground := Ground.phase }, { on := 4, ground := Ground.phase }, { on := 5, ground := Ground.phase }, { on := 6, ground := Ground.phase }, { on := 7, ground := Ground.phase }, { on := 8, ground := Ground.phase }, { on := 9, ground := Ground.phase }, { on := 10, ground := Ground.phase }, { on := 11, ground := Ground.phase }, { on := 12, ground := Ground.phase }, { on := 13, ground := Ground.phase }, { on := 14, ground := Ground.phase }, { on := 15, ground := Ground.phase }, { on := 16, ground := Ground.phase }], guard := none }) rfl (fun Kt hKt => ?_) ?_
                  · go_simp
                    refine hKt.out _ _ (fun h => absurd rfl h) ?_
                    clear hKt Kt
                    try simp only [Act.put, List.setIfInBounds_toArray, List.set_cons_zero, List.set_cons_succ]
                    refine anyE_done (by kernel_rfl) ?_ _
                    clear KC
                    go_wp2_with fail
                    (with_reducible refine Calls.mono ly ?_)
                    rintro r w9 ⟨rfl, hcase⟩
                    have HC : ∃ ks, Sett ks (dropLs ls id) ∧ ks.length ≤ 1000 ∧ ks.flatten.length ≤ 5000 ∧ RTurned (w6.setCell ⟨B, 0, none⟩ (.slice r6 N2 t6)) base B ks w9 := by
                      obtain ⟨_, _, d3, d4, d5⟩ := DS.out
                      rw [HD1.out, HK1.out] at d3
                      rw [HK.out] at d4 d5
                      have kl := KLH.out
                      rcases hcase with ⟨c0, t9⟩ | ⟨c0, k, la, t9⟩
                      · exact ⟨_, d4 c0, by omega, by omega, t9⟩
                      · exact ⟨_, d5 k c0 la, by rw [laid_len la.le]; omega, by rw [laid_flat, HK.out]; omega, t9⟩
                    obtain ⟨ks, s9, l9, f9, t9⟩ := HC
                    have st := rsettle_any B base ks (dropLs ls id) w9 t9.1 s9 l9 f9 (Nat.le_trans SZ7 t9.2.size)
                    have G9 : Aside (w.grownBy w9 (some B)) := grownBy_trans (grownBy_below D4.out) (grownBy_trans TT.out.2 t9.2)
                    clear ly hcase h5 h6 o5 t9 s9 g0 g1 B7
                    go_wp2_with fail
                    (with_reducible refine Calls.mono st ?_)
                    rintro r wz ⟨rfl, tz⟩
                    have FIN : Aside (RTurned w base B (dropLs ls id) wz) := ⟨tz.1, grownBy_trans G9.out tz.2⟩
                    have HT : Hid _ := DS.out.1
                    clear st tz
                    go_wp2
                    go_ret
                    exact ⟨by rw [HT.out]; rfl, FIN.out⟩
                  exact AllE.nil
                exact AllE.nil
              exact AllE.nil
            exact AllE.nil
          exact AllE.nil
        exact AllE.nil
    · obtain rfl : i = n := by omega
      have hz : ¬ (i : Int) < (i : Int) := by omega
      have dn := drop_none (ls := ls) (id := id) (fun j hj => AH.out j hj (by rw [HLN.out] at hj; exact hj))
      have FIN : Aside (RTurned w base B (dropLs ls id) wr) := by rw [dn.2]; exact ⟨RW.out.below D.out, grownBy_below D.out⟩
      have HH : Hid _ := dn.1
      clear dn
      go_wp2
      go_ret
      exact ⟨by rw [HH.out]; rfl, FIN.out⟩
end Go.Proofs.Ytchephglapnloaa
