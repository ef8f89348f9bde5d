/- The walk of 'LsmPlays'. -/
import Derived.Deep.LoopGhost
import Derived.Deep.CutBlock
import Derived.Deep.DeepCutAuto
import Derived.Test.YtchephglapnloaaLsmB
namespace Go.Proofs.Ytchephglapnloaa
open Go.RowKit Go.Lib Go.Sort
set_option linter.unusedVariables false
set_option maxHeartbeats 4000000 in
set_option maxRecDepth 100000 in
theorem lsmPlays_walk (a0 : Option Addr) (len0 cap0 : Nat) (Z : Nat → Nat → Int) (w : World) (h0 : IsOps w a0 len0 Z) :
    Calls Try.prog 5 #[.slice a0 len0 cap0] w fun r w' => r = .returned (.bool true) ∧ Below w.heap.size w w' := by
  obtain ⟨S, hS⟩ : ∃ S, w.heap.size = S := ⟨_, rfl⟩
  have HS : Hid _ := hS
  have hl := h0.len_le
  have H0 : Aside (IsOps w a0 len0 Z) := h0
  have nw := lnew_any w
  rw [hS] at nw
  have hb0 : Both w S [] [] ((w.alloc (.cells #[.slice none 0 0] 60)).alloc (.cells #[.slice none 0 0] 44)) := by
    have b1 : Below (w.alloc (.cells #[.slice none 0 0] 60)).heap.size (w.alloc (.cells #[.slice none 0 0] 60)) ((w.alloc (.cells #[.slice none 0 0] 60)).alloc (.cells #[.slice none 0 0] 44)) := bel_alloc _ _
    have r1 := rlsm_new (w.alloc (.cells #[.slice none 0 0] 60)) S (by simp; omega)
    rw [show (w.alloc (.cells #[.slice none 0 0] 60)).heap.size = S + 1 by simp [hS]] at r1
    refine ⟨?_, r1, ?_⟩
    · have := (lsm_new w S (by omega)).below b1
      rw [hS] at this
      exact this
    · rw [← hS]
      exact (bel_alloc w _).trans (b1.mono (bel_alloc w _).size)
  have B0 : Aside (Both w S [] [] ((w.alloc (.cells #[.slice none 0 0] 60)).alloc (.cells #[.slice none 0 0] 44))) := hb0
  have mx := mixed
  clear h0 hb0
  go_enter Try.func5, Try.ntmps5
  go_wp2_with fail
  refine nw.mono ?_
  rintro r w1 ⟨rfl, rfl⟩
  clear nw
  go_wp2_with fail
  generalize (w.alloc (.cells #[.slice none 0 0] 60)).alloc (.cells #[.slice none 0 0] 44) = w1 at B0 ⊢
  go_loopg [5, 6, 7, 8, 9, 10, 11] 81 (fun kx s5 s6 s7 s8 s9 s10 s11 wr => ∃ (i : Nat) (ls : List (List Ent)), s5 = .int .i64 i ∧ i ≤ len0 ∧ i ≤ 80 ∧ 81 - i ≤ kx ∧ Aside (Held ls i) ∧ Aside (Both w S ls ls wr))
  case atStart => exact ⟨0, [], rfl, by omega, by omega, by omega, Held.nil 0, B0⟩
  case round =>
    clear B0
    obtain ⟨i, ls, rfl, hil, hi8, hix, HE, BO⟩ := hrel
    have sz := BO.out.sz
    by_cases hlt : i < len0 ∧ i < 80
    · obtain ⟨hlt1, hlt2⟩ := hlt
      have hz : (i : Int) < (len0 : Int) := by omega
      have hz8 : (i : Int) < 80 := by omega
      obtain ⟨b, off, ha, hb, c0, c1, c2⟩ := H0.out.elem i hlt1
      obtain ⟨K, hK⟩ : ∃ k, Z i 0 = k := ⟨_, rfl⟩
      obtain ⟨e1, he1⟩ : ∃ k, Z i 1 = k := ⟨_, rfl⟩
      obtain ⟨e2, he2⟩ : ∃ k, Z i 2 = k := ⟨_, rfl⟩
      rw [hK] at c0
      rw [he1] at c1
      rw [he2] at c2
      have c0 := (BO.out.d.cell (p := ⟨b, off + i * 3, none⟩) (by show b < S; omega)).trans c0
      have c1 := (BO.out.d.cell (p := ⟨b, off + i * 3 + 1, none⟩) (by show b < S; omega)).trans c1
      have c2 := (BO.out.d.cell (p := ⟨b, off + i * 3 + 2, none⟩) (by show b < S; omega)).trans c2
      obtain ⟨O, hO⟩ : ∃ O, wr.heap.size = O := ⟨_, rfl⟩
      obtain ⟨u, hu⟩ : ∃ u, wr.alloc (.cells #[.int .i64 K, .int .u64 e1, .int .i64 e2] 46) = u := ⟨_, rfl⟩
      have HU : Hid _ := hu
      have XO : Aside (u.heap[O]? = some (.cells #[.int .i64 K, .int .u64 e1, .int .i64 e2] 46 (0, 0))) := by rw [← hu]; exact row_alloc hO _ _
      have BU : Aside (Both w S ls ls u) := by rw [← hu]; exact BO.out.on (bel_alloc _ _)
      obtain ⟨y0, y1, y2⟩ := row3 XO.out
      have sO : O < u.heap.size := lt_of_block XO.out
      have szu : S < u.heap.size := by have := BU.out.sz; omega
      subst ha
      clear hK he1 he2 BO hu
      go_upto_block 2 with fail
      rw [HU.out]
      clear c0 c1 c2 HU
      go_cut [] (fun wx => ∃ ls, Held ls (i + 1) ∧ Both w S ls ls wx)
      case first =>
        by_cases k0 : K = 0
        · have p1 := lput_any S S ls (e1, e2) u BU.out.l (by have := HE.out.2.1; omega) (by have := HE.out.2.2; omega) (by omega)
          subst k0
          simp only at p1
          go_wp2_with fail
          (with_reducible refine Calls.mono p1 ?_)
          rintro r w2 ⟨rfl, t2⟩
          have B2 : Aside (Both w S (putL ls (e1, e2)) ls w2) := BU.out.turn t2
          obtain ⟨z0, z1, z2⟩ := row3 (BU.out.op t2 XO.out)
          clear p1 t2 y0 y1 y2 BU XO
          have s2 : S + 1 < w2.heap.size := B2.out.sz
          have p2 := rput_any (S + 1) S ls (e1, e2) w2 B2.out.r HE.out.1 (by have := HE.out.2.1; omega) (by have := HE.out.2.2; omega) (by omega)
          simp only at p2
          go_wp2_with fail
          (with_reducible refine Calls.mono p2 ?_)
          rintro r w3 ⟨rfl, t3⟩
          have B3 : Aside (Both w S (putL ls (e1, e2)) (putL ls (e1, e2)) w3) := B2.out.rturn t3
          clear p2 t3 z0 z1 z2
          go_wp2_with fail
          go_meet
          exact ⟨_, HE.out.put (e1, e2), B3.out⟩
        · by_cases k1 : K = 1
          · subst k1
            obtain ⟨H, hH⟩ : ∃ h, hasL ls.flatten e2 = h := ⟨_, rfl⟩
            have q1 : Below u.heap.size u u.drew := bel_D _
            have d1 := ldrop_any S S ls e2 u.drew (BU.out.on q1).l HE.out.1 (by have := HE.out.2.1; omega) (by have := HE.out.2.2; omega) (by have := q1.size; omega)
            rw [hH] at d1
            have d2 : Aside (∀ W, Both w S (dropLs ls e2) ls W → Calls Try.prog 19 #[.pointer (some ⟨S + 1, 0, none⟩), .int .i64 e2] W fun r w' => r = .returned (.bool H) ∧ RTurned W S (S + 1) (dropLs ls e2) w') := fun W hW => by
              have := rdrop_any (S + 1) S ls e2 W hW.r HE.out.1 (by have := HE.out.2.1; omega) (by have := HE.out.2.2; omega) (by have := hW.sz; omega)
              rw [hH] at this
              exact this
            clear hH k0
            go_upto_region 17 with fail
            refine wp_region_held_drew (S := fun v => v.cell? ⟨O, 2, none⟩ = some (.int .i64 e2)) (by kernel_rfl) ((row3 ((q1.block O (lt_of_block XO.out)).trans XO.out)).2.2) (fun hHeld => ?_)
            refine wpAnyH_take (i := 0) (oi := { dst := some 57, op := Op.move (Operand.tmp 3), type := 23, pos := "law.go:45", after := #[], guard := none }) (v := ?_) rfl (by kernel_rfl) (by kernel_rfl) (by kernel_rfl) (fun _ _ _ h => h) (Or.inl ⟨by rfl, ?_⟩) (by assumption) ?_
            rotate_left
            · (intro w hSw; (try dsimp only at hSw); go_simp; try with_reducible rfl)
            simp only [Act.put, List.setIfInBounds_toArray, List.set_cons_zero, List.set_cons_succ]
            refine wpAnyH_take (i := 1) (oi := { dst := some 58, op := Op.fieldAddr 46 (Operand.tmp 6) 1, type := 0, pos := "law.go:45", after := #[], guard := none }) (v := ?_) rfl (by kernel_rfl) (by kernel_rfl) (by kernel_rfl) (fun _ _ _ h => h) (Or.inl ⟨by rfl, ?_⟩) (by assumption) ?_
            rotate_left
            · (intro w hSw; (try dsimp only at hSw); go_simp; try with_reducible rfl)
            simp only [Act.put, List.setIfInBounds_toArray, List.set_cons_zero, List.set_cons_succ]
            refine wpAnyH_take (i := 2) (oi := { dst := some 59, op := Op.fieldAddr 28 (Operand.tmp 58) 1, type := 0, pos := "law.go:45", after := #[{ on := 1, ground := Ground.data }], guard := none }) (v := ?_) rfl (by kernel_rfl) (by kernel_rfl) (by kernel_rfl) (fun _ _ _ h => h) (Or.inl ⟨by rfl, ?_⟩) (by assumption) ?_
            rotate_left
            · (intro w hSw; (try dsimp only at hSw); go_simp; try with_reducible rfl)
            simp only [Act.put, List.setIfInBounds_toArray, List.set_cons_zero, List.set_cons_succ]
            refine wpAnyH_take (i := 3) (oi := { dst := some 60, op := Op.load 3 (Operand.tmp 59), type := 3, pos := "law.go:45", after := #[{ on := 2, ground := Ground.data }], guard := none }) (v := ?_) rfl (by kernel_rfl) (by kernel_rfl) (by kernel_rfl) (fun _ _ _ h => h) (Or.inl ⟨by rfl, ?_⟩) (by assumption) ?_
            rotate_left
            · (intro w hSw; (try dsimp only at hSw); go_simp; try with_reducible rfl)
            simp only [Act.put, List.setIfInBounds_toArray, List.set_cons_zero, List.set_cons_succ]
            refine wpAnyH_take (i := 5) (oi := { dst := some 62, op := Op.move (Operand.tmp 4), type := 41, pos := "law.go:45", after := #[], guard := none }) (v := ?_) rfl (by kernel_rfl) (by kernel_rfl) (by kernel_rfl) (fun _ _ _ h => h) (Or.inl ⟨by rfl, ?_⟩) (by assumption) ?_
            rotate_left
            · (intro w hSw; (try dsimp only at hSw); go_simp; try with_reducible rfl)
            simp only [Act.put, List.setIfInBounds_toArray, List.set_cons_zero, List.set_cons_succ]
            refine wpAnyH_take (i := 6) (oi := { dst := some 63, op := Op.fieldAddr 46 (Operand.tmp 6) 1, type := 0, pos := "law.go:45", after := #[], guard := none }) (v := ?_) rfl (by kernel_rfl) (by kernel_rfl) (by kernel_rfl) (fun _ _ _ h => h) (Or.inl ⟨by rfl, ?_⟩) (by assumption) ?_
            rotate_left
            · (intro w hSw; (try dsimp only at hSw); go_simp; try with_reducible rfl)
            simp only [Act.put, List.setIfInBounds_toArray, List.set_cons_zero, List.set_cons_succ]
            refine wpAnyH_take (i := 7) (oi := { dst := some 64, op := Op.fieldAddr 28 (Operand.tmp 63) 1, type := 0, pos := "law.go:45", after := #[{ on := 6, ground := Ground.data }], guard := none }) (v := ?_) rfl (by kernel_rfl) (by kernel_rfl) (by kernel_rfl) (fun _ _ _ h => h) (Or.inl ⟨by rfl, ?_⟩) (by assumption) ?_
            rotate_left
            · (intro w hSw; (try dsimp only at hSw); go_simp; try with_reducible rfl)
            simp only [Act.put, List.setIfInBounds_toArray, List.set_cons_zero, List.set_cons_succ]
            refine wpAnyH_take (i := 8) (oi := { dst := some 65, op := Op.load 3 (Operand.tmp 64), type := 3, pos := "law.go:45", after := #[{ on := 7, ground := Ground.data }], guard := none }) (v := ?_) rfl (by kernel_rfl) (by kernel_rfl) (by kernel_rfl) (fun _ _ _ h => h) (Or.inl ⟨by rfl, ?_⟩) (by assumption) ?_
            rotate_left
            · (intro w hSw; (try dsimp only at hSw); go_simp; try with_reducible rfl)
            simp only [Act.put, List.setIfInBounds_toArray, List.set_cons_zero, List.set_cons_succ]
            refine wpAnyH_ready (rs := [4]) (by kernel_rfl) (by simp) ?_
            refine AllReadyH.cons (o := { dst := some 61, op := Op.call { callee := Callee.value (Operand.func 16), args := #[Operand.tmp 57, Operand.tmp 60], argTypes := #[23, 3] }, type := 4, pos := "law.go:45", after := #[{ on := 0, ground := Ground.data }, { on := 3, ground := Ground.data }], guard := none }) rfl (fun Kt hKt => ?_) AllReadyH.nil
            go_simp
            (with_reducible refine Calls.mono d1 ?_)
            rintro r w2 ⟨rfl, t2⟩
            have B2 : Aside (Both w S (dropLs ls e2) ls w2) := (BU.out.on q1).turn t2
            have X2 : Aside (w2.heap[O]? = _) := (BU.out.on q1).op t2 ((q1.block O (lt_of_block XO.out)).trans XO.out)
            go_wp2_with fail
            refine hKt.out _ _ ((row3 X2.out).2.2) (fun hHeld => ?_)
            clear hKt Kt
            try simp only [Act.put, List.setIfInBounds_toArray, List.set_cons_zero, List.set_cons_succ]
            refine wpAnyH_ready (rs := [9]) (by kernel_rfl) (by simp) ?_
            refine AllReadyH.cons (o := { dst := some 66, op := Op.call { callee := Callee.value (Operand.func 19), args := #[Operand.tmp 62, Operand.tmp 65], argTypes := #[41, 3] }, type := 4, pos := "law.go:45", after := #[{ on := 5, ground := Ground.data }, { on := 8, ground := Ground.data }, { on := 4, ground := Ground.chain }], guard := none }) rfl (fun Kt hKt => ?_) AllReadyH.nil
            go_simp
            (with_reducible refine Calls.mono (d2.out _ B2.out) ?_)
            rintro r w3 ⟨rfl, t3⟩
            have B3 : Aside (Both w S (dropLs ls e2) (dropLs ls e2) w3) := B2.out.rturn t3
            have X3 := ((t3.kept B2.out.r).block O _ _ _ X2.out (by decide)).trans X2.out
            go_wp2_with fail
            refine hKt.out _ _ ((row3 X3).2.2) (fun hHeld => ?_)
            clear hKt Kt
            try simp only [Act.put, List.setIfInBounds_toArray, List.set_cons_zero, List.set_cons_succ]
            refine wpAnyH_take (i := 10) (oi := { dst := some 67, op := Op.binOp BinOp.neq 4 (Operand.tmp 61) (Operand.tmp 66) 4, type := 4, pos := "law.go:45", after := #[{ on := 4, ground := Ground.data }, { on := 9, ground := Ground.data }], guard := none }) (v := ?_) rfl (by kernel_rfl) (by kernel_rfl) (by kernel_rfl) (fun _ _ _ h => h) (Or.inl ⟨by rfl, ?_⟩) (by assumption) ?_
            rotate_left
            · (intro w hSw; (try dsimp only at hSw); go_simp; try with_reducible rfl)
            simp only [Act.put, List.setIfInBounds_toArray, List.set_cons_zero, List.set_cons_succ]
            refine wpAnyH_done (by kernel_rfl) ?_ _
            clear d1 d2
            go_wp2_with fail
            go_meet
            exact ⟨_, HE.out.drop e2, B3.out⟩
          · have k2 : (K == 0) = false := by simp [k0]
            have k3 : (K == 1) = false := by simp [k1]
            obtain ⟨a, cap, bs, hbs, hB, hcell, hcap, hmax, rb⟩ := BU.out.r
            obtain ⟨n, hn⟩ : ∃ n, bs.length = n := ⟨_, rfl⟩
            rw [hn] at hcell hcap
            obtain ⟨X, hX⟩ : ∃ X, sortE ls.flatten = X := ⟨_, rfl⟩
            obtain ⟨KK, hKK⟩ : ∃ m, X.length = m := ⟨_, rfl⟩
            have lX : ls.flatten.length = KK := by rw [← hKK, ← hX, sortE_len]
            have hln : ls.length = n := by rw [← hbs, List.length_map, hn]
            have q1 : Below u.heap.size u u.drew := bel_D _
            have dr := ldrain_any S S ls u.drew (BU.out.on q1).l (by have := HE.out.2.2; omega) (by have := q1.size; omega)
            rw [hX] at dr
            have AL : Aside (∀ W, RefB W S a bs → Calls Try.prog 20 #[.slice a n cap] W (Gives W X)) := fun W hW => by
              have hs := hW.isBs (by rw [hn, ← hln]; have := HE.out.2.1; omega)
              rw [hbs] at hs
              have := refAll_any a cap ls W hs (by have := HE.out.2.2; omega)
              rw [hX, hln] at this
              exact this
            have CU : Aside (u.heap[S + 1]? = some (.cells #[.slice a n cap] 44 (0, 0))) := hcell
            have RU : Aside (RefB u S a bs) := rb
            have HKK : Hid _ := hKK
            clear hcell rb hbs hn hX hKK lX hln
            go_upto_region 10 with fail
            refine wp_region_held_drew (S := fun v => v.cell? ⟨S + 1, 0, none⟩ = some (.slice a n cap)) (by kernel_rfl) (lsm_cell ((q1.block (S + 1) (lt_of_block CU.out)).trans CU.out)) (fun hHeld => ?_)
            refine wpAnyH_take (i := 0) (oi := { dst := some 33, op := Op.move (Operand.tmp 3), type := 23, pos := "law.go:49", after := #[], guard := none }) (v := ?_) rfl (by kernel_rfl) (by kernel_rfl) (by kernel_rfl) (fun _ _ _ h => h) (Or.inl ⟨by rfl, ?_⟩) (by assumption) ?_
            rotate_left
            · (intro w hSw; (try dsimp only at hSw); go_simp; try with_reducible rfl)
            simp only [Act.put, List.setIfInBounds_toArray, List.set_cons_zero, List.set_cons_succ]
            refine wpAnyH_take (i := 2) (oi := { dst := some 35, op := Op.move (Operand.tmp 4), type := 41, pos := "law.go:49", after := #[], guard := none }) (v := ?_) rfl (by kernel_rfl) (by kernel_rfl) (by kernel_rfl) (fun _ _ _ h => h) (Or.inl ⟨by rfl, ?_⟩) (by assumption) ?_
            rotate_left
            · (intro w hSw; (try dsimp only at hSw); go_simp; try with_reducible rfl)
            simp only [Act.put, List.setIfInBounds_toArray, List.set_cons_zero, List.set_cons_succ]
            refine wpAnyH_take (i := 3) (oi := { dst := some 36, op := Op.nilCheck (Operand.tmp 35), type := 0, pos := "law.go:49", after := #[{ on := 2, ground := Ground.data }], guard := none }) (v := ?_) rfl (by kernel_rfl) (by kernel_rfl) (by kernel_rfl) (fun _ _ _ h => h) (Or.inl ⟨by rfl, ?_⟩) (by assumption) ?_
            rotate_left
            · (intro w hSw; (try dsimp only at hSw); go_simp; try with_reducible rfl)
            simp only [Act.put, List.setIfInBounds_toArray, List.set_cons_zero, List.set_cons_succ]
            refine wpAnyH_take (i := 4) (oi := { dst := some 37, op := Op.fieldAddr 44 (Operand.tmp 36) 0, type := 0, pos := "law.go:49", after := #[{ on := 3, ground := Ground.data }], guard := none }) (v := ?_) rfl (by kernel_rfl) (by kernel_rfl) (by kernel_rfl) (fun _ _ _ h => h) (Or.inl ⟨by rfl, ?_⟩) (by assumption) ?_
            rotate_left
            · (intro w hSw; (try dsimp only at hSw); go_simp; try with_reducible rfl)
            simp only [Act.put, List.setIfInBounds_toArray, List.set_cons_zero, List.set_cons_succ]
            refine wpAnyH_take (i := 5) (oi := { dst := some 38, op := Op.load 42 (Operand.tmp 37), type := 42, pos := "law.go:49", after := #[{ on := 4, ground := Ground.data }], guard := none }) (v := ?_) rfl (by kernel_rfl) (by kernel_rfl) (by kernel_rfl) (fun _ _ _ h => h) (Or.inl ⟨by rfl, ?_⟩) (by assumption) ?_
            rotate_left
            · (intro w hSw; (try dsimp only at hSw); go_simp; try with_reducible rfl)
            simp only [Act.put, List.setIfInBounds_toArray, List.set_cons_zero, List.set_cons_succ]
            refine wpAnyH_ready (rs := [1]) (by kernel_rfl) (by simp) ?_
            refine AllReadyH.cons (o := { dst := some 34, op := Op.call { callee := Callee.value (Operand.func 10), args := #[Operand.tmp 33], argTypes := #[23] }, type := 29, pos := "law.go:49", after := #[{ on := 0, ground := Ground.data }], guard := none }) rfl (fun Kt hKt => ?_) AllReadyH.nil
            go_simp
            (with_reducible refine Calls.mono dr ?_)
            rintro r w2 ⟨da, dc, rfl, o2, t2⟩
            rw [HKK.out] at o2 ⊢
            have B2 : Aside (Both w S [] ls w2) := (BU.out.on q1).turn t2
            have C2 : Aside (w2.heap[S + 1]? = some (.cells #[.slice a n cap] 44 (0, 0))) := by
              have h1 := (q1.block (S + 1) (lt_of_block CU.out)).trans CU.out
              exact (t2.2.2.block _ _ _ _ h1 lb_ref.1).trans h1
            have R2 : RefB w2 S a bs := (RU.out.below q1).kept t2.2.2 lb_ref.2.1 lb_ent
            go_wp2_with fail
            refine hKt.out _ _ (lsm_cell C2.out) (fun hHeld => ?_)
            clear hKt Kt
            try simp only [Act.put, List.setIfInBounds_toArray, List.set_cons_zero, List.set_cons_succ]
            refine wpAnyH_ready (rs := [6]) (by kernel_rfl) (by simp) ?_
            refine AllReadyH.cons (o := { dst := some 39, op := Op.call { callee := Callee.value (Operand.func 20), args := #[Operand.tmp 38], argTypes := #[42] }, type := 29, pos := "law.go:49", after := #[{ on := 5, ground := Ground.data }, { on := 1, ground := Ground.chain }], guard := none }) rfl (fun Kt hKt => ?_) AllReadyH.nil
            go_simp
            (with_reducible refine Calls.mono (AL.out w2 R2) ?_)
            rintro r w3 ⟨fa, fc, rfl, l3, b3⟩
            rw [HKK.out]
            have C3 := (b3.block _ (lt_of_block C2.out)).trans C2.out
            go_wp2_with fail
            refine hKt.out _ _ (lsm_cell C3) (fun hHeld => ?_)
            clear hKt Kt
            try simp only [Act.put, List.setIfInBounds_toArray, List.set_cons_zero, List.set_cons_succ]
            refine wpAnyH_ready (rs := [7]) (by kernel_rfl) (by simp) ?_
            refine AllReadyH.cons (o := { dst := some 40, op := Op.call { callee := Callee.value (Operand.func 13), args := #[Operand.tmp 34, Operand.tmp 39], argTypes := #[29, 29] }, type := 4, pos := "law.go:49", after := #[{ on := 1, ground := Ground.data }, { on := 6, ground := Ground.data }, { on := 6, ground := Ground.chain }], guard := none }) rfl (fun Kt hKt => ?_) AllReadyH.nil
            go_simp
            (with_reducible refine Calls.mono (sameN (B := true) (OwnE.is (o2.below b3)) l3 HKK.out HKK.out (by simp)) ?_)
            rintro r w4 ⟨rfl, b4⟩
            have C4 : w4.heap[S + 1]? = _ := (b4.block _ (lt_of_block C3)).trans C3
            go_wp2_with fail
            refine hKt.out _ _ (lsm_cell C4) (fun hHeld => ?_)
            clear hKt Kt
            try simp only [Act.put, List.setIfInBounds_toArray, List.set_cons_zero, List.set_cons_succ]
            refine wpAnyH_take (i := 8) (oi := { dst := some 41, op := Op.unOp UnOp.not 4 (Operand.tmp 40), type := 4, pos := "law.go:49", after := #[{ on := 7, ground := Ground.data }], guard := none }) (v := ?_) rfl (by kernel_rfl) (by kernel_rfl) (by kernel_rfl) (fun _ _ _ h => h) (Or.inl ⟨by rfl, ?_⟩) (by assumption) ?_
            rotate_left
            · (intro w hSw; (try dsimp only at hSw); go_simp; try with_reducible rfl)
            simp only [Act.put, List.setIfInBounds_toArray, List.set_cons_zero, List.set_cons_succ]
            refine wpAnyH_done (by kernel_rfl) ?_ _
            have B4 : Both w S [] ls w4 := (B2.out.on b3).on b4
            have B5 : Aside (Both w S [] [] (w4.setCell ⟨S + 1, 0, none⟩ (.slice none 0 0))) := B4.rturn (rset (n := 0) (t := 0) (bs := []) C4 (by omega) (Below.refl _ _) (RefB.nil _ _ _) rfl (Nat.le_refl _) (by unfold maxLen; omega)).2
            have g1 := lsm_cell C4
            have g2 := lsm_fro C4
            clear dr AL t2 B4 R2 o2 l3
            go_wp2_with fail
            go_meet
            exact ⟨_, Held.nil _, B5.out⟩
      case rest =>
        obtain ⟨ks, H1, B1⟩ := hcut
        have HE1 : Aside (Held ks (i + 1)) := H1
        obtain ⟨a, cap, bs, hbs, hB, hcell, hcap, hmax, rb⟩ := B1.r
        obtain ⟨n, hn⟩ : ∃ n, bs.length = n := ⟨_, rfl⟩
        rw [hn] at hcell hcap
        obtain ⟨X, hX⟩ : ∃ X, sortE ks.flatten = X := ⟨_, rfl⟩
        obtain ⟨KK, hKK⟩ : ∃ m, X.length = m := ⟨_, rfl⟩
        have lX : ks.flatten.length = KK := by rw [← hKK, ← hX, sortE_len]
        have hln : ks.length = n := by rw [← hbs, List.length_map, hn]
        have kb : KK ≤ 81 := by have := H1.2.2; omega
        have nb : n ≤ 81 := by have := H1.2.1; omega
        have hs := rb.isBs (by omega)
        rw [hbs] at hs
        have al := refAll_any a cap ks wc hs (by omega)
        rw [hX, hln] at al
        have B1A : Aside (Both w S ks ks wc) := B1
        have C1 : Aside (wc.heap[S + 1]? = some (.cells #[.slice a n cap] 44 (0, 0))) := hcell
        have R1 : Aside (RefB wc S a bs) := rb
        have HKK : Hid _ := hKK
        have HLN : Hid _ := hln
        have HX : Hid _ := hX
        have LX : Hid _ := lX
        have HBS : Hid _ := hbs
        have HN : Hid _ := hn
        have yB := lsm_cell hcell
        have sz1 : S + 1 < wc.heap.size := lt_of_block hcell
        have sz2 : S + 1 < u.heap.size := BU.out.sz
        unfold maxLen at hmax
        clear H1 B1 hcell rb hs hX hKK lX hln hbs hn XO BU HE y0 y1 y2
        go_wp2_with fail
        (with_reducible refine Calls.mono al ?_)
        rintro r w2 ⟨aa, ca, rfl, l2, b2⟩
        rw [HKK.out]
        have lvv := llevels_any S S ks w2 (B1A.out.on b2).l (by rw [HLN.out]; omega)
        rw [HLN.out] at lvv
        obtain ⟨G, hG⟩ : ∃ G, w2.heap.size = G := ⟨_, rfl⟩
        rw [hG] at lvv
        clear al yB
        go_wp2_with fail
        (with_reducible refine Calls.mono lvv ?_)
        rintro r w3 ⟨rfl, v3, b3⟩
        rw [← hG] at b3
        have x3 : Below wc.heap.size wc w3 := b2.trans (b3.mono b2.size)
        have mn := lmin_any S S ks w3 (B1A.out.on x3).l HE1.out.1 (by rw [HLN.out]; omega)
        clear lvv hG
        go_wp2_with fail
        (with_reducible refine Calls.mono mn ?_)
        rintro r w4 ⟨F, x, rfl, hF, b4⟩
        obtain ⟨R9, hR9⟩ : ∃ R, w4.heap.size = R := ⟨_, rfl⟩
        obtain ⟨v, hv⟩ : ∃ v, w4.alloc (.cells #[.int .u64 x.1, .int .i64 x.2] 28) = v := ⟨_, rfl⟩
        have HV : Hid _ := hv
        have x4 : Below w3.heap.size w3 v := by rw [← hv]; exact b4.trans ((bel_alloc _ _).mono b4.size)
        have x5 : Below wc.heap.size wc v := x3.trans (x4.mono x3.size)
        have BV : Aside (Both w S ks ks v) := B1A.out.on x5
        have CV : Aside (v.heap[S + 1]? = some (.cells #[.slice a n cap] 44 (0, 0))) := (x5.block _ (lt_of_block C1.out)).trans C1.out
        have RV : Aside (RefB v S a bs) := R1.out.below x5
        have X9 : Aside (v.heap[R9]? = some (.cells #[.int .u64 x.1, .int .i64 x.2] 28 (0, 0))) := by rw [← hv]; exact row_alloc hR9 _ _
        have LV : Aside (IsL v aa ca X) := l2.below (b3.trans (x4.mono b3.size))
        have VV : Aside (LevIs v G ks) := v3.below x4
        have FX : Aside ((F = false ∧ KK = 0) ∨ (F = true ∧ ∃ t, X = x :: t)) := by
          rcases hF with ⟨f1, f2, _⟩ | ⟨f1, t, ht⟩
          · left
            refine ⟨f1, ?_⟩
            rw [← LX.out, f2]
            rfl
          · right
            exact ⟨f1, t, by rw [← HX.out]; exact ht⟩
        clear mn hv b2 b3 b4 x3 x4 x5 l2 v3 hF
        go_upto_region 22 with fail
        rw [HV.out]
        clear HV hR9
        go_cut [123] (fun tv wx => tv = .bool false ∧ Below v.heap.size v wx)
        case first =>
          have q1 : Below v.heap.size v v.drew := bel_D _
          have al := lall_any S S ks v.drew (BV.out.on q1).l (by rw [LX.out]; omega)
          rw [HX.out, LX.out] at al
          have LN : Aside (∀ W, Below v.heap.size v W → Calls Try.prog 12 #[.pointer (some ⟨S, 0, none⟩)] W fun r w' => r = .returned (.int .i64 KK) ∧ Below W.heap.size W w') := fun W hW => by
            have := llen_any S S ks W (BV.out.on hW).l (by rw [LX.out]; omega)
            rw [LX.out] at this
            exact this
          have CH : Aside (∀ W, Below v.heap.size v W → Calls Try.prog 14 #[.pointer (some ⟨S, 0, none⟩)] W fun r w' => r = .returned (.int .i64 0) ∧ Below W.heap.size W w') := fun W hW => lcheck_any S S ks W (BV.out.on hW).l HE1.out.1 (by rw [HLN.out]; omega) (by rw [LX.out]; omega)
          rcases FX.out with ⟨rfl, hk0⟩ | ⟨rfl, t, ht⟩
          · subst hk0
            have KC : Aside (∀ v_, Below v.heap.size v v_ → v_.cell? ⟨S + 1, 0, none⟩ = some (.slice a n cap) ∧ v_.cell? ⟨R9, 0, none⟩ = some (.int .u64 x.1) ∧ v_.cell? ⟨R9, 1, none⟩ = some (.int .i64 x.2)) := fun v_ hv => ⟨lsm_cell ((hv.block _ (lt_of_block CV.out)).trans CV.out), box0 ((hv.block _ (lt_of_block X9.out)).trans X9.out), box1 ((hv.block _ (lt_of_block X9.out)).trans X9.out)⟩
            refine wp_region_held_drew (S := fun v => v.cell? ⟨S + 1, 0, none⟩ = some (.slice a n cap) ∧ v.cell? ⟨R9, 0, none⟩ = some (.int .u64 x.1) ∧ v.cell? ⟨R9, 1, none⟩ = some (.int .i64 x.2)) (by kernel_rfl) (KC.out _ q1) (fun hHeld => ?_)
            refine wpAnyH_take (i := 0) (oi := { dst := some 80, op := Op.move (Operand.tmp 3), type := 23, pos := "law.go:57", after := #[], guard := none }) (v := ?_) rfl (by kernel_rfl) (by kernel_rfl) (by kernel_rfl) (fun _ _ _ h => h) (Or.inl ⟨by rfl, ?_⟩) (by assumption) ?_
            rotate_left
            · (intro w hSw; (try dsimp only at hSw); go_simp; try with_reducible rfl)
            simp only [Act.put, List.setIfInBounds_toArray, List.set_cons_zero, List.set_cons_succ]
            refine wpAnyH_take (i := 2) (oi := { dst := some 82, op := Op.move (Operand.tmp 7), type := 29, pos := "law.go:57", after := #[], guard := none }) (v := ?_) rfl (by kernel_rfl) (by kernel_rfl) (by kernel_rfl) (fun _ _ _ h => h) (Or.inl ⟨by rfl, ?_⟩) (by assumption) ?_
            rotate_left
            · (intro w hSw; (try dsimp only at hSw); go_simp; try with_reducible rfl)
            simp only [Act.put, List.setIfInBounds_toArray, List.set_cons_zero, List.set_cons_succ]
            refine wpAnyH_ready (rs := [1]) (by kernel_rfl) (by simp) ?_
            refine AllReadyH.cons (o := { dst := some 81, op := Op.call { callee := Callee.value (Operand.func 17), args := #[Operand.tmp 80], argTypes := #[23] }, type := 29, pos := "law.go:57", after := #[{ on := 0, ground := Ground.data }], guard := none }) rfl (fun Kt hKt => ?_) AllReadyH.nil
            go_simp
            (with_reducible refine Calls.mono al ?_)
            rintro r z1 ⟨ma, mc, rfl, o1, b1⟩
            have x1 : Below v.heap.size v z1 := q1.trans (b1.mono q1.size)
            go_wp2_with fail
            refine hKt.out _ _ (KC.out _ x1) (fun hHeld => ?_)
            clear hKt Kt
            try simp only [Act.put, List.setIfInBounds_toArray, List.set_cons_zero, List.set_cons_succ]
            refine wpAnyH_ready (rs := [3]) (by kernel_rfl) (by simp) ?_
            refine AllReadyH.cons (o := { dst := some 83, op := Op.call { callee := Callee.value (Operand.func 13), args := #[Operand.tmp 81, Operand.tmp 82], argTypes := #[29, 29] }, type := 4, pos := "law.go:57", after := #[{ on := 1, ground := Ground.data }, { on := 2, ground := Ground.data }, { on := 1, ground := Ground.chain }], guard := none }) rfl (fun Kt hKt => ?_) AllReadyH.nil
            go_simp
            (with_reducible refine Calls.mono (sameN (B := true) (OwnE.is o1) (LV.out.below x1) HKK.out HKK.out (by simp)) ?_)
            rintro r z2 ⟨rfl, b2⟩
            have x2 : Below v.heap.size v z2 := x1.trans (b2.mono x1.size)
            go_wp2_with fail
            refine hKt.out _ _ (KC.out _ x2) (fun hHeld => ?_)
            clear hKt Kt
            try simp only [Act.put, List.setIfInBounds_toArray, List.set_cons_zero, List.set_cons_succ]
            refine wpAnyH_take (i := 4) (oi := { dst := some 84, op := Op.unOp UnOp.not 4 (Operand.tmp 83), type := 4, pos := "law.go:57", after := #[{ on := 3, ground := Ground.data }], guard := none }) (v := ?_) rfl (by kernel_rfl) (by kernel_rfl) (by kernel_rfl) (fun _ _ _ h => h) (Or.inl ⟨by rfl, ?_⟩) (by assumption) ?_
            rotate_left
            · (intro w hSw; (try dsimp only at hSw); go_simp; try with_reducible rfl)
            simp only [Act.put, List.setIfInBounds_toArray, List.set_cons_zero, List.set_cons_succ]
            refine wpAnyH_take (i := 5) (oi := { dst := some 85, op := Op.move (Operand.tmp 84), type := 4, pos := "law.go:57", after := #[{ on := 4, ground := Ground.data }, { on := 3, ground := Ground.chain }], guard := none }) (v := ?_) rfl (by kernel_rfl) (by kernel_rfl) (by kernel_rfl) (fun _ _ _ h => h) (Or.inl ⟨by rfl, ?_⟩) (by assumption) ?_
            rotate_left
            · (intro w hSw; (try dsimp only at hSw); go_simp; try with_reducible rfl)
            simp only [Act.put, List.setIfInBounds_toArray, List.set_cons_zero, List.set_cons_succ]
            refine wpAnyH_take (i := 6) (oi := { dst := some 86, op := Op.move (Operand.tmp 3), type := 23, pos := "law.go:57", after := #[{ on := 5, ground := Ground.guard }], guard := some (5, false) }) (v := ?_) rfl (by kernel_rfl) (by kernel_rfl) (by kernel_rfl) (fun _ _ _ h => h) (Or.inl ⟨by rfl, ?_⟩) (by assumption) ?_
            rotate_left
            · (intro w hSw; (try dsimp only at hSw); go_simp; try with_reducible rfl)
            simp only [Act.put, List.setIfInBounds_toArray, List.set_cons_zero, List.set_cons_succ]
            refine wpAnyH_take (i := 8) (oi := { dst := some 88, op := Op.move (Operand.tmp 7), type := 29, pos := "law.go:57", after := #[{ on := 5, ground := Ground.guard }], guard := some (5, false) }) (v := ?_) rfl (by kernel_rfl) (by kernel_rfl) (by kernel_rfl) (fun _ _ _ h => h) (Or.inl ⟨by rfl, ?_⟩) (by assumption) ?_
            rotate_left
            · (intro w hSw; (try dsimp only at hSw); go_simp; try with_reducible rfl)
            simp only [Act.put, List.setIfInBounds_toArray, List.set_cons_zero, List.set_cons_succ]
            refine wpAnyH_take (i := 9) (oi := { dst := some 89, op := Op.call { callee := Callee.builtin Builtin.len, args := #[Operand.tmp 88], argTypes := #[29] }, type := 3, pos := "law.go:57", after := #[{ on := 8, ground := Ground.data }, { on := 5, ground := Ground.guard }], guard := some (5, false) }) (v := ?_) rfl (by kernel_rfl) (by kernel_rfl) (by kernel_rfl) (fun _ _ _ h => h) (Or.inl ⟨by rfl, ?_⟩) (by assumption) ?_
            rotate_left
            · (intro w hSw; (try dsimp only at hSw); go_simp; try with_reducible rfl)
            simp only [Act.put, List.setIfInBounds_toArray, List.set_cons_zero, List.set_cons_succ]
            refine wpAnyH_ready (rs := [7]) (by kernel_rfl) (by simp) ?_
            refine AllReadyH.cons (o := { dst := some 87, op := Op.call { callee := Callee.value (Operand.func 12), args := #[Operand.tmp 86], argTypes := #[23] }, type := 3, pos := "law.go:57", after := #[{ on := 6, ground := Ground.data }, { on := 5, ground := Ground.chain }, { on := 5, ground := Ground.guard }], guard := some (5, false) }) rfl (fun Kt hKt => ?_) AllReadyH.nil
            go_simp
            (with_reducible refine Calls.mono (LN.out _ x2) ?_)
            rintro r z3 ⟨rfl, b3⟩
            have x3 : Below v.heap.size v z3 := x2.trans (b3.mono x2.size)
            go_wp2_with fail
            refine hKt.out _ _ (KC.out _ x3) (fun hHeld => ?_)
            clear hKt Kt
            try simp only [Act.put, List.setIfInBounds_toArray, List.set_cons_zero, List.set_cons_succ]
            refine wpAnyH_take (i := 10) (oi := { dst := some 90, op := Op.binOp BinOp.neq 3 (Operand.tmp 87) (Operand.tmp 89) 3, type := 4, pos := "law.go:57", after := #[{ on := 7, ground := Ground.data }, { on := 9, ground := Ground.data }, { on := 5, ground := Ground.guard }], guard := some (5, false) }) (v := ?_) rfl (by kernel_rfl) (by kernel_rfl) (by kernel_rfl) (fun _ _ _ h => h) (Or.inl ⟨by rfl, ?_⟩) (by assumption) ?_
            rotate_left
            · (intro w hSw; (try dsimp only at hSw); go_simp; try with_reducible rfl)
            simp only [Act.put, List.setIfInBounds_toArray, List.set_cons_zero, List.set_cons_succ]
            refine wpAnyH_take (i := 11) (oi := { dst := some 91, op := Op.pick (Operand.tmp 85) (Operand.const (Value.bool true)) (Operand.tmp 90), type := 4, pos := "law.go:57", after := #[{ on := 5, ground := Ground.data }, { on := 10, ground := Ground.data }], guard := none }) (v := ?_) rfl (by kernel_rfl) (by kernel_rfl) (by kernel_rfl) (fun _ _ _ h => h) (Or.inl ⟨by rfl, ?_⟩) (by assumption) ?_
            rotate_left
            · (intro w hSw; (try dsimp only at hSw); go_simp; try with_reducible rfl)
            simp only [Act.put, List.setIfInBounds_toArray, List.set_cons_zero, List.set_cons_succ]
            refine wpAnyH_take (i := 12) (oi := { dst := some 92, op := Op.move (Operand.tmp 91), type := 4, pos := "law.go:57", after := #[{ on := 11, ground := Ground.data }, { on := 7, ground := Ground.chain }], guard := none }) (v := ?_) rfl (by kernel_rfl) (by kernel_rfl) (by kernel_rfl) (fun _ _ _ h => h) (Or.inl ⟨by rfl, ?_⟩) (by assumption) ?_
            rotate_left
            · (intro w hSw; (try dsimp only at hSw); go_simp; try with_reducible rfl)
            simp only [Act.put, List.setIfInBounds_toArray, List.set_cons_zero, List.set_cons_succ]
            refine wpAnyH_take (i := 13) (oi := { dst := some 93, op := Op.move (Operand.tmp 3), type := 23, pos := "law.go:57", after := #[{ on := 12, ground := Ground.guard }], guard := some (12, false) }) (v := ?_) rfl (by kernel_rfl) (by kernel_rfl) (by kernel_rfl) (fun _ _ _ h => h) (Or.inl ⟨by rfl, ?_⟩) (by assumption) ?_
            rotate_left
            · (intro w hSw; (try dsimp only at hSw); go_simp; try with_reducible rfl)
            simp only [Act.put, List.setIfInBounds_toArray, List.set_cons_zero, List.set_cons_succ]
            refine wpAnyH_ready (rs := [14]) (by kernel_rfl) (by simp) ?_
            refine AllReadyH.cons (o := { dst := some 94, op := Op.call { callee := Callee.value (Operand.func 14), args := #[Operand.tmp 93], argTypes := #[23] }, type := 34, pos := "law.go:57", after := #[{ on := 13, ground := Ground.data }, { on := 12, ground := Ground.chain }, { on := 12, ground := Ground.guard }], guard := some (12, false) }) rfl (fun Kt hKt => ?_) AllReadyH.nil
            go_simp
            (with_reducible refine Calls.mono (CH.out _ x3) ?_)
            rintro r z4 ⟨rfl, b4⟩
            have x4 : Below v.heap.size v z4 := x3.trans (b4.mono x3.size)
            go_wp2_with fail
            refine hKt.out _ _ (KC.out _ x4) (fun hHeld => ?_)
            clear hKt Kt
            try simp only [Act.put, List.setIfInBounds_toArray, List.set_cons_zero, List.set_cons_succ]
            refine wpAnyH_take (i := 15) (oi := { dst := some 95, op := Op.binOp BinOp.neq 34 (Operand.tmp 94) (Operand.const (Value.int IntKind.i64 0)) 34, type := 4, pos := "law.go:57", after := #[{ on := 14, ground := Ground.data }, { on := 12, ground := Ground.guard }], guard := some (12, false) }) (v := ?_) rfl (by kernel_rfl) (by kernel_rfl) (by kernel_rfl) (fun _ _ _ h => h) (Or.inl ⟨by rfl, ?_⟩) (by assumption) ?_
            rotate_left
            · (intro w hSw; (try dsimp only at hSw); go_simp; try with_reducible rfl)
            simp only [Act.put, List.setIfInBounds_toArray, List.set_cons_zero, List.set_cons_succ]
            refine wpAnyH_take (i := 16) (oi := { dst := some 96, op := Op.pick (Operand.tmp 92) (Operand.const (Value.bool true)) (Operand.tmp 95), type := 4, pos := "law.go:57", after := #[{ on := 12, ground := Ground.data }, { on := 15, ground := Ground.data }], guard := none }) (v := ?_) rfl (by kernel_rfl) (by kernel_rfl) (by kernel_rfl) (fun _ _ _ h => h) (Or.inl ⟨by rfl, ?_⟩) (by assumption) ?_
            rotate_left
            · (intro w hSw; (try dsimp only at hSw); go_simp; try with_reducible rfl)
            simp only [Act.put, List.setIfInBounds_toArray, List.set_cons_zero, List.set_cons_succ]
            refine wpAnyH_take (i := 17) (oi := { dst := some 97, op := Op.move (Operand.tmp 96), type := 4, pos := "law.go:57", after := #[{ on := 16, ground := Ground.data }, { on := 14, ground := Ground.chain }], guard := none }) (v := ?_) rfl (by kernel_rfl) (by kernel_rfl) (by kernel_rfl) (fun _ _ _ h => h) (Or.inl ⟨by rfl, ?_⟩) (by assumption) ?_
            rotate_left
            · (intro w hSw; (try dsimp only at hSw); go_simp; try with_reducible rfl)
            simp only [Act.put, List.setIfInBounds_toArray, List.set_cons_zero, List.set_cons_succ]
            refine wpAnyH_take (i := 18) (oi := { dst := some 98, op := Op.move (Operand.tmp 10), type := 4, pos := "law.go:57", after := #[{ on := 17, ground := Ground.guard }], guard := some (17, false) }) (v := ?_) rfl (by kernel_rfl) (by kernel_rfl) (by kernel_rfl) (fun _ _ _ h => h) (Or.inl ⟨by rfl, ?_⟩) (by assumption) ?_
            rotate_left
            · (intro w hSw; (try dsimp only at hSw); go_simp; try with_reducible rfl)
            simp only [Act.put, List.setIfInBounds_toArray, List.set_cons_zero, List.set_cons_succ]
            refine wpAnyH_take (i := 19) (oi := { dst := some 99, op := Op.move (Operand.tmp 7), type := 29, pos := "law.go:57", after := #[{ on := 17, ground := Ground.guard }], guard := some (17, false) }) (v := ?_) rfl (by kernel_rfl) (by kernel_rfl) (by kernel_rfl) (fun _ _ _ h => h) (Or.inl ⟨by rfl, ?_⟩) (by assumption) ?_
            rotate_left
            · (intro w hSw; (try dsimp only at hSw); go_simp; try with_reducible rfl)
            simp only [Act.put, List.setIfInBounds_toArray, List.set_cons_zero, List.set_cons_succ]
            refine wpAnyH_take (i := 20) (oi := { dst := some 100, op := Op.call { callee := Callee.builtin Builtin.len, args := #[Operand.tmp 99], argTypes := #[29] }, type := 3, pos := "law.go:57", after := #[{ on := 19, ground := Ground.data }, { on := 17, ground := Ground.guard }], guard := some (17, false) }) (v := ?_) rfl (by kernel_rfl) (by kernel_rfl) (by kernel_rfl) (fun _ _ _ h => h) (Or.inl ⟨by rfl, ?_⟩) (by assumption) ?_
            rotate_left
            · (intro w hSw; (try dsimp only at hSw); go_simp; try with_reducible rfl)
            simp only [Act.put, List.setIfInBounds_toArray, List.set_cons_zero, List.set_cons_succ]
            refine wpAnyH_take (i := 21) (oi := { dst := some 101, op := Op.binOp BinOp.gtr 3 (Operand.tmp 100) (Operand.const (Value.int IntKind.i64 0)) 3, type := 4, pos := "law.go:57", after := #[{ on := 20, ground := Ground.data }, { on := 17, ground := Ground.guard }], guard := some (17, false) }) (v := ?_) rfl (by kernel_rfl) (by kernel_rfl) (by kernel_rfl) (fun _ _ _ h => h) (Or.inl ⟨by rfl, ?_⟩) (by assumption) ?_
            rotate_left
            · (intro w hSw; (try dsimp only at hSw); go_simp; try with_reducible rfl)
            simp only [Act.put, List.setIfInBounds_toArray, List.set_cons_zero, List.set_cons_succ]
            refine wpAnyH_take (i := 22) (oi := { dst := some 102, op := Op.binOp BinOp.neq 4 (Operand.tmp 98) (Operand.tmp 101) 4, type := 4, pos := "law.go:57", after := #[{ on := 18, ground := Ground.data }, { on := 21, ground := Ground.data }, { on := 17, ground := Ground.guard }], guard := some (17, false) }) (v := ?_) rfl (by kernel_rfl) (by kernel_rfl) (by kernel_rfl) (fun _ _ _ h => h) (Or.inl ⟨by rfl, ?_⟩) (by assumption) ?_
            rotate_left
            · (intro w hSw; (try dsimp only at hSw); go_simp; try with_reducible rfl)
            simp only [Act.put, List.setIfInBounds_toArray, List.set_cons_zero, List.set_cons_succ]
            refine wpAnyH_take (i := 23) (oi := { dst := some 103, op := Op.pick (Operand.tmp 97) (Operand.const (Value.bool true)) (Operand.tmp 102), type := 4, pos := "law.go:57", after := #[{ on := 17, ground := Ground.data }, { on := 22, ground := Ground.data }], guard := none }) (v := ?_) rfl (by kernel_rfl) (by kernel_rfl) (by kernel_rfl) (fun _ _ _ h => h) (Or.inl ⟨by rfl, ?_⟩) (by assumption) ?_
            rotate_left
            · (intro w hSw; (try dsimp only at hSw); go_simp; try with_reducible rfl)
            simp only [Act.put, List.setIfInBounds_toArray, List.set_cons_zero, List.set_cons_succ]
            refine wpAnyH_take (i := 24) (oi := { dst := some 104, op := Op.move (Operand.tmp 103), type := 4, pos := "law.go:57", after := #[{ on := 23, ground := Ground.data }, { on := 17, ground := Ground.chain }], guard := none }) (v := ?_) rfl (by kernel_rfl) (by kernel_rfl) (by kernel_rfl) (fun _ _ _ h => h) (Or.inl ⟨by rfl, ?_⟩) (by assumption) ?_
            rotate_left
            · (intro w hSw; (try dsimp only at hSw); go_simp; try with_reducible rfl)
            simp only [Act.put, List.setIfInBounds_toArray, List.set_cons_zero, List.set_cons_succ]
            refine wpAnyH_take (i := 25) (oi := { dst := some 105, op := Op.move (Operand.tmp 10), type := 4, pos := "law.go:57", after := #[{ on := 24, ground := Ground.guard }], guard := some (24, false) }) (v := ?_) rfl (by kernel_rfl) (by kernel_rfl) (by kernel_rfl) (fun _ _ _ h => h) (Or.inl ⟨by rfl, ?_⟩) (by assumption) ?_
            rotate_left
            · (intro w hSw; (try dsimp only at hSw); go_simp; try with_reducible rfl)
            simp only [Act.put, List.setIfInBounds_toArray, List.set_cons_zero, List.set_cons_succ]
            refine wpAnyH_take (i := 26) (oi := { dst := some 106, op := Op.move (Operand.tmp 105), type := 4, pos := "law.go:57", after := #[{ on := 25, ground := Ground.data }, { on := 24, ground := Ground.chain }, { on := 24, ground := Ground.guard }], guard := some (24, false) }) (v := ?_) rfl (by kernel_rfl) (by kernel_rfl) (by kernel_rfl) (fun _ _ _ h => h) (Or.inl ⟨by rfl, ?_⟩) (by assumption) ?_
            rotate_left
            · (intro w hSw; (try dsimp only at hSw); go_simp; try with_reducible rfl)
            simp only [Act.put, List.setIfInBounds_toArray, List.set_cons_zero, List.set_cons_succ]
            refine wpAnyH_take (i := 27) (oi := { dst := some 107, op := Op.load 28 (Operand.tmp 9), type := 28, pos := "law.go:57", after := #[{ on := 26, ground := Ground.guard }], guard := some (26, true) }) (v := undef) rfl (by kernel_rfl) (by kernel_rfl) (by kernel_rfl) (fun _ _ _ h => h) (Or.inr ⟨by rfl, rfl⟩) (by assumption) ?_
            simp only [Act.put, List.setIfInBounds_toArray, List.set_cons_zero, List.set_cons_succ]
            refine wpAnyH_take (i := 28) (oi := { dst := some 108, op := Op.move (Operand.tmp 7), type := 29, pos := "law.go:57", after := #[{ on := 26, ground := Ground.guard }], guard := some (26, true) }) (v := undef) rfl (by kernel_rfl) (by kernel_rfl) (by kernel_rfl) (fun _ _ _ h => h) (Or.inr ⟨by rfl, rfl⟩) (by assumption) ?_
            simp only [Act.put, List.setIfInBounds_toArray, List.set_cons_zero, List.set_cons_succ]
            refine wpAnyH_take (i := 29) (oi := { dst := some 109, op := Op.indexAddr 29 (Operand.tmp 108) (Operand.const (Value.int IntKind.i64 0)), type := 0, pos := "law.go:57", after := #[{ on := 28, ground := Ground.data }, { on := 26, ground := Ground.guard }], guard := some (26, true) }) (v := undef) rfl (by kernel_rfl) (by kernel_rfl) (by kernel_rfl) (fun _ _ _ h => h) (Or.inr ⟨by rfl, rfl⟩) (by assumption) ?_
            simp only [Act.put, List.setIfInBounds_toArray, List.set_cons_zero, List.set_cons_succ]
            refine wpAnyH_take (i := 30) (oi := { dst := some 110, op := Op.load 28 (Operand.tmp 109), type := 28, pos := "law.go:57", after := #[{ on := 29, ground := Ground.data }, { on := 26, ground := Ground.guard }], guard := some (26, true) }) (v := undef) rfl (by kernel_rfl) (by kernel_rfl) (by kernel_rfl) (fun _ _ _ h => h) (Or.inr ⟨by rfl, rfl⟩) (by assumption) ?_
            simp only [Act.put, List.setIfInBounds_toArray, List.set_cons_zero, List.set_cons_succ]
            refine wpAnyH_take (i := 31) (oi := { dst := some 111, op := Op.binOp BinOp.neq 28 (Operand.tmp 107) (Operand.tmp 110) 28, type := 4, pos := "law.go:57", after := #[{ on := 27, ground := Ground.data }, { on := 30, ground := Ground.data }, { on := 26, ground := Ground.guard }], guard := some (26, true) }) (v := undef) rfl (by kernel_rfl) (by kernel_rfl) (by kernel_rfl) (fun _ _ _ h => h) (Or.inr ⟨by rfl, rfl⟩) (by assumption) ?_
            simp only [Act.put, List.setIfInBounds_toArray, List.set_cons_zero, List.set_cons_succ]
            refine wpAnyH_take (i := 32) (oi := { dst := some 112, op := Op.pick (Operand.tmp 106) (Operand.tmp 111) (Operand.const (Value.bool false)), type := 4, pos := "law.go:57", after := #[{ on := 26, ground := Ground.data }, { on := 31, ground := Ground.data }, { on := 24, ground := Ground.guard }], guard := some (24, false) }) (v := ?_) rfl (by kernel_rfl) (by kernel_rfl) (by kernel_rfl) (fun _ _ _ h => h) (Or.inl ⟨by rfl, ?_⟩) (by assumption) ?_
            rotate_left
            · (intro w hSw; (try dsimp only at hSw); go_simp; try with_reducible rfl)
            simp only [Act.put, List.setIfInBounds_toArray, List.set_cons_zero, List.set_cons_succ]
            refine wpAnyH_take (i := 33) (oi := { dst := some 113, op := Op.pick (Operand.tmp 104) (Operand.const (Value.bool true)) (Operand.tmp 112), type := 4, pos := "law.go:57", after := #[{ on := 24, ground := Ground.data }, { on := 32, ground := Ground.data }], guard := none }) (v := ?_) rfl (by kernel_rfl) (by kernel_rfl) (by kernel_rfl) (fun _ _ _ h => h) (Or.inl ⟨by rfl, ?_⟩) (by assumption) ?_
            rotate_left
            · (intro w hSw; (try dsimp only at hSw); go_simp; try with_reducible rfl)
            simp only [Act.put, List.setIfInBounds_toArray, List.set_cons_zero, List.set_cons_succ]
            refine wpAnyH_take (i := 34) (oi := { dst := some 114, op := Op.move (Operand.tmp 113), type := 4, pos := "law.go:57", after := #[{ on := 33, ground := Ground.data }, { on := 26, ground := Ground.chain }], guard := none }) (v := ?_) rfl (by kernel_rfl) (by kernel_rfl) (by kernel_rfl) (fun _ _ _ h => h) (Or.inl ⟨by rfl, ?_⟩) (by assumption) ?_
            rotate_left
            · (intro w hSw; (try dsimp only at hSw); go_simp; try with_reducible rfl)
            simp only [Act.put, List.setIfInBounds_toArray, List.set_cons_zero, List.set_cons_succ]
            refine wpAnyH_take (i := 35) (oi := { dst := some 115, op := Op.move (Operand.tmp 8), type := 48, pos := "law.go:57", after := #[{ on := 34, ground := Ground.guard }], guard := some (34, false) }) (v := ?_) rfl (by kernel_rfl) (by kernel_rfl) (by kernel_rfl) (fun _ _ _ h => h) (Or.inl ⟨by rfl, ?_⟩) (by assumption) ?_
            rotate_left
            · (intro w hSw; (try dsimp only at hSw); go_simp; try with_reducible rfl)
            simp only [Act.put, List.setIfInBounds_toArray, List.set_cons_zero, List.set_cons_succ]
            refine wpAnyH_take (i := 36) (oi := { dst := some 116, op := Op.call { callee := Callee.builtin Builtin.len, args := #[Operand.tmp 115], argTypes := #[48] }, type := 3, pos := "law.go:57", after := #[{ on := 35, ground := Ground.data }, { on := 34, ground := Ground.guard }], guard := some (34, false) }) (v := ?_) rfl (by kernel_rfl) (by kernel_rfl) (by kernel_rfl) (fun _ _ _ h => h) (Or.inl ⟨by rfl, ?_⟩) (by assumption) ?_
            rotate_left
            · (intro w hSw; (try dsimp only at hSw); go_simp; try with_reducible rfl)
            simp only [Act.put, List.setIfInBounds_toArray, List.set_cons_zero, List.set_cons_succ]
            refine wpAnyH_take (i := 37) (oi := { dst := some 117, op := Op.move (Operand.tmp 4), type := 41, pos := "law.go:57", after := #[{ on := 34, ground := Ground.guard }], guard := some (34, false) }) (v := ?_) rfl (by kernel_rfl) (by kernel_rfl) (by kernel_rfl) (fun _ _ _ h => h) (Or.inl ⟨by rfl, ?_⟩) (by assumption) ?_
            rotate_left
            · (intro w hSw; (try dsimp only at hSw); go_simp; try with_reducible rfl)
            simp only [Act.put, List.setIfInBounds_toArray, List.set_cons_zero, List.set_cons_succ]
            refine wpAnyH_take (i := 38) (oi := { dst := some 118, op := Op.nilCheck (Operand.tmp 117), type := 0, pos := "law.go:57", after := #[{ on := 37, ground := Ground.data }, { on := 34, ground := Ground.guard }], guard := some (34, false) }) (v := ?_) rfl (by kernel_rfl) (by kernel_rfl) (by kernel_rfl) (fun _ _ _ h => h) (Or.inl ⟨by rfl, ?_⟩) (by assumption) ?_
            rotate_left
            · (intro w hSw; (try dsimp only at hSw); go_simp; try with_reducible rfl)
            simp only [Act.put, List.setIfInBounds_toArray, List.set_cons_zero, List.set_cons_succ]
            refine wpAnyH_take (i := 39) (oi := { dst := some 119, op := Op.fieldAddr 44 (Operand.tmp 118) 0, type := 0, pos := "law.go:57", after := #[{ on := 38, ground := Ground.data }, { on := 34, ground := Ground.guard }], guard := some (34, false) }) (v := ?_) rfl (by kernel_rfl) (by kernel_rfl) (by kernel_rfl) (fun _ _ _ h => h) (Or.inl ⟨by rfl, ?_⟩) (by assumption) ?_
            rotate_left
            · (intro w hSw; (try dsimp only at hSw); go_simp; try with_reducible rfl)
            simp only [Act.put, List.setIfInBounds_toArray, List.set_cons_zero, List.set_cons_succ]
            refine wpAnyH_take (i := 40) (oi := { dst := some 120, op := Op.load 42 (Operand.tmp 119), type := 42, pos := "law.go:57", after := #[{ on := 39, ground := Ground.data }, { on := 34, ground := Ground.guard }], guard := some (34, false) }) (v := ?_) rfl (by kernel_rfl) (by kernel_rfl) (by kernel_rfl) (fun _ _ _ h => h) (Or.inl ⟨by rfl, ?_⟩) (by assumption) ?_
            rotate_left
            · (intro w hSw; (try dsimp only at hSw); go_simp; try with_reducible rfl)
            simp only [Act.put, List.setIfInBounds_toArray, List.set_cons_zero, List.set_cons_succ]
            refine wpAnyH_take (i := 41) (oi := { dst := some 121, op := Op.call { callee := Callee.builtin Builtin.len, args := #[Operand.tmp 120], argTypes := #[42] }, type := 3, pos := "law.go:57", after := #[{ on := 40, ground := Ground.data }, { on := 34, ground := Ground.guard }], guard := some (34, false) }) (v := ?_) rfl (by kernel_rfl) (by kernel_rfl) (by kernel_rfl) (fun _ _ _ h => h) (Or.inl ⟨by rfl, ?_⟩) (by assumption) ?_
            rotate_left
            · (intro w hSw; (try dsimp only at hSw); go_simp; try with_reducible rfl)
            simp only [Act.put, List.setIfInBounds_toArray, List.set_cons_zero, List.set_cons_succ]
            refine wpAnyH_take (i := 42) (oi := { dst := some 122, op := Op.binOp BinOp.neq 3 (Operand.tmp 116) (Operand.tmp 121) 3, type := 4, pos := "law.go:57", after := #[{ on := 36, ground := Ground.data }, { on := 41, ground := Ground.data }, { on := 34, ground := Ground.guard }], guard := some (34, false) }) (v := ?_) rfl (by kernel_rfl) (by kernel_rfl) (by kernel_rfl) (fun _ _ _ h => h) (Or.inl ⟨by rfl, ?_⟩) (by assumption) ?_
            rotate_left
            · (intro w hSw; (try dsimp only at hSw); go_simp; try with_reducible rfl)
            simp only [Act.put, List.setIfInBounds_toArray, List.set_cons_zero, List.set_cons_succ]
            refine wpAnyH_take (i := 43) (oi := { dst := some 123, op := Op.pick (Operand.tmp 114) (Operand.const (Value.bool true)) (Operand.tmp 122), type := 4, pos := "law.go:57", after := #[{ on := 34, ground := Ground.data }, { on := 42, ground := Ground.data }], guard := none }) (v := ?_) rfl (by kernel_rfl) (by kernel_rfl) (by kernel_rfl) (fun _ _ _ h => h) (Or.inl ⟨by rfl, ?_⟩) (by assumption) ?_
            rotate_left
            · (intro w hSw; (try dsimp only at hSw); go_simp; try with_reducible rfl)
            simp only [Act.put, List.setIfInBounds_toArray, List.set_cons_zero, List.set_cons_succ]
            refine wpAnyH_done (by kernel_rfl) ?_ _
            clear al LN CH KC
            go_wp2_with fail
            go_meet
            exact ⟨rfl, x4⟩
          · have k1 : 0 < KK := by rw [← HKK.out, ht]; simp
            have k2 : (0 : Int) < (KK : Int) := by omega
            have k3 : decide ((0 : Int) < (KK : Int)) = true := decide_eq_true k2
            have k4 : decide (0 < KK) = true := decide_eq_true k1
            obtain ⟨g, off, ha, hg, c0, c1⟩ := LV.out.elem 0 x (by rw [ht]; rfl)
            subst ha
            rw [Nat.zero_mul, Nat.add_zero] at c0 c1
            have KC : Aside (∀ v_, Below v.heap.size v v_ → v_.cell? ⟨S + 1, 0, none⟩ = some (.slice a n cap) ∧ v_.cell? ⟨R9, 0, none⟩ = some (.int .u64 x.1) ∧ v_.cell? ⟨R9, 1, none⟩ = some (.int .i64 x.2) ∧ v_.cell? ⟨g, off, none⟩ = some (.int .u64 x.1) ∧ v_.cell? ⟨g, off + 1, none⟩ = some (.int .i64 x.2)) := fun v_ hv => ⟨lsm_cell ((hv.block _ (lt_of_block CV.out)).trans CV.out), box0 ((hv.block _ (lt_of_block X9.out)).trans X9.out), box1 ((hv.block _ (lt_of_block X9.out)).trans X9.out), (hv.cell (p := ⟨g, off, none⟩) hg).trans c0, (hv.cell (p := ⟨g, off + 1, none⟩) hg).trans c1⟩
            clear c0 c1 ht
            refine wp_region_held_drew (S := fun v => v.cell? ⟨S + 1, 0, none⟩ = some (.slice a n cap) ∧ v.cell? ⟨R9, 0, none⟩ = some (.int .u64 x.1) ∧ v.cell? ⟨R9, 1, none⟩ = some (.int .i64 x.2) ∧ v.cell? ⟨g, off, none⟩ = some (.int .u64 x.1) ∧ v.cell? ⟨g, off + 1, none⟩ = some (.int .i64 x.2)) (by kernel_rfl) (KC.out _ q1) (fun hHeld => ?_)
            refine wpAnyH_take (i := 0) (oi := { dst := some 80, op := Op.move (Operand.tmp 3), type := 23, pos := "law.go:57", after := #[], guard := none }) (v := ?_) rfl (by kernel_rfl) (by kernel_rfl) (by kernel_rfl) (fun _ _ _ h => h) (Or.inl ⟨by rfl, ?_⟩) (by assumption) ?_
            rotate_left
            · (intro w hSw; (try dsimp only at hSw); go_simp; try with_reducible rfl)
            simp only [Act.put, List.setIfInBounds_toArray, List.set_cons_zero, List.set_cons_succ]
            refine wpAnyH_take (i := 2) (oi := { dst := some 82, op := Op.move (Operand.tmp 7), type := 29, pos := "law.go:57", after := #[], guard := none }) (v := ?_) rfl (by kernel_rfl) (by kernel_rfl) (by kernel_rfl) (fun _ _ _ h => h) (Or.inl ⟨by rfl, ?_⟩) (by assumption) ?_
            rotate_left
            · (intro w hSw; (try dsimp only at hSw); go_simp; try with_reducible rfl)
            simp only [Act.put, List.setIfInBounds_toArray, List.set_cons_zero, List.set_cons_succ]
            refine wpAnyH_ready (rs := [1]) (by kernel_rfl) (by simp) ?_
            refine AllReadyH.cons (o := { dst := some 81, op := Op.call { callee := Callee.value (Operand.func 17), args := #[Operand.tmp 80], argTypes := #[23] }, type := 29, pos := "law.go:57", after := #[{ on := 0, ground := Ground.data }], guard := none }) rfl (fun Kt hKt => ?_) AllReadyH.nil
            go_simp
            (with_reducible refine Calls.mono al ?_)
            rintro r z1 ⟨ma, mc, rfl, o1, b1⟩
            have x1 : Below v.heap.size v z1 := q1.trans (b1.mono q1.size)
            go_wp2_with fail
            refine hKt.out _ _ (KC.out _ x1) (fun hHeld => ?_)
            clear hKt Kt
            try simp only [Act.put, List.setIfInBounds_toArray, List.set_cons_zero, List.set_cons_succ]
            refine wpAnyH_ready (rs := [3]) (by kernel_rfl) (by simp) ?_
            refine AllReadyH.cons (o := { dst := some 83, op := Op.call { callee := Callee.value (Operand.func 13), args := #[Operand.tmp 81, Operand.tmp 82], argTypes := #[29, 29] }, type := 4, pos := "law.go:57", after := #[{ on := 1, ground := Ground.data }, { on := 2, ground := Ground.data }, { on := 1, ground := Ground.chain }], guard := none }) rfl (fun Kt hKt => ?_) AllReadyH.nil
            go_simp
            (with_reducible refine Calls.mono (sameN (B := true) (OwnE.is o1) (LV.out.below x1) HKK.out HKK.out (by simp)) ?_)
            rintro r z2 ⟨rfl, b2⟩
            have x2 : Below v.heap.size v z2 := x1.trans (b2.mono x1.size)
            go_wp2_with fail
            refine hKt.out _ _ (KC.out _ x2) (fun hHeld => ?_)
            clear hKt Kt
            try simp only [Act.put, List.setIfInBounds_toArray, List.set_cons_zero, List.set_cons_succ]
            refine wpAnyH_take (i := 4) (oi := { dst := some 84, op := Op.unOp UnOp.not 4 (Operand.tmp 83), type := 4, pos := "law.go:57", after := #[{ on := 3, ground := Ground.data }], guard := none }) (v := ?_) rfl (by kernel_rfl) (by kernel_rfl) (by kernel_rfl) (fun _ _ _ h => h) (Or.inl ⟨by rfl, ?_⟩) (by assumption) ?_
            rotate_left
            · (intro w hSw; (try dsimp only at hSw); go_simp; try with_reducible rfl)
            simp only [Act.put, List.setIfInBounds_toArray, List.set_cons_zero, List.set_cons_succ]
            refine wpAnyH_take (i := 5) (oi := { dst := some 85, op := Op.move (Operand.tmp 84), type := 4, pos := "law.go:57", after := #[{ on := 4, ground := Ground.data }, { on := 3, ground := Ground.chain }], guard := none }) (v := ?_) rfl (by kernel_rfl) (by kernel_rfl) (by kernel_rfl) (fun _ _ _ h => h) (Or.inl ⟨by rfl, ?_⟩) (by assumption) ?_
            rotate_left
            · (intro w hSw; (try dsimp only at hSw); go_simp; try with_reducible rfl)
            simp only [Act.put, List.setIfInBounds_toArray, List.set_cons_zero, List.set_cons_succ]
            refine wpAnyH_take (i := 6) (oi := { dst := some 86, op := Op.move (Operand.tmp 3), type := 23, pos := "law.go:57", after := #[{ on := 5, ground := Ground.guard }], guard := some (5, false) }) (v := ?_) rfl (by kernel_rfl) (by kernel_rfl) (by kernel_rfl) (fun _ _ _ h => h) (Or.inl ⟨by rfl, ?_⟩) (by assumption) ?_
            rotate_left
            · (intro w hSw; (try dsimp only at hSw); go_simp; try with_reducible rfl)
            simp only [Act.put, List.setIfInBounds_toArray, List.set_cons_zero, List.set_cons_succ]
            refine wpAnyH_take (i := 8) (oi := { dst := some 88, op := Op.move (Operand.tmp 7), type := 29, pos := "law.go:57", after := #[{ on := 5, ground := Ground.guard }], guard := some (5, false) }) (v := ?_) rfl (by kernel_rfl) (by kernel_rfl) (by kernel_rfl) (fun _ _ _ h => h) (Or.inl ⟨by rfl, ?_⟩) (by assumption) ?_
            rotate_left
            · (intro w hSw; (try dsimp only at hSw); go_simp; try with_reducible rfl)
            simp only [Act.put, List.setIfInBounds_toArray, List.set_cons_zero, List.set_cons_succ]
            refine wpAnyH_take (i := 9) (oi := { dst := some 89, op := Op.call { callee := Callee.builtin Builtin.len, args := #[Operand.tmp 88], argTypes := #[29] }, type := 3, pos := "law.go:57", after := #[{ on := 8, ground := Ground.data }, { on := 5, ground := Ground.guard }], guard := some (5, false) }) (v := ?_) rfl (by kernel_rfl) (by kernel_rfl) (by kernel_rfl) (fun _ _ _ h => h) (Or.inl ⟨by rfl, ?_⟩) (by assumption) ?_
            rotate_left
            · (intro w hSw; (try dsimp only at hSw); go_simp; try with_reducible rfl)
            simp only [Act.put, List.setIfInBounds_toArray, List.set_cons_zero, List.set_cons_succ]
            refine wpAnyH_ready (rs := [7]) (by kernel_rfl) (by simp) ?_
            refine AllReadyH.cons (o := { dst := some 87, op := Op.call { callee := Callee.value (Operand.func 12), args := #[Operand.tmp 86], argTypes := #[23] }, type := 3, pos := "law.go:57", after := #[{ on := 6, ground := Ground.data }, { on := 5, ground := Ground.chain }, { on := 5, ground := Ground.guard }], guard := some (5, false) }) rfl (fun Kt hKt => ?_) AllReadyH.nil
            go_simp
            (with_reducible refine Calls.mono (LN.out _ x2) ?_)
            rintro r z3 ⟨rfl, b3⟩
            have x3 : Below v.heap.size v z3 := x2.trans (b3.mono x2.size)
            go_wp2_with fail
            refine hKt.out _ _ (KC.out _ x3) (fun hHeld => ?_)
            clear hKt Kt
            try simp only [Act.put, List.setIfInBounds_toArray, List.set_cons_zero, List.set_cons_succ]
            refine wpAnyH_take (i := 10) (oi := { dst := some 90, op := Op.binOp BinOp.neq 3 (Operand.tmp 87) (Operand.tmp 89) 3, type := 4, pos := "law.go:57", after := #[{ on := 7, ground := Ground.data }, { on := 9, ground := Ground.data }, { on := 5, ground := Ground.guard }], guard := some (5, false) }) (v := ?_) rfl (by kernel_rfl) (by kernel_rfl) (by kernel_rfl) (fun _ _ _ h => h) (Or.inl ⟨by rfl, ?_⟩) (by assumption) ?_
            rotate_left
            · (intro w hSw; (try dsimp only at hSw); go_simp; try with_reducible rfl)
            simp only [Act.put, List.setIfInBounds_toArray, List.set_cons_zero, List.set_cons_succ]
            refine wpAnyH_take (i := 11) (oi := { dst := some 91, op := Op.pick (Operand.tmp 85) (Operand.const (Value.bool true)) (Operand.tmp 90), type := 4, pos := "law.go:57", after := #[{ on := 5, ground := Ground.data }, { on := 10, ground := Ground.data }], guard := none }) (v := ?_) rfl (by kernel_rfl) (by kernel_rfl) (by kernel_rfl) (fun _ _ _ h => h) (Or.inl ⟨by rfl, ?_⟩) (by assumption) ?_
            rotate_left
            · (intro w hSw; (try dsimp only at hSw); go_simp; try with_reducible rfl)
            simp only [Act.put, List.setIfInBounds_toArray, List.set_cons_zero, List.set_cons_succ]
            refine wpAnyH_take (i := 12) (oi := { dst := some 92, op := Op.move (Operand.tmp 91), type := 4, pos := "law.go:57", after := #[{ on := 11, ground := Ground.data }, { on := 7, ground := Ground.chain }], guard := none }) (v := ?_) rfl (by kernel_rfl) (by kernel_rfl) (by kernel_rfl) (fun _ _ _ h => h) (Or.inl ⟨by rfl, ?_⟩) (by assumption) ?_
            rotate_left
            · (intro w hSw; (try dsimp only at hSw); go_simp; try with_reducible rfl)
            simp only [Act.put, List.setIfInBounds_toArray, List.set_cons_zero, List.set_cons_succ]
            refine wpAnyH_take (i := 13) (oi := { dst := some 93, op := Op.move (Operand.tmp 3), type := 23, pos := "law.go:57", after := #[{ on := 12, ground := Ground.guard }], guard := some (12, false) }) (v := ?_) rfl (by kernel_rfl) (by kernel_rfl) (by kernel_rfl) (fun _ _ _ h => h) (Or.inl ⟨by rfl, ?_⟩) (by assumption) ?_
            rotate_left
            · (intro w hSw; (try dsimp only at hSw); go_simp; try with_reducible rfl)
            simp only [Act.put, List.setIfInBounds_toArray, List.set_cons_zero, List.set_cons_succ]
            refine wpAnyH_ready (rs := [14]) (by kernel_rfl) (by simp) ?_
            refine AllReadyH.cons (o := { dst := some 94, op := Op.call { callee := Callee.value (Operand.func 14), args := #[Operand.tmp 93], argTypes := #[23] }, type := 34, pos := "law.go:57", after := #[{ on := 13, ground := Ground.data }, { on := 12, ground := Ground.chain }, { on := 12, ground := Ground.guard }], guard := some (12, false) }) rfl (fun Kt hKt => ?_) AllReadyH.nil
            go_simp
            (with_reducible refine Calls.mono (CH.out _ x3) ?_)
            rintro r z4 ⟨rfl, b4⟩
            have x4 : Below v.heap.size v z4 := x3.trans (b4.mono x3.size)
            go_wp2_with fail
            refine hKt.out _ _ (KC.out _ x4) (fun hHeld => ?_)
            clear hKt Kt
            try simp only [Act.put, List.setIfInBounds_toArray, List.set_cons_zero, List.set_cons_succ]
            refine wpAnyH_take (i := 15) (oi := { dst := some 95, op := Op.binOp BinOp.neq 34 (Operand.tmp 94) (Operand.const (Value.int IntKind.i64 0)) 34, type := 4, pos := "law.go:57", after := #[{ on := 14, ground := Ground.data }, { on := 12, ground := Ground.guard }], guard := some (12, false) }) (v := ?_) rfl (by kernel_rfl) (by kernel_rfl) (by kernel_rfl) (fun _ _ _ h => h) (Or.inl ⟨by rfl, ?_⟩) (by assumption) ?_
            rotate_left
            · (intro w hSw; (try dsimp only at hSw); go_simp; try with_reducible rfl)
            simp only [Act.put, List.setIfInBounds_toArray, List.set_cons_zero, List.set_cons_succ]
            refine wpAnyH_take (i := 16) (oi := { dst := some 96, op := Op.pick (Operand.tmp 92) (Operand.const (Value.bool true)) (Operand.tmp 95), type := 4, pos := "law.go:57", after := #[{ on := 12, ground := Ground.data }, { on := 15, ground := Ground.data }], guard := none }) (v := ?_) rfl (by kernel_rfl) (by kernel_rfl) (by kernel_rfl) (fun _ _ _ h => h) (Or.inl ⟨by rfl, ?_⟩) (by assumption) ?_
            rotate_left
            · (intro w hSw; (try dsimp only at hSw); go_simp; try with_reducible rfl)
            simp only [Act.put, List.setIfInBounds_toArray, List.set_cons_zero, List.set_cons_succ]
            refine wpAnyH_take (i := 17) (oi := { dst := some 97, op := Op.move (Operand.tmp 96), type := 4, pos := "law.go:57", after := #[{ on := 16, ground := Ground.data }, { on := 14, ground := Ground.chain }], guard := none }) (v := ?_) rfl (by kernel_rfl) (by kernel_rfl) (by kernel_rfl) (fun _ _ _ h => h) (Or.inl ⟨by rfl, ?_⟩) (by assumption) ?_
            rotate_left
            · (intro w hSw; (try dsimp only at hSw); go_simp; try with_reducible rfl)
            simp only [Act.put, List.setIfInBounds_toArray, List.set_cons_zero, List.set_cons_succ]
            refine wpAnyH_take (i := 18) (oi := { dst := some 98, op := Op.move (Operand.tmp 10), type := 4, pos := "law.go:57", after := #[{ on := 17, ground := Ground.guard }], guard := some (17, false) }) (v := ?_) rfl (by kernel_rfl) (by kernel_rfl) (by kernel_rfl) (fun _ _ _ h => h) (Or.inl ⟨by rfl, ?_⟩) (by assumption) ?_
            rotate_left
            · (intro w hSw; (try dsimp only at hSw); go_simp; try with_reducible rfl)
            simp only [Act.put, List.setIfInBounds_toArray, List.set_cons_zero, List.set_cons_succ]
            refine wpAnyH_take (i := 19) (oi := { dst := some 99, op := Op.move (Operand.tmp 7), type := 29, pos := "law.go:57", after := #[{ on := 17, ground := Ground.guard }], guard := some (17, false) }) (v := ?_) rfl (by kernel_rfl) (by kernel_rfl) (by kernel_rfl) (fun _ _ _ h => h) (Or.inl ⟨by rfl, ?_⟩) (by assumption) ?_
            rotate_left
            · (intro w hSw; (try dsimp only at hSw); go_simp; try with_reducible rfl)
            simp only [Act.put, List.setIfInBounds_toArray, List.set_cons_zero, List.set_cons_succ]
            refine wpAnyH_take (i := 20) (oi := { dst := some 100, op := Op.call { callee := Callee.builtin Builtin.len, args := #[Operand.tmp 99], argTypes := #[29] }, type := 3, pos := "law.go:57", after := #[{ on := 19, ground := Ground.data }, { on := 17, ground := Ground.guard }], guard := some (17, false) }) (v := ?_) rfl (by kernel_rfl) (by kernel_rfl) (by kernel_rfl) (fun _ _ _ h => h) (Or.inl ⟨by rfl, ?_⟩) (by assumption) ?_
            rotate_left
            · (intro w hSw; (try dsimp only at hSw); go_simp; try with_reducible rfl)
            simp only [Act.put, List.setIfInBounds_toArray, List.set_cons_zero, List.set_cons_succ]
            refine wpAnyH_take (i := 21) (oi := { dst := some 101, op := Op.binOp BinOp.gtr 3 (Operand.tmp 100) (Operand.const (Value.int IntKind.i64 0)) 3, type := 4, pos := "law.go:57", after := #[{ on := 20, ground := Ground.data }, { on := 17, ground := Ground.guard }], guard := some (17, false) }) (v := ?_) rfl (by kernel_rfl) (by kernel_rfl) (by kernel_rfl) (fun _ _ _ h => h) (Or.inl ⟨by rfl, ?_⟩) (by assumption) ?_
            rotate_left
            · (intro w hSw; (try dsimp only at hSw); go_simp; try with_reducible rfl)
            simp only [Act.put, List.setIfInBounds_toArray, List.set_cons_zero, List.set_cons_succ]
            refine wpAnyH_take (i := 22) (oi := { dst := some 102, op := Op.binOp BinOp.neq 4 (Operand.tmp 98) (Operand.tmp 101) 4, type := 4, pos := "law.go:57", after := #[{ on := 18, ground := Ground.data }, { on := 21, ground := Ground.data }, { on := 17, ground := Ground.guard }], guard := some (17, false) }) (v := ?_) rfl (by kernel_rfl) (by kernel_rfl) (by kernel_rfl) (fun _ _ _ h => h) (Or.inl ⟨by rfl, ?_⟩) (by assumption) ?_
            rotate_left
            · (intro w hSw; (try dsimp only at hSw); go_simp; try with_reducible rfl)
            simp only [Act.put, List.setIfInBounds_toArray, List.set_cons_zero, List.set_cons_succ]
            refine wpAnyH_take (i := 23) (oi := { dst := some 103, op := Op.pick (Operand.tmp 97) (Operand.const (Value.bool true)) (Operand.tmp 102), type := 4, pos := "law.go:57", after := #[{ on := 17, ground := Ground.data }, { on := 22, ground := Ground.data }], guard := none }) (v := ?_) rfl (by kernel_rfl) (by kernel_rfl) (by kernel_rfl) (fun _ _ _ h => h) (Or.inl ⟨by rfl, ?_⟩) (by assumption) ?_
            rotate_left
            · (intro w hSw; (try dsimp only at hSw); go_simp; try with_reducible rfl)
            simp only [Act.put, List.setIfInBounds_toArray, List.set_cons_zero, List.set_cons_succ]
            refine wpAnyH_take (i := 24) (oi := { dst := some 104, op := Op.move (Operand.tmp 103), type := 4, pos := "law.go:57", after := #[{ on := 23, ground := Ground.data }, { on := 17, ground := Ground.chain }], guard := none }) (v := ?_) rfl (by kernel_rfl) (by kernel_rfl) (by kernel_rfl) (fun _ _ _ h => h) (Or.inl ⟨by rfl, ?_⟩) (by assumption) ?_
            rotate_left
            · (intro w hSw; (try dsimp only at hSw); go_simp; try with_reducible rfl)
            simp only [Act.put, List.setIfInBounds_toArray, List.set_cons_zero, List.set_cons_succ]
            refine wpAnyH_take (i := 25) (oi := { dst := some 105, op := Op.move (Operand.tmp 10), type := 4, pos := "law.go:57", after := #[{ on := 24, ground := Ground.guard }], guard := some (24, false) }) (v := ?_) rfl (by kernel_rfl) (by kernel_rfl) (by kernel_rfl) (fun _ _ _ h => h) (Or.inl ⟨by rfl, ?_⟩) (by assumption) ?_
            rotate_left
            · (intro w hSw; (try dsimp only at hSw); go_simp; try with_reducible rfl)
            simp only [Act.put, List.setIfInBounds_toArray, List.set_cons_zero, List.set_cons_succ]
            refine wpAnyH_take (i := 26) (oi := { dst := some 106, op := Op.move (Operand.tmp 105), type := 4, pos := "law.go:57", after := #[{ on := 25, ground := Ground.data }, { on := 24, ground := Ground.chain }, { on := 24, ground := Ground.guard }], guard := some (24, false) }) (v := ?_) rfl (by kernel_rfl) (by kernel_rfl) (by kernel_rfl) (fun _ _ _ h => h) (Or.inl ⟨by rfl, ?_⟩) (by assumption) ?_
            rotate_left
            · (intro w hSw; (try dsimp only at hSw); go_simp; try with_reducible rfl)
            simp only [Act.put, List.setIfInBounds_toArray, List.set_cons_zero, List.set_cons_succ]
            refine wpAnyH_take (i := 27) (oi := { dst := some 107, op := Op.load 28 (Operand.tmp 9), type := 28, pos := "law.go:57", after := #[{ on := 26, ground := Ground.guard }], guard := some (26, true) }) (v := ?_) rfl (by kernel_rfl) (by kernel_rfl) (by kernel_rfl) (fun _ _ _ h => h) (Or.inl ⟨by rfl, ?_⟩) (by assumption) ?_
            rotate_left
            · (intro w hSw; (try dsimp only at hSw); go_simp; try with_reducible rfl)
            simp only [Act.put, List.setIfInBounds_toArray, List.set_cons_zero, List.set_cons_succ]
            refine wpAnyH_take (i := 28) (oi := { dst := some 108, op := Op.move (Operand.tmp 7), type := 29, pos := "law.go:57", after := #[{ on := 26, ground := Ground.guard }], guard := some (26, true) }) (v := ?_) rfl (by kernel_rfl) (by kernel_rfl) (by kernel_rfl) (fun _ _ _ h => h) (Or.inl ⟨by rfl, ?_⟩) (by assumption) ?_
            rotate_left
            · (intro w hSw; (try dsimp only at hSw); go_simp; try with_reducible rfl)
            simp only [Act.put, List.setIfInBounds_toArray, List.set_cons_zero, List.set_cons_succ]
            refine wpAnyH_take (i := 29) (oi := { dst := some 109, op := Op.indexAddr 29 (Operand.tmp 108) (Operand.const (Value.int IntKind.i64 0)), type := 0, pos := "law.go:57", after := #[{ on := 28, ground := Ground.data }, { on := 26, ground := Ground.guard }], guard := some (26, true) }) (v := ?_) rfl (by kernel_rfl) (by kernel_rfl) (by kernel_rfl) (fun _ _ _ h => h) (Or.inl ⟨by rfl, ?_⟩) (by assumption) ?_
            rotate_left
            · (intro w hSw; (try dsimp only at hSw); go_simp; try with_reducible rfl)
            simp only [Act.put, List.setIfInBounds_toArray, List.set_cons_zero, List.set_cons_succ]
            refine wpAnyH_take (i := 30) (oi := { dst := some 110, op := Op.load 28 (Operand.tmp 109), type := 28, pos := "law.go:57", after := #[{ on := 29, ground := Ground.data }, { on := 26, ground := Ground.guard }], guard := some (26, true) }) (v := ?_) rfl (by kernel_rfl) (by kernel_rfl) (by kernel_rfl) (fun _ _ _ h => h) (Or.inl ⟨by rfl, ?_⟩) (by assumption) ?_
            rotate_left
            · (intro w hSw; (try dsimp only at hSw); go_simp; try with_reducible rfl)
            simp only [Act.put, List.setIfInBounds_toArray, List.set_cons_zero, List.set_cons_succ]
            refine wpAnyH_take (i := 31) (oi := { dst := some 111, op := Op.binOp BinOp.neq 28 (Operand.tmp 107) (Operand.tmp 110) 28, type := 4, pos := "law.go:57", after := #[{ on := 27, ground := Ground.data }, { on := 30, ground := Ground.data }, { on := 26, ground := Ground.guard }], guard := some (26, true) }) (v := ?_) rfl (by kernel_rfl) (by kernel_rfl) (by kernel_rfl) (fun _ _ _ h => h) (Or.inl ⟨by rfl, ?_⟩) (by assumption) ?_
            rotate_left
            · (intro w hSw; (try dsimp only at hSw); go_simp; try with_reducible rfl)
            simp only [Act.put, List.setIfInBounds_toArray, List.set_cons_zero, List.set_cons_succ]
            refine wpAnyH_take (i := 32) (oi := { dst := some 112, op := Op.pick (Operand.tmp 106) (Operand.tmp 111) (Operand.const (Value.bool false)), type := 4, pos := "law.go:57", after := #[{ on := 26, ground := Ground.data }, { on := 31, ground := Ground.data }, { on := 24, ground := Ground.guard }], guard := some (24, false) }) (v := ?_) rfl (by kernel_rfl) (by kernel_rfl) (by kernel_rfl) (fun _ _ _ h => h) (Or.inl ⟨by rfl, ?_⟩) (by assumption) ?_
            rotate_left
            · (intro w hSw; (try dsimp only at hSw); go_simp; try with_reducible rfl)
            simp only [Act.put, List.setIfInBounds_toArray, List.set_cons_zero, List.set_cons_succ]
            refine wpAnyH_take (i := 33) (oi := { dst := some 113, op := Op.pick (Operand.tmp 104) (Operand.const (Value.bool true)) (Operand.tmp 112), type := 4, pos := "law.go:57", after := #[{ on := 24, ground := Ground.data }, { on := 32, ground := Ground.data }], guard := none }) (v := ?_) rfl (by kernel_rfl) (by kernel_rfl) (by kernel_rfl) (fun _ _ _ h => h) (Or.inl ⟨by rfl, ?_⟩) (by assumption) ?_
            rotate_left
            · (intro w hSw; (try dsimp only at hSw); go_simp; try with_reducible rfl)
            simp only [Act.put, List.setIfInBounds_toArray, List.set_cons_zero, List.set_cons_succ]
            refine wpAnyH_take (i := 34) (oi := { dst := some 114, op := Op.move (Operand.tmp 113), type := 4, pos := "law.go:57", after := #[{ on := 33, ground := Ground.data }, { on := 26, ground := Ground.chain }], guard := none }) (v := ?_) rfl (by kernel_rfl) (by kernel_rfl) (by kernel_rfl) (fun _ _ _ h => h) (Or.inl ⟨by rfl, ?_⟩) (by assumption) ?_
            rotate_left
            · (intro w hSw; (try dsimp only at hSw); go_simp; try with_reducible rfl)
            simp only [Act.put, List.setIfInBounds_toArray, List.set_cons_zero, List.set_cons_succ]
            refine wpAnyH_take (i := 35) (oi := { dst := some 115, op := Op.move (Operand.tmp 8), type := 48, pos := "law.go:57", after := #[{ on := 34, ground := Ground.guard }], guard := some (34, false) }) (v := ?_) rfl (by kernel_rfl) (by kernel_rfl) (by kernel_rfl) (fun _ _ _ h => h) (Or.inl ⟨by rfl, ?_⟩) (by assumption) ?_
            rotate_left
            · (intro w hSw; (try dsimp only at hSw); go_simp; try with_reducible rfl)
            simp only [Act.put, List.setIfInBounds_toArray, List.set_cons_zero, List.set_cons_succ]
            refine wpAnyH_take (i := 36) (oi := { dst := some 116, op := Op.call { callee := Callee.builtin Builtin.len, args := #[Operand.tmp 115], argTypes := #[48] }, type := 3, pos := "law.go:57", after := #[{ on := 35, ground := Ground.data }, { on := 34, ground := Ground.guard }], guard := some (34, false) }) (v := ?_) rfl (by kernel_rfl) (by kernel_rfl) (by kernel_rfl) (fun _ _ _ h => h) (Or.inl ⟨by rfl, ?_⟩) (by assumption) ?_
            rotate_left
            · (intro w hSw; (try dsimp only at hSw); go_simp; try with_reducible rfl)
            simp only [Act.put, List.setIfInBounds_toArray, List.set_cons_zero, List.set_cons_succ]
            refine wpAnyH_take (i := 37) (oi := { dst := some 117, op := Op.move (Operand.tmp 4), type := 41, pos := "law.go:57", after := #[{ on := 34, ground := Ground.guard }], guard := some (34, false) }) (v := ?_) rfl (by kernel_rfl) (by kernel_rfl) (by kernel_rfl) (fun _ _ _ h => h) (Or.inl ⟨by rfl, ?_⟩) (by assumption) ?_
            rotate_left
            · (intro w hSw; (try dsimp only at hSw); go_simp; try with_reducible rfl)
            simp only [Act.put, List.setIfInBounds_toArray, List.set_cons_zero, List.set_cons_succ]
            refine wpAnyH_take (i := 38) (oi := { dst := some 118, op := Op.nilCheck (Operand.tmp 117), type := 0, pos := "law.go:57", after := #[{ on := 37, ground := Ground.data }, { on := 34, ground := Ground.guard }], guard := some (34, false) }) (v := ?_) rfl (by kernel_rfl) (by kernel_rfl) (by kernel_rfl) (fun _ _ _ h => h) (Or.inl ⟨by rfl, ?_⟩) (by assumption) ?_
            rotate_left
            · (intro w hSw; (try dsimp only at hSw); go_simp; try with_reducible rfl)
            simp only [Act.put, List.setIfInBounds_toArray, List.set_cons_zero, List.set_cons_succ]
            refine wpAnyH_take (i := 39) (oi := { dst := some 119, op := Op.fieldAddr 44 (Operand.tmp 118) 0, type := 0, pos := "law.go:57", after := #[{ on := 38, ground := Ground.data }, { on := 34, ground := Ground.guard }], guard := some (34, false) }) (v := ?_) rfl (by kernel_rfl) (by kernel_rfl) (by kernel_rfl) (fun _ _ _ h => h) (Or.inl ⟨by rfl, ?_⟩) (by assumption) ?_
            rotate_left
            · (intro w hSw; (try dsimp only at hSw); go_simp; try with_reducible rfl)
            simp only [Act.put, List.setIfInBounds_toArray, List.set_cons_zero, List.set_cons_succ]
            refine wpAnyH_take (i := 40) (oi := { dst := some 120, op := Op.load 42 (Operand.tmp 119), type := 42, pos := "law.go:57", after := #[{ on := 39, ground := Ground.data }, { on := 34, ground := Ground.guard }], guard := some (34, false) }) (v := ?_) rfl (by kernel_rfl) (by kernel_rfl) (by kernel_rfl) (fun _ _ _ h => h) (Or.inl ⟨by rfl, ?_⟩) (by assumption) ?_
            rotate_left
            · (intro w hSw; (try dsimp only at hSw); go_simp; try with_reducible rfl)
            simp only [Act.put, List.setIfInBounds_toArray, List.set_cons_zero, List.set_cons_succ]
            refine wpAnyH_take (i := 41) (oi := { dst := some 121, op := Op.call { callee := Callee.builtin Builtin.len, args := #[Operand.tmp 120], argTypes := #[42] }, type := 3, pos := "law.go:57", after := #[{ on := 40, ground := Ground.data }, { on := 34, ground := Ground.guard }], guard := some (34, false) }) (v := ?_) rfl (by kernel_rfl) (by kernel_rfl) (by kernel_rfl) (fun _ _ _ h => h) (Or.inl ⟨by rfl, ?_⟩) (by assumption) ?_
            rotate_left
            · (intro w hSw; (try dsimp only at hSw); go_simp; try with_reducible rfl)
            simp only [Act.put, List.setIfInBounds_toArray, List.set_cons_zero, List.set_cons_succ]
            refine wpAnyH_take (i := 42) (oi := { dst := some 122, op := Op.binOp BinOp.neq 3 (Operand.tmp 116) (Operand.tmp 121) 3, type := 4, pos := "law.go:57", after := #[{ on := 36, ground := Ground.data }, { on := 41, ground := Ground.data }, { on := 34, ground := Ground.guard }], guard := some (34, false) }) (v := ?_) rfl (by kernel_rfl) (by kernel_rfl) (by kernel_rfl) (fun _ _ _ h => h) (Or.inl ⟨by rfl, ?_⟩) (by assumption) ?_
            rotate_left
            · (intro w hSw; (try dsimp only at hSw); go_simp; try with_reducible rfl)
            simp only [Act.put, List.setIfInBounds_toArray, List.set_cons_zero, List.set_cons_succ]
            refine wpAnyH_take (i := 43) (oi := { dst := some 123, op := Op.pick (Operand.tmp 114) (Operand.const (Value.bool true)) (Operand.tmp 122), type := 4, pos := "law.go:57", after := #[{ on := 34, ground := Ground.data }, { on := 42, ground := Ground.data }], guard := none }) (v := ?_) rfl (by kernel_rfl) (by kernel_rfl) (by kernel_rfl) (fun _ _ _ h => h) (Or.inl ⟨by rfl, ?_⟩) (by assumption) ?_
            rotate_left
            · (intro w hSw; (try dsimp only at hSw); go_simp; try with_reducible rfl)
            simp only [Act.put, List.setIfInBounds_toArray, List.set_cons_zero, List.set_cons_succ]
            refine wpAnyH_done (by kernel_rfl) ?_ _
            clear al LN CH KC
            go_wp2_with fail
            go_meet
            exact ⟨rfl, x4⟩
        case rest =>
          obtain ⟨rfl, x6⟩ := hcut
          rename World => wq
          have CW : Aside (wq.heap[S + 1]? = some (.cells #[.slice a n cap] 44 (0, 0))) := (x6.block _ (lt_of_block CV.out)).trans CV.out
          have RQ : Aside (RefB wq S a bs) := RV.out.below x6
          have VQ : Aside (LevIs wq G ks) := VV.out.below x6
          have BQ : Aside (Both w S ks ks wq) := BV.out.on x6
          have szq : S + 1 < wq.heap.size := lt_of_block CW.out
          clear CV RV X9 LV VV FX BV x6
          go_wp2_with fail
          go_loopg [11] (n + 1) (fun kx s11 wz => ∃ (k : Nat), s11 = .int .i64 k ∧ k ≤ n ∧ n + 1 - k ≤ kx ∧ Aside (Below wq.heap.size wq wz))
          case atStart => exact ⟨0, rfl, by omega, by omega, Below.refl _ _⟩
          case round =>
            obtain ⟨k, rfl, hk, hkx, D⟩ := hrel
            rename World => wz
            have swz : wq.heap.size ≤ wz.heap.size := D.out.size
            by_cases hkn : k < n
            · have hy : (k : Int) < (n : Int) := by omega
              have hkk : k < ks.length := by rw [HLN.out]; exact hkn
              have hkb : k < bs.length := by rw [HN.out]; exact hkn
              obtain ⟨g, off, ha, hg, c0, _⟩ := RQ.out.cell hkb
              obtain ⟨l0, hgG⟩ := VQ.out.at hkk
              have ex : bs[k].d = ks[k] := by
                have : (bs.map Bk.d)[k]? = ks[k]? := by rw [HBS.out]
                rw [List.getElem?_map, List.getElem?_eq_getElem hkb, List.getElem?_eq_getElem hkk] at this
                simpa using this
              rw [ex] at c0
              obtain ⟨M, hM⟩ : ∃ m, lv ks[k] = m := ⟨_, rfl⟩
              rw [hM] at c0 l0
              have y1 : ∀ q, (wz.drewN q).cell? ⟨S + 1, 0, none⟩ = some (.slice a n cap) := fun q => lsm_cell ((D.out.block _ (lt_of_block CW.out)).trans CW.out)
              have y2 : ∀ q, (wz.drewN q).cell? ⟨g, off + k * 2, none⟩ = some (.int .i64 M) := fun q => (D.out.cell (p := ⟨g, off + k * 2, none⟩) hg).trans c0
              have y3 : ∀ q, (wz.drewN q).cell? ⟨G, k, none⟩ = some (.int .i64 M) := fun q => (D.out.cell (p := ⟨G, k, none⟩) hgG).trans l0
              clear ex hM c0 l0
              subst ha
              go_wp2_with fail
              go_quiet (fail)
              have D2 : Aside (Below wq.heap.size wq (wz.drewN nq)) := D.out.trans (Below.mono (Grown.below ⟨nq, #[], by rw [grow_empty]⟩) swz)
              go_wp2
              go_roundg (n + 1 - (k + 1))
              case measure => omega
              case rel => exact ⟨k + 1, by go_num, by omega, Nat.le_refl _, D2⟩
            · have hy : ¬ (k : Int) < (n : Int) := by omega
              have BN : Aside (Both w S ks ks wz) := BQ.out.on D.out
              go_wp2
              go_roundg (81 - (i + 1))
              case measure => omega
              case rel => exact ⟨i + 1, ks, by go_num, by omega, by omega, Nat.le_refl _, HE1, BN⟩
    · have hz : ¬ ((i : Int) < (len0 : Int) ∧ (i : Int) < 80) := by omega
      have aw := lawake_any wr
      have D : Aside (Below S w wr) := BO.out.d
      by_cases q1 : i < len0
      · have q2 : (i : Int) < (len0 : Int) := by omega
        have q3 : ¬ (i : Int) < 80 := by omega
        go_wp2_with fail
        refine aw.mono ?_
        rintro r w9 ⟨rfl, d9⟩
        have FIN : Aside (Below w.heap.size w w9) := by rw [HS.out]; exact D.out.trans (d9.mono (by omega))
        clear aw
        go_wp2
        go_ret
        exact ⟨rfl, FIN.out⟩
      · have q2 : ¬ (i : Int) < (len0 : Int) := by omega
        go_wp2_with fail
        refine aw.mono ?_
        rintro r w9 ⟨rfl, d9⟩
        have FIN : Aside (Below w.heap.size w w9) := by rw [HS.out]; exact D.out.trans (d9.mono (by omega))
        clear aw
        go_wp2
        go_ret
        exact ⟨rfl, FIN.out⟩
end Go.Proofs.Ytchephglapnloaa
