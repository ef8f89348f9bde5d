/- The document's Put. -/
import Derived.Test.YtchephglapnloaaLsmV
namespace Go.Proofs.Ytchephglapnloaa
open Go.RowKit Go.Lib Go.Sort
set_option linter.unusedVariables false
set_option maxHeartbeats 4000000 in
set_option maxRecDepth 100000 in
theorem rput_any (B base : Nat) (ls : List (List Ent)) (e : Ent) (w : World) (h : RLsm w base B ls) (hf : Fall ls) (hlen : ls.length < 1000) (hsum : ls.flatten.length < 5000) (hbase : base ≤ w.heap.size) :
    Calls Try.prog 18 #[.pointer (some ⟨B, 0, none⟩), .agg #[.int .u64 e.1, .int .i64 e.2]] w fun r w' => r = .returned (.tuple #[]) ∧ RTurned w base B (putL ls e) w' := by
  obtain ⟨a, cap, bs, hbs, hB, hcell, hcap, hmax, rb⟩ := h
  obtain ⟨S, hS⟩ : ∃ S, w.heap.size = S := ⟨_, rfl⟩
  obtain ⟨n, hn⟩ : ∃ n, bs.length = n := ⟨_, rfl⟩
  obtain ⟨M, hM⟩ : ∃ n, lv [e] = n := ⟨_, rfl⟩
  have hln : ls.length = n := by rw [← hbs, List.length_map, hn]
  have HN : Hid _ := hn
  have HLN : Hid _ := hln
  have HM : Hid _ := hM
  have HBS : Hid (bs.map Bk.d = ls) := hbs
  have HF : Aside (Fall ls) := hf
  rw [hn] at hcell hcap
  obtain ⟨u, hu⟩ : ∃ u, w.alloc (.cells #[.int .u64 e.1, .int .i64 e.2] 28) = u := ⟨_, rfl⟩
  have HU : Hid _ := hu
  have bu : Below w.heap.size w u := by rw [← hu]; exact bel_alloc _ _
  have BU : Aside (Below w.heap.size w u) := bu
  have XS : Aside (u.heap[S]? = some (.cells #[.int .u64 e.1, .int .i64 e.2] 28 (0, 0))) := by rw [← hu, ← hS]; exact heap_alloc_new w _
  have CU : Aside (u.heap[B]? = some (.cells #[.slice a n cap] 44 (0, 0))) := (bu.block B (lt_of_block hcell)).trans hcell
  have RU : Aside (RefB u base a bs) := rb.below bu
  have BS : B < S := by rw [← hS]; exact lt_of_block hcell
  unfold maxLen at hmax
  have n63 : n ≤ 1000 := by omega
  have BZ : base ≤ u.heap.size := Nat.le_trans hbase bu.size
  have KC : Aside (∀ v, Below u.heap.size u v → v.cell? ⟨B, 0, none⟩ = some (.slice a n cap) ∧ v.cell? ⟨S, 0, none⟩ = some (.int .u64 e.1) ∧ v.cell? ⟨S, 1, none⟩ = some (.int .i64 e.2)) := fun v hv => ⟨lsm_cell ((hv.block B (lt_of_block CU.out)).trans CU.out), box0 ((hv.block S (lt_of_block XS.out)).trans XS.out), box1 ((hv.block S (lt_of_block XS.out)).trans XS.out)⟩
  clear hu bu hcell rb hbs hn hln hM hf
  go_enter Try.func18, Try.ntmps18
  go_upto_region 1 with fail
  rw [HU.out]
  clear hS
  obtain ⟨Z, hZ⟩ : ∃ Z, u.heap.size = Z := ⟨_, rfl⟩
  have q0 : Below u.heap.size u u.drew := bel_D _
  have mx := mixed
  refine anyE_start (S := fun v => v.cell? ⟨B, 0, none⟩ = some (.slice a n cap) ∧ v.cell? ⟨S, 0, none⟩ = some (.int .u64 e.1) ∧ v.cell? ⟨S, 1, none⟩ = some (.int .i64 e.2)) (L := 14) (by kernel_rfl) ?_
  refine anyE_take (i := 0) (oi := { dst := some 4, op := Op.move (Operand.tmp 0), type := 41, pos := "vergerref5.go:187", after := #[], guard := none }) (v := ?_) rfl (by kernel_rfl) (by kernel_rfl) (by kernel_rfl) (by kernel_rfl) (fun _ _ _ h => h) (Or.inl ⟨by rfl, ?_⟩) (KC.out _ q0) ?_
  rotate_left
  · (intro w hSw; (try dsimp only at hSw); go_simp; try with_reducible rfl)
  simp only [Act.put, List.setIfInBounds_toArray, List.set_cons_zero, List.set_cons_succ]
  refine anyE_take (i := 2) (oi := { dst := some 6, op := Op.move (Operand.tmp 0), type := 41, pos := "vergerref5.go:187", after := #[], guard := none }) (v := ?_) rfl (by kernel_rfl) (by kernel_rfl) (by kernel_rfl) (by kernel_rfl) (fun _ _ _ h => h) (Or.inl ⟨by rfl, ?_⟩) (KC.out _ q0) ?_
  rotate_left
  · (intro w hSw; (try dsimp only at hSw); go_simp; try with_reducible rfl)
  simp only [Act.put, List.setIfInBounds_toArray, List.set_cons_zero, List.set_cons_succ]
  refine anyE_take (i := 3) (oi := { dst := some 7, op := Op.nilCheck (Operand.tmp 6), type := 0, pos := "vergerref5.go:187", after := #[{ on := 2, ground := Ground.data }], guard := none }) (v := ?_) rfl (by kernel_rfl) (by kernel_rfl) (by kernel_rfl) (by kernel_rfl) (fun _ _ _ h => h) (Or.inl ⟨by rfl, ?_⟩) (KC.out _ q0) ?_
  rotate_left
  · (intro w hSw; (try dsimp only at hSw); go_simp; try with_reducible rfl)
  simp only [Act.put, List.setIfInBounds_toArray, List.set_cons_zero, List.set_cons_succ]
  refine anyE_take (i := 4) (oi := { dst := some 8, op := Op.fieldAddr 44 (Operand.tmp 7) 0, type := 0, pos := "vergerref5.go:187", after := #[{ on := 3, ground := Ground.data }], guard := none }) (v := ?_) rfl (by kernel_rfl) (by kernel_rfl) (by kernel_rfl) (by kernel_rfl) (fun _ _ _ h => h) (Or.inl ⟨by rfl, ?_⟩) (KC.out _ q0) ?_
  rotate_left
  · (intro w hSw; (try dsimp only at hSw); go_simp; try with_reducible rfl)
  simp only [Act.put, List.setIfInBounds_toArray, List.set_cons_zero, List.set_cons_succ]
  refine anyE_take (i := 5) (oi := { dst := some 9, op := Op.load 42 (Operand.tmp 8), type := 42, pos := "vergerref5.go:187", after := #[{ on := 4, ground := Ground.data }], guard := none }) (v := ?_) rfl (by kernel_rfl) (by kernel_rfl) (by kernel_rfl) (by kernel_rfl) (fun _ _ _ h => h) (Or.inl ⟨by rfl, ?_⟩) (KC.out _ q0) ?_
  rotate_left
  · (intro w hSw; (try dsimp only at hSw); go_simp; try with_reducible rfl)
  simp only [Act.put, List.setIfInBounds_toArray, List.set_cons_zero, List.set_cons_succ]
  refine anyE_take (i := 7) (oi := { dst := some 11, op := Op.load 28 (Operand.tmp 3), type := 28, pos := "vergerref5.go:187", after := #[], guard := none }) (v := ?_) rfl (by kernel_rfl) (by kernel_rfl) (by kernel_rfl) (by kernel_rfl) (fun _ _ _ h => h) (Or.inl ⟨by rfl, ?_⟩) (KC.out _ q0) ?_
  rotate_left
  · (intro w hSw; (try dsimp only at hSw); go_simp; try with_reducible rfl)
  simp only [Act.put, List.setIfInBounds_toArray, List.set_cons_zero, List.set_cons_succ]
  refine anyE_ready (rs := [1, 8]) (by kernel_rfl) (by simp) ?_
  refine AllE.cons (o := { dst := some 5, op := Op.buildSlice 42 0 #[], type := 42, pos := "vergerref5.go:187", after := #[], guard := none }) rfl (fun Kt hKt => ?_) ?_
  · have x0 : Below u.heap.size u (u.alloc (.cells #[] 53)).drew := (bel_alloc _ _).drew
    go_simp
    refine hKt.out _ _ (fun _ => KC.out _ x0) ?_
    clear hKt Kt
    try simp only [Act.put, List.setIfInBounds_toArray, List.set_cons_zero, List.set_cons_succ]
    refine anyE_ready (rs := [6, 8]) (by kernel_rfl) (by simp) ?_
    refine AllE.cons (o := { dst := some 10, op := Op.call { callee := Callee.builtin Builtin.append, args := #[Operand.tmp 5, Operand.tmp 9], argTypes := #[42, 42] }, type := 42, pos := "vergerref5.go:187", after := #[{ on := 1, ground := Ground.data }, { on := 5, ground := Ground.data }], guard := none }) rfl (fun Kt hKt => ?_) ?_
    · obtain ⟨r1, t1, w1, h1, o1, b1, _, _⟩ := push0 (g := Z) (cap := cap) ((RU.out.reads HN.out).below x0) (by omega)
      have x1 : Below u.heap.size u w1 := x0.trans (b1.mono x0.size)
      have v0 : u.heap.size ≤ ((u.alloc (.cells #[] 53)).drew).heap.size := x0.size
      have v1 : ((u.alloc (.cells #[] 53)).drew).heap.size ≤ w1.heap.size := b1.size
      obtain ⟨Y1, hY1⟩ : ∃ Y, w1.heap.size = Y := ⟨_, rfl⟩
      refine step_app ((u.alloc (.cells #[] 53)).drew) (by rfl) _ _ 42 42 (by rfl) (.slice (some ⟨Z, 0, none⟩) 0 0) (.slice a n cap) (by rfl) (by rfl) (.slice r1 n t1) w1 h1 ?_
      refine hKt.out _ _ (fun _ => KC.out _ x1) ?_
      clear hKt Kt
      try simp only [Act.put, List.setIfInBounds_toArray, List.set_cons_zero, List.set_cons_succ]
      refine anyE_ready (rs := [8]) (by kernel_rfl) (by simp) ?_
      refine AllE.cons (o := { dst := some 12, op := Op.buildSlice 29 1 #[(0, Operand.tmp 11)], type := 29, pos := "vergerref5.go:187", after := #[{ on := 7, ground := Ground.data }], guard := none }) rfl (fun Kt hKt => ?_) ?_
      · have x8 : Below u.heap.size u (w1.alloc (.cells #[.int .u64 e.1, .int .i64 e.2] 28)) := x1.trans ((bel_alloc _ _).mono x1.size)
        have le : IsL (w1.alloc (.cells #[.int .u64 e.1, .int .i64 e.2] 28)) (some ⟨Y1, 0, none⟩) 1 [e] := by rw [← hY1]; exact IsL.one w1 e
        have o1 := o1.below (bel_alloc _ (.cells #[.int .u64 e.1, .int .i64 e.2] 28))
        have v1 := Nat.le_trans v1 (bel_alloc w1 (.cells #[.int .u64 e.1, .int .i64 e.2] 28)).size
        go_simp
        refine hKt.out _ _ (fun _ => KC.out _ x8) ?_
        clear hKt Kt
        try simp only [Act.put, List.setIfInBounds_toArray, List.set_cons_zero, List.set_cons_succ]
        refine anyE_ready (rs := [9]) (by kernel_rfl) (by simp) ?_
        refine AllE.cons (o := { dst := some 13, op := Op.call { callee := Callee.value (Operand.func 34), args := #[Operand.tmp 12], argTypes := #[29] }, type := 53, pos := "vergerref5.go:187", after := #[{ on := 8, ground := Ground.data }, { on := 6, ground := Ground.chain }], guard := none }) rfl (fun Kt hKt => ?_) ?_
        · go_simp
          (with_reducible refine Calls.mono (refOfO (w := (w1.alloc (.cells #[.int .u64 e.1, .int .i64 e.2] 28))) (n := 1) (d := [e]) le rfl (by omega) (List.perm_singleton.1 (sortE_perm [e])) HM.out) ?_)
          rintro r w3 ⟨pa, pc, rfl, o3, b3⟩
          have x3 : Below u.heap.size u w3 := x8.trans (b3.mono x8.size)
          have o1 := o1.below b3
          have v1 := Nat.le_trans v1 b3.size
          have o3 := o3.low (Nat.le_trans BZ x8.size)
          obtain ⟨Y3, hY3⟩ : ∃ Y, w3.heap.size = Y := ⟨_, rfl⟩
          go_wp2_with fail
          refine hKt.out _ _ (fun _ => KC.out _ x3) ?_
          clear hKt Kt
          try simp only [Act.put, List.setIfInBounds_toArray, List.set_cons_zero, List.set_cons_succ]
          refine anyE_ready (rs := [10]) (by kernel_rfl) (by simp) ?_
          refine AllE.cons (o := { dst := some 14, op := Op.buildSlice 42 1 #[(0, Operand.tmp 13)], type := 42, pos := "vergerref5.go:187", after := #[{ on := 9, ground := Ground.data }], guard := none }) rfl (fun Kt hKt => ?_) ?_
          · have x10 : Below u.heap.size u (w3.alloc (.cells #[.int .i64 M, .slice pa 1 pc] 53)) := x3.trans ((bel_alloc _ _).mono x3.size)
            go_simp
            refine hKt.out _ _ (fun _ => KC.out _ x10) ?_
            clear hKt Kt
            try simp only [Act.put, List.setIfInBounds_toArray, List.set_cons_zero, List.set_cons_succ]
            refine anyE_ready (rs := [11]) (by kernel_rfl) (by simp) ?_
            refine AllE.cons (o := { dst := some 15, op := Op.call { callee := Callee.builtin Builtin.append, args := #[Operand.tmp 10, Operand.tmp 14], argTypes := #[42, 42] }, type := 42, pos := "vergerref5.go:187", after := #[{ on := 6, ground := Ground.data }, { on := 10, ground := Ground.data }, { on := 9, ground := Ground.chain }], guard := none }) rfl (fun Kt hKt => ?_) ?_
            · obtain ⟨r5, t5, w5, h5, x5, c5, tt⟩ := radd_chain (G := Y3) x10 v0 (Nat.le_trans v1 (bel_alloc w3 (.cells #[.int .i64 M, .slice pa 1 pc] 53)).size) CU.out hB BZ RU.out HN.out (o3.below (bel_alloc _ _)) rfl HM.out (o1.below (bel_alloc _ _)) (row_alloc hY3 _ _) (by omega)
              have f1 := lsm_cell c5
              have f2 := lsm_fro c5
              have TT : Aside (RTurned u base B (ls ++ [[e]]) (w5.setCell ⟨B, 0, none⟩ (.slice r5 (n + 1) t5))) := by have := tt; rw [HBS.out] at this; exact this
              clear tt c5
              refine step_app (w3.alloc (.cells #[.int .i64 M, .slice pa 1 pc] 53)) (by rfl) _ _ 42 42 (by rfl) (.slice r1 n t1) (.slice (some ⟨Y3, 0, none⟩) 1 1) (by rfl) (by rfl) (.slice r5 (n + 1) t5) w5 h5 ?_
              refine hKt.out _ _ (fun _ => KC.out _ x5) ?_
              clear hKt Kt
              try simp only [Act.put, List.setIfInBounds_toArray, List.set_cons_zero, List.set_cons_succ]
              refine anyE_ready (rs := [12]) (by kernel_rfl) (by simp) ?_
              refine AllE.cons (o := { dst := some 16, op := Op.nilCheck (Operand.tmp 4), type := 0, pos := "vergerref5.go:187", after := #[{ on := 0, ground := Ground.data }, { on := 0, ground := Ground.phase }, { on := 1, ground := Ground.phase }, { on := 2, ground := Ground.phase }, { on := 3, ground := Ground.phase }, { on := 4, ground := Ground.phase }, { on := 5, ground := Ground.phase }, { on := 6, ground := Ground.phase }, { on := 7, ground := Ground.phase }, { on := 8, ground := Ground.phase }, { on := 9, ground := Ground.phase }, { on := 10, ground := Ground.phase }, { on := 11, ground := Ground.phase }], guard := none }) rfl (fun Kt hKt => ?_) ?_
              · go_simp
                refine hKt.out _ _ (fun _ => KC.out _ x5) ?_
                clear hKt Kt
                try simp only [Act.put, List.setIfInBounds_toArray, List.set_cons_zero, List.set_cons_succ]
                refine anyE_ready (rs := [13]) (by kernel_rfl) (by simp) ?_
                refine AllE.cons (o := { dst := some 17, op := Op.fieldAddr 44 (Operand.tmp 16) 0, type := 0, pos := "vergerref5.go:187", after := #[{ on := 12, ground := Ground.data }, { on := 0, ground := Ground.phase }, { on := 1, ground := Ground.phase }, { on := 2, ground := Ground.phase }, { on := 3, ground := Ground.phase }, { on := 4, ground := Ground.phase }, { on := 5, ground := Ground.phase }, { on := 6, ground := Ground.phase }, { on := 7, ground := Ground.phase }, { on := 8, ground := Ground.phase }, { on := 9, ground := Ground.phase }, { on := 10, ground := Ground.phase }, { on := 11, ground := Ground.phase }], guard := none }) rfl (fun Kt hKt => ?_) ?_
                · go_simp
                  refine hKt.out _ _ (fun _ => KC.out _ x5) ?_
                  clear hKt Kt
                  try simp only [Act.put, List.setIfInBounds_toArray, List.set_cons_zero, List.set_cons_succ]
                  refine anyE_ready (rs := [14]) (by kernel_rfl) (by simp) ?_
                  refine AllE.cons (o := { dst := none, op := Op.store 42 (Operand.tmp 17) (Operand.tmp 15), type := 0, pos := "vergerref5.go:187", after := #[{ on := 13, ground := Ground.data }, { on := 11, ground := Ground.data }, { on := 11, ground := Ground.chain }, { on := 0, ground := Ground.phase }, { on := 1, ground := Ground.phase }, { on := 2, ground := Ground.phase }, { on := 3, ground := Ground.phase }, { on := 4, ground := Ground.phase }, { on := 5, ground := Ground.phase }, { on := 6, ground := Ground.phase }, { on := 7, ground := Ground.phase }, { on := 8, ground := Ground.phase }, { on := 9, ground := Ground.phase }, { on := 10, ground := Ground.phase }, { on := 11, ground := Ground.phase }], guard := none }) rfl (fun Kt hKt => ?_) ?_
                  · go_simp
                    refine hKt.out _ _ (fun h => absurd rfl h) ?_
                    clear hKt Kt
                    try simp only [Act.put, List.setIfInBounds_toArray, List.set_cons_zero, List.set_cons_succ]
                    refine anyE_done (by kernel_rfl) ?_ _
                    have st := rsettle_any B base (ls ++ [[e]]) (putL ls e) (w5.setCell ⟨B, 0, none⟩ (.slice r5 (n + 1) t5)) TT.out.1 (sett_put HF.out e) (by simp; omega) (by rw [List.flatten_append, List.length_append]; exact (show ls.flatten.length + 1 ≤ 5000 by omega)) (Nat.le_trans BZ TT.out.2.size)
                    go_wp2_with fail
                    (with_reducible refine Calls.mono st ?_)
                    rintro r w9 ⟨rfl, t9⟩
                    have T9 : Aside (RTurned w base B (putL ls e) w9) := ⟨t9.1, grownBy_trans (grownBy_below BU.out) (grownBy_trans TT.out.2 t9.2)⟩
                    clear st t9 h1 h5
                    go_wp2
                    go_end0
                    exact ⟨rfl, T9.out⟩
                  exact AllE.nil
                exact AllE.nil
              exact AllE.nil
            exact AllE.nil
          exact AllE.nil
        exact AllE.nil
      exact AllE.nil
    refine AllE.cons (o := { dst := some 12, op := Op.buildSlice 29 1 #[(0, Operand.tmp 11)], type := 29, pos := "vergerref5.go:187", after := #[{ on := 7, ground := Ground.data }], guard := none }) rfl (fun Kt hKt => ?_) ?_
    · have x8 : Below u.heap.size u ((u.alloc (.cells #[] 53)).alloc (.cells #[.int .u64 e.1, .int .i64 e.2] 28)).drew := ((bel_alloc u _).alloc (by simp) _).drew
      have le : IsL ((u.alloc (.cells #[] 53)).alloc (.cells #[.int .u64 e.1, .int .i64 e.2] 28)).drew (some ⟨Z + 1, 0, none⟩) 1 [e] := by have h := (IsL.one (u.alloc (.cells #[] 53)) e).below (bel_D _); rw [show (u.alloc (.cells #[] 53)).heap.size = Z + 1 by simp [hZ]] at h; exact h
      go_simp
      refine hKt.out _ _ (fun _ => KC.out _ x8) ?_
      clear hKt Kt
      try simp only [Act.put, List.setIfInBounds_toArray, List.set_cons_zero, List.set_cons_succ]
      refine anyE_ready (rs := [6]) (by kernel_rfl) (by simp) ?_
      refine AllE.cons (o := { dst := some 10, op := Op.call { callee := Callee.builtin Builtin.append, args := #[Operand.tmp 5, Operand.tmp 9], argTypes := #[42, 42] }, type := 42, pos := "vergerref5.go:187", after := #[{ on := 1, ground := Ground.data }, { on := 5, ground := Ground.data }], guard := none }) rfl (fun Kt hKt => ?_) ?_
      · obtain ⟨r1, t1, w1, h1, o1, b1, _, _⟩ := push0 (g := Z) (cap := cap) ((RU.out.reads HN.out).below x8) (by omega)
        have x1 : Below u.heap.size u w1 := x8.trans (b1.mono x8.size)
        have v0 : u.heap.size ≤ (((u.alloc (.cells #[] 53)).alloc (.cells #[.int .u64 e.1, .int .i64 e.2] 28)).drew).heap.size := x8.size
        have v1 : (((u.alloc (.cells #[] 53)).alloc (.cells #[.int .u64 e.1, .int .i64 e.2] 28)).drew).heap.size ≤ w1.heap.size := b1.size
        have le := le.below b1
        obtain ⟨Y1, hY1⟩ : ∃ Y, w1.heap.size = Y := ⟨_, rfl⟩
        refine step_app (((u.alloc (.cells #[] 53)).alloc (.cells #[.int .u64 e.1, .int .i64 e.2] 28)).drew) (by rfl) _ _ 42 42 (by rfl) (.slice (some ⟨Z, 0, none⟩) 0 0) (.slice a n cap) (by rfl) (by rfl) (.slice r1 n t1) w1 h1 ?_
        refine hKt.out _ _ (fun _ => KC.out _ x1) ?_
        clear hKt Kt
        try simp only [Act.put, List.setIfInBounds_toArray, List.set_cons_zero, List.set_cons_succ]
        refine anyE_ready (rs := [9]) (by kernel_rfl) (by simp) ?_
        refine AllE.cons (o := { dst := some 13, op := Op.call { callee := Callee.value (Operand.func 34), args := #[Operand.tmp 12], argTypes := #[29] }, type := 53, pos := "vergerref5.go:187", after := #[{ on := 8, ground := Ground.data }, { on := 6, ground := Ground.chain }], guard := none }) rfl (fun Kt hKt => ?_) ?_
        · go_simp
          (with_reducible refine Calls.mono (refOfO (w := w1) (n := 1) (d := [e]) le rfl (by omega) (List.perm_singleton.1 (sortE_perm [e])) HM.out) ?_)
          rintro r w3 ⟨pa, pc, rfl, o3, b3⟩
          have x3 : Below u.heap.size u w3 := x1.trans (b3.mono x1.size)
          have o1 := o1.below b3
          have v1 := Nat.le_trans v1 b3.size
          have o3 := o3.low (Nat.le_trans BZ x1.size)
          obtain ⟨Y3, hY3⟩ : ∃ Y, w3.heap.size = Y := ⟨_, rfl⟩
          go_wp2_with fail
          refine hKt.out _ _ (fun _ => KC.out _ x3) ?_
          clear hKt Kt
          try simp only [Act.put, List.setIfInBounds_toArray, List.set_cons_zero, List.set_cons_succ]
          refine anyE_ready (rs := [10]) (by kernel_rfl) (by simp) ?_
          refine AllE.cons (o := { dst := some 14, op := Op.buildSlice 42 1 #[(0, Operand.tmp 13)], type := 42, pos := "vergerref5.go:187", after := #[{ on := 9, ground := Ground.data }], guard := none }) rfl (fun Kt hKt => ?_) ?_
          · have x10 : Below u.heap.size u (w3.alloc (.cells #[.int .i64 M, .slice pa 1 pc] 53)) := x3.trans ((bel_alloc _ _).mono x3.size)
            go_simp
            refine hKt.out _ _ (fun _ => KC.out _ x10) ?_
            clear hKt Kt
            try simp only [Act.put, List.setIfInBounds_toArray, List.set_cons_zero, List.set_cons_succ]
            refine anyE_ready (rs := [11]) (by kernel_rfl) (by simp) ?_
            refine AllE.cons (o := { dst := some 15, op := Op.call { callee := Callee.builtin Builtin.append, args := #[Operand.tmp 10, Operand.tmp 14], argTypes := #[42, 42] }, type := 42, pos := "vergerref5.go:187", after := #[{ on := 6, ground := Ground.data }, { on := 10, ground := Ground.data }, { on := 9, ground := Ground.chain }], guard := none }) rfl (fun Kt hKt => ?_) ?_
            · obtain ⟨r5, t5, w5, h5, x5, c5, tt⟩ := radd_chain (G := Y3) x10 v0 (Nat.le_trans v1 (bel_alloc w3 (.cells #[.int .i64 M, .slice pa 1 pc] 53)).size) CU.out hB BZ RU.out HN.out (o3.below (bel_alloc _ _)) rfl HM.out (o1.below (bel_alloc _ _)) (row_alloc hY3 _ _) (by omega)
              have f1 := lsm_cell c5
              have f2 := lsm_fro c5
              have TT : Aside (RTurned u base B (ls ++ [[e]]) (w5.setCell ⟨B, 0, none⟩ (.slice r5 (n + 1) t5))) := by have := tt; rw [HBS.out] at this; exact this
              clear tt c5
              refine step_app (w3.alloc (.cells #[.int .i64 M, .slice pa 1 pc] 53)) (by rfl) _ _ 42 42 (by rfl) (.slice r1 n t1) (.slice (some ⟨Y3, 0, none⟩) 1 1) (by rfl) (by rfl) (.slice r5 (n + 1) t5) w5 h5 ?_
              refine hKt.out _ _ (fun _ => KC.out _ x5) ?_
              clear hKt Kt
              try simp only [Act.put, List.setIfInBounds_toArray, List.set_cons_zero, List.set_cons_succ]
              refine anyE_ready (rs := [12]) (by kernel_rfl) (by simp) ?_
              refine AllE.cons (o := { dst := some 16, op := Op.nilCheck (Operand.tmp 4), type := 0, pos := "vergerref5.go:187", after := #[{ on := 0, ground := Ground.data }, { on := 0, ground := Ground.phase }, { on := 1, ground := Ground.phase }, { on := 2, ground := Ground.phase }, { on := 3, ground := Ground.phase }, { on := 4, ground := Ground.phase }, { on := 5, ground := Ground.phase }, { on := 6, ground := Ground.phase }, { on := 7, ground := Ground.phase }, { on := 8, ground := Ground.phase }, { on := 9, ground := Ground.phase }, { on := 10, ground := Ground.phase }, { on := 11, ground := Ground.phase }], guard := none }) rfl (fun Kt hKt => ?_) ?_
              · go_simp
                refine hKt.out _ _ (fun _ => KC.out _ x5) ?_
                clear hKt Kt
                try simp only [Act.put, List.setIfInBounds_toArray, List.set_cons_zero, List.set_cons_succ]
                refine anyE_ready (rs := [13]) (by kernel_rfl) (by simp) ?_
                refine AllE.cons (o := { dst := some 17, op := Op.fieldAddr 44 (Operand.tmp 16) 0, type := 0, pos := "vergerref5.go:187", after := #[{ on := 12, ground := Ground.data }, { on := 0, ground := Ground.phase }, { on := 1, ground := Ground.phase }, { on := 2, ground := Ground.phase }, { on := 3, ground := Ground.phase }, { on := 4, ground := Ground.phase }, { on := 5, ground := Ground.phase }, { on := 6, ground := Ground.phase }, { on := 7, ground := Ground.phase }, { on := 8, ground := Ground.phase }, { on := 9, ground := Ground.phase }, { on := 10, ground := Ground.phase }, { on := 11, ground := Ground.phase }], guard := none }) rfl (fun Kt hKt => ?_) ?_
                · go_simp
                  refine hKt.out _ _ (fun _ => KC.out _ x5) ?_
                  clear hKt Kt
                  try simp only [Act.put, List.setIfInBounds_toArray, List.set_cons_zero, List.set_cons_succ]
                  refine anyE_ready (rs := [14]) (by kernel_rfl) (by simp) ?_
                  refine AllE.cons (o := { dst := none, op := Op.store 42 (Operand.tmp 17) (Operand.tmp 15), type := 0, pos := "vergerref5.go:187", after := #[{ on := 13, ground := Ground.data }, { on := 11, ground := Ground.data }, { on := 11, ground := Ground.chain }, { on := 0, ground := Ground.phase }, { on := 1, ground := Ground.phase }, { on := 2, ground := Ground.phase }, { on := 3, ground := Ground.phase }, { on := 4, ground := Ground.phase }, { on := 5, ground := Ground.phase }, { on := 6, ground := Ground.phase }, { on := 7, ground := Ground.phase }, { on := 8, ground := Ground.phase }, { on := 9, ground := Ground.phase }, { on := 10, ground := Ground.phase }, { on := 11, ground := Ground.phase }], guard := none }) rfl (fun Kt hKt => ?_) ?_
                  · go_simp
                    refine hKt.out _ _ (fun h => absurd rfl h) ?_
                    clear hKt Kt
                    try simp only [Act.put, List.setIfInBounds_toArray, List.set_cons_zero, List.set_cons_succ]
                    refine anyE_done (by kernel_rfl) ?_ _
                    have st := rsettle_any B base (ls ++ [[e]]) (putL ls e) (w5.setCell ⟨B, 0, none⟩ (.slice r5 (n + 1) t5)) TT.out.1 (sett_put HF.out e) (by simp; omega) (by rw [List.flatten_append, List.length_append]; exact (show ls.flatten.length + 1 ≤ 5000 by omega)) (Nat.le_trans BZ TT.out.2.size)
                    go_wp2_with fail
                    (with_reducible refine Calls.mono st ?_)
                    rintro r w9 ⟨rfl, t9⟩
                    have T9 : Aside (RTurned w base B (putL ls e) w9) := ⟨t9.1, grownBy_trans (grownBy_below BU.out) (grownBy_trans TT.out.2 t9.2)⟩
                    clear st t9 h1 h5
                    go_wp2
                    go_end0
                    exact ⟨rfl, T9.out⟩
                  exact AllE.nil
                exact AllE.nil
              exact AllE.nil
            exact AllE.nil
          exact AllE.nil
        exact AllE.nil
      exact AllE.nil
    exact AllE.nil
  refine AllE.cons (o := { dst := some 12, op := Op.buildSlice 29 1 #[(0, Operand.tmp 11)], type := 29, pos := "vergerref5.go:187", after := #[{ on := 7, ground := Ground.data }], guard := none }) rfl (fun Kt hKt => ?_) ?_
  · have x8 : Below u.heap.size u (u.alloc (.cells #[.int .u64 e.1, .int .i64 e.2] 28)).drew := (bel_alloc _ _).drew
    have le : IsL (u.alloc (.cells #[.int .u64 e.1, .int .i64 e.2] 28)).drew (some ⟨Z, 0, none⟩) 1 [e] := by rw [← hZ]; exact (IsL.one u e).below (bel_D _)
    go_simp
    refine hKt.out _ _ (fun _ => KC.out _ x8) ?_
    clear hKt Kt
    try simp only [Act.put, List.setIfInBounds_toArray, List.set_cons_zero, List.set_cons_succ]
    refine anyE_ready (rs := [1]) (by kernel_rfl) (by simp) ?_
    refine AllE.cons (o := { dst := some 5, op := Op.buildSlice 42 0 #[], type := 42, pos := "vergerref5.go:187", after := #[], guard := none }) rfl (fun Kt hKt => ?_) ?_
    · have x0 : Below u.heap.size u ((u.alloc (.cells #[.int .u64 e.1, .int .i64 e.2] 28)).alloc (.cells #[] 53)).drew := ((bel_alloc u _).alloc (by simp) _).drew
      have le : IsL ((u.alloc (.cells #[.int .u64 e.1, .int .i64 e.2] 28)).alloc (.cells #[] 53)).drew (some ⟨Z, 0, none⟩) 1 [e] := le.below (bel_allocD _ (.cells #[] 53))
      go_simp
      refine hKt.out _ _ (fun _ => KC.out _ x0) ?_
      clear hKt Kt
      try simp only [Act.put, List.setIfInBounds_toArray, List.set_cons_zero, List.set_cons_succ]
      refine anyE_ready (rs := [6]) (by kernel_rfl) (by simp) ?_
      refine AllE.cons (o := { dst := some 10, op := Op.call { callee := Callee.builtin Builtin.append, args := #[Operand.tmp 5, Operand.tmp 9], argTypes := #[42, 42] }, type := 42, pos := "vergerref5.go:187", after := #[{ on := 1, ground := Ground.data }, { on := 5, ground := Ground.data }], guard := none }) rfl (fun Kt hKt => ?_) ?_
      · obtain ⟨r1, t1, w1, h1, o1, b1, _, _⟩ := push0 (g := (Z + 1)) (cap := cap) ((RU.out.reads HN.out).below x0) (by omega)
        have x1 : Below u.heap.size u w1 := x0.trans (b1.mono x0.size)
        have v0 : u.heap.size ≤ (((u.alloc (.cells #[.int .u64 e.1, .int .i64 e.2] 28)).alloc (.cells #[] 53)).drew).heap.size := x0.size
        have v1 : (((u.alloc (.cells #[.int .u64 e.1, .int .i64 e.2] 28)).alloc (.cells #[] 53)).drew).heap.size ≤ w1.heap.size := b1.size
        have le := le.below b1
        obtain ⟨Y1, hY1⟩ : ∃ Y, w1.heap.size = Y := ⟨_, rfl⟩
        refine step_app (((u.alloc (.cells #[.int .u64 e.1, .int .i64 e.2] 28)).alloc (.cells #[] 53)).drew) (by rfl) _ _ 42 42 (by rfl) (.slice (some ⟨(Z + 1), 0, none⟩) 0 0) (.slice a n cap) (by rfl) (by rfl) (.slice r1 n t1) w1 h1 ?_
        refine hKt.out _ _ (fun _ => KC.out _ x1) ?_
        clear hKt Kt
        try simp only [Act.put, List.setIfInBounds_toArray, List.set_cons_zero, List.set_cons_succ]
        refine anyE_ready (rs := [9]) (by kernel_rfl) (by simp) ?_
        refine AllE.cons (o := { dst := some 13, op := Op.call { callee := Callee.value (Operand.func 34), args := #[Operand.tmp 12], argTypes := #[29] }, type := 53, pos := "vergerref5.go:187", after := #[{ on := 8, ground := Ground.data }, { on := 6, ground := Ground.chain }], guard := none }) rfl (fun Kt hKt => ?_) ?_
        · go_simp
          (with_reducible refine Calls.mono (refOfO (w := w1) (n := 1) (d := [e]) le rfl (by omega) (List.perm_singleton.1 (sortE_perm [e])) HM.out) ?_)
          rintro r w3 ⟨pa, pc, rfl, o3, b3⟩
          have x3 : Below u.heap.size u w3 := x1.trans (b3.mono x1.size)
          have o1 := o1.below b3
          have v1 := Nat.le_trans v1 b3.size
          have o3 := o3.low (Nat.le_trans BZ x1.size)
          obtain ⟨Y3, hY3⟩ : ∃ Y, w3.heap.size = Y := ⟨_, rfl⟩
          go_wp2_with fail
          refine hKt.out _ _ (fun _ => KC.out _ x3) ?_
          clear hKt Kt
          try simp only [Act.put, List.setIfInBounds_toArray, List.set_cons_zero, List.set_cons_succ]
          refine anyE_ready (rs := [10]) (by kernel_rfl) (by simp) ?_
          refine AllE.cons (o := { dst := some 14, op := Op.buildSlice 42 1 #[(0, Operand.tmp 13)], type := 42, pos := "vergerref5.go:187", after := #[{ on := 9, ground := Ground.data }], guard := none }) rfl (fun Kt hKt => ?_) ?_
          · have x10 : Below u.heap.size u (w3.alloc (.cells #[.int .i64 M, .slice pa 1 pc] 53)) := x3.trans ((bel_alloc _ _).mono x3.size)
            go_simp
            refine hKt.out _ _ (fun _ => KC.out _ x10) ?_
            clear hKt Kt
            try simp only [Act.put, List.setIfInBounds_toArray, List.set_cons_zero, List.set_cons_succ]
            refine anyE_ready (rs := [11]) (by kernel_rfl) (by simp) ?_
            refine AllE.cons (o := { dst := some 15, op := Op.call { callee := Callee.builtin Builtin.append, args := #[Operand.tmp 10, Operand.tmp 14], argTypes := #[42, 42] }, type := 42, pos := "vergerref5.go:187", after := #[{ on := 6, ground := Ground.data }, { on := 10, ground := Ground.data }, { on := 9, ground := Ground.chain }], guard := none }) rfl (fun Kt hKt => ?_) ?_
            · obtain ⟨r5, t5, w5, h5, x5, c5, tt⟩ := radd_chain (G := Y3) x10 v0 (Nat.le_trans v1 (bel_alloc w3 (.cells #[.int .i64 M, .slice pa 1 pc] 53)).size) CU.out hB BZ RU.out HN.out (o3.below (bel_alloc _ _)) rfl HM.out (o1.below (bel_alloc _ _)) (row_alloc hY3 _ _) (by omega)
              have f1 := lsm_cell c5
              have f2 := lsm_fro c5
              have TT : Aside (RTurned u base B (ls ++ [[e]]) (w5.setCell ⟨B, 0, none⟩ (.slice r5 (n + 1) t5))) := by have := tt; rw [HBS.out] at this; exact this
              clear tt c5
              refine step_app (w3.alloc (.cells #[.int .i64 M, .slice pa 1 pc] 53)) (by rfl) _ _ 42 42 (by rfl) (.slice r1 n t1) (.slice (some ⟨Y3, 0, none⟩) 1 1) (by rfl) (by rfl) (.slice r5 (n + 1) t5) w5 h5 ?_
              refine hKt.out _ _ (fun _ => KC.out _ x5) ?_
              clear hKt Kt
              try simp only [Act.put, List.setIfInBounds_toArray, List.set_cons_zero, List.set_cons_succ]
              refine anyE_ready (rs := [12]) (by kernel_rfl) (by simp) ?_
              refine AllE.cons (o := { dst := some 16, op := Op.nilCheck (Operand.tmp 4), type := 0, pos := "vergerref5.go:187", after := #[{ on := 0, ground := Ground.data }, { on := 0, ground := Ground.phase }, { on := 1, ground := Ground.phase }, { on := 2, ground := Ground.phase }, { on := 3, ground := Ground.phase }, { on := 4, ground := Ground.phase }, { on := 5, ground := Ground.phase }, { on := 6, ground := Ground.phase }, { on := 7, ground := Ground.phase }, { on := 8, ground := Ground.phase }, { on := 9, ground := Ground.phase }, { on := 10, ground := Ground.phase }, { on := 11, ground := Ground.phase }], guard := none }) rfl (fun Kt hKt => ?_) ?_
              · go_simp
                refine hKt.out _ _ (fun _ => KC.out _ x5) ?_
                clear hKt Kt
                try simp only [Act.put, List.setIfInBounds_toArray, List.set_cons_zero, List.set_cons_succ]
                refine anyE_ready (rs := [13]) (by kernel_rfl) (by simp) ?_
                refine AllE.cons (o := { dst := some 17, op := Op.fieldAddr 44 (Operand.tmp 16) 0, type := 0, pos := "vergerref5.go:187", after := #[{ on := 12, ground := Ground.data }, { on := 0, ground := Ground.phase }, { on := 1, ground := Ground.phase }, { on := 2, ground := Ground.phase }, { on := 3, ground := Ground.phase }, { on := 4, ground := Ground.phase }, { on := 5, ground := Ground.phase }, { on := 6, ground := Ground.phase }, { on := 7, ground := Ground.phase }, { on := 8, ground := Ground.phase }, { on := 9, ground := Ground.phase }, { on := 10, ground := Ground.phase }, { on := 11, ground := Ground.phase }], guard := none }) rfl (fun Kt hKt => ?_) ?_
                · go_simp
                  refine hKt.out _ _ (fun _ => KC.out _ x5) ?_
                  clear hKt Kt
                  try simp only [Act.put, List.setIfInBounds_toArray, List.set_cons_zero, List.set_cons_succ]
                  refine anyE_ready (rs := [14]) (by kernel_rfl) (by simp) ?_
                  refine AllE.cons (o := { dst := none, op := Op.store 42 (Operand.tmp 17) (Operand.tmp 15), type := 0, pos := "vergerref5.go:187", after := #[{ on := 13, ground := Ground.data }, { on := 11, ground := Ground.data }, { on := 11, ground := Ground.chain }, { on := 0, ground := Ground.phase }, { on := 1, ground := Ground.phase }, { on := 2, ground := Ground.phase }, { on := 3, ground := Ground.phase }, { on := 4, ground := Ground.phase }, { on := 5, ground := Ground.phase }, { on := 6, ground := Ground.phase }, { on := 7, ground := Ground.phase }, { on := 8, ground := Ground.phase }, { on := 9, ground := Ground.phase }, { on := 10, ground := Ground.phase }, { on := 11, ground := Ground.phase }], guard := none }) rfl (fun Kt hKt => ?_) ?_
                  · go_simp
                    refine hKt.out _ _ (fun h => absurd rfl h) ?_
                    clear hKt Kt
                    try simp only [Act.put, List.setIfInBounds_toArray, List.set_cons_zero, List.set_cons_succ]
                    refine anyE_done (by kernel_rfl) ?_ _
                    have st := rsettle_any B base (ls ++ [[e]]) (putL ls e) (w5.setCell ⟨B, 0, none⟩ (.slice r5 (n + 1) t5)) TT.out.1 (sett_put HF.out e) (by simp; omega) (by rw [List.flatten_append, List.length_append]; exact (show ls.flatten.length + 1 ≤ 5000 by omega)) (Nat.le_trans BZ TT.out.2.size)
                    go_wp2_with fail
                    (with_reducible refine Calls.mono st ?_)
                    rintro r w9 ⟨rfl, t9⟩
                    have T9 : Aside (RTurned w base B (putL ls e) w9) := ⟨t9.1, grownBy_trans (grownBy_below BU.out) (grownBy_trans TT.out.2 t9.2)⟩
                    clear st t9 h1 h5
                    go_wp2
                    go_end0
                    exact ⟨rfl, T9.out⟩
                  exact AllE.nil
                exact AllE.nil
              exact AllE.nil
            exact AllE.nil
          exact AllE.nil
        exact AllE.nil
      exact AllE.nil
    exact AllE.nil
  exact AllE.nil
end Go.Proofs.Ytchephglapnloaa
