/- The document's own queue: Put, Take. -/
import Derived.Test.YtdcacbjmbfppeaaGreatQR4
namespace Go.Proofs.YtdcacbjmbfppeaaGreat
open Go.RowKit Go.Lib Go.Sort
set_option linter.unusedVariables false

theorem outL_fewer (id : Int) (d : List Ent) : (outL id d).length ≤ d.length := List.length_filter_le _ _
theorem out_take {id : Int} {d : List Ent} {k : Nat} (h : k < d.length) : outL id (d.take (k + 1)) = outL id (d.take k) ++ (if d[k].2 = id then [] else [d[k]]) := by
  unfold outL
  rw [List.take_succ_eq_append_getElem h, List.filter_append]
  by_cases e : d[k].2 = id <;> simp [e]

set_option maxHeartbeats 4000000 in
set_option maxRecDepth 100000 in
theorem refWithout_any (a : Option Addr) (cap : Nat) (d : List Ent) (id : Int) (w : World) (h : IsL w a cap d) (hd : d.length ≤ 10000) :
    Calls Tryz.prog 47 #[.slice a d.length cap, .int .i64 id] w (Made w (outL id d)) := by
  have H : Aside (IsL w a cap d) := h
  obtain ⟨n, hn⟩ : ∃ n, d.length = n := ⟨_, rfl⟩
  have HN : Hid _ := hn
  rw [hn] at hd ⊢
  clear h hn
  go_enter Tryz.func47, Tryz.ntmps47
  go_wp2
  go_loopg [5, 6] n (fun kx s5 s6 wr => ∃ (k m : Nat) (r : Option Addr) (t : Nat), s6 = .int .i64 k ∧ s5 = .slice r m t ∧ Hid ((outL id (d.take k)).length = m) ∧ k ≤ n ∧ n - k ≤ kx ∧ Aside (OwnE wr w.heap.size (.slice r m t) (outL id (d.take k))) ∧ Aside (Below w.heap.size w wr))
  case atStart => exact ⟨0, 0, none, 0, rfl, rfl, rfl, by omega, by omega, OwnE.nil _ _, Below.refl _ _⟩
  case round =>
    obtain ⟨k, z, r, t, rfl, rfl, HZ, hk, hkx, O, B⟩ := hrel
    have zle : z ≤ n := by have h1 := HZ.out; have h2 := outL_fewer id (d.take k); rw [List.length_take, HN.out] at h2; omega
    have sz := B.out.size
    by_cases hlt : k < n
    · have hz : (k : Int) < (n : Int) := by omega
      have hkl : k < d.length := by rw [HN.out]; exact hlt
      obtain ⟨b, off, ha, hb, c0, c1⟩ := (H.out.below B.out).elem k d[k] (List.getElem?_eq_getElem hkl)
      have e1 := out_take (id := id) hkl
      obtain ⟨x, hx⟩ : ∃ x, d[k] = x := ⟨_, rfl⟩
      rw [hx] at c0 c1 e1
      have E1 : Aside (outL id (d.take (k + 1)) = outL id (d.take k) ++ (if x.2 = id then [] else [x])) := e1
      subst ha
      clear hx e1
      by_cases e : x.2 = id
      · have q1 : (x.2 == id) = true := by simp [e]
        have E2 : Hid (outL id (d.take (k + 1)) = outL id (d.take k)) := by show _ = _; have := E1.out; rw [if_pos e, List.append_nil] at this; exact this
        have O2 : Aside (OwnE wr w.heap.size (.slice r z t) (outL id (d.take (k + 1)))) := by rw [E2.out]; exact O.out
        clear E1
        go_wp2
        go_roundg (n - (k + 1))
        case measure => omega
        case rel => exact ⟨k + 1, z, r, t, by go_num, rfl, by rw [E2.out]; exact HZ, by omega, Nat.le_refl _, O2, B⟩
      · have q1 : (x.2 == id) = false := by simp [e]
        have q2 : ¬ x.2 = id := e
        have E2 : Hid (outL id (d.take (k + 1)) = outL id (d.take k) ++ [x]) := by show _ = _; have := E1.out; rw [if_neg e] at this; exact this
        obtain ⟨r', t', w2, hr, o2, b2⟩ := app_one x O.out HZ.out (by omega) (by omega)
        have B2 : Aside (Below w.heap.size w w2) := B.out.trans b2
        have O2 : Aside (OwnE w2 w.heap.size (.slice r' (z + 1) t') (outL id (d.take (k + 1)))) := by rw [E2.out]; exact o2
        have HZ2 : Hid ((outL id (d.take (k + 1))).length = z + 1) := by show _ = _; rw [E2.out, List.length_append, HZ.out]; rfl
        clear E1 o2 b2 O B
        go_wp2_with (at_builtin; refine Lib.wpList_append_run (World.alloc wr _) rfl _ _ 45 45 rfl _ _ rfl rfl _ w2 hr ?_)
        go_roundg (n - (k + 1))
        case measure => omega
        case rel => exact ⟨k + 1, z + 1, r', t', by go_num, rfl, HZ2, by omega, Nat.le_refl _, O2, B2⟩
    · have hz : ¬ (k : Int) < (n : Int) := by omega
      have e : d.take k = d := List.take_of_length_le (by rw [HN.out]; omega)
      rw [e] at HZ O
      go_wp2
      go_ret
      exact ⟨r, t, by rw [HZ.out]; rfl, by rw [HZ.out]; exact O.out, B.out⟩

theorem rsettle_in (w : World) (base B SR LR T K : Nat) (r : RSt) (t : Nat) (f : Bool) (h : RQ w base B SR LR T K r.g r.ow r.sh) (hT : T ≤ 8) (ht : t < T) (hg : (r.g t).1 = f) (hb : base ≤ w.heap.size) (ho : (r.ow t).length ≤ 1000) (hs : r.sh.length ≤ 5000) :
    Calls Tryz.prog 11 #[ptr B, .int .i64 t] w (RIs w base B SR LR T K (.bool f) (rSettle K r t)) := by
  cases f with
  | true => exact rsettle_yes w base B SR LR T K r t h hT ht hg hb ho hs
  | false =>
    refine (rsettle_no w base B SR LR T K r t h hT ht hg).mono ?_
    rintro e w1 ⟨rfl, hw⟩
    obtain rfl : w = w1 := hw.symm
    have es : rSettle K r t = r := by unfold rSettle; rw [hg]; rfl
    rw [es]
    exact ⟨rfl, h, RGo.refl _ _⟩
set_option maxHeartbeats 2000000 in
theorem rput_out (w : World) (base B SR LR T K : Nat) (r : RSt) (t k d : Int) (h : RQ w base B SR LR T K r.g r.ow r.sh) (hT : T ≤ 8) (ht : t < 0 ∨ (T : Int) ≤ t) :
    Calls Tryz.prog 8 #[ptr B, .int .i64 t, .agg #[.int .u64 k, .int .i64 d]] w fun e w' => e = .returned (.bool false) ∧ Below w.heap.size w w' := by
  obtain ⟨u, hu⟩ : ∃ u, w.alloc (.cells #[.int .u64 k, .int .i64 d] 34) = u := ⟨_, rfl⟩
  have bu : Below w.heap.size w u := by rw [← hu]; exact (Below.refl _ _).alloc (Nat.le_refl _) _
  have th := there_any u base B SR LR T K r.g r.ow r.sh t (h.below bu) hT
  have e : (decide (0 ≤ t) && decide (t < (T : Int))) = false := by
    rcases ht with ht | ht
    · rw [decide_eq_false (by omega)]; rfl
    · rw [decide_eq_false (show ¬ t < (T : Int) by omega), Bool.and_false]
  rw [e] at th
  have BU : Aside (Below w.heap.size w u) := bu
  have HU : Hid _ := hu
  clear h e ht hu bu
  go_enter Tryz.func8, Tryz.ntmps8
  go_wp2_with fail
  rw [HU.out]
  refine th.mono ?_
  rintro x w1 ⟨rfl, hw⟩
  obtain rfl : u = w1 := hw.symm
  clear th
  go_wp2
  go_ret
  exact ⟨rfl, BU.out⟩
set_option maxHeartbeats 4000000 in
set_option maxRecDepth 100000 in
theorem rput_in (w : World) (base B SR LR T K : Nat) (r : RSt) (t : Nat) (k d : Int) (h : RQ w base B SR LR T K r.g r.ow r.sh) (hT : T ≤ 8) (ht : t < T) (hb : base ≤ w.heap.size) (ho : (r.ow t).length ≤ 1000) (hs : r.sh.length ≤ 5000) :
    Calls Tryz.prog 8 #[ptr B, .int .i64 t, .agg #[.int .u64 k, .int .i64 d]] w (RIs w base B SR LR T K (.bool true) (rPut K r t (k, d))) := by
  obtain ⟨S, hS⟩ : ∃ S, w.heap.size = S := ⟨_, rfl⟩
  obtain ⟨u, hu⟩ : ∃ u, w.alloc (.cells #[.int .u64 k, .int .i64 d] 34) = u := ⟨_, rfl⟩
  have bu : Below w.heap.size w u := by rw [← hu]; exact (Below.refl _ _).alloc (Nat.le_refl _) _
  have us : u.heap[S]? = some (.cells #[.int .u64 k, .int .i64 d] 34 (0, 0)) := by rw [← hu, ← hS]; exact heap_alloc_new w _
  have th := there_any u base B SR LR T K r.g r.ow r.sh t (h.below bu) hT
  have e : (decide (0 ≤ (t : Int)) && decide ((t : Int) < (T : Int))) = true := by rw [decide_eq_true (by omega), decide_eq_true (by omega)]; rfl
  rw [e] at th
  obtain ⟨f, hf⟩ : ∃ f, (r.g t).1 = f := ⟨_, rfl⟩
  have st := rsettle_in u base B SR LR T K r t f (h.below bu) hT ht hf (Nat.le_trans hb bu.size) ho hs
  have US : Aside (u.heap[S]? = some (.cells #[.int .u64 k, .int .i64 d] 34 (0, 0))) := us
  have GU : Aside (RGo base w u) := RGo.below bu hb
  have HU : Hid _ := hu
  have mx := mixed
  clear h e hu bu us hf
  go_enter Tryz.func8, Tryz.ntmps8
  go_wp2_with fail
  rw [HU.out]
  refine th.mono ?_
  rintro x w1 ⟨rfl, hw⟩
  obtain rfl : u = w1 := hw.symm
  clear th
  go_wp2_with fail
  refine st.mono ?_
  rintro x w2 ⟨rfl, r2, g2⟩
  have R2 : Aside (RQ w2 base B SR LR T K (rSettle K r t).g (rSettle K r t).ow (rSettle K r t).sh) := r2
  have G2 : Aside (RGo base w w2) := GU.out.trans g2
  have s2 := g2.kept _ _ _ _ US.out (by unfold RTy; decide)
  obtain ⟨y0, y1⟩ := ent0 s2
  have tz : (t : Int) < (T : Int) := by omega
  obtain ⟨_, _, c0, c1, _⟩ := r2.cells
  obtain ⟨v0, v1, v2, v3⟩ := r2.at ht
  have f0 := r2.fz.2.1 (t * 4)
  have f1 := r2.fz.2.1 (t * 4 + 1)
  have f2 := r2.fz.2.1 (t * 4 + 2)
  have f3 := r2.fz.2.1 (t * 4 + 3)
  have sl := r2.lt.2.1
  have r3 := r2.setSlot ht true k d
  have g3 := G2.out.trans (r2.goSlot t (.bool true) (.int .u64 k) (.int .i64 d) (.int .u64 0))
  have FIN : Aside (RIs w base B SR LR T K (.bool true) (rPut K r t (k, d)) (.returned (.bool true)) ((((w2.setCell ⟨SR, t * 4, none⟩ (.bool true)).setCell ⟨SR, t * 4 + 1, none⟩ (.int .u64 k)).setCell ⟨SR, t * 4 + 2, none⟩ (.int .i64 d)).setCell ⟨SR, t * 4 + 3, none⟩ (.int .u64 0)).drew) := by
    have x1 := (Below.refl ((((w2.setCell ⟨SR, t * 4, none⟩ (.bool true)).setCell ⟨SR, t * 4 + 1, none⟩ (.int .u64 k)).setCell ⟨SR, t * 4 + 2, none⟩ (.int .i64 d)).setCell ⟨SR, t * 4 + 3, none⟩ (.int .u64 0)).heap.size ((((w2.setCell ⟨SR, t * 4, none⟩ (.bool true)).setCell ⟨SR, t * 4 + 1, none⟩ (.int .u64 k)).setCell ⟨SR, t * 4 + 2, none⟩ (.int .i64 d)).setCell ⟨SR, t * 4 + 3, none⟩ (.int .u64 0))).drew
    exact ⟨rfl, r3.below x1, g3.trans (RGo.below x1 (g3.size hb))⟩
  have K0 : Aside (w2.drew.cell? ⟨B, 1, none⟩ = some (.slice (some ⟨SR, 0, none⟩) T T) ∧ w2.drew.cell? ⟨S, 0, none⟩ = some (.int .u64 k) ∧ w2.drew.cell? ⟨S, 1, none⟩ = some (.int .i64 d)) := ⟨c1, y0, y1⟩
  clear st r2 g2 r3 g3 s2
  go_wp2_with fail
  refine anyE_start (S := (fun v' => v'.cell? ⟨B, 1, none⟩ = some (.slice (some ⟨SR, 0, none⟩) T T) ∧ v'.cell? ⟨S, 0, none⟩ = some (.int .u64 k) ∧ v'.cell? ⟨S, 1, none⟩ = some (.int .i64 d))) (L := 8) (by kernel_rfl) ?_
  refine anyE_take (i := 0) (oi := { dst := some 14, op := Op.move (Operand.tmp 0), type := 27, pos := "vergerref10.go:48", after := #[], guard := none }) (v := ?_) rfl (by kernel_rfl) (by kernel_rfl) (by kernel_rfl) (by kernel_rfl) (fun _ _ _ h => h) (Or.inl ⟨by rfl, ?_⟩) (K0.out) ?_
  rotate_left
  · (intro w hSw; (try dsimp only at hSw); go_simp; try with_reducible rfl)
  simp only [Act.put, List.setIfInBounds_toArray, List.set_cons_zero, List.set_cons_succ]
  refine anyE_take (i := 1) (oi := { dst := some 15, op := Op.nilCheck (Operand.tmp 14), type := 0, pos := "vergerref10.go:48", after := #[{ on := 0, ground := Ground.data }], guard := none }) (v := ?_) rfl (by kernel_rfl) (by kernel_rfl) (by kernel_rfl) (by kernel_rfl) (fun _ _ _ h => h) (Or.inl ⟨by rfl, ?_⟩) (K0.out) ?_
  rotate_left
  · (intro w hSw; (try dsimp only at hSw); go_simp; try with_reducible rfl)
  simp only [Act.put, List.setIfInBounds_toArray, List.set_cons_zero, List.set_cons_succ]
  refine anyE_take (i := 2) (oi := { dst := some 16, op := Op.fieldAddr 66 (Operand.tmp 15) 1, type := 0, pos := "vergerref10.go:48", after := #[{ on := 1, ground := Ground.data }], guard := none }) (v := ?_) rfl (by kernel_rfl) (by kernel_rfl) (by kernel_rfl) (by kernel_rfl) (fun _ _ _ h => h) (Or.inl ⟨by rfl, ?_⟩) (K0.out) ?_
  rotate_left
  · (intro w hSw; (try dsimp only at hSw); go_simp; try with_reducible rfl)
  simp only [Act.put, List.setIfInBounds_toArray, List.set_cons_zero, List.set_cons_succ]
  refine anyE_take (i := 3) (oi := { dst := some 17, op := Op.load 63 (Operand.tmp 16), type := 63, pos := "vergerref10.go:48", after := #[{ on := 2, ground := Ground.data }], guard := none }) (v := ?_) rfl (by kernel_rfl) (by kernel_rfl) (by kernel_rfl) (by kernel_rfl) (fun _ _ _ h => h) (Or.inl ⟨by rfl, ?_⟩) (K0.out) ?_
  rotate_left
  · (intro w hSw; (try dsimp only at hSw); go_simp; try with_reducible rfl)
  simp only [Act.put, List.setIfInBounds_toArray, List.set_cons_zero, List.set_cons_succ]
  refine anyE_take (i := 4) (oi := { dst := some 18, op := Op.move (Operand.tmp 1), type := 3, pos := "vergerref10.go:48", after := #[], guard := none }) (v := ?_) rfl (by kernel_rfl) (by kernel_rfl) (by kernel_rfl) (by kernel_rfl) (fun _ _ _ h => h) (Or.inl ⟨by rfl, ?_⟩) (K0.out) ?_
  rotate_left
  · (intro w hSw; (try dsimp only at hSw); go_simp; try with_reducible rfl)
  simp only [Act.put, List.setIfInBounds_toArray, List.set_cons_zero, List.set_cons_succ]
  refine anyE_take (i := 5) (oi := { dst := some 19, op := Op.load 34 (Operand.tmp 5), type := 34, pos := "vergerref10.go:48", after := #[], guard := none }) (v := ?_) rfl (by kernel_rfl) (by kernel_rfl) (by kernel_rfl) (by kernel_rfl) (fun _ _ _ h => h) (Or.inl ⟨by rfl, ?_⟩) (K0.out) ?_
  rotate_left
  · (intro w hSw; (try dsimp only at hSw); go_simp; try with_reducible rfl)
  simp only [Act.put, List.setIfInBounds_toArray, List.set_cons_zero, List.set_cons_succ]
  refine anyE_take (i := 6) (oi := { dst := some 20, op := Op.build 69 #[(0, Operand.const (Value.bool true)), (1, Operand.tmp 19)], type := 69, pos := "vergerref10.go:48", after := #[{ on := 5, ground := Ground.data }], guard := none }) (v := ?_) rfl (by kernel_rfl) (by kernel_rfl) (by kernel_rfl) (by kernel_rfl) (fun _ _ _ h => h) (Or.inl ⟨by rfl, ?_⟩) (K0.out) ?_
  rotate_left
  · (intro w hSw; (try dsimp only at hSw); go_simp; try with_reducible rfl)
  simp only [Act.put, List.setIfInBounds_toArray, List.set_cons_zero, List.set_cons_succ]
  refine anyE_take (i := 7) (oi := { dst := some 21, op := Op.indexAddr 63 (Operand.tmp 17) (Operand.tmp 18), type := 0, pos := "vergerref10.go:48", after := #[{ on := 3, ground := Ground.data }, { on := 4, ground := Ground.data }, { on := 0, ground := Ground.phase }, { on := 1, ground := Ground.phase }, { on := 2, ground := Ground.phase }, { on := 3, ground := Ground.phase }, { on := 4, ground := Ground.phase }, { on := 5, ground := Ground.phase }, { on := 6, ground := Ground.phase }], guard := none }) (v := ?_) rfl (by kernel_rfl) (by kernel_rfl) (by kernel_rfl) (by kernel_rfl) (fun _ _ _ h => h) (Or.inl ⟨by rfl, ?_⟩) (K0.out) ?_
  rotate_left
  · (intro w hSw; (try dsimp only at hSw); go_simp; try with_reducible rfl)
  simp only [Act.put, List.setIfInBounds_toArray, List.set_cons_zero, List.set_cons_succ]
  refine anyE_ready (rs := [8]) (by kernel_rfl) (by simp) ?_
  refine AllE.cons (o := { dst := none, op := Op.store 69 (Operand.tmp 21) (Operand.tmp 20), type := 0, pos := "vergerref10.go:48", after := #[{ on := 7, ground := Ground.data }, { on := 6, ground := Ground.data }, { on := 0, ground := Ground.phase }, { on := 1, ground := Ground.phase }, { on := 2, ground := Ground.phase }, { on := 3, ground := Ground.phase }, { on := 4, ground := Ground.phase }, { on := 5, ground := Ground.phase }, { on := 6, ground := Ground.phase }], guard := none }) rfl (fun Kt hKt => ?_) ?_
  · go_simp
    refine hKt.out _ _ (fun h => absurd rfl h) ?_
    clear hKt Kt
    try simp only [Act.put, List.setIfInBounds_toArray, List.set_cons_zero, List.set_cons_succ]
    refine anyE_done (by kernel_rfl) ?_ _
    go_wp2
    go_ret
    exact FIN.out
  exact AllE.nil

set_option maxHeartbeats 8000000 in
set_option maxRecDepth 100000 in
theorem rtake_any (w : World) (base B SR LR T K : Nat) (r : RSt) (id : Int) (h : RQ w base B SR LR T K r.g r.ow r.sh) (hT : T ≤ 8) (hb : base ≤ w.heap.size) (ho : ∀ i, i < T → (r.ow i).length ≤ 1000) (hs : r.sh.length ≤ 5000) :
    Calls Tryz.prog 17 #[ptr B, .int .i64 id] w (RIs w base B SR LR T K (.bool (decide ((rWhere r.g r.ow r.sh T id).1 ≠ 0))) (rTake r T id)) := by
  have wh := rwhere_any w base B SR LR T K r.g r.ow r.sh id h hT
  have H : Aside (RQ w base B SR LR T K r.g r.ow r.sh) := h
  have mx := mixed
  obtain ⟨a, cap, c0, c1, c2, c3, il⟩ := h.cells
  cases ha : (List.range T).find? (fun i => (r.g i).1 && (r.g i).2.2 == id) with
  | some t =>
    have ht := (find_yes ha).1
    have e1 : rWhere r.g r.ow r.sh T id = (1, (t : Int)) := by unfold rWhere; rw [ha]
    have e2 : rTake r T id = { r with g := lset r.g t noS } := by unfold rTake; rw [ha]
    rw [e1] at wh ⊢
    rw [e2]
    have tz : (t : Int) < (T : Int) := by omega
    obtain ⟨v0, v1, v2, v3⟩ := h.at ht
    have f0 := h.fz.2.1 (t * 4)
    have f1 := h.fz.2.1 (t * 4 + 1)
    have f2 := h.fz.2.1 (t * 4 + 2)
    have f3 := h.fz.2.1 (t * 4 + 3)
    have sl := h.lt.2.1
    have r3 := h.setSlot ht false 0 0
    have g3 := h.goSlot t (.bool false) (.int .u64 0) (.int .i64 0) (.int .u64 0)
    have FIN : Aside (RIs w base B SR LR T K (.bool true) { r with g := lset r.g t noS } (.returned (.bool true)) ((((w.setCell ⟨SR, t * 4, none⟩ (.bool false)).setCell ⟨SR, t * 4 + 1, none⟩ (.int .u64 0)).setCell ⟨SR, t * 4 + 2, none⟩ (.int .i64 0)).setCell ⟨SR, t * 4 + 3, none⟩ (.int .u64 0))) := ⟨rfl, r3, g3⟩
    clear ha e1 e2 r3 g3 h c0 c2 c3 il ho
    go_enter Tryz.func17, Tryz.ntmps17
    go_wp2_with fail
    refine wh.mono ?_
    rintro x w1 ⟨rfl, hw⟩
    obtain rfl : w = w1 := hw.symm
    clear wh
    go_wp2
    go_ret
    exact FIN.out
  | none =>
    cases hc : (List.range T).find? (fun i => hasL (r.ow i) id) with
    | some t =>
      have ht := (find_yes hc).1
      have e1 : rWhere r.g r.ow r.sh T id = (2, (t : Int)) := by unfold rWhere; rw [ha, hc]
      have e2 : rTake r T id = { r with ow := lset r.ow t (outL id (r.ow t)) } := by unfold rTake; rw [ha, hc]
      rw [e1] at wh ⊢
      rw [e2]
      have tz : (t : Int) < (T : Int) := by omega
      obtain ⟨b, bc, o0, io⟩ := h.own ht
      obtain ⟨n0, hn0⟩ : ∃ n, (r.ow t).length = n := ⟨_, rfl⟩
      have wo := refWithout_any b bc (r.ow t) id w.drew (io.below (Below.refl _ _).drew) (by have := ho t ht; omega)
      obtain ⟨I, hI⟩ : ∃ I, outL id (r.ow t) = I := ⟨_, rfl⟩
      rw [hI, hn0] at wo
      rw [hn0] at o0
      rw [hI]
      have WO : Aside (Calls Tryz.prog 47 #[.slice b n0 bc, .int .i64 id] w.drew (Made w.drew I)) := wo
      have hb1 : Below w.heap.size w w.drew := (Below.refl _ _).drew
      have KC : Aside (∀ W, Below w.heap.size w W → W.cell? ⟨B, 2, none⟩ = some (.slice (some ⟨LR, 0, none⟩) T T) ∧ W.cell? ⟨LR, t, none⟩ = some (.slice b n0 bc)) := fun W hW => ⟨(hW.cell (p := ⟨B, 2, none⟩) h.lt.1).trans c2, (hW.cell (p := ⟨LR, t, none⟩) h.lt.2.2).trans o0⟩
      clear ha hc e1 e2 h c0 c1 c2 c3 il io hn0 wo o0 ho hI
      go_enter Tryz.func17, Tryz.ntmps17
      go_wp2_with fail
      refine wh.mono ?_
      rintro x w1 ⟨rfl, hw⟩
      obtain rfl : w = w1 := hw.symm
      clear wh
      go_wp2_with fail
      refine anyE_start (S := (fun v' => v'.cell? ⟨B, 2, none⟩ = some (.slice (some ⟨LR, 0, none⟩) T T) ∧ v'.cell? ⟨LR, t, none⟩ = some (.slice b n0 bc))) (L := 15) (by kernel_rfl) ?_
      refine anyE_take (i := 0) (oi := { dst := some 25, op := Op.move (Operand.tmp 0), type := 27, pos := "vergerref10.go:138", after := #[], guard := none }) (v := ?_) rfl (by kernel_rfl) (by kernel_rfl) (by kernel_rfl) (by kernel_rfl) (fun _ _ _ h => h) (Or.inl ⟨by rfl, ?_⟩) (KC.out _ hb1) ?_
      rotate_left
      · (intro w hSw; (try dsimp only at hSw); go_simp; try with_reducible rfl)
      simp only [Act.put, List.setIfInBounds_toArray, List.set_cons_zero, List.set_cons_succ]
      refine anyE_take (i := 1) (oi := { dst := some 26, op := Op.nilCheck (Operand.tmp 25), type := 0, pos := "vergerref10.go:138", after := #[{ on := 0, ground := Ground.data }], guard := none }) (v := ?_) rfl (by kernel_rfl) (by kernel_rfl) (by kernel_rfl) (by kernel_rfl) (fun _ _ _ h => h) (Or.inl ⟨by rfl, ?_⟩) (KC.out _ hb1) ?_
      rotate_left
      · (intro w hSw; (try dsimp only at hSw); go_simp; try with_reducible rfl)
      simp only [Act.put, List.setIfInBounds_toArray, List.set_cons_zero, List.set_cons_succ]
      refine anyE_take (i := 2) (oi := { dst := some 27, op := Op.fieldAddr 66 (Operand.tmp 26) 2, type := 0, pos := "vergerref10.go:138", after := #[{ on := 1, ground := Ground.data }], guard := none }) (v := ?_) rfl (by kernel_rfl) (by kernel_rfl) (by kernel_rfl) (by kernel_rfl) (fun _ _ _ h => h) (Or.inl ⟨by rfl, ?_⟩) (KC.out _ hb1) ?_
      rotate_left
      · (intro w hSw; (try dsimp only at hSw); go_simp; try with_reducible rfl)
      simp only [Act.put, List.setIfInBounds_toArray, List.set_cons_zero, List.set_cons_succ]
      refine anyE_take (i := 3) (oi := { dst := some 28, op := Op.load 64 (Operand.tmp 27), type := 64, pos := "vergerref10.go:138", after := #[{ on := 2, ground := Ground.data }], guard := none }) (v := ?_) rfl (by kernel_rfl) (by kernel_rfl) (by kernel_rfl) (by kernel_rfl) (fun _ _ _ h => h) (Or.inl ⟨by rfl, ?_⟩) (KC.out _ hb1) ?_
      rotate_left
      · (intro w hSw; (try dsimp only at hSw); go_simp; try with_reducible rfl)
      simp only [Act.put, List.setIfInBounds_toArray, List.set_cons_zero, List.set_cons_succ]
      refine anyE_take (i := 4) (oi := { dst := some 29, op := Op.move (Operand.tmp 6), type := 3, pos := "vergerref10.go:138", after := #[], guard := none }) (v := ?_) rfl (by kernel_rfl) (by kernel_rfl) (by kernel_rfl) (by kernel_rfl) (fun _ _ _ h => h) (Or.inl ⟨by rfl, ?_⟩) (KC.out _ hb1) ?_
      rotate_left
      · (intro w hSw; (try dsimp only at hSw); go_simp; try with_reducible rfl)
      simp only [Act.put, List.setIfInBounds_toArray, List.set_cons_zero, List.set_cons_succ]
      refine anyE_take (i := 5) (oi := { dst := some 30, op := Op.move (Operand.tmp 0), type := 27, pos := "vergerref10.go:138", after := #[], guard := none }) (v := ?_) rfl (by kernel_rfl) (by kernel_rfl) (by kernel_rfl) (by kernel_rfl) (fun _ _ _ h => h) (Or.inl ⟨by rfl, ?_⟩) (KC.out _ hb1) ?_
      rotate_left
      · (intro w hSw; (try dsimp only at hSw); go_simp; try with_reducible rfl)
      simp only [Act.put, List.setIfInBounds_toArray, List.set_cons_zero, List.set_cons_succ]
      refine anyE_take (i := 6) (oi := { dst := some 31, op := Op.nilCheck (Operand.tmp 30), type := 0, pos := "vergerref10.go:138", after := #[{ on := 5, ground := Ground.data }], guard := none }) (v := ?_) rfl (by kernel_rfl) (by kernel_rfl) (by kernel_rfl) (by kernel_rfl) (fun _ _ _ h => h) (Or.inl ⟨by rfl, ?_⟩) (KC.out _ hb1) ?_
      rotate_left
      · (intro w hSw; (try dsimp only at hSw); go_simp; try with_reducible rfl)
      simp only [Act.put, List.setIfInBounds_toArray, List.set_cons_zero, List.set_cons_succ]
      refine anyE_take (i := 7) (oi := { dst := some 32, op := Op.fieldAddr 66 (Operand.tmp 31) 2, type := 0, pos := "vergerref10.go:138", after := #[{ on := 6, ground := Ground.data }], guard := none }) (v := ?_) rfl (by kernel_rfl) (by kernel_rfl) (by kernel_rfl) (by kernel_rfl) (fun _ _ _ h => h) (Or.inl ⟨by rfl, ?_⟩) (KC.out _ hb1) ?_
      rotate_left
      · (intro w hSw; (try dsimp only at hSw); go_simp; try with_reducible rfl)
      simp only [Act.put, List.setIfInBounds_toArray, List.set_cons_zero, List.set_cons_succ]
      refine anyE_take (i := 8) (oi := { dst := some 33, op := Op.load 64 (Operand.tmp 32), type := 64, pos := "vergerref10.go:138", after := #[{ on := 7, ground := Ground.data }], guard := none }) (v := ?_) rfl (by kernel_rfl) (by kernel_rfl) (by kernel_rfl) (by kernel_rfl) (fun _ _ _ h => h) (Or.inl ⟨by rfl, ?_⟩) (KC.out _ hb1) ?_
      rotate_left
      · (intro w hSw; (try dsimp only at hSw); go_simp; try with_reducible rfl)
      simp only [Act.put, List.setIfInBounds_toArray, List.set_cons_zero, List.set_cons_succ]
      refine anyE_take (i := 9) (oi := { dst := some 34, op := Op.move (Operand.tmp 6), type := 3, pos := "vergerref10.go:138", after := #[], guard := none }) (v := ?_) rfl (by kernel_rfl) (by kernel_rfl) (by kernel_rfl) (by kernel_rfl) (fun _ _ _ h => h) (Or.inl ⟨by rfl, ?_⟩) (KC.out _ hb1) ?_
      rotate_left
      · (intro w hSw; (try dsimp only at hSw); go_simp; try with_reducible rfl)
      simp only [Act.put, List.setIfInBounds_toArray, List.set_cons_zero, List.set_cons_succ]
      refine anyE_take (i := 10) (oi := { dst := some 35, op := Op.indexAddr 64 (Operand.tmp 33) (Operand.tmp 34), type := 0, pos := "vergerref10.go:138", after := #[{ on := 8, ground := Ground.data }, { on := 9, ground := Ground.data }], guard := none }) (v := ?_) rfl (by kernel_rfl) (by kernel_rfl) (by kernel_rfl) (by kernel_rfl) (fun _ _ _ h => h) (Or.inl ⟨by rfl, ?_⟩) (KC.out _ hb1) ?_
      rotate_left
      · (intro w hSw; (try dsimp only at hSw); go_simp; try with_reducible rfl)
      simp only [Act.put, List.setIfInBounds_toArray, List.set_cons_zero, List.set_cons_succ]
      refine anyE_take (i := 11) (oi := { dst := some 36, op := Op.load 45 (Operand.tmp 35), type := 45, pos := "vergerref10.go:138", after := #[{ on := 10, ground := Ground.data }], guard := none }) (v := ?_) rfl (by kernel_rfl) (by kernel_rfl) (by kernel_rfl) (by kernel_rfl) (fun _ _ _ h => h) (Or.inl ⟨by rfl, ?_⟩) (KC.out _ hb1) ?_
      rotate_left
      · (intro w hSw; (try dsimp only at hSw); go_simp; try with_reducible rfl)
      simp only [Act.put, List.setIfInBounds_toArray, List.set_cons_zero, List.set_cons_succ]
      refine anyE_take (i := 12) (oi := { dst := some 37, op := Op.move (Operand.tmp 1), type := 3, pos := "vergerref10.go:138", after := #[], guard := none }) (v := ?_) rfl (by kernel_rfl) (by kernel_rfl) (by kernel_rfl) (by kernel_rfl) (fun _ _ _ h => h) (Or.inl ⟨by rfl, ?_⟩) (KC.out _ hb1) ?_
      rotate_left
      · (intro w hSw; (try dsimp only at hSw); go_simp; try with_reducible rfl)
      simp only [Act.put, List.setIfInBounds_toArray, List.set_cons_zero, List.set_cons_succ]
      refine anyE_ready (rs := [13]) (by kernel_rfl) (by simp) ?_
      refine AllE.cons (o := { dst := some 38, op := Op.call { callee := Callee.value (Operand.func 47), args := #[Operand.tmp 36, Operand.tmp 37], argTypes := #[45, 3] }, type := 45, pos := "vergerref10.go:138", after := #[{ on := 11, ground := Ground.data }, { on := 12, ground := Ground.data }], guard := none }) rfl (fun Kt hKt => ?_) ?_
      · go_simp
        (with_reducible refine Calls.mono WO.out ?_)
        rintro x_ w2 ⟨a2, k2, rfl, o2, d2⟩
        have hb2 : Below w.heap.size w w2 := hb1.trans (d2.mono hb1.size)
        obtain ⟨z1, z2⟩ := KC.out _ hb2
        have fz := (H.out.below hb2).fz.2.2 t
        have LL2 := (H.out.below hb2).lt.2.2
        go_wp2_with fail
        refine hKt.out _ _ (fun _ => KC.out _ hb2) ?_
        clear hKt Kt
        try simp only [Act.put, List.setIfInBounds_toArray, List.set_cons_zero, List.set_cons_succ]
        refine anyE_take (i := 14) (oi := { dst := some 39, op := Op.indexAddr 64 (Operand.tmp 28) (Operand.tmp 29), type := 0, pos := "vergerref10.go:138", after := #[{ on := 3, ground := Ground.data }, { on := 4, ground := Ground.data }, { on := 0, ground := Ground.phase }, { on := 1, ground := Ground.phase }, { on := 2, ground := Ground.phase }, { on := 3, ground := Ground.phase }, { on := 4, ground := Ground.phase }, { on := 5, ground := Ground.phase }, { on := 6, ground := Ground.phase }, { on := 7, ground := Ground.phase }, { on := 8, ground := Ground.phase }, { on := 9, ground := Ground.phase }, { on := 10, ground := Ground.phase }, { on := 11, ground := Ground.phase }, { on := 12, ground := Ground.phase }, { on := 13, ground := Ground.phase }], guard := none }) (v := ?_) rfl (by kernel_rfl) (by kernel_rfl) (by kernel_rfl) (by kernel_rfl) (fun _ _ _ h => h) (Or.inl ⟨by rfl, ?_⟩) (KC.out _ hb2) ?_
        rotate_left
        · (intro w hSw; (try dsimp only at hSw); go_simp; try with_reducible rfl)
        simp only [Act.put, List.setIfInBounds_toArray, List.set_cons_zero, List.set_cons_succ]
        refine anyE_ready (rs := [15]) (by kernel_rfl) (by simp) ?_
        refine AllE.cons (o := { dst := none, op := Op.store 45 (Operand.tmp 39) (Operand.tmp 38), type := 0, pos := "vergerref10.go:138", after := #[{ on := 14, ground := Ground.data }, { on := 13, ground := Ground.data }, { on := 13, ground := Ground.chain }, { on := 0, ground := Ground.phase }, { on := 1, ground := Ground.phase }, { on := 2, ground := Ground.phase }, { on := 3, ground := Ground.phase }, { on := 4, ground := Ground.phase }, { on := 5, ground := Ground.phase }, { on := 6, ground := Ground.phase }, { on := 7, ground := Ground.phase }, { on := 8, ground := Ground.phase }, { on := 9, ground := Ground.phase }, { on := 10, ground := Ground.phase }, { on := 11, ground := Ground.phase }, { on := 12, ground := Ground.phase }, { on := 13, ground := Ground.phase }], guard := none }) rfl (fun Kt hKt => ?_) ?_
        · go_simp
          refine hKt.out _ _ (fun h => absurd rfl h) ?_
          clear hKt Kt
          try simp only [Act.put, List.setIfInBounds_toArray, List.set_cons_zero, List.set_cons_succ]
          refine anyE_done (by kernel_rfl) ?_ _
          have O2 := o2.low (Nat.le_trans hb hb1.size)
          have R2 := H.out.below hb2
          have FIN : Aside (RIs w base B SR LR T K (.bool true) { r with ow := lset r.ow t I } (.returned (.bool true)) (w2.setCell ⟨LR, t, none⟩ (.slice a2 I.length k2))) := ⟨rfl, R2.setOwn ht O2, (RGo.below hb2 hb).trans (R2.goOwn t _)⟩
          clear O2 R2 o2 d2 hb2 z1 z2 fz LL2
          go_wp2
          go_ret
          exact FIN.out
        exact AllE.nil
      exact AllE.nil
    | none =>
      obtain ⟨f, hf⟩ : ∃ f, hasL r.sh id = f := ⟨_, rfl⟩
      cases f with
      | false =>
        have e1 : rWhere r.g r.ow r.sh T id = (0, 0) := by unfold rWhere; rw [ha, hc, hf]; rfl
        have e2 : rTake r T id = r := by unfold rTake; rw [ha, hc, hf]; rfl
        rw [e1] at wh ⊢
        rw [e2]
        clear ha hc e1 e2 h c0 c1 c2 c3 il ho hf
        go_enter Tryz.func17, Tryz.ntmps17
        go_wp2_with fail
        refine wh.mono ?_
        rintro x w1 ⟨rfl, hw⟩
        obtain rfl : w = w1 := hw.symm
        clear wh
        go_wp2
        go_ret
        exact ⟨rfl, H.out, RGo.refl _ _⟩
      | true =>
        have e1 : rWhere r.g r.ow r.sh T id = (3, 0) := by unfold rWhere; rw [ha, hc, hf]; rfl
        have e2 : rTake r T id = { r with sh := outL id r.sh } := by unfold rTake; rw [ha, hc, hf]; rfl
        rw [e1] at wh ⊢
        rw [e2]
        obtain ⟨n0, hn0⟩ : ∃ n, r.sh.length = n := ⟨_, rfl⟩
        have wo := refWithout_any a cap r.sh id w il (by omega)
        rw [hn0] at wo c3
        have HB : Hid _ := hn0
        clear ha hc e1 e2 h c0 c1 c2 il ho hf hn0
        go_enter Tryz.func17, Tryz.ntmps17
        go_wp2_with fail
        refine wh.mono ?_
        rintro x w1 ⟨rfl, hw⟩
        obtain rfl : w = w1 := hw.symm
        clear wh
        go_wp2_with fail
        refine wo.mono ?_
        rintro x_ w2 ⟨a2, k2, rfl, o2, d2⟩
        have R2 := H.out.below d2
        have fz := R2.fz.1 3
        have l2 := R2.lt.1
        obtain ⟨_, _, _, _, _, c3', _⟩ := R2.cells
        have FIN : Aside (RIs w base B SR LR T K (.bool true) { r with sh := outL id r.sh } (.returned (.bool true)) (w2.setCell ⟨B, 3, none⟩ (.slice a2 (outL id r.sh).length k2))) := ⟨rfl, R2.setSh (o2.low hb), (RGo.below d2 hb).trans (R2.goSh _)⟩
        clear wo o2 d2 R2 c3
        go_wp2
        go_ret
        exact FIN.out
end Go.Proofs.YtdcacbjmbfppeaaGreat
