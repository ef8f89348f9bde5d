/- shared: laid. -/
import Derived.Test.YtboccihcomaaoaaShrL
import Derived.Test.YtboccihcomaaoaaAnyE
namespace Go.Proofs.Ytboccihcomaaoaa
open Go.RowKit Go.Lib Go.Sort
set_option linter.unusedVariables false

set_option maxHeartbeats 4000000 in
set_option maxRecDepth 100000 in
theorem laid_any (a : Option Addr) (n0 cap base : Nat) (ls : List (List Ent)) (d0 : List Ent) (p0 : Option Addr) (K0 M0 q0 : Nat) (w : World) (h : Bls w base a n0 cap ls) (ho : OwnE w base (.slice p0 K0 q0) d0) (hK0 : d0.length = K0) (hM0 : lv d0 = M0) (hlen : n0 ≤ 10000) (hsum : ls.flatten.length + K0 ≤ 100000) (hbase : base ≤ w.heap.size) :
    Calls Try.prog 30 #[.slice a n0 cap, .agg #[.int .i64 M0, .slice p0 K0 q0]] w (LaidIs w base (.slice a n0 cap) (laidS ls d0)) := by
  obtain ⟨S, hS⟩ : ∃ S, w.heap.size = S := ⟨_, rfl⟩
  obtain ⟨T, hT⟩ : ∃ T, laidS ls d0 = T := ⟨_, rfl⟩
  rw [hT]
  obtain ⟨Z, hZ⟩ : ∃ Z, ls.flatten.length + K0 = Z := ⟨_, rfl⟩
  rw [hZ] at hsum
  obtain ⟨bs0, hb1, hb2, hb3⟩ := h
  obtain ⟨u, hu⟩ : ∃ u, w.alloc (.cells #[.int .i64 M0, .slice p0 K0 q0] 34) = u := ⟨_, rfl⟩
  have HU : Hid _ := hu
  have bu : Below w.heap.size w u := by rw [← hu]; exact (Below.refl _ _).alloc (Nat.le_refl _) _
  have inv : LaidInv w base S T Z a n0 cap bs0 d0 p0 q0 u := by
    refine ⟨hb2, hb3.below bu, by rw [hK0, hM0, ← hu, ← hS]; exact heap_alloc_new w _, by rw [hK0]; exact ho.below bu, row_apart hb3 (by omega), by rw [hb1]; exact hT, by rw [hb1, hK0]; exact hZ, grown_of_below bu _⟩
  have INV : Aside (LaidInv w base S T Z a n0 cap bs0 d0 p0 q0 u) := inv
  have y0 := shr0 inv.box
  rw [hM0] at y0
  have fo := firstOf_any a n0 cap M0 (bs0.map Bk.d) u inv.row.raw (by rw [List.length_map]; exact hb2) (by omega)
  have HM0 : Hid (lv d0 = M0) := hM0
  clear hT hZ hb1 hb2 hb3 hu bu inv ho hK0 hM0
  go_enter Try.func30, Try.ntmps30
  go_wp2_with fail
  rw [HU.out]
  refine fo.mono ?_
  rintro r w1 ⟨z0, rfl, fi0, b1⟩
  have I1 : Aside (LaidInv w base S T Z a n0 cap bs0 d0 p0 q0 w1) := INV.out.on b1
  have F1 : Aside (FirstAt (bs0.map Bk.d) (ofLv (lv d0)) z0) := by rw [HM0.out]; exact fi0
  clear INV fi0 b1 fo y0 HM0 HU
  go_wp2_with fail
  go_loopg [0, 5] n0 (fun kx s0 s5 wr => ∃ (n : Nat) (z : Int) (bs : List Bk) (d : List Ent) (p : Option Addr) (q : Nat), s0 = .slice a n cap ∧ s5 = .int .i64 z ∧ n ≤ kx ∧ n ≤ n0 ∧ Aside (FirstAt (bs.map Bk.d) (ofLv (lv d)) z) ∧ Aside (LaidInv w base S T Z a n cap bs d p q wr))
  case atStart => exact ⟨n0, z0, bs0, d0, p0, q0, rfl, rfl, Nat.le_refl _, Nat.le_refl _, F1, I1⟩
  case round =>
    clear F1 I1
    obtain ⟨n, z, bs, d, p, q, rfl, rfl, hkx, hnn, FA, I⟩ := hrel
    obtain ⟨m, hm⟩ : ∃ m, lv d = m := ⟨_, rfl⟩
    obtain ⟨K, hK⟩ : ∃ m, d.length = m := ⟨_, rfl⟩
    have HM : Hid _ := hm
    have HK : Hid _ := hK
    clear hm hK
    have y0 := shr0 I.out.box
    have y1 := shr1 I.out.box
    rw [HM.out] at y0
    rw [HK.out] at y1
    have sS : S < wr.heap.size := lt_of_block I.out.box
    rcases FA.out with ⟨rfl, hno⟩ | ⟨hlt, rfl⟩
    · have hz : ¬ (0 : Int) ≤ -1 := by omega
      have HNO : Hid _ := hno
      obtain ⟨R9, hR9⟩ : ∃ R, wr.heap.size = R := ⟨_, rfl⟩
      have hb0 : Below wr.heap.size wr wr := Below.refl _ _
      have hb1 : Below wr.heap.size wr wr.drew := hb0.drew
      have FB : Aside (∀ W, Below wr.heap.size wr W → Calls Try.prog 55 #[.slice a n cap, .int .i64 m] W fun r w' => r = .returned (.int .i64 ((bs.map Bk.d).findIdx (belowLv m) : Nat)) ∧ Below W.heap.size W w') := fun W hW => firstBelow_any a n cap m (bs.map Bk.d) W (I.out.row.raw.below hW) (by rw [List.length_map]; exact I.out.len) (by omega)
      have KC : Aside (∀ W, Below wr.heap.size wr W → W.cell? ⟨S, 0, none⟩ = some (.int .i64 m) ∧ W.cell? ⟨S, 1, none⟩ = some (.slice p K q)) := fun W hW => ⟨(hW.cell (p := ⟨S, 0, none⟩) sS).trans y0, (hW.cell (p := ⟨S, 1, none⟩) sS).trans y1⟩
      have ki := List.findIdx_le_length (xs := bs.map Bk.d) (p := belowLv m)
      rw [List.length_map, I.out.len] at ki
      have INS : Aside (∀ W G, Below wr.heap.size wr W → wr.heap.size ≤ G → W.heap[G]? = some (.cells #[.int .i64 m, .slice p K q] 34 (0, 0)) → Calls Try.prog 54 #[.slice a n cap, .int .i64 ((bs.map Bk.d).findIdx (belowLv m) : Nat), .slice (some ⟨G, 0, none⟩) 1 1] W (fun r w' => LaidIs w base (.slice a n0 cap) T r w' ∧ w'.cell? ⟨S, 0, none⟩ = W.cell? ⟨S, 0, none⟩ ∧ w'.cell? ⟨S, 1, none⟩ = W.cell? ⟨S, 1, none⟩)) := fun W G hW hG hc => by
        have i2 := I.out.on hW
        have := insS_any a n cap ((bs.map Bk.d).findIdx (belowLv m)) base G bs ⟨d, p, q⟩ W i2.row i2.len ki i2.own (by rw [HM.out, HK.out]; exact hc) (row_apart I.out.row hG) (by omega) (Nat.le_trans hbase i2.grew.size)
        refine this.mono ?_
        rintro r w' ⟨a', cap', rfl, t⟩
        rw [← HM.out] at t
        have fin := i2.done HNO.out t
        have hS8 : w'.heap[S]? = W.heap[S]? := t.2.block S (lt_of_block i2.box) (fun e => by
          rcases i2.row.row.2 with ⟨h1, h0⟩ | ⟨g, cap', cur, h1, _⟩
          · rw [h1] at e; simp [Value.ownBlock] at e
          · rw [h1] at e
            simp only [Value.ownBlock, Option.some.injEq] at e
            injection h1 with e1
            exact i2.ne (by rw [e1, e]))
        exact ⟨⟨a', n + 1, cap', rfl, fin.1, by rw [ownB_slice a n0 n cap cap]; exact fin.2⟩, World.cell?_of_block (a := ⟨S, 0, none⟩) hS8, World.cell?_of_block (a := ⟨S, 1, none⟩) hS8⟩
      obtain ⟨Q, hQ⟩ : ∃ Q, (bs.map Bk.d).findIdx (belowLv m) = Q := ⟨_, rfl⟩
      rw [hQ] at FB INS ki
      have hbB : Below wr.heap.size wr (wr.alloc (.cells #[.int .i64 m, .slice p K q] 34)).drew := (hb0.alloc (Nat.le_refl _) _).drew
      have gB : (wr.alloc (.cells #[.int .i64 m, .slice p K q] 34)).drew.heap[R9]? = some (.cells #[.int .i64 m, .slice p K q] 34 (0, 0)) := by rw [← hR9]; exact heap_alloc_new wr _
      clear hQ hno FA y0 y1
      have mx := mixed
      go_wp2_with fail
      go_region_held3 (fun v => v.cell? ⟨S, 0, none⟩ = some (.int .i64 m) ∧ v.cell? ⟨S, 1, none⟩ = some (.slice p K q)) (first | with_reducible exact KC.out _ hb1 | with_reducible exact KC.out _ hbB | with_reducible exact KC.out _ hb8 | with_reducible exact KC.out _ hb9 | exact ⟨k0.trans (KC.out _ hbI).1, k1.trans (KC.out _ hbI).2⟩)
        ((first
          | (go_at_call 54; (first | ((with_reducible refine Calls.mono (INS.out _ R8 hb9 sz8 hg9) ?_); rintro r w10 ⟨⟨a8, n8, c8, rfl, l8, g8⟩, k0, k1⟩; have hbI := hb9) | ((with_reducible refine Calls.mono (INS.out _ R9 hb8 sz9 hg8) ?_); rintro r w10 ⟨⟨a8, n8, c8, rfl, l8, g8⟩, k0, k1⟩; have hbI := hb8)))
          | (go_at_call 55; (first
            | ((with_reducible refine Calls.mono (FB.out _ hb1) ?_); rintro r w8 ⟨rfl, d8⟩; have hb8 : Below wr.heap.size wr w8 := hb1.trans (d8.mono hb1.size); obtain ⟨R8, hR8⟩ : ∃ R, w8.heap.size = R := ⟨_, rfl⟩; have hb9 : Below wr.heap.size wr (w8.alloc (.cells #[.int .i64 m, .slice p K q] 34)) := hb8.alloc hb8.size _; have sz8 : wr.heap.size ≤ R8 := (by rw [← hR8]; exact hb8.size); have hg9 : (w8.alloc (.cells #[.int .i64 m, .slice p K q] 34)).heap[R8]? = some (.cells #[.int .i64 m, .slice p K q] 34 (0, 0)) := (by rw [← hR8]; exact heap_alloc_new w8 _))
            | ((with_reducible refine Calls.mono (FB.out _ hbB) ?_); rintro r w8 ⟨rfl, d8⟩; have hb8 : Below wr.heap.size wr w8 := hbB.trans (d8.mono hbB.size); have sz9 : wr.heap.size ≤ R9 := (by omega); have hg8 : w8.heap[R9]? = some (.cells #[.int .i64 m, .slice p K q] 34 (0, 0)) := (d8.block R9 (lt_of_block gB)).trans gB)))))
      all_goals (go_wp2; go_ret; exact ⟨a8, n8, c8, rfl, l8, g8⟩)
    · obtain ⟨j, hj⟩ : ∃ j, (bs.map Bk.d).findIdx (ofLv (lv d)) = j := ⟨_, rfl⟩
      rw [hj] at hlt ⊢
      rw [List.length_map] at hlt
      have HJ : Hid _ := hj
      have hz : (0 : Int) ≤ (j : Int) := by omega
      have jn : j < n := by rw [← I.out.len]; exact hlt
      have jn2 : (j : Int) < (n : Int) := by omega
      obtain ⟨g, ha, hbg, hgs, c0, c1⟩ := I.out.row.at hlt
      have HA : Hid (a = some ⟨g, 0, none⟩) := ha
      have gS : g ≠ S := fun e => I.out.ne (by rw [ha, e])
      have cn := I.out.count hlt
      have mg := mergeB_any (lv bs[j].d) m bs[j].p p bs[j].q q bs[j].d d wr.drew ((I.out.row.own _ (List.getElem_mem hlt)).is.below ((Below.refl _ _).drew)) (I.out.own.is.below ((Below.refl _ _).drew)) (by omega)
      obtain ⟨x, hx⟩ : ∃ x, bs[j] = x := ⟨_, rfl⟩
      have HX : Hid _ := hx
      rw [hx] at c0 c1 mg
      obtain ⟨mi, hmi⟩ : ∃ m, lv x.d = m := ⟨_, rfl⟩
      obtain ⟨ki, hki⟩ : ∃ m, x.d.length = m := ⟨_, rfl⟩
      obtain ⟨xp, hxp⟩ : ∃ m, x.p = m := ⟨_, rfl⟩
      obtain ⟨xq, hxq⟩ : ∃ m, x.q = m := ⟨_, rfl⟩
      obtain ⟨E, hE⟩ : ∃ E, sortE (x.d ++ d) = E := ⟨_, rfl⟩
      have HE : Hid _ := hE
      rw [hmi] at c0 mg
      rw [hki, hxp, hxq] at c1 mg
      rw [HK.out, hE] at mg
      obtain ⟨KE, hKE⟩ : ∃ E', E.length = E' := ⟨_, rfl⟩
      obtain ⟨ME, hME⟩ : ∃ E', lv E = E' := ⟨_, rfl⟩
      have HKE : Hid _ := hKE
      have HME : Hid _ := hME
      have MG : Aside (Calls Try.prog 53 #[.agg #[.int .i64 mi, .slice xp ki xq], .agg #[.int .i64 m, .slice p K q]] wr.drew (MadeB wr.drew E)) := mg
      have hb1 : Below wr.heap.size wr wr.drew := (Below.refl _ _).drew
      have KC : Aside (∀ W, Below wr.heap.size wr W → W.cell? ⟨g, j * 2, none⟩ = some (.int .i64 mi) ∧ W.cell? ⟨g, j * 2 + 1, none⟩ = some (.slice xp ki xq) ∧ W.cell? ⟨S, 0, none⟩ = some (.int .i64 m) ∧ W.cell? ⟨S, 1, none⟩ = some (.slice p K q)) := fun W hW => ⟨(hW.cell (p := ⟨g, j * 2, none⟩) hgs).trans c0, (hW.cell (p := ⟨g, j * 2 + 1, none⟩) hgs).trans c1, (hW.cell (p := ⟨S, 0, none⟩) sS).trans y0, (hW.cell (p := ⟨S, 1, none⟩) sS).trans y1⟩
      have BX : Aside (wr.heap[S]? = some (.cells #[.int .i64 m, .slice p K q] 34 (0, 0))) := by have := I.out.box; rw [HM.out, HK.out] at this; exact this
      subst ha
      have mx := mixed
      clear hx hmi hki hxp hxq hE hKE hME mg c0 c1 cn hj FA
      go_wp2_with fail
      refine anyE_start (S := (fun v => v.cell? ⟨g, j * 2, none⟩ = some (.int .i64 mi) ∧ v.cell? ⟨g, j * 2 + 1, none⟩ = some (.slice xp ki xq) ∧ v.cell? ⟨S, 0, none⟩ = some (.int .i64 m) ∧ v.cell? ⟨S, 1, none⟩ = some (.slice p K q))) (L := 6) (by kernel_rfl) ?_
      refine anyE_take (i := 0) (oi := { dst := some 16, op := Op.move (Operand.tmp 0), type := 28, pos := "shared.go:69", after := #[], guard := none }) (v := ?_) rfl (by kernel_rfl) (by kernel_rfl) (by kernel_rfl) (by kernel_rfl) (fun _ _ _ h => h) (Or.inl ⟨by rfl, ?_⟩) (KC.out _ hb1) ?_
      rotate_left
      · (intro w hSw; (try dsimp only at hSw); go_simp; try with_reducible rfl)
      simp only [Act.put, List.setIfInBounds_toArray, List.set_cons_zero, List.set_cons_succ]
      refine anyE_take (i := 1) (oi := { dst := some 17, op := Op.move (Operand.tmp 5), type := 3, pos := "shared.go:69", after := #[], guard := none }) (v := ?_) rfl (by kernel_rfl) (by kernel_rfl) (by kernel_rfl) (by kernel_rfl) (fun _ _ _ h => h) (Or.inl ⟨by rfl, ?_⟩) (KC.out _ hb1) ?_
      rotate_left
      · (intro w hSw; (try dsimp only at hSw); go_simp; try with_reducible rfl)
      simp only [Act.put, List.setIfInBounds_toArray, List.set_cons_zero, List.set_cons_succ]
      refine anyE_take (i := 2) (oi := { dst := some 18, op := Op.indexAddr 28 (Operand.tmp 16) (Operand.tmp 17), type := 0, pos := "shared.go:69", after := #[{ on := 0, ground := Ground.data }, { on := 1, ground := Ground.data }], guard := none }) (v := ?_) rfl (by kernel_rfl) (by kernel_rfl) (by kernel_rfl) (by kernel_rfl) (fun _ _ _ h => h) (Or.inl ⟨by rfl, ?_⟩) (KC.out _ hb1) ?_
      rotate_left
      · (intro w hSw; (try dsimp only at hSw); go_simp; try with_reducible rfl)
      simp only [Act.put, List.setIfInBounds_toArray, List.set_cons_zero, List.set_cons_succ]
      refine anyE_take (i := 3) (oi := { dst := some 19, op := Op.load 34 (Operand.tmp 18), type := 34, pos := "shared.go:69", after := #[{ on := 2, ground := Ground.data }], guard := none }) (v := ?_) rfl (by kernel_rfl) (by kernel_rfl) (by kernel_rfl) (by kernel_rfl) (fun _ _ _ h => h) (Or.inl ⟨by rfl, ?_⟩) (KC.out _ hb1) ?_
      rotate_left
      · (intro w hSw; (try dsimp only at hSw); go_simp; try with_reducible rfl)
      simp only [Act.put, List.setIfInBounds_toArray, List.set_cons_zero, List.set_cons_succ]
      refine anyE_take (i := 4) (oi := { dst := some 20, op := Op.load 34 (Operand.tmp 3), type := 34, pos := "shared.go:69", after := #[], guard := none }) (v := ?_) rfl (by kernel_rfl) (by kernel_rfl) (by kernel_rfl) (by kernel_rfl) (fun _ _ _ h => h) (Or.inl ⟨by rfl, ?_⟩) (KC.out _ hb1) ?_
      rotate_left
      · (intro w hSw; (try dsimp only at hSw); go_simp; try with_reducible rfl)
      simp only [Act.put, List.setIfInBounds_toArray, List.set_cons_zero, List.set_cons_succ]
      refine anyE_ready (rs := [5]) (by kernel_rfl) (by simp) ?_
      refine AllE.cons (o := { dst := some 21, op := Op.call { callee := Callee.value (Operand.func 53), args := #[Operand.tmp 19, Operand.tmp 20], argTypes := #[34, 34] }, type := 34, pos := "shared.go:69", after := #[{ on := 3, ground := Ground.data }, { on := 4, ground := Ground.data }], guard := none }) rfl (fun Kt hKt => ?_) ?_
      · go_simp
        (with_reducible refine Calls.mono MG.out ?_)
        rintro r w2 ⟨r2, t2, rfl, o2, d2⟩
        have hb2 : Below wr.heap.size wr w2 := hb1.trans (d2.mono hb1.size)
        rw [show lvl E.length = ME from HME.out, HKE.out]
        go_wp2_with fail
        refine hKt.out _ _ (fun _ => KC.out _ hb2) ?_
        clear hKt Kt
        try simp only [Act.put, List.setIfInBounds_toArray, List.set_cons_zero, List.set_cons_succ]
        refine anyE_ready (rs := [6]) (by kernel_rfl) (by simp) ?_
        refine AllE.cons (o := { dst := none, op := Op.store 34 (Operand.tmp 3) (Operand.tmp 21), type := 0, pos := "shared.go:69", after := #[{ on := 5, ground := Ground.data }, { on := 5, ground := Ground.chain }, { on := 0, ground := Ground.phase }, { on := 1, ground := Ground.phase }, { on := 2, ground := Ground.phase }, { on := 3, ground := Ground.phase }, { on := 4, ground := Ground.phase }, { on := 5, ground := Ground.phase }], guard := none }) rfl (fun Kt hKt => ?_) ?_
        · have z0 := shr0 ((hb2.block S sS).trans BX.out)
          have z1 := shr1 ((hb2.block S sS).trans BX.out)
          have zf0 := shrf ((hb2.block S sS).trans BX.out) 0
          have zf1 := shrf ((hb2.block S sS).trans BX.out) 1
          go_simp
          refine hKt.out _ _ (fun h => absurd rfl h) ?_
          clear hKt Kt
          try simp only [Act.put, List.setIfInBounds_toArray, List.set_cons_zero, List.set_cons_succ]
          refine anyE_done (by kernel_rfl) ?_ _
          obtain ⟨W3, hW3⟩ : ∃ W, (w2.setCell ⟨S, 0, none⟩ (.int .i64 ME)).setCell ⟨S, 1, none⟩ (.slice r2 KE t2) = W := ⟨_, rfl⟩
          have HW3 : Hid _ := hW3
          have I2 : Aside (LaidInv w base S T Z (some ⟨g, 0, none⟩) n cap bs d p q w2) := I.out.on hb2
          have O2 : Aside (OwnE w2 base (.slice r2 E.length t2) E) := o2.low (Nat.le_trans hbase I.out.grew.size)
          have r3 := I2.out.row.box I2.out.box I2.out.ne (.int .i64 ME) (.slice r2 KE t2)
          rw [hW3] at r3
          have dl := delete_any (some ⟨g, 0, none⟩) n cap j base bs W3 r3 I2.out.len jn
          obtain ⟨n1, hn1⟩ : ∃ n1, n - 1 = n1 := ⟨_, rfl⟩
          have HN1 : Hid _ := hn1
          rw [hn1] at dl
          clear r3 hW3 o2 d2 hb2 hn1 y0 y1 hb1 MG KC BX
          rw [HW3.out]
          go_wp2_with fail
          refine dl.mono ?_
          rintro r w4 ⟨rfl, t4⟩
          rw [← HN1.out] at t4
          have I4 := I2.out.merge (by omega) hlt HJ.out (by rw [HX.out]; exact HE.out) (by rw [HME.out, HKE.out]; exact HW3.out.symm) O2.out t4
          rw [HN1.out] at I4
          have y4 := shr0 I4.box
          rw [HME.out] at y4
          have fo := firstOf_any (some ⟨g, 0, none⟩) n1 cap ME ((bs.eraseIdx j).map Bk.d) w4 I4.row.raw (by rw [List.length_map]; exact I4.len) (by have := HN1.out; omega)
          have A4 : Aside (LaidInv w base S T Z (some ⟨g, 0, none⟩) n1 cap (bs.eraseIdx j) E r2 t2 w4) := I4
          clear I4 t4 dl I2 O2 I
          go_wp2_with fail
          refine fo.mono ?_
          rintro r w5 ⟨z5, rfl, fi5, b5⟩
          have I5 : Aside (LaidInv w base S T Z (some ⟨g, 0, none⟩) n1 cap (bs.eraseIdx j) E r2 t2 w5) := A4.out.on b5
          have F5 : Aside (FirstAt ((bs.eraseIdx j).map Bk.d) (ofLv (lv E)) z5) := by rw [HME.out]; exact fi5
          clear fi5 b5 fo A4
          go_wp2
          go_roundg n1
          case measure => have := HN1.out; omega
          case rel => exact ⟨n1, z5, _, E, r2, t2, rfl, rfl, Nat.le_refl _, by have := HN1.out; omega, F5, I5⟩
        exact AllE.nil
      exact AllE.nil
end Go.Proofs.Ytboccihcomaaoaa
