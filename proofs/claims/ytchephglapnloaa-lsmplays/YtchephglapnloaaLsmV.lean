/- The walk of the document's settle. -/
import Derived.Deep.LoopGhost
import Derived.Test.YtchephglapnloaaLsmS
namespace Go.Proofs.Ytchephglapnloaa
open Go.RowKit Go.Lib Go.Sort
set_option linter.unusedVariables false

set_option maxHeartbeats 4000000 in
set_option maxRecDepth 100000 in
theorem rsettle_any (B base : Nat) (ls T : List (List Ent)) (w : World) (h : RLsm w base B ls) (hs : Sett ls T) (hlen : ls.length ≤ 1000) (hsum : ls.flatten.length ≤ 5000) (hbase : base ≤ w.heap.size) :
    Calls Try.prog 35 #[.pointer (some ⟨B, 0, none⟩)] w fun r w' => r = .returned (.tuple #[]) ∧ RTurned w base B T w' := by
  have H : Aside (RLsm w base B ls) := h
  have HSE : Aside (Sett ls T) := hs
  have mx := mixed
  clear h hs
  go_enter Try.func35, Try.ntmps35
  go_wp2_with fail
  go_loopg [2, 3, 4, 5] (ls.length + 1) (fun kx s2 s3 s4 s5 wr => ∃ (g : Bool) (ks : List (List Ent)), s2 = .bool g ∧ Hid (g = true → ks.length + 1 ≤ kx) ∧ Hid (g = false → ks = T) ∧ Hid (ks.length ≤ 1000 ∧ ks.flatten.length ≤ 5000) ∧ Aside (Sett ks T) ∧ Aside (RLsm wr base B ks) ∧ Aside (w.grownBy wr (some B)))
  case atStart => exact ⟨true, ls, rfl, (fun _ => Nat.le_refl _ : true = true → ls.length + 1 ≤ ls.length + 1), (fun h => Bool.noConfusion h : true = false → ls = T), (⟨hlen, hsum⟩ : ls.length ≤ 1000 ∧ ls.flatten.length ≤ 5000), HSE, H, grownBy_below (Below.refl _ _)⟩
  case round =>
    clear HSE H hlen hsum
    rename World => wo
    obtain ⟨g, ks, rfl, HG1, HG2, HB, SE, R, GB⟩ := hrel
    cases g with
    | false =>
      have e : ks = T := HG2.out rfl
      subst e
      go_wp2
      go_end0
      exact ⟨rfl, R.out, GB.out⟩
    | true =>
      have hgk : ks.length + 1 ≤ gk := HG1.out rfl
      obtain ⟨a, cap, bs, hbs, hB, hcell, hcap, hmax, rb⟩ := R.out
      obtain ⟨n, hn⟩ : ∃ n, bs.length = n := ⟨_, rfl⟩
      have hln : ks.length = n := by rw [← hbs, List.length_map, hn]
      have HN : Hid _ := hn
      have HLN : Hid _ := hln
      have HBS : Hid (bs.map Bk.d = ks) := hbs
      rw [hn] at hcell hcap
      have CO : Aside (wo.heap[B]? = some (.cells #[.slice a n cap] 44 (0, 0))) := hcell
      have RO : Aside (RefB wo base a bs) := rb
      have n1k : n ≤ 1000 := by have := HB.out.1; omega
      have swo : w.heap.size ≤ wo.heap.size := GB.out.size
      unfold maxLen at hmax
      rw [hln] at hgk
      clear hcell rb hbs hn hln HG1 HG2
      go_wp2_with fail
      go_loopg [2, 3, 4, 5] (n + 1) (fun kx s2 s3 s4 s5 wr => ∃ (i : Nat), s2 = .bool false ∧ s3 = .int .i64 i ∧ i ≤ n ∧ n + 1 - i ≤ kx ∧ Aside (Below wo.heap.size wo wr) ∧ Aside (∀ j (hj : j + 1 < ks.length), j < i → lv (ks[j]'(by omega)) ≠ lv ks[j + 1]))
      case atStart => exact ⟨0, rfl, rfl, by omega, by omega, Below.refl _ _, (fun j _ h => absurd h (by omega) : ∀ j (hj : j + 1 < ks.length), j < 0 → lv (ks[j]'(by omega)) ≠ lv ks[j + 1])⟩
      case round =>
        obtain ⟨i, rfl, rfl, hi, hix, D, A⟩ := hrel
        have cB := (D.out.block B (lt_of_block CO.out)).trans CO.out
        have swr : wo.heap.size ≤ wr.heap.size := D.out.size
        have yB0 := lsm_cell cB
        have y1 : ∀ q, (wr.drewN q).cell? ⟨B, 0, none⟩ = some (.slice a n cap) := fun q => lsm_cell cB
        have CB : Aside (wr.heap[B]? = some (.cells #[.slice a n cap] 44 (0, 0))) := cB
        have RB : Aside (RefB wr base a bs) := RO.out.below D.out
        clear cB
        by_cases hlt : i + 1 < n
        · have hz : (i : Int) + 1 < (n : Int) := by omega
          have hib : i < bs.length := by rw [HN.out]; omega
          have hib1 : i + 1 < bs.length := by rw [HN.out]; omega
          have hik : i < ks.length := by rw [HLN.out]; omega
          have hik1 : i + 1 < ks.length := by rw [HLN.out]; omega
          obtain ⟨g, off, ha, hg, c0, c1⟩ := RB.out.cell hib
          obtain ⟨g', off', ha', _, e0, e1⟩ := RB.out.cell hib1
          rw [ha] at ha'
          simp only [Option.some.injEq, Addr.mk.injEq, and_true] at ha'
          obtain ⟨rfl, rfl⟩ := ha'
          have ex : ∀ (t : Nat) (hb : t < bs.length) (hk : t < ks.length), bs[t].d = ks[t] := fun t hb hk => by
            have : (bs.map Bk.d)[t]? = ks[t]? := by rw [HBS.out]
            rw [List.getElem?_map, List.getElem?_eq_getElem hb, List.getElem?_eq_getElem hk] at this
            simpa using this
          rw [ex i hib hik] at c0 c1
          rw [ex (i + 1) hib1 hik1] at e0 e1
          obtain ⟨x, hx⟩ : ∃ x, bs[i] = x := ⟨_, rfl⟩
          obtain ⟨x', hx'⟩ : ∃ x, bs[i + 1] = x := ⟨_, rfl⟩
          obtain ⟨d1, hd1⟩ : ∃ d, ks[i] = d := ⟨_, rfl⟩
          obtain ⟨d2, hd2⟩ : ∃ d, ks[i + 1] = d := ⟨_, rfl⟩
          have xd : x.d = d1 := by rw [← hx, ex i hib hik, hd1]
          have xd' : x'.d = d2 := by rw [← hx', ex (i + 1) hib1 hik1, hd2]
          rw [hx, hd1] at c1
          rw [hd1] at c0
          rw [hx', hd2] at e1
          rw [hd2] at e0
          obtain ⟨m1, hm1⟩ : ∃ m, lv d1 = m := ⟨_, rfl⟩
          obtain ⟨m2, hm2⟩ : ∃ m, lv d2 = m := ⟨_, rfl⟩
          obtain ⟨k1, hk1⟩ : ∃ m, d1.length = m := ⟨_, rfl⟩
          obtain ⟨k2, hk2⟩ : ∃ m, d2.length = m := ⟨_, rfl⟩
          obtain ⟨p1, hp1⟩ : ∃ m, x.p = m := ⟨_, rfl⟩
          obtain ⟨p2, hp2⟩ : ∃ m, x'.p = m := ⟨_, rfl⟩
          obtain ⟨q1, hq1⟩ : ∃ m, x.q = m := ⟨_, rfl⟩
          obtain ⟨q2, hq2⟩ : ∃ m, x'.q = m := ⟨_, rfl⟩
          have L1 : Aside (IsL wr p1 q1 d1) := by
            have := (RB.out.own x (by rw [← hx]; exact List.getElem_mem hib)).is
            rw [xd, hp1, hq1] at this
            exact this
          have L2 : Aside (IsL wr p2 q2 d2) := by
            have := (RB.out.own x' (by rw [← hx']; exact List.getElem_mem hib1)).is
            rw [xd', hp2, hq2] at this
            exact this
          rw [hm1] at c0
          rw [hm2] at e0
          rw [hk1, hp1, hq1] at c1
          rw [hk2, hp2, hq2] at e1
          have HD1 : Hid _ := hd1
          have HD2 : Hid _ := hd2
          have HK1 : Hid _ := hk1
          have HK2 : Hid _ := hk2
          have HM1 : Hid _ := hm1
          have HM2 : Hid _ := hm2
          have y2 : ∀ q, (wr.drewN q).cell? ⟨g, off + i * 2, none⟩ = some (.int .i64 m1) := fun q => c0
          have y3 : ∀ q, (wr.drewN q).cell? ⟨g, off + (i + 1) * 2, none⟩ = some (.int .i64 m2) := fun q => e0
          have j1 : (i : Int) < (n : Int) := by omega
          have j2 : IntKind.i64.wrap ((i : Int) + 1) = (i : Int) + 1 := by rw [IntKind.wrap_i64]; omega
          have j3 : ((i : Int) + 1).toNat = i + 1 := by omega
          have j4 : (0 : Int) ≤ (i : Int) + 1 := by omega
          have CC : Aside (wr.cell? ⟨g, off + i * 2 + 1, none⟩ = some (.slice p1 k1 q1) ∧ wr.cell? ⟨g, off + (i + 1) * 2 + 1, none⟩ = some (.slice p2 k2 q2)) := ⟨c1, e1⟩
          have HG : Hid (g < wr.heap.size) := hg
          subst ha
          clear ex hx hx' xd xd' hd1 hd2 hm1 hm2 hk1 hk2 hp1 hp2 hq1 hq2 c0 c1 e0 e1
          by_cases ce : m1 = m2
          · have t1 : ((m1 : Int) == (m2 : Int)) = true := by simp [ce]
            have HCE : Hid _ := ce
            have y3' : ∀ q, (wr.drewN q).cell? ⟨g, off + (i + 1) * 2, none⟩ = some (.int .i64 m1) := fun q => by rw [HCE.out]; exact y3 q
            clear ce t1 y3
            go_wp2_with fail
            go_quiet (fail)
            clear y1 y2 y3' yB0
            go_upto_region 7 with fail
            obtain ⟨wl, hwl⟩ : ∃ W, wr.drewN nq = W := ⟨_, rfl⟩
            have bl : Below wr.heap.size wr wl := by rw [← hwl]; exact Grown.below ⟨nq, #[], by rw [grow_empty]⟩
            have CL : Aside (wl.heap[B]? = some (.cells #[.slice (some ⟨g, off, none⟩) n cap] 44 (0, 0))) := (bl.block B (lt_of_block CB.out)).trans CB.out
            have RL : Aside (RefB wl base (some ⟨g, off, none⟩) bs) := RB.out.below bl
            have M1 : Aside (IsL wl p1 q1 d1) := L1.out.below bl
            have M2 : Aside (IsL wl p2 q2 d2) := L2.out.below bl
            have DL : Aside (Below wo.heap.size wo wl) := D.out.trans (bl.mono swr)
            have gl : g < wl.heap.size := Nat.lt_of_lt_of_le HG.out bl.size
            have z1 : wl.cell? ⟨g, off + i * 2 + 1, none⟩ = some (.slice p1 k1 q1) := (bl.cell (p := ⟨g, off + i * 2 + 1, none⟩) HG.out).trans CC.out.1
            have z2 : wl.cell? ⟨g, off + (i + 1) * 2 + 1, none⟩ = some (.slice p2 k2 q2) := (bl.cell (p := ⟨g, off + (i + 1) * 2 + 1, none⟩) HG.out).trans CC.out.2
            have KC : Aside (∀ v, Below wl.heap.size wl v → v.cell? ⟨B, 0, none⟩ = some (.slice (some ⟨g, off, none⟩) n cap) ∧ v.cell? ⟨g, off + i * 2 + 1, none⟩ = some (.slice p1 k1 q1) ∧ v.cell? ⟨g, off + (i + 1) * 2 + 1, none⟩ = some (.slice p2 k2 q2)) := fun v hv => ⟨lsm_cell ((hv.block B (lt_of_block CL.out)).trans CL.out), (hv.cell (p := ⟨g, off + i * 2 + 1, none⟩) gl).trans z1, (hv.cell (p := ⟨g, off + (i + 1) * 2 + 1, none⟩) gl).trans z2⟩
            obtain ⟨Z, hZ⟩ : ∃ Z, wl.heap.size = Z := ⟨_, rfl⟩
            have BZ : base ≤ wl.heap.size := Nat.le_trans (Nat.le_trans hbase swo) DL.out.size
            obtain ⟨E, hE⟩ : ∃ E, sortE (d1 ++ d2) = E := ⟨_, rfl⟩
            obtain ⟨ME, hME⟩ : ∃ m, lv E = m := ⟨_, rfl⟩
            have HE : Hid _ := hE
            have HME : Hid _ := hME
            have hk12 : k1 + k2 ≤ 5000 := by
              have f := HB.out.2
              have h1 := two_sum (i := i) (ls := ks) hik1
              rw [HD1.out, HD2.out, HK1.out, HK2.out] at h1
              omega
            have HK12 : Hid _ := hk12
            have k5 : k1 ≤ 5000 := by omega
            have HWL : Hid _ := hwl
            have q0 : Below wl.heap.size wl wl.drew := bel_D _
            clear hwl bl CB RB L1 L2 CC HG z1 z2 D hE hME A
            rw [HWL.out]
            go_cut [4] from 35 to 55 (fun v wx => ∃ (S : Nat) (pa : Option Addr) (pc : Nat), v = .pointer (some ⟨S, 0, none⟩) ∧ wl.heap.size ≤ S ∧ Below wl.heap.size wl wx ∧ Box2 S (.int .i64 ME) (.slice pa (k1 + k2) pc) wx ∧ OwnE wx base (.slice pa (k1 + k2) pc) E)
            case first =>
              refine anyE_start (S := fun v => v.cell? ⟨B, 0, none⟩ = some (.slice (some ⟨g, off, none⟩) n cap) ∧ v.cell? ⟨g, off + i * 2 + 1, none⟩ = some (.slice p1 k1 q1) ∧ v.cell? ⟨g, off + (i + 1) * 2 + 1, none⟩ = some (.slice p2 k2 q2)) (L := 22) (by kernel_rfl) ?_
              refine anyE_take (i := 1) (oi := { dst := some 36, op := Op.move (Operand.tmp 0), type := 41, pos := "vergerref5.go:163", after := #[], guard := none }) (v := ?_) rfl (by kernel_rfl) (by kernel_rfl) (by kernel_rfl) (by kernel_rfl) (fun _ _ _ h => h) (Or.inl ⟨by rfl, ?_⟩) (KC.out _ q0) ?_
              rotate_left
              · (intro w hSw; (try dsimp only at hSw); go_simp; try with_reducible rfl)
              simp only [Act.put, List.setIfInBounds_toArray, List.set_cons_zero, List.set_cons_succ]
              refine anyE_take (i := 2) (oi := { dst := some 37, op := Op.nilCheck (Operand.tmp 36), type := 0, pos := "vergerref5.go:163", after := #[{ on := 1, ground := Ground.data }], guard := none }) (v := ?_) rfl (by kernel_rfl) (by kernel_rfl) (by kernel_rfl) (by kernel_rfl) (fun _ _ _ h => h) (Or.inl ⟨by rfl, ?_⟩) (KC.out _ q0) ?_
              rotate_left
              · (intro w hSw; (try dsimp only at hSw); go_simp; try with_reducible rfl)
              simp only [Act.put, List.setIfInBounds_toArray, List.set_cons_zero, List.set_cons_succ]
              refine anyE_take (i := 3) (oi := { dst := some 38, op := Op.fieldAddr 44 (Operand.tmp 37) 0, type := 0, pos := "vergerref5.go:163", after := #[{ on := 2, ground := Ground.data }], guard := none }) (v := ?_) rfl (by kernel_rfl) (by kernel_rfl) (by kernel_rfl) (by kernel_rfl) (fun _ _ _ h => h) (Or.inl ⟨by rfl, ?_⟩) (KC.out _ q0) ?_
              rotate_left
              · (intro w hSw; (try dsimp only at hSw); go_simp; try with_reducible rfl)
              simp only [Act.put, List.setIfInBounds_toArray, List.set_cons_zero, List.set_cons_succ]
              refine anyE_take (i := 4) (oi := { dst := some 39, op := Op.load 42 (Operand.tmp 38), type := 42, pos := "vergerref5.go:163", after := #[{ on := 3, ground := Ground.data }], guard := none }) (v := ?_) rfl (by kernel_rfl) (by kernel_rfl) (by kernel_rfl) (by kernel_rfl) (fun _ _ _ h => h) (Or.inl ⟨by rfl, ?_⟩) (KC.out _ q0) ?_
              rotate_left
              · (intro w hSw; (try dsimp only at hSw); go_simp; try with_reducible rfl)
              simp only [Act.put, List.setIfInBounds_toArray, List.set_cons_zero, List.set_cons_succ]
              refine anyE_take (i := 5) (oi := { dst := some 40, op := Op.move (Operand.tmp 3), type := 3, pos := "vergerref5.go:163", after := #[], guard := none }) (v := ?_) rfl (by kernel_rfl) (by kernel_rfl) (by kernel_rfl) (by kernel_rfl) (fun _ _ _ h => h) (Or.inl ⟨by rfl, ?_⟩) (KC.out _ q0) ?_
              rotate_left
              · (intro w hSw; (try dsimp only at hSw); go_simp; try with_reducible rfl)
              simp only [Act.put, List.setIfInBounds_toArray, List.set_cons_zero, List.set_cons_succ]
              refine anyE_take (i := 6) (oi := { dst := some 41, op := Op.indexAddr 42 (Operand.tmp 39) (Operand.tmp 40), type := 0, pos := "vergerref5.go:163", after := #[{ on := 4, ground := Ground.data }, { on := 5, ground := Ground.data }], guard := none }) (v := ?_) rfl (by kernel_rfl) (by kernel_rfl) (by kernel_rfl) (by kernel_rfl) (fun _ _ _ h => h) (Or.inl ⟨by rfl, ?_⟩) (KC.out _ q0) ?_
              rotate_left
              · (intro w hSw; (try dsimp only at hSw); go_simp; try with_reducible rfl)
              simp only [Act.put, List.setIfInBounds_toArray, List.set_cons_zero, List.set_cons_succ]
              refine anyE_take (i := 7) (oi := { dst := some 42, op := Op.fieldAddr 53 (Operand.tmp 41) 1, type := 0, pos := "vergerref5.go:163", after := #[{ on := 6, ground := Ground.data }], guard := none }) (v := ?_) rfl (by kernel_rfl) (by kernel_rfl) (by kernel_rfl) (by kernel_rfl) (fun _ _ _ h => h) (Or.inl ⟨by rfl, ?_⟩) (KC.out _ q0) ?_
              rotate_left
              · (intro w hSw; (try dsimp only at hSw); go_simp; try with_reducible rfl)
              simp only [Act.put, List.setIfInBounds_toArray, List.set_cons_zero, List.set_cons_succ]
              refine anyE_take (i := 8) (oi := { dst := some 43, op := Op.load 29 (Operand.tmp 42), type := 29, pos := "vergerref5.go:163", after := #[{ on := 7, ground := Ground.data }], guard := none }) (v := ?_) rfl (by kernel_rfl) (by kernel_rfl) (by kernel_rfl) (by kernel_rfl) (fun _ _ _ h => h) (Or.inl ⟨by rfl, ?_⟩) (KC.out _ q0) ?_
              rotate_left
              · (intro w hSw; (try dsimp only at hSw); go_simp; try with_reducible rfl)
              simp only [Act.put, List.setIfInBounds_toArray, List.set_cons_zero, List.set_cons_succ]
              refine anyE_take (i := 10) (oi := { dst := some 45, op := Op.move (Operand.tmp 0), type := 41, pos := "vergerref5.go:163", after := #[], guard := none }) (v := ?_) rfl (by kernel_rfl) (by kernel_rfl) (by kernel_rfl) (by kernel_rfl) (fun _ _ _ h => h) (Or.inl ⟨by rfl, ?_⟩) (KC.out _ q0) ?_
              rotate_left
              · (intro w hSw; (try dsimp only at hSw); go_simp; try with_reducible rfl)
              simp only [Act.put, List.setIfInBounds_toArray, List.set_cons_zero, List.set_cons_succ]
              refine anyE_take (i := 11) (oi := { dst := some 46, op := Op.nilCheck (Operand.tmp 45), type := 0, pos := "vergerref5.go:163", after := #[{ on := 10, ground := Ground.data }], guard := none }) (v := ?_) rfl (by kernel_rfl) (by kernel_rfl) (by kernel_rfl) (by kernel_rfl) (fun _ _ _ h => h) (Or.inl ⟨by rfl, ?_⟩) (KC.out _ q0) ?_
              rotate_left
              · (intro w hSw; (try dsimp only at hSw); go_simp; try with_reducible rfl)
              simp only [Act.put, List.setIfInBounds_toArray, List.set_cons_zero, List.set_cons_succ]
              refine anyE_take (i := 12) (oi := { dst := some 47, op := Op.fieldAddr 44 (Operand.tmp 46) 0, type := 0, pos := "vergerref5.go:163", after := #[{ on := 11, ground := Ground.data }], guard := none }) (v := ?_) rfl (by kernel_rfl) (by kernel_rfl) (by kernel_rfl) (by kernel_rfl) (fun _ _ _ h => h) (Or.inl ⟨by rfl, ?_⟩) (KC.out _ q0) ?_
              rotate_left
              · (intro w hSw; (try dsimp only at hSw); go_simp; try with_reducible rfl)
              simp only [Act.put, List.setIfInBounds_toArray, List.set_cons_zero, List.set_cons_succ]
              refine anyE_take (i := 13) (oi := { dst := some 48, op := Op.load 42 (Operand.tmp 47), type := 42, pos := "vergerref5.go:163", after := #[{ on := 12, ground := Ground.data }], guard := none }) (v := ?_) rfl (by kernel_rfl) (by kernel_rfl) (by kernel_rfl) (by kernel_rfl) (fun _ _ _ h => h) (Or.inl ⟨by rfl, ?_⟩) (KC.out _ q0) ?_
              rotate_left
              · (intro w hSw; (try dsimp only at hSw); go_simp; try with_reducible rfl)
              simp only [Act.put, List.setIfInBounds_toArray, List.set_cons_zero, List.set_cons_succ]
              refine anyE_take (i := 14) (oi := { dst := some 49, op := Op.move (Operand.tmp 3), type := 3, pos := "vergerref5.go:163", after := #[], guard := none }) (v := ?_) rfl (by kernel_rfl) (by kernel_rfl) (by kernel_rfl) (by kernel_rfl) (fun _ _ _ h => h) (Or.inl ⟨by rfl, ?_⟩) (KC.out _ q0) ?_
              rotate_left
              · (intro w hSw; (try dsimp only at hSw); go_simp; try with_reducible rfl)
              simp only [Act.put, List.setIfInBounds_toArray, List.set_cons_zero, List.set_cons_succ]
              refine anyE_take (i := 15) (oi := { dst := some 50, op := Op.binOp BinOp.add 3 (Operand.tmp 49) (Operand.const (Value.int IntKind.i64 1)) 3, type := 3, pos := "vergerref5.go:163", after := #[{ on := 14, ground := Ground.data }], guard := none }) (v := ?_) rfl (by kernel_rfl) (by kernel_rfl) (by kernel_rfl) (by kernel_rfl) (fun _ _ _ h => h) (Or.inl ⟨by rfl, ?_⟩) (KC.out _ q0) ?_
              rotate_left
              · (intro w hSw; (try dsimp only at hSw); go_simp; try with_reducible rfl)
              simp only [Act.put, List.setIfInBounds_toArray, List.set_cons_zero, List.set_cons_succ]
              refine anyE_take (i := 16) (oi := { dst := some 51, op := Op.indexAddr 42 (Operand.tmp 48) (Operand.tmp 50), type := 0, pos := "vergerref5.go:163", after := #[{ on := 13, ground := Ground.data }, { on := 15, ground := Ground.data }], guard := none }) (v := ?_) rfl (by kernel_rfl) (by kernel_rfl) (by kernel_rfl) (by kernel_rfl) (fun _ _ _ h => h) (Or.inl ⟨by rfl, ?_⟩) (KC.out _ q0) ?_
              rotate_left
              · (intro w hSw; (try dsimp only at hSw); go_simp; try with_reducible rfl)
              simp only [Act.put, List.setIfInBounds_toArray, List.set_cons_zero, List.set_cons_succ]
              refine anyE_take (i := 17) (oi := { dst := some 52, op := Op.fieldAddr 53 (Operand.tmp 51) 1, type := 0, pos := "vergerref5.go:163", after := #[{ on := 16, ground := Ground.data }], guard := none }) (v := ?_) rfl (by kernel_rfl) (by kernel_rfl) (by kernel_rfl) (by kernel_rfl) (fun _ _ _ h => h) (Or.inl ⟨by rfl, ?_⟩) (KC.out _ q0) ?_
              rotate_left
              · (intro w hSw; (try dsimp only at hSw); go_simp; try with_reducible rfl)
              simp only [Act.put, List.setIfInBounds_toArray, List.set_cons_zero, List.set_cons_succ]
              refine anyE_take (i := 18) (oi := { dst := some 53, op := Op.load 29 (Operand.tmp 52), type := 29, pos := "vergerref5.go:163", after := #[{ on := 17, ground := Ground.data }], guard := none }) (v := ?_) rfl (by kernel_rfl) (by kernel_rfl) (by kernel_rfl) (by kernel_rfl) (fun _ _ _ h => h) (Or.inl ⟨by rfl, ?_⟩) (KC.out _ q0) ?_
              rotate_left
              · (intro w hSw; (try dsimp only at hSw); go_simp; try with_reducible rfl)
              simp only [Act.put, List.setIfInBounds_toArray, List.set_cons_zero, List.set_cons_succ]
              refine anyE_ready (rs := [0, 21]) (by kernel_rfl) (by simp) ?_
              refine AllE.cons (o := { dst := some 35, op := Op.buildSlice 29 0 #[], type := 29, pos := "vergerref5.go:163", after := #[], guard := none }) rfl (fun Kt hKt => ?_) ?_
              · have x0 : Below wl.heap.size wl (wl.alloc (.cells #[] 28)).drew := (bel_alloc _ _).drew
                go_simp
                refine hKt.out _ _ (fun _ => KC.out _ x0) ?_
                clear hKt Kt
                try simp only [Act.put, List.setIfInBounds_toArray, List.set_cons_zero, List.set_cons_succ]
                refine anyE_ready (rs := [9, 21]) (by kernel_rfl) (by simp) ?_
                refine AllE.cons (o := { dst := some 44, op := Op.call { callee := Callee.builtin Builtin.append, args := #[Operand.tmp 35, Operand.tmp 43], argTypes := #[29, 29] }, type := 29, pos := "vergerref5.go:163", after := #[{ on := 0, ground := Ground.data }, { on := 8, ground := Ground.data }], guard := none }) rfl (fun Kt hKt => ?_) ?_
                · obtain ⟨r1, t1, w1, h1, o1, b1⟩ := pushE0 (g := Z) (cap := q1) ((M1.out.reads HK1.out).below x0) (by omega)
                  have x1 : Below wl.heap.size wl w1 := x0.trans (b1.mono x0.size)
                  have v0 : wl.heap.size ≤ ((wl.alloc (.cells #[] 28)).drew).heap.size := x0.size
                  have v1 : ((wl.alloc (.cells #[] 28)).drew).heap.size ≤ w1.heap.size := b1.size
                  obtain ⟨Y1, hY1⟩ : ∃ Y, w1.heap.size = Y := ⟨_, rfl⟩
                  refine step_app ((wl.alloc (.cells #[] 28)).drew) (by rfl) _ _ 29 29 (by rfl) (.slice (some ⟨Z, 0, none⟩) 0 0) (.slice p1 k1 q1) (by rfl) (by rfl) (.slice r1 k1 t1) w1 h1 ?_
                  refine hKt.out _ _ (fun _ => KC.out _ x1) ?_
                  clear hKt Kt
                  try simp only [Act.put, List.setIfInBounds_toArray, List.set_cons_zero, List.set_cons_succ]
                  refine anyE_ready (rs := [19, 21]) (by kernel_rfl) (by simp) ?_
                  refine AllE.cons (o := { dst := some 54, op := Op.call { callee := Callee.builtin Builtin.append, args := #[Operand.tmp 44, Operand.tmp 53], argTypes := #[29, 29] }, type := 29, pos := "vergerref5.go:163", after := #[{ on := 9, ground := Ground.data }, { on := 18, ground := Ground.data }, { on := 9, ground := Ground.chain }], guard := none }) rfl (fun Kt hKt => ?_) ?_
                  · obtain ⟨r2, t2, w2, h2, l2, b2, kp2⟩ := pushE (cap := q2) o1 HK1.out HK2.out ((M2.out.reads HK2.out).below x1) (by omega) v1
                    have x2 : Below wl.heap.size wl w2 := x1.trans (b2.mono v0)
                    obtain ⟨Y2, hY2⟩ : ∃ Y, w2.heap.size = Y := ⟨_, rfl⟩
                    refine step_app w1 (by rfl) _ _ 29 29 (by rfl) (.slice r1 k1 t1) (.slice p2 k2 q2) (by rfl) (by rfl) (.slice r2 (k1 + k2) t2) w2 h2 ?_
                    refine hKt.out _ _ (fun _ => KC.out _ x2) ?_
                    clear hKt Kt
                    try simp only [Act.put, List.setIfInBounds_toArray, List.set_cons_zero, List.set_cons_succ]
                    refine anyE_ready (rs := [20, 21]) (by kernel_rfl) (by simp) ?_
                    refine AllE.cons (o := { dst := some 55, op := Op.call { callee := Callee.value (Operand.func 34), args := #[Operand.tmp 54], argTypes := #[29] }, type := 53, pos := "vergerref5.go:163", after := #[{ on := 19, ground := Ground.data }, { on := 19, ground := Ground.chain }], guard := none }) rfl (fun Kt hKt => ?_) ?_
                    · go_simp
                      (with_reducible refine Calls.mono (refOfO (w := w2) l2 (by rw [List.length_append, HK1.out, HK2.out]) (by omega) HE.out HME.out) ?_)
                      rintro r w3 ⟨pa, pc, rfl, o3, b3⟩
                      have x3 : Below wl.heap.size wl w3 := x2.trans (b3.mono x2.size)
                      obtain ⟨Y3, hY3⟩ : ∃ Y, w3.heap.size = Y := ⟨_, rfl⟩
                      go_wp2_with fail
                      refine hKt.out _ _ (fun _ => KC.out _ x3) ?_
                      clear hKt Kt
                      try simp only [Act.put, List.setIfInBounds_toArray, List.set_cons_zero, List.set_cons_succ]
                      refine anyE_ready (rs := [21]) (by kernel_rfl) (by simp) ?_
                      refine AllE.cons (o := { dst := some 4, op := Op.alloc 53, type := 0, pos := "vergerref5.go:163", after := #[], guard := none }) rfl (fun Kt hKt => ?_) ?_
                      · have x21 : Below wl.heap.size wl (w3.alloc (.cells #[.int .i64 0, .slice none 0 0] 53)) := x3.trans ((bel_alloc _ _).mono x3.size)
                        have bx : ((w3.alloc (.cells #[.int .i64 0, .slice none 0 0] 53))).heap[Y3]? = some (.cells #[.int .i64 0, .slice none 0 0] 53 (0, 0)) := row_alloc hY3 _ _
                        go_simp
                        refine hKt.out _ _ (fun _ => KC.out _ x21) ?_
                        clear hKt Kt
                        try simp only [Act.put, List.setIfInBounds_toArray, List.set_cons_zero, List.set_cons_succ]
                        refine anyE_ready (rs := [22]) (by kernel_rfl) (by simp) ?_
                        refine AllE.cons (o := { dst := none, op := Op.store 53 (Operand.tmp 4) (Operand.tmp 55), type := 0, pos := "vergerref5.go:163", after := #[{ on := 21, ground := Ground.data }, { on := 20, ground := Ground.data }, { on := 20, ground := Ground.chain }, { on := 0, ground := Ground.phase }, { on := 1, ground := Ground.phase }, { on := 2, ground := Ground.phase }, { on := 3, ground := Ground.phase }, { on := 4, ground := Ground.phase }, { on := 5, ground := Ground.phase }, { on := 6, ground := Ground.phase }, { on := 7, ground := Ground.phase }, { on := 8, ground := Ground.phase }, { on := 9, ground := Ground.phase }, { on := 10, ground := Ground.phase }, { on := 11, ground := Ground.phase }, { on := 12, ground := Ground.phase }, { on := 13, ground := Ground.phase }, { on := 14, ground := Ground.phase }, { on := 15, ground := Ground.phase }, { on := 16, ground := Ground.phase }, { on := 17, ground := Ground.phase }, { on := 18, ground := Ground.phase }, { on := 19, ground := Ground.phase }, { on := 20, ground := Ground.phase }, { on := 21, ground := Ground.phase }], guard := none }) rfl (fun Kt hKt => ?_) ?_
                        · go_simp
                          refine hKt.out _ _ (fun h => absurd rfl h) ?_
                          clear hKt Kt
                          try simp only [Act.put, List.setIfInBounds_toArray, List.set_cons_zero, List.set_cons_succ]
                          refine anyE_done (by kernel_rfl) ?_ _
                          go_wp2_with fail
                          go_meet
                          exact ⟨Y3, pa, pc, rfl, by rw [← hY3]; exact x3.size, x3.trans ((bel_alloc _ _).mono x3.size), by rw [← hY3]; exact Box2.new _ _ _ _, (o3.below (bel_alloc _ _)).low (Nat.le_trans BZ x2.size)⟩
                        exact AllE.nil
                      exact AllE.nil
                    refine AllE.cons (o := { dst := some 4, op := Op.alloc 53, type := 0, pos := "vergerref5.go:163", after := #[], guard := none }) rfl (fun Kt hKt => ?_) ?_
                    · have x21 : Below wl.heap.size wl (w2.alloc (.cells #[.int .i64 0, .slice none 0 0] 53)) := x2.trans ((bel_alloc _ _).mono x2.size)
                      have bx : ((w2.alloc (.cells #[.int .i64 0, .slice none 0 0] 53))).heap[Y2]? = some (.cells #[.int .i64 0, .slice none 0 0] 53 (0, 0)) := row_alloc hY2 _ _
                      have l2 := l2.below (bel_alloc _ (.cells #[.int .i64 0, .slice none 0 0] 53))
                      go_simp
                      refine hKt.out _ _ (fun _ => KC.out _ x21) ?_
                      clear hKt Kt
                      try simp only [Act.put, List.setIfInBounds_toArray, List.set_cons_zero, List.set_cons_succ]
                      refine anyE_ready (rs := [20]) (by kernel_rfl) (by simp) ?_
                      refine AllE.cons (o := { dst := some 55, op := Op.call { callee := Callee.value (Operand.func 34), args := #[Operand.tmp 54], argTypes := #[29] }, type := 53, pos := "vergerref5.go:163", after := #[{ on := 19, ground := Ground.data }, { on := 19, ground := Ground.chain }], guard := none }) rfl (fun Kt hKt => ?_) ?_
                      · go_simp
                        (with_reducible refine Calls.mono (refOfO (w := (w2.alloc (.cells #[.int .i64 0, .slice none 0 0] 53))) l2 (by rw [List.length_append, HK1.out, HK2.out]) (by omega) HE.out HME.out) ?_)
                        rintro r w3 ⟨pa, pc, rfl, o3, b3⟩
                        have x3 : Below wl.heap.size wl w3 := x21.trans (b3.mono x21.size)
                        have tl := lt_of_block bx
                        have bx := (b3.block _ (lt_of_block bx)).trans bx
                        obtain ⟨Y3, hY3⟩ : ∃ Y, w3.heap.size = Y := ⟨_, rfl⟩
                        go_wp2_with fail
                        refine hKt.out _ _ (fun _ => KC.out _ x3) ?_
                        clear hKt Kt
                        try simp only [Act.put, List.setIfInBounds_toArray, List.set_cons_zero, List.set_cons_succ]
                        refine anyE_ready (rs := [22]) (by kernel_rfl) (by simp) ?_
                        refine AllE.cons (o := { dst := none, op := Op.store 53 (Operand.tmp 4) (Operand.tmp 55), type := 0, pos := "vergerref5.go:163", after := #[{ on := 21, ground := Ground.data }, { on := 20, ground := Ground.data }, { on := 20, ground := Ground.chain }, { on := 0, ground := Ground.phase }, { on := 1, ground := Ground.phase }, { on := 2, ground := Ground.phase }, { on := 3, ground := Ground.phase }, { on := 4, ground := Ground.phase }, { on := 5, ground := Ground.phase }, { on := 6, ground := Ground.phase }, { on := 7, ground := Ground.phase }, { on := 8, ground := Ground.phase }, { on := 9, ground := Ground.phase }, { on := 10, ground := Ground.phase }, { on := 11, ground := Ground.phase }, { on := 12, ground := Ground.phase }, { on := 13, ground := Ground.phase }, { on := 14, ground := Ground.phase }, { on := 15, ground := Ground.phase }, { on := 16, ground := Ground.phase }, { on := 17, ground := Ground.phase }, { on := 18, ground := Ground.phase }, { on := 19, ground := Ground.phase }, { on := 20, ground := Ground.phase }, { on := 21, ground := Ground.phase }], guard := none }) rfl (fun Kt hKt => ?_) ?_
                        · have bb := box2_row bx
                          have e0 := bb.c0
                          have e1 := bb.c1
                          have f0 := bb.f0
                          have f1 := bb.f1
                          go_simp
                          refine hKt.out _ _ (fun h => absurd rfl h) ?_
                          clear hKt Kt
                          try simp only [Act.put, List.setIfInBounds_toArray, List.set_cons_zero, List.set_cons_succ]
                          refine anyE_done (by kernel_rfl) ?_ _
                          go_wp2_with fail
                          go_meet
                          have tz : wl.heap.size ≤ Y2 := by have := x2.size; omega
                          exact ⟨Y2, pa, pc, rfl, tz, Below.setCell (Below.setCell x3 (p := ⟨Y2, 0, none⟩) tz _) (p := ⟨Y2, 1, none⟩) tz _, bb.set _ _, (OwnE.set (OwnE.set o3 (p := ⟨Y2, 0, none⟩) tl _) (p := ⟨Y2, 1, none⟩) tl _).low (Nat.le_trans BZ x21.size)⟩
                        exact AllE.nil
                      exact AllE.nil
                    exact AllE.nil
                  refine AllE.cons (o := { dst := some 4, op := Op.alloc 53, type := 0, pos := "vergerref5.go:163", after := #[], guard := none }) rfl (fun Kt hKt => ?_) ?_
                  · have x21 : Below wl.heap.size wl (w1.alloc (.cells #[.int .i64 0, .slice none 0 0] 53)) := x1.trans ((bel_alloc _ _).mono x1.size)
                    have bx : ((w1.alloc (.cells #[.int .i64 0, .slice none 0 0] 53))).heap[Y1]? = some (.cells #[.int .i64 0, .slice none 0 0] 53 (0, 0)) := row_alloc hY1 _ _
                    have o1 := o1.below (bel_alloc _ (.cells #[.int .i64 0, .slice none 0 0] 53))
                    go_simp
                    refine hKt.out _ _ (fun _ => KC.out _ x21) ?_
                    clear hKt Kt
                    try simp only [Act.put, List.setIfInBounds_toArray, List.set_cons_zero, List.set_cons_succ]
                    refine anyE_ready (rs := [19]) (by kernel_rfl) (by simp) ?_
                    refine AllE.cons (o := { dst := some 54, op := Op.call { callee := Callee.builtin Builtin.append, args := #[Operand.tmp 44, Operand.tmp 53], argTypes := #[29, 29] }, type := 29, pos := "vergerref5.go:163", after := #[{ on := 9, ground := Ground.data }, { on := 18, ground := Ground.data }, { on := 9, ground := Ground.chain }], guard := none }) rfl (fun Kt hKt => ?_) ?_
                    · obtain ⟨r2, t2, w2, h2, l2, b2, kp2⟩ := pushE (cap := q2) o1 HK1.out HK2.out ((M2.out.reads HK2.out).below x21) (by omega) (Nat.le_trans v1 (bel_alloc _ _).size)
                      have x2 : Below wl.heap.size wl w2 := x21.trans (b2.mono v0)
                      have bx := (kp2.block _ _ _ _ bx (by decide)).trans bx
                      obtain ⟨Y2, hY2⟩ : ∃ Y, w2.heap.size = Y := ⟨_, rfl⟩
                      refine step_app (w1.alloc (.cells #[.int .i64 0, .slice none 0 0] 53)) (by rfl) _ _ 29 29 (by rfl) (.slice r1 k1 t1) (.slice p2 k2 q2) (by rfl) (by rfl) (.slice r2 (k1 + k2) t2) w2 h2 ?_
                      refine hKt.out _ _ (fun _ => KC.out _ x2) ?_
                      clear hKt Kt
                      try simp only [Act.put, List.setIfInBounds_toArray, List.set_cons_zero, List.set_cons_succ]
                      refine anyE_ready (rs := [20]) (by kernel_rfl) (by simp) ?_
                      refine AllE.cons (o := { dst := some 55, op := Op.call { callee := Callee.value (Operand.func 34), args := #[Operand.tmp 54], argTypes := #[29] }, type := 53, pos := "vergerref5.go:163", after := #[{ on := 19, ground := Ground.data }, { on := 19, ground := Ground.chain }], guard := none }) rfl (fun Kt hKt => ?_) ?_
                      · go_simp
                        (with_reducible refine Calls.mono (refOfO (w := w2) l2 (by rw [List.length_append, HK1.out, HK2.out]) (by omega) HE.out HME.out) ?_)
                        rintro r w3 ⟨pa, pc, rfl, o3, b3⟩
                        have x3 : Below wl.heap.size wl w3 := x2.trans (b3.mono x2.size)
                        have tl := lt_of_block bx
                        have bx := (b3.block _ (lt_of_block bx)).trans bx
                        obtain ⟨Y3, hY3⟩ : ∃ Y, w3.heap.size = Y := ⟨_, rfl⟩
                        go_wp2_with fail
                        refine hKt.out _ _ (fun _ => KC.out _ x3) ?_
                        clear hKt Kt
                        try simp only [Act.put, List.setIfInBounds_toArray, List.set_cons_zero, List.set_cons_succ]
                        refine anyE_ready (rs := [22]) (by kernel_rfl) (by simp) ?_
                        refine AllE.cons (o := { dst := none, op := Op.store 53 (Operand.tmp 4) (Operand.tmp 55), type := 0, pos := "vergerref5.go:163", after := #[{ on := 21, ground := Ground.data }, { on := 20, ground := Ground.data }, { on := 20, ground := Ground.chain }, { on := 0, ground := Ground.phase }, { on := 1, ground := Ground.phase }, { on := 2, ground := Ground.phase }, { on := 3, ground := Ground.phase }, { on := 4, ground := Ground.phase }, { on := 5, ground := Ground.phase }, { on := 6, ground := Ground.phase }, { on := 7, ground := Ground.phase }, { on := 8, ground := Ground.phase }, { on := 9, ground := Ground.phase }, { on := 10, ground := Ground.phase }, { on := 11, ground := Ground.phase }, { on := 12, ground := Ground.phase }, { on := 13, ground := Ground.phase }, { on := 14, ground := Ground.phase }, { on := 15, ground := Ground.phase }, { on := 16, ground := Ground.phase }, { on := 17, ground := Ground.phase }, { on := 18, ground := Ground.phase }, { on := 19, ground := Ground.phase }, { on := 20, ground := Ground.phase }, { on := 21, ground := Ground.phase }], guard := none }) rfl (fun Kt hKt => ?_) ?_
                        · have bb := box2_row bx
                          have e0 := bb.c0
                          have e1 := bb.c1
                          have f0 := bb.f0
                          have f1 := bb.f1
                          go_simp
                          refine hKt.out _ _ (fun h => absurd rfl h) ?_
                          clear hKt Kt
                          try simp only [Act.put, List.setIfInBounds_toArray, List.set_cons_zero, List.set_cons_succ]
                          refine anyE_done (by kernel_rfl) ?_ _
                          go_wp2_with fail
                          go_meet
                          have tz : wl.heap.size ≤ Y1 := by have := x1.size; omega
                          exact ⟨Y1, pa, pc, rfl, tz, Below.setCell (Below.setCell x3 (p := ⟨Y1, 0, none⟩) tz _) (p := ⟨Y1, 1, none⟩) tz _, bb.set _ _, (OwnE.set (OwnE.set o3 (p := ⟨Y1, 0, none⟩) tl _) (p := ⟨Y1, 1, none⟩) tl _).low (Nat.le_trans BZ x2.size)⟩
                        exact AllE.nil
                      exact AllE.nil
                    exact AllE.nil
                  exact AllE.nil
                refine AllE.cons (o := { dst := some 4, op := Op.alloc 53, type := 0, pos := "vergerref5.go:163", after := #[], guard := none }) rfl (fun Kt hKt => ?_) ?_
                · have x21 : Below wl.heap.size wl ((wl.alloc (.cells #[] 28)).alloc (.cells #[.int .i64 0, .slice none 0 0] 53)).drew := ((bel_alloc wl _).alloc (by simp) _).drew
                  have bx : (((wl.alloc (.cells #[] 28)).alloc (.cells #[.int .i64 0, .slice none 0 0] 53)).drew).heap[(Z + 1)]? = some (.cells #[.int .i64 0, .slice none 0 0] 53 (0, 0)) := row_alloc (show (wl.alloc (.cells #[] 28)).heap.size = Z + 1 by simp [hZ]) _ _
                  go_simp
                  refine hKt.out _ _ (fun _ => KC.out _ x21) ?_
                  clear hKt Kt
                  try simp only [Act.put, List.setIfInBounds_toArray, List.set_cons_zero, List.set_cons_succ]
                  refine anyE_ready (rs := [9]) (by kernel_rfl) (by simp) ?_
                  refine AllE.cons (o := { dst := some 44, op := Op.call { callee := Callee.builtin Builtin.append, args := #[Operand.tmp 35, Operand.tmp 43], argTypes := #[29, 29] }, type := 29, pos := "vergerref5.go:163", after := #[{ on := 0, ground := Ground.data }, { on := 8, ground := Ground.data }], guard := none }) rfl (fun Kt hKt => ?_) ?_
                  · obtain ⟨r1, t1, w1, h1, o1, b1⟩ := pushE0 (g := Z) (cap := q1) ((M1.out.reads HK1.out).below x21) (by omega)
                    have x1 : Below wl.heap.size wl w1 := x21.trans (b1.mono x21.size)
                    have v0 : wl.heap.size ≤ (((wl.alloc (.cells #[] 28)).alloc (.cells #[.int .i64 0, .slice none 0 0] 53)).drew).heap.size := x21.size
                    have v1 : (((wl.alloc (.cells #[] 28)).alloc (.cells #[.int .i64 0, .slice none 0 0] 53)).drew).heap.size ≤ w1.heap.size := b1.size
                    have bx := (b1.block _ (lt_of_block bx)).trans bx
                    obtain ⟨Y1, hY1⟩ : ∃ Y, w1.heap.size = Y := ⟨_, rfl⟩
                    refine step_app (((wl.alloc (.cells #[] 28)).alloc (.cells #[.int .i64 0, .slice none 0 0] 53)).drew) (by rfl) _ _ 29 29 (by rfl) (.slice (some ⟨Z, 0, none⟩) 0 0) (.slice p1 k1 q1) (by rfl) (by rfl) (.slice r1 k1 t1) w1 h1 ?_
                    refine hKt.out _ _ (fun _ => KC.out _ x1) ?_
                    clear hKt Kt
                    try simp only [Act.put, List.setIfInBounds_toArray, List.set_cons_zero, List.set_cons_succ]
                    refine anyE_ready (rs := [19]) (by kernel_rfl) (by simp) ?_
                    refine AllE.cons (o := { dst := some 54, op := Op.call { callee := Callee.builtin Builtin.append, args := #[Operand.tmp 44, Operand.tmp 53], argTypes := #[29, 29] }, type := 29, pos := "vergerref5.go:163", after := #[{ on := 9, ground := Ground.data }, { on := 18, ground := Ground.data }, { on := 9, ground := Ground.chain }], guard := none }) rfl (fun Kt hKt => ?_) ?_
                    · obtain ⟨r2, t2, w2, h2, l2, b2, kp2⟩ := pushE (cap := q2) o1 HK1.out HK2.out ((M2.out.reads HK2.out).below x1) (by omega) v1
                      have x2 : Below wl.heap.size wl w2 := x1.trans (b2.mono v0)
                      have bx := (kp2.block _ _ _ _ bx (by decide)).trans bx
                      obtain ⟨Y2, hY2⟩ : ∃ Y, w2.heap.size = Y := ⟨_, rfl⟩
                      refine step_app w1 (by rfl) _ _ 29 29 (by rfl) (.slice r1 k1 t1) (.slice p2 k2 q2) (by rfl) (by rfl) (.slice r2 (k1 + k2) t2) w2 h2 ?_
                      refine hKt.out _ _ (fun _ => KC.out _ x2) ?_
                      clear hKt Kt
                      try simp only [Act.put, List.setIfInBounds_toArray, List.set_cons_zero, List.set_cons_succ]
                      refine anyE_ready (rs := [20]) (by kernel_rfl) (by simp) ?_
                      refine AllE.cons (o := { dst := some 55, op := Op.call { callee := Callee.value (Operand.func 34), args := #[Operand.tmp 54], argTypes := #[29] }, type := 53, pos := "vergerref5.go:163", after := #[{ on := 19, ground := Ground.data }, { on := 19, ground := Ground.chain }], guard := none }) rfl (fun Kt hKt => ?_) ?_
                      · go_simp
                        (with_reducible refine Calls.mono (refOfO (w := w2) l2 (by rw [List.length_append, HK1.out, HK2.out]) (by omega) HE.out HME.out) ?_)
                        rintro r w3 ⟨pa, pc, rfl, o3, b3⟩
                        have x3 : Below wl.heap.size wl w3 := x2.trans (b3.mono x2.size)
                        have tl := lt_of_block bx
                        have bx := (b3.block _ (lt_of_block bx)).trans bx
                        obtain ⟨Y3, hY3⟩ : ∃ Y, w3.heap.size = Y := ⟨_, rfl⟩
                        go_wp2_with fail
                        refine hKt.out _ _ (fun _ => KC.out _ x3) ?_
                        clear hKt Kt
                        try simp only [Act.put, List.setIfInBounds_toArray, List.set_cons_zero, List.set_cons_succ]
                        refine anyE_ready (rs := [22]) (by kernel_rfl) (by simp) ?_
                        refine AllE.cons (o := { dst := none, op := Op.store 53 (Operand.tmp 4) (Operand.tmp 55), type := 0, pos := "vergerref5.go:163", after := #[{ on := 21, ground := Ground.data }, { on := 20, ground := Ground.data }, { on := 20, ground := Ground.chain }, { on := 0, ground := Ground.phase }, { on := 1, ground := Ground.phase }, { on := 2, ground := Ground.phase }, { on := 3, ground := Ground.phase }, { on := 4, ground := Ground.phase }, { on := 5, ground := Ground.phase }, { on := 6, ground := Ground.phase }, { on := 7, ground := Ground.phase }, { on := 8, ground := Ground.phase }, { on := 9, ground := Ground.phase }, { on := 10, ground := Ground.phase }, { on := 11, ground := Ground.phase }, { on := 12, ground := Ground.phase }, { on := 13, ground := Ground.phase }, { on := 14, ground := Ground.phase }, { on := 15, ground := Ground.phase }, { on := 16, ground := Ground.phase }, { on := 17, ground := Ground.phase }, { on := 18, ground := Ground.phase }, { on := 19, ground := Ground.phase }, { on := 20, ground := Ground.phase }, { on := 21, ground := Ground.phase }], guard := none }) rfl (fun Kt hKt => ?_) ?_
                        · have bb := box2_row bx
                          have e0 := bb.c0
                          have e1 := bb.c1
                          have f0 := bb.f0
                          have f1 := bb.f1
                          go_simp
                          refine hKt.out _ _ (fun h => absurd rfl h) ?_
                          clear hKt Kt
                          try simp only [Act.put, List.setIfInBounds_toArray, List.set_cons_zero, List.set_cons_succ]
                          refine anyE_done (by kernel_rfl) ?_ _
                          go_wp2_with fail
                          go_meet
                          have tz : wl.heap.size ≤ (Z + 1) := by omega
                          exact ⟨(Z + 1), pa, pc, rfl, tz, Below.setCell (Below.setCell x3 (p := ⟨(Z + 1), 0, none⟩) tz _) (p := ⟨(Z + 1), 1, none⟩) tz _, bb.set _ _, (OwnE.set (OwnE.set o3 (p := ⟨(Z + 1), 0, none⟩) tl _) (p := ⟨(Z + 1), 1, none⟩) tl _).low (Nat.le_trans BZ x2.size)⟩
                        exact AllE.nil
                      exact AllE.nil
                    exact AllE.nil
                  exact AllE.nil
                exact AllE.nil
              refine AllE.cons (o := { dst := some 4, op := Op.alloc 53, type := 0, pos := "vergerref5.go:163", after := #[], guard := none }) rfl (fun Kt hKt => ?_) ?_
              · have x21 : Below wl.heap.size wl (wl.alloc (.cells #[.int .i64 0, .slice none 0 0] 53)).drew := (bel_alloc _ _).drew
                have bx : ((wl.alloc (.cells #[.int .i64 0, .slice none 0 0] 53)).drew).heap[Z]? = some (.cells #[.int .i64 0, .slice none 0 0] 53 (0, 0)) := row_alloc hZ _ _
                go_simp
                refine hKt.out _ _ (fun _ => KC.out _ x21) ?_
                clear hKt Kt
                try simp only [Act.put, List.setIfInBounds_toArray, List.set_cons_zero, List.set_cons_succ]
                refine anyE_ready (rs := [0]) (by kernel_rfl) (by simp) ?_
                refine AllE.cons (o := { dst := some 35, op := Op.buildSlice 29 0 #[], type := 29, pos := "vergerref5.go:163", after := #[], guard := none }) rfl (fun Kt hKt => ?_) ?_
                · have x0 : Below wl.heap.size wl ((wl.alloc (.cells #[.int .i64 0, .slice none 0 0] 53)).alloc (.cells #[] 28)).drew := ((bel_alloc wl _).alloc (by simp) _).drew
                  have bx : (((wl.alloc (.cells #[.int .i64 0, .slice none 0 0] 53)).alloc (.cells #[] 28)).drew).heap[Z]? = some (.cells #[.int .i64 0, .slice none 0 0] 53 (0, 0)) := ((bel_alloc (wl.alloc (.cells #[.int .i64 0, .slice none 0 0] 53)) (.cells #[] 28)).block _ (by simp [hZ])).trans (row_alloc hZ _ _)
                  go_simp
                  refine hKt.out _ _ (fun _ => KC.out _ x0) ?_
                  clear hKt Kt
                  try simp only [Act.put, List.setIfInBounds_toArray, List.set_cons_zero, List.set_cons_succ]
                  refine anyE_ready (rs := [9]) (by kernel_rfl) (by simp) ?_
                  refine AllE.cons (o := { dst := some 44, op := Op.call { callee := Callee.builtin Builtin.append, args := #[Operand.tmp 35, Operand.tmp 43], argTypes := #[29, 29] }, type := 29, pos := "vergerref5.go:163", after := #[{ on := 0, ground := Ground.data }, { on := 8, ground := Ground.data }], guard := none }) rfl (fun Kt hKt => ?_) ?_
                  · obtain ⟨r1, t1, w1, h1, o1, b1⟩ := pushE0 (g := (Z + 1)) (cap := q1) ((M1.out.reads HK1.out).below x0) (by omega)
                    have x1 : Below wl.heap.size wl w1 := x0.trans (b1.mono x0.size)
                    have v0 : wl.heap.size ≤ (((wl.alloc (.cells #[.int .i64 0, .slice none 0 0] 53)).alloc (.cells #[] 28)).drew).heap.size := x0.size
                    have v1 : (((wl.alloc (.cells #[.int .i64 0, .slice none 0 0] 53)).alloc (.cells #[] 28)).drew).heap.size ≤ w1.heap.size := b1.size
                    have bx := (b1.block _ (lt_of_block bx)).trans bx
                    obtain ⟨Y1, hY1⟩ : ∃ Y, w1.heap.size = Y := ⟨_, rfl⟩
                    refine step_app (((wl.alloc (.cells #[.int .i64 0, .slice none 0 0] 53)).alloc (.cells #[] 28)).drew) (by rfl) _ _ 29 29 (by rfl) (.slice (some ⟨(Z + 1), 0, none⟩) 0 0) (.slice p1 k1 q1) (by rfl) (by rfl) (.slice r1 k1 t1) w1 h1 ?_
                    refine hKt.out _ _ (fun _ => KC.out _ x1) ?_
                    clear hKt Kt
                    try simp only [Act.put, List.setIfInBounds_toArray, List.set_cons_zero, List.set_cons_succ]
                    refine anyE_ready (rs := [19]) (by kernel_rfl) (by simp) ?_
                    refine AllE.cons (o := { dst := some 54, op := Op.call { callee := Callee.builtin Builtin.append, args := #[Operand.tmp 44, Operand.tmp 53], argTypes := #[29, 29] }, type := 29, pos := "vergerref5.go:163", after := #[{ on := 9, ground := Ground.data }, { on := 18, ground := Ground.data }, { on := 9, ground := Ground.chain }], guard := none }) rfl (fun Kt hKt => ?_) ?_
                    · obtain ⟨r2, t2, w2, h2, l2, b2, kp2⟩ := pushE (cap := q2) o1 HK1.out HK2.out ((M2.out.reads HK2.out).below x1) (by omega) v1
                      have x2 : Below wl.heap.size wl w2 := x1.trans (b2.mono v0)
                      have bx := (kp2.block _ _ _ _ bx (by decide)).trans bx
                      obtain ⟨Y2, hY2⟩ : ∃ Y, w2.heap.size = Y := ⟨_, rfl⟩
                      refine step_app w1 (by rfl) _ _ 29 29 (by rfl) (.slice r1 k1 t1) (.slice p2 k2 q2) (by rfl) (by rfl) (.slice r2 (k1 + k2) t2) w2 h2 ?_
                      refine hKt.out _ _ (fun _ => KC.out _ x2) ?_
                      clear hKt Kt
                      try simp only [Act.put, List.setIfInBounds_toArray, List.set_cons_zero, List.set_cons_succ]
                      refine anyE_ready (rs := [20]) (by kernel_rfl) (by simp) ?_
                      refine AllE.cons (o := { dst := some 55, op := Op.call { callee := Callee.value (Operand.func 34), args := #[Operand.tmp 54], argTypes := #[29] }, type := 53, pos := "vergerref5.go:163", after := #[{ on := 19, ground := Ground.data }, { on := 19, ground := Ground.chain }], guard := none }) rfl (fun Kt hKt => ?_) ?_
                      · go_simp
                        (with_reducible refine Calls.mono (refOfO (w := w2) l2 (by rw [List.length_append, HK1.out, HK2.out]) (by omega) HE.out HME.out) ?_)
                        rintro r w3 ⟨pa, pc, rfl, o3, b3⟩
                        have x3 : Below wl.heap.size wl w3 := x2.trans (b3.mono x2.size)
                        have tl := lt_of_block bx
                        have bx := (b3.block _ (lt_of_block bx)).trans bx
                        obtain ⟨Y3, hY3⟩ : ∃ Y, w3.heap.size = Y := ⟨_, rfl⟩
                        go_wp2_with fail
                        refine hKt.out _ _ (fun _ => KC.out _ x3) ?_
                        clear hKt Kt
                        try simp only [Act.put, List.setIfInBounds_toArray, List.set_cons_zero, List.set_cons_succ]
                        refine anyE_ready (rs := [22]) (by kernel_rfl) (by simp) ?_
                        refine AllE.cons (o := { dst := none, op := Op.store 53 (Operand.tmp 4) (Operand.tmp 55), type := 0, pos := "vergerref5.go:163", after := #[{ on := 21, ground := Ground.data }, { on := 20, ground := Ground.data }, { on := 20, ground := Ground.chain }, { on := 0, ground := Ground.phase }, { on := 1, ground := Ground.phase }, { on := 2, ground := Ground.phase }, { on := 3, ground := Ground.phase }, { on := 4, ground := Ground.phase }, { on := 5, ground := Ground.phase }, { on := 6, ground := Ground.phase }, { on := 7, ground := Ground.phase }, { on := 8, ground := Ground.phase }, { on := 9, ground := Ground.phase }, { on := 10, ground := Ground.phase }, { on := 11, ground := Ground.phase }, { on := 12, ground := Ground.phase }, { on := 13, ground := Ground.phase }, { on := 14, ground := Ground.phase }, { on := 15, ground := Ground.phase }, { on := 16, ground := Ground.phase }, { on := 17, ground := Ground.phase }, { on := 18, ground := Ground.phase }, { on := 19, ground := Ground.phase }, { on := 20, ground := Ground.phase }, { on := 21, ground := Ground.phase }], guard := none }) rfl (fun Kt hKt => ?_) ?_
                        · have bb := box2_row bx
                          have e0 := bb.c0
                          have e1 := bb.c1
                          have f0 := bb.f0
                          have f1 := bb.f1
                          go_simp
                          refine hKt.out _ _ (fun h => absurd rfl h) ?_
                          clear hKt Kt
                          try simp only [Act.put, List.setIfInBounds_toArray, List.set_cons_zero, List.set_cons_succ]
                          refine anyE_done (by kernel_rfl) ?_ _
                          go_wp2_with fail
                          go_meet
                          have tz : wl.heap.size ≤ Z := by omega
                          exact ⟨Z, pa, pc, rfl, tz, Below.setCell (Below.setCell x3 (p := ⟨Z, 0, none⟩) tz _) (p := ⟨Z, 1, none⟩) tz _, bb.set _ _, (OwnE.set (OwnE.set o3 (p := ⟨Z, 0, none⟩) tl _) (p := ⟨Z, 1, none⟩) tl _).low (Nat.le_trans BZ x2.size)⟩
                        exact AllE.nil
                      exact AllE.nil
                    exact AllE.nil
                  exact AllE.nil
                exact AllE.nil
              exact AllE.nil
            case rest =>
              obtain ⟨S, pa, pc, rfl, hSl, x4, b4, o4⟩ := hcut
              have C4 : Aside (wc.heap[B]? = some (.cells #[.slice (some ⟨g, off, none⟩) n cap] 44 (0, 0))) := (x4.block B (lt_of_block CL.out)).trans CL.out
              have R4 : Aside (RefB wc base (some ⟨g, off, none⟩) bs) := RL.out.below x4
              have B4 : Aside (Box2 S (.int .i64 ME) (.slice pa (k1 + k2) pc) wc) := b4
              have O4 : Aside (OwnE wc base (.slice pa (k1 + k2) pc) E) := o4
              have D4 : Aside (Below wo.heap.size wo wc) := DL.out.trans (x4.mono DL.out.size)
              have NS : B ≠ S := by have := lt_of_block CL.out; omega
              have BZ4 : base ≤ wc.heap.size := Nat.le_trans BZ x4.size
              clear KC CL RL M1 M2 DL q0 hZ BZ x4 b4 o4 HWL gl hSl
              obtain ⟨Z, hZ⟩ : ∃ Z, wc.heap.size = Z := ⟨_, rfl⟩
              have v8 : Below wc.heap.size wc (wc.alloc (.cells #[] 53)).drew := (bel_alloc _ _).drew
              have q8 : Below wc.heap.size wc wc.drew := bel_D _
              have rd : Reads wc (some ⟨g, off, none⟩) i (flatB (bs.take i)) := (R4.out.take i).reads (by rw [List.length_take, HN.out]; omega)
              obtain ⟨p8, hp8⟩ : ∃ p8, (if cap = i + 2 then (some ⟨g, off, none⟩ : Option Addr) else some ⟨g, off + (i + 2) * 2, none⟩) = p8 := ⟨_, rfl⟩
              have HP8 : (if cap = i + 2 then ((some ⟨g, off, none⟩) : Option Addr) else Option.map (fun (x : Addr) => x.add ((i + 2) * 2)) (some ⟨g, off, none⟩)) = p8 := by rw [← hp8]; simp only [Option.map_some, Addr.add_lit]
              obtain ⟨N2, hN2⟩ : ∃ m, i + (n - (i + 2)) = m := ⟨_, rfl⟩
              obtain ⟨r5, t5, w5, h5, o5, b5, _, _⟩ := push0 (g := Z) (cap := cap) (rd.below v8) (by omega)
              have x5 : Below wc.heap.size wc w5 := v8.trans (b5.mono v8.size)
              obtain ⟨r6, t6, w6, h6, x6, c6, tt⟩ := rcut_chain x5 v8.size b5.size C4.out hB BZ4 R4.out HN.out (by omega) o5 (by omega) (by omega) (by omega) HP8 hN2
              have TT : Aside (RTurned wc base B (ks.take i ++ ks.drop (i + 2)) (w6.setCell ⟨B, 0, none⟩ (.slice r6 N2 t6))) := by have := tt; rw [HBS.out] at this; exact this
              have f1 := lsm_cell c6
              have f2 := lsm_fro c6
              have B7 := ((B4.out.on x6).other (p := ⟨B, 0, none⟩) NS (.slice r6 N2 t6))
              have O7 : Aside (OwnE (w6.setCell ⟨B, 0, none⟩ (.slice r6 N2 t6)) base (.slice pa (k1 + k2) pc) E) := (Kept.set (S := fun X => X = 44) c6 rfl _).own (by decide) (O4.out.below x6)
              have SZ7 : base ≤ (w6.setCell ⟨B, 0, none⟩ (.slice r6 N2 t6)).heap.size := Nat.le_trans BZ4 TT.out.2.size
              have g0 := B7.c0
              have g1 := B7.c1
              have KE : E.length = k1 + k2 := by rw [← HE.out, sortE_len, List.length_append, HK1.out, HK2.out]
              have KL : (ks.take i ++ ks.drop (i + 2)).length + 2 = n := by have := HLN.out; simp; omega
              have ly := rlay_any B base (ks.take i ++ ks.drop (i + 2)) E pa pc (w6.setCell ⟨B, 0, none⟩ (.slice r6 N2 t6)) TT.out.1 (by rw [KE]; exact O7.out) (by omega) (by omega) SZ7
              rw [KE, HME.out] at ly
              have KC : Aside (∀ v, Below wc.heap.size wc v → v.cell? ⟨B, 0, none⟩ = some (.slice (some ⟨g, off, none⟩) n cap)) := fun v hv => lsm_cell ((hv.block B (lt_of_block C4.out)).trans C4.out)
              have j1 : (i : Int) ≤ (cap : Int) := by omega
              have j2 : IntKind.i64.wrap ((i : Int) + 2) = (i : Int) + 2 := by rw [IntKind.wrap_i64]; omega
              have j3 : ((i : Int) + 2).toNat = i + 2 := by omega
              have j4 : (0 : Int) ≤ (i : Int) + 2 := by omega
              have j5 : (i : Int) + 2 ≤ (n : Int) := by omega
              have j6 : (n : Int) ≤ (cap : Int) := by omega
              have j7 : (i : Int) ≤ (n : Int) := by omega
              have KEH : Hid _ := KE
              have KLH : Hid _ := KL
              obtain ⟨KX, hKX⟩ : ∃ m, k1 + k2 = m := ⟨_, rfl⟩
              rw [hKX] at ly
              clear KE KL tt rd
              go_upto_region 8 with fail
              refine anyE_start (S := fun v => v.cell? ⟨B, 0, none⟩ = some (.slice (some ⟨g, off, none⟩) n cap)) (L := 16) (by kernel_rfl) ?_
              refine anyE_take (i := 1) (oi := { dst := some 57, op := Op.move (Operand.tmp 0), type := 41, pos := "vergerref5.go:164", after := #[], guard := none }) (v := ?_) rfl (by kernel_rfl) (by kernel_rfl) (by kernel_rfl) (by kernel_rfl) (fun _ _ _ h => h) (Or.inl ⟨by rfl, ?_⟩) (KC.out _ q8) ?_
              rotate_left
              · (intro w hSw; (try dsimp only at hSw); go_simp; try with_reducible rfl)
              simp only [Act.put, List.setIfInBounds_toArray, List.set_cons_zero, List.set_cons_succ]
              refine anyE_take (i := 2) (oi := { dst := some 58, op := Op.nilCheck (Operand.tmp 57), type := 0, pos := "vergerref5.go:164", after := #[{ on := 1, ground := Ground.data }], guard := none }) (v := ?_) rfl (by kernel_rfl) (by kernel_rfl) (by kernel_rfl) (by kernel_rfl) (fun _ _ _ h => h) (Or.inl ⟨by rfl, ?_⟩) (KC.out _ q8) ?_
              rotate_left
              · (intro w hSw; (try dsimp only at hSw); go_simp; try with_reducible rfl)
              simp only [Act.put, List.setIfInBounds_toArray, List.set_cons_zero, List.set_cons_succ]
              refine anyE_take (i := 3) (oi := { dst := some 59, op := Op.fieldAddr 44 (Operand.tmp 58) 0, type := 0, pos := "vergerref5.go:164", after := #[{ on := 2, ground := Ground.data }], guard := none }) (v := ?_) rfl (by kernel_rfl) (by kernel_rfl) (by kernel_rfl) (by kernel_rfl) (fun _ _ _ h => h) (Or.inl ⟨by rfl, ?_⟩) (KC.out _ q8) ?_
              rotate_left
              · (intro w hSw; (try dsimp only at hSw); go_simp; try with_reducible rfl)
              simp only [Act.put, List.setIfInBounds_toArray, List.set_cons_zero, List.set_cons_succ]
              refine anyE_take (i := 4) (oi := { dst := some 60, op := Op.load 42 (Operand.tmp 59), type := 42, pos := "vergerref5.go:164", after := #[{ on := 3, ground := Ground.data }], guard := none }) (v := ?_) rfl (by kernel_rfl) (by kernel_rfl) (by kernel_rfl) (by kernel_rfl) (fun _ _ _ h => h) (Or.inl ⟨by rfl, ?_⟩) (KC.out _ q8) ?_
              rotate_left
              · (intro w hSw; (try dsimp only at hSw); go_simp; try with_reducible rfl)
              simp only [Act.put, List.setIfInBounds_toArray, List.set_cons_zero, List.set_cons_succ]
              refine anyE_take (i := 5) (oi := { dst := some 61, op := Op.move (Operand.tmp 3), type := 3, pos := "vergerref5.go:164", after := #[], guard := none }) (v := ?_) rfl (by kernel_rfl) (by kernel_rfl) (by kernel_rfl) (by kernel_rfl) (fun _ _ _ h => h) (Or.inl ⟨by rfl, ?_⟩) (KC.out _ q8) ?_
              rotate_left
              · (intro w hSw; (try dsimp only at hSw); go_simp; try with_reducible rfl)
              simp only [Act.put, List.setIfInBounds_toArray, List.set_cons_zero, List.set_cons_succ]
              refine anyE_take (i := 6) (oi := { dst := some 62, op := Op.slice 42 (Operand.tmp 60) none (some (Operand.tmp 61)) none, type := 42, pos := "vergerref5.go:164", after := #[{ on := 4, ground := Ground.data }, { on := 5, ground := Ground.data }], guard := none }) (v := ?_) rfl (by kernel_rfl) (by kernel_rfl) (by kernel_rfl) (by kernel_rfl) (fun _ _ _ h => h) (Or.inl ⟨by rfl, ?_⟩) (KC.out _ q8) ?_
              rotate_left
              · (intro w hSw; (try dsimp only at hSw); go_simp; try with_reducible rfl)
              simp only [Act.put, List.setIfInBounds_toArray, List.set_cons_zero, List.set_cons_succ]
              refine anyE_take (i := 8) (oi := { dst := some 64, op := Op.move (Operand.tmp 0), type := 41, pos := "vergerref5.go:164", after := #[], guard := none }) (v := ?_) rfl (by kernel_rfl) (by kernel_rfl) (by kernel_rfl) (by kernel_rfl) (fun _ _ _ h => h) (Or.inl ⟨by rfl, ?_⟩) (KC.out _ q8) ?_
              rotate_left
              · (intro w hSw; (try dsimp only at hSw); go_simp; try with_reducible rfl)
              simp only [Act.put, List.setIfInBounds_toArray, List.set_cons_zero, List.set_cons_succ]
              refine anyE_take (i := 9) (oi := { dst := some 65, op := Op.nilCheck (Operand.tmp 64), type := 0, pos := "vergerref5.go:164", after := #[{ on := 8, ground := Ground.data }], guard := none }) (v := ?_) rfl (by kernel_rfl) (by kernel_rfl) (by kernel_rfl) (by kernel_rfl) (fun _ _ _ h => h) (Or.inl ⟨by rfl, ?_⟩) (KC.out _ q8) ?_
              rotate_left
              · (intro w hSw; (try dsimp only at hSw); go_simp; try with_reducible rfl)
              simp only [Act.put, List.setIfInBounds_toArray, List.set_cons_zero, List.set_cons_succ]
              refine anyE_take (i := 10) (oi := { dst := some 66, op := Op.fieldAddr 44 (Operand.tmp 65) 0, type := 0, pos := "vergerref5.go:164", after := #[{ on := 9, ground := Ground.data }], guard := none }) (v := ?_) rfl (by kernel_rfl) (by kernel_rfl) (by kernel_rfl) (by kernel_rfl) (fun _ _ _ h => h) (Or.inl ⟨by rfl, ?_⟩) (KC.out _ q8) ?_
              rotate_left
              · (intro w hSw; (try dsimp only at hSw); go_simp; try with_reducible rfl)
              simp only [Act.put, List.setIfInBounds_toArray, List.set_cons_zero, List.set_cons_succ]
              refine anyE_take (i := 11) (oi := { dst := some 67, op := Op.load 42 (Operand.tmp 66), type := 42, pos := "vergerref5.go:164", after := #[{ on := 10, ground := Ground.data }], guard := none }) (v := ?_) rfl (by kernel_rfl) (by kernel_rfl) (by kernel_rfl) (by kernel_rfl) (fun _ _ _ h => h) (Or.inl ⟨by rfl, ?_⟩) (KC.out _ q8) ?_
              rotate_left
              · (intro w hSw; (try dsimp only at hSw); go_simp; try with_reducible rfl)
              simp only [Act.put, List.setIfInBounds_toArray, List.set_cons_zero, List.set_cons_succ]
              refine anyE_take (i := 12) (oi := { dst := some 68, op := Op.move (Operand.tmp 3), type := 3, pos := "vergerref5.go:164", after := #[], guard := none }) (v := ?_) rfl (by kernel_rfl) (by kernel_rfl) (by kernel_rfl) (by kernel_rfl) (fun _ _ _ h => h) (Or.inl ⟨by rfl, ?_⟩) (KC.out _ q8) ?_
              rotate_left
              · (intro w hSw; (try dsimp only at hSw); go_simp; try with_reducible rfl)
              simp only [Act.put, List.setIfInBounds_toArray, List.set_cons_zero, List.set_cons_succ]
              refine anyE_take (i := 13) (oi := { dst := some 69, op := Op.binOp BinOp.add 3 (Operand.tmp 68) (Operand.const (Value.int IntKind.i64 2)) 3, type := 3, pos := "vergerref5.go:164", after := #[{ on := 12, ground := Ground.data }], guard := none }) (v := ?_) rfl (by kernel_rfl) (by kernel_rfl) (by kernel_rfl) (by kernel_rfl) (fun _ _ _ h => h) (Or.inl ⟨by rfl, ?_⟩) (KC.out _ q8) ?_
              rotate_left
              · (intro w hSw; (try dsimp only at hSw); go_simp; try with_reducible rfl)
              simp only [Act.put, List.setIfInBounds_toArray, List.set_cons_zero, List.set_cons_succ]
              refine anyE_take (i := 14) (oi := { dst := some 70, op := Op.slice 42 (Operand.tmp 67) (some (Operand.tmp 69)) none none, type := 42, pos := "vergerref5.go:164", after := #[{ on := 11, ground := Ground.data }, { on := 13, ground := Ground.data }], guard := none }) (v := ?_) rfl (by kernel_rfl) (by kernel_rfl) (by kernel_rfl) (by kernel_rfl) (fun _ _ _ h => h) (Or.inl ⟨by rfl, ?_⟩) (KC.out _ q8) ?_
              rotate_left
              · (intro w hSw; (try dsimp only at hSw); go_simp; try with_reducible rfl)
              simp only [Act.put, List.setIfInBounds_toArray, List.set_cons_zero, List.set_cons_succ]
              refine anyE_ready (rs := [0]) (by kernel_rfl) (by simp) ?_
              refine AllE.cons (o := { dst := some 56, op := Op.buildSlice 42 0 #[], type := 42, pos := "vergerref5.go:164", after := #[], guard := none }) rfl (fun Kt hKt => ?_) ?_
              · go_simp
                refine hKt.out _ _ (fun _ => KC.out _ v8) ?_
                clear hKt Kt
                try simp only [Act.put, List.setIfInBounds_toArray, List.set_cons_zero, List.set_cons_succ]
                refine anyE_ready (rs := [7]) (by kernel_rfl) (by simp) ?_
                refine AllE.cons (o := { dst := some 63, op := Op.call { callee := Callee.builtin Builtin.append, args := #[Operand.tmp 56, Operand.tmp 62], argTypes := #[42, 42] }, type := 42, pos := "vergerref5.go:164", after := #[{ on := 0, ground := Ground.data }, { on := 6, ground := Ground.data }], guard := none }) rfl (fun Kt hKt => ?_) ?_
                · refine step_app (wc.alloc (.cells #[] 53)).drew (by rfl) _ _ 42 42 (by rfl) (.slice (some ⟨Z, 0, none⟩) 0 0) (.slice (some ⟨g, off, none⟩) i cap) (by rfl) (by rfl) (.slice r5 i t5) w5 h5 ?_
                  refine hKt.out _ _ (fun _ => KC.out _ x5) ?_
                  clear hKt Kt
                  try simp only [Act.put, List.setIfInBounds_toArray, List.set_cons_zero, List.set_cons_succ]
                  refine anyE_ready (rs := [15]) (by kernel_rfl) (by simp) ?_
                  refine AllE.cons (o := { dst := some 71, op := Op.call { callee := Callee.builtin Builtin.append, args := #[Operand.tmp 63, Operand.tmp 70], argTypes := #[42, 42] }, type := 42, pos := "vergerref5.go:164", after := #[{ on := 7, ground := Ground.data }, { on := 14, ground := Ground.data }, { on := 7, ground := Ground.chain }], guard := none }) rfl (fun Kt hKt => ?_) ?_
                  · refine step_app w5 (by rfl) _ _ 42 42 (by rfl) (.slice r5 i t5) (.slice p8 (n - (i + 2)) (cap - (i + 2))) (by rfl) (by rfl) (.slice r6 N2 t6) w6 h6 ?_
                    refine hKt.out _ _ (fun _ => KC.out _ x6) ?_
                    clear hKt Kt
                    try simp only [Act.put, List.setIfInBounds_toArray, List.set_cons_zero, List.set_cons_succ]
                    refine anyE_ready (rs := [16]) (by kernel_rfl) (by simp) ?_
                    refine AllE.cons (o := { dst := some 5, op := Op.assign (Operand.tmp 71), type := 42, pos := "vergerref5.go:164", after := #[{ on := 15, ground := Ground.data }, { on := 15, ground := Ground.chain }, { on := 0, ground := Ground.phase }, { on := 1, ground := Ground.phase }, { on := 2, ground := Ground.phase }, { on := 3, ground := Ground.phase }, { on := 4, ground := Ground.phase }, { on := 5, ground := Ground.phase }, { on := 6, ground := Ground.phase }, { on := 7, ground := Ground.phase }, { on := 8, ground := Ground.phase }, { on := 9, ground := Ground.phase }, { on := 10, ground := Ground.phase }, { on := 11, ground := Ground.phase }, { on := 12, ground := Ground.phase }, { on := 13, ground := Ground.phase }, { on := 14, ground := Ground.phase }, { on := 15, ground := Ground.phase }], guard := none }) rfl (fun Kt hKt => ?_) ?_
                    · go_simp
                      refine hKt.out _ _ (fun h => absurd rfl h) ?_
                      clear hKt Kt
                      try simp only [Act.put, List.setIfInBounds_toArray, List.set_cons_zero, List.set_cons_succ]
                      refine anyE_done (by kernel_rfl) ?_ _
                      clear KC
                      go_wp2_with fail
                      (with_reducible refine Calls.mono ly ?_)
                      rintro r w9 ⟨rfl, hcase⟩
                      have sa := sett_at SE.out hik1 (by rw [HD1.out, HD2.out, HM1.out, HM2.out]; exact HCE.out)
                      rw [HD1.out, HD2.out, HE.out, HK2.out] at sa
                      rcases hcase with ⟨c0, _⟩ | ⟨_, k, la, t9⟩
                      · exact absurd c0 (by have := sa.2.1; omega)
                      have SN : Aside (Sett (laid (ks.take i ++ ks.drop (i + 2)) E k) T) := by
                        have := sett_step (pre := ks.take i) (suf := ks.drop (i + 2)) (x := d1) (y := d2) (T := T) (k := k) (by rw [HM1.out, HM2.out]; exact HCE.out) sa.1 (by rw [HK2.out]; exact sa.2.1) (by rw [HE.out]; exact sa.2.2) (by rw [HE.out]; exact la)
                        rw [HE.out] at this
                        exact this
                      have T9 : Aside (RLsm w9 base B (laid (ks.take i ++ ks.drop (i + 2)) E k)) := t9.1
                      have G9 : Aside (w.grownBy w9 (some B)) := grownBy_trans GB.out (grownBy_trans (grownBy_below D4.out) (grownBy_trans TT.out.2 t9.2))
                      have LN : (laid (ks.take i ++ ks.drop (i + 2)) E k).length + 1 = n := by rw [laid_len la.le]; have := KLH.out; omega
                      have LF : (laid (ks.take i ++ ks.drop (i + 2)) E k).flatten.length = ks.flatten.length := by
                        rw [laid_flat, KEH.out]
                        have h1 := two_sum (i := i) (ls := ks) hik1
                        rw [HD1.out, HD2.out, HK1.out, HK2.out] at h1
                        simp only [List.flatten_append, List.length_append]
                        omega
                      have B9 : Hid ((laid (ks.take i ++ ks.drop (i + 2)) E k).length ≤ 1000 ∧ (laid (ks.take i ++ ks.drop (i + 2)) E k).flatten.length ≤ 5000) := ⟨by omega, by rw [LF]; exact HB.out.2⟩
                      have LNH : Hid _ := LN
                      clear LN LF sa la t9 ly h5 h6 o5
                      go_wp2
                      go_roundg n
                      case measure => omega
                      case rel => exact ⟨true, _, rfl, (fun _ => Nat.le_of_eq LNH.out : true = true → (laid (ks.take i ++ ks.drop (i + 2)) E k).length + 1 ≤ n), (fun h => Bool.noConfusion h : true = false → laid (ks.take i ++ ks.drop (i + 2)) E k = T), B9, SN, T9, G9⟩
                    exact AllE.nil
                  exact AllE.nil
                exact AllE.nil
              exact AllE.nil
          · have t1 : ((m1 : Int) == (m2 : Int)) = false := by simp; omega
            have t2 : ¬ (m1 : Int) = (m2 : Int) := by omega
            have A2 : Aside (∀ j (hj : j + 1 < ks.length), j < i + 1 → lv (ks[j]'(by omega)) ≠ lv ks[j + 1]) := fun j hj hji => by
              by_cases e : j = i
              · subst e
                rw [HD1.out, HD2.out, HM1.out, HM2.out]
                exact ce
              · exact A.out j hj (by omega)
            go_wp2_with fail
            go_quiet (fail)
            have D2 : Aside (Below wo.heap.size wo (wr.drewN nq)) := D.out.trans (Below.mono (Grown.below ⟨nq, #[], by rw [grow_empty]⟩) swr)
            go_wp2
            go_roundg (n + 1 - (i + 1))
            case measure => omega
            case rel => exact ⟨i + 1, rfl, by go_num, by omega, Nat.le_refl _, D2, A2⟩
        · have hz : ¬ (i : Int) + 1 < (n : Int) := by omega
          have e : ks = T := sett_done SE.out (fun j hj => A.out j hj (by have := HLN.out; omega))
          have HE : Hid _ := e
          clear e
          go_wp2
          go_roundg 0
          case measure => omega
          case rel => exact ⟨false, ks, rfl, (fun h => Bool.noConfusion h : false = true → ks.length + 1 ≤ 0), (fun _ => HE.out : false = false → ks = T), HB, SE, R.out.below D.out, grownBy_trans GB.out (grownBy_below D.out)⟩
end Go.Proofs.Ytchephglapnloaa
