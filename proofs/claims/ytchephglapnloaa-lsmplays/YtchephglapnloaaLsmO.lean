/- The walk of the document's lay. -/
import Derived.Test.YtchephglapnloaaLsmJ
import Derived.Test.YtchephglapnloaaAnyE
namespace Go.Proofs.Ytchephglapnloaa
open Go.RowKit Go.Lib Go.Sort
set_option linter.unusedVariables false

set_option maxHeartbeats 4000000 in
set_option maxRecDepth 100000 in
theorem rlay_any (B base : Nat) (ls : List (List Ent)) (d : List Ent) (p : Option Addr) (q : Nat) (w : World) (h : RLsm w base B ls) (ho : OwnE w base (.slice p d.length q) d) (hlen : ls.length ≤ 10000) (hd : d.length ≤ 100000) (hbase : base ≤ w.heap.size) :
    Calls Try.prog 38 #[.pointer (some ⟨B, 0, none⟩), .agg #[.int .i64 (lv d), .slice p d.length q]] w fun r w' => r = .returned (.tuple #[]) ∧ ((d.length = 0 ∧ RTurned w base B ls w') ∨ (0 < d.length ∧ ∃ k, LayAt ls d k ∧ RTurned w base B (laid ls d k) w')) := by
  obtain ⟨a, cap, bs, hbs, hB, hcell, hcap, hmax, rb⟩ := h
  obtain ⟨S, hS⟩ : ∃ S, w.heap.size = S := ⟨_, rfl⟩
  obtain ⟨n, hn⟩ : ∃ n, bs.length = n := ⟨_, rfl⟩
  obtain ⟨K, hK⟩ : ∃ n, d.length = n := ⟨_, rfl⟩
  obtain ⟨m, hm⟩ : ∃ n, lv d = n := ⟨_, rfl⟩
  have hln : ls.length = n := by rw [← hbs, List.length_map, hn]
  have HN : Hid _ := hn
  have HLN : Hid _ := hln
  have HK : Hid _ := hK
  have HM : Hid _ := hm
  have HBS : Hid (bs.map Bk.d = ls) := hbs
  rw [hn] at hcell hcap
  rw [hK] at ho hd ⊢
  rw [hm]
  obtain ⟨u, hu⟩ : ∃ u, w.alloc (.cells #[.int .i64 m, .slice p K q] 53) = u := ⟨_, rfl⟩
  have HU : Hid _ := hu
  have bu : Below w.heap.size w u := by rw [← hu]; exact (Below.refl _ _).alloc (Nat.le_refl _) _
  have BU : Aside (Below w.heap.size w u) := bu
  have XS : Aside (u.heap[S]? = some (.cells #[.int .i64 m, .slice p K q] 53 (0, 0))) := by rw [← hu, ← hS]; exact heap_alloc_new w _
  have CU : Aside (u.heap[B]? = some (.cells #[.slice a n cap] 44 (0, 0))) := (bu.block B (lt_of_block hcell)).trans hcell
  have RU : Aside (RefB u base a bs) := rb.below bu
  have OU : Aside (OwnE u base (.slice p K q) d) := ho.below bu
  have RW : Aside (RLsm w base B ls) := ⟨a, cap, bs, hbs, hB, by rw [hn]; exact hcell, by rw [hn]; exact hcap, hmax, rb⟩
  have BS : B < S := by rw [← hS]; exact lt_of_block hcell
  have yB := lsm_cell hcell
  unfold maxLen at hmax
  have n63 : n ≤ 10000 := by omega
  clear hu bu hcell rb ho hbs hn hln hK hm hlen
  by_cases k0 : K = 0
  · subst k0
    have FIN : Aside (RTurned w base B ls u) := ⟨RW.out.below BU.out, grownBy_below BU.out⟩
    go_enter Try.func38, Try.ntmps38
    go_wp2_with fail
    rw [HU.out]
    refine bodyPost_ret (results_none rfl _ _ _) rfl ?_
    exact ⟨by first | rfl | trivial, .inl ⟨by first | rfl | trivial, FIN.out⟩⟩
  have kk : ¬ (K : Int) = 0 := by omega
  have kk2 : ((K : Int) == 0) = false := by simp; omega
  have su : S < u.heap.size := lt_of_block XS.out
  go_enter Try.func38, Try.ntmps38
  go_wp2_with fail
  rw [HU.out]
  clear yB
  go_loopg [4] (n + 1) (fun kx s4 wr => ∃ (k : Nat), s4 = .int .i64 k ∧ k ≤ n ∧ n + 1 - k ≤ kx ∧ Aside (Below u.heap.size u wr) ∧ Aside (∀ i (hi : i < ls.length), i < k → lv d < lv ls[i]))
  case atStart => exact ⟨0, rfl, by omega, by omega, Below.refl _ _, (fun i _ h => absurd h (by omega) : ∀ i (hi : i < ls.length), i < 0 → lv d < lv ls[i])⟩
  case round =>
    obtain ⟨k, rfl, hk, hkx, D, A⟩ := hrel
    have cB := (D.out.block B (lt_of_block CU.out)).trans CU.out
    have cS := (D.out.block S (lt_of_block XS.out)).trans XS.out
    have y1 : ∀ q, (wr.drewN q).cell? ⟨B, 0, none⟩ = some (.slice a n cap) := fun q => lsm_cell cB
    have y2 : ∀ q, (wr.drewN q).cell? ⟨S, 0, none⟩ = some (.int .i64 m) := fun q => box0 cS
    have CB : Aside (wr.heap[B]? = some (.cells #[.slice a n cap] 44 (0, 0))) := cB
    have CS : Aside (wr.heap[S]? = some (.cells #[.int .i64 m, .slice p K q] 53 (0, 0))) := cS
    have R : Aside (RefB wr base a bs) := RU.out.below D.out
    have O : Aside (OwnE wr base (.slice p K q) d) := OU.out.below D.out
    have swr : u.heap.size ≤ wr.heap.size := D.out.size
    clear cB cS
    by_cases hlt : k < n
    · have hz : (k : Int) < (n : Int) := by omega
      have hz2 : decide ((k : Int) < (n : Int)) = true := decide_eq_true hz
      have hkb : k < bs.length := by rw [HN.out]; exact hlt
      have hkl : k < ls.length := by rw [HLN.out]; exact hlt
      obtain ⟨g, off, ha, hg, c0, c1⟩ := R.out.cell hkb
      have ex : bs[k].d = ls[k] := by
        have : (bs.map Bk.d)[k]? = ls[k]? := by rw [HBS.out]
        rw [List.getElem?_map, List.getElem?_eq_getElem hkb, List.getElem?_eq_getElem hkl] at this
        simpa using this
      rw [ex] at c0
      obtain ⟨mk, hmk⟩ : ∃ m, lv ls[k] = m := ⟨_, rfl⟩
      have HMK : Hid _ := hmk
      rw [hmk] at c0
      have y3 : ∀ q, (wr.drewN q).cell? ⟨g, off + k * 2, none⟩ = some (.int .i64 mk) := fun q => c0
      clear ex hmk c0 c1
      subst ha
      by_cases c : m < mk
      · have t1 : (m : Int) < (mk : Int) := by omega
        have t2 : decide ((m : Int) < (mk : Int)) = true := decide_eq_true t1
        have A2 : Aside (∀ i (hi : i < ls.length), i < k + 1 → lv d < lv ls[i]) := fun i hi hik => by
          by_cases e : i = k
          · subst e; rw [HM.out, HMK.out]; exact c
          · exact A.out i hi (by omega)
        go_wp2_with fail
        go_quiet (fail)
        have D2 : Aside (Below u.heap.size u (wr.drewN nq)) := D.out.trans (Below.mono (Grown.below ⟨nq, #[], by rw [grow_empty]⟩) swr)
        go_wp2
        go_roundg (n + 1 - (k + 1))
        case measure => omega
        case rel => exact ⟨k + 1, by go_num, by omega, Nat.le_refl _, D2, A2⟩
      · have t1 : ¬ (m : Int) < (mk : Int) := by omega
        have t2 : decide ((m : Int) < (mk : Int)) = false := decide_eq_false t1
        have LA : Aside (LayAt ls d k) := ⟨by omega, A.out, fun h => by rw [HM.out, HMK.out]; exact c⟩
        go_wp2_with fail
        go_quiet (fail)
        clear y1 y2 y3
        obtain ⟨wl, hwl⟩ : ∃ W, wr.drewN nq = W := ⟨_, rfl⟩
        have bl : Below wr.heap.size wr wl := by rw [← hwl]; exact Grown.below ⟨nq, #[], by rw [grow_empty]⟩
        have CL : Aside (wl.heap[B]? = some (.cells #[.slice (some ⟨g, off, none⟩) n cap] 44 (0, 0))) := (bl.block B (lt_of_block CB.out)).trans CB.out
        have SL : Aside (wl.heap[S]? = some (.cells #[.int .i64 m, .slice p K q] 53 (0, 0))) := (bl.block S (lt_of_block CS.out)).trans CS.out
        have RL : Aside (RefB wl base (some ⟨g, off, none⟩) bs) := R.out.below bl
        have OL : Aside (OwnE wl base (.slice p K q) d) := O.out.below bl
        have WL : Aside (Below w.heap.size w wl) := (BU.out.trans (D.out.mono BU.out.size)).trans (bl.mono (Nat.le_trans BU.out.size swr))
        obtain ⟨Z, hZ⟩ : ∃ Z, wl.heap.size = Z := ⟨_, rfl⟩
        have BZ : base ≤ wl.heap.size := Nat.le_trans hbase WL.out.size
        obtain ⟨p1, hp1⟩ : ∃ p1, (if cap = k then (some ⟨g, off, none⟩ : Option Addr) else some ⟨g, off + k * 2, none⟩) = p1 := ⟨_, rfl⟩
        have HP1 : (if cap = k then ((some ⟨g, off, none⟩) : Option Addr) else Option.map (fun (x : Addr) => x.add (k * 2)) (some ⟨g, off, none⟩)) = p1 := by rw [← hp1]; simp only [Option.map_some, Addr.add_lit]
        have rd : Reads wl (some ⟨g, off, none⟩) k (flatB (bs.take k)) := (RL.out.take k).reads (by rw [List.length_take, HN.out]; omega)
        have va : Below wl.heap.size wl (wl.alloc (.cells #[] 53)).drew := ((Below.refl _ _).alloc (Nat.le_refl _) _).drew
        obtain ⟨r1a, t1a, w1a, h1a, o1a, b1a, _, _⟩ := push0 (g := Z) (cap := cap) (rd.below va) (by omega)
        have x1a : Below wl.heap.size wl w1a := va.trans (b1a.mono va.size)
        have vd : Below w1a.heap.size w1a (w1a.alloc (.cells #[.int .i64 m, .slice p K q] 53)) := (Below.refl _ _).alloc (Nat.le_refl _) _
        obtain ⟨Y, hY⟩ : ∃ Y, w1a.heap.size = Y := ⟨_, rfl⟩
        obtain ⟨r2a, t2a, w2a, r3a, t3a, w3a, h2a, h3a, x2a, x3a, c3a, tta⟩ := rlay_chain (G := Y) (x1a.trans (vd.mono x1a.size)) va.size (Nat.le_trans b1a.size vd.size) CL.out hB BZ RL.out HN.out (by omega) OL.out HK.out HM.out (o1a.below vd) (by omega) (by rw [← hY]; exact heap_alloc_new w1a _) n63 HP1
        have Ta : Aside (RTurned wl base B (laid ls d k) (w3a.setCell ⟨B, 0, none⟩ (.slice r3a (n + 1) t3a))) := by have := tta; rw [HBS.out] at this; exact this
        have sa1 := lsm_cell c3a
        have sa2 := lsm_fro c3a
        have vb : Below wl.heap.size wl ((wl.alloc (.cells #[] 53)).alloc (.cells #[.int .i64 m, .slice p K q] 53)).drew := (((Below.refl _ _).alloc (Nat.le_refl _) _).alloc (by simp) _).drew
        obtain ⟨r1b, t1b, w1b, h1b, o1b, b1b, _, _⟩ := push0 (g := Z) (cap := cap) (rd.below vb) (by omega)
        have x1b : Below wl.heap.size wl w1b := vb.trans (b1b.mono vb.size)
        have gb : (((wl.alloc (.cells #[] 53)).alloc (.cells #[.int .i64 m, .slice p K q] 53)).drew).heap[(Z + 1)]? = some (.cells #[.int .i64 m, .slice p K q] 53 (0, 0)) := by have h := heap_alloc_new (wl.alloc (.cells #[] 53)) (.cells #[.int .i64 m, .slice p K q] 53); rw [show (wl.alloc (.cells #[] 53)).heap.size = Z + 1 by simp [hZ]] at h; exact h
        obtain ⟨r2b, t2b, w2b, r3b, t3b, w3b, h2b, h3b, x2b, x3b, c3b, ttb⟩ := rlay_chain (G := (Z + 1)) x1b vb.size b1b.size CL.out hB BZ RL.out HN.out (by omega) OL.out HK.out HM.out o1b (by omega) ((b1b.block _ (lt_of_block gb)).trans gb) n63 HP1
        have Tb : Aside (RTurned wl base B (laid ls d k) (w3b.setCell ⟨B, 0, none⟩ (.slice r3b (n + 1) t3b))) := by have := ttb; rw [HBS.out] at this; exact this
        have sb1 := lsm_cell c3b
        have sb2 := lsm_fro c3b
        have vc : Below wl.heap.size wl ((wl.alloc (.cells #[.int .i64 m, .slice p K q] 53)).alloc (.cells #[] 53)).drew := (((Below.refl _ _).alloc (Nat.le_refl _) _).alloc (by simp) _).drew
        obtain ⟨r1c, t1c, w1c, h1c, o1c, b1c, _, _⟩ := push0 (g := (Z + 1)) (cap := cap) (rd.below vc) (by omega)
        have x1c : Below wl.heap.size wl w1c := vc.trans (b1c.mono vc.size)
        have gc : (((wl.alloc (.cells #[.int .i64 m, .slice p K q] 53)).alloc (.cells #[] 53)).drew).heap[Z]? = some (.cells #[.int .i64 m, .slice p K q] 53 (0, 0)) := by rw [← hZ]; exact (((Below.refl _ _).alloc (Nat.le_refl _) (.cells #[] 53)).block _ (by simp)).trans (heap_alloc_new wl (.cells #[.int .i64 m, .slice p K q] 53))
        obtain ⟨r2c, t2c, w2c, r3c, t3c, w3c, h2c, h3c, x2c, x3c, c3c, ttc⟩ := rlay_chain (G := Z) x1c vc.size b1c.size CL.out hB BZ RL.out HN.out (by omega) OL.out HK.out HM.out o1c (by omega) ((b1c.block _ (lt_of_block gc)).trans gc) n63 HP1
        have Tc : Aside (RTurned wl base B (laid ls d k) (w3c.setCell ⟨B, 0, none⟩ (.slice r3c (n + 1) t3c))) := by have := ttc; rw [HBS.out] at this; exact this
        have sc1 := lsm_cell c3c
        have sc2 := lsm_fro c3c
        have yB := lsm_cell CL.out
        have yS0 := box0 SL.out
        have yS1 := box1 SL.out
        have KC : Aside (∀ v, Below wl.heap.size wl v → v.cell? ⟨B, 0, none⟩ = some (.slice (some ⟨g, off, none⟩) n cap) ∧ v.cell? ⟨S, 0, none⟩ = some (.int .i64 m) ∧ v.cell? ⟨S, 1, none⟩ = some (.slice p K q)) := fun v hv => ⟨lsm_cell ((hv.block B (lt_of_block CL.out)).trans CL.out), box0 ((hv.block S (lt_of_block SL.out)).trans SL.out), box1 ((hv.block S (lt_of_block SL.out)).trans SL.out)⟩
        have j1 : (k : Int) ≤ (cap : Int) := by omega
        have j2 : (k : Int) ≤ (n : Int) := by omega
        have j3 : (0 : Int) ≤ (k : Int) := by omega
        have mx := mixed
        have HWL : Hid _ := hwl
        have q0 : Below wl.heap.size wl wl.drew := (Below.refl _ _).drew
        have vB : Below wl.heap.size wl (wl.alloc (.cells #[.int .i64 m, .slice p K q] 53)).drew := ((Below.refl _ _).alloc (Nat.le_refl _) _).drew
        have xd : Below wl.heap.size wl (w1a.alloc (.cells #[.int .i64 m, .slice p K q] 53)) := x1a.trans (vd.mono x1a.size)
        clear hwl bl CB CS R O D A tta ttb ttc gb gc vd o1a o1b o1c rd
        go_wp2_with fail
        rw [HWL.out]
        refine anyE_start (S := fun v => v.cell? ⟨B, 0, none⟩ = some (.slice (some ⟨g, off, none⟩) n cap) ∧ v.cell? ⟨S, 0, none⟩ = some (.int .i64 m) ∧ v.cell? ⟨S, 1, none⟩ = some (.slice p K q)) (L := 21) (by kernel_rfl) ?_
        refine anyE_take (i := 0) (oi := { dst := some 31, op := Op.move (Operand.tmp 0), type := 41, pos := "vergerref5.go:182", after := #[], guard := none }) (v := ?_) rfl (by kernel_rfl) (by kernel_rfl) (by kernel_rfl) (by kernel_rfl) (fun _ _ _ h => h) (Or.inl ⟨by rfl, ?_⟩) (KC.out _ q0) ?_
        rotate_left
        · (intro w hSw; (try dsimp only at hSw); go_simp; try with_reducible rfl)
        simp only [Act.put, List.setIfInBounds_toArray, List.set_cons_zero, List.set_cons_succ]
        refine anyE_take (i := 2) (oi := { dst := some 33, op := Op.move (Operand.tmp 0), type := 41, pos := "vergerref5.go:182", after := #[], guard := none }) (v := ?_) rfl (by kernel_rfl) (by kernel_rfl) (by kernel_rfl) (by kernel_rfl) (fun _ _ _ h => h) (Or.inl ⟨by rfl, ?_⟩) (KC.out _ q0) ?_
        rotate_left
        · (intro w hSw; (try dsimp only at hSw); go_simp; try with_reducible rfl)
        simp only [Act.put, List.setIfInBounds_toArray, List.set_cons_zero, List.set_cons_succ]
        refine anyE_take (i := 3) (oi := { dst := some 34, op := Op.nilCheck (Operand.tmp 33), type := 0, pos := "vergerref5.go:182", after := #[{ on := 2, ground := Ground.data }], guard := none }) (v := ?_) rfl (by kernel_rfl) (by kernel_rfl) (by kernel_rfl) (by kernel_rfl) (fun _ _ _ h => h) (Or.inl ⟨by rfl, ?_⟩) (KC.out _ q0) ?_
        rotate_left
        · (intro w hSw; (try dsimp only at hSw); go_simp; try with_reducible rfl)
        simp only [Act.put, List.setIfInBounds_toArray, List.set_cons_zero, List.set_cons_succ]
        refine anyE_take (i := 4) (oi := { dst := some 35, op := Op.fieldAddr 44 (Operand.tmp 34) 0, type := 0, pos := "vergerref5.go:182", after := #[{ on := 3, ground := Ground.data }], guard := none }) (v := ?_) rfl (by kernel_rfl) (by kernel_rfl) (by kernel_rfl) (by kernel_rfl) (fun _ _ _ h => h) (Or.inl ⟨by rfl, ?_⟩) (KC.out _ q0) ?_
        rotate_left
        · (intro w hSw; (try dsimp only at hSw); go_simp; try with_reducible rfl)
        simp only [Act.put, List.setIfInBounds_toArray, List.set_cons_zero, List.set_cons_succ]
        refine anyE_take (i := 5) (oi := { dst := some 36, op := Op.load 42 (Operand.tmp 35), type := 42, pos := "vergerref5.go:182", after := #[{ on := 4, ground := Ground.data }], guard := none }) (v := ?_) rfl (by kernel_rfl) (by kernel_rfl) (by kernel_rfl) (by kernel_rfl) (fun _ _ _ h => h) (Or.inl ⟨by rfl, ?_⟩) (KC.out _ q0) ?_
        rotate_left
        · (intro w hSw; (try dsimp only at hSw); go_simp; try with_reducible rfl)
        simp only [Act.put, List.setIfInBounds_toArray, List.set_cons_zero, List.set_cons_succ]
        refine anyE_take (i := 6) (oi := { dst := some 37, op := Op.move (Operand.tmp 4), type := 3, pos := "vergerref5.go:182", after := #[], guard := none }) (v := ?_) rfl (by kernel_rfl) (by kernel_rfl) (by kernel_rfl) (by kernel_rfl) (fun _ _ _ h => h) (Or.inl ⟨by rfl, ?_⟩) (KC.out _ q0) ?_
        rotate_left
        · (intro w hSw; (try dsimp only at hSw); go_simp; try with_reducible rfl)
        simp only [Act.put, List.setIfInBounds_toArray, List.set_cons_zero, List.set_cons_succ]
        refine anyE_take (i := 7) (oi := { dst := some 38, op := Op.slice 42 (Operand.tmp 36) none (some (Operand.tmp 37)) none, type := 42, pos := "vergerref5.go:182", after := #[{ on := 5, ground := Ground.data }, { on := 6, ground := Ground.data }], guard := none }) (v := ?_) rfl (by kernel_rfl) (by kernel_rfl) (by kernel_rfl) (by kernel_rfl) (fun _ _ _ h => h) (Or.inl ⟨by rfl, ?_⟩) (KC.out _ q0) ?_
        rotate_left
        · (intro w hSw; (try dsimp only at hSw); go_simp; try with_reducible rfl)
        simp only [Act.put, List.setIfInBounds_toArray, List.set_cons_zero, List.set_cons_succ]
        refine anyE_take (i := 9) (oi := { dst := some 40, op := Op.load 53 (Operand.tmp 3), type := 53, pos := "vergerref5.go:182", after := #[], guard := none }) (v := ?_) rfl (by kernel_rfl) (by kernel_rfl) (by kernel_rfl) (by kernel_rfl) (fun _ _ _ h => h) (Or.inl ⟨by rfl, ?_⟩) (KC.out _ q0) ?_
        rotate_left
        · (intro w hSw; (try dsimp only at hSw); go_simp; try with_reducible rfl)
        simp only [Act.put, List.setIfInBounds_toArray, List.set_cons_zero, List.set_cons_succ]
        refine anyE_take (i := 12) (oi := { dst := some 43, op := Op.move (Operand.tmp 0), type := 41, pos := "vergerref5.go:182", after := #[], guard := none }) (v := ?_) rfl (by kernel_rfl) (by kernel_rfl) (by kernel_rfl) (by kernel_rfl) (fun _ _ _ h => h) (Or.inl ⟨by rfl, ?_⟩) (KC.out _ q0) ?_
        rotate_left
        · (intro w hSw; (try dsimp only at hSw); go_simp; try with_reducible rfl)
        simp only [Act.put, List.setIfInBounds_toArray, List.set_cons_zero, List.set_cons_succ]
        refine anyE_take (i := 13) (oi := { dst := some 44, op := Op.nilCheck (Operand.tmp 43), type := 0, pos := "vergerref5.go:182", after := #[{ on := 12, ground := Ground.data }], guard := none }) (v := ?_) rfl (by kernel_rfl) (by kernel_rfl) (by kernel_rfl) (by kernel_rfl) (fun _ _ _ h => h) (Or.inl ⟨by rfl, ?_⟩) (KC.out _ q0) ?_
        rotate_left
        · (intro w hSw; (try dsimp only at hSw); go_simp; try with_reducible rfl)
        simp only [Act.put, List.setIfInBounds_toArray, List.set_cons_zero, List.set_cons_succ]
        refine anyE_take (i := 14) (oi := { dst := some 45, op := Op.fieldAddr 44 (Operand.tmp 44) 0, type := 0, pos := "vergerref5.go:182", after := #[{ on := 13, ground := Ground.data }], guard := none }) (v := ?_) rfl (by kernel_rfl) (by kernel_rfl) (by kernel_rfl) (by kernel_rfl) (fun _ _ _ h => h) (Or.inl ⟨by rfl, ?_⟩) (KC.out _ q0) ?_
        rotate_left
        · (intro w hSw; (try dsimp only at hSw); go_simp; try with_reducible rfl)
        simp only [Act.put, List.setIfInBounds_toArray, List.set_cons_zero, List.set_cons_succ]
        refine anyE_take (i := 15) (oi := { dst := some 46, op := Op.load 42 (Operand.tmp 45), type := 42, pos := "vergerref5.go:182", after := #[{ on := 14, ground := Ground.data }], guard := none }) (v := ?_) rfl (by kernel_rfl) (by kernel_rfl) (by kernel_rfl) (by kernel_rfl) (fun _ _ _ h => h) (Or.inl ⟨by rfl, ?_⟩) (KC.out _ q0) ?_
        rotate_left
        · (intro w hSw; (try dsimp only at hSw); go_simp; try with_reducible rfl)
        simp only [Act.put, List.setIfInBounds_toArray, List.set_cons_zero, List.set_cons_succ]
        refine anyE_take (i := 16) (oi := { dst := some 47, op := Op.move (Operand.tmp 4), type := 3, pos := "vergerref5.go:182", after := #[], guard := none }) (v := ?_) rfl (by kernel_rfl) (by kernel_rfl) (by kernel_rfl) (by kernel_rfl) (fun _ _ _ h => h) (Or.inl ⟨by rfl, ?_⟩) (KC.out _ q0) ?_
        rotate_left
        · (intro w hSw; (try dsimp only at hSw); go_simp; try with_reducible rfl)
        simp only [Act.put, List.setIfInBounds_toArray, List.set_cons_zero, List.set_cons_succ]
        refine anyE_take (i := 17) (oi := { dst := some 48, op := Op.slice 42 (Operand.tmp 46) (some (Operand.tmp 47)) none none, type := 42, pos := "vergerref5.go:182", after := #[{ on := 15, ground := Ground.data }, { on := 16, ground := Ground.data }], guard := none }) (v := ?_) rfl (by kernel_rfl) (by kernel_rfl) (by kernel_rfl) (by kernel_rfl) (fun _ _ _ h => h) (Or.inl ⟨by rfl, ?_⟩) (KC.out _ q0) ?_
        rotate_left
        · (intro w hSw; (try dsimp only at hSw); go_simp; try with_reducible rfl)
        simp only [Act.put, List.setIfInBounds_toArray, List.set_cons_zero, List.set_cons_succ]
        refine anyE_ready (rs := [1, 10]) (by kernel_rfl) (by simp) ?_
        refine AllE.cons (o := { dst := some 32, op := Op.buildSlice 42 0 #[], type := 42, pos := "vergerref5.go:182", after := #[], guard := none }) rfl (fun Kt hKt => ?_) ?_
        · go_simp
          refine hKt.out _ _ (fun _ => KC.out _ va) ?_
          clear hKt Kt
          try simp only [Act.put, List.setIfInBounds_toArray, List.set_cons_zero, List.set_cons_succ]
          refine anyE_ready (rs := [8, 10]) (by kernel_rfl) (by simp) ?_
          refine AllE.cons (o := { dst := some 39, op := Op.call { callee := Callee.builtin Builtin.append, args := #[Operand.tmp 32, Operand.tmp 38], argTypes := #[42, 42] }, type := 42, pos := "vergerref5.go:182", after := #[{ on := 1, ground := Ground.data }, { on := 7, ground := Ground.data }], guard := none }) rfl (fun Kt hKt => ?_) ?_
          · refine step_app ((wl.alloc (.cells #[] 53)).drew) (by rfl) _ _ 42 42 (by rfl) (.slice (some ⟨Z, 0, none⟩) 0 0) (.slice (some ⟨g, off, none⟩) k cap) (by rfl) (by rfl) (.slice r1a k t1a) w1a h1a ?_
            refine hKt.out _ _ (fun _ => KC.out _ x1a) ?_
            clear hKt Kt
            try simp only [Act.put, List.setIfInBounds_toArray, List.set_cons_zero, List.set_cons_succ]
            refine anyE_ready (rs := [10]) (by kernel_rfl) (by simp) ?_
            refine AllE.cons (o := { dst := some 41, op := Op.buildSlice 42 1 #[(0, Operand.tmp 40)], type := 42, pos := "vergerref5.go:182", after := #[{ on := 9, ground := Ground.data }], guard := none }) rfl (fun Kt hKt => ?_) ?_
            · go_simp
              refine hKt.out _ _ (fun _ => KC.out _ xd) ?_
              clear hKt Kt
              try simp only [Act.put, List.setIfInBounds_toArray, List.set_cons_zero, List.set_cons_succ]
              refine anyE_ready (rs := [11]) (by kernel_rfl) (by simp) ?_
              refine AllE.cons (o := { dst := some 42, op := Op.call { callee := Callee.builtin Builtin.append, args := #[Operand.tmp 39, Operand.tmp 41], argTypes := #[42, 42] }, type := 42, pos := "vergerref5.go:182", after := #[{ on := 8, ground := Ground.data }, { on := 10, ground := Ground.data }, { on := 8, ground := Ground.chain }], guard := none }) rfl (fun Kt hKt => ?_) ?_
              · refine step_app (w1a.alloc (.cells #[.int .i64 m, .slice p K q] 53)) (by rfl) _ _ 42 42 (by rfl) (.slice r1a k t1a) (.slice (some ⟨Y, 0, none⟩) 1 1) (by rfl) (by rfl) (.slice r2a (k + 1) t2a) w2a h2a ?_
                refine hKt.out _ _ (fun _ => KC.out _ x2a) ?_
                clear hKt Kt
                try simp only [Act.put, List.setIfInBounds_toArray, List.set_cons_zero, List.set_cons_succ]
                refine anyE_ready (rs := [18]) (by kernel_rfl) (by simp) ?_
                refine AllE.cons (o := { dst := some 49, op := Op.call { callee := Callee.builtin Builtin.append, args := #[Operand.tmp 42, Operand.tmp 48], argTypes := #[42, 42] }, type := 42, pos := "vergerref5.go:182", after := #[{ on := 11, ground := Ground.data }, { on := 17, ground := Ground.data }, { on := 11, ground := Ground.chain }], guard := none }) rfl (fun Kt hKt => ?_) ?_
                · refine step_app w2a (by rfl) _ _ 42 42 (by rfl) (.slice r2a (k + 1) t2a) (.slice p1 (n - k) (cap - k)) (by rfl) (by rfl) (.slice r3a (n + 1) t3a) w3a h3a ?_
                  refine hKt.out _ _ (fun _ => KC.out _ x3a) ?_
                  clear hKt Kt
                  try simp only [Act.put, List.setIfInBounds_toArray, List.set_cons_zero, List.set_cons_succ]
                  refine anyE_ready (rs := [19]) (by kernel_rfl) (by simp) ?_
                  refine AllE.cons (o := { dst := some 50, op := Op.nilCheck (Operand.tmp 31), type := 0, pos := "vergerref5.go:182", after := #[{ on := 0, ground := Ground.data }, { on := 0, ground := Ground.phase }, { on := 1, ground := Ground.phase }, { on := 2, ground := Ground.phase }, { on := 3, ground := Ground.phase }, { on := 4, ground := Ground.phase }, { on := 5, ground := Ground.phase }, { on := 6, ground := Ground.phase }, { on := 7, ground := Ground.phase }, { on := 8, ground := Ground.phase }, { on := 9, ground := Ground.phase }, { on := 10, ground := Ground.phase }, { on := 11, ground := Ground.phase }, { on := 12, ground := Ground.phase }, { on := 13, ground := Ground.phase }, { on := 14, ground := Ground.phase }, { on := 15, ground := Ground.phase }, { on := 16, ground := Ground.phase }, { on := 17, ground := Ground.phase }, { on := 18, ground := Ground.phase }], guard := none }) rfl (fun Kt hKt => ?_) ?_
                  · go_simp
                    refine hKt.out _ _ (fun _ => KC.out _ x3a) ?_
                    clear hKt Kt
                    try simp only [Act.put, List.setIfInBounds_toArray, List.set_cons_zero, List.set_cons_succ]
                    refine anyE_take (i := 20) (oi := { dst := some 51, op := Op.fieldAddr 44 (Operand.tmp 50) 0, type := 0, pos := "vergerref5.go:182", after := #[{ on := 19, ground := Ground.data }, { on := 0, ground := Ground.phase }, { on := 1, ground := Ground.phase }, { on := 2, ground := Ground.phase }, { on := 3, ground := Ground.phase }, { on := 4, ground := Ground.phase }, { on := 5, ground := Ground.phase }, { on := 6, ground := Ground.phase }, { on := 7, ground := Ground.phase }, { on := 8, ground := Ground.phase }, { on := 9, ground := Ground.phase }, { on := 10, ground := Ground.phase }, { on := 11, ground := Ground.phase }, { on := 12, ground := Ground.phase }, { on := 13, ground := Ground.phase }, { on := 14, ground := Ground.phase }, { on := 15, ground := Ground.phase }, { on := 16, ground := Ground.phase }, { on := 17, ground := Ground.phase }, { on := 18, ground := Ground.phase }], guard := none }) (v := ?_) rfl (by kernel_rfl) (by kernel_rfl) (by kernel_rfl) (by kernel_rfl) (fun _ _ _ h => h) (Or.inl ⟨by rfl, ?_⟩) (KC.out _ x3a) ?_
                    rotate_left
                    · (intro w hSw; (try dsimp only at hSw); go_simp; try with_reducible rfl)
                    simp only [Act.put, List.setIfInBounds_toArray, List.set_cons_zero, List.set_cons_succ]
                    refine anyE_ready (rs := [21]) (by kernel_rfl) (by simp) ?_
                    refine AllE.cons (o := { dst := none, op := Op.store 42 (Operand.tmp 51) (Operand.tmp 49), type := 0, pos := "vergerref5.go:182", after := #[{ on := 20, ground := Ground.data }, { on := 18, ground := Ground.data }, { on := 18, ground := Ground.chain }, { on := 0, ground := Ground.phase }, { on := 1, ground := Ground.phase }, { on := 2, ground := Ground.phase }, { on := 3, ground := Ground.phase }, { on := 4, ground := Ground.phase }, { on := 5, ground := Ground.phase }, { on := 6, ground := Ground.phase }, { on := 7, ground := Ground.phase }, { on := 8, ground := Ground.phase }, { on := 9, ground := Ground.phase }, { on := 10, ground := Ground.phase }, { on := 11, ground := Ground.phase }, { on := 12, ground := Ground.phase }, { on := 13, ground := Ground.phase }, { on := 14, ground := Ground.phase }, { on := 15, ground := Ground.phase }, { on := 16, ground := Ground.phase }, { on := 17, ground := Ground.phase }, { on := 18, ground := Ground.phase }], guard := none }) rfl (fun Kt hKt => ?_) ?_
                    · go_simp
                      refine hKt.out _ _ (fun h => absurd rfl h) ?_
                      clear hKt Kt
                      try simp only [Act.put, List.setIfInBounds_toArray, List.set_cons_zero, List.set_cons_succ]
                      refine anyE_done (by kernel_rfl) ?_ _
                      go_wp2
                      go_end0
                      exact ⟨rfl, .inr ⟨by omega, k, LA.out, ⟨Ta.out.1, grownBy_trans (grownBy_below WL.out) Ta.out.2⟩⟩⟩
                    exact AllE.nil
                  exact AllE.nil
                exact AllE.nil
              exact AllE.nil
            exact AllE.nil
          refine AllE.cons (o := { dst := some 41, op := Op.buildSlice 42 1 #[(0, Operand.tmp 40)], type := 42, pos := "vergerref5.go:182", after := #[{ on := 9, ground := Ground.data }], guard := none }) rfl (fun Kt hKt => ?_) ?_
          · go_simp
            refine hKt.out _ _ (fun _ => KC.out _ vb) ?_
            clear hKt Kt
            try simp only [Act.put, List.setIfInBounds_toArray, List.set_cons_zero, List.set_cons_succ]
            refine anyE_ready (rs := [8]) (by kernel_rfl) (by simp) ?_
            refine AllE.cons (o := { dst := some 39, op := Op.call { callee := Callee.builtin Builtin.append, args := #[Operand.tmp 32, Operand.tmp 38], argTypes := #[42, 42] }, type := 42, pos := "vergerref5.go:182", after := #[{ on := 1, ground := Ground.data }, { on := 7, ground := Ground.data }], guard := none }) rfl (fun Kt hKt => ?_) ?_
            · refine step_app (((wl.alloc (.cells #[] 53)).alloc (.cells #[.int .i64 m, .slice p K q] 53)).drew) (by rfl) _ _ 42 42 (by rfl) (.slice (some ⟨Z, 0, none⟩) 0 0) (.slice (some ⟨g, off, none⟩) k cap) (by rfl) (by rfl) (.slice r1b k t1b) w1b h1b ?_
              refine hKt.out _ _ (fun _ => KC.out _ x1b) ?_
              clear hKt Kt
              try simp only [Act.put, List.setIfInBounds_toArray, List.set_cons_zero, List.set_cons_succ]
              refine anyE_ready (rs := [11]) (by kernel_rfl) (by simp) ?_
              refine AllE.cons (o := { dst := some 42, op := Op.call { callee := Callee.builtin Builtin.append, args := #[Operand.tmp 39, Operand.tmp 41], argTypes := #[42, 42] }, type := 42, pos := "vergerref5.go:182", after := #[{ on := 8, ground := Ground.data }, { on := 10, ground := Ground.data }, { on := 8, ground := Ground.chain }], guard := none }) rfl (fun Kt hKt => ?_) ?_
              · refine step_app w1b (by rfl) _ _ 42 42 (by rfl) (.slice r1b k t1b) (.slice (some ⟨(Z + 1), 0, none⟩) 1 1) (by rfl) (by rfl) (.slice r2b (k + 1) t2b) w2b h2b ?_
                refine hKt.out _ _ (fun _ => KC.out _ x2b) ?_
                clear hKt Kt
                try simp only [Act.put, List.setIfInBounds_toArray, List.set_cons_zero, List.set_cons_succ]
                refine anyE_ready (rs := [18]) (by kernel_rfl) (by simp) ?_
                refine AllE.cons (o := { dst := some 49, op := Op.call { callee := Callee.builtin Builtin.append, args := #[Operand.tmp 42, Operand.tmp 48], argTypes := #[42, 42] }, type := 42, pos := "vergerref5.go:182", after := #[{ on := 11, ground := Ground.data }, { on := 17, ground := Ground.data }, { on := 11, ground := Ground.chain }], guard := none }) rfl (fun Kt hKt => ?_) ?_
                · refine step_app w2b (by rfl) _ _ 42 42 (by rfl) (.slice r2b (k + 1) t2b) (.slice p1 (n - k) (cap - k)) (by rfl) (by rfl) (.slice r3b (n + 1) t3b) w3b h3b ?_
                  refine hKt.out _ _ (fun _ => KC.out _ x3b) ?_
                  clear hKt Kt
                  try simp only [Act.put, List.setIfInBounds_toArray, List.set_cons_zero, List.set_cons_succ]
                  refine anyE_ready (rs := [19]) (by kernel_rfl) (by simp) ?_
                  refine AllE.cons (o := { dst := some 50, op := Op.nilCheck (Operand.tmp 31), type := 0, pos := "vergerref5.go:182", after := #[{ on := 0, ground := Ground.data }, { on := 0, ground := Ground.phase }, { on := 1, ground := Ground.phase }, { on := 2, ground := Ground.phase }, { on := 3, ground := Ground.phase }, { on := 4, ground := Ground.phase }, { on := 5, ground := Ground.phase }, { on := 6, ground := Ground.phase }, { on := 7, ground := Ground.phase }, { on := 8, ground := Ground.phase }, { on := 9, ground := Ground.phase }, { on := 10, ground := Ground.phase }, { on := 11, ground := Ground.phase }, { on := 12, ground := Ground.phase }, { on := 13, ground := Ground.phase }, { on := 14, ground := Ground.phase }, { on := 15, ground := Ground.phase }, { on := 16, ground := Ground.phase }, { on := 17, ground := Ground.phase }, { on := 18, ground := Ground.phase }], guard := none }) rfl (fun Kt hKt => ?_) ?_
                  · go_simp
                    refine hKt.out _ _ (fun _ => KC.out _ x3b) ?_
                    clear hKt Kt
                    try simp only [Act.put, List.setIfInBounds_toArray, List.set_cons_zero, List.set_cons_succ]
                    refine anyE_take (i := 20) (oi := { dst := some 51, op := Op.fieldAddr 44 (Operand.tmp 50) 0, type := 0, pos := "vergerref5.go:182", after := #[{ on := 19, ground := Ground.data }, { on := 0, ground := Ground.phase }, { on := 1, ground := Ground.phase }, { on := 2, ground := Ground.phase }, { on := 3, ground := Ground.phase }, { on := 4, ground := Ground.phase }, { on := 5, ground := Ground.phase }, { on := 6, ground := Ground.phase }, { on := 7, ground := Ground.phase }, { on := 8, ground := Ground.phase }, { on := 9, ground := Ground.phase }, { on := 10, ground := Ground.phase }, { on := 11, ground := Ground.phase }, { on := 12, ground := Ground.phase }, { on := 13, ground := Ground.phase }, { on := 14, ground := Ground.phase }, { on := 15, ground := Ground.phase }, { on := 16, ground := Ground.phase }, { on := 17, ground := Ground.phase }, { on := 18, ground := Ground.phase }], guard := none }) (v := ?_) rfl (by kernel_rfl) (by kernel_rfl) (by kernel_rfl) (by kernel_rfl) (fun _ _ _ h => h) (Or.inl ⟨by rfl, ?_⟩) (KC.out _ x3b) ?_
                    rotate_left
                    · (intro w hSw; (try dsimp only at hSw); go_simp; try with_reducible rfl)
                    simp only [Act.put, List.setIfInBounds_toArray, List.set_cons_zero, List.set_cons_succ]
                    refine anyE_ready (rs := [21]) (by kernel_rfl) (by simp) ?_
                    refine AllE.cons (o := { dst := none, op := Op.store 42 (Operand.tmp 51) (Operand.tmp 49), type := 0, pos := "vergerref5.go:182", after := #[{ on := 20, ground := Ground.data }, { on := 18, ground := Ground.data }, { on := 18, ground := Ground.chain }, { on := 0, ground := Ground.phase }, { on := 1, ground := Ground.phase }, { on := 2, ground := Ground.phase }, { on := 3, ground := Ground.phase }, { on := 4, ground := Ground.phase }, { on := 5, ground := Ground.phase }, { on := 6, ground := Ground.phase }, { on := 7, ground := Ground.phase }, { on := 8, ground := Ground.phase }, { on := 9, ground := Ground.phase }, { on := 10, ground := Ground.phase }, { on := 11, ground := Ground.phase }, { on := 12, ground := Ground.phase }, { on := 13, ground := Ground.phase }, { on := 14, ground := Ground.phase }, { on := 15, ground := Ground.phase }, { on := 16, ground := Ground.phase }, { on := 17, ground := Ground.phase }, { on := 18, ground := Ground.phase }], guard := none }) rfl (fun Kt hKt => ?_) ?_
                    · go_simp
                      refine hKt.out _ _ (fun h => absurd rfl h) ?_
                      clear hKt Kt
                      try simp only [Act.put, List.setIfInBounds_toArray, List.set_cons_zero, List.set_cons_succ]
                      refine anyE_done (by kernel_rfl) ?_ _
                      go_wp2
                      go_end0
                      exact ⟨rfl, .inr ⟨by omega, k, LA.out, ⟨Tb.out.1, grownBy_trans (grownBy_below WL.out) Tb.out.2⟩⟩⟩
                    exact AllE.nil
                  exact AllE.nil
                exact AllE.nil
              exact AllE.nil
            exact AllE.nil
          exact AllE.nil
        refine AllE.cons (o := { dst := some 41, op := Op.buildSlice 42 1 #[(0, Operand.tmp 40)], type := 42, pos := "vergerref5.go:182", after := #[{ on := 9, ground := Ground.data }], guard := none }) rfl (fun Kt hKt => ?_) ?_
        · go_simp
          refine hKt.out _ _ (fun _ => KC.out _ vB) ?_
          clear hKt Kt
          try simp only [Act.put, List.setIfInBounds_toArray, List.set_cons_zero, List.set_cons_succ]
          refine anyE_ready (rs := [1]) (by kernel_rfl) (by simp) ?_
          refine AllE.cons (o := { dst := some 32, op := Op.buildSlice 42 0 #[], type := 42, pos := "vergerref5.go:182", after := #[], guard := none }) rfl (fun Kt hKt => ?_) ?_
          · go_simp
            refine hKt.out _ _ (fun _ => KC.out _ vc) ?_
            clear hKt Kt
            try simp only [Act.put, List.setIfInBounds_toArray, List.set_cons_zero, List.set_cons_succ]
            refine anyE_ready (rs := [8]) (by kernel_rfl) (by simp) ?_
            refine AllE.cons (o := { dst := some 39, op := Op.call { callee := Callee.builtin Builtin.append, args := #[Operand.tmp 32, Operand.tmp 38], argTypes := #[42, 42] }, type := 42, pos := "vergerref5.go:182", after := #[{ on := 1, ground := Ground.data }, { on := 7, ground := Ground.data }], guard := none }) rfl (fun Kt hKt => ?_) ?_
            · refine step_app (((wl.alloc (.cells #[.int .i64 m, .slice p K q] 53)).alloc (.cells #[] 53)).drew) (by rfl) _ _ 42 42 (by rfl) (.slice (some ⟨(Z + 1), 0, none⟩) 0 0) (.slice (some ⟨g, off, none⟩) k cap) (by rfl) (by rfl) (.slice r1c k t1c) w1c h1c ?_
              refine hKt.out _ _ (fun _ => KC.out _ x1c) ?_
              clear hKt Kt
              try simp only [Act.put, List.setIfInBounds_toArray, List.set_cons_zero, List.set_cons_succ]
              refine anyE_ready (rs := [11]) (by kernel_rfl) (by simp) ?_
              refine AllE.cons (o := { dst := some 42, op := Op.call { callee := Callee.builtin Builtin.append, args := #[Operand.tmp 39, Operand.tmp 41], argTypes := #[42, 42] }, type := 42, pos := "vergerref5.go:182", after := #[{ on := 8, ground := Ground.data }, { on := 10, ground := Ground.data }, { on := 8, ground := Ground.chain }], guard := none }) rfl (fun Kt hKt => ?_) ?_
              · refine step_app w1c (by rfl) _ _ 42 42 (by rfl) (.slice r1c k t1c) (.slice (some ⟨Z, 0, none⟩) 1 1) (by rfl) (by rfl) (.slice r2c (k + 1) t2c) w2c h2c ?_
                refine hKt.out _ _ (fun _ => KC.out _ x2c) ?_
                clear hKt Kt
                try simp only [Act.put, List.setIfInBounds_toArray, List.set_cons_zero, List.set_cons_succ]
                refine anyE_ready (rs := [18]) (by kernel_rfl) (by simp) ?_
                refine AllE.cons (o := { dst := some 49, op := Op.call { callee := Callee.builtin Builtin.append, args := #[Operand.tmp 42, Operand.tmp 48], argTypes := #[42, 42] }, type := 42, pos := "vergerref5.go:182", after := #[{ on := 11, ground := Ground.data }, { on := 17, ground := Ground.data }, { on := 11, ground := Ground.chain }], guard := none }) rfl (fun Kt hKt => ?_) ?_
                · refine step_app w2c (by rfl) _ _ 42 42 (by rfl) (.slice r2c (k + 1) t2c) (.slice p1 (n - k) (cap - k)) (by rfl) (by rfl) (.slice r3c (n + 1) t3c) w3c h3c ?_
                  refine hKt.out _ _ (fun _ => KC.out _ x3c) ?_
                  clear hKt Kt
                  try simp only [Act.put, List.setIfInBounds_toArray, List.set_cons_zero, List.set_cons_succ]
                  refine anyE_ready (rs := [19]) (by kernel_rfl) (by simp) ?_
                  refine AllE.cons (o := { dst := some 50, op := Op.nilCheck (Operand.tmp 31), type := 0, pos := "vergerref5.go:182", after := #[{ on := 0, ground := Ground.data }, { on := 0, ground := Ground.phase }, { on := 1, ground := Ground.phase }, { on := 2, ground := Ground.phase }, { on := 3, ground := Ground.phase }, { on := 4, ground := Ground.phase }, { on := 5, ground := Ground.phase }, { on := 6, ground := Ground.phase }, { on := 7, ground := Ground.phase }, { on := 8, ground := Ground.phase }, { on := 9, ground := Ground.phase }, { on := 10, ground := Ground.phase }, { on := 11, ground := Ground.phase }, { on := 12, ground := Ground.phase }, { on := 13, ground := Ground.phase }, { on := 14, ground := Ground.phase }, { on := 15, ground := Ground.phase }, { on := 16, ground := Ground.phase }, { on := 17, ground := Ground.phase }, { on := 18, ground := Ground.phase }], guard := none }) rfl (fun Kt hKt => ?_) ?_
                  · go_simp
                    refine hKt.out _ _ (fun _ => KC.out _ x3c) ?_
                    clear hKt Kt
                    try simp only [Act.put, List.setIfInBounds_toArray, List.set_cons_zero, List.set_cons_succ]
                    refine anyE_take (i := 20) (oi := { dst := some 51, op := Op.fieldAddr 44 (Operand.tmp 50) 0, type := 0, pos := "vergerref5.go:182", after := #[{ on := 19, ground := Ground.data }, { on := 0, ground := Ground.phase }, { on := 1, ground := Ground.phase }, { on := 2, ground := Ground.phase }, { on := 3, ground := Ground.phase }, { on := 4, ground := Ground.phase }, { on := 5, ground := Ground.phase }, { on := 6, ground := Ground.phase }, { on := 7, ground := Ground.phase }, { on := 8, ground := Ground.phase }, { on := 9, ground := Ground.phase }, { on := 10, ground := Ground.phase }, { on := 11, ground := Ground.phase }, { on := 12, ground := Ground.phase }, { on := 13, ground := Ground.phase }, { on := 14, ground := Ground.phase }, { on := 15, ground := Ground.phase }, { on := 16, ground := Ground.phase }, { on := 17, ground := Ground.phase }, { on := 18, ground := Ground.phase }], guard := none }) (v := ?_) rfl (by kernel_rfl) (by kernel_rfl) (by kernel_rfl) (by kernel_rfl) (fun _ _ _ h => h) (Or.inl ⟨by rfl, ?_⟩) (KC.out _ x3c) ?_
                    rotate_left
                    · (intro w hSw; (try dsimp only at hSw); go_simp; try with_reducible rfl)
                    simp only [Act.put, List.setIfInBounds_toArray, List.set_cons_zero, List.set_cons_succ]
                    refine anyE_ready (rs := [21]) (by kernel_rfl) (by simp) ?_
                    refine AllE.cons (o := { dst := none, op := Op.store 42 (Operand.tmp 51) (Operand.tmp 49), type := 0, pos := "vergerref5.go:182", after := #[{ on := 20, ground := Ground.data }, { on := 18, ground := Ground.data }, { on := 18, ground := Ground.chain }, { on := 0, ground := Ground.phase }, { on := 1, ground := Ground.phase }, { on := 2, ground := Ground.phase }, { on := 3, ground := Ground.phase }, { on := 4, ground := Ground.phase }, { on := 5, ground := Ground.phase }, { on := 6, ground := Ground.phase }, { on := 7, ground := Ground.phase }, { on := 8, ground := Ground.phase }, { on := 9, ground := Ground.phase }, { on := 10, ground := Ground.phase }, { on := 11, ground := Ground.phase }, { on := 12, ground := Ground.phase }, { on := 13, ground := Ground.phase }, { on := 14, ground := Ground.phase }, { on := 15, ground := Ground.phase }, { on := 16, ground := Ground.phase }, { on := 17, ground := Ground.phase }, { on := 18, ground := Ground.phase }], guard := none }) rfl (fun Kt hKt => ?_) ?_
                    · go_simp
                      refine hKt.out _ _ (fun h => absurd rfl h) ?_
                      clear hKt Kt
                      try simp only [Act.put, List.setIfInBounds_toArray, List.set_cons_zero, List.set_cons_succ]
                      refine anyE_done (by kernel_rfl) ?_ _
                      go_wp2
                      go_end0
                      exact ⟨rfl, .inr ⟨by omega, k, LA.out, ⟨Tc.out.1, grownBy_trans (grownBy_below WL.out) Tc.out.2⟩⟩⟩
                    exact AllE.nil
                  exact AllE.nil
                exact AllE.nil
              exact AllE.nil
            exact AllE.nil
          exact AllE.nil
        exact AllE.nil
    · obtain rfl : k = n := by omega
      have hz : ¬ (k : Int) < (k : Int) := by omega
      have hz2 : decide ((k : Int) < (k : Int)) = false := decide_eq_false hz
      have LA : Aside (LayAt ls d k) := ⟨by rw [HLN.out]; omega, A.out, fun h => by rw [HLN.out] at h; omega⟩
      go_wp2_with fail
      go_quiet (fail)
      clear y1 y2
      obtain ⟨wl, hwl⟩ : ∃ W, wr.drewN nq = W := ⟨_, rfl⟩
      have bl : Below wr.heap.size wr wl := by rw [← hwl]; exact Grown.below ⟨nq, #[], by rw [grow_empty]⟩
      have CL : Aside (wl.heap[B]? = some (.cells #[.slice a k cap] 44 (0, 0))) := (bl.block B (lt_of_block CB.out)).trans CB.out
      have SL : Aside (wl.heap[S]? = some (.cells #[.int .i64 m, .slice p K q] 53 (0, 0))) := (bl.block S (lt_of_block CS.out)).trans CS.out
      have RL : Aside (RefB wl base a bs) := R.out.below bl
      have OL : Aside (OwnE wl base (.slice p K q) d) := O.out.below bl
      have WL : Aside (Below w.heap.size w wl) := (BU.out.trans (D.out.mono BU.out.size)).trans (bl.mono (Nat.le_trans BU.out.size swr))
      obtain ⟨Z, hZ⟩ : ∃ Z, wl.heap.size = Z := ⟨_, rfl⟩
      have BZ : base ≤ wl.heap.size := Nat.le_trans hbase WL.out.size
      obtain ⟨p1, hp1⟩ : ∃ p1, (if cap = k then a else Option.map (fun (x : Addr) => x.add (k * 2)) a) = p1 := ⟨_, rfl⟩
      have HP1 : (if cap = k then (a : Option Addr) else Option.map (fun (x : Addr) => x.add (k * 2)) a) = p1 := by rw [← hp1]
      have rd : Reads wl a k (flatB (bs.take k)) := (RL.out.take k).reads (by rw [List.length_take, HN.out]; omega)
      have va : Below wl.heap.size wl (wl.alloc (.cells #[] 53)).drew := ((Below.refl _ _).alloc (Nat.le_refl _) _).drew
      obtain ⟨r1a, t1a, w1a, h1a, o1a, b1a, _, _⟩ := push0 (g := Z) (cap := cap) (rd.below va) (by omega)
      have x1a : Below wl.heap.size wl w1a := va.trans (b1a.mono va.size)
      have vd : Below w1a.heap.size w1a (w1a.alloc (.cells #[.int .i64 m, .slice p K q] 53)) := (Below.refl _ _).alloc (Nat.le_refl _) _
      obtain ⟨Y, hY⟩ : ∃ Y, w1a.heap.size = Y := ⟨_, rfl⟩
      obtain ⟨r2a, t2a, w2a, r3a, t3a, w3a, h2a, h3a, x2a, x3a, c3a, tta⟩ := rlay_chain (G := Y) (x1a.trans (vd.mono x1a.size)) va.size (Nat.le_trans b1a.size vd.size) CL.out hB BZ RL.out HN.out (by omega) OL.out HK.out HM.out (o1a.below vd) (by omega) (by rw [← hY]; exact heap_alloc_new w1a _) n63 HP1
      have Ta : Aside (RTurned wl base B (laid ls d k) (w3a.setCell ⟨B, 0, none⟩ (.slice r3a (k + 1) t3a))) := by have := tta; rw [HBS.out] at this; exact this
      have sa1 := lsm_cell c3a
      have sa2 := lsm_fro c3a
      have vb : Below wl.heap.size wl ((wl.alloc (.cells #[] 53)).alloc (.cells #[.int .i64 m, .slice p K q] 53)).drew := (((Below.refl _ _).alloc (Nat.le_refl _) _).alloc (by simp) _).drew
      obtain ⟨r1b, t1b, w1b, h1b, o1b, b1b, _, _⟩ := push0 (g := Z) (cap := cap) (rd.below vb) (by omega)
      have x1b : Below wl.heap.size wl w1b := vb.trans (b1b.mono vb.size)
      have gb : (((wl.alloc (.cells #[] 53)).alloc (.cells #[.int .i64 m, .slice p K q] 53)).drew).heap[(Z + 1)]? = some (.cells #[.int .i64 m, .slice p K q] 53 (0, 0)) := by have h := heap_alloc_new (wl.alloc (.cells #[] 53)) (.cells #[.int .i64 m, .slice p K q] 53); rw [show (wl.alloc (.cells #[] 53)).heap.size = Z + 1 by simp [hZ]] at h; exact h
      obtain ⟨r2b, t2b, w2b, r3b, t3b, w3b, h2b, h3b, x2b, x3b, c3b, ttb⟩ := rlay_chain (G := (Z + 1)) x1b vb.size b1b.size CL.out hB BZ RL.out HN.out (by omega) OL.out HK.out HM.out o1b (by omega) ((b1b.block _ (lt_of_block gb)).trans gb) n63 HP1
      have Tb : Aside (RTurned wl base B (laid ls d k) (w3b.setCell ⟨B, 0, none⟩ (.slice r3b (k + 1) t3b))) := by have := ttb; rw [HBS.out] at this; exact this
      have sb1 := lsm_cell c3b
      have sb2 := lsm_fro c3b
      have vc : Below wl.heap.size wl ((wl.alloc (.cells #[.int .i64 m, .slice p K q] 53)).alloc (.cells #[] 53)).drew := (((Below.refl _ _).alloc (Nat.le_refl _) _).alloc (by simp) _).drew
      obtain ⟨r1c, t1c, w1c, h1c, o1c, b1c, _, _⟩ := push0 (g := (Z + 1)) (cap := cap) (rd.below vc) (by omega)
      have x1c : Below wl.heap.size wl w1c := vc.trans (b1c.mono vc.size)
      have gc : (((wl.alloc (.cells #[.int .i64 m, .slice p K q] 53)).alloc (.cells #[] 53)).drew).heap[Z]? = some (.cells #[.int .i64 m, .slice p K q] 53 (0, 0)) := by rw [← hZ]; exact (((Below.refl _ _).alloc (Nat.le_refl _) (.cells #[] 53)).block _ (by simp)).trans (heap_alloc_new wl (.cells #[.int .i64 m, .slice p K q] 53))
      obtain ⟨r2c, t2c, w2c, r3c, t3c, w3c, h2c, h3c, x2c, x3c, c3c, ttc⟩ := rlay_chain (G := Z) x1c vc.size b1c.size CL.out hB BZ RL.out HN.out (by omega) OL.out HK.out HM.out o1c (by omega) ((b1c.block _ (lt_of_block gc)).trans gc) n63 HP1
      have Tc : Aside (RTurned wl base B (laid ls d k) (w3c.setCell ⟨B, 0, none⟩ (.slice r3c (k + 1) t3c))) := by have := ttc; rw [HBS.out] at this; exact this
      have sc1 := lsm_cell c3c
      have sc2 := lsm_fro c3c
      have yB := lsm_cell CL.out
      have yS0 := box0 SL.out
      have yS1 := box1 SL.out
      have KC : Aside (∀ v, Below wl.heap.size wl v → v.cell? ⟨B, 0, none⟩ = some (.slice a k cap) ∧ v.cell? ⟨S, 0, none⟩ = some (.int .i64 m) ∧ v.cell? ⟨S, 1, none⟩ = some (.slice p K q)) := fun v hv => ⟨lsm_cell ((hv.block B (lt_of_block CL.out)).trans CL.out), box0 ((hv.block S (lt_of_block SL.out)).trans SL.out), box1 ((hv.block S (lt_of_block SL.out)).trans SL.out)⟩
      have j1 : (k : Int) ≤ (cap : Int) := by omega
      have j2 : (k : Int) ≤ (k : Int) := by omega
      have j3 : (0 : Int) ≤ (k : Int) := by omega
      have mx := mixed
      rw [Nat.sub_self] at h3a h3b h3c
      have HWL : Hid _ := hwl
      have q0 : Below wl.heap.size wl wl.drew := (Below.refl _ _).drew
      have vB : Below wl.heap.size wl (wl.alloc (.cells #[.int .i64 m, .slice p K q] 53)).drew := ((Below.refl _ _).alloc (Nat.le_refl _) _).drew
      have xd : Below wl.heap.size wl (w1a.alloc (.cells #[.int .i64 m, .slice p K q] 53)) := x1a.trans (vd.mono x1a.size)
      clear hwl bl CB CS R O D A tta ttb ttc gb gc vd o1a o1b o1c rd
      go_wp2_with fail
      rw [HWL.out]
      refine anyE_start (S := fun v => v.cell? ⟨B, 0, none⟩ = some (.slice a k cap) ∧ v.cell? ⟨S, 0, none⟩ = some (.int .i64 m) ∧ v.cell? ⟨S, 1, none⟩ = some (.slice p K q)) (L := 21) (by kernel_rfl) ?_
      refine anyE_take (i := 0) (oi := { dst := some 31, op := Op.move (Operand.tmp 0), type := 41, pos := "vergerref5.go:182", after := #[], guard := none }) (v := ?_) rfl (by kernel_rfl) (by kernel_rfl) (by kernel_rfl) (by kernel_rfl) (fun _ _ _ h => h) (Or.inl ⟨by rfl, ?_⟩) (KC.out _ q0) ?_
      rotate_left
      · (intro w hSw; (try dsimp only at hSw); go_simp; try with_reducible rfl)
      simp only [Act.put, List.setIfInBounds_toArray, List.set_cons_zero, List.set_cons_succ]
      refine anyE_take (i := 2) (oi := { dst := some 33, op := Op.move (Operand.tmp 0), type := 41, pos := "vergerref5.go:182", after := #[], guard := none }) (v := ?_) rfl (by kernel_rfl) (by kernel_rfl) (by kernel_rfl) (by kernel_rfl) (fun _ _ _ h => h) (Or.inl ⟨by rfl, ?_⟩) (KC.out _ q0) ?_
      rotate_left
      · (intro w hSw; (try dsimp only at hSw); go_simp; try with_reducible rfl)
      simp only [Act.put, List.setIfInBounds_toArray, List.set_cons_zero, List.set_cons_succ]
      refine anyE_take (i := 3) (oi := { dst := some 34, op := Op.nilCheck (Operand.tmp 33), type := 0, pos := "vergerref5.go:182", after := #[{ on := 2, ground := Ground.data }], guard := none }) (v := ?_) rfl (by kernel_rfl) (by kernel_rfl) (by kernel_rfl) (by kernel_rfl) (fun _ _ _ h => h) (Or.inl ⟨by rfl, ?_⟩) (KC.out _ q0) ?_
      rotate_left
      · (intro w hSw; (try dsimp only at hSw); go_simp; try with_reducible rfl)
      simp only [Act.put, List.setIfInBounds_toArray, List.set_cons_zero, List.set_cons_succ]
      refine anyE_take (i := 4) (oi := { dst := some 35, op := Op.fieldAddr 44 (Operand.tmp 34) 0, type := 0, pos := "vergerref5.go:182", after := #[{ on := 3, ground := Ground.data }], guard := none }) (v := ?_) rfl (by kernel_rfl) (by kernel_rfl) (by kernel_rfl) (by kernel_rfl) (fun _ _ _ h => h) (Or.inl ⟨by rfl, ?_⟩) (KC.out _ q0) ?_
      rotate_left
      · (intro w hSw; (try dsimp only at hSw); go_simp; try with_reducible rfl)
      simp only [Act.put, List.setIfInBounds_toArray, List.set_cons_zero, List.set_cons_succ]
      refine anyE_take (i := 5) (oi := { dst := some 36, op := Op.load 42 (Operand.tmp 35), type := 42, pos := "vergerref5.go:182", after := #[{ on := 4, ground := Ground.data }], guard := none }) (v := ?_) rfl (by kernel_rfl) (by kernel_rfl) (by kernel_rfl) (by kernel_rfl) (fun _ _ _ h => h) (Or.inl ⟨by rfl, ?_⟩) (KC.out _ q0) ?_
      rotate_left
      · (intro w hSw; (try dsimp only at hSw); go_simp; try with_reducible rfl)
      simp only [Act.put, List.setIfInBounds_toArray, List.set_cons_zero, List.set_cons_succ]
      refine anyE_take (i := 6) (oi := { dst := some 37, op := Op.move (Operand.tmp 4), type := 3, pos := "vergerref5.go:182", after := #[], guard := none }) (v := ?_) rfl (by kernel_rfl) (by kernel_rfl) (by kernel_rfl) (by kernel_rfl) (fun _ _ _ h => h) (Or.inl ⟨by rfl, ?_⟩) (KC.out _ q0) ?_
      rotate_left
      · (intro w hSw; (try dsimp only at hSw); go_simp; try with_reducible rfl)
      simp only [Act.put, List.setIfInBounds_toArray, List.set_cons_zero, List.set_cons_succ]
      refine anyE_take (i := 7) (oi := { dst := some 38, op := Op.slice 42 (Operand.tmp 36) none (some (Operand.tmp 37)) none, type := 42, pos := "vergerref5.go:182", after := #[{ on := 5, ground := Ground.data }, { on := 6, ground := Ground.data }], guard := none }) (v := ?_) rfl (by kernel_rfl) (by kernel_rfl) (by kernel_rfl) (by kernel_rfl) (fun _ _ _ h => h) (Or.inl ⟨by rfl, ?_⟩) (KC.out _ q0) ?_
      rotate_left
      · (intro w hSw; (try dsimp only at hSw); go_simp; try with_reducible rfl)
      simp only [Act.put, List.setIfInBounds_toArray, List.set_cons_zero, List.set_cons_succ]
      refine anyE_take (i := 9) (oi := { dst := some 40, op := Op.load 53 (Operand.tmp 3), type := 53, pos := "vergerref5.go:182", after := #[], guard := none }) (v := ?_) rfl (by kernel_rfl) (by kernel_rfl) (by kernel_rfl) (by kernel_rfl) (fun _ _ _ h => h) (Or.inl ⟨by rfl, ?_⟩) (KC.out _ q0) ?_
      rotate_left
      · (intro w hSw; (try dsimp only at hSw); go_simp; try with_reducible rfl)
      simp only [Act.put, List.setIfInBounds_toArray, List.set_cons_zero, List.set_cons_succ]
      refine anyE_take (i := 12) (oi := { dst := some 43, op := Op.move (Operand.tmp 0), type := 41, pos := "vergerref5.go:182", after := #[], guard := none }) (v := ?_) rfl (by kernel_rfl) (by kernel_rfl) (by kernel_rfl) (by kernel_rfl) (fun _ _ _ h => h) (Or.inl ⟨by rfl, ?_⟩) (KC.out _ q0) ?_
      rotate_left
      · (intro w hSw; (try dsimp only at hSw); go_simp; try with_reducible rfl)
      simp only [Act.put, List.setIfInBounds_toArray, List.set_cons_zero, List.set_cons_succ]
      refine anyE_take (i := 13) (oi := { dst := some 44, op := Op.nilCheck (Operand.tmp 43), type := 0, pos := "vergerref5.go:182", after := #[{ on := 12, ground := Ground.data }], guard := none }) (v := ?_) rfl (by kernel_rfl) (by kernel_rfl) (by kernel_rfl) (by kernel_rfl) (fun _ _ _ h => h) (Or.inl ⟨by rfl, ?_⟩) (KC.out _ q0) ?_
      rotate_left
      · (intro w hSw; (try dsimp only at hSw); go_simp; try with_reducible rfl)
      simp only [Act.put, List.setIfInBounds_toArray, List.set_cons_zero, List.set_cons_succ]
      refine anyE_take (i := 14) (oi := { dst := some 45, op := Op.fieldAddr 44 (Operand.tmp 44) 0, type := 0, pos := "vergerref5.go:182", after := #[{ on := 13, ground := Ground.data }], guard := none }) (v := ?_) rfl (by kernel_rfl) (by kernel_rfl) (by kernel_rfl) (by kernel_rfl) (fun _ _ _ h => h) (Or.inl ⟨by rfl, ?_⟩) (KC.out _ q0) ?_
      rotate_left
      · (intro w hSw; (try dsimp only at hSw); go_simp; try with_reducible rfl)
      simp only [Act.put, List.setIfInBounds_toArray, List.set_cons_zero, List.set_cons_succ]
      refine anyE_take (i := 15) (oi := { dst := some 46, op := Op.load 42 (Operand.tmp 45), type := 42, pos := "vergerref5.go:182", after := #[{ on := 14, ground := Ground.data }], guard := none }) (v := ?_) rfl (by kernel_rfl) (by kernel_rfl) (by kernel_rfl) (by kernel_rfl) (fun _ _ _ h => h) (Or.inl ⟨by rfl, ?_⟩) (KC.out _ q0) ?_
      rotate_left
      · (intro w hSw; (try dsimp only at hSw); go_simp; try with_reducible rfl)
      simp only [Act.put, List.setIfInBounds_toArray, List.set_cons_zero, List.set_cons_succ]
      refine anyE_take (i := 16) (oi := { dst := some 47, op := Op.move (Operand.tmp 4), type := 3, pos := "vergerref5.go:182", after := #[], guard := none }) (v := ?_) rfl (by kernel_rfl) (by kernel_rfl) (by kernel_rfl) (by kernel_rfl) (fun _ _ _ h => h) (Or.inl ⟨by rfl, ?_⟩) (KC.out _ q0) ?_
      rotate_left
      · (intro w hSw; (try dsimp only at hSw); go_simp; try with_reducible rfl)
      simp only [Act.put, List.setIfInBounds_toArray, List.set_cons_zero, List.set_cons_succ]
      refine anyE_take (i := 17) (oi := { dst := some 48, op := Op.slice 42 (Operand.tmp 46) (some (Operand.tmp 47)) none none, type := 42, pos := "vergerref5.go:182", after := #[{ on := 15, ground := Ground.data }, { on := 16, ground := Ground.data }], guard := none }) (v := ?_) rfl (by kernel_rfl) (by kernel_rfl) (by kernel_rfl) (by kernel_rfl) (fun _ _ _ h => h) (Or.inl ⟨by rfl, ?_⟩) (KC.out _ q0) ?_
      rotate_left
      · (intro w hSw; (try dsimp only at hSw); go_simp; try with_reducible rfl)
      simp only [Act.put, List.setIfInBounds_toArray, List.set_cons_zero, List.set_cons_succ]
      refine anyE_ready (rs := [1, 10]) (by kernel_rfl) (by simp) ?_
      refine AllE.cons (o := { dst := some 32, op := Op.buildSlice 42 0 #[], type := 42, pos := "vergerref5.go:182", after := #[], guard := none }) rfl (fun Kt hKt => ?_) ?_
      · go_simp
        refine hKt.out _ _ (fun _ => KC.out _ va) ?_
        clear hKt Kt
        try simp only [Act.put, List.setIfInBounds_toArray, List.set_cons_zero, List.set_cons_succ]
        refine anyE_ready (rs := [8, 10]) (by kernel_rfl) (by simp) ?_
        refine AllE.cons (o := { dst := some 39, op := Op.call { callee := Callee.builtin Builtin.append, args := #[Operand.tmp 32, Operand.tmp 38], argTypes := #[42, 42] }, type := 42, pos := "vergerref5.go:182", after := #[{ on := 1, ground := Ground.data }, { on := 7, ground := Ground.data }], guard := none }) rfl (fun Kt hKt => ?_) ?_
        · refine step_app ((wl.alloc (.cells #[] 53)).drew) (by rfl) _ _ 42 42 (by rfl) (.slice (some ⟨Z, 0, none⟩) 0 0) (.slice a k cap) (by rfl) (by rfl) (.slice r1a k t1a) w1a h1a ?_
          refine hKt.out _ _ (fun _ => KC.out _ x1a) ?_
          clear hKt Kt
          try simp only [Act.put, List.setIfInBounds_toArray, List.set_cons_zero, List.set_cons_succ]
          refine anyE_ready (rs := [10]) (by kernel_rfl) (by simp) ?_
          refine AllE.cons (o := { dst := some 41, op := Op.buildSlice 42 1 #[(0, Operand.tmp 40)], type := 42, pos := "vergerref5.go:182", after := #[{ on := 9, ground := Ground.data }], guard := none }) rfl (fun Kt hKt => ?_) ?_
          · go_simp
            refine hKt.out _ _ (fun _ => KC.out _ xd) ?_
            clear hKt Kt
            try simp only [Act.put, List.setIfInBounds_toArray, List.set_cons_zero, List.set_cons_succ]
            refine anyE_ready (rs := [11]) (by kernel_rfl) (by simp) ?_
            refine AllE.cons (o := { dst := some 42, op := Op.call { callee := Callee.builtin Builtin.append, args := #[Operand.tmp 39, Operand.tmp 41], argTypes := #[42, 42] }, type := 42, pos := "vergerref5.go:182", after := #[{ on := 8, ground := Ground.data }, { on := 10, ground := Ground.data }, { on := 8, ground := Ground.chain }], guard := none }) rfl (fun Kt hKt => ?_) ?_
            · refine step_app (w1a.alloc (.cells #[.int .i64 m, .slice p K q] 53)) (by rfl) _ _ 42 42 (by rfl) (.slice r1a k t1a) (.slice (some ⟨Y, 0, none⟩) 1 1) (by rfl) (by rfl) (.slice r2a (k + 1) t2a) w2a h2a ?_
              refine hKt.out _ _ (fun _ => KC.out _ x2a) ?_
              clear hKt Kt
              try simp only [Act.put, List.setIfInBounds_toArray, List.set_cons_zero, List.set_cons_succ]
              refine anyE_ready (rs := [18]) (by kernel_rfl) (by simp) ?_
              refine AllE.cons (o := { dst := some 49, op := Op.call { callee := Callee.builtin Builtin.append, args := #[Operand.tmp 42, Operand.tmp 48], argTypes := #[42, 42] }, type := 42, pos := "vergerref5.go:182", after := #[{ on := 11, ground := Ground.data }, { on := 17, ground := Ground.data }, { on := 11, ground := Ground.chain }], guard := none }) rfl (fun Kt hKt => ?_) ?_
              · refine step_app w2a (by rfl) _ _ 42 42 (by rfl) (.slice r2a (k + 1) t2a) (.slice p1 0 (cap - k)) (by rfl) (by rfl) (.slice r3a (k + 1) t3a) w3a h3a ?_
                refine hKt.out _ _ (fun _ => KC.out _ x3a) ?_
                clear hKt Kt
                try simp only [Act.put, List.setIfInBounds_toArray, List.set_cons_zero, List.set_cons_succ]
                refine anyE_ready (rs := [19]) (by kernel_rfl) (by simp) ?_
                refine AllE.cons (o := { dst := some 50, op := Op.nilCheck (Operand.tmp 31), type := 0, pos := "vergerref5.go:182", after := #[{ on := 0, ground := Ground.data }, { on := 0, ground := Ground.phase }, { on := 1, ground := Ground.phase }, { on := 2, ground := Ground.phase }, { on := 3, ground := Ground.phase }, { on := 4, ground := Ground.phase }, { on := 5, ground := Ground.phase }, { on := 6, ground := Ground.phase }, { on := 7, ground := Ground.phase }, { on := 8, ground := Ground.phase }, { on := 9, ground := Ground.phase }, { on := 10, ground := Ground.phase }, { on := 11, ground := Ground.phase }, { on := 12, ground := Ground.phase }, { on := 13, ground := Ground.phase }, { on := 14, ground := Ground.phase }, { on := 15, ground := Ground.phase }, { on := 16, ground := Ground.phase }, { on := 17, ground := Ground.phase }, { on := 18, ground := Ground.phase }], guard := none }) rfl (fun Kt hKt => ?_) ?_
                · go_simp
                  refine hKt.out _ _ (fun _ => KC.out _ x3a) ?_
                  clear hKt Kt
                  try simp only [Act.put, List.setIfInBounds_toArray, List.set_cons_zero, List.set_cons_succ]
                  refine anyE_take (i := 20) (oi := { dst := some 51, op := Op.fieldAddr 44 (Operand.tmp 50) 0, type := 0, pos := "vergerref5.go:182", after := #[{ on := 19, ground := Ground.data }, { on := 0, ground := Ground.phase }, { on := 1, ground := Ground.phase }, { on := 2, ground := Ground.phase }, { on := 3, ground := Ground.phase }, { on := 4, ground := Ground.phase }, { on := 5, ground := Ground.phase }, { on := 6, ground := Ground.phase }, { on := 7, ground := Ground.phase }, { on := 8, ground := Ground.phase }, { on := 9, ground := Ground.phase }, { on := 10, ground := Ground.phase }, { on := 11, ground := Ground.phase }, { on := 12, ground := Ground.phase }, { on := 13, ground := Ground.phase }, { on := 14, ground := Ground.phase }, { on := 15, ground := Ground.phase }, { on := 16, ground := Ground.phase }, { on := 17, ground := Ground.phase }, { on := 18, ground := Ground.phase }], guard := none }) (v := ?_) rfl (by kernel_rfl) (by kernel_rfl) (by kernel_rfl) (by kernel_rfl) (fun _ _ _ h => h) (Or.inl ⟨by rfl, ?_⟩) (KC.out _ x3a) ?_
                  rotate_left
                  · (intro w hSw; (try dsimp only at hSw); go_simp; try with_reducible rfl)
                  simp only [Act.put, List.setIfInBounds_toArray, List.set_cons_zero, List.set_cons_succ]
                  refine anyE_ready (rs := [21]) (by kernel_rfl) (by simp) ?_
                  refine AllE.cons (o := { dst := none, op := Op.store 42 (Operand.tmp 51) (Operand.tmp 49), type := 0, pos := "vergerref5.go:182", after := #[{ on := 20, ground := Ground.data }, { on := 18, ground := Ground.data }, { on := 18, ground := Ground.chain }, { on := 0, ground := Ground.phase }, { on := 1, ground := Ground.phase }, { on := 2, ground := Ground.phase }, { on := 3, ground := Ground.phase }, { on := 4, ground := Ground.phase }, { on := 5, ground := Ground.phase }, { on := 6, ground := Ground.phase }, { on := 7, ground := Ground.phase }, { on := 8, ground := Ground.phase }, { on := 9, ground := Ground.phase }, { on := 10, ground := Ground.phase }, { on := 11, ground := Ground.phase }, { on := 12, ground := Ground.phase }, { on := 13, ground := Ground.phase }, { on := 14, ground := Ground.phase }, { on := 15, ground := Ground.phase }, { on := 16, ground := Ground.phase }, { on := 17, ground := Ground.phase }, { on := 18, ground := Ground.phase }], guard := none }) rfl (fun Kt hKt => ?_) ?_
                  · go_simp
                    refine hKt.out _ _ (fun h => absurd rfl h) ?_
                    clear hKt Kt
                    try simp only [Act.put, List.setIfInBounds_toArray, List.set_cons_zero, List.set_cons_succ]
                    refine anyE_done (by kernel_rfl) ?_ _
                    go_wp2
                    go_end0
                    exact ⟨rfl, .inr ⟨by omega, k, LA.out, ⟨Ta.out.1, grownBy_trans (grownBy_below WL.out) Ta.out.2⟩⟩⟩
                  exact AllE.nil
                exact AllE.nil
              exact AllE.nil
            exact AllE.nil
          exact AllE.nil
        refine AllE.cons (o := { dst := some 41, op := Op.buildSlice 42 1 #[(0, Operand.tmp 40)], type := 42, pos := "vergerref5.go:182", after := #[{ on := 9, ground := Ground.data }], guard := none }) rfl (fun Kt hKt => ?_) ?_
        · go_simp
          refine hKt.out _ _ (fun _ => KC.out _ vb) ?_
          clear hKt Kt
          try simp only [Act.put, List.setIfInBounds_toArray, List.set_cons_zero, List.set_cons_succ]
          refine anyE_ready (rs := [8]) (by kernel_rfl) (by simp) ?_
          refine AllE.cons (o := { dst := some 39, op := Op.call { callee := Callee.builtin Builtin.append, args := #[Operand.tmp 32, Operand.tmp 38], argTypes := #[42, 42] }, type := 42, pos := "vergerref5.go:182", after := #[{ on := 1, ground := Ground.data }, { on := 7, ground := Ground.data }], guard := none }) rfl (fun Kt hKt => ?_) ?_
          · refine step_app (((wl.alloc (.cells #[] 53)).alloc (.cells #[.int .i64 m, .slice p K q] 53)).drew) (by rfl) _ _ 42 42 (by rfl) (.slice (some ⟨Z, 0, none⟩) 0 0) (.slice a k cap) (by rfl) (by rfl) (.slice r1b k t1b) w1b h1b ?_
            refine hKt.out _ _ (fun _ => KC.out _ x1b) ?_
            clear hKt Kt
            try simp only [Act.put, List.setIfInBounds_toArray, List.set_cons_zero, List.set_cons_succ]
            refine anyE_ready (rs := [11]) (by kernel_rfl) (by simp) ?_
            refine AllE.cons (o := { dst := some 42, op := Op.call { callee := Callee.builtin Builtin.append, args := #[Operand.tmp 39, Operand.tmp 41], argTypes := #[42, 42] }, type := 42, pos := "vergerref5.go:182", after := #[{ on := 8, ground := Ground.data }, { on := 10, ground := Ground.data }, { on := 8, ground := Ground.chain }], guard := none }) rfl (fun Kt hKt => ?_) ?_
            · refine step_app w1b (by rfl) _ _ 42 42 (by rfl) (.slice r1b k t1b) (.slice (some ⟨(Z + 1), 0, none⟩) 1 1) (by rfl) (by rfl) (.slice r2b (k + 1) t2b) w2b h2b ?_
              refine hKt.out _ _ (fun _ => KC.out _ x2b) ?_
              clear hKt Kt
              try simp only [Act.put, List.setIfInBounds_toArray, List.set_cons_zero, List.set_cons_succ]
              refine anyE_ready (rs := [18]) (by kernel_rfl) (by simp) ?_
              refine AllE.cons (o := { dst := some 49, op := Op.call { callee := Callee.builtin Builtin.append, args := #[Operand.tmp 42, Operand.tmp 48], argTypes := #[42, 42] }, type := 42, pos := "vergerref5.go:182", after := #[{ on := 11, ground := Ground.data }, { on := 17, ground := Ground.data }, { on := 11, ground := Ground.chain }], guard := none }) rfl (fun Kt hKt => ?_) ?_
              · refine step_app w2b (by rfl) _ _ 42 42 (by rfl) (.slice r2b (k + 1) t2b) (.slice p1 0 (cap - k)) (by rfl) (by rfl) (.slice r3b (k + 1) t3b) w3b h3b ?_
                refine hKt.out _ _ (fun _ => KC.out _ x3b) ?_
                clear hKt Kt
                try simp only [Act.put, List.setIfInBounds_toArray, List.set_cons_zero, List.set_cons_succ]
                refine anyE_ready (rs := [19]) (by kernel_rfl) (by simp) ?_
                refine AllE.cons (o := { dst := some 50, op := Op.nilCheck (Operand.tmp 31), type := 0, pos := "vergerref5.go:182", after := #[{ on := 0, ground := Ground.data }, { on := 0, ground := Ground.phase }, { on := 1, ground := Ground.phase }, { on := 2, ground := Ground.phase }, { on := 3, ground := Ground.phase }, { on := 4, ground := Ground.phase }, { on := 5, ground := Ground.phase }, { on := 6, ground := Ground.phase }, { on := 7, ground := Ground.phase }, { on := 8, ground := Ground.phase }, { on := 9, ground := Ground.phase }, { on := 10, ground := Ground.phase }, { on := 11, ground := Ground.phase }, { on := 12, ground := Ground.phase }, { on := 13, ground := Ground.phase }, { on := 14, ground := Ground.phase }, { on := 15, ground := Ground.phase }, { on := 16, ground := Ground.phase }, { on := 17, ground := Ground.phase }, { on := 18, ground := Ground.phase }], guard := none }) rfl (fun Kt hKt => ?_) ?_
                · go_simp
                  refine hKt.out _ _ (fun _ => KC.out _ x3b) ?_
                  clear hKt Kt
                  try simp only [Act.put, List.setIfInBounds_toArray, List.set_cons_zero, List.set_cons_succ]
                  refine anyE_take (i := 20) (oi := { dst := some 51, op := Op.fieldAddr 44 (Operand.tmp 50) 0, type := 0, pos := "vergerref5.go:182", after := #[{ on := 19, ground := Ground.data }, { on := 0, ground := Ground.phase }, { on := 1, ground := Ground.phase }, { on := 2, ground := Ground.phase }, { on := 3, ground := Ground.phase }, { on := 4, ground := Ground.phase }, { on := 5, ground := Ground.phase }, { on := 6, ground := Ground.phase }, { on := 7, ground := Ground.phase }, { on := 8, ground := Ground.phase }, { on := 9, ground := Ground.phase }, { on := 10, ground := Ground.phase }, { on := 11, ground := Ground.phase }, { on := 12, ground := Ground.phase }, { on := 13, ground := Ground.phase }, { on := 14, ground := Ground.phase }, { on := 15, ground := Ground.phase }, { on := 16, ground := Ground.phase }, { on := 17, ground := Ground.phase }, { on := 18, ground := Ground.phase }], guard := none }) (v := ?_) rfl (by kernel_rfl) (by kernel_rfl) (by kernel_rfl) (by kernel_rfl) (fun _ _ _ h => h) (Or.inl ⟨by rfl, ?_⟩) (KC.out _ x3b) ?_
                  rotate_left
                  · (intro w hSw; (try dsimp only at hSw); go_simp; try with_reducible rfl)
                  simp only [Act.put, List.setIfInBounds_toArray, List.set_cons_zero, List.set_cons_succ]
                  refine anyE_ready (rs := [21]) (by kernel_rfl) (by simp) ?_
                  refine AllE.cons (o := { dst := none, op := Op.store 42 (Operand.tmp 51) (Operand.tmp 49), type := 0, pos := "vergerref5.go:182", after := #[{ on := 20, ground := Ground.data }, { on := 18, ground := Ground.data }, { on := 18, ground := Ground.chain }, { on := 0, ground := Ground.phase }, { on := 1, ground := Ground.phase }, { on := 2, ground := Ground.phase }, { on := 3, ground := Ground.phase }, { on := 4, ground := Ground.phase }, { on := 5, ground := Ground.phase }, { on := 6, ground := Ground.phase }, { on := 7, ground := Ground.phase }, { on := 8, ground := Ground.phase }, { on := 9, ground := Ground.phase }, { on := 10, ground := Ground.phase }, { on := 11, ground := Ground.phase }, { on := 12, ground := Ground.phase }, { on := 13, ground := Ground.phase }, { on := 14, ground := Ground.phase }, { on := 15, ground := Ground.phase }, { on := 16, ground := Ground.phase }, { on := 17, ground := Ground.phase }, { on := 18, ground := Ground.phase }], guard := none }) rfl (fun Kt hKt => ?_) ?_
                  · go_simp
                    refine hKt.out _ _ (fun h => absurd rfl h) ?_
                    clear hKt Kt
                    try simp only [Act.put, List.setIfInBounds_toArray, List.set_cons_zero, List.set_cons_succ]
                    refine anyE_done (by kernel_rfl) ?_ _
                    go_wp2
                    go_end0
                    exact ⟨rfl, .inr ⟨by omega, k, LA.out, ⟨Tb.out.1, grownBy_trans (grownBy_below WL.out) Tb.out.2⟩⟩⟩
                  exact AllE.nil
                exact AllE.nil
              exact AllE.nil
            exact AllE.nil
          exact AllE.nil
        exact AllE.nil
      refine AllE.cons (o := { dst := some 41, op := Op.buildSlice 42 1 #[(0, Operand.tmp 40)], type := 42, pos := "vergerref5.go:182", after := #[{ on := 9, ground := Ground.data }], guard := none }) rfl (fun Kt hKt => ?_) ?_
      · go_simp
        refine hKt.out _ _ (fun _ => KC.out _ vB) ?_
        clear hKt Kt
        try simp only [Act.put, List.setIfInBounds_toArray, List.set_cons_zero, List.set_cons_succ]
        refine anyE_ready (rs := [1]) (by kernel_rfl) (by simp) ?_
        refine AllE.cons (o := { dst := some 32, op := Op.buildSlice 42 0 #[], type := 42, pos := "vergerref5.go:182", after := #[], guard := none }) rfl (fun Kt hKt => ?_) ?_
        · go_simp
          refine hKt.out _ _ (fun _ => KC.out _ vc) ?_
          clear hKt Kt
          try simp only [Act.put, List.setIfInBounds_toArray, List.set_cons_zero, List.set_cons_succ]
          refine anyE_ready (rs := [8]) (by kernel_rfl) (by simp) ?_
          refine AllE.cons (o := { dst := some 39, op := Op.call { callee := Callee.builtin Builtin.append, args := #[Operand.tmp 32, Operand.tmp 38], argTypes := #[42, 42] }, type := 42, pos := "vergerref5.go:182", after := #[{ on := 1, ground := Ground.data }, { on := 7, ground := Ground.data }], guard := none }) rfl (fun Kt hKt => ?_) ?_
          · refine step_app (((wl.alloc (.cells #[.int .i64 m, .slice p K q] 53)).alloc (.cells #[] 53)).drew) (by rfl) _ _ 42 42 (by rfl) (.slice (some ⟨(Z + 1), 0, none⟩) 0 0) (.slice a k cap) (by rfl) (by rfl) (.slice r1c k t1c) w1c h1c ?_
            refine hKt.out _ _ (fun _ => KC.out _ x1c) ?_
            clear hKt Kt
            try simp only [Act.put, List.setIfInBounds_toArray, List.set_cons_zero, List.set_cons_succ]
            refine anyE_ready (rs := [11]) (by kernel_rfl) (by simp) ?_
            refine AllE.cons (o := { dst := some 42, op := Op.call { callee := Callee.builtin Builtin.append, args := #[Operand.tmp 39, Operand.tmp 41], argTypes := #[42, 42] }, type := 42, pos := "vergerref5.go:182", after := #[{ on := 8, ground := Ground.data }, { on := 10, ground := Ground.data }, { on := 8, ground := Ground.chain }], guard := none }) rfl (fun Kt hKt => ?_) ?_
            · refine step_app w1c (by rfl) _ _ 42 42 (by rfl) (.slice r1c k t1c) (.slice (some ⟨Z, 0, none⟩) 1 1) (by rfl) (by rfl) (.slice r2c (k + 1) t2c) w2c h2c ?_
              refine hKt.out _ _ (fun _ => KC.out _ x2c) ?_
              clear hKt Kt
              try simp only [Act.put, List.setIfInBounds_toArray, List.set_cons_zero, List.set_cons_succ]
              refine anyE_ready (rs := [18]) (by kernel_rfl) (by simp) ?_
              refine AllE.cons (o := { dst := some 49, op := Op.call { callee := Callee.builtin Builtin.append, args := #[Operand.tmp 42, Operand.tmp 48], argTypes := #[42, 42] }, type := 42, pos := "vergerref5.go:182", after := #[{ on := 11, ground := Ground.data }, { on := 17, ground := Ground.data }, { on := 11, ground := Ground.chain }], guard := none }) rfl (fun Kt hKt => ?_) ?_
              · refine step_app w2c (by rfl) _ _ 42 42 (by rfl) (.slice r2c (k + 1) t2c) (.slice p1 0 (cap - k)) (by rfl) (by rfl) (.slice r3c (k + 1) t3c) w3c h3c ?_
                refine hKt.out _ _ (fun _ => KC.out _ x3c) ?_
                clear hKt Kt
                try simp only [Act.put, List.setIfInBounds_toArray, List.set_cons_zero, List.set_cons_succ]
                refine anyE_ready (rs := [19]) (by kernel_rfl) (by simp) ?_
                refine AllE.cons (o := { dst := some 50, op := Op.nilCheck (Operand.tmp 31), type := 0, pos := "vergerref5.go:182", after := #[{ on := 0, ground := Ground.data }, { on := 0, ground := Ground.phase }, { on := 1, ground := Ground.phase }, { on := 2, ground := Ground.phase }, { on := 3, ground := Ground.phase }, { on := 4, ground := Ground.phase }, { on := 5, ground := Ground.phase }, { on := 6, ground := Ground.phase }, { on := 7, ground := Ground.phase }, { on := 8, ground := Ground.phase }, { on := 9, ground := Ground.phase }, { on := 10, ground := Ground.phase }, { on := 11, ground := Ground.phase }, { on := 12, ground := Ground.phase }, { on := 13, ground := Ground.phase }, { on := 14, ground := Ground.phase }, { on := 15, ground := Ground.phase }, { on := 16, ground := Ground.phase }, { on := 17, ground := Ground.phase }, { on := 18, ground := Ground.phase }], guard := none }) rfl (fun Kt hKt => ?_) ?_
                · go_simp
                  refine hKt.out _ _ (fun _ => KC.out _ x3c) ?_
                  clear hKt Kt
                  try simp only [Act.put, List.setIfInBounds_toArray, List.set_cons_zero, List.set_cons_succ]
                  refine anyE_take (i := 20) (oi := { dst := some 51, op := Op.fieldAddr 44 (Operand.tmp 50) 0, type := 0, pos := "vergerref5.go:182", after := #[{ on := 19, ground := Ground.data }, { on := 0, ground := Ground.phase }, { on := 1, ground := Ground.phase }, { on := 2, ground := Ground.phase }, { on := 3, ground := Ground.phase }, { on := 4, ground := Ground.phase }, { on := 5, ground := Ground.phase }, { on := 6, ground := Ground.phase }, { on := 7, ground := Ground.phase }, { on := 8, ground := Ground.phase }, { on := 9, ground := Ground.phase }, { on := 10, ground := Ground.phase }, { on := 11, ground := Ground.phase }, { on := 12, ground := Ground.phase }, { on := 13, ground := Ground.phase }, { on := 14, ground := Ground.phase }, { on := 15, ground := Ground.phase }, { on := 16, ground := Ground.phase }, { on := 17, ground := Ground.phase }, { on := 18, ground := Ground.phase }], guard := none }) (v := ?_) rfl (by kernel_rfl) (by kernel_rfl) (by kernel_rfl) (by kernel_rfl) (fun _ _ _ h => h) (Or.inl ⟨by rfl, ?_⟩) (KC.out _ x3c) ?_
                  rotate_left
                  · (intro w hSw; (try dsimp only at hSw); go_simp; try with_reducible rfl)
                  simp only [Act.put, List.setIfInBounds_toArray, List.set_cons_zero, List.set_cons_succ]
                  refine anyE_ready (rs := [21]) (by kernel_rfl) (by simp) ?_
                  refine AllE.cons (o := { dst := none, op := Op.store 42 (Operand.tmp 51) (Operand.tmp 49), type := 0, pos := "vergerref5.go:182", after := #[{ on := 20, ground := Ground.data }, { on := 18, ground := Ground.data }, { on := 18, ground := Ground.chain }, { on := 0, ground := Ground.phase }, { on := 1, ground := Ground.phase }, { on := 2, ground := Ground.phase }, { on := 3, ground := Ground.phase }, { on := 4, ground := Ground.phase }, { on := 5, ground := Ground.phase }, { on := 6, ground := Ground.phase }, { on := 7, ground := Ground.phase }, { on := 8, ground := Ground.phase }, { on := 9, ground := Ground.phase }, { on := 10, ground := Ground.phase }, { on := 11, ground := Ground.phase }, { on := 12, ground := Ground.phase }, { on := 13, ground := Ground.phase }, { on := 14, ground := Ground.phase }, { on := 15, ground := Ground.phase }, { on := 16, ground := Ground.phase }, { on := 17, ground := Ground.phase }, { on := 18, ground := Ground.phase }], guard := none }) rfl (fun Kt hKt => ?_) ?_
                  · go_simp
                    refine hKt.out _ _ (fun h => absurd rfl h) ?_
                    clear hKt Kt
                    try simp only [Act.put, List.setIfInBounds_toArray, List.set_cons_zero, List.set_cons_succ]
                    refine anyE_done (by kernel_rfl) ?_ _
                    go_wp2
                    go_end0
                    exact ⟨rfl, .inr ⟨by omega, k, LA.out, ⟨Tc.out.1, grownBy_trans (grownBy_below WL.out) Tc.out.2⟩⟩⟩
                  exact AllE.nil
                exact AllE.nil
              exact AllE.nil
            exact AllE.nil
          exact AllE.nil
        exact AllE.nil
      exact AllE.nil
end Go.Proofs.Ytchephglapnloaa
