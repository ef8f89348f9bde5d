/- queue: Take, Where. -/
import Derived.Test.YtdcacbjmbfppeaaGreatQ4
namespace Go.Proofs.YtdcacbjmbfppeaaGreat
open Go.RowKit Go.Lib Go.Sort
set_option linter.unusedVariables false

theorem mq_que : ¬ MQ 59 := by unfold MQ; decide
set_option maxHeartbeats 4000000 in
set_option maxRecDepth 100000 in
theorem take_any (w : World) (base : Nat) (A : QAd) (T K N : Nat) (s : QSt) (id : Int) (h : Que w base A T K s) (ok : QOk K T N s) (hN : N ≤ 1000) (hK : K ≤ 16) (h1 : 1 ≤ T) (h8 : T ≤ 8) (hbase : base ≤ w.heap.size) :
    Calls Tryz.prog 16 #[ptr A.B, .int .i64 id] w fun r w' => r = .returned (.bool (firstHit s T id).isSome) ∧ Que w' base A T K (takeQ s T id) ∧ Went base w w' := by
  have H : Aside (Que w base A T K s) := h
  have OK : Aside (QOk K T N s) := ok
  have fx : QFix w A T K := by obtain ⟨ra, sa, h⟩ := h; exact h.fix
  have sp := spots_any w A T K fx h1 h8
  obtain ⟨n, hn⟩ : ∃ n, 2 * T + 1 = n := ⟨_, rfl⟩
  have HN : Hid _ := hn
  have n17 : n ≤ 17 := by omega
  rw [hn] at sp
  clear h ok fx hn
  go_enter Tryz.func16, Tryz.ntmps16
  go_wp2_with fail
  refine sp.mono ?_
  rintro r w1 ⟨g, cap0, rfl, hg, _, hcl, b1⟩
  have CL : Aside (∀ W : World, Kept MQ w1 W → g < W.heap.size ∧ ∀ j, j < n → W.cell? ⟨g, j * 2, none⟩ = some (.int .i64 (spotAt T j).1) ∧ W.cell? ⟨g, j * 2 + 1, none⟩ = some (.int .i64 (spotAt T j).2)) := hcl
  have B1 : Aside (Below w.heap.size w w1) := b1
  have Q1 : Aside (Que w1 base A T K s) := H.out.below b1
  clear hcl b1 sp H
  go_wp2_with fail
  go_loopg [10] n (fun kx s10 wr => ∃ (k : Nat), s10 = .int .i64 k ∧ k ≤ n ∧ n - k ≤ kx ∧ Aside (Que wr base A T K s) ∧ Aside (Went base w1 wr) ∧ Aside (∀ i, i < k → hitQ s T id i = false))
  case atStart => exact ⟨0, rfl, by omega, by omega, Q1, Went.refl _ _, (fun i hi => absurd hi (by omega) : ∀ i, i < 0 → hitQ s T id i = false)⟩
  case round =>
    obtain ⟨k, rfl, hk, hkx, Q, D, NO⟩ := hrel
    have W1 : Aside (Went base w wr) := (Went.below B1.out hbase).trans D.out
    by_cases hlt : k < n
    · have hz : (k : Int) < (n : Int) := by omega
      obtain ⟨gl, cl⟩ := CL.out wr D.out.kept
      obtain ⟨cl0, cl1⟩ := cl k hlt
      obtain ⟨wp, wt⟩ := spot_wf T k h8
      obtain ⟨fa, fd, xa, ya, xd, yd, pt⟩ := part_any A (T := T) (j := k) (by rw [HN.out]; exact hlt)
      have tb := pt.tab
      obtain ⟨P, hP⟩ : ∃ P, (spotAt T k).1 = P := ⟨_, rfl⟩
      obtain ⟨U, hU⟩ : ∃ P, (spotAt T k).2 = P := ⟨_, rfl⟩
      rw [hP] at cl0 wp tb
      rw [hU] at cl1 wt tb
      obtain ⟨R, hR⟩ : ∃ R, wr.heap.size = R := ⟨_, rfl⟩
      obtain ⟨u, hu⟩ : ∃ u, (wr.alloc (.cells #[.int .i64 P, .int .i64 U] 81)) = u := ⟨_, rfl⟩
      have bu : Below wr.heap.size wr u := by rw [← hu]; exact (Below.refl _ _).alloc (Nat.le_refl _) _
      have us : u.heap[R]? = some (.cells #[.int .i64 P, .int .i64 U] 81 (0, 0)) := by rw [← hu, ← hR]; exact heap_alloc_new wr _
      have qu := Q.out.below bu
      have hbr : base ≤ wr.heap.size := Nat.le_trans hbase W1.out.size
      have eg := pt.ed
      have fA : ∀ w, (Instr.field 84 (.agg #[.func (.func fa) xa ya, .func (.func fd) xd yd]) 1).run Tryz.prog w = .ok (.func (.func fd) xd yd) w := fun w => fieldD _ _ w
      have CU : Aside (∀ (W : World) (st : QSt), Que W base A T K st → W.heap[R]? = some (.cells #[.int .i64 P, .int .i64 U] 81 (0, 0)) → W.cell? ⟨A.B, 4, none⟩ = some (.map (some A.M)) ∧ A.B < W.heap.size ∧ W.cell? ⟨R, 0, none⟩ = some (.int .i64 P) ∧ W.cell? ⟨R, 1, none⟩ = some (.int .i64 U) ∧ R < W.heap.size ∧ (Instr.lookup 57 (.map (some A.M)) (.agg #[.int .i64 P, .int .i64 U]) false).run Tryz.prog W = .ok (.agg #[.func (.func fa) xa ya, .func (.func fd) xd yd]) W) := fun W st ⟨ra, sa, q⟩ hw => 
        ⟨q.fix.cells.2.2.2.2, q.fix.blt, (ent0 hw).1, (ent0 hw).2, lt_of_block hw, q.fix.tab.look wp wt tb⟩
      have hb1 : Below u.heap.size u u.drew := (Below.refl _ _).drew
      have qd := qu.below hb1
      have usd : u.drew.heap[R]? = some (.cells #[.int .i64 P, .int .i64 U] 81 (0, 0)) := us
      obtain ⟨b, hb⟩ : ∃ b, hitQ s T id k = b := ⟨_, rfl⟩
      have z7 := pt.drop u.drew base K N s id qd OK.out hN hK (Nat.le_trans hbr bu.size)
      rw [hb] at z7
      obtain ⟨y1, y2, y3, y4, y5, y6⟩ := CU.out u s qu us
      obtain ⟨z1, z2, z3, z4, z5, z6⟩ := CU.out u.drew s qd usd
      have HB : Hid _ := hb
      have WU : Aside (Went base w1 u.drew ∧ Went base w u.drew) := ⟨D.out.trans (Went.below (bu.trans (hb1.mono bu.size)) hbr), W1.out.trans (Went.below (bu.trans (hb1.mono bu.size)) hbr)⟩
      have USD : Aside (u.drew.heap[R]? = some (.cells #[.int .i64 P, .int .i64 U] 81 (0, 0))) := usd
      have HU : Hid _ := hu
      clear hu bu pt tb wp wt hP hU cl us usd qu qd hb
      have mx := mixed
      go_wp2_with fail
      rw [HU.out]
      go_region_held3 (fun W => W.cell? ⟨A.B, 4, none⟩ = some (.map (some A.M)) ∧ W.cell? ⟨R, 0, none⟩ = some (.int .i64 P) ∧ W.cell? ⟨R, 1, none⟩ = some (.int .i64 U)) (first | with_reducible exact ⟨y1, y3, y4⟩ | with_reducible exact ⟨z1, z3, z4⟩ | with_reducible exact ⟨v1, v3, v4⟩)
        (((with_reducible refine Calls.mono z7 ?_); rintro r w3 ⟨rfl, q3, b3⟩; have us3 := b3.block USD.out mq_spot; obtain ⟨v1, v2, v3, v4, v5, _⟩ := CU.out w3 _ q3 us3))
      have Q3 : Aside (Que w3 base A T K (dropQ s T id k)) := q3
      have D3 : Aside (Went base w1 w3 ∧ Went base w w3) := ⟨WU.out.1.trans b3, WU.out.2.trans b3⟩
      clear q3 b3 us3 v1 v2 v3 v4 v5 y1 y2 y3 y4 y5 y6 z1 z2 z3 z4 z5 z6 z7
      cases b with
      | true =>
        have FIN : Aside (Value.bool true = Value.bool (firstHit s T id).isSome ∧ Que w3 base A T K (takeQ s T id) ∧ Went base w w3) := by
          have e : firstHit s T id = some k := find_range (by rw [HN.out]; exact hlt) HB.out NO.out
          refine ⟨by rw [e]; rfl, ?_, D3.out.2⟩
          unfold takeQ
          rw [e]
          exact Q3.out
        go_wp2
        go_ret
        exact ⟨by rw [← FIN.out.1]; rfl, FIN.out.2⟩
      | false =>
        have q4 := Q3.out
        rw [dropQ_no HB.out] at q4
        have Q4 : Aside (Que w3 base A T K s) := q4
        have NO2 : Aside (∀ i, i < k + 1 → hitQ s T id i = false) := fun i hi => by
          by_cases e : i = k
          · rw [e]; exact HB.out
          · exact NO.out i (by omega)
        have D4 : Aside (Went base w1 w3) := D3.out.1
        clear q4
        go_wp2
        go_roundg (n - (k + 1))
        case measure => omega
        case rel => exact ⟨k + 1, by go_num, by omega, Nat.le_refl _, Q4, D4, NO2⟩
    · have hz : ¬ (k : Int) < (n : Int) := by omega
      have FIN : Aside (Value.bool false = Value.bool (firstHit s T id).isSome ∧ Que wr base A T K (takeQ s T id) ∧ Went base w wr) := by
        have e : firstHit s T id = none := find_range_none fun i hi => NO.out i (by have := HN.out; omega)
        refine ⟨by rw [e]; rfl, ?_, W1.out⟩
        unfold takeQ
        rw [e]
        exact Q.out
      go_wp2
      go_ret
      exact ⟨by rw [← FIN.out.1]; rfl, FIN.out.2⟩

theorem whereFn_any (S : Nat) (id : Int) (x : Ent) (W : World) (hS : S < W.heap.size) (c0 : W.cell? ⟨S, 0, none⟩ = some (.int .i64 id)) :
    Calls Tryz.prog 46 #[.agg #[.int .u64 x.1, .int .i64 x.2], .pointer (some ⟨S, 0, none⟩)] W fun e w' => e = .returned (.bool (decide (x.2 = id))) ∧ Grown W w' := by
  have e : decide (x.2 = id) = (x.2 == id) := by by_cases h : x.2 = id <;> simp [h]
  rw [e]
  have c1 : (W.alloc (.cells #[.int .u64 x.1, .int .i64 x.2] 34)).cell? ⟨S, 0, none⟩ = some (.int .i64 id) := (cell_old W _ 0 hS).trans c0
  have hS2 : ¬ S = W.heap.size := by omega
  go_enter Tryz.func46, Tryz.ntmps46
  go_wp2
  go_ret
  exact ⟨rfl, (Grown.refl W).alloc _⟩
set_option maxHeartbeats 400000 in
theorem whereHas_any (S : Nat) (id : Int) (a : Option Addr) (cap : Nat) (d : List Ent) (w : World) (h : IsL w a cap d) (hS : S < w.heap.size) (c0 : w.cell? ⟨S, 0, none⟩ = some (.int .i64 id)) :
    Calls Tryz.prog 45 #[.slice a d.length cap, .func (.func 46) #[] #[.pointer (some ⟨S, 0, none⟩)]] w fun e w' => e = .returned (.bool (hasL d id)) ∧ Grown w w' := by
  have ix := indexFunc_any a cap d 46 #[.pointer (some ⟨S, 0, none⟩)] (fun x => decide (x.2 = id)) w h (enters_of Tryz.func46 (by kernel_rfl) rfl)
    (fun x W hW => whereFn_any S id x W (by have := hW.below.size; omega) ((hW.below.cell (p := ⟨S, 0, none⟩) hS).trans c0))
  clear h c0
  go_enter Tryz.func45, Tryz.ntmps45
  go_wp2_with fail
  refine ix.mono ?_
  rintro r w1 ⟨z, rfl, fi, g1⟩
  have G1 : Aside (Grown w w1) := g1
  clear g1 ix
  rcases fi with ⟨rfl, hno⟩ | ⟨k, hk, rfl, hyes, hno⟩
  · have hh : hasL d id = false := hasL_none fun i hi => by simpa using hno i hi
    have HH : Hid _ := hh
    clear hno hh
    go_wp2
    go_ret
    exact ⟨by rw [HH.out]; rfl, G1.out⟩
  · have hh : hasL d id = true := hasL_at k hk (by simpa using hyes)
    have HH : Hid _ := hh
    have k0 : (0 : Int) ≤ (k : Int) := by omega
    clear hno hyes hh
    go_wp2
    go_ret
    exact ⟨by rw [HH.out]; rfl, G1.out⟩

set_option maxHeartbeats 4000000 in
set_option maxRecDepth 100000 in
theorem where_any (w : World) (base : Nat) (A : QAd) (T K N : Nat) (s : QSt) (id : Int) (h : Que w base A T K s) (ok : QOk K T N s) (hN : N ≤ 1000) (hK : K ≤ 16) (h1 : 1 ≤ T) (h8 : T ≤ 8) :
    Calls Tryz.prog 14 #[ptr A.B, .int .i64 id] w fun r w' => r = .returned (.tuple #[.int .i64 (whereQ s T id).1, .int .i64 (whereQ s T id).2]) ∧ Below w.heap.size w w' := by
  obtain ⟨S, hS⟩ : ∃ S, w.heap.size = S := ⟨_, rfl⟩
  obtain ⟨u0, hu0⟩ : ∃ u, w.alloc (.cells #[.int .i64 id] 3) = u := ⟨_, rfl⟩
  have bu0 : Below w.heap.size w u0 := by rw [← hu0]; exact (Below.refl _ _).alloc (Nat.le_refl _) _
  have us0 : u0.heap[S]? = some (.cells #[.int .i64 id] 3 (0, 0)) := by rw [← hu0, ← hS]; exact heap_alloc_new w _
  have h0 := h.below bu0
  have H : Aside (Que u0 base A T K s) := h0
  have OK : Aside (QOk K T N s) := ok
  have fx : QFix u0 A T K := by obtain ⟨ra, sa, h⟩ := h0; exact h.fix
  have sp := spots_any u0 A T K fx h1 h8
  obtain ⟨n, hn⟩ : ∃ n, 2 * T + 1 = n := ⟨_, rfl⟩
  have HN : Hid _ := hn
  have n17 : n ≤ 17 := by omega
  rw [hn] at sp
  have HS : Hid _ := hS
  have BU0 : Aside (Below w.heap.size w u0) := bu0
  have US0 : Aside (u0.heap[S]? = some (.cells #[.int .i64 id] 3 (0, 0))) := us0
  have HU0 : Hid _ := hu0
  have hmf : ∀ (fn : Fn) (first cap : Array Value) (w : World), (Instr.makeFunc fn first cap).run Tryz.prog w = .ok (.func fn first cap) w := fun _ _ _ _ => rfl
  clear h ok fx hn h0 bu0 us0 hu0
  go_enter Tryz.func14, Tryz.ntmps14
  go_wp2_with fail
  rw [HU0.out]
  refine sp.mono ?_
  rintro r w1 ⟨g, cap0, rfl, hg, hcl, _, b1⟩
  have CL : Aside (∀ W : World, Below w1.heap.size w1 W → g < W.heap.size ∧ ∀ j, j < n → W.cell? ⟨g, j * 2, none⟩ = some (.int .i64 (spotAt T j).1) ∧ W.cell? ⟨g, j * 2 + 1, none⟩ = some (.int .i64 (spotAt T j).2)) := hcl
  have B1 : Aside (Below u0.heap.size u0 w1) := b1
  clear hcl b1 sp hS
  go_wp2_with fail
  go_loopg [11] n (fun kx s11 wr => ∃ (k : Nat), s11 = .int .i64 k ∧ k ≤ n ∧ n - k ≤ kx ∧ Aside (Below w1.heap.size w1 wr) ∧ Aside (∀ i, i < k → hasL (spotL s T i) id = false))
  case atStart => exact ⟨0, rfl, by omega, by omega, Below.refl _ _, (fun i hi => absurd hi (by omega) : ∀ i, i < 0 → hasL (spotL s T i) id = false)⟩
  case round =>
    obtain ⟨k, rfl, hk, hkx, D, NO⟩ := hrel
    have D0 : Aside (Below u0.heap.size u0 wr) := B1.out.trans (D.out.mono B1.out.size)
    have W0 : Aside (Below w.heap.size w wr) := BU0.out.trans (D0.out.mono BU0.out.size)
    by_cases hlt : k < n
    · have hz : (k : Int) < (n : Int) := by omega
      obtain ⟨gl, cl⟩ := CL.out wr D.out
      obtain ⟨cl0, cl1⟩ := cl k hlt
      obtain ⟨wp, wt⟩ := spot_wf T k h8
      obtain ⟨fa, fd, xa, ya, xd, yd, pt⟩ := part_any A (T := T) (j := k) (by rw [HN.out]; exact hlt)
      have tb := pt.tab
      obtain ⟨P, hP⟩ : ∃ P, (spotAt T k).1 = P := ⟨_, rfl⟩
      obtain ⟨U, hU⟩ : ∃ P, (spotAt T k).2 = P := ⟨_, rfl⟩
      rw [hP] at cl0 wp tb
      rw [hU] at cl1 wt tb
      have HP : Hid _ := hP
      have HQ : Hid _ := hU
      obtain ⟨R, hR⟩ : ∃ R, wr.heap.size = R := ⟨_, rfl⟩
      obtain ⟨u, hu⟩ : ∃ u, (wr.alloc (.cells #[.int .i64 P, .int .i64 U] 81)) = u := ⟨_, rfl⟩
      have bu : Below wr.heap.size wr u := by rw [← hu]; exact (Below.refl _ _).alloc (Nat.le_refl _) _
      have us : u.heap[R]? = some (.cells #[.int .i64 P, .int .i64 U] 81 (0, 0)) := by rw [← hu, ← hR]; exact heap_alloc_new wr _
      have bu0 : Below u0.heap.size u0 u := D0.out.trans (bu.mono D0.out.size)
      have eg := pt.ea
      have fA : ∀ w, (Instr.field 84 (.agg #[.func (.func fa) xa ya, .func (.func fd) xd yd]) 0).run Tryz.prog w = .ok (.func (.func fa) xa ya) w := fun w => fieldA _ _ w
      obtain ⟨d, hd⟩ : ∃ d, spotL s T k = d := ⟨_, rfl⟩
      obtain ⟨q, hq⟩ : ∃ q, d.length = q := ⟨_, rfl⟩
      have HQL : Hid _ := hq
      have CU : Aside (∀ (W : World), Below u.heap.size u W → W.cell? ⟨A.B, 4, none⟩ = some (.map (some A.M)) ∧ A.B < W.heap.size ∧ W.cell? ⟨R, 0, none⟩ = some (.int .i64 P) ∧ W.cell? ⟨R, 1, none⟩ = some (.int .i64 U) ∧ R < W.heap.size ∧ (Instr.lookup 57 (.map (some A.M)) (.agg #[.int .i64 P, .int .i64 U]) false).run Tryz.prog W = .ok (.agg #[.func (.func fa) xa ya, .func (.func fd) xd yd]) W ∧ Calls Tryz.prog fa (xa ++ ya) W (Made W d) ∧ W.cell? ⟨S, 0, none⟩ = some (.int .i64 id) ∧ S < W.heap.size) := fun W hW => by
        have b2 : Below u0.heap.size u0 W := bu0.trans (hW.mono bu0.size)
        have us2 := (hW.block R (lt_of_block us)).trans us
        have us3 := (b2.block S (lt_of_block US0.out)).trans US0.out
        have q2 := H.out.below b2
        have al := pt.all W base K N s q2 OK.out hN hK
        rw [hd] at al
        obtain ⟨ra, sa, q⟩ := q2
        exact ⟨q.fix.cells.2.2.2.2, q.fix.blt, (ent0 us2).1, (ent0 us2).2, lt_of_block us2, q.fix.tab.look wp wt tb, al, lsm_cell us3, lt_of_block us3⟩
      have hb0 : Below u.heap.size u u := Below.refl _ _
      have hb1 : Below u.heap.size u u.drew := hb0.drew
      obtain ⟨b, hb⟩ : ∃ b, hasL d id = b := ⟨_, rfl⟩
      have HB : Hid (hasL (spotL s T k) id = b) := by show _ = _; rw [hd]; exact hb
      have CT : Aside (∀ (W : World) (x : Option Addr) (y : Nat), Below u.heap.size u W → OwnE W u.drew.heap.size (.slice x q y) d → Calls Tryz.prog 45 #[.slice x q y, .func (.func 46) #[] #[.pointer (some ⟨S, 0, none⟩)]] W fun e w' => e = .returned (.bool b) ∧ Below W.heap.size W w') := fun W x y hW ho => by
        obtain ⟨_, _, _, _, _, _, _, i1, i2⟩ := CU.out W hW
        have il : IsL W x y d := by rw [← hq] at ho; exact ho.is
        have := whereHas_any S id x y d W il i2 i1
        rw [hb, hq] at this
        exact this.mono fun e w' ⟨r1, r2⟩ => ⟨r1, r2.below⟩
      obtain ⟨y1, y2, y3, y4, y5, y6, _, _, _⟩ := CU.out u hb0
      obtain ⟨z1, z2, z3, z4, z5, z6, z7, _, _⟩ := CU.out u.drew hb1
      have WU : Aside (Below w1.heap.size w1 u ∧ Below w.heap.size w u) := ⟨D.out.trans (bu.mono D.out.size), W0.out.trans (bu.mono W0.out.size)⟩
      have HU : Hid _ := hu
      have US : Aside (u.heap[R]? = some (.cells #[.int .i64 P, .int .i64 U] 81 (0, 0))) := us
      clear hu bu pt tb wp wt hP hU cl us hb hd hq bu0
      have mx := mixed
      go_wp2_with fail
      rw [HU.out]
      go_region_held3 (fun W => W.cell? ⟨A.B, 4, none⟩ = some (.map (some A.M)) ∧ W.cell? ⟨R, 0, none⟩ = some (.int .i64 P) ∧ W.cell? ⟨R, 1, none⟩ = some (.int .i64 U)) (first | with_reducible exact ⟨y1, y3, y4⟩ | with_reducible exact ⟨z1, z3, z4⟩ | with_reducible exact ⟨v1, v3, v4⟩ | with_reducible exact ⟨i1, i3, i4⟩)
        ((first
          | (go_at_call 45; (with_reducible refine Calls.mono (CT.out w3 x y hb3 o3) ?_); rintro r w4 ⟨rfl, d4⟩; have hb4 : Below u.heap.size u w4 := hb3.trans (d4.mono hb3.size); obtain ⟨i1, i2, i3, i4, i5, _, _, _, _⟩ := CU.out w4 hb4)
          | ((with_reducible refine Calls.mono z7 ?_); rintro r w3 ⟨x, y, rfl, o3, d3⟩; rw [HQL.out] at o3 ⊢; have hb3 : Below u.heap.size u w3 := hb1.trans (d3.mono hb1.size); obtain ⟨v1, v2, v3, v4, v5, _, _, _, _⟩ := CU.out w3 hb3)))
      all_goals
        have D4 : Aside (Below w1.heap.size w1 w4 ∧ Below w.heap.size w w4) := ⟨WU.out.1.trans (hb4.mono WU.out.1.size), WU.out.2.trans (hb4.mono WU.out.2.size)⟩
        clear hb4 d4 o3 d3 hb3 v1 v2 v3 v4 v5 y1 y2 y3 y4 y5 y6 z1 z2 z3 z4 z5 z6 z7
        cases b with
        | true =>
          have e : firstHas s T id = some k := find_range (by rw [HN.out]; exact hlt) HB.out NO.out
          have FIN : Aside (P = (whereQ s T id).1 ∧ U = (whereQ s T id).2) := by
            unfold whereQ
            rw [e]
            exact ⟨HP.out.symm, HQ.out.symm⟩
          clear e
          go_wp2_with fail
          go_region
          all_goals
            go_wp2
            go_ret2
            exact ⟨by rw [← FIN.out.1, ← FIN.out.2]; rfl, D4.out.2.drew⟩
        | false =>
          have NO2 : Aside (∀ i, i < k + 1 → hasL (spotL s T i) id = false) := fun i hi => by
            by_cases e : i = k
            · rw [e]; exact HB.out
            · exact NO.out i (by omega)
          have D5 : Aside (Below w1.heap.size w1 w4) := D4.out.1
          go_wp2
          go_roundg (n - (k + 1))
          case measure => omega
          case rel => exact ⟨k + 1, by go_num, by omega, Nat.le_refl _, D5, NO2⟩
    · have hz : ¬ (k : Int) < (n : Int) := by omega
      have e : whereQ s T id = (0, 0) := by
        have : firstHas s T id = none := find_range_none fun i hi => NO.out i (by have := HN.out; omega)
        unfold whereQ
        rw [this]
      have E : Hid _ := e
      clear e
      go_wp2
      go_ret2
      exact ⟨by rw [E.out]; rfl, W0.out⟩
end Go.Proofs.YtdcacbjmbfppeaaGreat
