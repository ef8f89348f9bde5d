/- queue: Least, Local, Shared, Slots, Len. -/
import Derived.Test.YtdcacbjmbfppeaaGreatQ3
import Derived.Laws.EntriesVeiled
namespace Go.Proofs.YtdcacbjmbfppeaaGreat
open Go.RowKit Go.Lib Go.Sort
set_option linter.unusedVariables false

/-- What a call tells that answers an entry and whether there is one, and only makes new memory. -/
def EntIs (w : World) (x : Ent) (f : Bool) (r : Ending) (w' : World) : Prop := r = .returned (.tuple #[.agg #[.int .u64 x.1, .int .i64 x.2], .bool f]) ∧ Below w.heap.size w w'
def leastQ (s : QSt) (T : Nat) : Option (Nat × Ent) := leastL (listsQ s T) (2 * T + 1)
/-- A store into a box of two that is new. -/
theorem below_box {w u : World} {S : Nat} (h : Below w.heap.size w u) (hS : w.heap.size ≤ S) (a b : Value) : Below w.heap.size w ((u.setCell ⟨S, 0, none⟩ a).setCell ⟨S, 1, none⟩ b) := (h.setCell hS _).setCell hS _
set_option maxHeartbeats 2000000 in
set_option maxRecDepth 100000 in
theorem qleast_any (w : World) (base : Nat) (A : QAd) (T K N : Nat) (s : QSt) (h : Que w base A T K s) (ok : QOk K T N s) (hN : N ≤ 1000) (hK : K ≤ 16) (h1 : 1 ≤ T) (h8 : T ≤ 8) :
    Calls Tryz.prog 28 #[ptr A.B] w (EntIs w (unl (leastQ s T)) (unb (leastQ s T))) := by
  obtain ⟨S, hS⟩ : ∃ S, w.heap.size = S := ⟨_, rfl⟩
  obtain ⟨u, hu⟩ : ∃ u, w.alloc (.cells #[.int .u64 0, .int .i64 0] 34) = u := ⟨_, rfl⟩
  have bu : Below w.heap.size w u := by rw [← hu]; exact (Below.refl _ _).alloc (Nat.le_refl _) _
  have us : u.heap[S]? = some (.cells #[.int .u64 0, .int .i64 0] 34 (0, 0)) := by rw [← hu, ← hS]; exact heap_alloc_new w _
  have li := lists_any u base A T K N s (h.below bu) ok hN hK h1 h8
  have ln := listsQ_len s T
  have e0 : leastL (listsQ s T) (listsQ s T).length = leastQ s T := by unfold leastQ; rw [ln]
  have E0 : Hid _ := e0
  have LN : Hid _ := ln
  obtain ⟨n, hn⟩ : ∃ n, 2 * T + 1 = n := ⟨_, rfl⟩
  rw [hn] at li LN
  obtain ⟨x1, hx1⟩ : ∃ x, (unl (leastQ s T)).1 = x := ⟨_, rfl⟩
  obtain ⟨x2, hx2⟩ : ∃ x, (unl (leastQ s T)).2 = x := ⟨_, rfl⟩
  obtain ⟨f, hf⟩ : ∃ x, unb (leastQ s T) = x := ⟨_, rfl⟩
  obtain ⟨j, hj⟩ : ∃ x, unj (leastQ s T) = x := ⟨_, rfl⟩
  have BU : Aside (Below w.heap.size w u) := bu
  have US : Aside (u.heap[S]? = some (.cells #[.int .u64 0, .int .i64 0] 34 (0, 0))) := us
  have HU : Hid _ := hu
  have X1 : Hid _ := hx1
  have X2 : Hid _ := hx2
  have XF : Hid _ := hf
  have XJ : Hid _ := hj
  have HS : Hid _ := hS
  clear hu bu us h ok ln e0 hn hx1 hx2 hf hj
  go_enter Tryz.func28, Tryz.ntmps28
  go_wp2_with fail
  rw [HU.out]
  refine li.mono ?_
  rintro r w1 ⟨a, cap, rfl, o1, b1⟩
  rw [← LN.out] at o1
  obtain ⟨a', cap', e1, il⟩ := o1.isLL
  injection e1 with e1 _ e3
  subst e1 e3
  have le := least_any a cap (listsQ s T) w1 il
  rw [LN.out] at le
  have B1 : Aside (Below w.heap.size w w1) := BU.out.trans (b1.mono BU.out.size)
  have S1 : Aside (w1.heap[S]? = some (.cells #[.int .u64 0, .int .i64 0] 34 (0, 0))) := (b1.block S (lt_of_block US.out)).trans US.out
  clear o1 b1 il li
  go_wp2_with fail
  refine le.mono ?_
  rintro r w2 ⟨hr, b2⟩
  rw [E0.out, X1.out, X2.out, XF.out, XJ.out] at hr
  subst hr
  have s2 := (b2.block S (lt_of_block S1.out)).trans S1.out
  have B2 : Aside (Below w.heap.size w w2) := B1.out.trans (b2.mono B1.out.size)
  have Sl : S < w2.heap.size := lt_of_block s2
  have nS : ¬ S = w2.heap.size := by omega
  have y0 : w2.cell? ⟨S, 0, none⟩ = some (.int .u64 0) := (ent0 s2).1
  have y1 : w2.cell? ⟨S, 1, none⟩ = some (.int .i64 0) := (ent0 s2).2
  have z0 : w2.frozen? ⟨S, 0, none⟩ = false := by simp [World.frozen?, s2]
  have z1 : w2.frozen? ⟨S, 1, none⟩ = false := by simp [World.frozen?, s2]
  obtain ⟨v0, v1⟩ := slBox s2 (.int .u64 x1) (.int .i64 x2)
  have FB : Aside (Below w.heap.size w ((w2.setCell ⟨S, 0, none⟩ (.int .u64 x1)).setCell ⟨S, 1, none⟩ (.int .i64 x2))) := below_box B2.out (by have := HS.out; omega) _ _
  have v0' := (cell_old ((w2.setCell ⟨S, 0, none⟩ (.int .u64 x1)).setCell ⟨S, 1, none⟩ (.int .i64 x2)) (.cells #[.int .u64 x1, .int .i64 x2] 34) 0 (b := S) (by simp [World.setCell]; omega)).trans v0
  have v1' := (cell_old ((w2.setCell ⟨S, 0, none⟩ (.int .u64 x1)).setCell ⟨S, 1, none⟩ (.int .i64 x2)) (.cells #[.int .u64 x1, .int .i64 x2] 34) 1 (b := S) (by simp [World.setCell]; omega)).trans v1
  clear s2 b2 le
  go_wp2_with fail
  refine bodyPost_ret (v := .tuple #[.agg #[.int .u64 x1, .int .i64 x2], .bool f]) (by simp [results, Tryz.results28, go_sem, v0', v1']) rfl ⟨by rw [X1.out, X2.out, XF.out], FB.out.alloc FB.out.size _⟩

set_option maxHeartbeats 1000000 in
theorem qshared_any (w : World) (base : Nat) (A : QAd) (T K N : Nat) (s : QSt) (n : Nat) (h : Que w base A T K s) (ok : QOk K T N s) (hN : N ≤ 1000) (hn : s.hs.flatten.length = n) :
    Calls Tryz.prog 55 #[ptr A.B] w (PivO w n (sortE s.hs.flatten)) := by
  obtain ⟨ra, sa, h⟩ := h
  obtain ⟨c0, c1, c2, c3, c4⟩ := h.fix.cells
  have al := sall_any A.HB s.v s.hs w h.shr.s (by have := ok.hsum; omega)
  rw [hn] at al
  clear h c0 c1 c2 c4 ok hn
  go_enter Tryz.func55, Tryz.ntmps55
  go_wp2_with fail
  refine al.mono ?_
  rintro r w2 ⟨a, cap, rfl, o2, b2⟩
  have M : Aside (PivO w n (sortE s.hs.flatten) (.returned (.slice a n cap)) w2) := ⟨a, cap, rfl, o2, b2⟩
  clear o2 b2 al
  go_wp2
  go_ret
  exact M.out
set_option maxHeartbeats 1000000 in
theorem qslots_any (w : World) (base : Nat) (A : QAd) (T K : Nat) (s : QSt) (n : Nat) (h : Que w base A T K s) (hn : (slAll s.g T).length = n) :
    Calls Tryz.prog 54 #[ptr A.B] w (PivO w n (slAll s.g T)) := by
  obtain ⟨ra, sa, h⟩ := h
  obtain ⟨c0, c1, c2, c3, c4⟩ := h.fix.cells
  have al := slAll_any w A.SB A.SR T s.g n h.slt hn
  clear h c0 c2 c3 c4 hn
  go_enter Tryz.func54, Tryz.ntmps54
  go_wp2_with fail
  refine al.mono ?_
  rintro r w2 ⟨a, cap, rfl, o2, b2⟩
  have M : Aside (PivO w n (slAll s.g T) (.returned (.slice a n cap)) w2) := ⟨a, cap, rfl, o2, b2⟩
  clear o2 b2 al
  go_wp2
  go_ret
  exact M.out
set_option maxHeartbeats 1000000 in
theorem qlocal_in (w : World) (base : Nat) (A : QAd) (T K N : Nat) (s : QSt) (t n : Nat) (h : Que w base A T K s) (ok : QOk K T N s) (hK : K ≤ 16) (ht : t < T) (h8 : T ≤ 8) (hn : (s.ls t).flatten.length = n) :
    Calls Tryz.prog 23 #[ptr A.B, .int .i64 t] w (PivO w n (sortE (s.ls t).flatten)) := by
  obtain ⟨ra, sa, h⟩ := h
  obtain ⟨c0, c1, c2, c3, c4⟩ := h.fix.cells
  have wt : wfI (t : Int) := by unfold wfI; simp [Lit.wf, IntKind.min, IntKind.max, IntKind.bits, IntKind.signed]; omega
  have lk := h.fix.tab.look_ok (p := 2) (t := t) (show (Lit.int .i64 2).wf = true by decide) wt (tabF_own A ht)
  unfold pOwn at lk
  have eg := enters_of (P := Tryz.prog) Tryz.func64 (by kernel_rfl) rfl
  obtain ⟨u, hu⟩ : ∃ u, w.alloc (.cells #[.func (.func 64) #[ptr (A.L t)] #[], .func (.func 65) #[ptr (A.L t)] #[]] 84) = u := ⟨_, rfl⟩
  have bu : Below w.heap.size w u := by rw [← hu]; exact (Below.refl _ _).alloc (Nat.le_refl _) _
  have al := lall_any (A.L t) base (s.ls t) u ((h.own t ht).below bu).t (by have := ok.len t ht; omega)
  rw [hn] at al
  have BU : Aside (Below w.heap.size w u) := bu
  have HU : Hid _ := hu
  clear h c0 c1 c2 c3 hn ok hu bu wt
  go_enter Tryz.func23, Tryz.ntmps23
  go_wp2_with fail
  rw [HU.out]
  refine al.mono ?_
  rintro r w2 ⟨a, cap, rfl, o2, b2⟩
  have M : Aside (PivO w n (sortE (s.ls t).flatten) (.returned (.slice a n cap)) w2) := ⟨a, cap, rfl, o2.low BU.out.size, BU.out.trans (b2.mono BU.out.size)⟩
  clear o2 b2 al
  go_wp2
  go_ret
  exact M.out
set_option maxHeartbeats 1000000 in
theorem qlocal_out (w : World) (base : Nat) (A : QAd) (T K : Nat) (s : QSt) (t : Int) (h : Que w base A T K s) (ht : t < 0 ∨ (T : Int) ≤ t) (wt : wfI t) :
    Calls Tryz.prog 23 #[ptr A.B, .int .i64 t] w (PivO w 0 []) := by
  obtain ⟨ra, sa, h⟩ := h
  obtain ⟨c0, c1, c2, c3, c4⟩ := h.fix.cells
  have lk := h.fix.tab.look_no (p := 2) (t := t) (show (Lit.int .i64 2).wf = true by decide) wt (tabF_no A ht)
  unfold zPart at lk
  clear h c0 c1 c2 c3 wt ht
  go_enter Tryz.func23, Tryz.ntmps23
  go_wp2
  go_ret
  exact ⟨none, 0, rfl, OwnE.nil _ _, (Below.refl _ _).alloc (Nat.le_refl _) _⟩

/-- How many the own lists of the first k threads have. -/
def ownN (s : QSt) : Nat → Nat
  | 0 => 0
  | k + 1 => ownN s k + (s.ls k).flatten.length
def lenQ (s : QSt) (T : Nat) : Nat := (slAll s.g T).length + s.hs.flatten.length + ownN s T
theorem ownN_le {K T N : Nat} {s : QSt} (ok : QOk K T N s) : ∀ k, k ≤ T → ownN s k ≤ K * k
  | 0, _ => Nat.zero_le _
  | k + 1, hk => by
    have := ownN_le ok k (by omega)
    have := ok.len k (by omega)
    show ownN s k + _ ≤ _
    rw [Nat.mul_add]
    omega
set_option maxHeartbeats 4000000 in
set_option maxRecDepth 100000 in
theorem qlen_any (w : World) (base : Nat) (A : QAd) (T K N : Nat) (s : QSt) (h : Que w base A T K s) (ok : QOk K T N s) (hN : N ≤ 1000) (hK : K ≤ 16) (h8 : T ≤ 8) :
    Calls Tryz.prog 29 #[ptr A.B] w fun r w' => r = .returned (.int .i64 (lenQ s T)) ∧ Below w.heap.size w w' := by
  have H : Aside (Que w base A T K s) := h
  have OK : Aside (QOk K T N s) := ok
  have KC : Aside (∀ W, Below w.heap.size w W → W.cell? ⟨A.B, 1, none⟩ = some (ptr A.SB) ∧ W.cell? ⟨A.B, 3, none⟩ = some (ptr A.HB) ∧ W.cell? ⟨A.B, 2, none⟩ = some (.slice (some ⟨A.OR, 0, none⟩) T A.oc)) := fun W hW => by
    obtain ⟨ra, sa, q⟩ := H.out.below hW
    exact ⟨q.fix.cells.2.1, q.fix.cells.2.2.2.1, q.fix.cells.2.2.1⟩
  obtain ⟨m, hm⟩ : ∃ m, (slAll s.g T).length = m := ⟨_, rfl⟩
  obtain ⟨k, hk⟩ : ∃ m, s.hs.flatten.length = m := ⟨_, rfl⟩
  obtain ⟨z, hz⟩ : ∃ m, lenQ s T = m := ⟨_, rfl⟩
  have m8 := slAll_len s.g T
  have k17 := ok.hsum
  have o8 := ownN_le ok T (Nat.le_refl _)
  have o9 : K * T ≤ 128 := Nat.le_trans (Nat.mul_le_mul hK h8) (by omega)
  have HZ : Hid _ := hz
  rw [hm] at m8
  rw [hk] at k17
  have AL : Aside (∀ W, Below w.heap.size w W → Calls Tryz.prog 66 #[ptr A.SB] W (SlAllIs W m (slAll s.g T))) := fun W hW => by
    obtain ⟨ra, sa, q⟩ := H.out.below hW
    exact slAll_any W A.SB A.SR T s.g m q.slt hm
  have SL : Aside (∀ W, Below w.heap.size w W → Calls Tryz.prog 67 #[ptr A.HB] W fun r w' => r = .returned (.int .i64 k) ∧ Below W.heap.size W w') := fun W hW => by
    obtain ⟨ra, sa, q⟩ := H.out.below hW
    have := slen_any A.HB s.v s.hs W q.shr.s (by rw [hk]; omega)
    rw [hk] at this
    exact this
  have hb0 : Below w.heap.size w w := Below.refl _ _
  have hb1 : Below w.heap.size w w.drew := hb0.drew
  have ZZ : Hid (z = m + k + ownN s T) := by show _ = _; rw [← hz, ← hm, ← hk]; rfl
  have OZ : Hid (ownN s T ≤ 128) := Nat.le_trans o8 o9
  obtain ⟨q1, q2, _⟩ := KC.out w hb0
  rw [hz]
  have mx := mixed
  have wv : IntKind.i64.wrap ((m : Int) + (k : Int)) = (m : Int) + (k : Int) := by rw [IntKind.wrap_i64]; omega
  clear h ok hm hk hz o8 o9
  go_enter Tryz.func29, Tryz.ntmps29
  go_wp2_with fail
  go_region_held3 (fun W => W.cell? ⟨A.B, 1, none⟩ = some (ptr A.SB) ∧ W.cell? ⟨A.B, 3, none⟩ = some (ptr A.HB)) (first | with_reducible exact ⟨(KC.out _ hb0).1, (KC.out _ hb0).2.1⟩ | with_reducible exact ⟨(KC.out _ hb1).1, (KC.out _ hb1).2.1⟩ | with_reducible exact ⟨(KC.out _ hb2).1, (KC.out _ hb2).2.1⟩ | with_reducible exact ⟨(KC.out _ hb3).1, (KC.out _ hb3).2.1⟩)
    ((first
      | (go_at_call 67; (with_reducible refine Calls.mono (SL.out _ hb2) ?_); rintro r w3 ⟨rfl, d3⟩; have hb3 : Below w.heap.size w w3 := hb2.trans (d3.mono hb2.size))
      | (go_at_call 66; (with_reducible refine Calls.mono (AL.out _ hb1) ?_); rintro r w2 ⟨x, y, rfl, o2, d2⟩; have hb2 : Below w.heap.size w w2 := hb1.trans (d2.mono hb1.size))))
  have B3 : Aside (Below w.heap.size w w3) := hb3
  obtain ⟨_, _, q3⟩ := KC.out w3 hb3
  clear hb3 d3 hb2 d2 o2 q1 q2
  go_wp2
  go_loopg [3, 23] T (fun kx s3 s23 wr => ∃ (i n : Nat), s23 = .int .i64 i ∧ s3 = .int .i64 n ∧ Hid (n = m + k + ownN s i) ∧ n ≤ 20000 ∧ i ≤ T ∧ T - i ≤ kx ∧ Aside (Below w.heap.size w wr))
  case atStart => exact ⟨0, m + k, rfl, by go_num, rfl, by omega, by omega, by omega, B3⟩
  case round =>
    obtain ⟨i, n, rfl, rfl, HN, hn, hi, hkx, D⟩ := hrel
    by_cases hlt : i < T
    · have hz : (i : Int) < (T : Int) := by omega
      have qq := H.out.below D.out
      have ll := OK.out.len i hlt
      obtain ⟨l, hl⟩ : ∃ l, (s.ls i).flatten.length = l := ⟨_, rfl⟩
      have le : Calls Tryz.prog 35 #[ptr (A.L i)] wr fun r w' => r = .returned (.int .i64 l) ∧ Below wr.heap.size wr w' := by
        obtain ⟨ra, sa, q⟩ := qq
        have := llen_any (A.L i) base (s.ls i) wr (q.own i hlt).t (by omega)
        rw [hl] at this
        exact this
      have fx : QFix wr A T K := by obtain ⟨ra, sa, q⟩ := qq; exact q.fix
      have y1 := fx.own hlt
      have HL : Hid _ := hl
      rw [hl] at ll
      clear qq fx hl
      go_wp2_with fail
      refine le.mono ?_
      rintro r w5 ⟨rfl, d5⟩
      have D5 : Aside (Below w.heap.size w w5) := D.out.trans (d5.mono D.out.size)
      have e2 : n + l = m + k + ownN s (i + 1) := by
        show n + l = m + k + (ownN s i + (s.ls i).flatten.length)
        rw [HL.out, HN.out]; omega
      have E2 : Hid _ := e2
      have n2 : n + l ≤ 20000 := by
        have h1 := ownN_le OK.out (i + 1) (by omega)
        have h2 : K * (i + 1) ≤ 16 * 8 := Nat.mul_le_mul hK (by omega)
        omega
      clear d5 le y1 e2
      go_wp2
      go_roundg (T - (i + 1))
      case measure => omega
      case rel => exact ⟨i + 1, n + l, by go_num, by go_num, E2, n2, by omega, Nat.le_refl _, D5⟩
    · have hz : ¬ (i : Int) < (T : Int) := by omega
      have ez : z = n := by
        have := HN.out
        rw [show i = T by omega] at this
        rw [ZZ.out, this]
      have EZ : Hid _ := ez
      clear ez
      go_wp2
      go_ret
      exact ⟨by rw [EZ.out]; rfl, D.out⟩
end Go.Proofs.YtdcacbjmbfppeaaGreat
