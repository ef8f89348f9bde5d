/- slices.BinarySearchFunc and slices.MinFunc at timers by wheel.order. -/
import Derived.Test.YtbopobgnmkhabaaDoorTmD
import Derived.Test.YtbopobgnmkhabaaDoorEntS
namespace Go.Proofs.YtbopobgnmkhabaaDoor
open Go.RowKit Go.Lib Go.Sort
set_option linter.unusedVariables false

theorem order_grown (x y : Ent) (w : World) (n : Nat) (os : Array Obj) :
    Calls Tryd.prog 25 #[.agg #[.int .u64 x.1, .int .i64 x.2], .agg #[.int .u64 y.1, .int .i64 y.2]] (grow (w.drewN n) os) fun e w' => e = .returned (.int .i64 (cfE x y)) ∧ ∃ p : GrownBy, w' = grow (w.drewN p.n) p.os :=
  Calls.grown_of (order_any x y _)
theorem gcell {wr : World} {g : Nat} {cs : Array Value} {T : TypeId} {fr : Nat × Nat} (h : wr.heap[g]? = some (.cells cs T fr)) (n : Nat) (os : Array Obj) (j : Nat) : (grow (wr.drewN n) os).cell? ⟨g, j, none⟩ = cs[j]? :=
  (Grown.cells (u := wr) ⟨n, os, rfl⟩ g j (lt_of_block h)).trans (cell_of_row _ _ _ _ _ _ h)
theorem gcellB {w wr : World} {S b : Nat} (h : Below S w wr) (hb : b < S) (hS : S ≤ w.heap.size) (n : Nat) (os : Array Obj) (j : Nat) : (grow (wr.drewN n) os).cell? ⟨b, j, none⟩ = w.cell? ⟨b, j, none⟩ :=
  (Grown.cells (u := wr) ⟨n, os, rfl⟩ b j (by have := h.size; omega)).trans (h.cell (p := ⟨b, j, none⟩) hb)
theorem gheap {wr : World} {g : Nat} {o : Obj} (h : wr.heap[g]? = some o) (hl : g < wr.heap.size) (n : Nat) (os : Array Obj) : (grow (wr.drewN n) os).heap[g]? = some o :=
  ((Grown.below (u := wr) ⟨n, os, rfl⟩).block g hl).trans h
theorem srt_smal {d : List Ent} (hs : Srt d) (t : Ent) {i : Nat} (hi : i ≤ d.length) (h1 : i = 0 ∨ ∃ h : i - 1 < d.length, ltE d[i - 1] t = true) (h2 : i = d.length ∨ ∃ h : i < d.length, ltE d[i] t = false) : smal d t = i := smal_place hs t i hi h1 h2

set_option maxHeartbeats 400000 in
theorem bsearch_any (a : Option Addr) (cap : Nat) (d : List Ent) (t : Ent) (w : World) (h : IsL w a cap d) (hs : Srt d) (hd : d.length ≤ 100000) :
    Calls Tryd.prog 33 #[.slice a d.length cap, .agg #[.int .u64 t.1, .int .i64 t.2], .func (.func 25) #[] #[]] w fun e w' => (∃ b, e = .returned (.tuple #[.int .i64 (smal d t : Nat), .bool b])) ∧ Grown w w' := by
  have eg := enters_of Tryd.func25 (by kernel_rfl) rfl
  have H : Aside (IsL w a cap d) := h
  have HS : Aside (Srt d) := hs
  obtain ⟨S, hS⟩ : ∃ S, w.heap.size = S := ⟨_, rfl⟩
  obtain ⟨w0, hw0⟩ : ∃ w0, w.alloc (.cells #[.int .u64 t.1, .int .i64 t.2] 33) = w0 := ⟨_, rfl⟩
  have HW : Hid _ := hw0
  have g0 : Aside (Grown w w0) := by show Grown w w0; rw [← hw0]; exact (Grown.refl w).alloc _
  have s0 : S < w0.heap.size := by rw [← hw0, ← hS]; simp
  have t0 : w0.cell? ⟨S, 0, none⟩ = some (.int .u64 t.1) ∧ w0.cell? ⟨S, 1, none⟩ = some (.int .i64 t.2) := by rw [← hw0, ← hS]; exact ⟨by simp [go_sem], by simp [go_sem]⟩
  have T0 : Aside _ := t0
  have mx := mixed
  obtain ⟨sm, hsm⟩ : ∃ k, smal d t = k := ⟨_, rfl⟩
  rw [hsm]
  have HSM : Hid (smal d t = sm) := hsm
  clear h hs hw0 t0 hsm
  go_enter Tryd.func33, Tryd.ntmps33
  go_upto_region 1 with fail
  rw [HW.out]
  go_wp2
  go_loopg [9, 10, 11] d.length (fun kx s9 s10 s11 wr => ∃ i j : Nat, s9 = .int .i64 i ∧ s10 = .int .i64 j ∧ i ≤ j ∧ j ≤ d.length ∧ j - i ≤ kx ∧ Aside (i = 0 ∨ ∃ m, i = m + 1 ∧ ∃ h : m < d.length, ltE d[m] t = true) ∧ Aside (j = d.length ∨ ∃ h : j < d.length, ltE d[j] t = false) ∧ Aside (Grown w0 wr))
  case atStart => exact ⟨0, d.length, rfl, rfl, by omega, by omega, by omega, .inl rfl, .inl rfl, Grown.refl w0⟩
  case round =>
    obtain ⟨i, j, rfl, rfl, hij, hjn, hkx, A1, A2, G1⟩ := hrel
    have c3 := fun n os => ((G1.out.trans ⟨n, os, rfl⟩ : Grown w0 (grow (wr.drewN n) os)).cells S 0 s0).trans T0.out.1
    have c4 := fun n os => ((G1.out.trans ⟨n, os, rfl⟩ : Grown w0 (grow (wr.drewN n) os)).cells S 1 s0).trans T0.out.2
    by_cases hlt : i < j
    · obtain ⟨m, hh⟩ : ∃ h : Nat, ((i : Int) + (j : Int)) / 2 = (h : Int) := ⟨(i + j) / 2, by omega⟩
      have l1 : i ≤ m := by omega
      have l2 : m < j := by omega
      have l3 : (m : Int) < (d.length : Int) := by omega
      obtain ⟨b, off, ha, hc⟩ := H.out.at (show m < d.length by omega)
      subst ha
      have c1 := fun n os => (hc wr (g0.out.trans G1.out) n os).1
      have c2 := fun n os => (hc wr (g0.out.trans G1.out) n os).2
      obtain ⟨x, hx⟩ : ∃ x, d[m] = x := ⟨_, rfl⟩
      rw [hx] at c1 c2
      have HX : Hid (d[m] = x) := hx
      have lg := order_grown x t wr
      have hcn := ltOf_cfE x t
      obtain ⟨C, hC⟩ : ∃ C, cfE x t = C := ⟨_, rfl⟩
      rw [hC] at hcn
      simp only [hC] at lg
      clear hC hx hc
      cases hB : ltE x t with
      | true =>
        rw [hB] at hcn
        have hq : C < 0 := of_decide_eq_true hcn
        have HB : Hid (ltE x t = true) := hB
        clear hB hcn
        go_wp2_with fail
        go_quiet_grown (first | (go_at_call 25; exact lg _ _))
        have G2 : Aside (Grown w0 (grow (wr.drewN nq) osq)) := G1.out.trans ⟨nq, osq, rfl⟩
        clear c1 c2 c3 c4 lg hh
        generalize grow (wr.drewN nq) osq = w2 at G2 ⊢
        go_wp2
        go_roundg (j - (m + 1))
        case measure => omega
        case rel => exact ⟨m + 1, j, by go_num, rfl, by omega, hjn, Nat.le_refl _, .inr ⟨m, rfl, by omega, by rw [HX.out]; exact HB.out⟩, A2, G2⟩
      | false =>
        rw [hB] at hcn
        have hq : ¬ C < 0 := of_decide_eq_false hcn
        have HB : Hid (ltE x t = false) := hB
        clear hB hcn
        go_wp2_with fail
        go_quiet_grown (first | (go_at_call 25; exact lg _ _))
        have G2 : Aside (Grown w0 (grow (wr.drewN nq) osq)) := G1.out.trans ⟨nq, osq, rfl⟩
        clear c1 c2 c3 c4 lg hh
        generalize grow (wr.drewN nq) osq = w2 at G2 ⊢
        go_wp2
        go_roundg (m - i)
        case measure => omega
        case rel => exact ⟨i, m, rfl, rfl, by omega, by omega, Nat.le_refl _, A1, .inr ⟨by omega, by rw [HX.out]; exact HB.out⟩, G2⟩
    · have hz : ¬ (i : Int) < (j : Int) := by omega
      obtain rfl : i = j := by omega
      have hsm : smal d t = i := smal_place HS.out t i hjn (by rcases A1.out with h | ⟨m, rfl, h, e⟩; exact .inl h; exact .inr ⟨h, e⟩) A2.out
      obtain rfl : i = sm := hsm.symm.trans HSM.out
      by_cases hn : i < d.length
      · obtain ⟨b, off, ha, hc⟩ := H.out.at hn
        subst ha
        have c1 := fun n os => (hc wr (g0.out.trans G1.out) n os).1
        have c2 := fun n os => (hc wr (g0.out.trans G1.out) n os).2
        obtain ⟨x, hx⟩ : ∃ x, d[i] = x := ⟨_, rfl⟩
        rw [hx] at c1 c2
        have lg := order_grown x t wr
        obtain ⟨C, hC⟩ : ∃ C, cfE x t = C := ⟨_, rfl⟩
        simp only [hC] at lg
        have hz2 : (i : Int) < (d.length : Int) := by omega
        clear hC hx hc hsm
        go_wp2_with fail
        go_quiet_grown (first | (go_at_call 25; exact lg _ _))
        have G2 : Aside (Grown w0 (grow (wr.drewN nq) osq)) := G1.out.trans ⟨nq, osq, rfl⟩
        generalize grow (wr.drewN nq) osq = w2 at G2 ⊢
        go_wp2
        refine bodyPost_ret (v := .tuple #[.int .i64 i, .bool (C == 0)]) (by simp [results, Tryd.results33, go_sem]) rfl ⟨⟨_, rfl⟩, g0.out.trans G2.out⟩
      · have hz2 : ¬ (i : Int) < (d.length : Int) := by omega
        have hd2 : decide ((i : Int) < (d.length : Int)) = false := decide_eq_false hz2
        clear hsm c3 c4
        go_wp2_with fail
        go_quiet (fail)
        go_wp2
        refine bodyPost_ret (v := .tuple #[.int .i64 i, .bool false]) (by simp [results, Tryd.results33, go_sem]) rfl ⟨⟨_, rfl⟩, g0.out.trans (G1.out.drewN _)⟩

/-- The least of a list that has something. -/
def minE : List Ent → Ent → Ent
  | [], m => m
  | x :: d, m => minE d (if ltE x m then x else m)
theorem minE_mem : ∀ (d : List Ent) (m : Ent), minE d m = m ∨ minE d m ∈ d
  | [], m => .inl rfl
  | x :: d, m => by
    unfold minE
    rcases minE_mem d (if ltE x m then x else m) with h | h
    · rw [h]; split
      · exact .inr (by simp)
      · exact .inl rfl
    · exact .inr (by simp [h])
theorem minE_le : ∀ (d : List Ent) (m : Ent), ltE m (minE d m) = false ∧ ∀ x ∈ d, ltE x (minE d m) = false
  | [], m => ⟨swoE.irrefl _, fun x hx => by cases hx⟩
  | y :: d, m => by
    unfold minE
    obtain ⟨h1, h2⟩ := minE_le d (if ltE y m then y else m)
    by_cases c : ltE y m = true
    · rw [if_pos c] at h1 h2 ⊢
      refine ⟨swoE.ntrans _ _ _ (swoE.asymmA c) h1, fun x hx => ?_⟩
      rcases List.mem_cons.1 hx with rfl | hx
      · exact h1
      · exact h2 x hx
    · rw [if_neg c] at h1 h2 ⊢
      refine ⟨h1, fun x hx => ?_⟩
      rcases List.mem_cons.1 hx with rfl | hx
      · exact swoE.ntrans _ _ _ (by simpa using c) h1
      · exact h2 x hx
theorem minE_take (d : List Ent) (m : Ent) (k : Nat) (hk : k < d.length) : minE (d.take (k + 1)) m = if ltE d[k] (minE (d.take k) m) then d[k] else minE (d.take k) m := by
  induction d generalizing m k with
  | nil => simp at hk
  | cons x d ih =>
    cases k with
    | zero => simp [minE]
    | succ k =>
      simp only [List.take_succ_cons, minE, List.getElem_cons_succ]
      exact ih _ k (by simpa using hk)
set_option maxHeartbeats 1000000 in
theorem min_any (a : Option Addr) (cap : Nat) (y : Ent) (d : List Ent) (w : World) (h : IsL w a cap (y :: d)) (hd : d.length ≤ 100000) :
    Calls Tryd.prog 66 #[.slice a (d.length + 1) cap, .func (.func 25) #[] #[]] w fun e w' => e = .returned (.agg #[.int .u64 (minE d y).1, .int .i64 (minE d y).2]) ∧ Below w.heap.size w w' := by
  have eg := enters_of Tryd.func25 (by kernel_rfl) rfl
  have mx := mixed
  obtain ⟨b, off, ha, hb, y1, y2⟩ := h.elem 0 y rfl
  subst ha
  simp only [Nat.zero_mul, Nat.add_zero] at y1 y2
  have H : Aside (∀ k (hk : k < d.length), w.cell? ⟨b, off + (k + 1) * 2, none⟩ = some (.int .u64 d[k].1) ∧ w.cell? ⟨b, off + (k + 1) * 2 + 1, none⟩ = some (.int .i64 d[k].2)) := fun k hk => by
    obtain ⟨b', off', e, _, h1, h2⟩ := h.elem (k + 1) d[k] (by simp)
    cases e
    exact ⟨h1, h2⟩
  obtain ⟨S, hS⟩ : ∃ S, w.heap.size = S := ⟨_, rfl⟩
  obtain ⟨n, hn⟩ : ∃ n, d.length = n := ⟨_, rfl⟩
  rw [hn] at hd
  have HN : Hid (d.length = n) := hn
  rw [hn]
  have hbS : b < S := by omega
  clear h hn
  have hz1 : ¬ (n : Int) + 1 < 1 := by omega
  have hz2 : (0 : Int) < (n : Int) + 1 := by omega
  have ybS : ¬ b = S := by omega
  obtain ⟨w0, hw0⟩ : ∃ w0, (w.alloc (.cells #[.int .u64 0, .int .i64 0] 33)).alloc (.cells #[.int .u64 y.1, .int .i64 y.2] 33) = w0 := ⟨_, rfl⟩
  have HW : Hid _ := hw0
  have I0 : Aside (w0.heap[S]? = some (.cells #[.int .u64 0, .int .i64 0] 33 (0, 0)) ∧ w0.heap[S + 1]? = some (.cells #[.int .u64 y.1, .int .i64 y.2] 33 (0, 0)) ∧ Below S w w0) := by
    refine ⟨?_, ?_, ?_⟩
    · rw [← hw0, ← hS, heap_alloc_old _ _ (by simp)]; exact heap_alloc_new w _
    · rw [← hw0, ← hS]; have := heap_alloc_new (w.alloc (.cells #[.int .u64 0, .int .i64 0] 33)) (.cells #[.int .u64 y.1, .int .i64 y.2] 33); simpa using this
    · rw [← hw0, ← hS]; exact ((Below.refl _ _).alloc (Nat.le_refl _) _).alloc (by simp) _
  clear hw0
  have y3 := (cell_old w (.cells #[.int .u64 0, .int .i64 0] 33) 0 hb)
  obtain ⟨R, hR⟩ : ∃ R, minE d y = R := ⟨_, rfl⟩
  rw [hR]
  have HR : Hid (minE d y = R) := hR
  clear hR y3
  go_enter Tryd.func66, Tryd.ntmps66
  go_upto_region 4 with fail
  rw [HW.out]
  go_wp2
  go_loopg [6] n (fun kx s6 wr => ∃ (k K : Nat) (m : Ent), s6 = .int .i64 K ∧ Hid (K = k + 1) ∧ k ≤ n ∧ n - k ≤ kx ∧ Aside (m = minE (d.take k) y) ∧ Aside (wr.heap[S]? = some (.cells #[.int .u64 0, .int .i64 0] 33 (0, 0)) ∧ wr.heap[S + 1]? = some (.cells #[.int .u64 m.1, .int .i64 m.2] 33 (0, 0)) ∧ Below S w wr))
  case atStart => exact ⟨0, 1, y, by go_num, rfl, by omega, by omega, rfl, I0⟩
  case round =>
    obtain ⟨k, K, m, rfl, HK, hk, hkx, Hm, I⟩ := hrel
    have m1 : ∀ n os, (grow (wr.drewN n) os).cell? ⟨S + 1, 0, none⟩ = some (.int .u64 m.1) := fun n os => (gcell I.out.2.1 n os _).trans rfl
    have m2 : ∀ n os, (grow (wr.drewN n) os).cell? ⟨S + 1, 1, none⟩ = some (.int .i64 m.2) := fun n os => (gcell I.out.2.1 n os _).trans rfl
    by_cases hlt : k < n
    · have hz : (K : Int) < (n : Int) + 1 := by have := HK.out; omega
      have hkd : k < d.length := by rw [HN.out]; exact hlt
      obtain ⟨x, hx⟩ : ∃ x, d[k] = x := ⟨_, rfl⟩
      have c1 : ∀ n os, (grow (wr.drewN n) os).cell? ⟨b, off + K * 2, none⟩ = some (.int .u64 x.1) := fun n os => by
        rw [gcellB I.out.2.2 hbS (by omega), HK.out, (H.out k hkd).1, hx]
      have c2 : ∀ n os, (grow (wr.drewN n) os).cell? ⟨b, off + K * 2 + 1, none⟩ = some (.int .i64 x.2) := fun n os => by
        rw [gcellB I.out.2.2 hbS (by omega), HK.out, (H.out k hkd).2, hx]
      have HX : Hid (d[k] = x) := hx
      have lg := order_grown x m wr
      have hcn := ltOf_cfE x m
      obtain ⟨C, hC⟩ : ∃ C, cfE x m = C := ⟨_, rfl⟩
      rw [hC] at hcn
      simp only [hC] at lg
      clear hC hx
      have I2 : Aside (∀ nq osq, (grow (wr.drewN nq) osq).heap[S]? = some (.cells #[.int .u64 0, .int .i64 0] 33 (0, 0)) ∧ (grow (wr.drewN nq) osq).heap[S + 1]? = some (.cells #[.int .u64 m.1, .int .i64 m.2] 33 (0, 0)) ∧ Below S w (grow (wr.drewN nq) osq)) := fun nq osq =>
        ⟨gheap I.out.1 (lt_of_block I.out.1) nq osq, gheap I.out.2.1 (lt_of_block I.out.2.1) nq osq, I.out.2.2.trans ((Grown.below ⟨nq, osq, rfl⟩ : Below wr.heap.size wr _).mono (by have := I.out.2.2.size; omega))⟩
      cases hB : ltE x m with
      | true =>
        rw [hB] at hcn
        have hq : C < 0 := of_decide_eq_true hcn
        have HM : Aside (x = minE (d.take (k + 1)) y) := by
          show x = _
          rw [minE_take d y k hkd, ← Hm.out, HX.out, hB]; rfl
        clear hB hcn I
        go_wp2_with fail
        go_quiet_grown (first | (go_at_call 25; exact lg _ _))
        have I3 := I2.out nq osq
        have d1 := c1 nq osq
        have d2 := c2 nq osq
        have e1 := m1 nq osq
        have e2 := m2 nq osq
        clear c1 c2 m1 m2 lg I2
        generalize grow (wr.drewN nq) osq = w2 at I3 d1 d2 e1 e2 ⊢
        have f1 : w2.frozen? ⟨S + 1, 0, none⟩ = false := by simp [World.frozen?, I3.2.1]
        have f2 : w2.frozen? ⟨S + 1, 1, none⟩ = false := by simp [World.frozen?, I3.2.1]
        have I4 : Aside (((w2.setCell ⟨S + 1, 0, none⟩ (.int .u64 x.1)).setCell ⟨S + 1, 1, none⟩ (.int .i64 x.2)).heap[S]? = some (.cells #[.int .u64 0, .int .i64 0] 33 (0, 0)) ∧ ((w2.setCell ⟨S + 1, 0, none⟩ (.int .u64 x.1)).setCell ⟨S + 1, 1, none⟩ (.int .i64 x.2)).heap[S + 1]? = some (.cells #[.int .u64 x.1, .int .i64 x.2] 33 (0, 0)) ∧ Below S w ((w2.setCell ⟨S + 1, 0, none⟩ (.int .u64 x.1)).setCell ⟨S + 1, 1, none⟩ (.int .i64 x.2))) := by
          refine ⟨?_, ?_, (I3.2.2.setCell (by simp) _).setCell (by simp) _⟩
          · rw [heap_setCell_other _ _ _ _ (by simp), heap_setCell_other _ _ _ _ (by simp)]; exact I3.1
          · rw [heap_setCell_same _ _ _ _ _ _ (heap_setCell_same _ _ _ _ _ _ I3.2.1)]; rfl
        clear I3
        go_wp2
        go_roundg (n - (k + 1))
        case measure => omega
        case rel => exact ⟨k + 1, K + 1, x, by go_num, (show K + 1 = k + 1 + 1 by rw [HK.out]), by omega, Nat.le_refl _, HM, I4⟩
      | false =>
        rw [hB] at hcn
        have hq : ¬ C < 0 := of_decide_eq_false hcn
        have HM : Aside (m = minE (d.take (k + 1)) y) := by
          show m = _
          rw [minE_take d y k hkd, ← Hm.out, HX.out, hB]; rfl
        clear hB hcn I
        go_wp2_with fail
        go_quiet_grown (first | (go_at_call 25; exact lg _ _))
        have I4 : Aside _ := I2.out nq osq
        clear c1 c2 m1 m2 lg I2
        generalize grow (wr.drewN nq) osq = w2 at I4 ⊢
        go_wp2
        go_roundg (n - (k + 1))
        case measure => omega
        case rel => exact ⟨k + 1, K + 1, m, by go_num, (show K + 1 = k + 1 + 1 by rw [HK.out]), by omega, Nat.le_refl _, HM, I4⟩
    · have hz : ¬ (K : Int) < (n : Int) + 1 := by have := HK.out; omega
      have hm : m = R := by rw [Hm.out, List.take_of_length_le (by rw [HN.out]; omega)]; exact HR.out
      subst hm
      have e1 := m1 0 #[]
      have e2 := m2 0 #[]
      rw [grow_empty] at e1 e2
      change wr.cell? _ = _ at e1
      change wr.cell? _ = _ at e2
      have f1 : wr.frozen? ⟨S, 0, none⟩ = false := by simp [World.frozen?, I.out.1]
      have f2 : wr.frozen? ⟨S, 1, none⟩ = false := by simp [World.frozen?, I.out.1]
      have g1 : wr.cell? ⟨S, 0, none⟩ = some (.int .u64 0) := by rw [cell_of_row _ _ _ _ _ _ I.out.1]; rfl
      have g2 : wr.cell? ⟨S, 1, none⟩ = some (.int .i64 0) := by rw [cell_of_row _ _ _ _ _ _ I.out.1]; rfl
      have B : Aside (Below S w ((wr.setCell ⟨S, 0, none⟩ (.int .u64 m.1)).setCell ⟨S, 1, none⟩ (.int .i64 m.2))) := (I.out.2.2.setCell (by simp) _).setCell (by simp) _
      clear I
      go_wp2
      refine bodyPost_ret (v := .agg #[.int .u64 m.1, .int .i64 m.2]) (by simp [results, Tryd.results66, go_sem, g1, g2]) rfl ⟨rfl, by first | exact B.out | (rw [hS]; exact B.out)⟩
end Go.Proofs.YtbopobgnmkhabaaDoor
