/- More calls that only read: the document's Same, Has and Place; Smaller, Place. -/
import Derived.Test.YtfecobeiibdpcaaEntR
namespace Go.Proofs.Ytfecobeiibdpcaa
open Go.RowKit Go.Lib Go.Sort
set_option linter.unusedVariables false

/-- '==' of two entries. -/
theorem eqE (x y : Ent) (w : World) : (Op.equalIn 10000 33 (.agg #[.int .u64 x.1, .int .i64 x.2]) (.agg #[.int .u64 y.1, .int .i64 y.2])).run Try.prog w = .ok (decide (x = y)) w := by
  have u3 := Try.underlying3
  have a3 := Try.isAgg3
  have z3 := Try.sizeOf3
  have u29 := Try.underlying27
  have a29 := Try.isAgg27
  have z29 := Try.sizeOf27
  have hS : Try.prog.underlying 33 = some (.struct (Try.prog.fieldsOf 33)) := by kernel_rfl
  have hp : Try.prog.stoodInHeld 33 = false := by kernel_rfl
  rw [show (10000 : Nat) = 9999 + 1 from rfl, run_equalIn_agg w 9999 33 _ _ hS hp]
  simp only [Program.fieldsOf, Try.underlying33]
  obtain ⟨k1, i1⟩ := x
  obtain ⟨k2, i2⟩ := y
  go_simp
  by_cases h1 : k1 = k2 <;> by_cases h2 : i1 = i2 <;> simp [h1, h2]
theorem guardE : Try.prog.eqGuardType Try.prog.depth 33 = false := by kernel_rfl

theorem eq_take_succ {c d : List Ent} {k : Nat} (hc : k < c.length) (hd : k < d.length) (h : c.take k = d.take k) (e : c[k] = d[k]) : c.take (k + 1) = d.take (k + 1) := by
  rw [List.take_succ_eq_append_getElem hc, List.take_succ_eq_append_getElem hd, h, e]

set_option maxHeartbeats 2000000 in
set_option maxRecDepth 100000 in
theorem same_any (a a' : Option Addr) (cap cap' : Nat) (c d : List Ent) (w : World) (h : IsL w a cap c) (h' : IsL w a' cap' d) :
    Calls Try.prog 15 #[.slice a c.length cap, .slice a' d.length cap'] w fun e w' => e = .returned (.bool (decide (c = d))) ∧ Grown w w' := by
  have hl := h.len
  have hl' := h'.len
  have H : Aside _ := h
  have H' : Aside _ := h'
  have mx := mixed
  clear h h'
  by_cases e : c.length = d.length
  · obtain ⟨n, hn⟩ : ∃ n, c.length = n := ⟨_, rfl⟩
    have hn' : d.length = n := by omega
    have HN : Hid _ := hn
    have HN' : Hid _ := hn'
    rw [hn] at hl ⊢
    rw [hn'] at hl' ⊢
    clear e hn hn'
    go_enter Try.func15, Try.ntmps15
    go_wp2
    go_loopg [5] n (fun kx s5 wr => ∃ k : Nat, s5 = .int .i64 k ∧ k ≤ n ∧ n - k ≤ kx ∧ Aside (Grown w wr) ∧ Aside (c.take k = d.take k))
    case atStart => exact ⟨0, rfl, by omega, by omega, Grown.refl w, (by simp : c.take 0 = d.take 0)⟩
    case round =>
      obtain ⟨k, rfl, hk, hkx, G, A⟩ := hrel
      by_cases hlt : k < n
      · have hz : (k : Int) < (n : Int) := by omega
        obtain ⟨b, off, ha, hc⟩ := H.out.at (show k < c.length by rw [HN.out]; exact hlt)
        obtain ⟨b', off', ha', hc'⟩ := H'.out.at (show k < d.length by rw [HN'.out]; exact hlt)
        subst ha ha'
        have c1 := fun n => (hc wr G.out n #[]).1
        have c2 := fun n => (hc wr G.out n #[]).2
        have c3 := fun n => (hc' wr G.out n #[]).1
        have c4 := fun n => (hc' wr G.out n #[]).2
        simp only [grow_empty] at c1 c2 c3 c4
        clear hc hc'
        obtain ⟨x, hx⟩ : ∃ x, c[k]'(by rw [HN.out]; exact hlt) = x := ⟨_, rfl⟩
        obtain ⟨y, hy⟩ : ∃ y, d[k]'(by rw [HN'.out]; exact hlt) = y := ⟨_, rfl⟩
        rw [hx] at c1 c2
        rw [hy] at c3 c4
        have HX : Hid _ := hx
        have HY : Hid _ := hy
        clear hx hy
        have q1 := eqE x y
        have q2 := guardE
        by_cases e : x = y
        · have E : Hid _ := e
          have ed : decide (x = y) = true := decide_eq_true e
          clear e
          go_wp2_with fail
          go_quiet (fail)
          have G2 : Aside (Grown w (wr.drewN nq)) := G.out.drewN nq
          clear c1 c2 c3 c4 G q1
          generalize wr.drewN nq = w2 at G2 ⊢
          go_wp2
          go_roundg (n - (k + 1))
          case measure => omega
          case rel => exact ⟨k + 1, by go_num, by omega, Nat.le_refl _, G2, eq_take_succ (by rw [HN.out]; exact hlt) (by rw [HN'.out]; exact hlt) A.out (by rw [HX.out, HY.out]; exact E.out)⟩
        · have E : Hid _ := e
          have ed : decide (x = y) = false := decide_eq_false e
          clear e
          go_wp2_with fail
          go_quiet (fail)
          have G2 : Aside (Grown w (wr.drewN nq)) := G.out.drewN nq
          clear c1 c2 c3 c4 G q1
          generalize wr.drewN nq = w2 at G2 ⊢
          go_wp2
          go_ret
          have ne : c ≠ d := fun h => E.out (by rw [← HX.out, ← HY.out]; simp only [h])
          exact ⟨by rw [decide_eq_false ne]; rfl, G2.out⟩
      · have hz : ¬ (k : Int) < (n : Int) := by omega
        go_wp2
        go_ret
        have eq : c = d := by
          have h := A.out
          rw [List.take_of_length_le (by rw [HN.out]; omega), List.take_of_length_le (by rw [HN'.out]; omega)] at h
          exact h
        exact ⟨by rw [decide_eq_true eq]; rfl, G.out⟩
  · have ez : ¬ (c.length : Int) = (d.length : Int) := by omega
    have ne : c ≠ d := fun h => e (by rw [h])
    have : decide (c = d) = false := decide_eq_false ne
    rw [this]
    go_enter Try.func15, Try.ntmps15
    go_wp2
    go_ret
    exact ⟨rfl, Grown.refl w⟩

/-- A boxed entry, in every world that has grown. -/
theorem box_at (w : World) (x : Ent) (T : TypeId) {W : World} (h : Grown (w.alloc (.cells #[.int .u64 x.1, .int .i64 x.2] T)) W) (n : Nat) (os : Array Obj) :
    (grow (W.drewN n) os).cell? ⟨w.heap.size, 0, none⟩ = some (.int .u64 x.1) ∧ (grow (W.drewN n) os).cell? ⟨w.heap.size, 1, none⟩ = some (.int .i64 x.2) := by
  have g : Grown (w.alloc (.cells #[.int .u64 x.1, .int .i64 x.2] T)) (grow (W.drewN n) os) := h.trans ⟨n, os, rfl⟩
  exact ⟨(g.cells _ _ (by simp)).trans (by simp), (g.cells _ _ (by simp)).trans (by simp)⟩


end Go.Proofs.Ytfecobeiibdpcaa
