/- The document's own queue: New. -/
import Derived.Test.YtdcacbjmbfppeaaGreatQR6
namespace Go.Proofs.YtdcacbjmbfppeaaGreat
open Go.RowKit Go.Lib Go.Sort
set_option linter.unusedVariables false

theorem infoQS : ∃ i, Tryz.prog.info? 69 = some i ∧ i.zero = some (.agg #[.bool false, .int .u64 0, .int .i64 0, .int .u64 0]) ∧ i.size = 4 ∧ i.bytes = 32 := by
  have h : (Tryz.prog.info? 69).map (fun i => (i.zero, i.size, i.bytes)) = some (some (.agg #[.bool false, .int .u64 0, .int .i64 0, .int .u64 0]), 4, 32) := by kernel_rfl
  obtain ⟨i, h1, h2⟩ := Option.map_eq_some_iff.1 h
  simp at h2
  exact ⟨i, h1, h2.1, h2.2.1, h2.2.2⟩
theorem infoQL : ∃ i, Tryz.prog.info? 45 = some i ∧ i.zero = some (.slice none 0 0) ∧ i.size = 1 ∧ i.bytes = 24 := by
  have h : (Tryz.prog.info? 45).map (fun i => (i.zero, i.size, i.bytes)) = some (some (.slice none 0 0), 1, 24) := by kernel_rfl
  obtain ⟨i, h1, h2⟩ := Option.map_eq_some_iff.1 h
  simp at h2
  exact ⟨i, h1, h2.1, h2.2.1, h2.2.2⟩
def RowS (w : World) (R n : Nat) : Prop := ∃ cs : Array Value, w.heap[R]? = some (.cells cs 69 (0, 0)) ∧ cs.size = n * 4 ∧ ∀ i, i < n → cs[i * 4]? = some (.bool false) ∧ cs[i * 4 + 1]? = some (.int .u64 0) ∧ cs[i * 4 + 2]? = some (.int .i64 0) ∧ cs[i * 4 + 3]? = some (.int .u64 0)
def RowL (w : World) (R n : Nat) : Prop := ∃ cs : Array Value, w.heap[R]? = some (.cells cs 45 (0, 0)) ∧ cs.size = n ∧ ∀ i, i < n → cs[i]? = some (.slice none 0 0)
theorem makeS_run (w : World) (n : Nat) (hn : n ≤ 8) :
    ∃ w', (Instr.makeSlice 63 (.int .i64 (n : Int)) (.int .i64 (n : Int))).run Tryz.prog w = .ok (.slice (some ⟨w.heap.size, 0, none⟩) n n) w' ∧ RowS w' w.heap.size n ∧ Below w.heap.size w w' ∧ w'.heap.size = w.heap.size + 1 := by
  obtain ⟨i, hi, hz, hs, hby⟩ := infoQS
  have hm := run_make (P := Tryz.prog) w 63 69 i _ Tryz.underlying63 hi hz .i64 .i64 n n (by omega) (Int.le_refl _) (by rw [hby]; omega) (by omega)
  simp only [Int.toNat_natCast, hs] at hm
  refine ⟨_, hm, ⟨_, heap_alloc_new w _, by simp [madeCells], fun j hj => ?_⟩, (Below.refl _ _).alloc (Nat.le_refl _) _, by simp⟩
  refine ⟨?_, ?_, ?_, ?_⟩
  · rw [slMade _ _ _ (by omega)]
    show some ((#[Value.bool false, .int .u64 0, .int .i64 0, .int .u64 0] : Array Value)[(j * 4) % 4]!) = _
    rw [show (j * 4) % 4 = 0 by omega]; rfl
  · rw [slMade _ _ _ (by omega)]
    show some ((#[Value.bool false, .int .u64 0, .int .i64 0, .int .u64 0] : Array Value)[(j * 4 + 1) % 4]!) = _
    rw [show (j * 4 + 1) % 4 = 1 by omega]; rfl
  · rw [slMade _ _ _ (by omega)]
    show some ((#[Value.bool false, .int .u64 0, .int .i64 0, .int .u64 0] : Array Value)[(j * 4 + 2) % 4]!) = _
    rw [show (j * 4 + 2) % 4 = 2 by omega]; rfl
  · rw [slMade _ _ _ (by omega)]
    show some ((#[Value.bool false, .int .u64 0, .int .i64 0, .int .u64 0] : Array Value)[(j * 4 + 3) % 4]!) = _
    rw [show (j * 4 + 3) % 4 = 3 by omega]; rfl
theorem makeL_run (w : World) (n : Nat) (hn : n ≤ 8) :
    ∃ w', (Instr.makeSlice 64 (.int .i64 (n : Int)) (.int .i64 (n : Int))).run Tryz.prog w = .ok (.slice (some ⟨w.heap.size, 0, none⟩) n n) w' ∧ RowL w' w.heap.size n ∧ Below w.heap.size w w' ∧ w'.heap.size = w.heap.size + 1 := by
  obtain ⟨i, hi, hz, hs, hby⟩ := infoQL
  have hm := run_make (P := Tryz.prog) w 64 45 i _ Tryz.underlying64 hi hz .i64 .i64 n n (by omega) (Int.le_refl _) (by rw [hby]; omega) (by omega)
  simp only [Int.toNat_natCast, hs] at hm
  refine ⟨_, hm, ⟨_, heap_alloc_new w _, by simp [madeCells], fun j hj => ?_⟩, (Below.refl _ _).alloc (Nat.le_refl _) _, by simp⟩
  rw [slMade _ _ _ (by omega)]
  show some ((#[Value.slice none 0 0] : Array Value)[j % 1]!) = _
  rw [Nat.mod_one]; rfl
def noR : RSt := ⟨fun _ => noS, fun _ => [], []⟩
theorem rq_new {w : World} {base B SR LR T K : Nat} (hB : w.heap[B]? = some (.cells #[.int .i64 K, .slice (some ⟨SR, 0, none⟩) T T, .slice (some ⟨LR, 0, none⟩) T T, .slice none 0 0] 66 (0, 0))) (hS : RowS w SR T) (hL : RowL w LR T) (lo : base ≤ B ∧ base ≤ SR ∧ base ≤ LR) : RQ w base B SR LR T K noR.g noR.ow noR.sh := by
  obtain ⟨cs, s1, s2, s3⟩ := hS
  obtain ⟨ds, l1, l2, l3⟩ := hL
  exact ⟨⟨none, 0, hB, OwnE.nil _ _⟩, ⟨cs, s1, s2, s3⟩, ⟨ds, l1, l2, fun i hi => ⟨none, 0, l3 i hi, OwnE.nil _ _⟩⟩, lo⟩
theorem RowS.below {w w' : World} {R n : Nat} (h : RowS w R n) (hw : Below w.heap.size w w') : RowS w' R n := by
  obtain ⟨cs, s1, s2⟩ := h
  exact ⟨cs, (hw.block R (lt_of_block s1)).trans s1, s2⟩
theorem RowL.below {w w' : World} {R n : Nat} (h : RowL w R n) (hw : Below w.heap.size w w') : RowL w' R n := by
  obtain ⟨cs, s1, s2⟩ := h
  exact ⟨cs, (hw.block R (lt_of_block s1)).trans s1, s2⟩
set_option maxHeartbeats 2000000 in
theorem rnew_out (w : World) (n k : Int) (h : n < 1 ∨ 8 < n ∨ k < 0 ∨ 16 < k) :
    Calls Tryz.prog 6 #[.int .i64 n, .int .i64 k] w fun e w' => e = .returned (.pointer none) ∧ w' = w := by
  by_cases h1 : n < 1
  · have d1 : decide (n < 1) = true := decide_eq_true h1
    go_enter Tryz.func6, Tryz.ntmps6
    go_wp2
    go_ret
    exact ⟨rfl, rfl⟩
  · have d1 : decide (n < 1) = false := decide_eq_false h1
    by_cases h2 : 8 < n
    · have d2 : decide (8 < n) = true := decide_eq_true h2
      go_enter Tryz.func6, Tryz.ntmps6
      go_wp2
      go_ret
      exact ⟨rfl, rfl⟩
    · have d2 : decide (8 < n) = false := decide_eq_false h2
      by_cases h3 : k < 0
      · have d3 : decide (k < 0) = true := decide_eq_true h3
        go_enter Tryz.func6, Tryz.ntmps6
        go_wp2
        go_ret
        exact ⟨rfl, rfl⟩
      · have d3 : decide (k < 0) = false := decide_eq_false h3
        have h4 : 16 < k := by omega
        have d4 : decide (16 < k) = true := decide_eq_true h4
        go_enter Tryz.func6, Tryz.ntmps6
        go_wp2
        go_ret
        exact ⟨rfl, rfl⟩
/-- What New tells. -/
def RNewIs (w : World) (T K : Nat) (e : Ending) (w' : World) : Prop := ∃ B SR LR, e = .returned (ptr B) ∧ RQ w' w.heap.size B SR LR T K noR.g noR.ow noR.sh ∧ Below w.heap.size w w'
set_option maxHeartbeats 4000000 in
set_option maxRecDepth 100000 in
theorem rnew_in (w : World) (T K : Nat) (h1 : 1 ≤ T) (h8 : T ≤ 8) (hK : K ≤ 16) :
    Calls Tryz.prog 6 #[.int .i64 T, .int .i64 K] w (RNewIs w T K) := by
  have d1 : decide ((T : Int) < 1) = false := decide_eq_false (by omega)
  have d2 : decide (8 < (T : Int)) = false := decide_eq_false (by omega)
  have d3 : decide ((K : Int) < 0) = false := decide_eq_false (by omega)
  have d4 : decide (16 < (K : Int)) = false := decide_eq_false (by omega)
  have e1 : ¬ (T : Int) < 1 := by omega
  have e2 : ¬ 8 < (T : Int) := by omega
  have e3 : ¬ (K : Int) < 0 := by omega
  have e4 : ¬ 16 < (K : Int) := by omega
  obtain ⟨S, hS⟩ : ∃ S, w.heap.size = S := ⟨_, rfl⟩
  have b0 : Below w.heap.size w w.drew := (Below.refl _ _).drew
  obtain ⟨wS, m1, s1, b1, z1⟩ := makeS_run w.drew T h8
  obtain ⟨wL, m2, l2, b2, z2⟩ := makeL_run wS T h8
  obtain ⟨xL, m3, l3, b3, z3⟩ := makeL_run w.drew T h8
  obtain ⟨xS, m4, s4, b4, z4⟩ := makeS_run xL T h8
  have zd : w.drew.heap.size = S := hS
  have mx := mixed
  rw [zd] at m1 s1 b1 z1 m3 l3 b3 z3
  rw [z1] at m2 l2 b2 z2
  rw [z3] at m4 s4 b4 z4
  have FA : Aside (RNewIs w T K (.returned (ptr (S + 1 + 1))) (wL.alloc (.cells #[.int .i64 K, .slice (some ⟨S, 0, none⟩) T T, .slice (some ⟨S + 1, 0, none⟩) T T, .slice none 0 0] 66))) := by
    have bb : Below wL.heap.size wL (wL.alloc (.cells #[.int .i64 K, .slice (some ⟨S, 0, none⟩) T T, .slice (some ⟨S + 1, 0, none⟩) T T, .slice none 0 0] 66)) := (Below.refl _ _).alloc (Nat.le_refl _) _
    refine ⟨S + 1 + 1, S, S + 1, rfl, rq_new (by rw [← z2]; exact heap_alloc_new wL _) ((s1.below (by rw [z1]; exact b2)).below bb) (l2.below bb) (by omega), ?_⟩
    exact ((b0.trans (b1.mono (by omega))).trans (b2.mono (by omega))).trans (bb.mono (by omega))
  have FB : Aside (RNewIs w T K (.returned (ptr (S + 1 + 1))) (xS.alloc (.cells #[.int .i64 K, .slice (some ⟨S + 1, 0, none⟩) T T, .slice (some ⟨S, 0, none⟩) T T, .slice none 0 0] 66))) := by
    have bb : Below xS.heap.size xS (xS.alloc (.cells #[.int .i64 K, .slice (some ⟨S + 1, 0, none⟩) T T, .slice (some ⟨S, 0, none⟩) T T, .slice none 0 0] 66)) := (Below.refl _ _).alloc (Nat.le_refl _) _
    refine ⟨S + 1 + 1, S + 1, S, rfl, rq_new (by rw [← z4]; exact heap_alloc_new xS _) (s4.below bb) ((l3.below (by rw [z3]; exact b4)).below bb) (by omega), ?_⟩
    exact ((b0.trans (b3.mono (by omega))).trans (b4.mono (by omega))).trans (bb.mono (by omega))
  clear s1 b1 l2 b2 l3 b3 s4 b4 z1 z3
  go_enter Tryz.func6, Tryz.ntmps6
  go_wp2_with fail
  go_region
  · go_wp2
    go_ret
    exact FA.out
  · go_wp2
    go_ret
    exact FB.out
end Go.Proofs.YtdcacbjmbfppeaaGreat
