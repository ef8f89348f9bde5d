/- wheel: put, drop: a timer to its place, and out of it. -/
import Derived.Test.YtbopobgnmkhabaaDoorWhF
namespace Go.Proofs.YtbopobgnmkhabaaDoor
open Go.RowKit Go.Lib Go.Sort
set_option linter.unusedVariables false

def insK (far : List Ent) (t : Ent) : List Ent := far.take (smal far t) ++ t :: far.drop (smal far t)
/-- What a put does to the lists. -/
def PutP (now D : Nat) (t : Ent) (u : Nat → Nat) (c : Nat → Nat → List Ent) (far : List Ent) (u' : Nat → Nat) (c' : Nat → Nat → List Ent) (far' : List Ent) : Prop :=
  ((plc now D).1 < 4 ∧ u' = lset u (plc now D).1 (u (plc now D).1 ||| 2 ^ (plc now D).2) ∧ c' = cset c (plc now D).1 (plc now D).2 (c (plc now D).1 (plc now D).2 ++ [t]) ∧ far' = far) ∨
  (4 ≤ (plc now D).1 ∧ u' = u ∧ c' = c ∧ far' = insK far t)
/-- What a call of a wheel leaves, its map as it was. -/
def WGo (w : World) (B M base : Nat) (hd : Nat → Value) (now : Nat) (f : Int → Option Int) (n : Nat) (P : (Nat → Nat) → (Nat → Nat → List Ent) → List Ent → Prop) (w' : World) : Prop :=
  ∃ hd' u' c' far', WhA w' B M base hd' now u' c' far' f n ∧ P u' c' far' ∧ Fr (foot B M hd) w w' ∧ ∀ k, foot B M hd' k → foot B M hd k ∨ w.heap.size ≤ k
theorem WGo.drew {w : World} {B M base now n : Nat} {hd : Nat → Value} {f : Int → Option Int} {P : (Nat → Nat) → (Nat → Nat → List Ent) → List Ent → Prop} {w' : World} (h : WGo w B M base hd now f n P w') : WGo w B M base hd now f n P w'.drew := by
  obtain ⟨hd', u', c', far', h1, h2, h3, h4⟩ := h
  have b : Below w'.heap.size w' w'.drew := (Below.refl _ _).drew
  exact ⟨hd', u', c', far', h1.fr (Fr.below (X := fun _ => False) b) (fun _ _ => id), h2, h3.trans (Fr.below (X := fun _ => False) b) (fun j hj => hj.elim), h4⟩
theorem foot_row {B M i k : Nat} {hd : Nat → Value} (hi : i < 263) (h : k = B ∨ rowB (hd i) = some k) : foot B M hd k := by
  rcases h with h | h
  · exact .inl h
  · exact .inr (.inr ⟨i, hi, h⟩)
theorem slt_lt' (now D : Nat) : (plc now D).2 < 64 := slt_lt _ _

set_option maxHeartbeats 4000000 in
set_option maxRecDepth 100000 in
theorem put_any (w : World) (B M base now n D : Nat) (hd : Nat → Value) (u : Nat → Nat) (c : Nat → Nat → List Ent) (far : List Ent) (f : Int → Option Int) (t : Ent) (h : WhA w B M base hd now u c far f n) (htD : t.1 = (D : Int)) (hD : D < B64) (hls : ∀ l s, l < 4 → s < 64 → (c l s).length ≤ 100000) (hlf : far.length ≤ 100000) (hsf : Srt far) (hbase : base ≤ w.heap.size) :
    Calls Tryd.prog 22 #[.pointer (some ⟨B, 0, none⟩), .agg #[.int .u64 t.1, .int .i64 t.2]] w fun e w' => e = .returned (.tuple #[]) ∧ WGo w B M base hd now f n (PutP now D t u c far) w' := by
  obtain ⟨S, hS⟩ : ∃ S, w.heap.size = S := ⟨_, rfl⟩
  obtain ⟨u0, hu0⟩ : ∃ u0, w.alloc (.cells #[.int .u64 t.1, .int .i64 t.2] 33) = u0 := ⟨_, rfl⟩
  have b0 : Below w.heap.size w u0 := by rw [← hu0]; exact (Below.refl _ _).alloc (Nat.le_refl _) _
  have h0 : WhA u0 B M base hd now u c far f n := h.fr (Fr.below (X := fun _ => False) b0) (fun _ _ => id)
  have z0 : u0.cell? ⟨S, 0, none⟩ = some (.int .u64 t.1) := by rw [← hu0, ← hS]; simp [go_sem]
  have z1 : u0.cell? ⟨S, 1, none⟩ = some (.int .i64 t.2) := by rw [← hu0, ← hS]; simp [go_sem]
  have s0 : S < u0.heap.size := by rw [← hu0, ← hS]; simp
  have hSu : u0.heap.size = S + 1 := by rw [← hu0, ← hS]; simp
  have c0 := h0.head.cell (k := 0) (by omega)
  rw [h.h0] at c0
  have pl := place_any B now D h.nb hD u0 c0
  rw [← htD] at pl
  have HU0 : Hid _ := hu0
  obtain ⟨L, hL⟩ : ∃ L, (plc now D).1 = L := ⟨_, rfl⟩
  obtain ⟨Z, hZ⟩ : ∃ Z, (plc now D).2 = Z := ⟨_, rfl⟩
  have hZ64 : Z < 64 := by rw [← hZ]; exact slt_lt' now D
  have HLZ : Aside ((plc now D).1 = L ∧ (plc now D).2 = Z) := ⟨hL, hZ⟩
  rw [hL, hZ] at pl
  have b0d : Below w.heap.size w u0.drew := b0.drew
  have h0d : WhA u0.drew B M base hd now u c far f n := h.fr (Fr.below (X := fun _ => False) b0d) (fun _ _ => id)
  by_cases hl4 : L < 4
  · have hl4z : (L : Int) < 4 := by omega
    have rp := rput_any B (2 + L * 65) Z base (u L) hd _ (c L Z) t u0.drew h0d.head (by omega) hZ64 (h.hu L hl4) (h.ub L hl4) rfl (h0d.slot L Z hl4 hZ64) (hls L Z hl4 hZ64) (by show base ≤ u0.heap.size; omega)
    have RP : Aside (Calls Tryd.prog 32 #[.pointer (some ⟨B, 2 + L * 65, none⟩), .int .i64 Z, .agg #[.int .u64 t.1, .int .i64 t.2]] u0.drew fun e w' => e = .returned (.tuple #[]) ∧ WGo w B M base hd now f n (PutP now D t u c far) w' ∧ w'.cell? ⟨S, 0, none⟩ = some (.int .u64 t.1) ∧ w'.cell? ⟨S, 1, none⟩ = some (.int .i64 t.2)) := by
      refine Calls.mono rp ?_
      rintro e w' ⟨rfl, v', q1, q2, q3, q4⟩
      have qS : w'.heap[S]? = u0.drew.heap[S]? := q3.block S s0 (fun hx => by rcases hx with hx | hx; exact absurd h.head.lt (by omega); exact absurd (h.rowLt (by omega) hx).2.1 (by omega))
      refine ⟨rfl, ⟨_, _, _, _, h0d.slotSet hl4 hZ64 q1 q2 q3 q4 (or_lt' _ _ (h.ub L hl4) hZ64), .inl ⟨by rw [hL]; exact hl4, by rw [hL, hZ], by rw [hL, hZ], rfl⟩, ?_, fun k hk => ?_⟩, (World.cell?_of_block (a := ⟨S, 0, none⟩) qS).trans z0, (World.cell?_of_block (a := ⟨S, 1, none⟩) qS).trans z1⟩
      · exact (Fr.below b0d).trans q3 (fun j hj => .inl (foot_row (by omega) hj))
      · rcases foot_slot (w := u0.drew) hl4 hZ64 q4 k hk with x | x
        · exact .inl x
        · right; have : u0.drew.heap.size = u0.heap.size := rfl; omega
    have K0 : Aside (u0.drew.cell? ⟨S, 0, none⟩ = some (.int .u64 t.1) ∧ u0.drew.cell? ⟨S, 1, none⟩ = some (.int .i64 t.2)) := ⟨z0, z1⟩
    have mx := mixed
    clear h b0 h0 c0 hu0 b0d h0d rp hls hlf hsf hL hZ hD htD
    go_enter Tryd.func22, Tryd.ntmps22
    go_upto_region 1 with fail
    rw [HU0.out]
    go_wp2_with (go_at_call 31; refine pl.mono ?_; rintro e w' ⟨rfl, hw'⟩; obtain rfl : u0 = w' := hw'.symm)
    go_region_held3 (fun W => W.cell? ⟨S, 0, none⟩ = some (.int .u64 t.1) ∧ W.cell? ⟨S, 1, none⟩ = some (.int .i64 t.2)) (first | with_reducible exact K0.out | with_reducible exact G2) ((first | (go_at_call 32; (with_reducible refine Calls.mono RP.out ?_); rintro e w1 ⟨rfl, G1, G2⟩)))
    have G1' : Aside (WGo w B M base hd now f n (PutP now D t u c far) w1) := G1
    clear G1 G2
    go_wp2
    refine bodyPost_ret (results_none rfl _ _ _) rfl ⟨rfl, G1'.out⟩
  · have hl4z : ¬ (L : Int) < 4 := by omega
    obtain ⟨va, vc, e0, -, hvc, hvm, hsL⟩ := h0d.far.isL
    obtain ⟨vn, hvn⟩ : ∃ n, far.length = n := ⟨_, rfl⟩
    have c2 := h0d.head.cell (k := 262) (by omega)
    have c2' := h0.head.cell (k := 262) (by omega)
    have bs := bsearch_any va vc far t u0.drew hsL hsf hlf
    rw [hvn] at bs e0
    rw [e0] at c2 c2'
    obtain ⟨sm, hsm⟩ : ∃ k, smal far t = k := ⟨_, rfl⟩
    have hsl : sm ≤ far.length := by rw [← hsm]; exact smal_le far t
    rw [hsm] at bs
    have K0 : Aside (∀ W, Below u0.heap.size u0 W → W.cell? ⟨B, 262, none⟩ = some (.slice va vn vc) ∧ W.cell? ⟨S, 0, none⟩ = some (.int .u64 t.1) ∧ W.cell? ⟨S, 1, none⟩ = some (.int .i64 t.2)) := fun W hW =>
      ⟨(hW.cell (p := ⟨B, 262, none⟩) h0.head.lt).trans c2', (hW.cell (p := ⟨S, 0, none⟩) s0).trans z0, (hW.cell (p := ⟨S, 1, none⟩) s0).trans z1⟩
    have g0 : Below u0.heap.size u0 u0.drew := (Below.refl _ _).drew
    have BS : Aside (Calls Tryd.prog 33 #[.slice va vn vc, .agg #[.int .u64 t.1, .int .i64 t.2], .func (.func 25) #[] #[]] u0.drew fun e w' => (∃ b, e = .returned (.tuple #[.int .i64 (sm : Int), .bool b])) ∧ Grown u0.drew w') := bs
    have H0 : Aside (∀ W, Below u0.heap.size u0 W → WhA W B M base hd now u c far f n ∧ Below w.heap.size w W) := fun W hW => ⟨h0.fr (Fr.below (X := fun _ => False) hW) (fun _ _ => id), b0.trans (hW.mono b0.size)⟩
    have INS : Aside (∀ W G, Below u0.heap.size u0 W → W.heap[G]? = some (.cells #[.int .u64 t.1, .int .i64 t.2] 33 (0, 0)) → u0.heap.size ≤ G → Calls Tryd.prog 34 #[.slice va vn vc, .int .i64 sm, .slice (some ⟨G, 0, none⟩) 1 1] W (InsF W base (.slice va vn vc) (insK far t))) := fun W G hW hG hGs => by
      have hw := (H0.out W hW).1
      have := insert_any (hd 262) base sm G far t W hw.far hsl hlf hG (fun e => by have := (h0.rowLt (by omega) e).2.1; omega) (by have := (H0.out W hW).2.size; omega)
      rw [e0] at this
      unfold insK
      rw [hsm]
      exact this
    have HDE : Hid (hd 262 = .slice va vn vc) := e0
    have HLn : Hid (far.length = vn) := hvn
    have HNL : Hid (¬ L < 4) := hl4
    have FIN : Aside (∀ W w2 v', Below u0.heap.size u0 W → OwnF w2 base v' (insK far t) → W.grownBy w2 (rowB (.slice va vn vc)) → (∀ k, rowB v' = some k → rowB (.slice va vn vc) = some k ∨ W.heap.size ≤ k) → (w2.cell? ⟨B, 262, none⟩ = some (.slice va vn vc) ∧ w2.cell? ⟨S, 0, none⟩ = some (.int .u64 t.1) ∧ w2.cell? ⟨S, 1, none⟩ = some (.int .i64 t.2)) ∧ w2.frozen? ⟨B, 262, none⟩ = false ∧ WGo w B M base hd now f n (PutP now D t u c far) (w2.setCell ⟨B, 262, none⟩ v')) := by
      intro W w2 v' hW o2 g2 n2
      obtain ⟨hw, bw⟩ := H0.out W hW
      rw [← e0] at g2 n2
      have nB : rowB (hd 262) ≠ some B := fun e => (h0.rowLt (by omega) e).2.2.1 rfl
      have nS : rowB (hd 262) ≠ some S := fun e => by have := (h.rowLt (by omega) e).2.1; omega
      obtain ⟨k0, k1, k2⟩ := K0.out W hW
      have hh2 : Hd w2 B hd := hw.head.of_block (g2.block B hw.head.lt (fun e => nB e.symm))
      have f2 : Fr (fun k => k = B ∨ rowB (hd 262) = some k) W (w2.setCell ⟨B, 262, none⟩ v') := ((Fr.of_grown g2).mono (fun j hj => .inr hj)).trans (Fr.setCell (fun k => k = B ∨ rowB (hd 262) = some k) _ _ _ _ (.inl rfl)) (fun j hj => .inl hj)
      refine ⟨⟨g2.cell k0 (fun e => nB e.symm), g2.cell k1 (fun e => nS e.symm), g2.cell k2 (fun e => nS e.symm)⟩, hh2.frozen _, _, _, _, _, hw.farSet (hh2.set 262 v') (o2.of_block fun k hk => heap_setCell_other _ _ _ _ (fun e => ?_)) f2 n2, .inr ⟨by rw [hL]; omega, rfl, rfl, rfl⟩, (Fr.below bw).trans f2 (fun j hj => .inl (foot_row (by omega) hj)), fun k hk => ?_⟩
      · rcases n2 k hk with x | x
        · exact nB (by rw [x, e])
        · have := hw.head.lt
          rw [e] at x
          exact absurd x (by show ¬ W.heap.size ≤ B; omega)
      · rcases foot_far (w := W) n2 k hk with x | x
        · exact .inl x
        · right; have := bw.size; omega
    have hsz : (sm : Int) ≤ (vn : Int) := by omega
    have mx := mixed
    clear h b0 h0 c0 hu0 b0d h0d hls hlf hsf hL hZ hD htD hsL bs c2 c2' hvc hvm hsm hsl e0 hvn hl4
    go_enter Tryd.func22, Tryd.ntmps22
    go_upto_region 1 with fail
    rw [HU0.out]
    go_wp2_with (go_at_call 31; refine pl.mono ?_; rintro e w' ⟨rfl, hw'⟩; obtain rfl : u0 = w' := hw'.symm)
    go_region_held3 (fun W => W.cell? ⟨B, 262, none⟩ = some (.slice va vn vc) ∧ W.cell? ⟨S, 0, none⟩ = some (.int .u64 t.1) ∧ W.cell? ⟨S, 1, none⟩ = some (.int .i64 t.2)) (first | with_reducible exact K0.out _ g0 | with_reducible exact K0.out _ g1) ((first | (go_at_call 33; (with_reducible refine Calls.mono BS.out ?_); rintro e w1 ⟨⟨bb, rfl⟩, b1⟩; have g1 : Below u0.heap.size u0 w1 := g0.trans b1.below)))
    have G1 : Aside (Below u0.heap.size u0 w1) := g1
    obtain ⟨w2, hw2⟩ : ∃ w2, (w1.alloc (.cells #[.int .u64 t.1, .int .i64 t.2] 33)).drew = w2 := ⟨_, rfl⟩
    have HW2 : Hid _ := hw2
    have g2 : Below u0.heap.size u0 w2 := by rw [← hw2]; exact (g1.alloc g1.size _).drew
    have g1d : Below u0.heap.size u0 w1.drew := g1.drew
    obtain ⟨G, hG⟩ : ∃ G, w1.heap.size = G := ⟨_, rfl⟩
    have hGs : u0.heap.size ≤ G := by rw [← hG]; exact g1.size
    have hGc : w2.heap[G]? = some (.cells #[.int .u64 t.1, .int .i64 t.2] 33 (0, 0)) := by rw [← hw2, ← hG]; exact heap_alloc_new w1 _
    have ins := INS.out w2 G g2 hGc hGs
    have I0 : Aside (Calls Tryd.prog 34 #[.slice va vn vc, .int .i64 sm, .slice (some ⟨G, 0, none⟩) 1 1] w2 (InsF w2 base (.slice va vn vc) (insK far t))) := ins
    have KA : Aside (w1.drew.cell? ⟨B, 262, none⟩ = some (.slice va vn vc) ∧ w1.drew.cell? ⟨S, 0, none⟩ = some (.int .u64 t.1) ∧ w1.drew.cell? ⟨S, 1, none⟩ = some (.int .i64 t.2)) := K0.out _ g1d
    have KB : Aside (w2.cell? ⟨B, 262, none⟩ = some (.slice va vn vc) ∧ w2.cell? ⟨S, 0, none⟩ = some (.int .u64 t.1) ∧ w2.cell? ⟨S, 1, none⟩ = some (.int .i64 t.2)) := K0.out _ g2
    have FN : Aside (∀ w3 v', OwnF w3 base v' (insK far t) → w2.grownBy w3 (rowB (.slice va vn vc)) → (∀ k, rowB v' = some k → rowB (.slice va vn vc) = some k ∨ w2.heap.size ≤ k) → (w3.cell? ⟨B, 262, none⟩ = some (.slice va vn vc) ∧ w3.cell? ⟨S, 0, none⟩ = some (.int .u64 t.1) ∧ w3.cell? ⟨S, 1, none⟩ = some (.int .i64 t.2)) ∧ w3.frozen? ⟨B, 262, none⟩ = false ∧ WGo w B M base hd now f n (PutP now D t u c far) (w3.setCell ⟨B, 262, none⟩ v')) := fun w3 v' a b d => FIN.out w2 w3 v' g2 a b d
    clear ins hw2 g2 g1d b1 g1 hGc hGs FIN INS BS K0 G1 g0
    go_wp2_with fail
    refine anyE_start (S := (fun v0 => v0.cell? ⟨B, 262, none⟩ = some (.slice va vn vc) ∧ v0.cell? ⟨S, 0, none⟩ = some (.int .u64 t.1) ∧ v0.cell? ⟨S, 1, none⟩ = some (.int .i64 t.2))) (L := 11) (by kernel_rfl) ?_
    refine anyE_take (i := 0) (oi := { dst := some 34, op := Op.move (Operand.tmp 0), type := 23, pos := "wheel.go:125", after := #[], guard := none }) (v := ?_) rfl (by kernel_rfl)  (by kernel_rfl) (by kernel_rfl) (by kernel_rfl) (fun _ _ _ h => h) (Or.inl ⟨by rfl, ?_⟩) (KA.out) ?_
    rotate_left
    · (intro w hSw; (try dsimp only at hSw); go_simp; try with_reducible rfl)
    simp only [Act.put, List.setIfInBounds_toArray, List.set_cons_zero, List.set_cons_succ]
    refine anyE_take (i := 1) (oi := { dst := some 35, op := Op.move (Operand.tmp 0), type := 23, pos := "wheel.go:125", after := #[], guard := none }) (v := ?_) rfl (by kernel_rfl)  (by kernel_rfl) (by kernel_rfl) (by kernel_rfl) (fun _ _ _ h => h) (Or.inl ⟨by rfl, ?_⟩) (KA.out) ?_
    rotate_left
    · (intro w hSw; (try dsimp only at hSw); go_simp; try with_reducible rfl)
    simp only [Act.put, List.setIfInBounds_toArray, List.set_cons_zero, List.set_cons_succ]
    refine anyE_take (i := 2) (oi := { dst := some 36, op := Op.nilCheck (Operand.tmp 35), type := 0, pos := "wheel.go:125", after := #[{ on := 1, ground := Ground.data }], guard := none }) (v := ?_) rfl (by kernel_rfl)  (by kernel_rfl) (by kernel_rfl) (by kernel_rfl) (fun _ _ _ h => h) (Or.inl ⟨by rfl, ?_⟩) (KA.out) ?_
    rotate_left
    · (intro w hSw; (try dsimp only at hSw); go_simp; try with_reducible rfl)
    simp only [Act.put, List.setIfInBounds_toArray, List.set_cons_zero, List.set_cons_succ]
    refine anyE_take (i := 3) (oi := { dst := some 37, op := Op.fieldAddr 61 (Operand.tmp 36) 3, type := 0, pos := "wheel.go:125", after := #[{ on := 2, ground := Ground.data }], guard := none }) (v := ?_) rfl (by kernel_rfl)  (by kernel_rfl) (by kernel_rfl) (by kernel_rfl) (fun _ _ _ h => h) (Or.inl ⟨by rfl, ?_⟩) (KA.out) ?_
    rotate_left
    · (intro w hSw; (try dsimp only at hSw); go_simp; try with_reducible rfl)
    simp only [Act.put, List.setIfInBounds_toArray, List.set_cons_zero, List.set_cons_succ]
    refine anyE_take (i := 4) (oi := { dst := some 38, op := Op.load 28 (Operand.tmp 37), type := 28, pos := "wheel.go:125", after := #[{ on := 3, ground := Ground.data }], guard := none }) (v := ?_) rfl (by kernel_rfl)  (by kernel_rfl) (by kernel_rfl) (by kernel_rfl) (fun _ _ _ h => h) (Or.inl ⟨by rfl, ?_⟩) (KA.out) ?_
    rotate_left
    · (intro w hSw; (try dsimp only at hSw); go_simp; try with_reducible rfl)
    simp only [Act.put, List.setIfInBounds_toArray, List.set_cons_zero, List.set_cons_succ]
    refine anyE_take (i := 5) (oi := { dst := some 39, op := Op.move (Operand.tmp 6), type := 3, pos := "wheel.go:125", after := #[], guard := none }) (v := ?_) rfl (by kernel_rfl)  (by kernel_rfl) (by kernel_rfl) (by kernel_rfl) (fun _ _ _ h => h) (Or.inl ⟨by rfl, ?_⟩) (KA.out) ?_
    rotate_left
    · (intro w hSw; (try dsimp only at hSw); go_simp; try with_reducible rfl)
    simp only [Act.put, List.setIfInBounds_toArray, List.set_cons_zero, List.set_cons_succ]
    refine anyE_take (i := 6) (oi := { dst := some 40, op := Op.load 33 (Operand.tmp 3), type := 33, pos := "wheel.go:125", after := #[], guard := none }) (v := ?_) rfl (by kernel_rfl)  (by kernel_rfl) (by kernel_rfl) (by kernel_rfl) (fun _ _ _ h => h) (Or.inl ⟨by rfl, ?_⟩) (KA.out) ?_
    rotate_left
    · (intro w hSw; (try dsimp only at hSw); go_simp; try with_reducible rfl)
    simp only [Act.put, List.setIfInBounds_toArray, List.set_cons_zero, List.set_cons_succ]
    refine anyE_ready (rs := [7]) (by kernel_rfl) (by simp) ?_
    refine AllE.cons (o := { dst := some 41, op := Op.buildSlice 28 1 #[(0, Operand.tmp 40)], type := 28, pos := "wheel.go:125", after := #[{ on := 6, ground := Ground.data }], guard := none }) rfl (fun Kt hKt => ?_) ?_
    · go_simp
      rw [HW2.out]
      refine hKt.out _ _ (fun _ => KB.out) ?_
      clear hKt Kt
      try simp only [Act.put, List.setIfInBounds_toArray, List.set_cons_zero, List.set_cons_succ]
      refine anyE_ready (rs := [8]) (by kernel_rfl) (by simp) ?_
      refine AllE.cons (o := { dst := some 42, op := Op.call { callee := Callee.value (Operand.func 34), args := #[Operand.tmp 38, Operand.tmp 39, Operand.tmp 41], argTypes := #[28, 3, 28] }, type := 28, pos := "wheel.go:125", after := #[{ on := 4, ground := Ground.data }, { on := 5, ground := Ground.data }, { on := 7, ground := Ground.data }], guard := none }) rfl (fun Kt hKt => ?_) ?_
      · go_simp
        (with_reducible refine Calls.mono I0.out ?_)
        rintro x_ w3 ⟨v', rfl, o3, g3, n3⟩
        obtain ⟨pa, pc, e3, -⟩ := o3.isL
        obtain ⟨pn, hpn⟩ : ∃ n, (insK far t).length = n := ⟨_, rfl⟩
        rw [hpn] at e3
        subst e3
        obtain ⟨y1, y2, y3⟩ := FN.out w3 _ o3 g3 n3
        have z2 := y1.1
        have Y3 : Aside (WGo w B M base hd now f n (PutP now D t u c far) (w3.setCell ⟨B, 262, none⟩ (.slice pa pn pc))) := y3
        clear o3 g3 n3 y3 FN I0 hpn
        dsimp only
        refine hKt.out _ _ (fun _ => y1) ?_
        clear hKt Kt
        try simp only [Act.put, List.setIfInBounds_toArray, List.set_cons_zero, List.set_cons_succ]
        refine anyF_take [10] (i := 9) (oi := { dst := some 43, op := Op.nilCheck (Operand.tmp 34), type := 0, pos := "wheel.go:125", after := #[{ on := 0, ground := Ground.data }, { on := 0, ground := Ground.phase }, { on := 1, ground := Ground.phase }, { on := 2, ground := Ground.phase }, { on := 3, ground := Ground.phase }, { on := 4, ground := Ground.phase }, { on := 5, ground := Ground.phase }, { on := 6, ground := Ground.phase }, { on := 7, ground := Ground.phase }, { on := 8, ground := Ground.phase }], guard := none }) (v := ?_) rfl (by kernel_rfl) (by kernel_rfl)  (by kernel_rfl) (by kernel_rfl) (by kernel_rfl) (fun _ _ _ h => h) (Or.inl ⟨by rfl, ?_⟩) (y1) ?_
        rotate_left
        · (intro w hSw; (try dsimp only at hSw); go_simp; try with_reducible rfl)
        simp only [Act.put, List.setIfInBounds_toArray, List.set_cons_zero, List.set_cons_succ]
        refine anyE_take (i := 10) (oi := { dst := some 44, op := Op.fieldAddr 61 (Operand.tmp 43) 3, type := 0, pos := "wheel.go:125", after := #[{ on := 9, ground := Ground.data }, { on := 0, ground := Ground.phase }, { on := 1, ground := Ground.phase }, { on := 2, ground := Ground.phase }, { on := 3, ground := Ground.phase }, { on := 4, ground := Ground.phase }, { on := 5, ground := Ground.phase }, { on := 6, ground := Ground.phase }, { on := 7, ground := Ground.phase }, { on := 8, ground := Ground.phase }], guard := none }) (v := ?_) rfl (by kernel_rfl)  (by kernel_rfl) (by kernel_rfl) (by kernel_rfl) (fun _ _ _ h => h) (Or.inl ⟨by rfl, ?_⟩) (y1) ?_
        rotate_left
        · (intro w hSw; (try dsimp only at hSw); go_simp; try with_reducible rfl)
        simp only [Act.put, List.setIfInBounds_toArray, List.set_cons_zero, List.set_cons_succ]
        refine anyE_ready (rs := [11]) (by kernel_rfl) (by simp) ?_
        refine AllE.cons (o := { dst := none, op := Op.store 28 (Operand.tmp 44) (Operand.tmp 42), type := 0, pos := "wheel.go:125", after := #[{ on := 10, ground := Ground.data }, { on := 8, ground := Ground.data }, { on := 8, ground := Ground.chain }, { on := 0, ground := Ground.phase }, { on := 1, ground := Ground.phase }, { on := 2, ground := Ground.phase }, { on := 3, ground := Ground.phase }, { on := 4, ground := Ground.phase }, { on := 5, ground := Ground.phase }, { on := 6, ground := Ground.phase }, { on := 7, ground := Ground.phase }, { on := 8, ground := Ground.phase }], guard := none }) rfl (fun Kt hKt => ?_) ?_
        · go_simp
          refine hKt.out _ _ (fun h => absurd rfl h) ?_
          clear hKt Kt
          try simp only [Act.put, List.setIfInBounds_toArray, List.set_cons_zero, List.set_cons_succ]
          refine anyE_done (by kernel_rfl) ?_ _
          go_wp2
          go_end0
          exact ⟨rfl, Y3.out⟩
        exact AllE.nil
      exact AllE.nil
    exact AllE.nil

/-- What a drop does to the lists. -/
def DropP (now D : Nat) (t : Ent) (u : Nat → Nat) (c : Nat → Nat → List Ent) (far : List Ent) (u' : Nat → Nat) (c' : Nat → Nat → List Ent) (far' : List Ent) : Prop :=
  ((plc now D).1 < 4 ∧ u' = lset u (plc now D).1 (dropU (u (plc now D).1) (plc now D).2 ((c (plc now D).1 (plc now D).2).erase t)) ∧ c' = cset c (plc now D).1 (plc now D).2 ((c (plc now D).1 (plc now D).2).erase t) ∧ far' = far) ∨
  (4 ≤ (plc now D).1 ∧ u' = u ∧ c' = c ∧ far' = far.erase t)
theorem dropU_lt (u s : Nat) (d : List Ent) (hu : u < B64) : dropU u s d < B64 := by
  unfold dropU
  split
  · exact clr_lt _ _ hu
  · exact hu

set_option maxHeartbeats 4000000 in
set_option maxRecDepth 100000 in
theorem drop_any (w : World) (B M base now n D : Nat) (hd : Nat → Value) (u : Nat → Nat) (c : Nat → Nat → List Ent) (far : List Ent) (f : Int → Option Int) (t : Ent) (h : WhA w B M base hd now u c far f n) (htD : t.1 = (D : Int)) (hD : D < B64) (hin : (plc now D).1 < 4 → (c (plc now D).1 (plc now D).2).Nodup ∧ t ∈ c (plc now D).1 (plc now D).2) (hif : 4 ≤ (plc now D).1 → far.Nodup ∧ t ∈ far) :
    Calls Tryd.prog 26 #[.pointer (some ⟨B, 0, none⟩), .agg #[.int .u64 t.1, .int .i64 t.2]] w fun e w' => e = .returned (.tuple #[]) ∧ WGo w B M base hd now f n (DropP now D t u c far) w' := by
  obtain ⟨S, hS⟩ : ∃ S, w.heap.size = S := ⟨_, rfl⟩
  obtain ⟨u0, hu0⟩ : ∃ u0, w.alloc (.cells #[.int .u64 t.1, .int .i64 t.2] 33) = u0 := ⟨_, rfl⟩
  have b0 : Below w.heap.size w u0 := by rw [← hu0]; exact (Below.refl _ _).alloc (Nat.le_refl _) _
  have h0 : WhA u0 B M base hd now u c far f n := h.fr (Fr.below (X := fun _ => False) b0) (fun _ _ => id)
  have z0 : u0.cell? ⟨S, 0, none⟩ = some (.int .u64 t.1) := by rw [← hu0, ← hS]; simp [go_sem]
  have z1 : u0.cell? ⟨S, 1, none⟩ = some (.int .i64 t.2) := by rw [← hu0, ← hS]; simp [go_sem]
  have s0 : S < u0.heap.size := by rw [← hu0, ← hS]; simp
  have hSu : u0.heap.size = S + 1 := by rw [← hu0, ← hS]; simp
  have c0 := h0.head.cell (k := 0) (by omega)
  rw [h.h0] at c0
  have pl := place_any B now D h.nb hD u0 c0
  rw [← htD] at pl
  have HU0 : Hid _ := hu0
  obtain ⟨L, hL⟩ : ∃ L, (plc now D).1 = L := ⟨_, rfl⟩
  obtain ⟨Z, hZ⟩ : ∃ Z, (plc now D).2 = Z := ⟨_, rfl⟩
  have hZ64 : Z < 64 := by rw [← hZ]; exact slt_lt' now D
  rw [hL, hZ] at pl hin
  rw [hL] at hif
  have b0d : Below w.heap.size w u0.drew := b0.drew
  have h0d : WhA u0.drew B M base hd now u c far f n := h.fr (Fr.below (X := fun _ => False) b0d) (fun _ _ => id)
  by_cases hl4 : L < 4
  · have hl4z : (L : Int) < 4 := by omega
    obtain ⟨hnd, hmem⟩ := hin hl4
    have rp := rdrop_any B (2 + L * 65) Z base (u L) hd _ (c L Z) t u0.drew h0d.head (by omega) hZ64 (h.hu L hl4) (h.ub L hl4) rfl (h0d.slot L Z hl4 hZ64) hnd hmem
    have RP : Aside (Calls Tryd.prog 43 #[.pointer (some ⟨B, 2 + L * 65, none⟩), .int .i64 Z, .agg #[.int .u64 t.1, .int .i64 t.2]] u0.drew fun e w' => e = .returned (.tuple #[]) ∧ WGo w B M base hd now f n (DropP now D t u c far) w' ∧ w'.cell? ⟨S, 0, none⟩ = some (.int .u64 t.1) ∧ w'.cell? ⟨S, 1, none⟩ = some (.int .i64 t.2)) := by
      refine Calls.mono rp ?_
      rintro e w' ⟨rfl, v', q1, q2, q3, q4⟩
      have qS : w'.heap[S]? = u0.drew.heap[S]? := q3.block S s0 (fun hx => by rcases hx with hx | hx; exact absurd h.head.lt (by omega); exact absurd (h.rowLt (by omega) hx).2.1 (by omega))
      refine ⟨rfl, ⟨_, _, _, _, h0d.slotSet hl4 hZ64 q1 q2 q3 (fun k hk => .inl (q4 k hk)) (dropU_lt _ _ _ (h.ub L hl4)), .inl ⟨by rw [hL]; exact hl4, by rw [hL, hZ], by rw [hL, hZ], rfl⟩, ?_, fun k hk => ?_⟩, (World.cell?_of_block (a := ⟨S, 0, none⟩) qS).trans z0, (World.cell?_of_block (a := ⟨S, 1, none⟩) qS).trans z1⟩
      · exact (Fr.below b0d).trans q3 (fun j hj => .inl (foot_row (by omega) hj))
      · rcases foot_slot (w := u0.drew) hl4 hZ64 (fun k hk => .inl (q4 k hk)) k hk with x | x
        · exact .inl x
        · right; have : u0.drew.heap.size = u0.heap.size := rfl; omega
    have K0 : Aside (u0.drew.cell? ⟨S, 0, none⟩ = some (.int .u64 t.1) ∧ u0.drew.cell? ⟨S, 1, none⟩ = some (.int .i64 t.2)) := ⟨z0, z1⟩
    have mx := mixed
    clear h b0 h0 c0 hu0 b0d h0d rp hL hZ hD htD hin hif hnd hmem
    go_enter Tryd.func26, Tryd.ntmps26
    go_upto_region 1 with fail
    rw [HU0.out]
    go_wp2_with (go_at_call 31; refine pl.mono ?_; rintro e w' ⟨rfl, hw'⟩; obtain rfl : u0 = w' := hw'.symm)
    go_region_held3 (fun W => W.cell? ⟨S, 0, none⟩ = some (.int .u64 t.1) ∧ W.cell? ⟨S, 1, none⟩ = some (.int .i64 t.2)) (first | with_reducible exact K0.out | with_reducible exact G2) ((first | (go_at_call 43; (with_reducible refine Calls.mono RP.out ?_); rintro e w1 ⟨rfl, G1, G2⟩)))
    have G1' : Aside (WGo w B M base hd now f n (DropP now D t u c far) w1) := G1
    clear G1 G2
    go_wp2
    refine bodyPost_ret (results_none rfl _ _ _) rfl ⟨rfl, G1'.out⟩
  · have hl4z : ¬ (L : Int) < 4 := by omega
    obtain ⟨hnd, hmem⟩ := hif (by omega)
    obtain ⟨va, vc, e0, -, hvc, hvm, hsL⟩ := h0d.far.isL
    obtain ⟨vn, hvn⟩ : ∃ n, far.length = n := ⟨_, rfl⟩
    have c2 := h0d.head.cell (k := 262) (by omega)
    have wo := without_any (hd 262) base far t u0.drew h0d.far hnd hmem
    rw [hvn] at e0
    have KA : Aside (u0.drew.cell? ⟨B, 262, none⟩ = some (.slice va vn vc) ∧ u0.drew.cell? ⟨S, 0, none⟩ = some (.int .u64 t.1) ∧ u0.drew.cell? ⟨S, 1, none⟩ = some (.int .i64 t.2)) := ⟨by rw [c2, e0], z0, z1⟩
    have I0 : Aside (Calls Tryd.prog 44 #[.slice va vn vc, .agg #[.int .u64 t.1, .int .i64 t.2]] u0.drew fun r w' => ∃ v', r = .returned v' ∧ OwnF w' base v' (far.erase t) ∧ rowB v' = rowB (hd 262) ∧ u0.drew.grownBy w' (rowB (hd 262))) := by rw [← e0]; exact wo
    have FN : Aside (∀ w2 v', OwnF w2 base v' (far.erase t) → rowB v' = rowB (hd 262) → u0.drew.grownBy w2 (rowB (hd 262)) → (w2.cell? ⟨B, 262, none⟩ = some (.slice va vn vc) ∧ w2.cell? ⟨S, 0, none⟩ = some (.int .u64 t.1) ∧ w2.cell? ⟨S, 1, none⟩ = some (.int .i64 t.2)) ∧ w2.frozen? ⟨B, 262, none⟩ = false ∧ WGo w B M base hd now f n (DropP now D t u c far) (w2.setCell ⟨B, 262, none⟩ v')) := by
      intro w2 v' o2 r2 g2
      have nB : rowB (hd 262) ≠ some B := fun e => (h0.rowLt (by omega) e).2.2.1 rfl
      have nS : rowB (hd 262) ≠ some S := fun e => by have := (h.rowLt (by omega) e).2.1; omega
      have hh2 : Hd w2 B hd := h0d.head.of_block (g2.block B h0d.head.lt (fun e => nB e.symm))
      have f2 : Fr (fun k => k = B ∨ rowB (hd 262) = some k) u0.drew (w2.setCell ⟨B, 262, none⟩ v') := ((Fr.of_grown g2).mono (fun j hj => .inr hj)).trans (Fr.setCell (fun k => k = B ∨ rowB (hd 262) = some k) _ _ _ _ (.inl rfl)) (fun j hj => .inl hj)
      have n2 : ∀ k, rowB v' = some k → rowB (hd 262) = some k ∨ u0.drew.heap.size ≤ k := fun k hk => .inl (by rw [← r2]; exact hk)
      refine ⟨⟨g2.cell KA.out.1 (fun e => nB e.symm), g2.cell KA.out.2.1 (fun e => nS e.symm), g2.cell KA.out.2.2 (fun e => nS e.symm)⟩, hh2.frozen _, _, _, _, _, h0d.farSet (hh2.set 262 v') (o2.of_block fun k hk => heap_setCell_other _ _ _ _ (fun e => nB (by rw [← r2, hk, e]))) f2 n2, .inr ⟨by rw [hL]; omega, rfl, rfl, rfl⟩, (Fr.below b0d).trans f2 (fun j hj => .inl (foot_row (by omega) hj)), fun k hk => ?_⟩
      rcases foot_far (w := u0.drew) n2 k hk with x | x
      · exact .inl x
      · right; have : u0.drew.heap.size = u0.heap.size := rfl; omega
    have mx := mixed
    clear h b0 h0 c0 hu0 b0d h0d hL hZ hD htD hsL c2 hvc hvm e0 hvn hl4 hin hif hnd hmem wo
    go_enter Tryd.func26, Tryd.ntmps26
    go_upto_region 1 with fail
    rw [HU0.out]
    go_wp2_with (go_at_call 31; refine pl.mono ?_; rintro e w' ⟨rfl, hw'⟩; obtain rfl : u0 = w' := hw'.symm)
    refine anyE_start (S := (fun v0 => v0.cell? ⟨B, 262, none⟩ = some (.slice va vn vc) ∧ v0.cell? ⟨S, 0, none⟩ = some (.int .u64 t.1) ∧ v0.cell? ⟨S, 1, none⟩ = some (.int .i64 t.2))) (L := 9) (by kernel_rfl) ?_
    refine anyE_take (i := 0) (oi := { dst := some 23, op := Op.move (Operand.tmp 0), type := 23, pos := "wheel.go:135", after := #[], guard := none }) (v := ?_) rfl (by kernel_rfl)  (by kernel_rfl) (by kernel_rfl) (by kernel_rfl) (fun _ _ _ h => h) (Or.inl ⟨by rfl, ?_⟩) (KA.out) ?_
    rotate_left
    · (intro w hSw; (try dsimp only at hSw); go_simp; try with_reducible rfl)
    simp only [Act.put, List.setIfInBounds_toArray, List.set_cons_zero, List.set_cons_succ]
    refine anyE_take (i := 1) (oi := { dst := some 24, op := Op.move (Operand.tmp 0), type := 23, pos := "wheel.go:135", after := #[], guard := none }) (v := ?_) rfl (by kernel_rfl)  (by kernel_rfl) (by kernel_rfl) (by kernel_rfl) (fun _ _ _ h => h) (Or.inl ⟨by rfl, ?_⟩) (KA.out) ?_
    rotate_left
    · (intro w hSw; (try dsimp only at hSw); go_simp; try with_reducible rfl)
    simp only [Act.put, List.setIfInBounds_toArray, List.set_cons_zero, List.set_cons_succ]
    refine anyE_take (i := 2) (oi := { dst := some 25, op := Op.nilCheck (Operand.tmp 24), type := 0, pos := "wheel.go:135", after := #[{ on := 1, ground := Ground.data }], guard := none }) (v := ?_) rfl (by kernel_rfl)  (by kernel_rfl) (by kernel_rfl) (by kernel_rfl) (fun _ _ _ h => h) (Or.inl ⟨by rfl, ?_⟩) (KA.out) ?_
    rotate_left
    · (intro w hSw; (try dsimp only at hSw); go_simp; try with_reducible rfl)
    simp only [Act.put, List.setIfInBounds_toArray, List.set_cons_zero, List.set_cons_succ]
    refine anyE_take (i := 3) (oi := { dst := some 26, op := Op.fieldAddr 61 (Operand.tmp 25) 3, type := 0, pos := "wheel.go:135", after := #[{ on := 2, ground := Ground.data }], guard := none }) (v := ?_) rfl (by kernel_rfl)  (by kernel_rfl) (by kernel_rfl) (by kernel_rfl) (fun _ _ _ h => h) (Or.inl ⟨by rfl, ?_⟩) (KA.out) ?_
    rotate_left
    · (intro w hSw; (try dsimp only at hSw); go_simp; try with_reducible rfl)
    simp only [Act.put, List.setIfInBounds_toArray, List.set_cons_zero, List.set_cons_succ]
    refine anyE_take (i := 4) (oi := { dst := some 27, op := Op.load 28 (Operand.tmp 26), type := 28, pos := "wheel.go:135", after := #[{ on := 3, ground := Ground.data }], guard := none }) (v := ?_) rfl (by kernel_rfl)  (by kernel_rfl) (by kernel_rfl) (by kernel_rfl) (fun _ _ _ h => h) (Or.inl ⟨by rfl, ?_⟩) (KA.out) ?_
    rotate_left
    · (intro w hSw; (try dsimp only at hSw); go_simp; try with_reducible rfl)
    simp only [Act.put, List.setIfInBounds_toArray, List.set_cons_zero, List.set_cons_succ]
    refine anyE_take (i := 5) (oi := { dst := some 28, op := Op.load 33 (Operand.tmp 3), type := 33, pos := "wheel.go:135", after := #[], guard := none }) (v := ?_) rfl (by kernel_rfl)  (by kernel_rfl) (by kernel_rfl) (by kernel_rfl) (fun _ _ _ h => h) (Or.inl ⟨by rfl, ?_⟩) (KA.out) ?_
    rotate_left
    · (intro w hSw; (try dsimp only at hSw); go_simp; try with_reducible rfl)
    simp only [Act.put, List.setIfInBounds_toArray, List.set_cons_zero, List.set_cons_succ]
    refine anyE_ready (rs := [6]) (by kernel_rfl) (by simp) ?_
    refine AllE.cons (o := { dst := some 29, op := Op.call { callee := Callee.value (Operand.func 44), args := #[Operand.tmp 27, Operand.tmp 28], argTypes := #[28, 33] }, type := 28, pos := "wheel.go:135", after := #[{ on := 4, ground := Ground.data }, { on := 5, ground := Ground.data }], guard := none }) rfl (fun Kt hKt => ?_) ?_
    · go_simp
      (with_reducible refine Calls.mono I0.out ?_)
      rintro x_ w3 ⟨v', rfl, o3, r3, g3⟩
      obtain ⟨pa, pc, e3, -⟩ := o3.isL
      obtain ⟨pn, hpn⟩ : ∃ n, (far.erase t).length = n := ⟨_, rfl⟩
      rw [hpn] at e3
      subst e3
      obtain ⟨y1, y2, y3⟩ := FN.out w3 _ o3 r3 g3
      have z2 := y1.1
      have Y3 : Aside (WGo w B M base hd now f n (DropP now D t u c far) (w3.setCell ⟨B, 262, none⟩ (.slice pa pn pc))) := y3
      clear o3 g3 r3 y3 FN I0 hpn
      dsimp only
      refine hKt.out _ _ (fun _ => y1) ?_
      clear hKt Kt
      try simp only [Act.put, List.setIfInBounds_toArray, List.set_cons_zero, List.set_cons_succ]
      refine anyF_take [8] (i := 7) (oi := { dst := some 30, op := Op.nilCheck (Operand.tmp 23), type := 0, pos := "wheel.go:135", after := #[{ on := 0, ground := Ground.data }, { on := 0, ground := Ground.phase }, { on := 1, ground := Ground.phase }, { on := 2, ground := Ground.phase }, { on := 3, ground := Ground.phase }, { on := 4, ground := Ground.phase }, { on := 5, ground := Ground.phase }, { on := 6, ground := Ground.phase }], guard := none }) (v := ?_) rfl (by kernel_rfl) (by kernel_rfl)  (by kernel_rfl) (by kernel_rfl) (by kernel_rfl) (fun _ _ _ h => h) (Or.inl ⟨by rfl, ?_⟩) (y1) ?_
      rotate_left
      · (intro w hSw; (try dsimp only at hSw); go_simp; try with_reducible rfl)
      simp only [Act.put, List.setIfInBounds_toArray, List.set_cons_zero, List.set_cons_succ]
      refine anyE_take (i := 8) (oi := { dst := some 31, op := Op.fieldAddr 61 (Operand.tmp 30) 3, type := 0, pos := "wheel.go:135", after := #[{ on := 7, ground := Ground.data }, { on := 0, ground := Ground.phase }, { on := 1, ground := Ground.phase }, { on := 2, ground := Ground.phase }, { on := 3, ground := Ground.phase }, { on := 4, ground := Ground.phase }, { on := 5, ground := Ground.phase }, { on := 6, ground := Ground.phase }], guard := none }) (v := ?_) rfl (by kernel_rfl)  (by kernel_rfl) (by kernel_rfl) (by kernel_rfl) (fun _ _ _ h => h) (Or.inl ⟨by rfl, ?_⟩) (y1) ?_
      rotate_left
      · (intro w hSw; (try dsimp only at hSw); go_simp; try with_reducible rfl)
      simp only [Act.put, List.setIfInBounds_toArray, List.set_cons_zero, List.set_cons_succ]
      refine anyE_ready (rs := [9]) (by kernel_rfl) (by simp) ?_
      refine AllE.cons (o := { dst := none, op := Op.store 28 (Operand.tmp 31) (Operand.tmp 29), type := 0, pos := "wheel.go:135", after := #[{ on := 8, ground := Ground.data }, { on := 6, ground := Ground.data }, { on := 6, ground := Ground.chain }, { on := 0, ground := Ground.phase }, { on := 1, ground := Ground.phase }, { on := 2, ground := Ground.phase }, { on := 3, ground := Ground.phase }, { on := 4, ground := Ground.phase }, { on := 5, ground := Ground.phase }, { on := 6, ground := Ground.phase }], guard := none }) rfl (fun Kt hKt => ?_) ?_
      · go_simp
        refine hKt.out _ _ (fun h => absurd rfl h) ?_
        clear hKt Kt
        try simp only [Act.put, List.setIfInBounds_toArray, List.set_cons_zero, List.set_cons_succ]
        refine anyE_done (by kernel_rfl) ?_ _
        go_wp2
        go_end0
        exact ⟨rfl, Y3.out⟩
      exact AllE.nil
    exact AllE.nil

end Go.Proofs.YtbopobgnmkhabaaDoor
