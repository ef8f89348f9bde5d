/- The document's Rising: contract. -/
import Derived.Test.YthpdnlokjhafeaaDrI
import Derived.Deep.CutBlock
import Derived.Deep.DeepCutAuto
namespace Go.Proofs.Ythpdnlokjhafeaa
open Go.RowKit Go.Lib
set_option linter.unusedVariables false
variable {w : World} {a : Option Addr} {cap : Nat} {d : List Int}
theorem ins_up {r : List Int} (h : Up r) {K : Nat} {x : Int} (h1 : ∀ j, j < K → r.getD j 0 < x) (h2 : K < r.length → x < r.getD K 0) (hK : K ≤ r.length) : Up (r.take K ++ [x] ++ r.drop K) := by
  have lo : ∀ y ∈ r.take K, y < x := fun y hy => by
    obtain ⟨j, hj, rfl⟩ := List.getElem_of_mem hy
    have hj' : j < K := by simp at hj; omega
    have := h1 j hj'
    rw [List.getD, List.getElem?_eq_getElem (by omega)] at this
    simpa using this
  have hi : ∀ y ∈ r.drop K, x < y := fun y hy => by
    obtain ⟨j, hj, rfl⟩ := List.getElem_of_mem hy
    have hj' : K + j < r.length := by simp at hj; omega
    have hK' : K < r.length := by omega
    have q := h2 hK'
    rw [List.getD, List.getElem?_eq_getElem hK'] at q
    rw [List.getElem_drop]
    by_cases c : j = 0
    · subst c; simpa using q
    · have := List.pairwise_iff_getElem.1 h K (K + j) hK' hj' (by omega)
      simp at q
      omega
  refine List.pairwise_append.2 ⟨List.pairwise_append.2 ⟨h.sublist (List.take_sublist _ _), by simp, fun y hy z hz => ?_⟩, h.sublist (List.drop_sublist _ _), fun y hy z hz => ?_⟩
  · simp at hz; rw [hz]; exact lo y hy
  · rcases List.mem_append.1 hy with hy | hy
    · have := lo y hy; have := hi z hz; omega
    · simp at hy; rw [hy]; exact hi z hz
set_option maxHeartbeats 8000000 in
set_option maxRecDepth 100000 in
theorem vrising_any (h : IsI w a cap d) (hl : d.length ≤ 5000) : Calls Try.prog 29 #[.slice a d.length cap] w fun e w' => ∃ v r, e = .returned v ∧ OwnI w' w.heap.size v r ∧ Up r ∧ (∀ x, x ∈ r ↔ x ∈ d) ∧ r.length ≤ d.length ∧ Below w.heap.size w w' := by
  obtain ⟨n, hn⟩ : ∃ n, d.length = n := ⟨_, rfl⟩
  rw [hn] at hl ⊢
  obtain ⟨S, hS⟩ : ∃ S, w.heap.size = S := ⟨_, rfl⟩
  have H : Aside (IsI w a cap d) := h
  clear h
  go_enter Try.func29, Try.ntmps29
  go_wp2_with fail
  go_loopw [3, 4] (fun s3 s4 wr => ∃ (I : Nat) (ao : Option Addr) (co : Nat) (r : List Int), I ≤ n ∧ s4 = .int .i64 I ∧ s3 = .slice ao r.length co ∧ ((ao = none ∧ co = 0 ∧ r = []) ∨ ∃ g, ao = some ⟨g, 0, none⟩) ∧ Up r ∧ (∀ x, x ∈ r ↔ x ∈ d.take I) ∧ r.length ≤ I ∧ OwnI wr S (.slice ao r.length co) r ∧ Below S w wr) (fun _ i _ => n - (intOf i).toNat)
  case atStart => exact ⟨0, none, 0, [], by omega, rfl, rfl, .inl ⟨rfl, rfl, rfl⟩, by simp, fun x => by simp, by simp, OwnI.nil _ _, Below.refl _ _⟩
  case round =>
    obtain ⟨I, ao, co, r, hI, rfl, rfl, shape, ur, mr, lr, OW, BW⟩ := hrel
    obtain ⟨m, hm⟩ : ∃ m, r.length = m := ⟨_, rfl⟩
    rw [hm] at OW lr ⊢
    by_cases c : I < n
    · obtain ⟨gl, ol, rfl, gll0, cl0⟩ := H.out.at (j := I) (by omega)
      obtain ⟨x, hx⟩ : ∃ x, d.getD I 0 = x := ⟨_, rfl⟩
      rw [hx] at cl0
      have HS : Aside (OwnI wr S (.slice ao m co) r ∧ Below S w wr) := ⟨OW, BW⟩
      have HX : Hid _ := hx
      have MR : Aside (∀ x, x ∈ r ↔ x ∈ d.take I) := mr
      clear OW BW hx mr
      go_wp2_with fail
      go_loopw [5] (fun s5 wr => ∃ K : Nat, K ≤ m ∧ s5 = .int .i64 K ∧ OwnI wr S (.slice ao m co) r ∧ Below S w wr ∧ ∀ j, j < K → r.getD j 0 < x) (fun i _ => m - (intOf i).toNat)
      case atStart => exact ⟨0, by omega, rfl, HS.out.1, HS.out.2, fun j hj => by omega⟩
      case round =>
        obtain ⟨K, hK, rfl, OW, BW, lo⟩ := hrel
        have SZ : S ≤ wr.heap.size := by have := BW.size; omega
        have gll : gl < wr.heap.size := by have := BW.size; omega
        have cl : wr.cell? ⟨gl, ol + I, none⟩ = some (.int .i64 x) := by rw [← cl0]; exact BW.cell (p := ⟨gl, ol + I, none⟩) (by show gl < S; omega)
        have wx : ∀ nq, Below wr.heap.size wr (wr.drewN nq) := fun nq => below_drewN _ _
        have NXT : Aside (∀ nq, OwnI (wr.drewN nq) S (.slice ao m co) r ∧ Below S w (wr.drewN nq)) := fun nq => ⟨OW.below (wx nq), BW.trans ((wx nq).mono SZ)⟩
        have LO : Aside (∀ j, j < K → r.getD j 0 < x) := lo
        by_cases cK : K < m
        · obtain ⟨g, off, e0, cy⟩ := OW.get hm (I := K) (by omega)
          obtain ⟨y, hy⟩ : ∃ y, r.getD K 0 = y := ⟨_, rfl⟩
          rw [hy] at cy
          have HY : Hid _ := hy
          have g1 : decide (K < m) = true := decide_eq_true cK
          by_cases cy1 : y < x
          · have g2 : decide (y < x) = true := decide_eq_true cy1
            clear OW BW lo hy wx
            subst e0
            go_wp2_with fail
            go_quiet (fail)
            go_wp2_with fail
            go_roundw
            case rel =>
              refine ⟨K + 1, by omega, by go_num, ?_, (NXT.out _).2, fun j hj => ?_⟩
              · exact (NXT.out _).1
              · by_cases e : j = K
                · subst e; rw [HY.out]; exact cy1
                · exact LO.out j (by omega)
            case measure => simp [intOf]; omega
          · by_cases ce : y = x
            · have g2 : decide (y < x) = false := decide_eq_false (by omega)
              have g3 : ((K : Int) == (m : Int)) = false := by simp; omega
              have ex : x ∈ r := by rw [← ce, ← HY.out]; exact getD_mem (by omega)
              subst e0
              have glt : g < wr.heap.size := (OW.rowLt rfl).2
              have OW0 : Aside (OwnI wr S (.slice (some ⟨g, off, none⟩) m co) r ∧ Below S w wr) := ⟨OW, BW⟩
              clear OW BW lo hy wx NXT HS
              rw [ce] at cy g2
              clear HY ce cy1
              go_wp2_with fail
              go_quiet (fail)
              obtain ⟨W1, hW1⟩ : ∃ W1, wr.drewN nq = W1 := ⟨_, rfl⟩
              have q1 : Below wr.heap.size wr W1 := by rw [← hW1]; exact below_drewN _ _
              rw [hW1]
              have OW1 := OW0.out.1.below q1
              have BW1 : Below S w W1 := OW0.out.2.trans (q1.mono SZ)
              have SZ1 : S ≤ W1.heap.size := by have := q1.size; omega
              have cl1 : W1.cell? ⟨gl, ol + I, none⟩ = some (.int .i64 x) := by rw [← cl]; exact q1.cell (p := ⟨gl, ol + I, none⟩) gll
              have gll1 : gl < W1.heap.size := by have := q1.size; omega
              have cy1 : W1.cell? ⟨g, off + K, none⟩ = some (.int .i64 x) := by rw [← cy]; exact q1.cell (p := ⟨g, off + K, none⟩) glt
              have OW1' : Aside (OwnI W1 S (.slice (some ⟨g, off, none⟩) m co) r ∧ Below S w W1) := ⟨OW1, BW1⟩
              clear OW1 BW1 q1 hW1
              go_wp2_with fail
              go_quiet (fail)
              obtain ⟨W2, hW2⟩ : ∃ W2, W1.drewN nq = W2 := ⟨_, rfl⟩
              have q2 : Below W1.heap.size W1 W2 := by rw [← hW2]; exact below_drewN _ _
              rw [hW2]
              have OW := OW1'.out.1.below q2
              have BW : Below S w W2 := OW1'.out.2.trans (q2.mono SZ1)
              have SZ2 : S ≤ W2.heap.size := by have := q2.size; omega
              have cl2 : W2.cell? ⟨gl, ol + I, none⟩ = some (.int .i64 x) := by rw [← cl1]; exact q2.cell (p := ⟨gl, ol + I, none⟩) gll1
              have gll2 : gl < W2.heap.size := by have := q2.size; omega
              clear q2 hW2 OW1'
              have NX : Aside (Up r ∧ (∀ z, z ∈ r ↔ z ∈ d.take (I + 1)) ∧ r.length ≤ I + 1 ∧ OwnI W2 S (.slice (some ⟨g, off, none⟩) r.length co) r ∧ Below S w W2) := by
                refine ⟨ur, fun z => ?_, by omega, by rw [hm]; exact OW, BW⟩
                rw [mem_take_up (by omega), HX.out, ← MR.out]
                constructor
                · exact .inl
                · rintro (h | h)
                  · exact h
                  · rw [h]; exact ex
              clear OW BW
              go_wp2_with fail
              go_roundw
              case rel => exact ⟨I + 1, _, co, r, by omega, by go_num, by rw [hm], shape, NX.out⟩
              case measure => simp [intOf]; omega
            · have g2 : decide (y < x) = false := decide_eq_false (by omega)
              have g3 : ((K : Int) == (m : Int)) = false := by simp; omega
              have g4 : (y != x) = true := by simp; omega
              have insUp : Aside (Up (r.take K ++ [x] ++ r.drop K)) := ins_up ur lo (fun _ => by rw [HY.out]; omega) (by omega)
              obtain ⟨g0, hg0⟩ : ∃ g0, ao = some ⟨g0, 0, none⟩ := by
                rcases shape with ⟨h, _⟩ | h
                · rw [h] at e0; cases e0
                · exact h
              rw [hg0] at e0
              simp only [Option.some.injEq, Addr.mk.injEq, and_true] at e0
              obtain ⟨rfl, rfl⟩ := e0
              subst hg0
              have glt : g0 < wr.heap.size := (OW.rowLt rfl).2
              have OW0 : Aside (OwnI wr S (.slice (some ⟨g0, 0, none⟩) m co) r ∧ Below S w wr) := ⟨OW, BW⟩
              clear OW BW lo hy wx NXT HS
              rw [Nat.zero_add] at cy
              go_wp2_with fail
              go_quiet (fail)
              obtain ⟨W1, hW1⟩ : ∃ W1, wr.drewN nq = W1 := ⟨_, rfl⟩
              have q1 : Below wr.heap.size wr W1 := by rw [← hW1]; exact below_drewN _ _
              rw [hW1]
              have OW1 := OW0.out.1.below q1
              have BW1 : Below S w W1 := OW0.out.2.trans (q1.mono SZ)
              have SZ1 : S ≤ W1.heap.size := by have := q1.size; omega
              have cl1 : W1.cell? ⟨gl, ol + I, none⟩ = some (.int .i64 x) := by rw [← cl]; exact q1.cell (p := ⟨gl, ol + I, none⟩) gll
              have gll1 : gl < W1.heap.size := by have := q1.size; omega
              have cy1 : W1.cell? ⟨g0, K, none⟩ = some (.int .i64 y) := by rw [← cy]; exact q1.cell (p := ⟨g0, K, none⟩) glt
              have OW1' : Aside (OwnI W1 S (.slice (some ⟨g0, 0, none⟩) m co) r ∧ Below S w W1) := ⟨OW1, BW1⟩
              clear OW1 BW1 q1 hW1
              go_wp2_with fail
              go_quiet (fail)
              obtain ⟨W2, hW2⟩ : ∃ W2, W1.drewN nq = W2 := ⟨_, rfl⟩
              have q2 : Below W1.heap.size W1 W2 := by rw [← hW2]; exact below_drewN _ _
              rw [hW2]
              have OW := OW1'.out.1.below q2
              have BW : Below S w W2 := OW1'.out.2.trans (q2.mono SZ1)
              have SZ2 : S ≤ W2.heap.size := by have := q2.size; omega
              have cl2 : W2.cell? ⟨gl, ol + I, none⟩ = some (.int .i64 x) := by rw [← cl1]; exact q2.cell (p := ⟨gl, ol + I, none⟩) gll1
              have gll2 : gl < W2.heap.size := by have := q2.size; omega
              clear q2 hW2 OW1'
              have QI := OW
              rw [← hm] at QI
              have QI := QI.isIv
              have cco : K < co := by have := QI.le; omega
              have cle : K ≤ co := by omega
              have cne : ¬ co = K := by omega
              have cbig : co ≤ 9223372036854775807 := by have := QI.big; unfold maxLen at this; omega
              have hx := HX.out
              have mr := MR.out
              have OP := QI.take K
              have OR := QI.drop K (by omega)
              rw [if_neg (by omega), Option.map_some, Addr.add_lit, Nat.zero_add] at OR
              have hlP : (r.take K).length = K := by simp <;> omega
              have hlR : (r.drop K).length = (m - K) := by simp <;> omega
              obtain ⟨t, -⟩ := tyI
              have rP := OP.rd
              have rR := OR.rd
              rw [hlP] at rP
              rw [hlR] at rR
              have zsz : W2.drew.heap.size = W2.heap.size := rfl
              have bZ : Below W2.heap.size W2 W2.drew := (Below.refl _ _).drew
              have fin : ∀ (z3 : World) (v3 : Value), z3.ownsRow W2.drew.heap.size 3 1 v3 (K + 1 + (m - K)) (cz (r.take K) ++ cz [x] ++ cz (r.drop K)) → Below W2.drew.heap.size W2.drew z3 → ∃ (ao' : Option Addr) (co' : Nat) (r' : List Int), v3 = .slice ao' r'.length co' ∧ ((ao' = none ∧ co' = 0 ∧ r' = []) ∨ ∃ g, ao' = some ⟨g, 0, none⟩) ∧ Up r' ∧ (∀ x, x ∈ r' ↔ x ∈ d.take (I + 1)) ∧ r'.length ≤ I + 1 ∧ OwnI z3 S (.slice ao' r'.length co') r' ∧ Below S w z3 := fun z3 v3 o3 b3 => by
                have hK' : K ≤ r.length := by omega
                have el : (r.take K ++ [x] ++ r.drop K).length = K + 1 + (m - K) := by simp <;> omega
                have oo : OwnI z3 S v3 (r.take K ++ [x] ++ r.drop K) := by
                  have : OwnI z3 W2.drew.heap.size v3 (r.take K ++ [x] ++ r.drop K) := by
                    unfold OwnI
                    rw [el, cz, List.map_append, List.map_append]
                    exact o3
                  exact this.low (by omega)
                obtain ⟨g, c, e⟩ := oo.addr (by simp)
                subst e
                refine ⟨_, c, _, rfl, .inr ⟨g, rfl⟩, ?_, fun y => ?_, ?_, oo, BW.trans ((bZ.trans (b3.mono (by omega))).mono SZ2)⟩
                · exact insUp.out
                · rw [mem_take_up (by omega), hx, ← mr, List.append_assoc, List.mem_append, List.mem_append, List.mem_singleton]
                  have : y ∈ r ↔ y ∈ r.take K ∨ y ∈ r.drop K := by rw [← List.mem_append, List.take_append_drop]
                  rw [this]
                  constructor
                  · rintro (h | h | h)
                    · exact .inl (.inl h)
                    · exact .inr h
                    · exact .inl (.inr h)
                  · rintro ((h | h) | h)
                    · exact .inl h
                    · exact .inr (.inr h)
                    · exact .inr (.inl h)
                · rw [el]; omega
              have A := ins3A (cP := co) (cR := (co - K)) (Q := cz [x]) t W2.drew 24 (rP.below bZ) (rR.below bZ) rfl (cz_one _) (by omega)
              have Bb := ins3B (cP := co) (cR := (co - K)) (Q := cz [x]) t W2.drew 24 (rP.below bZ) (rR.below bZ) rfl (cz_one _) (by omega)
              have C := ins3C (cP := co) (cR := (co - K)) (Q := cz [x]) t W2.drew 24 (rP.below bZ) (rR.below bZ) rfl (cz_one _) (by omega)
              obtain ⟨v1a, z1a, v2a, z2a, v3a, z3a, r1a, b1a, r2a, b2a, r3a, o3a, b3a⟩ := A
              obtain ⟨v1b, z1b, v2b, z2b, v3b, z3b, r1b, b1b, r2b, b2b, r3b, o3b, b3b⟩ := Bb
              obtain ⟨v1c, z1c, v2c, z2c, v3c, z3c, r1c, b1c, r2c, b2c, r3c, o3c, b3c⟩ := C
              have Na : Aside _ := fin z3a v3a o3a b3a
              have Nb : Aside _ := fin z3b v3b o3b b3b
              have Nc : Aside _ := fin z3c v3c o3c b3c
              have bE : Below W2.drew.heap.size W2.drew (W2.drew.alloc (.cells #[] 3)) := (Below.refl _ _).alloc (Nat.le_refl _) _
              have bQ : Below W2.drew.heap.size W2.drew (W2.drew.alloc (.cells #[.int .i64 x] 3)) := (Below.refl _ _).alloc (Nat.le_refl _) _
              have bEQ : Below W2.drew.heap.size W2.drew ((W2.drew.alloc (.cells #[] 3)).alloc (.cells #[.int .i64 x] 3)) := bE.alloc bE.size _
              have bQE : Below W2.drew.heap.size W2.drew ((W2.drew.alloc (.cells #[.int .i64 x] 3)).alloc (.cells #[] 3)) := bQ.alloc bQ.size _
              have bAQ : Below W2.drew.heap.size W2.drew (z1a.alloc (.cells #[.int .i64 x] 3)) := b1a.alloc b1a.size _
              have b0 : Below W2.drew.heap.size W2.drew W2.drew := Below.refl _ _
              have KC : Aside (∀ v0, Below W2.drew.heap.size W2.drew v0 → v0.cell? ⟨gl, ol + I, none⟩ = some (.int .i64 x)) := fun v0 hb => by
                have h1 : W2.drew.cell? ⟨gl, ol + I, none⟩ = some (.int .i64 x) := cl2
                rw [← h1]
                exact hb.cell (p := ⟨gl, ol + I, none⟩) (by rw [zsz]; exact gll2)
              rw [zsz] at r1a r1b r2b r1c r2c
              have R1a : Hid _ := r1a
              have R2a : Hid _ := r2a
              have R3a : Hid _ := r3a
              have R1b : Hid _ := r1b
              have R2b : Hid _ := r2b
              have R3b : Hid _ := r3b
              have R1c : Hid _ := r1c
              have R2c : Hid _ := r2c
              have R3c : Hid _ := r3c
              clear r1a r2a r3a r1b r2b r3b r1c r2c r3c o3a o3b o3c fin rP rR OP OR bZ zsz OW insUp
              go_upto_region 9 with fail
              refine anyE_start (S := (fun v0 => v0.cell? ⟨gl, ol + I, none⟩ = some (.int .i64 x))) (L := 15) (by kernel_rfl) ?_
              refine anyE_take (i := 1) (oi := { dst := some 45, op := Op.move (Operand.tmp 3), type := 24, pos := "vergerref12.go:181", after := #[], guard := none }) (v := ?_) rfl (by kernel_rfl)  (by kernel_rfl) (by kernel_rfl) (by kernel_rfl) (fun _ _ _ h => h) (Or.inl ⟨by rfl, ?_⟩) (KC.out _ b0) ?_
              rotate_left
              · (intro w hSw; (try dsimp only at hSw); go_simp; try with_reducible rfl)
              simp only [Act.put, List.setIfInBounds_toArray, List.set_cons_zero, List.set_cons_succ]
              refine anyE_take (i := 2) (oi := { dst := some 46, op := Op.move (Operand.tmp 5), type := 3, pos := "vergerref12.go:181", after := #[], guard := none }) (v := ?_) rfl (by kernel_rfl)  (by kernel_rfl) (by kernel_rfl) (by kernel_rfl) (fun _ _ _ h => h) (Or.inl ⟨by rfl, ?_⟩) (KC.out _ b0) ?_
              rotate_left
              · (intro w hSw; (try dsimp only at hSw); go_simp; try with_reducible rfl)
              simp only [Act.put, List.setIfInBounds_toArray, List.set_cons_zero, List.set_cons_succ]
              refine anyE_take (i := 3) (oi := { dst := some 47, op := Op.slice 24 (Operand.tmp 45) none (some (Operand.tmp 46)) none, type := 24, pos := "vergerref12.go:181", after := #[{ on := 1, ground := Ground.data }, { on := 2, ground := Ground.data }], guard := none }) (v := ?_) rfl (by kernel_rfl)  (by kernel_rfl) (by kernel_rfl) (by kernel_rfl) (fun _ _ _ h => h) (Or.inl ⟨by rfl, ?_⟩) (KC.out _ b0) ?_
              rotate_left
              · (intro w hSw; (try dsimp only at hSw); go_simp; try with_reducible rfl)
              simp only [Act.put, List.setIfInBounds_toArray, List.set_cons_zero, List.set_cons_succ]
              refine anyE_take (i := 5) (oi := { dst := some 49, op := Op.move (Operand.tmp 0), type := 24, pos := "vergerref12.go:181", after := #[], guard := none }) (v := ?_) rfl (by kernel_rfl)  (by kernel_rfl) (by kernel_rfl) (by kernel_rfl) (fun _ _ _ h => h) (Or.inl ⟨by rfl, ?_⟩) (KC.out _ b0) ?_
              rotate_left
              · (intro w hSw; (try dsimp only at hSw); go_simp; try with_reducible rfl)
              simp only [Act.put, List.setIfInBounds_toArray, List.set_cons_zero, List.set_cons_succ]
              refine anyE_take (i := 6) (oi := { dst := some 50, op := Op.move (Operand.tmp 4), type := 3, pos := "vergerref12.go:181", after := #[], guard := none }) (v := ?_) rfl (by kernel_rfl)  (by kernel_rfl) (by kernel_rfl) (by kernel_rfl) (fun _ _ _ h => h) (Or.inl ⟨by rfl, ?_⟩) (KC.out _ b0) ?_
              rotate_left
              · (intro w hSw; (try dsimp only at hSw); go_simp; try with_reducible rfl)
              simp only [Act.put, List.setIfInBounds_toArray, List.set_cons_zero, List.set_cons_succ]
              refine anyE_take (i := 7) (oi := { dst := some 51, op := Op.indexAddr 24 (Operand.tmp 49) (Operand.tmp 50), type := 0, pos := "vergerref12.go:181", after := #[{ on := 5, ground := Ground.data }, { on := 6, ground := Ground.data }], guard := none }) (v := ?_) rfl (by kernel_rfl)  (by kernel_rfl) (by kernel_rfl) (by kernel_rfl) (fun _ _ _ h => h) (Or.inl ⟨by rfl, ?_⟩) (KC.out _ b0) ?_
              rotate_left
              · (intro w hSw; (try dsimp only at hSw); go_simp; try with_reducible rfl)
              simp only [Act.put, List.setIfInBounds_toArray, List.set_cons_zero, List.set_cons_succ]
              refine anyE_take (i := 8) (oi := { dst := some 52, op := Op.load 3 (Operand.tmp 51), type := 3, pos := "vergerref12.go:181", after := #[{ on := 7, ground := Ground.data }], guard := none }) (v := ?_) rfl (by kernel_rfl)  (by kernel_rfl) (by kernel_rfl) (by kernel_rfl) (fun _ _ _ h => h) (Or.inl ⟨by rfl, ?_⟩) (KC.out _ b0) ?_
              rotate_left
              · (intro w hSw; (try dsimp only at hSw); go_simp; try with_reducible rfl)
              simp only [Act.put, List.setIfInBounds_toArray, List.set_cons_zero, List.set_cons_succ]
              refine anyE_take (i := 11) (oi := { dst := some 55, op := Op.move (Operand.tmp 3), type := 24, pos := "vergerref12.go:181", after := #[], guard := none }) (v := ?_) rfl (by kernel_rfl)  (by kernel_rfl) (by kernel_rfl) (by kernel_rfl) (fun _ _ _ h => h) (Or.inl ⟨by rfl, ?_⟩) (KC.out _ b0) ?_
              rotate_left
              · (intro w hSw; (try dsimp only at hSw); go_simp; try with_reducible rfl)
              simp only [Act.put, List.setIfInBounds_toArray, List.set_cons_zero, List.set_cons_succ]
              refine anyE_take (i := 12) (oi := { dst := some 56, op := Op.move (Operand.tmp 5), type := 3, pos := "vergerref12.go:181", after := #[], guard := none }) (v := ?_) rfl (by kernel_rfl)  (by kernel_rfl) (by kernel_rfl) (by kernel_rfl) (fun _ _ _ h => h) (Or.inl ⟨by rfl, ?_⟩) (KC.out _ b0) ?_
              rotate_left
              · (intro w hSw; (try dsimp only at hSw); go_simp; try with_reducible rfl)
              simp only [Act.put, List.setIfInBounds_toArray, List.set_cons_zero, List.set_cons_succ]
              refine anyE_take (i := 13) (oi := { dst := some 57, op := Op.slice 24 (Operand.tmp 55) (some (Operand.tmp 56)) none none, type := 24, pos := "vergerref12.go:181", after := #[{ on := 11, ground := Ground.data }, { on := 12, ground := Ground.data }], guard := none }) (v := ?_) rfl (by kernel_rfl)  (by kernel_rfl) (by kernel_rfl) (by kernel_rfl) (fun _ _ _ h => h) (Or.inl ⟨by rfl, ?_⟩) (KC.out _ b0) ?_
              rotate_left
              · (intro w hSw; (try dsimp only at hSw); go_simp; try with_reducible rfl)
              simp only [Act.put, List.setIfInBounds_toArray, List.set_cons_zero, List.set_cons_succ]
              refine anyE_ready (rs := [0, 9]) (by kernel_rfl) (by simp) ?_
              refine AllE.cons (o := { dst := some 44, op := Op.buildSlice 24 0 #[], type := 24, pos := "vergerref12.go:181", after := #[], guard := none }) rfl (fun Kt hKt => ?_) ?_
              · go_simp
                refine hKt.out _ _ (fun _ => KC.out _ bE) ?_
                clear hKt Kt
                try simp only [Act.put, List.setIfInBounds_toArray, List.set_cons_zero, List.set_cons_succ]
                refine anyE_ready (rs := [4, 9]) (by kernel_rfl) (by simp) ?_
                refine AllE.cons (o := { dst := some 48, op := Op.call { callee := Callee.builtin Builtin.append, args := #[Operand.tmp 44, Operand.tmp 47], argTypes := #[24, 24] }, type := 24, pos := "vergerref12.go:181", after := #[{ on := 0, ground := Ground.data }, { on := 3, ground := Ground.data }], guard := none }) rfl (fun Kt hKt => ?_) ?_
                · refine step_app _ (by rfl) _ _ 24 24 (by rfl) (.slice (some ⟨W2.heap.size, 0, none⟩) 0 0) (.slice (some ⟨g0, 0, none⟩) K co) (by rfl) (by rfl) _ z1a R1a.out ?_
                  refine hKt.out _ _ (fun _ => KC.out _ b1a) ?_
                  clear hKt Kt
                  try simp only [Act.put, List.setIfInBounds_toArray, List.set_cons_zero, List.set_cons_succ]
                  refine anyE_ready (rs := [9]) (by kernel_rfl) (by simp) ?_
                  refine AllE.cons (o := { dst := some 53, op := Op.buildSlice 24 1 #[(0, Operand.tmp 52)], type := 24, pos := "vergerref12.go:181", after := #[{ on := 8, ground := Ground.data }], guard := none }) rfl (fun Kt hKt => ?_) ?_
                  · go_simp
                    refine hKt.out _ _ (fun _ => KC.out _ bAQ) ?_
                    clear hKt Kt
                    try simp only [Act.put, List.setIfInBounds_toArray, List.set_cons_zero, List.set_cons_succ]
                    refine anyE_ready (rs := [10]) (by kernel_rfl) (by simp) ?_
                    refine AllE.cons (o := { dst := some 54, op := Op.call { callee := Callee.builtin Builtin.append, args := #[Operand.tmp 48, Operand.tmp 53], argTypes := #[24, 24] }, type := 24, pos := "vergerref12.go:181", after := #[{ on := 4, ground := Ground.data }, { on := 9, ground := Ground.data }, { on := 4, ground := Ground.chain }], guard := none }) rfl (fun Kt hKt => ?_) ?_
                    · refine step_app _ (by rfl) _ _ 24 24 (by rfl) _ (.slice (some ⟨z1a.heap.size, 0, none⟩) 1 1) (by rfl) (by rfl) _ z2a R2a.out ?_
                      refine hKt.out _ _ (fun _ => KC.out _ b2a) ?_
                      clear hKt Kt
                      try simp only [Act.put, List.setIfInBounds_toArray, List.set_cons_zero, List.set_cons_succ]
                      refine anyE_ready (rs := [14]) (by kernel_rfl) (by simp) ?_
                      refine AllE.cons (o := { dst := some 58, op := Op.call { callee := Callee.builtin Builtin.append, args := #[Operand.tmp 54, Operand.tmp 57], argTypes := #[24, 24] }, type := 24, pos := "vergerref12.go:181", after := #[{ on := 10, ground := Ground.data }, { on := 13, ground := Ground.data }, { on := 10, ground := Ground.chain }], guard := none }) rfl (fun Kt hKt => ?_) ?_
                      · refine step_app _ (by rfl) _ _ 24 24 (by rfl) _ (.slice (some ⟨g0, K, none⟩) (m - K) (co - K)) (by rfl) (by rfl) _ z3a R3a.out ?_
                        refine hKt.out _ _ (fun _ => KC.out _ b3a) ?_
                        clear hKt Kt
                        try simp only [Act.put, List.setIfInBounds_toArray, List.set_cons_zero, List.set_cons_succ]
                        refine anyE_ready (rs := [15]) (by kernel_rfl) (by simp) ?_
                        refine AllE.cons (o := { dst := some 3, op := Op.assign (Operand.tmp 58), type := 24, pos := "vergerref12.go:181", after := #[{ on := 14, ground := Ground.data }, { on := 14, ground := Ground.chain }, { on := 0, ground := Ground.phase }, { on := 1, ground := Ground.phase }, { on := 2, ground := Ground.phase }, { on := 3, ground := Ground.phase }, { on := 4, ground := Ground.phase }, { on := 5, ground := Ground.phase }, { on := 6, ground := Ground.phase }, { on := 7, ground := Ground.phase }, { on := 8, ground := Ground.phase }, { on := 9, ground := Ground.phase }, { on := 10, ground := Ground.phase }, { on := 11, ground := Ground.phase }, { on := 12, ground := Ground.phase }, { on := 13, ground := Ground.phase }, { on := 14, ground := Ground.phase }], guard := none }) rfl (fun Kt hKt => ?_) ?_
                        · go_simp
                          refine hKt.out _ _ (fun h => absurd rfl h) ?_
                          clear hKt Kt
                          try simp only [Act.put, List.setIfInBounds_toArray, List.set_cons_zero, List.set_cons_succ]
                          refine anyE_done (by kernel_rfl) ?_ _
                          go_wp2_with fail
                          go_roundw
                          case rel =>
                            obtain ⟨ao', co', r', e1, e2, e3, e4, e5, e6, e7⟩ := Na.out
                            exact ⟨I + 1, ao', co', r', by omega, by go_num, e1, e2, e3, e4, e5, e6, e7⟩
                          case measure => simp [intOf]; omega
                        exact AllE.nil
                      exact AllE.nil
                    exact AllE.nil
                  exact AllE.nil
                refine AllE.cons (o := { dst := some 53, op := Op.buildSlice 24 1 #[(0, Operand.tmp 52)], type := 24, pos := "vergerref12.go:181", after := #[{ on := 8, ground := Ground.data }], guard := none }) rfl (fun Kt hKt => ?_) ?_
                · go_simp
                  refine hKt.out _ _ (fun _ => KC.out _ bEQ) ?_
                  clear hKt Kt
                  try simp only [Act.put, List.setIfInBounds_toArray, List.set_cons_zero, List.set_cons_succ]
                  refine anyE_ready (rs := [4]) (by kernel_rfl) (by simp) ?_
                  refine AllE.cons (o := { dst := some 48, op := Op.call { callee := Callee.builtin Builtin.append, args := #[Operand.tmp 44, Operand.tmp 47], argTypes := #[24, 24] }, type := 24, pos := "vergerref12.go:181", after := #[{ on := 0, ground := Ground.data }, { on := 3, ground := Ground.data }], guard := none }) rfl (fun Kt hKt => ?_) ?_
                  · refine step_app _ (by rfl) _ _ 24 24 (by rfl) (.slice (some ⟨W2.heap.size, 0, none⟩) 0 0) (.slice (some ⟨g0, 0, none⟩) K co) (by rfl) (by rfl) _ z1b R1b.out ?_
                    refine hKt.out _ _ (fun _ => KC.out _ b1b) ?_
                    clear hKt Kt
                    try simp only [Act.put, List.setIfInBounds_toArray, List.set_cons_zero, List.set_cons_succ]
                    refine anyE_ready (rs := [10]) (by kernel_rfl) (by simp) ?_
                    refine AllE.cons (o := { dst := some 54, op := Op.call { callee := Callee.builtin Builtin.append, args := #[Operand.tmp 48, Operand.tmp 53], argTypes := #[24, 24] }, type := 24, pos := "vergerref12.go:181", after := #[{ on := 4, ground := Ground.data }, { on := 9, ground := Ground.data }, { on := 4, ground := Ground.chain }], guard := none }) rfl (fun Kt hKt => ?_) ?_
                    · refine step_app _ (by rfl) _ _ 24 24 (by rfl) _ (.slice (some ⟨W2.heap.size + 1, 0, none⟩) 1 1) (by rfl) (by rfl) _ z2b R2b.out ?_
                      refine hKt.out _ _ (fun _ => KC.out _ b2b) ?_
                      clear hKt Kt
                      try simp only [Act.put, List.setIfInBounds_toArray, List.set_cons_zero, List.set_cons_succ]
                      refine anyE_ready (rs := [14]) (by kernel_rfl) (by simp) ?_
                      refine AllE.cons (o := { dst := some 58, op := Op.call { callee := Callee.builtin Builtin.append, args := #[Operand.tmp 54, Operand.tmp 57], argTypes := #[24, 24] }, type := 24, pos := "vergerref12.go:181", after := #[{ on := 10, ground := Ground.data }, { on := 13, ground := Ground.data }, { on := 10, ground := Ground.chain }], guard := none }) rfl (fun Kt hKt => ?_) ?_
                      · refine step_app _ (by rfl) _ _ 24 24 (by rfl) _ (.slice (some ⟨g0, K, none⟩) (m - K) (co - K)) (by rfl) (by rfl) _ z3b R3b.out ?_
                        refine hKt.out _ _ (fun _ => KC.out _ b3b) ?_
                        clear hKt Kt
                        try simp only [Act.put, List.setIfInBounds_toArray, List.set_cons_zero, List.set_cons_succ]
                        refine anyE_ready (rs := [15]) (by kernel_rfl) (by simp) ?_
                        refine AllE.cons (o := { dst := some 3, op := Op.assign (Operand.tmp 58), type := 24, pos := "vergerref12.go:181", after := #[{ on := 14, ground := Ground.data }, { on := 14, ground := Ground.chain }, { on := 0, ground := Ground.phase }, { on := 1, ground := Ground.phase }, { on := 2, ground := Ground.phase }, { on := 3, ground := Ground.phase }, { on := 4, ground := Ground.phase }, { on := 5, ground := Ground.phase }, { on := 6, ground := Ground.phase }, { on := 7, ground := Ground.phase }, { on := 8, ground := Ground.phase }, { on := 9, ground := Ground.phase }, { on := 10, ground := Ground.phase }, { on := 11, ground := Ground.phase }, { on := 12, ground := Ground.phase }, { on := 13, ground := Ground.phase }, { on := 14, ground := Ground.phase }], guard := none }) rfl (fun Kt hKt => ?_) ?_
                        · go_simp
                          refine hKt.out _ _ (fun h => absurd rfl h) ?_
                          clear hKt Kt
                          try simp only [Act.put, List.setIfInBounds_toArray, List.set_cons_zero, List.set_cons_succ]
                          refine anyE_done (by kernel_rfl) ?_ _
                          go_wp2_with fail
                          go_roundw
                          case rel =>
                            obtain ⟨ao', co', r', e1, e2, e3, e4, e5, e6, e7⟩ := Nb.out
                            exact ⟨I + 1, ao', co', r', by omega, by go_num, e1, e2, e3, e4, e5, e6, e7⟩
                          case measure => simp [intOf]; omega
                        exact AllE.nil
                      exact AllE.nil
                    exact AllE.nil
                  exact AllE.nil
                exact AllE.nil
              refine AllE.cons (o := { dst := some 53, op := Op.buildSlice 24 1 #[(0, Operand.tmp 52)], type := 24, pos := "vergerref12.go:181", after := #[{ on := 8, ground := Ground.data }], guard := none }) rfl (fun Kt hKt => ?_) ?_
              · go_simp
                refine hKt.out _ _ (fun _ => KC.out _ bQ) ?_
                clear hKt Kt
                try simp only [Act.put, List.setIfInBounds_toArray, List.set_cons_zero, List.set_cons_succ]
                refine anyE_ready (rs := [0]) (by kernel_rfl) (by simp) ?_
                refine AllE.cons (o := { dst := some 44, op := Op.buildSlice 24 0 #[], type := 24, pos := "vergerref12.go:181", after := #[], guard := none }) rfl (fun Kt hKt => ?_) ?_
                · go_simp
                  refine hKt.out _ _ (fun _ => KC.out _ bQE) ?_
                  clear hKt Kt
                  try simp only [Act.put, List.setIfInBounds_toArray, List.set_cons_zero, List.set_cons_succ]
                  refine anyE_ready (rs := [4]) (by kernel_rfl) (by simp) ?_
                  refine AllE.cons (o := { dst := some 48, op := Op.call { callee := Callee.builtin Builtin.append, args := #[Operand.tmp 44, Operand.tmp 47], argTypes := #[24, 24] }, type := 24, pos := "vergerref12.go:181", after := #[{ on := 0, ground := Ground.data }, { on := 3, ground := Ground.data }], guard := none }) rfl (fun Kt hKt => ?_) ?_
                  · refine step_app _ (by rfl) _ _ 24 24 (by rfl) (.slice (some ⟨W2.heap.size + 1, 0, none⟩) 0 0) (.slice (some ⟨g0, 0, none⟩) K co) (by rfl) (by rfl) _ z1c R1c.out ?_
                    refine hKt.out _ _ (fun _ => KC.out _ b1c) ?_
                    clear hKt Kt
                    try simp only [Act.put, List.setIfInBounds_toArray, List.set_cons_zero, List.set_cons_succ]
                    refine anyE_ready (rs := [10]) (by kernel_rfl) (by simp) ?_
                    refine AllE.cons (o := { dst := some 54, op := Op.call { callee := Callee.builtin Builtin.append, args := #[Operand.tmp 48, Operand.tmp 53], argTypes := #[24, 24] }, type := 24, pos := "vergerref12.go:181", after := #[{ on := 4, ground := Ground.data }, { on := 9, ground := Ground.data }, { on := 4, ground := Ground.chain }], guard := none }) rfl (fun Kt hKt => ?_) ?_
                    · refine step_app _ (by rfl) _ _ 24 24 (by rfl) _ (.slice (some ⟨W2.heap.size, 0, none⟩) 1 1) (by rfl) (by rfl) _ z2c R2c.out ?_
                      refine hKt.out _ _ (fun _ => KC.out _ b2c) ?_
                      clear hKt Kt
                      try simp only [Act.put, List.setIfInBounds_toArray, List.set_cons_zero, List.set_cons_succ]
                      refine anyE_ready (rs := [14]) (by kernel_rfl) (by simp) ?_
                      refine AllE.cons (o := { dst := some 58, op := Op.call { callee := Callee.builtin Builtin.append, args := #[Operand.tmp 54, Operand.tmp 57], argTypes := #[24, 24] }, type := 24, pos := "vergerref12.go:181", after := #[{ on := 10, ground := Ground.data }, { on := 13, ground := Ground.data }, { on := 10, ground := Ground.chain }], guard := none }) rfl (fun Kt hKt => ?_) ?_
                      · refine step_app _ (by rfl) _ _ 24 24 (by rfl) _ (.slice (some ⟨g0, K, none⟩) (m - K) (co - K)) (by rfl) (by rfl) _ z3c R3c.out ?_
                        refine hKt.out _ _ (fun _ => KC.out _ b3c) ?_
                        clear hKt Kt
                        try simp only [Act.put, List.setIfInBounds_toArray, List.set_cons_zero, List.set_cons_succ]
                        refine anyE_ready (rs := [15]) (by kernel_rfl) (by simp) ?_
                        refine AllE.cons (o := { dst := some 3, op := Op.assign (Operand.tmp 58), type := 24, pos := "vergerref12.go:181", after := #[{ on := 14, ground := Ground.data }, { on := 14, ground := Ground.chain }, { on := 0, ground := Ground.phase }, { on := 1, ground := Ground.phase }, { on := 2, ground := Ground.phase }, { on := 3, ground := Ground.phase }, { on := 4, ground := Ground.phase }, { on := 5, ground := Ground.phase }, { on := 6, ground := Ground.phase }, { on := 7, ground := Ground.phase }, { on := 8, ground := Ground.phase }, { on := 9, ground := Ground.phase }, { on := 10, ground := Ground.phase }, { on := 11, ground := Ground.phase }, { on := 12, ground := Ground.phase }, { on := 13, ground := Ground.phase }, { on := 14, ground := Ground.phase }], guard := none }) rfl (fun Kt hKt => ?_) ?_
                        · go_simp
                          refine hKt.out _ _ (fun h => absurd rfl h) ?_
                          clear hKt Kt
                          try simp only [Act.put, List.setIfInBounds_toArray, List.set_cons_zero, List.set_cons_succ]
                          refine anyE_done (by kernel_rfl) ?_ _
                          go_wp2_with fail
                          go_roundw
                          case rel =>
                            obtain ⟨ao', co', r', e1, e2, e3, e4, e5, e6, e7⟩ := Nc.out
                            exact ⟨I + 1, ao', co', r', by omega, by go_num, e1, e2, e3, e4, e5, e6, e7⟩
                          case measure => simp [intOf]; omega
                        exact AllE.nil
                      exact AllE.nil
                    exact AllE.nil
                  exact AllE.nil
                exact AllE.nil
              exact AllE.nil
        · rcases shape with shape | shape
          · obtain ⟨h1, h2, h3⟩ := shape
            subst h1 h2 h3
            obtain rfl : m = 0 := hm.symm
            obtain rfl : K = 0 := by omega
            have insUp : Aside (Up (([] : List Int).take 0 ++ [x] ++ ([] : List Int).drop 0)) := by simp [Aside]
            have g1 : decide (0 < 0) = false := decide_eq_false (by omega)
            have g3 : ((0 : Int) == (0 : Int)) = true := by simp
            have OW0 : Aside (OwnI wr S (.slice none 0 0) [] ∧ Below S w wr) := ⟨OW, BW⟩
            clear OW BW lo wx NXT HS
            go_wp2_with fail
            go_quiet (fail)
            obtain ⟨W1, hW1⟩ : ∃ W1, wr.drewN nq = W1 := ⟨_, rfl⟩
            have q1 : Below wr.heap.size wr W1 := by rw [← hW1]; exact below_drewN _ _
            rw [hW1]
            have OW1 := OW0.out.1.below q1
            have BW1 : Below S w W1 := OW0.out.2.trans (q1.mono SZ)
            have SZ1 : S ≤ W1.heap.size := by have := q1.size; omega
            have cl1 : W1.cell? ⟨gl, ol + I, none⟩ = some (.int .i64 x) := by rw [← cl]; exact q1.cell (p := ⟨gl, ol + I, none⟩) gll
            have gll1 : gl < W1.heap.size := by have := q1.size; omega
            have OW1' : Aside (OwnI W1 S (.slice none 0 0) [] ∧ Below S w W1) := ⟨OW1, BW1⟩
            clear OW1 BW1 q1 hW1
            go_wp2_with fail
            go_quiet (fail)
            obtain ⟨W2, hW2⟩ : ∃ W2, W1.drewN nq = W2 := ⟨_, rfl⟩
            have q2 : Below W1.heap.size W1 W2 := by rw [← hW2]; exact below_drewN _ _
            rw [hW2]
            have OW := OW1'.out.1.below q2
            have BW : Below S w W2 := OW1'.out.2.trans (q2.mono SZ1)
            have SZ2 : S ≤ W2.heap.size := by have := q2.size; omega
            have cl2 : W2.cell? ⟨gl, ol + I, none⟩ = some (.int .i64 x) := by rw [← cl1]; exact q2.cell (p := ⟨gl, ol + I, none⟩) gll1
            have gll2 : gl < W2.heap.size := by have := q2.size; omega
            clear q2 hW2 OW1'
            have QI : IsI W2 none 0 ([] : List Int) := IsI.nil W2
            have hx := HX.out
            have mr := MR.out
            have OP := QI.take 0
            have OR : IsI W2 none 0 (([] : List Int).drop 0) := QI
            have hlP : (([] : List Int).take 0).length = 0 := by simp <;> omega
            have hlR : (([] : List Int).drop 0).length = 0 := by simp <;> omega
            obtain ⟨t, -⟩ := tyI
            have rP := OP.rd
            have rR := OR.rd
            rw [hlP] at rP
            rw [hlR] at rR
            have zsz : W2.drew.heap.size = W2.heap.size := rfl
            have bZ : Below W2.heap.size W2 W2.drew := (Below.refl _ _).drew
            have fin : ∀ (z3 : World) (v3 : Value), z3.ownsRow W2.drew.heap.size 3 1 v3 (0 + 1 + 0) (cz (([] : List Int).take 0) ++ cz [x] ++ cz (([] : List Int).drop 0)) → Below W2.drew.heap.size W2.drew z3 → ∃ (ao' : Option Addr) (co' : Nat) (r' : List Int), v3 = .slice ao' r'.length co' ∧ ((ao' = none ∧ co' = 0 ∧ r' = []) ∨ ∃ g, ao' = some ⟨g, 0, none⟩) ∧ Up r' ∧ (∀ x, x ∈ r' ↔ x ∈ d.take (I + 1)) ∧ r'.length ≤ I + 1 ∧ OwnI z3 S (.slice ao' r'.length co') r' ∧ Below S w z3 := fun z3 v3 o3 b3 => by
              have hK' : 0 ≤ ([] : List Int).length := by omega
              have el : (([] : List Int).take 0 ++ [x] ++ ([] : List Int).drop 0).length = 0 + 1 + 0 := by simp <;> omega
              have oo : OwnI z3 S v3 (([] : List Int).take 0 ++ [x] ++ ([] : List Int).drop 0) := by
                have : OwnI z3 W2.drew.heap.size v3 (([] : List Int).take 0 ++ [x] ++ ([] : List Int).drop 0) := by
                  unfold OwnI
                  rw [el, cz, List.map_append, List.map_append]
                  exact o3
                exact this.low (by omega)
              obtain ⟨g, c, e⟩ := oo.addr (by simp)
              subst e
              refine ⟨_, c, _, rfl, .inr ⟨g, rfl⟩, ?_, fun y => ?_, ?_, oo, BW.trans ((bZ.trans (b3.mono (by omega))).mono SZ2)⟩
              · exact insUp.out
              · rw [mem_take_up (by omega), hx, ← mr, List.append_assoc, List.mem_append, List.mem_append, List.mem_singleton]
                have : y ∈ ([] : List Int) ↔ y ∈ ([] : List Int).take 0 ∨ y ∈ ([] : List Int).drop 0 := by rw [← List.mem_append, List.take_append_drop]
                rw [this]
                constructor
                · rintro (h | h | h)
                  · exact .inl (.inl h)
                  · exact .inr h
                  · exact .inl (.inr h)
                · rintro ((h | h) | h)
                  · exact .inl h
                  · exact .inr (.inr h)
                  · exact .inr (.inl h)
              · rw [el]; omega
            have A := ins3A (cP := 0) (cR := 0) (Q := cz [x]) t W2.drew 24 (rP.below bZ) (rR.below bZ) rfl (cz_one _) (by omega)
            have Bb := ins3B (cP := 0) (cR := 0) (Q := cz [x]) t W2.drew 24 (rP.below bZ) (rR.below bZ) rfl (cz_one _) (by omega)
            have C := ins3C (cP := 0) (cR := 0) (Q := cz [x]) t W2.drew 24 (rP.below bZ) (rR.below bZ) rfl (cz_one _) (by omega)
            obtain ⟨v1a, z1a, v2a, z2a, v3a, z3a, r1a, b1a, r2a, b2a, r3a, o3a, b3a⟩ := A
            obtain ⟨v1b, z1b, v2b, z2b, v3b, z3b, r1b, b1b, r2b, b2b, r3b, o3b, b3b⟩ := Bb
            obtain ⟨v1c, z1c, v2c, z2c, v3c, z3c, r1c, b1c, r2c, b2c, r3c, o3c, b3c⟩ := C
            have Na : Aside _ := fin z3a v3a o3a b3a
            have Nb : Aside _ := fin z3b v3b o3b b3b
            have Nc : Aside _ := fin z3c v3c o3c b3c
            have bE : Below W2.drew.heap.size W2.drew (W2.drew.alloc (.cells #[] 3)) := (Below.refl _ _).alloc (Nat.le_refl _) _
            have bQ : Below W2.drew.heap.size W2.drew (W2.drew.alloc (.cells #[.int .i64 x] 3)) := (Below.refl _ _).alloc (Nat.le_refl _) _
            have bEQ : Below W2.drew.heap.size W2.drew ((W2.drew.alloc (.cells #[] 3)).alloc (.cells #[.int .i64 x] 3)) := bE.alloc bE.size _
            have bQE : Below W2.drew.heap.size W2.drew ((W2.drew.alloc (.cells #[.int .i64 x] 3)).alloc (.cells #[] 3)) := bQ.alloc bQ.size _
            have bAQ : Below W2.drew.heap.size W2.drew (z1a.alloc (.cells #[.int .i64 x] 3)) := b1a.alloc b1a.size _
            have b0 : Below W2.drew.heap.size W2.drew W2.drew := Below.refl _ _
            have KC : Aside (∀ v0, Below W2.drew.heap.size W2.drew v0 → v0.cell? ⟨gl, ol + I, none⟩ = some (.int .i64 x)) := fun v0 hb => by
              have h1 : W2.drew.cell? ⟨gl, ol + I, none⟩ = some (.int .i64 x) := cl2
              rw [← h1]
              exact hb.cell (p := ⟨gl, ol + I, none⟩) (by rw [zsz]; exact gll2)
            rw [zsz] at r1a r1b r2b r1c r2c
            have R1a : Hid _ := r1a
            have R2a : Hid _ := r2a
            have R3a : Hid _ := r3a
            have R1b : Hid _ := r1b
            have R2b : Hid _ := r2b
            have R3b : Hid _ := r3b
            have R1c : Hid _ := r1c
            have R2c : Hid _ := r2c
            have R3c : Hid _ := r3c
            clear r1a r2a r3a r1b r2b r3b r1c r2c r3c o3a o3b o3c fin rP rR OP OR bZ zsz OW insUp
            go_upto_region 9 with fail
            refine anyE_start (S := (fun v0 => v0.cell? ⟨gl, ol + I, none⟩ = some (.int .i64 x))) (L := 15) (by kernel_rfl) ?_
            refine anyE_take (i := 1) (oi := { dst := some 45, op := Op.move (Operand.tmp 3), type := 24, pos := "vergerref12.go:181", after := #[], guard := none }) (v := ?_) rfl (by kernel_rfl)  (by kernel_rfl) (by kernel_rfl) (by kernel_rfl) (fun _ _ _ h => h) (Or.inl ⟨by rfl, ?_⟩) (KC.out _ b0) ?_
            rotate_left
            · (intro w hSw; (try dsimp only at hSw); go_simp; try with_reducible rfl)
            simp only [Act.put, List.setIfInBounds_toArray, List.set_cons_zero, List.set_cons_succ]
            refine anyE_take (i := 2) (oi := { dst := some 46, op := Op.move (Operand.tmp 5), type := 3, pos := "vergerref12.go:181", after := #[], guard := none }) (v := ?_) rfl (by kernel_rfl)  (by kernel_rfl) (by kernel_rfl) (by kernel_rfl) (fun _ _ _ h => h) (Or.inl ⟨by rfl, ?_⟩) (KC.out _ b0) ?_
            rotate_left
            · (intro w hSw; (try dsimp only at hSw); go_simp; try with_reducible rfl)
            simp only [Act.put, List.setIfInBounds_toArray, List.set_cons_zero, List.set_cons_succ]
            refine anyE_take (i := 3) (oi := { dst := some 47, op := Op.slice 24 (Operand.tmp 45) none (some (Operand.tmp 46)) none, type := 24, pos := "vergerref12.go:181", after := #[{ on := 1, ground := Ground.data }, { on := 2, ground := Ground.data }], guard := none }) (v := ?_) rfl (by kernel_rfl)  (by kernel_rfl) (by kernel_rfl) (by kernel_rfl) (fun _ _ _ h => h) (Or.inl ⟨by rfl, ?_⟩) (KC.out _ b0) ?_
            rotate_left
            · (intro w hSw; (try dsimp only at hSw); go_simp; try with_reducible rfl)
            simp only [Act.put, List.setIfInBounds_toArray, List.set_cons_zero, List.set_cons_succ]
            refine anyE_take (i := 5) (oi := { dst := some 49, op := Op.move (Operand.tmp 0), type := 24, pos := "vergerref12.go:181", after := #[], guard := none }) (v := ?_) rfl (by kernel_rfl)  (by kernel_rfl) (by kernel_rfl) (by kernel_rfl) (fun _ _ _ h => h) (Or.inl ⟨by rfl, ?_⟩) (KC.out _ b0) ?_
            rotate_left
            · (intro w hSw; (try dsimp only at hSw); go_simp; try with_reducible rfl)
            simp only [Act.put, List.setIfInBounds_toArray, List.set_cons_zero, List.set_cons_succ]
            refine anyE_take (i := 6) (oi := { dst := some 50, op := Op.move (Operand.tmp 4), type := 3, pos := "vergerref12.go:181", after := #[], guard := none }) (v := ?_) rfl (by kernel_rfl)  (by kernel_rfl) (by kernel_rfl) (by kernel_rfl) (fun _ _ _ h => h) (Or.inl ⟨by rfl, ?_⟩) (KC.out _ b0) ?_
            rotate_left
            · (intro w hSw; (try dsimp only at hSw); go_simp; try with_reducible rfl)
            simp only [Act.put, List.setIfInBounds_toArray, List.set_cons_zero, List.set_cons_succ]
            refine anyE_take (i := 7) (oi := { dst := some 51, op := Op.indexAddr 24 (Operand.tmp 49) (Operand.tmp 50), type := 0, pos := "vergerref12.go:181", after := #[{ on := 5, ground := Ground.data }, { on := 6, ground := Ground.data }], guard := none }) (v := ?_) rfl (by kernel_rfl)  (by kernel_rfl) (by kernel_rfl) (by kernel_rfl) (fun _ _ _ h => h) (Or.inl ⟨by rfl, ?_⟩) (KC.out _ b0) ?_
            rotate_left
            · (intro w hSw; (try dsimp only at hSw); go_simp; try with_reducible rfl)
            simp only [Act.put, List.setIfInBounds_toArray, List.set_cons_zero, List.set_cons_succ]
            refine anyE_take (i := 8) (oi := { dst := some 52, op := Op.load 3 (Operand.tmp 51), type := 3, pos := "vergerref12.go:181", after := #[{ on := 7, ground := Ground.data }], guard := none }) (v := ?_) rfl (by kernel_rfl)  (by kernel_rfl) (by kernel_rfl) (by kernel_rfl) (fun _ _ _ h => h) (Or.inl ⟨by rfl, ?_⟩) (KC.out _ b0) ?_
            rotate_left
            · (intro w hSw; (try dsimp only at hSw); go_simp; try with_reducible rfl)
            simp only [Act.put, List.setIfInBounds_toArray, List.set_cons_zero, List.set_cons_succ]
            refine anyE_take (i := 11) (oi := { dst := some 55, op := Op.move (Operand.tmp 3), type := 24, pos := "vergerref12.go:181", after := #[], guard := none }) (v := ?_) rfl (by kernel_rfl)  (by kernel_rfl) (by kernel_rfl) (by kernel_rfl) (fun _ _ _ h => h) (Or.inl ⟨by rfl, ?_⟩) (KC.out _ b0) ?_
            rotate_left
            · (intro w hSw; (try dsimp only at hSw); go_simp; try with_reducible rfl)
            simp only [Act.put, List.setIfInBounds_toArray, List.set_cons_zero, List.set_cons_succ]
            refine anyE_take (i := 12) (oi := { dst := some 56, op := Op.move (Operand.tmp 5), type := 3, pos := "vergerref12.go:181", after := #[], guard := none }) (v := ?_) rfl (by kernel_rfl)  (by kernel_rfl) (by kernel_rfl) (by kernel_rfl) (fun _ _ _ h => h) (Or.inl ⟨by rfl, ?_⟩) (KC.out _ b0) ?_
            rotate_left
            · (intro w hSw; (try dsimp only at hSw); go_simp; try with_reducible rfl)
            simp only [Act.put, List.setIfInBounds_toArray, List.set_cons_zero, List.set_cons_succ]
            refine anyE_take (i := 13) (oi := { dst := some 57, op := Op.slice 24 (Operand.tmp 55) (some (Operand.tmp 56)) none none, type := 24, pos := "vergerref12.go:181", after := #[{ on := 11, ground := Ground.data }, { on := 12, ground := Ground.data }], guard := none }) (v := ?_) rfl (by kernel_rfl)  (by kernel_rfl) (by kernel_rfl) (by kernel_rfl) (fun _ _ _ h => h) (Or.inl ⟨by rfl, ?_⟩) (KC.out _ b0) ?_
            rotate_left
            · (intro w hSw; (try dsimp only at hSw); go_simp; try with_reducible rfl)
            simp only [Act.put, List.setIfInBounds_toArray, List.set_cons_zero, List.set_cons_succ]
            refine anyE_ready (rs := [0, 9]) (by kernel_rfl) (by simp) ?_
            refine AllE.cons (o := { dst := some 44, op := Op.buildSlice 24 0 #[], type := 24, pos := "vergerref12.go:181", after := #[], guard := none }) rfl (fun Kt hKt => ?_) ?_
            · go_simp
              refine hKt.out _ _ (fun _ => KC.out _ bE) ?_
              clear hKt Kt
              try simp only [Act.put, List.setIfInBounds_toArray, List.set_cons_zero, List.set_cons_succ]
              refine anyE_ready (rs := [4, 9]) (by kernel_rfl) (by simp) ?_
              refine AllE.cons (o := { dst := some 48, op := Op.call { callee := Callee.builtin Builtin.append, args := #[Operand.tmp 44, Operand.tmp 47], argTypes := #[24, 24] }, type := 24, pos := "vergerref12.go:181", after := #[{ on := 0, ground := Ground.data }, { on := 3, ground := Ground.data }], guard := none }) rfl (fun Kt hKt => ?_) ?_
              · refine step_app _ (by rfl) _ _ 24 24 (by rfl) (.slice (some ⟨W2.heap.size, 0, none⟩) 0 0) (.slice none 0 0) (by rfl) (by rfl) _ z1a R1a.out ?_
                refine hKt.out _ _ (fun _ => KC.out _ b1a) ?_
                clear hKt Kt
                try simp only [Act.put, List.setIfInBounds_toArray, List.set_cons_zero, List.set_cons_succ]
                refine anyE_ready (rs := [9]) (by kernel_rfl) (by simp) ?_
                refine AllE.cons (o := { dst := some 53, op := Op.buildSlice 24 1 #[(0, Operand.tmp 52)], type := 24, pos := "vergerref12.go:181", after := #[{ on := 8, ground := Ground.data }], guard := none }) rfl (fun Kt hKt => ?_) ?_
                · go_simp
                  refine hKt.out _ _ (fun _ => KC.out _ bAQ) ?_
                  clear hKt Kt
                  try simp only [Act.put, List.setIfInBounds_toArray, List.set_cons_zero, List.set_cons_succ]
                  refine anyE_ready (rs := [10]) (by kernel_rfl) (by simp) ?_
                  refine AllE.cons (o := { dst := some 54, op := Op.call { callee := Callee.builtin Builtin.append, args := #[Operand.tmp 48, Operand.tmp 53], argTypes := #[24, 24] }, type := 24, pos := "vergerref12.go:181", after := #[{ on := 4, ground := Ground.data }, { on := 9, ground := Ground.data }, { on := 4, ground := Ground.chain }], guard := none }) rfl (fun Kt hKt => ?_) ?_
                  · refine step_app _ (by rfl) _ _ 24 24 (by rfl) _ (.slice (some ⟨z1a.heap.size, 0, none⟩) 1 1) (by rfl) (by rfl) _ z2a R2a.out ?_
                    refine hKt.out _ _ (fun _ => KC.out _ b2a) ?_
                    clear hKt Kt
                    try simp only [Act.put, List.setIfInBounds_toArray, List.set_cons_zero, List.set_cons_succ]
                    refine anyE_ready (rs := [14]) (by kernel_rfl) (by simp) ?_
                    refine AllE.cons (o := { dst := some 58, op := Op.call { callee := Callee.builtin Builtin.append, args := #[Operand.tmp 54, Operand.tmp 57], argTypes := #[24, 24] }, type := 24, pos := "vergerref12.go:181", after := #[{ on := 10, ground := Ground.data }, { on := 13, ground := Ground.data }, { on := 10, ground := Ground.chain }], guard := none }) rfl (fun Kt hKt => ?_) ?_
                    · refine step_app _ (by rfl) _ _ 24 24 (by rfl) _ (.slice none 0 0) (by rfl) (by rfl) _ z3a R3a.out ?_
                      refine hKt.out _ _ (fun _ => KC.out _ b3a) ?_
                      clear hKt Kt
                      try simp only [Act.put, List.setIfInBounds_toArray, List.set_cons_zero, List.set_cons_succ]
                      refine anyE_ready (rs := [15]) (by kernel_rfl) (by simp) ?_
                      refine AllE.cons (o := { dst := some 3, op := Op.assign (Operand.tmp 58), type := 24, pos := "vergerref12.go:181", after := #[{ on := 14, ground := Ground.data }, { on := 14, ground := Ground.chain }, { on := 0, ground := Ground.phase }, { on := 1, ground := Ground.phase }, { on := 2, ground := Ground.phase }, { on := 3, ground := Ground.phase }, { on := 4, ground := Ground.phase }, { on := 5, ground := Ground.phase }, { on := 6, ground := Ground.phase }, { on := 7, ground := Ground.phase }, { on := 8, ground := Ground.phase }, { on := 9, ground := Ground.phase }, { on := 10, ground := Ground.phase }, { on := 11, ground := Ground.phase }, { on := 12, ground := Ground.phase }, { on := 13, ground := Ground.phase }, { on := 14, ground := Ground.phase }], guard := none }) rfl (fun Kt hKt => ?_) ?_
                      · go_simp
                        refine hKt.out _ _ (fun h => absurd rfl h) ?_
                        clear hKt Kt
                        try simp only [Act.put, List.setIfInBounds_toArray, List.set_cons_zero, List.set_cons_succ]
                        refine anyE_done (by kernel_rfl) ?_ _
                        go_wp2_with fail
                        go_roundw
                        case rel =>
                          obtain ⟨ao', co', r', e1, e2, e3, e4, e5, e6, e7⟩ := Na.out
                          exact ⟨I + 1, ao', co', r', by omega, by go_num, e1, e2, e3, e4, e5, e6, e7⟩
                        case measure => simp [intOf]; omega
                      exact AllE.nil
                    exact AllE.nil
                  exact AllE.nil
                exact AllE.nil
              refine AllE.cons (o := { dst := some 53, op := Op.buildSlice 24 1 #[(0, Operand.tmp 52)], type := 24, pos := "vergerref12.go:181", after := #[{ on := 8, ground := Ground.data }], guard := none }) rfl (fun Kt hKt => ?_) ?_
              · go_simp
                refine hKt.out _ _ (fun _ => KC.out _ bEQ) ?_
                clear hKt Kt
                try simp only [Act.put, List.setIfInBounds_toArray, List.set_cons_zero, List.set_cons_succ]
                refine anyE_ready (rs := [4]) (by kernel_rfl) (by simp) ?_
                refine AllE.cons (o := { dst := some 48, op := Op.call { callee := Callee.builtin Builtin.append, args := #[Operand.tmp 44, Operand.tmp 47], argTypes := #[24, 24] }, type := 24, pos := "vergerref12.go:181", after := #[{ on := 0, ground := Ground.data }, { on := 3, ground := Ground.data }], guard := none }) rfl (fun Kt hKt => ?_) ?_
                · refine step_app _ (by rfl) _ _ 24 24 (by rfl) (.slice (some ⟨W2.heap.size, 0, none⟩) 0 0) (.slice none 0 0) (by rfl) (by rfl) _ z1b R1b.out ?_
                  refine hKt.out _ _ (fun _ => KC.out _ b1b) ?_
                  clear hKt Kt
                  try simp only [Act.put, List.setIfInBounds_toArray, List.set_cons_zero, List.set_cons_succ]
                  refine anyE_ready (rs := [10]) (by kernel_rfl) (by simp) ?_
                  refine AllE.cons (o := { dst := some 54, op := Op.call { callee := Callee.builtin Builtin.append, args := #[Operand.tmp 48, Operand.tmp 53], argTypes := #[24, 24] }, type := 24, pos := "vergerref12.go:181", after := #[{ on := 4, ground := Ground.data }, { on := 9, ground := Ground.data }, { on := 4, ground := Ground.chain }], guard := none }) rfl (fun Kt hKt => ?_) ?_
                  · refine step_app _ (by rfl) _ _ 24 24 (by rfl) _ (.slice (some ⟨W2.heap.size + 1, 0, none⟩) 1 1) (by rfl) (by rfl) _ z2b R2b.out ?_
                    refine hKt.out _ _ (fun _ => KC.out _ b2b) ?_
                    clear hKt Kt
                    try simp only [Act.put, List.setIfInBounds_toArray, List.set_cons_zero, List.set_cons_succ]
                    refine anyE_ready (rs := [14]) (by kernel_rfl) (by simp) ?_
                    refine AllE.cons (o := { dst := some 58, op := Op.call { callee := Callee.builtin Builtin.append, args := #[Operand.tmp 54, Operand.tmp 57], argTypes := #[24, 24] }, type := 24, pos := "vergerref12.go:181", after := #[{ on := 10, ground := Ground.data }, { on := 13, ground := Ground.data }, { on := 10, ground := Ground.chain }], guard := none }) rfl (fun Kt hKt => ?_) ?_
                    · refine step_app _ (by rfl) _ _ 24 24 (by rfl) _ (.slice none 0 0) (by rfl) (by rfl) _ z3b R3b.out ?_
                      refine hKt.out _ _ (fun _ => KC.out _ b3b) ?_
                      clear hKt Kt
                      try simp only [Act.put, List.setIfInBounds_toArray, List.set_cons_zero, List.set_cons_succ]
                      refine anyE_ready (rs := [15]) (by kernel_rfl) (by simp) ?_
                      refine AllE.cons (o := { dst := some 3, op := Op.assign (Operand.tmp 58), type := 24, pos := "vergerref12.go:181", after := #[{ on := 14, ground := Ground.data }, { on := 14, ground := Ground.chain }, { on := 0, ground := Ground.phase }, { on := 1, ground := Ground.phase }, { on := 2, ground := Ground.phase }, { on := 3, ground := Ground.phase }, { on := 4, ground := Ground.phase }, { on := 5, ground := Ground.phase }, { on := 6, ground := Ground.phase }, { on := 7, ground := Ground.phase }, { on := 8, ground := Ground.phase }, { on := 9, ground := Ground.phase }, { on := 10, ground := Ground.phase }, { on := 11, ground := Ground.phase }, { on := 12, ground := Ground.phase }, { on := 13, ground := Ground.phase }, { on := 14, ground := Ground.phase }], guard := none }) rfl (fun Kt hKt => ?_) ?_
                      · go_simp
                        refine hKt.out _ _ (fun h => absurd rfl h) ?_
                        clear hKt Kt
                        try simp only [Act.put, List.setIfInBounds_toArray, List.set_cons_zero, List.set_cons_succ]
                        refine anyE_done (by kernel_rfl) ?_ _
                        go_wp2_with fail
                        go_roundw
                        case rel =>
                          obtain ⟨ao', co', r', e1, e2, e3, e4, e5, e6, e7⟩ := Nb.out
                          exact ⟨I + 1, ao', co', r', by omega, by go_num, e1, e2, e3, e4, e5, e6, e7⟩
                        case measure => simp [intOf]; omega
                      exact AllE.nil
                    exact AllE.nil
                  exact AllE.nil
                exact AllE.nil
              exact AllE.nil
            refine AllE.cons (o := { dst := some 53, op := Op.buildSlice 24 1 #[(0, Operand.tmp 52)], type := 24, pos := "vergerref12.go:181", after := #[{ on := 8, ground := Ground.data }], guard := none }) rfl (fun Kt hKt => ?_) ?_
            · go_simp
              refine hKt.out _ _ (fun _ => KC.out _ bQ) ?_
              clear hKt Kt
              try simp only [Act.put, List.setIfInBounds_toArray, List.set_cons_zero, List.set_cons_succ]
              refine anyE_ready (rs := [0]) (by kernel_rfl) (by simp) ?_
              refine AllE.cons (o := { dst := some 44, op := Op.buildSlice 24 0 #[], type := 24, pos := "vergerref12.go:181", after := #[], guard := none }) rfl (fun Kt hKt => ?_) ?_
              · go_simp
                refine hKt.out _ _ (fun _ => KC.out _ bQE) ?_
                clear hKt Kt
                try simp only [Act.put, List.setIfInBounds_toArray, List.set_cons_zero, List.set_cons_succ]
                refine anyE_ready (rs := [4]) (by kernel_rfl) (by simp) ?_
                refine AllE.cons (o := { dst := some 48, op := Op.call { callee := Callee.builtin Builtin.append, args := #[Operand.tmp 44, Operand.tmp 47], argTypes := #[24, 24] }, type := 24, pos := "vergerref12.go:181", after := #[{ on := 0, ground := Ground.data }, { on := 3, ground := Ground.data }], guard := none }) rfl (fun Kt hKt => ?_) ?_
                · refine step_app _ (by rfl) _ _ 24 24 (by rfl) (.slice (some ⟨W2.heap.size + 1, 0, none⟩) 0 0) (.slice none 0 0) (by rfl) (by rfl) _ z1c R1c.out ?_
                  refine hKt.out _ _ (fun _ => KC.out _ b1c) ?_
                  clear hKt Kt
                  try simp only [Act.put, List.setIfInBounds_toArray, List.set_cons_zero, List.set_cons_succ]
                  refine anyE_ready (rs := [10]) (by kernel_rfl) (by simp) ?_
                  refine AllE.cons (o := { dst := some 54, op := Op.call { callee := Callee.builtin Builtin.append, args := #[Operand.tmp 48, Operand.tmp 53], argTypes := #[24, 24] }, type := 24, pos := "vergerref12.go:181", after := #[{ on := 4, ground := Ground.data }, { on := 9, ground := Ground.data }, { on := 4, ground := Ground.chain }], guard := none }) rfl (fun Kt hKt => ?_) ?_
                  · refine step_app _ (by rfl) _ _ 24 24 (by rfl) _ (.slice (some ⟨W2.heap.size, 0, none⟩) 1 1) (by rfl) (by rfl) _ z2c R2c.out ?_
                    refine hKt.out _ _ (fun _ => KC.out _ b2c) ?_
                    clear hKt Kt
                    try simp only [Act.put, List.setIfInBounds_toArray, List.set_cons_zero, List.set_cons_succ]
                    refine anyE_ready (rs := [14]) (by kernel_rfl) (by simp) ?_
                    refine AllE.cons (o := { dst := some 58, op := Op.call { callee := Callee.builtin Builtin.append, args := #[Operand.tmp 54, Operand.tmp 57], argTypes := #[24, 24] }, type := 24, pos := "vergerref12.go:181", after := #[{ on := 10, ground := Ground.data }, { on := 13, ground := Ground.data }, { on := 10, ground := Ground.chain }], guard := none }) rfl (fun Kt hKt => ?_) ?_
                    · refine step_app _ (by rfl) _ _ 24 24 (by rfl) _ (.slice none 0 0) (by rfl) (by rfl) _ z3c R3c.out ?_
                      refine hKt.out _ _ (fun _ => KC.out _ b3c) ?_
                      clear hKt Kt
                      try simp only [Act.put, List.setIfInBounds_toArray, List.set_cons_zero, List.set_cons_succ]
                      refine anyE_ready (rs := [15]) (by kernel_rfl) (by simp) ?_
                      refine AllE.cons (o := { dst := some 3, op := Op.assign (Operand.tmp 58), type := 24, pos := "vergerref12.go:181", after := #[{ on := 14, ground := Ground.data }, { on := 14, ground := Ground.chain }, { on := 0, ground := Ground.phase }, { on := 1, ground := Ground.phase }, { on := 2, ground := Ground.phase }, { on := 3, ground := Ground.phase }, { on := 4, ground := Ground.phase }, { on := 5, ground := Ground.phase }, { on := 6, ground := Ground.phase }, { on := 7, ground := Ground.phase }, { on := 8, ground := Ground.phase }, { on := 9, ground := Ground.phase }, { on := 10, ground := Ground.phase }, { on := 11, ground := Ground.phase }, { on := 12, ground := Ground.phase }, { on := 13, ground := Ground.phase }, { on := 14, ground := Ground.phase }], guard := none }) rfl (fun Kt hKt => ?_) ?_
                      · go_simp
                        refine hKt.out _ _ (fun h => absurd rfl h) ?_
                        clear hKt Kt
                        try simp only [Act.put, List.setIfInBounds_toArray, List.set_cons_zero, List.set_cons_succ]
                        refine anyE_done (by kernel_rfl) ?_ _
                        go_wp2_with fail
                        go_roundw
                        case rel =>
                          obtain ⟨ao', co', r', e1, e2, e3, e4, e5, e6, e7⟩ := Nc.out
                          exact ⟨I + 1, ao', co', r', by omega, by go_num, e1, e2, e3, e4, e5, e6, e7⟩
                        case measure => simp [intOf]; omega
                      exact AllE.nil
                    exact AllE.nil
                  exact AllE.nil
                exact AllE.nil
              exact AllE.nil
            exact AllE.nil
          · obtain ⟨g0, hg0⟩ := shape
            subst hg0
            obtain rfl : K = m := by omega
            have insUp : Aside (Up (r.take K ++ [x] ++ r.drop K)) := ins_up ur lo (fun h => by omega) (by omega)
            have g1 : decide (K < K) = false := decide_eq_false (by omega)
            have g3 : ((K : Int) == (K : Int)) = true := by simp
            have OW0 : Aside (OwnI wr S (.slice (some ⟨g0, 0, none⟩) K co) r ∧ Below S w wr) := ⟨OW, BW⟩
            clear OW BW lo wx NXT HS
            go_wp2_with fail
            go_quiet (fail)
            obtain ⟨W1, hW1⟩ : ∃ W1, wr.drewN nq = W1 := ⟨_, rfl⟩
            have q1 : Below wr.heap.size wr W1 := by rw [← hW1]; exact below_drewN _ _
            rw [hW1]
            have OW1 := OW0.out.1.below q1
            have BW1 : Below S w W1 := OW0.out.2.trans (q1.mono SZ)
            have SZ1 : S ≤ W1.heap.size := by have := q1.size; omega
            have cl1 : W1.cell? ⟨gl, ol + I, none⟩ = some (.int .i64 x) := by rw [← cl]; exact q1.cell (p := ⟨gl, ol + I, none⟩) gll
            have gll1 : gl < W1.heap.size := by have := q1.size; omega
            have OW1' : Aside (OwnI W1 S (.slice (some ⟨g0, 0, none⟩) K co) r ∧ Below S w W1) := ⟨OW1, BW1⟩
            clear OW1 BW1 q1 hW1
            go_wp2_with fail
            go_quiet (fail)
            obtain ⟨W2, hW2⟩ : ∃ W2, W1.drewN nq = W2 := ⟨_, rfl⟩
            have q2 : Below W1.heap.size W1 W2 := by rw [← hW2]; exact below_drewN _ _
            rw [hW2]
            have OW := OW1'.out.1.below q2
            have BW : Below S w W2 := OW1'.out.2.trans (q2.mono SZ1)
            have SZ2 : S ≤ W2.heap.size := by have := q2.size; omega
            have cl2 : W2.cell? ⟨gl, ol + I, none⟩ = some (.int .i64 x) := by rw [← cl1]; exact q2.cell (p := ⟨gl, ol + I, none⟩) gll1
            have gll2 : gl < W2.heap.size := by have := q2.size; omega
            clear q2 hW2 OW1'
            have QI := OW
            rw [← hm] at QI
            have QI := QI.isIv
            have cbig : co ≤ 9223372036854775807 := by have := QI.big; unfold maxLen at this; omega
            by_cases cc : co = K
            · have cc := cc.symm
              subst cc
              have hx := HX.out
              have mr := MR.out
              have OP := QI.take K
              have OR := QI.drop K (by omega)
              rw [if_pos rfl, Nat.sub_self] at OR
              have hlP : (r.take K).length = K := by simp <;> omega
              have hlR : (r.drop K).length = 0 := by simp <;> omega
              obtain ⟨t, -⟩ := tyI
              have rP := OP.rd
              have rR := OR.rd
              rw [hlP] at rP
              rw [hlR] at rR
              have zsz : W2.drew.heap.size = W2.heap.size := rfl
              have bZ : Below W2.heap.size W2 W2.drew := (Below.refl _ _).drew
              have fin : ∀ (z3 : World) (v3 : Value), z3.ownsRow W2.drew.heap.size 3 1 v3 (K + 1 + 0) (cz (r.take K) ++ cz [x] ++ cz (r.drop K)) → Below W2.drew.heap.size W2.drew z3 → ∃ (ao' : Option Addr) (co' : Nat) (r' : List Int), v3 = .slice ao' r'.length co' ∧ ((ao' = none ∧ co' = 0 ∧ r' = []) ∨ ∃ g, ao' = some ⟨g, 0, none⟩) ∧ Up r' ∧ (∀ x, x ∈ r' ↔ x ∈ d.take (I + 1)) ∧ r'.length ≤ I + 1 ∧ OwnI z3 S (.slice ao' r'.length co') r' ∧ Below S w z3 := fun z3 v3 o3 b3 => by
                have hK' : K ≤ r.length := by omega
                have el : (r.take K ++ [x] ++ r.drop K).length = K + 1 + 0 := by simp <;> omega
                have oo : OwnI z3 S v3 (r.take K ++ [x] ++ r.drop K) := by
                  have : OwnI z3 W2.drew.heap.size v3 (r.take K ++ [x] ++ r.drop K) := by
                    unfold OwnI
                    rw [el, cz, List.map_append, List.map_append]
                    exact o3
                  exact this.low (by omega)
                obtain ⟨g, c, e⟩ := oo.addr (by simp)
                subst e
                refine ⟨_, c, _, rfl, .inr ⟨g, rfl⟩, ?_, fun y => ?_, ?_, oo, BW.trans ((bZ.trans (b3.mono (by omega))).mono SZ2)⟩
                · exact insUp.out
                · rw [mem_take_up (by omega), hx, ← mr, List.append_assoc, List.mem_append, List.mem_append, List.mem_singleton]
                  have : y ∈ r ↔ y ∈ r.take K ∨ y ∈ r.drop K := by rw [← List.mem_append, List.take_append_drop]
                  rw [this]
                  constructor
                  · rintro (h | h | h)
                    · exact .inl (.inl h)
                    · exact .inr h
                    · exact .inl (.inr h)
                  · rintro ((h | h) | h)
                    · exact .inl h
                    · exact .inr (.inr h)
                    · exact .inr (.inl h)
                · rw [el]; omega
              have A := ins3A (cP := K) (cR := 0) (Q := cz [x]) t W2.drew 24 (rP.below bZ) (rR.below bZ) rfl (cz_one _) (by omega)
              have Bb := ins3B (cP := K) (cR := 0) (Q := cz [x]) t W2.drew 24 (rP.below bZ) (rR.below bZ) rfl (cz_one _) (by omega)
              have C := ins3C (cP := K) (cR := 0) (Q := cz [x]) t W2.drew 24 (rP.below bZ) (rR.below bZ) rfl (cz_one _) (by omega)
              obtain ⟨v1a, z1a, v2a, z2a, v3a, z3a, r1a, b1a, r2a, b2a, r3a, o3a, b3a⟩ := A
              obtain ⟨v1b, z1b, v2b, z2b, v3b, z3b, r1b, b1b, r2b, b2b, r3b, o3b, b3b⟩ := Bb
              obtain ⟨v1c, z1c, v2c, z2c, v3c, z3c, r1c, b1c, r2c, b2c, r3c, o3c, b3c⟩ := C
              have Na : Aside _ := fin z3a v3a o3a b3a
              have Nb : Aside _ := fin z3b v3b o3b b3b
              have Nc : Aside _ := fin z3c v3c o3c b3c
              have bE : Below W2.drew.heap.size W2.drew (W2.drew.alloc (.cells #[] 3)) := (Below.refl _ _).alloc (Nat.le_refl _) _
              have bQ : Below W2.drew.heap.size W2.drew (W2.drew.alloc (.cells #[.int .i64 x] 3)) := (Below.refl _ _).alloc (Nat.le_refl _) _
              have bEQ : Below W2.drew.heap.size W2.drew ((W2.drew.alloc (.cells #[] 3)).alloc (.cells #[.int .i64 x] 3)) := bE.alloc bE.size _
              have bQE : Below W2.drew.heap.size W2.drew ((W2.drew.alloc (.cells #[.int .i64 x] 3)).alloc (.cells #[] 3)) := bQ.alloc bQ.size _
              have bAQ : Below W2.drew.heap.size W2.drew (z1a.alloc (.cells #[.int .i64 x] 3)) := b1a.alloc b1a.size _
              have b0 : Below W2.drew.heap.size W2.drew W2.drew := Below.refl _ _
              have KC : Aside (∀ v0, Below W2.drew.heap.size W2.drew v0 → v0.cell? ⟨gl, ol + I, none⟩ = some (.int .i64 x)) := fun v0 hb => by
                have h1 : W2.drew.cell? ⟨gl, ol + I, none⟩ = some (.int .i64 x) := cl2
                rw [← h1]
                exact hb.cell (p := ⟨gl, ol + I, none⟩) (by rw [zsz]; exact gll2)
              rw [zsz] at r1a r1b r2b r1c r2c
              have R1a : Hid _ := r1a
              have R2a : Hid _ := r2a
              have R3a : Hid _ := r3a
              have R1b : Hid _ := r1b
              have R2b : Hid _ := r2b
              have R3b : Hid _ := r3b
              have R1c : Hid _ := r1c
              have R2c : Hid _ := r2c
              have R3c : Hid _ := r3c
              clear r1a r2a r3a r1b r2b r3b r1c r2c r3c o3a o3b o3c fin rP rR OP OR bZ zsz OW insUp
              go_upto_region 9 with fail
              refine anyE_start (S := (fun v0 => v0.cell? ⟨gl, ol + I, none⟩ = some (.int .i64 x))) (L := 15) (by kernel_rfl) ?_
              refine anyE_take (i := 1) (oi := { dst := some 45, op := Op.move (Operand.tmp 3), type := 24, pos := "vergerref12.go:181", after := #[], guard := none }) (v := ?_) rfl (by kernel_rfl)  (by kernel_rfl) (by kernel_rfl) (by kernel_rfl) (fun _ _ _ h => h) (Or.inl ⟨by rfl, ?_⟩) (KC.out _ b0) ?_
              rotate_left
              · (intro w hSw; (try dsimp only at hSw); go_simp; try with_reducible rfl)
              simp only [Act.put, List.setIfInBounds_toArray, List.set_cons_zero, List.set_cons_succ]
              refine anyE_take (i := 2) (oi := { dst := some 46, op := Op.move (Operand.tmp 5), type := 3, pos := "vergerref12.go:181", after := #[], guard := none }) (v := ?_) rfl (by kernel_rfl)  (by kernel_rfl) (by kernel_rfl) (by kernel_rfl) (fun _ _ _ h => h) (Or.inl ⟨by rfl, ?_⟩) (KC.out _ b0) ?_
              rotate_left
              · (intro w hSw; (try dsimp only at hSw); go_simp; try with_reducible rfl)
              simp only [Act.put, List.setIfInBounds_toArray, List.set_cons_zero, List.set_cons_succ]
              refine anyE_take (i := 3) (oi := { dst := some 47, op := Op.slice 24 (Operand.tmp 45) none (some (Operand.tmp 46)) none, type := 24, pos := "vergerref12.go:181", after := #[{ on := 1, ground := Ground.data }, { on := 2, ground := Ground.data }], guard := none }) (v := ?_) rfl (by kernel_rfl)  (by kernel_rfl) (by kernel_rfl) (by kernel_rfl) (fun _ _ _ h => h) (Or.inl ⟨by rfl, ?_⟩) (KC.out _ b0) ?_
              rotate_left
              · (intro w hSw; (try dsimp only at hSw); go_simp; try with_reducible rfl)
              simp only [Act.put, List.setIfInBounds_toArray, List.set_cons_zero, List.set_cons_succ]
              refine anyE_take (i := 5) (oi := { dst := some 49, op := Op.move (Operand.tmp 0), type := 24, pos := "vergerref12.go:181", after := #[], guard := none }) (v := ?_) rfl (by kernel_rfl)  (by kernel_rfl) (by kernel_rfl) (by kernel_rfl) (fun _ _ _ h => h) (Or.inl ⟨by rfl, ?_⟩) (KC.out _ b0) ?_
              rotate_left
              · (intro w hSw; (try dsimp only at hSw); go_simp; try with_reducible rfl)
              simp only [Act.put, List.setIfInBounds_toArray, List.set_cons_zero, List.set_cons_succ]
              refine anyE_take (i := 6) (oi := { dst := some 50, op := Op.move (Operand.tmp 4), type := 3, pos := "vergerref12.go:181", after := #[], guard := none }) (v := ?_) rfl (by kernel_rfl)  (by kernel_rfl) (by kernel_rfl) (by kernel_rfl) (fun _ _ _ h => h) (Or.inl ⟨by rfl, ?_⟩) (KC.out _ b0) ?_
              rotate_left
              · (intro w hSw; (try dsimp only at hSw); go_simp; try with_reducible rfl)
              simp only [Act.put, List.setIfInBounds_toArray, List.set_cons_zero, List.set_cons_succ]
              refine anyE_take (i := 7) (oi := { dst := some 51, op := Op.indexAddr 24 (Operand.tmp 49) (Operand.tmp 50), type := 0, pos := "vergerref12.go:181", after := #[{ on := 5, ground := Ground.data }, { on := 6, ground := Ground.data }], guard := none }) (v := ?_) rfl (by kernel_rfl)  (by kernel_rfl) (by kernel_rfl) (by kernel_rfl) (fun _ _ _ h => h) (Or.inl ⟨by rfl, ?_⟩) (KC.out _ b0) ?_
              rotate_left
              · (intro w hSw; (try dsimp only at hSw); go_simp; try with_reducible rfl)
              simp only [Act.put, List.setIfInBounds_toArray, List.set_cons_zero, List.set_cons_succ]
              refine anyE_take (i := 8) (oi := { dst := some 52, op := Op.load 3 (Operand.tmp 51), type := 3, pos := "vergerref12.go:181", after := #[{ on := 7, ground := Ground.data }], guard := none }) (v := ?_) rfl (by kernel_rfl)  (by kernel_rfl) (by kernel_rfl) (by kernel_rfl) (fun _ _ _ h => h) (Or.inl ⟨by rfl, ?_⟩) (KC.out _ b0) ?_
              rotate_left
              · (intro w hSw; (try dsimp only at hSw); go_simp; try with_reducible rfl)
              simp only [Act.put, List.setIfInBounds_toArray, List.set_cons_zero, List.set_cons_succ]
              refine anyE_take (i := 11) (oi := { dst := some 55, op := Op.move (Operand.tmp 3), type := 24, pos := "vergerref12.go:181", after := #[], guard := none }) (v := ?_) rfl (by kernel_rfl)  (by kernel_rfl) (by kernel_rfl) (by kernel_rfl) (fun _ _ _ h => h) (Or.inl ⟨by rfl, ?_⟩) (KC.out _ b0) ?_
              rotate_left
              · (intro w hSw; (try dsimp only at hSw); go_simp; try with_reducible rfl)
              simp only [Act.put, List.setIfInBounds_toArray, List.set_cons_zero, List.set_cons_succ]
              refine anyE_take (i := 12) (oi := { dst := some 56, op := Op.move (Operand.tmp 5), type := 3, pos := "vergerref12.go:181", after := #[], guard := none }) (v := ?_) rfl (by kernel_rfl)  (by kernel_rfl) (by kernel_rfl) (by kernel_rfl) (fun _ _ _ h => h) (Or.inl ⟨by rfl, ?_⟩) (KC.out _ b0) ?_
              rotate_left
              · (intro w hSw; (try dsimp only at hSw); go_simp; try with_reducible rfl)
              simp only [Act.put, List.setIfInBounds_toArray, List.set_cons_zero, List.set_cons_succ]
              refine anyE_take (i := 13) (oi := { dst := some 57, op := Op.slice 24 (Operand.tmp 55) (some (Operand.tmp 56)) none none, type := 24, pos := "vergerref12.go:181", after := #[{ on := 11, ground := Ground.data }, { on := 12, ground := Ground.data }], guard := none }) (v := ?_) rfl (by kernel_rfl)  (by kernel_rfl) (by kernel_rfl) (by kernel_rfl) (fun _ _ _ h => h) (Or.inl ⟨by rfl, ?_⟩) (KC.out _ b0) ?_
              rotate_left
              · (intro w hSw; (try dsimp only at hSw); go_simp; try with_reducible rfl)
              simp only [Act.put, List.setIfInBounds_toArray, List.set_cons_zero, List.set_cons_succ]
              refine anyE_ready (rs := [0, 9]) (by kernel_rfl) (by simp) ?_
              refine AllE.cons (o := { dst := some 44, op := Op.buildSlice 24 0 #[], type := 24, pos := "vergerref12.go:181", after := #[], guard := none }) rfl (fun Kt hKt => ?_) ?_
              · go_simp
                refine hKt.out _ _ (fun _ => KC.out _ bE) ?_
                clear hKt Kt
                try simp only [Act.put, List.setIfInBounds_toArray, List.set_cons_zero, List.set_cons_succ]
                refine anyE_ready (rs := [4, 9]) (by kernel_rfl) (by simp) ?_
                refine AllE.cons (o := { dst := some 48, op := Op.call { callee := Callee.builtin Builtin.append, args := #[Operand.tmp 44, Operand.tmp 47], argTypes := #[24, 24] }, type := 24, pos := "vergerref12.go:181", after := #[{ on := 0, ground := Ground.data }, { on := 3, ground := Ground.data }], guard := none }) rfl (fun Kt hKt => ?_) ?_
                · refine step_app _ (by rfl) _ _ 24 24 (by rfl) (.slice (some ⟨W2.heap.size, 0, none⟩) 0 0) (.slice (some ⟨g0, 0, none⟩) K K) (by rfl) (by rfl) _ z1a R1a.out ?_
                  refine hKt.out _ _ (fun _ => KC.out _ b1a) ?_
                  clear hKt Kt
                  try simp only [Act.put, List.setIfInBounds_toArray, List.set_cons_zero, List.set_cons_succ]
                  refine anyE_ready (rs := [9]) (by kernel_rfl) (by simp) ?_
                  refine AllE.cons (o := { dst := some 53, op := Op.buildSlice 24 1 #[(0, Operand.tmp 52)], type := 24, pos := "vergerref12.go:181", after := #[{ on := 8, ground := Ground.data }], guard := none }) rfl (fun Kt hKt => ?_) ?_
                  · go_simp
                    refine hKt.out _ _ (fun _ => KC.out _ bAQ) ?_
                    clear hKt Kt
                    try simp only [Act.put, List.setIfInBounds_toArray, List.set_cons_zero, List.set_cons_succ]
                    refine anyE_ready (rs := [10]) (by kernel_rfl) (by simp) ?_
                    refine AllE.cons (o := { dst := some 54, op := Op.call { callee := Callee.builtin Builtin.append, args := #[Operand.tmp 48, Operand.tmp 53], argTypes := #[24, 24] }, type := 24, pos := "vergerref12.go:181", after := #[{ on := 4, ground := Ground.data }, { on := 9, ground := Ground.data }, { on := 4, ground := Ground.chain }], guard := none }) rfl (fun Kt hKt => ?_) ?_
                    · refine step_app _ (by rfl) _ _ 24 24 (by rfl) _ (.slice (some ⟨z1a.heap.size, 0, none⟩) 1 1) (by rfl) (by rfl) _ z2a R2a.out ?_
                      refine hKt.out _ _ (fun _ => KC.out _ b2a) ?_
                      clear hKt Kt
                      try simp only [Act.put, List.setIfInBounds_toArray, List.set_cons_zero, List.set_cons_succ]
                      refine anyE_ready (rs := [14]) (by kernel_rfl) (by simp) ?_
                      refine AllE.cons (o := { dst := some 58, op := Op.call { callee := Callee.builtin Builtin.append, args := #[Operand.tmp 54, Operand.tmp 57], argTypes := #[24, 24] }, type := 24, pos := "vergerref12.go:181", after := #[{ on := 10, ground := Ground.data }, { on := 13, ground := Ground.data }, { on := 10, ground := Ground.chain }], guard := none }) rfl (fun Kt hKt => ?_) ?_
                      · refine step_app _ (by rfl) _ _ 24 24 (by rfl) _ (.slice (some ⟨g0, 0, none⟩) 0 0) (by rfl) (by rfl) _ z3a R3a.out ?_
                        refine hKt.out _ _ (fun _ => KC.out _ b3a) ?_
                        clear hKt Kt
                        try simp only [Act.put, List.setIfInBounds_toArray, List.set_cons_zero, List.set_cons_succ]
                        refine anyE_ready (rs := [15]) (by kernel_rfl) (by simp) ?_
                        refine AllE.cons (o := { dst := some 3, op := Op.assign (Operand.tmp 58), type := 24, pos := "vergerref12.go:181", after := #[{ on := 14, ground := Ground.data }, { on := 14, ground := Ground.chain }, { on := 0, ground := Ground.phase }, { on := 1, ground := Ground.phase }, { on := 2, ground := Ground.phase }, { on := 3, ground := Ground.phase }, { on := 4, ground := Ground.phase }, { on := 5, ground := Ground.phase }, { on := 6, ground := Ground.phase }, { on := 7, ground := Ground.phase }, { on := 8, ground := Ground.phase }, { on := 9, ground := Ground.phase }, { on := 10, ground := Ground.phase }, { on := 11, ground := Ground.phase }, { on := 12, ground := Ground.phase }, { on := 13, ground := Ground.phase }, { on := 14, ground := Ground.phase }], guard := none }) rfl (fun Kt hKt => ?_) ?_
                        · go_simp
                          refine hKt.out _ _ (fun h => absurd rfl h) ?_
                          clear hKt Kt
                          try simp only [Act.put, List.setIfInBounds_toArray, List.set_cons_zero, List.set_cons_succ]
                          refine anyE_done (by kernel_rfl) ?_ _
                          go_wp2_with fail
                          go_roundw
                          case rel =>
                            obtain ⟨ao', co', r', e1, e2, e3, e4, e5, e6, e7⟩ := Na.out
                            exact ⟨I + 1, ao', co', r', by omega, by go_num, e1, e2, e3, e4, e5, e6, e7⟩
                          case measure => simp [intOf]; omega
                        exact AllE.nil
                      exact AllE.nil
                    exact AllE.nil
                  exact AllE.nil
                refine AllE.cons (o := { dst := some 53, op := Op.buildSlice 24 1 #[(0, Operand.tmp 52)], type := 24, pos := "vergerref12.go:181", after := #[{ on := 8, ground := Ground.data }], guard := none }) rfl (fun Kt hKt => ?_) ?_
                · go_simp
                  refine hKt.out _ _ (fun _ => KC.out _ bEQ) ?_
                  clear hKt Kt
                  try simp only [Act.put, List.setIfInBounds_toArray, List.set_cons_zero, List.set_cons_succ]
                  refine anyE_ready (rs := [4]) (by kernel_rfl) (by simp) ?_
                  refine AllE.cons (o := { dst := some 48, op := Op.call { callee := Callee.builtin Builtin.append, args := #[Operand.tmp 44, Operand.tmp 47], argTypes := #[24, 24] }, type := 24, pos := "vergerref12.go:181", after := #[{ on := 0, ground := Ground.data }, { on := 3, ground := Ground.data }], guard := none }) rfl (fun Kt hKt => ?_) ?_
                  · refine step_app _ (by rfl) _ _ 24 24 (by rfl) (.slice (some ⟨W2.heap.size, 0, none⟩) 0 0) (.slice (some ⟨g0, 0, none⟩) K K) (by rfl) (by rfl) _ z1b R1b.out ?_
                    refine hKt.out _ _ (fun _ => KC.out _ b1b) ?_
                    clear hKt Kt
                    try simp only [Act.put, List.setIfInBounds_toArray, List.set_cons_zero, List.set_cons_succ]
                    refine anyE_ready (rs := [10]) (by kernel_rfl) (by simp) ?_
                    refine AllE.cons (o := { dst := some 54, op := Op.call { callee := Callee.builtin Builtin.append, args := #[Operand.tmp 48, Operand.tmp 53], argTypes := #[24, 24] }, type := 24, pos := "vergerref12.go:181", after := #[{ on := 4, ground := Ground.data }, { on := 9, ground := Ground.data }, { on := 4, ground := Ground.chain }], guard := none }) rfl (fun Kt hKt => ?_) ?_
                    · refine step_app _ (by rfl) _ _ 24 24 (by rfl) _ (.slice (some ⟨W2.heap.size + 1, 0, none⟩) 1 1) (by rfl) (by rfl) _ z2b R2b.out ?_
                      refine hKt.out _ _ (fun _ => KC.out _ b2b) ?_
                      clear hKt Kt
                      try simp only [Act.put, List.setIfInBounds_toArray, List.set_cons_zero, List.set_cons_succ]
                      refine anyE_ready (rs := [14]) (by kernel_rfl) (by simp) ?_
                      refine AllE.cons (o := { dst := some 58, op := Op.call { callee := Callee.builtin Builtin.append, args := #[Operand.tmp 54, Operand.tmp 57], argTypes := #[24, 24] }, type := 24, pos := "vergerref12.go:181", after := #[{ on := 10, ground := Ground.data }, { on := 13, ground := Ground.data }, { on := 10, ground := Ground.chain }], guard := none }) rfl (fun Kt hKt => ?_) ?_
                      · refine step_app _ (by rfl) _ _ 24 24 (by rfl) _ (.slice (some ⟨g0, 0, none⟩) 0 0) (by rfl) (by rfl) _ z3b R3b.out ?_
                        refine hKt.out _ _ (fun _ => KC.out _ b3b) ?_
                        clear hKt Kt
                        try simp only [Act.put, List.setIfInBounds_toArray, List.set_cons_zero, List.set_cons_succ]
                        refine anyE_ready (rs := [15]) (by kernel_rfl) (by simp) ?_
                        refine AllE.cons (o := { dst := some 3, op := Op.assign (Operand.tmp 58), type := 24, pos := "vergerref12.go:181", after := #[{ on := 14, ground := Ground.data }, { on := 14, ground := Ground.chain }, { on := 0, ground := Ground.phase }, { on := 1, ground := Ground.phase }, { on := 2, ground := Ground.phase }, { on := 3, ground := Ground.phase }, { on := 4, ground := Ground.phase }, { on := 5, ground := Ground.phase }, { on := 6, ground := Ground.phase }, { on := 7, ground := Ground.phase }, { on := 8, ground := Ground.phase }, { on := 9, ground := Ground.phase }, { on := 10, ground := Ground.phase }, { on := 11, ground := Ground.phase }, { on := 12, ground := Ground.phase }, { on := 13, ground := Ground.phase }, { on := 14, ground := Ground.phase }], guard := none }) rfl (fun Kt hKt => ?_) ?_
                        · go_simp
                          refine hKt.out _ _ (fun h => absurd rfl h) ?_
                          clear hKt Kt
                          try simp only [Act.put, List.setIfInBounds_toArray, List.set_cons_zero, List.set_cons_succ]
                          refine anyE_done (by kernel_rfl) ?_ _
                          go_wp2_with fail
                          go_roundw
                          case rel =>
                            obtain ⟨ao', co', r', e1, e2, e3, e4, e5, e6, e7⟩ := Nb.out
                            exact ⟨I + 1, ao', co', r', by omega, by go_num, e1, e2, e3, e4, e5, e6, e7⟩
                          case measure => simp [intOf]; omega
                        exact AllE.nil
                      exact AllE.nil
                    exact AllE.nil
                  exact AllE.nil
                exact AllE.nil
              refine AllE.cons (o := { dst := some 53, op := Op.buildSlice 24 1 #[(0, Operand.tmp 52)], type := 24, pos := "vergerref12.go:181", after := #[{ on := 8, ground := Ground.data }], guard := none }) rfl (fun Kt hKt => ?_) ?_
              · go_simp
                refine hKt.out _ _ (fun _ => KC.out _ bQ) ?_
                clear hKt Kt
                try simp only [Act.put, List.setIfInBounds_toArray, List.set_cons_zero, List.set_cons_succ]
                refine anyE_ready (rs := [0]) (by kernel_rfl) (by simp) ?_
                refine AllE.cons (o := { dst := some 44, op := Op.buildSlice 24 0 #[], type := 24, pos := "vergerref12.go:181", after := #[], guard := none }) rfl (fun Kt hKt => ?_) ?_
                · go_simp
                  refine hKt.out _ _ (fun _ => KC.out _ bQE) ?_
                  clear hKt Kt
                  try simp only [Act.put, List.setIfInBounds_toArray, List.set_cons_zero, List.set_cons_succ]
                  refine anyE_ready (rs := [4]) (by kernel_rfl) (by simp) ?_
                  refine AllE.cons (o := { dst := some 48, op := Op.call { callee := Callee.builtin Builtin.append, args := #[Operand.tmp 44, Operand.tmp 47], argTypes := #[24, 24] }, type := 24, pos := "vergerref12.go:181", after := #[{ on := 0, ground := Ground.data }, { on := 3, ground := Ground.data }], guard := none }) rfl (fun Kt hKt => ?_) ?_
                  · refine step_app _ (by rfl) _ _ 24 24 (by rfl) (.slice (some ⟨W2.heap.size + 1, 0, none⟩) 0 0) (.slice (some ⟨g0, 0, none⟩) K K) (by rfl) (by rfl) _ z1c R1c.out ?_
                    refine hKt.out _ _ (fun _ => KC.out _ b1c) ?_
                    clear hKt Kt
                    try simp only [Act.put, List.setIfInBounds_toArray, List.set_cons_zero, List.set_cons_succ]
                    refine anyE_ready (rs := [10]) (by kernel_rfl) (by simp) ?_
                    refine AllE.cons (o := { dst := some 54, op := Op.call { callee := Callee.builtin Builtin.append, args := #[Operand.tmp 48, Operand.tmp 53], argTypes := #[24, 24] }, type := 24, pos := "vergerref12.go:181", after := #[{ on := 4, ground := Ground.data }, { on := 9, ground := Ground.data }, { on := 4, ground := Ground.chain }], guard := none }) rfl (fun Kt hKt => ?_) ?_
                    · refine step_app _ (by rfl) _ _ 24 24 (by rfl) _ (.slice (some ⟨W2.heap.size, 0, none⟩) 1 1) (by rfl) (by rfl) _ z2c R2c.out ?_
                      refine hKt.out _ _ (fun _ => KC.out _ b2c) ?_
                      clear hKt Kt
                      try simp only [Act.put, List.setIfInBounds_toArray, List.set_cons_zero, List.set_cons_succ]
                      refine anyE_ready (rs := [14]) (by kernel_rfl) (by simp) ?_
                      refine AllE.cons (o := { dst := some 58, op := Op.call { callee := Callee.builtin Builtin.append, args := #[Operand.tmp 54, Operand.tmp 57], argTypes := #[24, 24] }, type := 24, pos := "vergerref12.go:181", after := #[{ on := 10, ground := Ground.data }, { on := 13, ground := Ground.data }, { on := 10, ground := Ground.chain }], guard := none }) rfl (fun Kt hKt => ?_) ?_
                      · refine step_app _ (by rfl) _ _ 24 24 (by rfl) _ (.slice (some ⟨g0, 0, none⟩) 0 0) (by rfl) (by rfl) _ z3c R3c.out ?_
                        refine hKt.out _ _ (fun _ => KC.out _ b3c) ?_
                        clear hKt Kt
                        try simp only [Act.put, List.setIfInBounds_toArray, List.set_cons_zero, List.set_cons_succ]
                        refine anyE_ready (rs := [15]) (by kernel_rfl) (by simp) ?_
                        refine AllE.cons (o := { dst := some 3, op := Op.assign (Operand.tmp 58), type := 24, pos := "vergerref12.go:181", after := #[{ on := 14, ground := Ground.data }, { on := 14, ground := Ground.chain }, { on := 0, ground := Ground.phase }, { on := 1, ground := Ground.phase }, { on := 2, ground := Ground.phase }, { on := 3, ground := Ground.phase }, { on := 4, ground := Ground.phase }, { on := 5, ground := Ground.phase }, { on := 6, ground := Ground.phase }, { on := 7, ground := Ground.phase }, { on := 8, ground := Ground.phase }, { on := 9, ground := Ground.phase }, { on := 10, ground := Ground.phase }, { on := 11, ground := Ground.phase }, { on := 12, ground := Ground.phase }, { on := 13, ground := Ground.phase }, { on := 14, ground := Ground.phase }], guard := none }) rfl (fun Kt hKt => ?_) ?_
                        · go_simp
                          refine hKt.out _ _ (fun h => absurd rfl h) ?_
                          clear hKt Kt
                          try simp only [Act.put, List.setIfInBounds_toArray, List.set_cons_zero, List.set_cons_succ]
                          refine anyE_done (by kernel_rfl) ?_ _
                          go_wp2_with fail
                          go_roundw
                          case rel =>
                            obtain ⟨ao', co', r', e1, e2, e3, e4, e5, e6, e7⟩ := Nc.out
                            exact ⟨I + 1, ao', co', r', by omega, by go_num, e1, e2, e3, e4, e5, e6, e7⟩
                          case measure => simp [intOf]; omega
                        exact AllE.nil
                      exact AllE.nil
                    exact AllE.nil
                  exact AllE.nil
                exact AllE.nil
              exact AllE.nil
            · have hx := HX.out
              have mr := MR.out
              have cco : K < co := by have := QI.le; omega
              have cle : K ≤ co := by omega
              have OP := QI.take K
              have OR := QI.drop K (by omega)
              rw [if_neg cc, Option.map_some, Addr.add_lit, Nat.zero_add] at OR
              have hlP : (r.take K).length = K := by simp <;> omega
              have hlR : (r.drop K).length = 0 := by simp <;> omega
              obtain ⟨t, -⟩ := tyI
              have rP := OP.rd
              have rR := OR.rd
              rw [hlP] at rP
              rw [hlR] at rR
              have zsz : W2.drew.heap.size = W2.heap.size := rfl
              have bZ : Below W2.heap.size W2 W2.drew := (Below.refl _ _).drew
              have fin : ∀ (z3 : World) (v3 : Value), z3.ownsRow W2.drew.heap.size 3 1 v3 (K + 1 + 0) (cz (r.take K) ++ cz [x] ++ cz (r.drop K)) → Below W2.drew.heap.size W2.drew z3 → ∃ (ao' : Option Addr) (co' : Nat) (r' : List Int), v3 = .slice ao' r'.length co' ∧ ((ao' = none ∧ co' = 0 ∧ r' = []) ∨ ∃ g, ao' = some ⟨g, 0, none⟩) ∧ Up r' ∧ (∀ x, x ∈ r' ↔ x ∈ d.take (I + 1)) ∧ r'.length ≤ I + 1 ∧ OwnI z3 S (.slice ao' r'.length co') r' ∧ Below S w z3 := fun z3 v3 o3 b3 => by
                have hK' : K ≤ r.length := by omega
                have el : (r.take K ++ [x] ++ r.drop K).length = K + 1 + 0 := by simp <;> omega
                have oo : OwnI z3 S v3 (r.take K ++ [x] ++ r.drop K) := by
                  have : OwnI z3 W2.drew.heap.size v3 (r.take K ++ [x] ++ r.drop K) := by
                    unfold OwnI
                    rw [el, cz, List.map_append, List.map_append]
                    exact o3
                  exact this.low (by omega)
                obtain ⟨g, c, e⟩ := oo.addr (by simp)
                subst e
                refine ⟨_, c, _, rfl, .inr ⟨g, rfl⟩, ?_, fun y => ?_, ?_, oo, BW.trans ((bZ.trans (b3.mono (by omega))).mono SZ2)⟩
                · exact insUp.out
                · rw [mem_take_up (by omega), hx, ← mr, List.append_assoc, List.mem_append, List.mem_append, List.mem_singleton]
                  have : y ∈ r ↔ y ∈ r.take K ∨ y ∈ r.drop K := by rw [← List.mem_append, List.take_append_drop]
                  rw [this]
                  constructor
                  · rintro (h | h | h)
                    · exact .inl (.inl h)
                    · exact .inr h
                    · exact .inl (.inr h)
                  · rintro ((h | h) | h)
                    · exact .inl h
                    · exact .inr (.inr h)
                    · exact .inr (.inl h)
                · rw [el]; omega
              have A := ins3A (cP := co) (cR := (co - K)) (Q := cz [x]) t W2.drew 24 (rP.below bZ) (rR.below bZ) rfl (cz_one _) (by omega)
              have Bb := ins3B (cP := co) (cR := (co - K)) (Q := cz [x]) t W2.drew 24 (rP.below bZ) (rR.below bZ) rfl (cz_one _) (by omega)
              have C := ins3C (cP := co) (cR := (co - K)) (Q := cz [x]) t W2.drew 24 (rP.below bZ) (rR.below bZ) rfl (cz_one _) (by omega)
              obtain ⟨v1a, z1a, v2a, z2a, v3a, z3a, r1a, b1a, r2a, b2a, r3a, o3a, b3a⟩ := A
              obtain ⟨v1b, z1b, v2b, z2b, v3b, z3b, r1b, b1b, r2b, b2b, r3b, o3b, b3b⟩ := Bb
              obtain ⟨v1c, z1c, v2c, z2c, v3c, z3c, r1c, b1c, r2c, b2c, r3c, o3c, b3c⟩ := C
              have Na : Aside _ := fin z3a v3a o3a b3a
              have Nb : Aside _ := fin z3b v3b o3b b3b
              have Nc : Aside _ := fin z3c v3c o3c b3c
              have bE : Below W2.drew.heap.size W2.drew (W2.drew.alloc (.cells #[] 3)) := (Below.refl _ _).alloc (Nat.le_refl _) _
              have bQ : Below W2.drew.heap.size W2.drew (W2.drew.alloc (.cells #[.int .i64 x] 3)) := (Below.refl _ _).alloc (Nat.le_refl _) _
              have bEQ : Below W2.drew.heap.size W2.drew ((W2.drew.alloc (.cells #[] 3)).alloc (.cells #[.int .i64 x] 3)) := bE.alloc bE.size _
              have bQE : Below W2.drew.heap.size W2.drew ((W2.drew.alloc (.cells #[.int .i64 x] 3)).alloc (.cells #[] 3)) := bQ.alloc bQ.size _
              have bAQ : Below W2.drew.heap.size W2.drew (z1a.alloc (.cells #[.int .i64 x] 3)) := b1a.alloc b1a.size _
              have b0 : Below W2.drew.heap.size W2.drew W2.drew := Below.refl _ _
              have KC : Aside (∀ v0, Below W2.drew.heap.size W2.drew v0 → v0.cell? ⟨gl, ol + I, none⟩ = some (.int .i64 x)) := fun v0 hb => by
                have h1 : W2.drew.cell? ⟨gl, ol + I, none⟩ = some (.int .i64 x) := cl2
                rw [← h1]
                exact hb.cell (p := ⟨gl, ol + I, none⟩) (by rw [zsz]; exact gll2)
              rw [zsz] at r1a r1b r2b r1c r2c
              have R1a : Hid _ := r1a
              have R2a : Hid _ := r2a
              have R3a : Hid _ := r3a
              have R1b : Hid _ := r1b
              have R2b : Hid _ := r2b
              have R3b : Hid _ := r3b
              have R1c : Hid _ := r1c
              have R2c : Hid _ := r2c
              have R3c : Hid _ := r3c
              clear r1a r2a r3a r1b r2b r3b r1c r2c r3c o3a o3b o3c fin rP rR OP OR bZ zsz OW insUp
              go_upto_region 9 with fail
              refine anyE_start (S := (fun v0 => v0.cell? ⟨gl, ol + I, none⟩ = some (.int .i64 x))) (L := 15) (by kernel_rfl) ?_
              refine anyE_take (i := 1) (oi := { dst := some 45, op := Op.move (Operand.tmp 3), type := 24, pos := "vergerref12.go:181", after := #[], guard := none }) (v := ?_) rfl (by kernel_rfl)  (by kernel_rfl) (by kernel_rfl) (by kernel_rfl) (fun _ _ _ h => h) (Or.inl ⟨by rfl, ?_⟩) (KC.out _ b0) ?_
              rotate_left
              · (intro w hSw; (try dsimp only at hSw); go_simp; try with_reducible rfl)
              simp only [Act.put, List.setIfInBounds_toArray, List.set_cons_zero, List.set_cons_succ]
              refine anyE_take (i := 2) (oi := { dst := some 46, op := Op.move (Operand.tmp 5), type := 3, pos := "vergerref12.go:181", after := #[], guard := none }) (v := ?_) rfl (by kernel_rfl)  (by kernel_rfl) (by kernel_rfl) (by kernel_rfl) (fun _ _ _ h => h) (Or.inl ⟨by rfl, ?_⟩) (KC.out _ b0) ?_
              rotate_left
              · (intro w hSw; (try dsimp only at hSw); go_simp; try with_reducible rfl)
              simp only [Act.put, List.setIfInBounds_toArray, List.set_cons_zero, List.set_cons_succ]
              refine anyE_take (i := 3) (oi := { dst := some 47, op := Op.slice 24 (Operand.tmp 45) none (some (Operand.tmp 46)) none, type := 24, pos := "vergerref12.go:181", after := #[{ on := 1, ground := Ground.data }, { on := 2, ground := Ground.data }], guard := none }) (v := ?_) rfl (by kernel_rfl)  (by kernel_rfl) (by kernel_rfl) (by kernel_rfl) (fun _ _ _ h => h) (Or.inl ⟨by rfl, ?_⟩) (KC.out _ b0) ?_
              rotate_left
              · (intro w hSw; (try dsimp only at hSw); go_simp; try with_reducible rfl)
              simp only [Act.put, List.setIfInBounds_toArray, List.set_cons_zero, List.set_cons_succ]
              refine anyE_take (i := 5) (oi := { dst := some 49, op := Op.move (Operand.tmp 0), type := 24, pos := "vergerref12.go:181", after := #[], guard := none }) (v := ?_) rfl (by kernel_rfl)  (by kernel_rfl) (by kernel_rfl) (by kernel_rfl) (fun _ _ _ h => h) (Or.inl ⟨by rfl, ?_⟩) (KC.out _ b0) ?_
              rotate_left
              · (intro w hSw; (try dsimp only at hSw); go_simp; try with_reducible rfl)
              simp only [Act.put, List.setIfInBounds_toArray, List.set_cons_zero, List.set_cons_succ]
              refine anyE_take (i := 6) (oi := { dst := some 50, op := Op.move (Operand.tmp 4), type := 3, pos := "vergerref12.go:181", after := #[], guard := none }) (v := ?_) rfl (by kernel_rfl)  (by kernel_rfl) (by kernel_rfl) (by kernel_rfl) (fun _ _ _ h => h) (Or.inl ⟨by rfl, ?_⟩) (KC.out _ b0) ?_
              rotate_left
              · (intro w hSw; (try dsimp only at hSw); go_simp; try with_reducible rfl)
              simp only [Act.put, List.setIfInBounds_toArray, List.set_cons_zero, List.set_cons_succ]
              refine anyE_take (i := 7) (oi := { dst := some 51, op := Op.indexAddr 24 (Operand.tmp 49) (Operand.tmp 50), type := 0, pos := "vergerref12.go:181", after := #[{ on := 5, ground := Ground.data }, { on := 6, ground := Ground.data }], guard := none }) (v := ?_) rfl (by kernel_rfl)  (by kernel_rfl) (by kernel_rfl) (by kernel_rfl) (fun _ _ _ h => h) (Or.inl ⟨by rfl, ?_⟩) (KC.out _ b0) ?_
              rotate_left
              · (intro w hSw; (try dsimp only at hSw); go_simp; try with_reducible rfl)
              simp only [Act.put, List.setIfInBounds_toArray, List.set_cons_zero, List.set_cons_succ]
              refine anyE_take (i := 8) (oi := { dst := some 52, op := Op.load 3 (Operand.tmp 51), type := 3, pos := "vergerref12.go:181", after := #[{ on := 7, ground := Ground.data }], guard := none }) (v := ?_) rfl (by kernel_rfl)  (by kernel_rfl) (by kernel_rfl) (by kernel_rfl) (fun _ _ _ h => h) (Or.inl ⟨by rfl, ?_⟩) (KC.out _ b0) ?_
              rotate_left
              · (intro w hSw; (try dsimp only at hSw); go_simp; try with_reducible rfl)
              simp only [Act.put, List.setIfInBounds_toArray, List.set_cons_zero, List.set_cons_succ]
              refine anyE_take (i := 11) (oi := { dst := some 55, op := Op.move (Operand.tmp 3), type := 24, pos := "vergerref12.go:181", after := #[], guard := none }) (v := ?_) rfl (by kernel_rfl)  (by kernel_rfl) (by kernel_rfl) (by kernel_rfl) (fun _ _ _ h => h) (Or.inl ⟨by rfl, ?_⟩) (KC.out _ b0) ?_
              rotate_left
              · (intro w hSw; (try dsimp only at hSw); go_simp; try with_reducible rfl)
              simp only [Act.put, List.setIfInBounds_toArray, List.set_cons_zero, List.set_cons_succ]
              refine anyE_take (i := 12) (oi := { dst := some 56, op := Op.move (Operand.tmp 5), type := 3, pos := "vergerref12.go:181", after := #[], guard := none }) (v := ?_) rfl (by kernel_rfl)  (by kernel_rfl) (by kernel_rfl) (by kernel_rfl) (fun _ _ _ h => h) (Or.inl ⟨by rfl, ?_⟩) (KC.out _ b0) ?_
              rotate_left
              · (intro w hSw; (try dsimp only at hSw); go_simp; try with_reducible rfl)
              simp only [Act.put, List.setIfInBounds_toArray, List.set_cons_zero, List.set_cons_succ]
              refine anyE_take (i := 13) (oi := { dst := some 57, op := Op.slice 24 (Operand.tmp 55) (some (Operand.tmp 56)) none none, type := 24, pos := "vergerref12.go:181", after := #[{ on := 11, ground := Ground.data }, { on := 12, ground := Ground.data }], guard := none }) (v := ?_) rfl (by kernel_rfl)  (by kernel_rfl) (by kernel_rfl) (by kernel_rfl) (fun _ _ _ h => h) (Or.inl ⟨by rfl, ?_⟩) (KC.out _ b0) ?_
              rotate_left
              · (intro w hSw; (try dsimp only at hSw); go_simp; try with_reducible rfl)
              simp only [Act.put, List.setIfInBounds_toArray, List.set_cons_zero, List.set_cons_succ]
              refine anyE_ready (rs := [0, 9]) (by kernel_rfl) (by simp) ?_
              refine AllE.cons (o := { dst := some 44, op := Op.buildSlice 24 0 #[], type := 24, pos := "vergerref12.go:181", after := #[], guard := none }) rfl (fun Kt hKt => ?_) ?_
              · go_simp
                refine hKt.out _ _ (fun _ => KC.out _ bE) ?_
                clear hKt Kt
                try simp only [Act.put, List.setIfInBounds_toArray, List.set_cons_zero, List.set_cons_succ]
                refine anyE_ready (rs := [4, 9]) (by kernel_rfl) (by simp) ?_
                refine AllE.cons (o := { dst := some 48, op := Op.call { callee := Callee.builtin Builtin.append, args := #[Operand.tmp 44, Operand.tmp 47], argTypes := #[24, 24] }, type := 24, pos := "vergerref12.go:181", after := #[{ on := 0, ground := Ground.data }, { on := 3, ground := Ground.data }], guard := none }) rfl (fun Kt hKt => ?_) ?_
                · refine step_app _ (by rfl) _ _ 24 24 (by rfl) (.slice (some ⟨W2.heap.size, 0, none⟩) 0 0) (.slice (some ⟨g0, 0, none⟩) K co) (by rfl) (by rfl) _ z1a R1a.out ?_
                  refine hKt.out _ _ (fun _ => KC.out _ b1a) ?_
                  clear hKt Kt
                  try simp only [Act.put, List.setIfInBounds_toArray, List.set_cons_zero, List.set_cons_succ]
                  refine anyE_ready (rs := [9]) (by kernel_rfl) (by simp) ?_
                  refine AllE.cons (o := { dst := some 53, op := Op.buildSlice 24 1 #[(0, Operand.tmp 52)], type := 24, pos := "vergerref12.go:181", after := #[{ on := 8, ground := Ground.data }], guard := none }) rfl (fun Kt hKt => ?_) ?_
                  · go_simp
                    refine hKt.out _ _ (fun _ => KC.out _ bAQ) ?_
                    clear hKt Kt
                    try simp only [Act.put, List.setIfInBounds_toArray, List.set_cons_zero, List.set_cons_succ]
                    refine anyE_ready (rs := [10]) (by kernel_rfl) (by simp) ?_
                    refine AllE.cons (o := { dst := some 54, op := Op.call { callee := Callee.builtin Builtin.append, args := #[Operand.tmp 48, Operand.tmp 53], argTypes := #[24, 24] }, type := 24, pos := "vergerref12.go:181", after := #[{ on := 4, ground := Ground.data }, { on := 9, ground := Ground.data }, { on := 4, ground := Ground.chain }], guard := none }) rfl (fun Kt hKt => ?_) ?_
                    · refine step_app _ (by rfl) _ _ 24 24 (by rfl) _ (.slice (some ⟨z1a.heap.size, 0, none⟩) 1 1) (by rfl) (by rfl) _ z2a R2a.out ?_
                      refine hKt.out _ _ (fun _ => KC.out _ b2a) ?_
                      clear hKt Kt
                      try simp only [Act.put, List.setIfInBounds_toArray, List.set_cons_zero, List.set_cons_succ]
                      refine anyE_ready (rs := [14]) (by kernel_rfl) (by simp) ?_
                      refine AllE.cons (o := { dst := some 58, op := Op.call { callee := Callee.builtin Builtin.append, args := #[Operand.tmp 54, Operand.tmp 57], argTypes := #[24, 24] }, type := 24, pos := "vergerref12.go:181", after := #[{ on := 10, ground := Ground.data }, { on := 13, ground := Ground.data }, { on := 10, ground := Ground.chain }], guard := none }) rfl (fun Kt hKt => ?_) ?_
                      · refine step_app _ (by rfl) _ _ 24 24 (by rfl) _ (.slice (some ⟨g0, K, none⟩) 0 (co - K)) (by rfl) (by rfl) _ z3a R3a.out ?_
                        refine hKt.out _ _ (fun _ => KC.out _ b3a) ?_
                        clear hKt Kt
                        try simp only [Act.put, List.setIfInBounds_toArray, List.set_cons_zero, List.set_cons_succ]
                        refine anyE_ready (rs := [15]) (by kernel_rfl) (by simp) ?_
                        refine AllE.cons (o := { dst := some 3, op := Op.assign (Operand.tmp 58), type := 24, pos := "vergerref12.go:181", after := #[{ on := 14, ground := Ground.data }, { on := 14, ground := Ground.chain }, { on := 0, ground := Ground.phase }, { on := 1, ground := Ground.phase }, { on := 2, ground := Ground.phase }, { on := 3, ground := Ground.phase }, { on := 4, ground := Ground.phase }, { on := 5, ground := Ground.phase }, { on := 6, ground := Ground.phase }, { on := 7, ground := Ground.phase }, { on := 8, ground := Ground.phase }, { on := 9, ground := Ground.phase }, { on := 10, ground := Ground.phase }, { on := 11, ground := Ground.phase }, { on := 12, ground := Ground.phase }, { on := 13, ground := Ground.phase }, { on := 14, ground := Ground.phase }], guard := none }) rfl (fun Kt hKt => ?_) ?_
                        · go_simp
                          refine hKt.out _ _ (fun h => absurd rfl h) ?_
                          clear hKt Kt
                          try simp only [Act.put, List.setIfInBounds_toArray, List.set_cons_zero, List.set_cons_succ]
                          refine anyE_done (by kernel_rfl) ?_ _
                          go_wp2_with fail
                          go_roundw
                          case rel =>
                            obtain ⟨ao', co', r', e1, e2, e3, e4, e5, e6, e7⟩ := Na.out
                            exact ⟨I + 1, ao', co', r', by omega, by go_num, e1, e2, e3, e4, e5, e6, e7⟩
                          case measure => simp [intOf]; omega
                        exact AllE.nil
                      exact AllE.nil
                    exact AllE.nil
                  exact AllE.nil
                refine AllE.cons (o := { dst := some 53, op := Op.buildSlice 24 1 #[(0, Operand.tmp 52)], type := 24, pos := "vergerref12.go:181", after := #[{ on := 8, ground := Ground.data }], guard := none }) rfl (fun Kt hKt => ?_) ?_
                · go_simp
                  refine hKt.out _ _ (fun _ => KC.out _ bEQ) ?_
                  clear hKt Kt
                  try simp only [Act.put, List.setIfInBounds_toArray, List.set_cons_zero, List.set_cons_succ]
                  refine anyE_ready (rs := [4]) (by kernel_rfl) (by simp) ?_
                  refine AllE.cons (o := { dst := some 48, op := Op.call { callee := Callee.builtin Builtin.append, args := #[Operand.tmp 44, Operand.tmp 47], argTypes := #[24, 24] }, type := 24, pos := "vergerref12.go:181", after := #[{ on := 0, ground := Ground.data }, { on := 3, ground := Ground.data }], guard := none }) rfl (fun Kt hKt => ?_) ?_
                  · refine step_app _ (by rfl) _ _ 24 24 (by rfl) (.slice (some ⟨W2.heap.size, 0, none⟩) 0 0) (.slice (some ⟨g0, 0, none⟩) K co) (by rfl) (by rfl) _ z1b R1b.out ?_
                    refine hKt.out _ _ (fun _ => KC.out _ b1b) ?_
                    clear hKt Kt
                    try simp only [Act.put, List.setIfInBounds_toArray, List.set_cons_zero, List.set_cons_succ]
                    refine anyE_ready (rs := [10]) (by kernel_rfl) (by simp) ?_
                    refine AllE.cons (o := { dst := some 54, op := Op.call { callee := Callee.builtin Builtin.append, args := #[Operand.tmp 48, Operand.tmp 53], argTypes := #[24, 24] }, type := 24, pos := "vergerref12.go:181", after := #[{ on := 4, ground := Ground.data }, { on := 9, ground := Ground.data }, { on := 4, ground := Ground.chain }], guard := none }) rfl (fun Kt hKt => ?_) ?_
                    · refine step_app _ (by rfl) _ _ 24 24 (by rfl) _ (.slice (some ⟨W2.heap.size + 1, 0, none⟩) 1 1) (by rfl) (by rfl) _ z2b R2b.out ?_
                      refine hKt.out _ _ (fun _ => KC.out _ b2b) ?_
                      clear hKt Kt
                      try simp only [Act.put, List.setIfInBounds_toArray, List.set_cons_zero, List.set_cons_succ]
                      refine anyE_ready (rs := [14]) (by kernel_rfl) (by simp) ?_
                      refine AllE.cons (o := { dst := some 58, op := Op.call { callee := Callee.builtin Builtin.append, args := #[Operand.tmp 54, Operand.tmp 57], argTypes := #[24, 24] }, type := 24, pos := "vergerref12.go:181", after := #[{ on := 10, ground := Ground.data }, { on := 13, ground := Ground.data }, { on := 10, ground := Ground.chain }], guard := none }) rfl (fun Kt hKt => ?_) ?_
                      · refine step_app _ (by rfl) _ _ 24 24 (by rfl) _ (.slice (some ⟨g0, K, none⟩) 0 (co - K)) (by rfl) (by rfl) _ z3b R3b.out ?_
                        refine hKt.out _ _ (fun _ => KC.out _ b3b) ?_
                        clear hKt Kt
                        try simp only [Act.put, List.setIfInBounds_toArray, List.set_cons_zero, List.set_cons_succ]
                        refine anyE_ready (rs := [15]) (by kernel_rfl) (by simp) ?_
                        refine AllE.cons (o := { dst := some 3, op := Op.assign (Operand.tmp 58), type := 24, pos := "vergerref12.go:181", after := #[{ on := 14, ground := Ground.data }, { on := 14, ground := Ground.chain }, { on := 0, ground := Ground.phase }, { on := 1, ground := Ground.phase }, { on := 2, ground := Ground.phase }, { on := 3, ground := Ground.phase }, { on := 4, ground := Ground.phase }, { on := 5, ground := Ground.phase }, { on := 6, ground := Ground.phase }, { on := 7, ground := Ground.phase }, { on := 8, ground := Ground.phase }, { on := 9, ground := Ground.phase }, { on := 10, ground := Ground.phase }, { on := 11, ground := Ground.phase }, { on := 12, ground := Ground.phase }, { on := 13, ground := Ground.phase }, { on := 14, ground := Ground.phase }], guard := none }) rfl (fun Kt hKt => ?_) ?_
                        · go_simp
                          refine hKt.out _ _ (fun h => absurd rfl h) ?_
                          clear hKt Kt
                          try simp only [Act.put, List.setIfInBounds_toArray, List.set_cons_zero, List.set_cons_succ]
                          refine anyE_done (by kernel_rfl) ?_ _
                          go_wp2_with fail
                          go_roundw
                          case rel =>
                            obtain ⟨ao', co', r', e1, e2, e3, e4, e5, e6, e7⟩ := Nb.out
                            exact ⟨I + 1, ao', co', r', by omega, by go_num, e1, e2, e3, e4, e5, e6, e7⟩
                          case measure => simp [intOf]; omega
                        exact AllE.nil
                      exact AllE.nil
                    exact AllE.nil
                  exact AllE.nil
                exact AllE.nil
              refine AllE.cons (o := { dst := some 53, op := Op.buildSlice 24 1 #[(0, Operand.tmp 52)], type := 24, pos := "vergerref12.go:181", after := #[{ on := 8, ground := Ground.data }], guard := none }) rfl (fun Kt hKt => ?_) ?_
              · go_simp
                refine hKt.out _ _ (fun _ => KC.out _ bQ) ?_
                clear hKt Kt
                try simp only [Act.put, List.setIfInBounds_toArray, List.set_cons_zero, List.set_cons_succ]
                refine anyE_ready (rs := [0]) (by kernel_rfl) (by simp) ?_
                refine AllE.cons (o := { dst := some 44, op := Op.buildSlice 24 0 #[], type := 24, pos := "vergerref12.go:181", after := #[], guard := none }) rfl (fun Kt hKt => ?_) ?_
                · go_simp
                  refine hKt.out _ _ (fun _ => KC.out _ bQE) ?_
                  clear hKt Kt
                  try simp only [Act.put, List.setIfInBounds_toArray, List.set_cons_zero, List.set_cons_succ]
                  refine anyE_ready (rs := [4]) (by kernel_rfl) (by simp) ?_
                  refine AllE.cons (o := { dst := some 48, op := Op.call { callee := Callee.builtin Builtin.append, args := #[Operand.tmp 44, Operand.tmp 47], argTypes := #[24, 24] }, type := 24, pos := "vergerref12.go:181", after := #[{ on := 0, ground := Ground.data }, { on := 3, ground := Ground.data }], guard := none }) rfl (fun Kt hKt => ?_) ?_
                  · refine step_app _ (by rfl) _ _ 24 24 (by rfl) (.slice (some ⟨W2.heap.size + 1, 0, none⟩) 0 0) (.slice (some ⟨g0, 0, none⟩) K co) (by rfl) (by rfl) _ z1c R1c.out ?_
                    refine hKt.out _ _ (fun _ => KC.out _ b1c) ?_
                    clear hKt Kt
                    try simp only [Act.put, List.setIfInBounds_toArray, List.set_cons_zero, List.set_cons_succ]
                    refine anyE_ready (rs := [10]) (by kernel_rfl) (by simp) ?_
                    refine AllE.cons (o := { dst := some 54, op := Op.call { callee := Callee.builtin Builtin.append, args := #[Operand.tmp 48, Operand.tmp 53], argTypes := #[24, 24] }, type := 24, pos := "vergerref12.go:181", after := #[{ on := 4, ground := Ground.data }, { on := 9, ground := Ground.data }, { on := 4, ground := Ground.chain }], guard := none }) rfl (fun Kt hKt => ?_) ?_
                    · refine step_app _ (by rfl) _ _ 24 24 (by rfl) _ (.slice (some ⟨W2.heap.size, 0, none⟩) 1 1) (by rfl) (by rfl) _ z2c R2c.out ?_
                      refine hKt.out _ _ (fun _ => KC.out _ b2c) ?_
                      clear hKt Kt
                      try simp only [Act.put, List.setIfInBounds_toArray, List.set_cons_zero, List.set_cons_succ]
                      refine anyE_ready (rs := [14]) (by kernel_rfl) (by simp) ?_
                      refine AllE.cons (o := { dst := some 58, op := Op.call { callee := Callee.builtin Builtin.append, args := #[Operand.tmp 54, Operand.tmp 57], argTypes := #[24, 24] }, type := 24, pos := "vergerref12.go:181", after := #[{ on := 10, ground := Ground.data }, { on := 13, ground := Ground.data }, { on := 10, ground := Ground.chain }], guard := none }) rfl (fun Kt hKt => ?_) ?_
                      · refine step_app _ (by rfl) _ _ 24 24 (by rfl) _ (.slice (some ⟨g0, K, none⟩) 0 (co - K)) (by rfl) (by rfl) _ z3c R3c.out ?_
                        refine hKt.out _ _ (fun _ => KC.out _ b3c) ?_
                        clear hKt Kt
                        try simp only [Act.put, List.setIfInBounds_toArray, List.set_cons_zero, List.set_cons_succ]
                        refine anyE_ready (rs := [15]) (by kernel_rfl) (by simp) ?_
                        refine AllE.cons (o := { dst := some 3, op := Op.assign (Operand.tmp 58), type := 24, pos := "vergerref12.go:181", after := #[{ on := 14, ground := Ground.data }, { on := 14, ground := Ground.chain }, { on := 0, ground := Ground.phase }, { on := 1, ground := Ground.phase }, { on := 2, ground := Ground.phase }, { on := 3, ground := Ground.phase }, { on := 4, ground := Ground.phase }, { on := 5, ground := Ground.phase }, { on := 6, ground := Ground.phase }, { on := 7, ground := Ground.phase }, { on := 8, ground := Ground.phase }, { on := 9, ground := Ground.phase }, { on := 10, ground := Ground.phase }, { on := 11, ground := Ground.phase }, { on := 12, ground := Ground.phase }, { on := 13, ground := Ground.phase }, { on := 14, ground := Ground.phase }], guard := none }) rfl (fun Kt hKt => ?_) ?_
                        · go_simp
                          refine hKt.out _ _ (fun h => absurd rfl h) ?_
                          clear hKt Kt
                          try simp only [Act.put, List.setIfInBounds_toArray, List.set_cons_zero, List.set_cons_succ]
                          refine anyE_done (by kernel_rfl) ?_ _
                          go_wp2_with fail
                          go_roundw
                          case rel =>
                            obtain ⟨ao', co', r', e1, e2, e3, e4, e5, e6, e7⟩ := Nc.out
                            exact ⟨I + 1, ao', co', r', by omega, by go_num, e1, e2, e3, e4, e5, e6, e7⟩
                          case measure => simp [intOf]; omega
                        exact AllE.nil
                      exact AllE.nil
                    exact AllE.nil
                  exact AllE.nil
                exact AllE.nil
              exact AllE.nil
    · obtain rfl : I = n := by omega
      have FIN : Aside (∃ v r', Ending.returned (.slice ao m co) = .returned v ∧ OwnI wr S v r' ∧ Up r' ∧ (∀ x, x ∈ r' ↔ x ∈ d) ∧ r'.length ≤ I ∧ Below S w wr) := ⟨_, r, rfl, OW, ur, fun x => by rw [mr, List.take_of_length_le (by omega)], by omega, BW⟩
      clear OW BW ur mr lr shape
      go_wp2_with fail
      go_ret
      first | exact FIN.out | (rw [hS]; exact FIN.out)
end Go.Proofs.Ythpdnlokjhafeaa
