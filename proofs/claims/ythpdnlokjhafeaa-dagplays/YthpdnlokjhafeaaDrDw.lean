/- The document's Done: its walk. -/
import Derived.Test.YthpdnlokjhafeaaDrD
namespace Go.Proofs.Ythpdnlokjhafeaa
open Go.RowKit Go.Lib
set_option linter.unusedVariables false
variable {w : World} {Y : Nat → Prop} {F : Nat} {R : List Rw} {E : Rel} {id : Int}
theorem RD.rowAll (h : RD w Y F R) {J : Nat} (hJ : J < R.length) : ∃ b off rc r p pc, R[J]? = some r ∧ r ∈ R ∧ ∀ v, Below w.heap.size w v → v.cell? ⟨F, 0, none⟩ = some (.slice (some ⟨b, off, none⟩) R.length rc) ∧ v.cell? ⟨b, off + J * 2, none⟩ = some (.int .i64 r.id) ∧ v.cell? ⟨b, off + J * 2 + 1, none⟩ = some (.slice p r.ps.length pc) ∧ IsI v p pc r.ps := by
  obtain ⟨ra, rc, hc, q⟩ := h.cell
  obtain ⟨b, off, r, rfl, er, hr, hb, h1, h2⟩ := q.at hJ
  obtain ⟨p, pc, ev, qv, _⟩ := h.pre r hr
  rw [ev] at h2
  refine ⟨b, off, rc, r, p, pc, er, hr, fun v hv => ⟨by rw [← hc]; exact hv.cell (p := ⟨F, 0, none⟩) h.lt, by rw [← h1]; exact hv.cell (p := ⟨b, off + J * 2, none⟩) hb, by rw [← h2]; exact hv.cell (p := ⟨b, off + J * 2 + 1, none⟩) hb, qv.below hv⟩⟩
set_option maxHeartbeats 8000000 in
set_option maxRecDepth 100000 in
theorem vdone_any (h : RD w Y F R) (I : RI E R) (hR : R.length ≤ 4000) (hP : ∀ r ∈ R, r.ps.length ≤ 10000) : Calls Try.prog 16 #[.pointer (some ⟨F, 0, none⟩), .int .i64 id] w fun e w' => DoneIs w Y F R E id e w' := by
  obtain ⟨m, hm⟩ : ∃ m, R.length = m := ⟨_, rfl⟩
  obtain ⟨S, hS⟩ : ∃ S, w.heap.size = S := ⟨_, rfl⟩
  have FF : Aside (F < S) := by rw [← hS]; exact h.lt
  have Q : Aside (RD w Y F R ∧ RI E R ∧ ∀ r ∈ R, r.ps.length ≤ 10000) := ⟨h, I, hP⟩
  rw [hm] at hR
  have hc0 := h.cell
  obtain ⟨ra0, rc0, hc0, _⟩ := hc0
  rw [hm] at hc0
  have HC0 : Aside (∀ v, Below S w v → v.cell? ⟨F, 0, none⟩ = some (.slice ra0 m rc0)) := fun v hv => by rw [← hc0]; exact hv.cell (p := ⟨F, 0, none⟩) FF.out
  clear h I hP hc0
  go_enter Try.func16, Try.ntmps16
  go_wp2_with fail
  go_loopw [5, 6, 7] (fun s5 s6 s7 wr => ∃ (J : Nat) (vo vr : Value) (d : List Int) (R1 : List Rw), J ≤ m ∧ s7 = .int .i64 J ∧ vo = s5 ∧ vr = s6 ∧ NI E R id J d R1 ∧ OwnI wr S vo d ∧ OwnR wr S vr R1 ∧ (∀ x ∈ R1, OwnI wr S x.v x.ps ∧ ∀ k, x.v.ownBlock = some k → vo.ownBlock ≠ some k) ∧ Below S w wr) (fun _ _ i _ => m - (intOf i).toNat)
  case atStart => exact ⟨0, _, _, [], [], by omega, rfl, rfl, rfl, NI.start E R id, OwnI.nil _ _, OwnR.nil _ _, fun x hx => by simp at hx, Below.refl _ _⟩
  case round =>
    obtain ⟨J, vo, vr, d, R1, hJ, rfl, rfl, rfl, NN, OO, OR, PP, BW⟩ := hrel
    have SZ : S ≤ wr.heap.size := by have := BW.size; omega
    by_cases cJ : J < m
    · obtain ⟨b, off, rc, r, p, pc, er, hr, RC0⟩ := Q.out.1.rowAll (J := J) (by omega)
      rw [hS, hm] at RC0
      obtain ⟨x, hx⟩ : ∃ x, r.id = x := ⟨_, rfl⟩
      obtain ⟨L, hL⟩ : ∃ L, r.ps.length = L := ⟨_, rfl⟩
      rw [hx, hL] at RC0
      have Ll : L ≤ 10000 := by rw [← hL]; exact Q.out.2.2 r hr
      obtain ⟨Bx, hBx⟩ : ∃ Bx, wr.heap.size = Bx := ⟨_, rfl⟩
      obtain ⟨w0, hw0⟩ : ∃ w0, wr = w0 := ⟨_, rfl⟩
      have HO : Aside (NI E R id J d R1 ∧ OwnI w0 S vo d ∧ OwnR w0 S vr R1 ∧ (∀ x ∈ R1, OwnI w0 S x.v x.ps ∧ ∀ k, x.v.ownBlock = some k → vo.ownBlock ≠ some k) ∧ Below S w w0 ∧ w0.heap.size = Bx ∧ S ≤ Bx) := by rw [← hw0]; exact ⟨NN, OO, OR, PP, BW, hBx, by omega⟩
      have HR : Aside (R[J]? = some r ∧ r ∈ R ∧ r.id = x ∧ r.ps.length = L) := ⟨er, hr, hx, hL⟩
      have RC : Aside (∀ v, Below Bx w0 v → v.cell? ⟨F, 0, none⟩ = some (.slice (some ⟨b, off, none⟩) m rc) ∧ v.cell? ⟨b, off + J * 2, none⟩ = some (.int .i64 x) ∧ v.cell? ⟨b, off + J * 2 + 1, none⟩ = some (.slice p L pc) ∧ IsI v p pc r.ps) := fun v hv => RC0 v (by
        have h5 := HO.out.2.2.2.2
        exact h5.1.trans (hv.mono h5.2.2))
      have b1 : Below Bx w0 (wr.alloc (.cells #[.int .i64 x, .slice none 0 0] 55)) := by rw [hw0]; rw [hw0] at hBx; exact (Below.refl _ _).alloc (by omega) _
      have B1 : Aside ((wr.alloc (.cells #[.int .i64 x, .slice none 0 0] 55)).heap[Bx]? = some (.cells #[.int .i64 x, .slice none 0 0] 55 (0, 0)) ∧ Below Bx w0 (wr.alloc (.cells #[.int .i64 x, .slice none 0 0] 55))) := ⟨by rw [← hBx]; exact heap_alloc_new wr _, b1⟩
      obtain ⟨hcF, h1, h2, _⟩ := RC0 wr BW
      clear NN OO OR PP BW er hr hx hL RC0 b1 hw0
      go_wp2_with fail
      clear hcF h1 h2
      go_loopw [9] (fun s9 wr => ∃ (K : Nat) (va : Option Addr) (vn vc : Nat), K ≤ L ∧ s9 = .int .i64 K ∧ wr.heap[Bx]? = some (.cells #[.int .i64 x, .slice va vn vc] 55 (0, 0)) ∧ OwnI wr Bx (.slice va vn vc) (fF id (r.ps.take K)) ∧ (fF id (r.ps.take K)).length = vn ∧ Below Bx w0 wr) (fun i _ => L - (intOf i).toNat)
      case atStart => exact ⟨0, none, 0, 0, by omega, rfl, B1.out.1, OwnI.nil _ _, rfl, B1.out.2⟩
      case round =>
        obtain ⟨K, va, vn, vc, hK, rfl, bx, OW, hvn, bw⟩ := hrel
        obtain ⟨hcF, h1, h2, qv⟩ := RC.out wr bw
        have SZ2 : Bx < wr.heap.size := lt_of_block bx
        have bc0 : wr.cell? ⟨Bx, 0, none⟩ = some (.int .i64 x) := by rw [cell_of_row _ _ _ _ _ _ bx]; rfl
        have bc1 : wr.cell? ⟨Bx, 1, none⟩ = some (.slice va vn vc) := by rw [cell_of_row _ _ _ _ _ _ bx]; rfl
        by_cases cK : K < L
        · obtain ⟨gp, op, rfl, gpl, hcy⟩ := qv.at (j := K) (by have := HR.out.2.2.2; omega)
          obtain ⟨y, hy⟩ : ∃ y, r.ps.getD K 0 = y := ⟨_, rfl⟩
          have fs := fF_succ (id := id) (ps := r.ps) (K := K) (by have := HR.out.2.2.2; omega)
          rw [hy] at hcy fs
          by_cases cy : y = id
          · rw [if_pos cy, List.append_nil] at fs
            have NX : Aside (wr.heap[Bx]? = some (.cells #[.int .i64 x, .slice va vn vc] 55 (0, 0)) ∧ OwnI wr Bx (.slice va vn vc) (fF id (r.ps.take (K + 1))) ∧ (fF id (r.ps.take (K + 1))).length = vn ∧ Below Bx w0 wr) := ⟨bx, by rw [fs]; exact OW, by rw [fs]; exact hvn, bw⟩
            rw [cy] at hcy
            clear bx OW hvn bw qv fs hy cy
            go_wp2_with fail
            go_roundw
            case rel => exact ⟨K + 1, va, vn, vc, by omega, by go_num, NX.out⟩
            case measure => simp [intOf]; omega
          · rw [if_neg cy] at fs
            have cy' : (y != id) = true := by simp [cy]
            have bd : Below wr.heap.size wr wr.drew := (Below.refl _ _).drew
            obtain ⟨v2, w2, hr2, o2, F2, n2'⟩ := (OW.below bd).push y (by rw [hvn, ← hvn]; exact Nat.lt_of_le_of_lt (List.length_filter_le _ _) (by simp; omega)) (by show Bx ≤ wr.heap.size; omega)
            obtain ⟨a2, c2, e2, _⟩ := o2.isI
            obtain ⟨n2, hn2⟩ : ∃ n2, (fF id (r.ps.take K) ++ [y]).length = n2 := ⟨_, rfl⟩
            rw [hn2] at e2
            subst e2
            have nB : ∀ k, Value.ownBlock (.slice va vn vc) = some k → k ≠ Bx := fun k hk e => by
              obtain ⟨cs, e1⟩ := OW.rowT hk
              rw [e, bx] at e1
              simp only [Option.some.injEq, Obj.cells.injEq] at e1
              exact absurd e1.2.1 (by decide)
            have lowB : ∀ k, Value.ownBlock (.slice va vn vc) = some k → Bx ≤ k := fun k hk => (OW.rowLt hk).1
            have bz : Below Bx w0 wr.drew := bw.drew
            have b2 : Below Bx w0 w2 := bz.trans (F2.toBelow lowB (by show Bx ≤ wr.heap.size; omega))
            have bx2 : w2.heap[Bx]? = some (.cells #[.int .i64 x, .slice va vn vc] 55 (0, 0)) := (F2.block Bx SZ2 (fun e => nB Bx e rfl)).trans bx
            have FSt : Fr (fun k => k = Bx) w2 (w2.setCell ⟨Bx, 1, none⟩ (.slice a2 n2 c2)) := Fr.setCell _ _ _ _ _ rfl
            have KS : ∀ v, Below Bx w0 v → v.cell? ⟨Bx, 1, none⟩ = some (.slice va vn vc) → v.cell? ⟨Bx, 1, none⟩ = some (.slice va vn vc) ∧ v.cell? ⟨F, 0, none⟩ = some (.slice (some ⟨b, off, none⟩) m rc) ∧ v.cell? ⟨b, off + J * 2 + 1, none⟩ = some (.slice (some ⟨gp, op, none⟩) L pc) ∧ v.cell? ⟨gp, op + K, none⟩ = some (.int .i64 y) := fun v hv hbx => by
              obtain ⟨k1, k2, k3, k4⟩ := RC.out v hv
              obtain ⟨g', o', e', _, k5⟩ := k4.at (j := K) (by have := HR.out.2.2.2; omega)
              injection e' with e'
              injection e' with e1 e2
              subst e1 e2
              rw [hy] at k5
              exact ⟨hbx, k1, k3, k5⟩
            have K0 : Aside _ := KS wr.drew bz bc1
            have KA : Aside _ := KS (wr.drew.alloc (.cells #[.int .i64 y] 3)) (bz.alloc (by show Bx ≤ wr.heap.size; omega) _) (by rw [← bc1]; exact ((Below.refl _ _).alloc (Nat.le_refl _) _ : Below wr.drew.heap.size wr.drew (wr.drew.alloc (.cells #[.int .i64 y] 3))).cell (p := ⟨Bx, 1, none⟩) SZ2)
            have KB : Aside _ := KS w2 b2 (by rw [cell_of_row _ _ _ _ _ _ bx2]; rfl)
            have FB : Aside (w2.frozen? ⟨Bx, 1, none⟩ = false) := frozen_of_row w2 Bx 1 _ _ bx2
            have nB2 : ∀ k, Value.ownBlock (.slice a2 n2 c2) = some k → k ≠ Bx := fun k hk e => by
              obtain ⟨cs, e1⟩ := o2.rowT hk
              rw [e, bx2] at e1
              simp only [Option.some.injEq, Obj.cells.injEq] at e1
              exact absurd e1.2.1 (by decide)
            have NX : Aside ((w2.setCell ⟨Bx, 1, none⟩ (.slice a2 n2 c2)).heap[Bx]? = some (.cells #[.int .i64 x, .slice a2 n2 c2] 55 (0, 0)) ∧ OwnI (w2.setCell ⟨Bx, 1, none⟩ (.slice a2 n2 c2)) Bx (.slice a2 n2 c2) (fF id (r.ps.take (K + 1))) ∧ (fF id (r.ps.take (K + 1))).length = n2 ∧ Below Bx w0 (w2.setCell ⟨Bx, 1, none⟩ (.slice a2 n2 c2))) := by
              refine ⟨?_, by rw [fs]; exact o2.fr FSt nB2, by rw [fs]; exact hn2, b2.setCell (by show Bx ≤ Bx; omega) _⟩
              have := heap_setCell_same w2 Bx 1 #[.int .i64 x, .slice va vn vc] 55 (.slice a2 n2 c2) bx2
              simpa using this
            have R2 : Hid _ := hr2
            clear bx OW hvn bw qv fs hy cy bd hr2 o2 F2 n2' nB lowB bz b2 bx2 FSt KS nB2 hn2
            go_upto_region 11 with fail
            refine anyE_start (S := (fun v0 => v0.cell? ⟨Bx, 1, none⟩ = some (.slice va vn vc) ∧ v0.cell? ⟨F, 0, none⟩ = some (.slice (some ⟨b, off, none⟩) m rc) ∧ v0.cell? ⟨b, off + J * 2 + 1, none⟩ = some (.slice (some ⟨gp, op, none⟩) L pc) ∧ v0.cell? ⟨gp, op + K, none⟩ = some (.int .i64 y))) (L := 16) (by kernel_rfl) ?_
            refine anyE_take (i := 0) (oi := { dst := some 54, op := Op.fieldAddr 55 (Operand.tmp 8) 1, type := 0, pos := "vergerref12.go:219", after := #[], guard := none }) (v := ?_) rfl (by kernel_rfl)  (by kernel_rfl) (by kernel_rfl) (by kernel_rfl) (fun _ _ _ h => h) (Or.inl ⟨by rfl, ?_⟩) (K0.out) ?_
            rotate_left
            · (intro w hSw; (try dsimp only at hSw); go_simp; try with_reducible rfl)
            simp only [Act.put, List.setIfInBounds_toArray, List.set_cons_zero, List.set_cons_succ]
            refine anyE_take (i := 1) (oi := { dst := some 55, op := Op.load 24 (Operand.tmp 54), type := 24, pos := "vergerref12.go:219", after := #[{ on := 0, ground := Ground.data }], guard := none }) (v := ?_) rfl (by kernel_rfl)  (by kernel_rfl) (by kernel_rfl) (by kernel_rfl) (fun _ _ _ h => h) (Or.inl ⟨by rfl, ?_⟩) (K0.out) ?_
            rotate_left
            · (intro w hSw; (try dsimp only at hSw); go_simp; try with_reducible rfl)
            simp only [Act.put, List.setIfInBounds_toArray, List.set_cons_zero, List.set_cons_succ]
            refine anyE_take (i := 2) (oi := { dst := some 56, op := Op.move (Operand.tmp 0), type := 34, pos := "vergerref12.go:219", after := #[], guard := none }) (v := ?_) rfl (by kernel_rfl)  (by kernel_rfl) (by kernel_rfl) (by kernel_rfl) (fun _ _ _ h => h) (Or.inl ⟨by rfl, ?_⟩) (K0.out) ?_
            rotate_left
            · (intro w hSw; (try dsimp only at hSw); go_simp; try with_reducible rfl)
            simp only [Act.put, List.setIfInBounds_toArray, List.set_cons_zero, List.set_cons_succ]
            refine anyE_take (i := 3) (oi := { dst := some 57, op := Op.nilCheck (Operand.tmp 56), type := 0, pos := "vergerref12.go:219", after := #[{ on := 2, ground := Ground.data }], guard := none }) (v := ?_) rfl (by kernel_rfl)  (by kernel_rfl) (by kernel_rfl) (by kernel_rfl) (fun _ _ _ h => h) (Or.inl ⟨by rfl, ?_⟩) (K0.out) ?_
            rotate_left
            · (intro w hSw; (try dsimp only at hSw); go_simp; try with_reducible rfl)
            simp only [Act.put, List.setIfInBounds_toArray, List.set_cons_zero, List.set_cons_succ]
            refine anyE_take (i := 4) (oi := { dst := some 58, op := Op.fieldAddr 37 (Operand.tmp 57) 0, type := 0, pos := "vergerref12.go:219", after := #[{ on := 3, ground := Ground.data }], guard := none }) (v := ?_) rfl (by kernel_rfl)  (by kernel_rfl) (by kernel_rfl) (by kernel_rfl) (fun _ _ _ h => h) (Or.inl ⟨by rfl, ?_⟩) (K0.out) ?_
            rotate_left
            · (intro w hSw; (try dsimp only at hSw); go_simp; try with_reducible rfl)
            simp only [Act.put, List.setIfInBounds_toArray, List.set_cons_zero, List.set_cons_succ]
            refine anyE_take (i := 5) (oi := { dst := some 59, op := Op.load 35 (Operand.tmp 58), type := 35, pos := "vergerref12.go:219", after := #[{ on := 4, ground := Ground.data }], guard := none }) (v := ?_) rfl (by kernel_rfl)  (by kernel_rfl) (by kernel_rfl) (by kernel_rfl) (fun _ _ _ h => h) (Or.inl ⟨by rfl, ?_⟩) (K0.out) ?_
            rotate_left
            · (intro w hSw; (try dsimp only at hSw); go_simp; try with_reducible rfl)
            simp only [Act.put, List.setIfInBounds_toArray, List.set_cons_zero, List.set_cons_succ]
            refine anyE_take (i := 6) (oi := { dst := some 60, op := Op.move (Operand.tmp 7), type := 3, pos := "vergerref12.go:219", after := #[], guard := none }) (v := ?_) rfl (by kernel_rfl)  (by kernel_rfl) (by kernel_rfl) (by kernel_rfl) (fun _ _ _ h => h) (Or.inl ⟨by rfl, ?_⟩) (K0.out) ?_
            rotate_left
            · (intro w hSw; (try dsimp only at hSw); go_simp; try with_reducible rfl)
            simp only [Act.put, List.setIfInBounds_toArray, List.set_cons_zero, List.set_cons_succ]
            refine anyE_take (i := 7) (oi := { dst := some 61, op := Op.indexAddr 35 (Operand.tmp 59) (Operand.tmp 60), type := 0, pos := "vergerref12.go:219", after := #[{ on := 5, ground := Ground.data }, { on := 6, ground := Ground.data }], guard := none }) (v := ?_) rfl (by kernel_rfl)  (by kernel_rfl) (by kernel_rfl) (by kernel_rfl) (fun _ _ _ h => h) (Or.inl ⟨by rfl, ?_⟩) (K0.out) ?_
            rotate_left
            · (intro w hSw; (try dsimp only at hSw); go_simp; try with_reducible rfl)
            simp only [Act.put, List.setIfInBounds_toArray, List.set_cons_zero, List.set_cons_succ]
            refine anyE_take (i := 8) (oi := { dst := some 62, op := Op.fieldAddr 55 (Operand.tmp 61) 1, type := 0, pos := "vergerref12.go:219", after := #[{ on := 7, ground := Ground.data }], guard := none }) (v := ?_) rfl (by kernel_rfl)  (by kernel_rfl) (by kernel_rfl) (by kernel_rfl) (fun _ _ _ h => h) (Or.inl ⟨by rfl, ?_⟩) (K0.out) ?_
            rotate_left
            · (intro w hSw; (try dsimp only at hSw); go_simp; try with_reducible rfl)
            simp only [Act.put, List.setIfInBounds_toArray, List.set_cons_zero, List.set_cons_succ]
            refine anyE_take (i := 9) (oi := { dst := some 63, op := Op.load 24 (Operand.tmp 62), type := 24, pos := "vergerref12.go:219", after := #[{ on := 8, ground := Ground.data }], guard := none }) (v := ?_) rfl (by kernel_rfl)  (by kernel_rfl) (by kernel_rfl) (by kernel_rfl) (fun _ _ _ h => h) (Or.inl ⟨by rfl, ?_⟩) (K0.out) ?_
            rotate_left
            · (intro w hSw; (try dsimp only at hSw); go_simp; try with_reducible rfl)
            simp only [Act.put, List.setIfInBounds_toArray, List.set_cons_zero, List.set_cons_succ]
            refine anyE_take (i := 10) (oi := { dst := some 64, op := Op.move (Operand.tmp 9), type := 3, pos := "vergerref12.go:219", after := #[], guard := none }) (v := ?_) rfl (by kernel_rfl)  (by kernel_rfl) (by kernel_rfl) (by kernel_rfl) (fun _ _ _ h => h) (Or.inl ⟨by rfl, ?_⟩) (K0.out) ?_
            rotate_left
            · (intro w hSw; (try dsimp only at hSw); go_simp; try with_reducible rfl)
            simp only [Act.put, List.setIfInBounds_toArray, List.set_cons_zero, List.set_cons_succ]
            refine anyE_take (i := 11) (oi := { dst := some 65, op := Op.indexAddr 24 (Operand.tmp 63) (Operand.tmp 64), type := 0, pos := "vergerref12.go:219", after := #[{ on := 9, ground := Ground.data }, { on := 10, ground := Ground.data }], guard := none }) (v := ?_) rfl (by kernel_rfl)  (by kernel_rfl) (by kernel_rfl) (by kernel_rfl) (fun _ _ _ h => h) (Or.inl ⟨by rfl, ?_⟩) (K0.out) ?_
            rotate_left
            · (intro w hSw; (try dsimp only at hSw); go_simp; try with_reducible rfl)
            simp only [Act.put, List.setIfInBounds_toArray, List.set_cons_zero, List.set_cons_succ]
            refine anyE_take (i := 12) (oi := { dst := some 66, op := Op.load 3 (Operand.tmp 65), type := 3, pos := "vergerref12.go:219", after := #[{ on := 11, ground := Ground.data }], guard := none }) (v := ?_) rfl (by kernel_rfl)  (by kernel_rfl) (by kernel_rfl) (by kernel_rfl) (fun _ _ _ h => h) (Or.inl ⟨by rfl, ?_⟩) (K0.out) ?_
            rotate_left
            · (intro w hSw; (try dsimp only at hSw); go_simp; try with_reducible rfl)
            simp only [Act.put, List.setIfInBounds_toArray, List.set_cons_zero, List.set_cons_succ]
            refine anyE_ready (rs := [13]) (by kernel_rfl) (by simp) ?_
            refine AllE.cons (o := { dst := some 67, op := Op.buildSlice 24 1 #[(0, Operand.tmp 66)], type := 24, pos := "vergerref12.go:219", after := #[{ on := 12, ground := Ground.data }], guard := none }) rfl (fun Kt hKt => ?_) ?_
            · go_simp
              refine hKt.out _ _ (fun _ => KA.out) ?_
              clear hKt Kt
              try simp only [Act.put, List.setIfInBounds_toArray, List.set_cons_zero, List.set_cons_succ]
              refine anyE_ready (rs := [14]) (by kernel_rfl) (by simp) ?_
              refine AllE.cons (o := { dst := some 68, op := Op.call { callee := Callee.builtin Builtin.append, args := #[Operand.tmp 55, Operand.tmp 67], argTypes := #[24, 24] }, type := 24, pos := "vergerref12.go:219", after := #[{ on := 1, ground := Ground.data }, { on := 13, ground := Ground.data }], guard := none }) rfl (fun Kt hKt => ?_) ?_
              · refine step_app _ (by rfl) _ _ 24 24 (by rfl) (.slice va vn vc) (.slice (some ⟨wr.heap.size, 0, none⟩) 1 1) (by rfl) (by rfl) _ w2 R2.out ?_
                refine hKt.out _ _ (fun _ => KB.out) ?_
                clear hKt Kt
                try simp only [Act.put, List.setIfInBounds_toArray, List.set_cons_zero, List.set_cons_succ]
                refine anyE_take (i := 15) (oi := { dst := some 69, op := Op.fieldAddr 55 (Operand.tmp 8) 1, type := 0, pos := "vergerref12.go:219", after := #[{ on := 0, ground := Ground.phase }, { on := 1, ground := Ground.phase }, { on := 2, ground := Ground.phase }, { on := 3, ground := Ground.phase }, { on := 4, ground := Ground.phase }, { on := 5, ground := Ground.phase }, { on := 6, ground := Ground.phase }, { on := 7, ground := Ground.phase }, { on := 8, ground := Ground.phase }, { on := 9, ground := Ground.phase }, { on := 10, ground := Ground.phase }, { on := 11, ground := Ground.phase }, { on := 12, ground := Ground.phase }, { on := 13, ground := Ground.phase }, { on := 14, ground := Ground.phase }], guard := none }) (v := ?_) rfl (by kernel_rfl)  (by kernel_rfl) (by kernel_rfl) (by kernel_rfl) (fun _ _ _ h => h) (Or.inl ⟨by rfl, ?_⟩) (KB.out) ?_
                rotate_left
                · (intro w hSw; (try dsimp only at hSw); go_simp; try with_reducible rfl)
                simp only [Act.put, List.setIfInBounds_toArray, List.set_cons_zero, List.set_cons_succ]
                refine anyE_ready (rs := [16]) (by kernel_rfl) (by simp) ?_
                refine AllE.cons (o := { dst := none, op := Op.store 24 (Operand.tmp 69) (Operand.tmp 68), type := 0, pos := "vergerref12.go:219", after := #[{ on := 15, ground := Ground.data }, { on := 14, ground := Ground.data }, { on := 14, ground := Ground.chain }, { on := 0, ground := Ground.phase }, { on := 1, ground := Ground.phase }, { on := 2, ground := Ground.phase }, { on := 3, ground := Ground.phase }, { on := 4, ground := Ground.phase }, { on := 5, ground := Ground.phase }, { on := 6, ground := Ground.phase }, { on := 7, ground := Ground.phase }, { on := 8, ground := Ground.phase }, { on := 9, ground := Ground.phase }, { on := 10, ground := Ground.phase }, { on := 11, ground := Ground.phase }, { on := 12, ground := Ground.phase }, { on := 13, ground := Ground.phase }, { on := 14, ground := Ground.phase }], guard := none }) rfl (fun Kt hKt => ?_) ?_
                · have cB := KB.out.1
                  have fB := FB.out
                  go_simp
                  refine hKt.out _ _ (fun h => absurd rfl h) ?_
                  clear hKt Kt
                  try simp only [Act.put, List.setIfInBounds_toArray, List.set_cons_zero, List.set_cons_succ]
                  refine anyE_done (by kernel_rfl) ?_ _
                  go_wp2_with fail
                  go_roundw
                  case rel => exact ⟨K + 1, a2, n2, c2, by omega, by go_num, NX.out⟩
                  case measure => simp [intOf]; omega
                exact AllE.nil
              exact AllE.nil
            exact AllE.nil
        · obtain rfl : K = L := by omega
          obtain ⟨NN, OO, OR, PP, BW, hsz, hSB⟩ := HO.out
          obtain ⟨er, hr, hx, hL⟩ := HR.out
          rw [List.take_of_length_le (by omega)] at OW hvn
          have bwB : Below S w wr := BW.trans (bw.mono hSB)
          have OO1 : OwnI wr S vo d := OO.of_block fun k hk => bw.block k (by have := (OO.rowLt hk).2; omega)
          have OR1 : OwnR wr S vr R1 := OR.of_block fun k hk => bw.block k (by have := (OR.rowLt hk).2; omega)
          have PP1 : ∀ x ∈ R1, OwnI wr S x.v x.ps ∧ ∀ k, x.v.ownBlock = some k → vo.ownBlock ≠ some k := fun x hx => ⟨(PP x hx).1.of_block fun k hk => bw.block k (by have := ((PP x hx).1.rowLt hk).2; omega), (PP x hx).2⟩
          have voL : ∀ k, vo.ownBlock = some k → k < Bx := fun k hk => by have := (OO.rowLt hk).2; omega
          have apart : ∀ k, vr.ownBlock = some k → vo.ownBlock ≠ some k := fun k h1 h2 => by
            obtain ⟨cs, e1⟩ := OR1.rowT h1
            obtain ⟨cs', e2⟩ := OO1.rowT h2
            rw [e1] at e2
            simp only [Option.some.injEq, Obj.cells.injEq] at e2
            exact absurd e2.2.1 (by decide)
          have nx := NN.next Q.out.2.1 er
          rw [hx] at nx
          have lens := NN.len
          by_cases cv : vn = 0
          · have hf : fF id r.ps = [] := List.length_eq_zero_iff.1 (by omega)
            obtain ⟨v2, w2, hr2, o2, F2, n2'⟩ := OO1.push x (by omega) (by omega)
            have NX : Aside (NI E R id (J + 1) (d ++ [x]) R1 ∧ OwnI w2 S v2 (d ++ [x]) ∧ OwnR w2 S vr R1 ∧ (∀ x ∈ R1, OwnI w2 S x.v x.ps ∧ ∀ k, x.v.ownBlock = some k → v2.ownBlock ≠ some k) ∧ Below S w w2) := by
              refine ⟨nx.1 hf, o2, OR1.fr F2 (fun k hk e => apart k hk e), fun x hx => ⟨(PP1 x hx).1.fr F2 (fun k hk e => (PP1 x hx).2 k hk e), fun k hk e => ?_⟩, bwB.trans (F2.toBelow (fun k hk => (OO1.rowLt hk).1) (by omega))⟩
              rcases n2' k e with h | h
              · exact (PP1 x hx).2 k hk h
              · have := ((PP1 x hx).1.rowLt hk).2; omega
            subst cv
            have R2 : Hid _ := hr2
            clear NN OO OR PP BW hsz hSB er hr hx hL OW hvn bwB OO1 OR1 PP1 voL apart nx lens hf hr2 o2 F2 n2' bx bw qv
            have hr2 := R2.out
            go_wp2_with (at_builtin; refine wpList_app _ rfl _ _ 24 rfl _ _ rfl rfl v2 w2 hr2 ?_; clear hr2)
            go_roundw
            case rel => exact ⟨J + 1, v2, vr, d ++ [x], R1, by omega, by go_num, rfl, rfl, NX.out⟩
            case measure => simp [intOf]; omega
          · have hf : fF id r.ps ≠ [] := fun e => by rw [e] at hvn; exact cv hvn.symm
            obtain ⟨v2, w2, hr2, o2, F2, n2'⟩ := OR1.push ⟨x, .slice va vn vc, fF id r.ps⟩ rfl (by omega) (by omega)
            have ldr : ∀ k, vr.ownBlock = some k → k < Bx := fun k hk => by have := (OR.rowLt hk).2; omega
            have NX : Aside (NI E R id (J + 1) d (R1 ++ [⟨x, .slice va vn vc, fF id r.ps⟩]) ∧ OwnI w2 S vo d ∧ OwnR w2 S v2 (R1 ++ [⟨x, .slice va vn vc, fF id r.ps⟩]) ∧ (∀ x_1 ∈ R1 ++ [⟨x, .slice va vn vc, fF id r.ps⟩], OwnI w2 S x_1.v x_1.ps ∧ ∀ k, x_1.v.ownBlock = some k → vo.ownBlock ≠ some k) ∧ Below S w w2) := by
              refine ⟨nx.2 _ hf, OO1.fr F2 (fun k hk e => apart k e hk), o2, fun y hy => ?_, bwB.trans (F2.toBelow (fun k hk => (OR1.rowLt hk).1) (by omega))⟩
              rcases List.mem_append.1 hy with hy | hy
              · refine ⟨(PP1 y hy).1.fr F2 (fun k hk e => ?_), (PP1 y hy).2⟩
                obtain ⟨cs, e1⟩ := OR1.rowT e
                obtain ⟨cs', e2⟩ := (PP1 y hy).1.rowT hk
                rw [e1] at e2
                simp only [Option.some.injEq, Obj.cells.injEq] at e2
                exact absurd e2.2.1 (by decide)
              · obtain rfl := List.mem_singleton.1 hy
                refine ⟨(OW.low hSB).fr F2 (fun k hk e => ?_), fun k hk e => ?_⟩
                · have h1 := (OW.rowLt hk).1; have h2 := ldr k e; omega
                · have h1 := (OW.rowLt hk).1; have h2 := voL k e; omega
            have R2 : Hid _ := hr2
            have cv' : ((vn : Int) == 0) = false := by simp; exact cv
            have vnl : vn ≤ 10000 := by rw [← hvn]; exact Nat.le_trans (List.length_filter_le _ _) (by omega)
            clear NN OO OR PP BW hsz hSB er hr hx hL OW hvn bwB OO1 OR1 PP1 voL apart nx lens hf hr2 o2 F2 n2' ldr bx bw qv
            have hr2 := R2.out
            go_wp2_with (at_builtin; refine wpList_app _ rfl _ _ 35 rfl _ _ rfl rfl v2 w2 hr2 ?_; clear hr2)
            go_roundw
            case rel => exact ⟨J + 1, vo, v2, d, _, by omega, by go_num, rfl, rfl, NX.out⟩
            case measure => simp [intOf]; omega
    · obtain rfl : J = m := by omega
      have RW : RD wr Y F R := Q.out.1.below (by rw [hS]; exact BW)
      obtain ⟨PD, FSt, fz⟩ := RW.put OR (Y1 := fun k => S ≤ k ∧ k < wr.heap.size) (fun r hr => (PP r hr).1.sl fun k hk => (PP r hr).1.rowLt hk) (fun h => by have := FF.out; omega)
      have fin := NN.fin Q.out.2.1 (by omega)
      obtain ⟨ra, rc, hcF, _⟩ := RW.cell
      have nF : ∀ k, vo.ownBlock = some k → k ≠ F := fun k hk e => by have := (OO.rowLt hk).1; have := FF.out; omega
      have FIN : Aside (DoneIs w Y F R E id (.returned vo) (wr.setCell ⟨F, 0, none⟩ vr)) := by
        refine ⟨vo, d, R1, _, rfl, by rw [hS]; exact OO.fr FSt nF, NN.up, fin.1, PD, fin.2, by have := NN.len; omega, (Fr.below (by rw [hS]; exact BW)).trans FSt (fun j hj => .inl hj), fun k hk => .inr ?_⟩
        rw [hS]
        have := FSt.size
        rcases hk with hk | hk
        · exact ⟨hk.1, by omega⟩
        · have := OR.rowLt hk; exact ⟨this.1, by omega⟩
      obtain ⟨a8, c8, e8, _⟩ := OR.shape
      obtain ⟨L8, hL8⟩ : ∃ L8, R1.length = L8 := ⟨_, rfl⟩
      rw [hL8] at e8
      clear NN OO OR PP BW RW PD FSt fin nF
      subst e8
      go_wp2_with fail
      go_ret
      exact FIN.out
end Go.Proofs.Ythpdnlokjhafeaa
