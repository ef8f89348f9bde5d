/- The closure of BoundRows: two more events at the end of a row in a box; lengths of the rows, and that their numbers fit. -/
import Derived.Test.YtpcmdbpgplcnnaaBnX
import Derived.Test.YtpcmdbpgplcnnaaMask
import Derived.WalkSmall
namespace Go.Proofs.Ytpcmdbpgplcnnaa
open Go.RowKit Go.Lib Go.WideMaps Go.Maps
set_option linter.unusedVariables false
set_option maxRecDepth 10000

section
variable {w w' : World} {base : Nat} {v : Value}
theorem OwnG.keep {α : Type} {R : RowT α} {d : List α} (h : OwnG R w base v d) (hk : ∀ j, base ≤ j → w'.heap[j]? = w.heap[j]?) : OwnG R w' base v d := by
  obtain ⟨h1, h2⟩ := h
  refine ⟨h1, ?_⟩
  rcases h2 with h2 | ⟨g, cap, cur, r1, r2, r3, r4⟩
  · exact .inl h2
  · exact .inr ⟨g, cap, cur, r1, r2, (hk g r2).trans r3, r4⟩
/-- A row of events in the box X, the last ID in the box behind it; the row lies behind both. -/
structure LBx (w : World) (X : Nat) (v : Value) (d : List EvR) (n : Nat) : Prop where
  hl : w.heap[X]? = some (.cells #[v] 22 (0, 0))
  hi : w.heap[X + 1]? = some (.cells #[.int .i64 n] 3 (0, 0))
  o : OwnG rE w (X + 2) v d
  sz : X + 2 ≤ w.heap.size
theorem LBx.cells {X n : Nat} {d : List EvR} (h : LBx w X v d n) : w.cell? ⟨X, 0, none⟩ = some v ∧ w.cell? ⟨X + 1, 0, none⟩ = some (.int .i64 n) := ⟨by rw [cell_of_row _ _ _ _ _ _ h.hl]; rfl, by rw [cell_of_row _ _ _ _ _ _ h.hi]; rfl⟩
theorem LBx.frozen {X n : Nat} {d : List EvR} (h : LBx w X v d n) : w.frozen? ⟨X, 0, none⟩ = false ∧ w.frozen? ⟨X + 1, 0, none⟩ = false := ⟨by simp [World.frozen?, h.hl], by simp [World.frozen?, h.hi]⟩
theorem LBx.setId {X n : Nat} {d : List EvR} (h : LBx w X v d n) (m : Nat) : LBx (w.setCell ⟨X + 1, 0, none⟩ (.int .i64 m)) X v d m := by
  refine ⟨(heap_setCell_other _ _ _ _ (by simp)).trans h.hl, ?_, h.o.keep fun j hj => heap_setCell_other _ _ _ _ (by simp; omega), by simp; exact h.sz⟩
  simp [World.setCell, Array.getElem?_modify, h.hi]
theorem LBx.setRow {X n : Nat} {d e : List EvR} {v' : Value} (h : LBx w X v d n) (hb : Below (X + 2) w w') (ho : OwnG rE w' (X + 2) v' e) : LBx (w'.setCell ⟨X, 0, none⟩ v') X v' e n := by
  refine ⟨?_, (heap_setCell_other _ _ _ _ (by simp)).trans ((hb.block (X + 1) (by omega)).trans h.hi), ho.keep fun j hj => heap_setCell_other _ _ _ _ (by simp; omega), ?_⟩
  · have := (hb.block X (by omega)).trans h.hl
    simp [World.setCell, Array.getElem?_modify, this]
  · have h1 := hb.size
    have h2 := h.sz
    have e : (w'.setCell ⟨X, 0, none⟩ v').heap.size = w'.heap.size := by simp
    omega
def LSt (w w' : World) (X : Nat) (d : List EvR) (n : Nat) : Prop := (∃ v, LBx w' X v d n) ∧ Below X w w'
set_option maxHeartbeats 4000000 in
theorem put_any {X n y : Nat} {d : List EvR} (h : LBx w X v d n) (hn : n ≤ 1000) (hd : d.length < 100000) : Calls Try.prog 6 #[.int .u64 y, .pointer (some ⟨X + 1, 0, none⟩), .pointer (some ⟨X, 0, none⟩)] w fun r w' => r = .returned (.tuple #[]) ∧ LSt w w' X (d ++ [mkE ((n + 1 : Nat) : Int), relE ((n + 1 : Nat) : Int) y]) (n + 1) := by
  obtain ⟨c0, c1⟩ := h.cells
  obtain ⟨f0, f1⟩ := h.frozen
  have h1 := h.setId (n + 1)
  have B1 : Below X w (w.setCell ⟨X + 1, 0, none⟩ (.int .i64 ((n + 1 : Nat) : Int))) := ⟨rfl, rfl, rfl, by simp, fun j hj => heap_setCell_other _ _ _ _ (by simp; omega)⟩
  have e1 : IntKind.i64.wrap ((n : Int) + 1) = ((n + 1 : Nat) : Int) := by rw [IntKind.wrap_i64]; omega
  obtain ⟨w1, hw1⟩ : ∃ u, w.setCell ⟨X + 1, 0, none⟩ (.int .i64 ((n + 1 : Nat) : Int)) = u := ⟨_, rfl⟩
  rw [hw1] at h1 B1
  obtain ⟨m, hm⟩ : ∃ m, n + 1 = m := ⟨_, rfl⟩
  rw [hm] at h1 e1 hw1 ⊢
  obtain ⟨v2, w2, hr0, o2, b2⟩ := h1.o.pushs (mkE (m : Int)) (relE (m : Int) y) (by omega) h1.sz 22
  obtain ⟨a2, k2, rfl, G2⟩ := o2.isG
  obtain ⟨l2, hl2⟩ : ∃ l, (d ++ [mkE (m : Int), relE (m : Int) y]).length = l := ⟨_, rfl⟩
  rw [hl2] at hr0 o2
  have hr2 : (Builtin.append_ #[22, 22] 22 #[v, .slice (some ⟨w1.heap.size, 0, none⟩) 2 2]).run Try.prog (w1.alloc (.cells #[.int .i64 1, .int .i64 (-1), .int .i64 m, .int .u64 0, .int .u64 0, .int .u64 0, .int .i64 2, .int .i64 0, .int .i64 m, .int .u64 y, .int .u64 0, .int .u64 0] 25)) = .ok (.slice a2 l2 k2) w2 := hr0
  have FIN : Aside (LSt w (w2.setCell ⟨X, 0, none⟩ (.slice a2 l2 k2)) X (d ++ [mkE (m : Int), relE (m : Int) y]) m) := by
    have hs : X ≤ w1.heap.size := by have := h1.sz; omega
    exact ⟨⟨_, h1.setRow b2 o2⟩, (B1.trans ((b2.mono (by omega)))).setCell (Nat.le_refl _) _⟩
  obtain ⟨c2, c3⟩ := h1.cells
  have g2 := (b2.block X (by omega)).trans h1.hl
  have c4 : w2.cell? ⟨X, 0, none⟩ = some v := by rw [cell_of_row _ _ _ _ _ _ g2]; rfl
  have f4 : w2.frozen? ⟨X, 0, none⟩ = false := by simp [World.frozen?, g2]
  have HW : Aside _ := hw1
  clear hr0 o2 b2 h1 B1 hw1 h g2 hm G2 hl2
  go_enter Try.func6, Try.ntmps6
  go_upto_region 1 with fail
  rw [HW.out]
  clear c0 c1 f0 f1
  go_wp2_with (at_builtin; refine wpList_app _ rfl _ _ 22 rfl _ _ rfl rfl (.slice a2 l2 k2) w2 hr2 ?_; clear hr2)
  go_end0
  exact ⟨rfl, FIN.out⟩
end
/-! ## Lengths, and that numbers fit -/
theorem puts_len (i y n : Nat) : (putsL i y n).length = 2 * n := by
  induction n with
  | zero => rfl
  | succ n ih => show (putsL i y n ++ _).length = _; rw [List.length_append, ih]; show 2 * n + 2 = _; omega
theorem rows1_len (a : Nat) : (rows1 a).length = 2 * a + 2 := by show (_ :: _ :: putsL 2 0 a).length = _; rw [List.length_cons, List.length_cons, puts_len]
theorem rows2_len (a b : Nat) : (rows2 a b).length = 2 * a + 2 * b + 3 := by
  unfold rows2; rw [List.length_append, List.length_append, rows1_len, puts_len, List.length_singleton]; omega
theorem rows3_len (a b : Nat) : (rows3 a b).length = 2 * a + 2 * b + 5 := by
  unfold rows3; rw [List.length_append, rows2_len]; show 2 * a + 2 * b + 3 + 2 = _; omega
theorem rowsL_len (a b : Nat) : (rowsL a b).length = 2 * a + 2 * b + 6 := by
  unfold rowsL; rw [List.length_append, rows3_len, List.length_singleton]
theorem fit_mk {i : Nat} (h : i ≤ 1000) : (mkE (i : Int)).fits := ⟨wfI_of (by show _ ≤ (i : Int); omega) (by show (i : Int) ≤ _; omega), wfI_of (by show _ ≤ (-1 : Int); decide) (by show (-1 : Int) ≤ _; decide)⟩
theorem fit_rel {i : Nat} (y : Nat) (h : i ≤ 1000) : (relE (i : Int) y).fits := ⟨wfI_of (by show _ ≤ (i : Int); omega) (by show (i : Int) ≤ _; omega), wfI_of (by show _ ≤ (0 : Int); decide) (by show (0 : Int) ≤ _; decide)⟩
theorem fit_puts {i y n : Nat} (h : i + n ≤ 1000) : ∀ x ∈ putsL i y n, x.fits := by
  induction n with
  | zero => intro x hx; cases hx
  | succ n ih =>
    intro x hx
    rcases List.mem_append.1 hx with hx | hx
    · exact ih (by omega) x hx
    · rcases List.mem_cons.1 hx with rfl | hx
      · exact fit_mk (by omega)
      · rcases List.mem_cons.1 hx with rfl | hx
        · exact fit_rel _ (by omega)
        · cases hx
theorem fit_rows {a b : Nat} (ha : a ≤ 20) (hb : b ≤ 20) : ∀ x ∈ rowsL a b, x.fits := by
  intro x hx
  have f1 : ∀ k t : Int, -1 ≤ t → t ≤ 1 → EvR.fits ⟨k, t, 1, 50, 0, 0⟩ := fun k t h1 h2 => ⟨wfI_of (by show _ ≤ (1 : Int); decide) (by show (1 : Int) ≤ _; decide), wfI_of (by show _ ≤ t; omega) (by show t ≤ _; omega)⟩
  simp only [rowsL, rows3, rows2, rows1, List.mem_append, List.mem_cons, List.not_mem_nil, or_false] at hx
  rcases hx with ((((((rfl | rfl) | h) | rfl) | h) | (rfl | rfl)) | rfl)
  · exact fit_mk (i := 1) (by omega)
  · exact fit_rel (i := 1) 50 (by omega)
  · exact fit_puts (by omega) x h
  · exact f1 _ _ (by omega) (by omega)
  · exact fit_puts (by omega) x h
  · exact fit_mk (by omega)
  · exact fit_rel _ (by omega)
  · exact f1 _ _ (by omega) (by omega)
theorem rows1_next (k : Nat) : rows1 k ++ [mkE ((k + 1 + 1 : Nat) : Int), relE ((k + 1 + 1 : Nat) : Int) k] = rows1 (k + 1) := by
  show _ = [mkE 1, relE 1 50] ++ (putsL 2 0 k ++ [mkE ((2 + k : Nat) : Int), relE ((2 + k : Nat) : Int) (0 + k)])
  rw [Nat.zero_add, show 2 + k = k + 1 + 1 by omega, ← List.append_assoc]
  rfl
theorem rows2_next (a k : Nat) : rows2 a k ++ [mkE ((a + 1 + k + 1 : Nat) : Int), relE ((a + 1 + k + 1 : Nat) : Int) (20 + k)] = rows2 a (k + 1) := by
  show _ = (rows1 a ++ [_]) ++ (putsL (a + 2) 20 k ++ [mkE ((a + 2 + k : Nat) : Int), relE ((a + 2 + k : Nat) : Int) (20 + k)])
  rw [show a + 2 + k = a + 1 + k + 1 by omega, ← List.append_assoc]
  rfl
theorem rows_at (a b : Nat) : (rowsL a b)[(rows3 a b).length]? = some ⟨3, 1, 1, 50, 0, 0⟩ := by
  unfold rowsL
  rw [List.getElem?_append_right (Nat.le_refl _), Nat.sub_self]
  rfl
theorem rows_at1 (a b : Nat) : (rowsL a b)[(rows2 a b).length + 1]? = some (relE ((a + b + 2 : Nat) : Int) 77) := by
  unfold rowsL rows3
  rw [List.append_assoc, List.getElem?_append_right (by omega), show (rows2 a b).length + 1 - (rows2 a b).length = 1 by omega]
  rfl
end Go.Proofs.Ytpcmdbpgplcnnaa
