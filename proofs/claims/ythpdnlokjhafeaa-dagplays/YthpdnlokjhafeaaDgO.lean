/- The document's Has; boxes of 26 cells. -/
import Derived.Test.YthpdnlokjhafeaaDgW
namespace Go.Proofs.Ythpdnlokjhafeaa
open Go.RowKit Go.Lib
set_option linter.unusedVariables false
variable {w w' : World} {X X' : Nat → Prop} {a : Option Addr} {cap : Nat} {d : List Int}
set_option maxHeartbeats 2000000 in
theorem has_any (h : IsI w a cap d) (x : Int) : Calls Try.prog 22 #[.slice a d.length cap, .int .i64 x] w fun e w' => e = .returned (.bool (decide (x ∈ d))) ∧ w' = w := by
  have hl := h.len
  have H : Aside (IsI w a cap d) := h
  clear h
  obtain ⟨n, hn⟩ : ∃ n, d.length = n := ⟨_, rfl⟩
  obtain ⟨b, hb⟩ : ∃ b, decide (x ∈ d) = b := ⟨_, rfl⟩
  rw [hn] at hl
  rw [hn, hb]
  have HB : Hid _ := hb
  clear hb
  go_enter Try.func22, Try.ntmps22
  go_wp2_with fail
  go_loopw [5] (fun s5 wr => wr = w ∧ ∃ I : Nat, I ≤ n ∧ s5 = .int .i64 I ∧ ∀ j, j < I → d.getD j 0 ≠ x) (fun i _ => n - (intOf i).toNat)
  case atStart => exact ⟨rfl, 0, by omega, rfl, fun j hj => by omega⟩
  case round =>
    obtain ⟨rfl, I, hI, rfl, hall⟩ := hrel
    by_cases c : I < n
    · obtain ⟨g, off, rfl, _, hc⟩ := H.out.at (j := I) (by omega)
      obtain ⟨y, hy⟩ : ∃ y, d.getD I 0 = y := ⟨_, rfl⟩
      rw [hy] at hc
      have HY : Hid _ := hy
      have HI : Aside (∀ j, j < I → d.getD j 0 ≠ x) := hall
      clear hall hy
      by_cases ce : y = x
      · subst ce
        obtain rfl : b = true := by rw [← HB.out, ← HY.out]; exact decide_eq_true (getD_mem (by omega))
        go_wp2_with fail
        go_ret
        exact ⟨rfl, rfl⟩
      · have ce' : (y == x) = false := by simp [ce]
        go_wp2_with fail
        go_roundw
        case rel =>
          refine ⟨by trivial, I + 1, by omega, by go_num, fun j hj => ?_⟩
          by_cases e : j = I
          · subst e; rw [HY.out]; exact ce
          · exact HI.out j (by omega)
        case measure => simp [intOf]; omega
    · obtain rfl : I = n := by omega
      obtain rfl : b = false := by
        rw [← HB.out]
        refine decide_eq_false (fun hm => ?_)
        obtain ⟨j, hj, e⟩ := mem_getD hm
        exact hall j (by omega) e
      clear hall
      go_wp2_with fail
      go_ret
      exact ⟨rfl, rfl⟩
/-- A box of 26 cells. -/
def B26 (T : TypeId) (w : World) (S : Nat) (f : Nat → Value) : Prop := ∃ cur : Array Value, w.heap[S]? = some (.cells cur T (0, 0)) ∧ cur.size = 26 ∧ ∀ k, k < 26 → cur[k]? = some (f k)
def bset (f : Nat → Value) (k : Nat) (v : Value) : Nat → Value := fun i => if i = k then v else f i
theorem bset_same (f : Nat → Value) (k : Nat) (v : Value) : bset f k v k = v := if_pos rfl
theorem bset_ne (f : Nat → Value) {k i : Nat} (v : Value) (h : i ≠ k) : bset f k v i = f i := if_neg h
variable {T : TypeId} {S : Nat} {f : Nat → Value}
theorem B26.lt (h : B26 T w S f) : S < w.heap.size := by
  obtain ⟨cur, h1, _⟩ := h
  exact lt_of_block h1
theorem B26.cell (h : B26 T w S f) {k : Nat} (hk : k < 26) : w.cell? ⟨S, k, none⟩ = some (f k) := by
  obtain ⟨cur, h1, h2, h3⟩ := h
  rw [cell_of_row _ _ _ _ _ _ h1, h3 k hk]
theorem B26.frozen (h : B26 T w S f) (k : Nat) : w.frozen? ⟨S, k, none⟩ = false := by
  obtain ⟨cur, h1, h2, h3⟩ := h
  exact frozen_of_row w S k cur T h1
theorem B26.fr (h : B26 T w S f) (hf : Fr X w w') (hx : ¬ X S) : B26 T w' S f := by
  obtain ⟨cur, h1, h2, h3⟩ := h
  exact ⟨cur, (hf.block S (lt_of_block h1) hx).trans h1, h2, h3⟩
theorem B26.below (h : B26 T w S f) (hb : Below w.heap.size w w') : B26 T w' S f := h.fr (Fr.below (X := fun _ => False) hb) id
theorem B26.set (h : B26 T w S f) {k : Nat} (hk : k < 26) (v : Value) : B26 T (w.setCell ⟨S, k, none⟩ v) S (bset f k v) := by
  obtain ⟨cur, h1, h2, h3⟩ := h
  refine ⟨cur.setIfInBounds k v, heap_setCell_same w S k cur T v h1, by simp [h2], fun i hi => ?_⟩
  rw [Array.getElem?_setIfInBounds]
  by_cases c : k = i
  · subst c; rw [if_pos rfl, if_pos (by omega), bset_same]
  · rw [if_neg c, bset_ne _ _ (fun e => c e.symm)]; exact h3 i hi
theorem B26.new (T : TypeId) (w : World) (v : Value) (cs : Array Value) (hc : cs = Array.replicate 26 v) : B26 T (w.alloc (.cells cs T)) w.heap.size (fun _ => v) :=
  ⟨cs, heap_alloc_new w _, by rw [hc]; simp, fun k hk => by rw [hc]; simp [hk]⟩
theorem B26.ne {T' : TypeId} {f' : Nat → Value} {S' : Nat} (h : B26 T w S f) (h' : B26 T' w S' f') (ht : T ≠ T') : S ≠ S' := fun e => by
  obtain ⟨cur, h1, _⟩ := h
  obtain ⟨cur', h1', _⟩ := h'
  rw [e, h1'] at h1
  simp only [Option.some.injEq, Obj.cells.injEq] at h1
  exact ht h1.2.1.symm
theorem B26.row {b : Nat} {v : Value} {k : Nat} (h : B26 T w S f) (o : OwnI w b v d) (ht : T ≠ 3) (hk : v.ownBlock = some k) : k ≠ S := fun e => by
  obtain ⟨cur, h1, _⟩ := h
  obtain ⟨cs, hc⟩ := o.rowT hk
  rw [← e, hc] at h1
  simp only [Option.some.injEq, Obj.cells.injEq] at h1
  exact ht h1.2.1.symm
end Go.Proofs.Ythpdnlokjhafeaa
