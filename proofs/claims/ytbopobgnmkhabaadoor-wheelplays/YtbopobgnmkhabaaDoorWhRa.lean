/- The document's wheel (vergerref12.Wheel): what it is in the heap; less, Due, SameTimers. -/
import Derived.Test.YtbopobgnmkhabaaDoorWhXc
import Derived.Test.YtbopobgnmkhabaaDoorWhY
namespace Go.Proofs.YtbopobgnmkhabaaDoor
open Go.RowKit Go.Lib Go.Sort Go.WideMaps Go.Maps
set_option linter.unusedVariables false

/-- At B lies the document's wheel; X: its blocks. -/
def RWh (w : World) (X : Nat → Prop) (B now : Nat) (T : List Ent) : Prop :=
  ∃ a cap, w.heap[B]? = some (.cells #[.int .u64 (now : Int), .slice a T.length cap] 45 (0, 0)) ∧ IsL w a cap T ∧ ∀ k, X k ↔ k = B ∨ T ≠ [] ∧ ∃ off, a = some ⟨k, off, none⟩
variable {w w' : World} {X : Nat → Prop} {B now : Nat} {T : List Ent}
theorem RWh.hasB (h : RWh w X B now T) : X B := by
  obtain ⟨a, cap, h1, h2, h3⟩ := h
  exact (h3 B).2 (.inl rfl)
theorem RWh.lt (h : RWh w X B now T) {k : Nat} (hk : X k) : k < w.heap.size := by
  obtain ⟨a, cap, h1, h2, h3⟩ := h
  rcases (h3 k).1 hk with rfl | ⟨ne, off, rfl⟩
  · exact lt_of_block h1
  · cases T with
    | nil => exact absurd rfl ne
    | cons x T =>
      obtain ⟨b, o, e, hb, _⟩ := h2.elem 0 x rfl
      cases e
      exact hb
theorem RWh.fr (h : RWh w X B now T) {Y : Nat → Prop} (f : Fr Y w w') (hx : ∀ k, X k → ¬ Y k) : RWh w' X B now T := by
  have hl := fun k => h.lt (k := k)
  obtain ⟨a, cap, h1, h2, h3⟩ := h
  have blk : ∀ k, X k → w'.heap[k]? = w.heap[k]? := fun k hk => f.block k (hl k hk) (hx k hk)
  refine ⟨a, cap, (blk B ((h3 B).2 (.inl rfl))).trans h1, ⟨h2.le, h2.big, fun i x hi => ?_⟩, h3⟩
  obtain ⟨b, off, e, hb, c1, c2⟩ := h2.elem i x hi
  have hX : X b := (h3 b).2 (.inr ⟨fun e0 => by rw [e0] at hi; simp at hi, off, e⟩)
  exact ⟨b, off, e, Nat.lt_of_lt_of_le hb f.size, (World.cell?_of_block (blk b hX)).trans c1, (World.cell?_of_block (blk b hX)).trans c2⟩
theorem RWh.below (h : RWh w X B now T) (hw : Below w.heap.size w w') : RWh w' X B now T := h.fr (Fr.below (X := fun _ => False) hw) (fun _ _ => id)
/-- Its cells, and its list. -/
theorem RWh.open (h : RWh w X B now T) : ∃ a cap, w.cell? ⟨B, 0, none⟩ = some (.int .u64 (now : Int)) ∧ w.cell? ⟨B, 1, none⟩ = some (.slice a T.length cap) ∧ IsL w a cap T ∧ (∀ k, w.frozen? ⟨B, k, none⟩ = false) ∧ B < w.heap.size := by
  obtain ⟨a, cap, h1, h2, h3⟩ := h
  exact ⟨a, cap, by rw [cell_of_row _ _ _ _ _ _ h1]; rfl, by rw [cell_of_row _ _ _ _ _ _ h1]; rfl, h2, fun k => by simp [World.frozen?, h1], lt_of_block h1⟩
/-- What a call of it leaves. -/
def RGo (w : World) (X : Nat → Prop) (B now : Nat) (T : List Ent) (w' : World) : Prop := ∃ X', RWh w' X' B now T ∧ Fr X w w' ∧ ∀ k, X' k → X k ∨ w.heap.size ≤ k
theorem RGo.same (h : RWh w X B now T) : RGo w X B now T w := ⟨X, h, Fr.refl _ _, fun k hk => .inl hk⟩
theorem RGo.below (h : RWh w X B now T) (hw : Below w.heap.size w w') : RGo w X B now T w' := ⟨X, h.below hw, Fr.below hw, fun k hk => .inl hk⟩
/-- A new list is stored: it lies in new memory. -/
theorem RWh.store {w1 : World} (h : RWh w X B now T) (hb : Below w.heap.size w w1) {r : Option Addr} {t : Nat} {T' : List Ent} (o : OwnE w1 w.heap.size (.slice r T'.length t) T') : RGo w X B now T' (w1.setCell ⟨B, 1, none⟩ (.slice r T'.length t)) := by
  have hBl := h.lt h.hasB
  have hB := h.hasB
  obtain ⟨a, cap, h1, h2, h3⟩ := h.below hb
  obtain ⟨r', t', e, il⟩ := o.isL
  injection e with e1 e2 e3
  subst e1 e3
  have hge : ∀ b off, r = some ⟨b, off, none⟩ → w.heap.size ≤ b ∨ T' = [] := fun b off hr => by
    subst hr
    by_cases hT : T' = []
    · exact .inr hT
    · obtain ⟨g, hg, hlo, _⟩ := OwnE.row o hT
      cases hg
      exact .inl hlo
  have hne : ∀ k, k ≠ B → (w1.setCell ⟨B, 1, none⟩ (.slice r T'.length t)).heap[k]? = w1.heap[k]? := fun k hk => heap_setCell_other _ _ k _ hk
  refine ⟨fun k => k = B ∨ T' ≠ [] ∧ ∃ off, r = some ⟨k, off, none⟩, ⟨r, t, ?_, ⟨il.le, il.big, fun i x hi => ?_⟩, fun k => Iff.rfl⟩, ?_, fun k hk => ?_⟩
  · rw [heap_setCell_same _ _ _ _ _ _ h1]; rfl
  · obtain ⟨b, off, e, hb', c1, c2⟩ := il.elem i x hi
    have hbB : b ≠ B := by
      rcases hge b off e with q | q
      · omega
      · rw [q] at hi; simp at hi
    exact ⟨b, off, e, by simpa using hb', (World.cell?_of_block (hne b hbB)).trans c1, (World.cell?_of_block (hne b hbB)).trans c2⟩
  · exact (Fr.below hb).trans (Fr.setCell (fun k => k = B) _ _ _ _ rfl) (fun j hj => .inl (hj ▸ hB))
  · rcases hk with rfl | ⟨ne, off, hr⟩
    · exact .inl hB
    · rcases hge k off hr with q | q
      · exact .inr q
      · exact absurd q ne

/-- '==' of two timers. -/
theorem eqT (x : Ent) (w : World) : (Op.equalIn 10000 33 (.agg #[.int .u64 x.1, .int .i64 x.2]) (.agg #[.int .u64 x.1, .int .i64 x.2])).run Tryd.prog w = .ok true w := by
  have u3 := Tryd.underlying3
  have a3 := Tryd.isAgg3
  have z3 := Tryd.sizeOf3
  have u29 := Tryd.underlying25
  have a29 := Tryd.isAgg25
  have z29 := Tryd.sizeOf25
  have hS : Tryd.prog.underlying 33 = some (.struct (Tryd.prog.fieldsOf 33)) := by kernel_rfl
  have hp : Tryd.prog.stoodInHeld 33 = false := by kernel_rfl
  rw [show (10000 : Nat) = 9999 + 1 from rfl, run_equalIn_agg w 9999 33 _ _ hS hp]
  simp only [Program.fieldsOf, Tryd.underlying33]
  obtain ⟨k1, i1⟩ := x
  go_simp
theorem guardT : Tryd.prog.eqGuardType Tryd.prog.depth 33 = false := by kernel_rfl
set_option maxHeartbeats 2000000 in
set_option maxRecDepth 100000 in
theorem sameT_any (a a' : Option Addr) (cap cap' : Nat) (d : List Ent) (w : World) (h : IsL w a cap d) (h' : IsL w a' cap' d) :
    Calls Tryd.prog 18 #[.slice a d.length cap, .slice a' d.length cap'] w fun e w' => e = .returned (.bool true) ∧ Grown w w' := by
  have hl := h.len
  have H : Aside _ := h
  have H' : Aside _ := h'
  have mx := mixed
  obtain ⟨n, hn⟩ : ∃ n, d.length = n := ⟨_, rfl⟩
  have HN : Hid _ := hn
  rw [hn] at hl ⊢
  clear h h' hn
  go_enter Tryd.func18, Tryd.ntmps18
  go_wp2
  go_loopg [5] n (fun kx s5 wr => ∃ k : Nat, s5 = .int .i64 k ∧ k ≤ n ∧ n - k ≤ kx ∧ Aside (Grown w wr))
  case atStart => exact ⟨0, rfl, by omega, by omega, Grown.refl w⟩
  case round =>
    obtain ⟨k, rfl, hk, hkx, G⟩ := hrel
    by_cases hlt : k < n
    · have hz : (k : Int) < (n : Int) := by omega
      obtain ⟨b, off, ha, hc⟩ := H.out.at (show k < d.length by rw [HN.out]; exact hlt)
      obtain ⟨b', off', ha', hc'⟩ := H'.out.at (show k < d.length by rw [HN.out]; exact hlt)
      subst ha ha'
      have c1 := fun n => (hc wr G.out n #[]).1
      have c2 := fun n => (hc wr G.out n #[]).2
      have c3 := fun n => (hc' wr G.out n #[]).1
      have c4 := fun n => (hc' wr G.out n #[]).2
      simp only [grow_empty] at c1 c2 c3 c4
      clear hc hc'
      generalize d[k]'(by rw [HN.out]; exact hlt) = x at c1 c2 c3 c4
      have q1 := eqT x
      have q2 := guardT
      go_wp2_with fail
      go_quiet (fail)
      have G2 : Aside (Grown w (wr.drewN nq)) := G.out.drewN nq
      clear c1 c2 c3 c4 G q1
      generalize wr.drewN nq = w2 at G2 ⊢
      go_wp2
      go_roundg (n - (k + 1))
      case measure => omega
      case rel => exact ⟨k + 1, by go_num, by omega, Nat.le_refl _, G2⟩
    · have hz : ¬ (k : Int) < (n : Int) := by omega
      go_wp2
      go_ret
      exact ⟨rfl, G.out⟩

set_option maxHeartbeats 400000 in
theorem vless_any (x y : Ent) (w : World) :
    Calls Tryd.prog 28 #[.agg #[.int .u64 x.1, .int .i64 x.2], .agg #[.int .u64 y.1, .int .i64 y.2]] w fun e w' => e = .returned (.bool (ltE x y)) ∧ Grown w w' := by
  obtain ⟨k1, i1⟩ := x
  obtain ⟨k2, i2⟩ := y
  rcases Int.lt_trichotomy k1 k2 with h | h | h
  · have e : ltE (k1, i1) (k2, i2) = true := (ltE_iff _ _).2 (.inl h)
    rw [e]
    clear e
    go_enter Tryd.func28, Tryd.ntmps28
    go_wp2
    go_ret
    exact ⟨rfl, ((Grown.refl w).alloc _).alloc _⟩
  · subst h
    have hn : ¬ k1 < k1 := by omega
    by_cases hi : i1 < i2
    · have e : ltE (k1, i1) (k1, i2) = true := (ltE_iff _ _).2 (.inr ⟨rfl, hi⟩)
      rw [e]
      clear e
      go_enter Tryd.func28, Tryd.ntmps28
      go_wp2
      go_ret
      exact ⟨rfl, ((Grown.refl w).alloc _).alloc _⟩
    · have e : ltE (k1, i1) (k1, i2) = false := (ltE_not _ _).2 (.inr ⟨rfl, by simp only; omega⟩)
      rw [e]
      clear e
      go_enter Tryd.func28, Tryd.ntmps28
      go_wp2
      go_ret
      exact ⟨rfl, ((Grown.refl w).alloc _).alloc _⟩
  · have e : ltE (k1, i1) (k2, i2) = false := (ltE_not _ _).2 (.inl h)
    have hn : ¬ k1 < k2 := by omega
    have hq : ¬ k1 = k2 := by omega
    rw [e]
    clear e
    go_enter Tryd.func28, Tryd.ntmps28
    go_wp2
    go_ret
    exact ⟨rfl, ((Grown.refl w).alloc _).alloc _⟩
theorem vless_grown (x y : Ent) (w : World) (n : Nat) (os : Array Obj) :
    Calls Tryd.prog 28 #[.agg #[.int .u64 x.1, .int .i64 x.2], .agg #[.int .u64 y.1, .int .i64 y.2]] (grow (w.drewN n) os) fun e w' => e = .returned (.bool (ltE x y)) ∧ ∃ p : GrownBy, w' = grow (w.drewN p.n) p.os :=
  Calls.grown_of (vless_any x y _)

set_option maxHeartbeats 2000000 in
set_option maxRecDepth 100000 in
theorem vdue_any (h : RWh w X B now T) (i : Int) : Calls Tryd.prog 27 #[.pointer (some ⟨B, 0, none⟩), .int .i64 i] w fun e w' => e = .returned (dueV T i) ∧ w' = w := by
  obtain ⟨a, cap, -, c1, h2, -, -⟩ := h.open
  have hl := h2.len
  have H : Aside (IsL w a cap T) := h2
  clear h h2
  go_enter Tryd.func27, Tryd.ntmps27
  go_wp2
  go_loop [6] (fun s6 => ∃ k : Nat, s6 = .int .i64 k ∧ k ≤ T.length ∧ Aside (dueOf (T.drop k) i = dueOf T i)) (fun s6 => T.length - (intOf s6).toNat)
  case atStart => exact ⟨0, rfl, by omega, (rfl : dueOf (T.drop 0) i = dueOf T i)⟩
  case round =>
    obtain ⟨k, rfl, hk, A⟩ := hrel
    by_cases hlt : k < T.length
    · have hz : (k : Int) < (T.length : Int) := by omega
      obtain ⟨b, off, rfl, hb, d1, d2⟩ := H.out.elem k T[k] (List.getElem?_eq_getElem hlt)
      have HX : Hid (dueOf T i = dueOf (T[k] :: T.drop (k + 1)) i) := by show _ = _; rw [← A.out, List.drop_eq_getElem_cons hlt]
      obtain ⟨⟨x1, x2⟩, hx⟩ : ∃ x, T[k] = x := ⟨_, rfl⟩
      rw [hx] at d1 d2 HX
      simp only at d1 d2
      clear hx
      by_cases e : x2 = i
      · have E : Hid (dueOf T i = some x1) := HX.out.trans (by unfold dueOf; rw [if_pos e])
        have e2 : (x2 == i) = true := by simpa using e
        clear e HX A
        go_wp2
        refine bodyPost_ret (v := .tuple #[.int .u64 x1, .bool true]) (by simp [results, Tryd.results27, go_sem]) rfl ⟨?_, rfl⟩
        unfold dueV
        rw [E.out]
        rfl
      · have E : Aside (dueOf (T.drop (k + 1)) i = dueOf T i) := by
          refine (HX.out.trans ?_).symm
          rw [dueOf, if_neg e]
        have e2 : (x2 == i) = false := by simpa using e
        clear e HX A
        go_wp2
        go_round
        case rel => exact ⟨k + 1, by go_num, by omega, E⟩
        case measure => simp [intOf]; omega
    · have hz : ¬ (k : Int) < (T.length : Int) := by omega
      have E : Hid (dueOf T i = none) := by
        show _ = _
        rw [← A.out, List.drop_of_length_le (by omega)]
        rfl
      go_wp2
      refine bodyPost_ret (v := .tuple #[.int .u64 0, .bool false]) (by simp [results, Tryd.results27, go_sem]) rfl ⟨?_, rfl⟩
      unfold dueV
      rw [E.out]
      rfl
end Go.Proofs.YtbopobgnmkhabaaDoor
