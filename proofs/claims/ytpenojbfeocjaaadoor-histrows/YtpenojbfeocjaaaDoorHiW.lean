/- Contracts: turn, read. -/
import Derived.Test.YtpenojbfeocjaaaDoorHiV
namespace Go.Proofs.YtpenojbfeocjaaaDoor
open Go.RowKit Go.Lib Go.WideMaps Go.Maps
set_option linter.unusedVariables false
set_option maxRecDepth 10000

def upd {α β : Type} [DecidableEq α] (f : α → Option β) (x : α) (v : Option β) : α → Option β := fun a => if a = x then v else f a
theorem fput_upd {α β : Type} [DecidableEq α] (f : α → Option β) (h : β → Value) (x : α) (y : β) : fput (fun a => (f a).map h) x (h y) = fun a => (upd f x (some y) a).map h := by
  funext a; unfold fput upd; by_cases c : a = x <;> simp [c]
theorem fdel_upd {α β : Type} [DecidableEq α] (f : α → Option β) (h : β → Value) (x : α) : fdel (fun a => (f a).map h) x = fun a => (upd f x none a).map h := by
  funext a; unfold fdel upd; by_cases c : a = x <;> simp [c]
def RwR.left (s : RwR) (e : EvR) : RwR := { s with g := upd s.g ((s.lastR e.i).y, u64 e.i) none }
def RwR.now1 (s : RwR) (e : EvR) : RwR := { s with f := upd s.f e.i (some e) }
def RwR.come1 (s : RwR) (e : EvR) : RwR := { s with g := upd s.g (e.y, u64 e.i) (some (e.y, e.i)) }
/-- How a task stands behind an event. -/
def RwR.turn (s : RwR) (e : EvR) : RwR := if e.k = 2 then ((s.left e).now1 e).come1 e else (s.left e).now1 e
def RwR.tick (s : RwR) (e : EvR) : RwR := if e.k = 10 then s else { s with now := e.n }
def RwR.mark (s : RwR) (e : EvR) : RwR := if e.k = 1 then { s with made := e.i } else if e.k = 3 then { s with cl := s.cl + 1 } else if e.k = 9 then { s with shut := true } else s
def RwR.read (s : RwR) (e : EvR) : RwR := if 2 ≤ e.k ∧ e.k ≤ 7 then ((s.tick e).mark e).turn e else (s.tick e).mark e
section
variable {w w' : World} {R L M c : Nat} {s : RwR}
theorem RowI.apart (h : RowI w R L M s c) : R ≠ L ∧ R ≠ M := by
  obtain ⟨n, _, h1⟩ := h.ml
  obtain ⟨m, _, h2⟩ := h.mr
  obtain ⟨e1, q1, h1⟩ := h1.isMap
  obtain ⟨e2, q2, h2⟩ := h2.isMap
  have hb := h.hb
  refine ⟨fun e => ?_, fun e => ?_⟩
  · subst e; rw [h1] at hb; cases hb
  · subst e; rw [h2] at hb; cases hb
theorem RowI.setR (h : RowI w R L M s c) (hg : w.grownBy w' (some M)) {g' : Nat × Nat → Option (Nat × Int)} {n c' : Nat} (hm : MapG keyP w' M (fun p => (g' p).map enV) n) (hn : n ≤ c') (hc : c ≤ c') : RowI w' R L M { s with g := g' } c' := by
  obtain ⟨l1, l2, l3⟩ := h.lt
  obtain ⟨a1, a2⟩ := h.apart
  obtain ⟨m, hm1, hm2⟩ := h.ml
  refine ⟨(hg.block R l1 fun e => a2 (by injection e)).trans h.hb, ⟨m, by omega, hm2.of_block (hg.block L l2 fun e => h.ne (by injection e))⟩, ⟨n, hn, hm⟩, h.ne, ?_, h.rg⟩
  have := h.cl
  show s.cl ≤ c'
  omega
theorem RowI.setL (h : RowI w R L M s c) (hg : w.grownBy w' (some L)) {f' : Int → Option EvR} {n c' : Nat} (hm : MapG keyI w' L (fun p => (f' p).map evV) n) (hn : n ≤ c') (hc : c ≤ c') : RowI w' R L M { s with f := f' } c' := by
  obtain ⟨l1, l2, l3⟩ := h.lt
  obtain ⟨a1, a2⟩ := h.apart
  obtain ⟨m, hm1, hm2⟩ := h.mr
  refine ⟨(hg.block R l1 fun e => a1 (by injection e)).trans h.hb, ⟨n, hn, hm⟩, ⟨m, by omega, hm2.of_block (hg.block M l3 fun e => h.ne (by injection e with e; exact e.symm))⟩, h.ne, ?_, h.rg⟩
  have := h.cl
  show s.cl ≤ c'
  omega
theorem RowI.delG (h : RowI w R L M s c) {p : Nat × Nat} (hp : wfU p.1 ∧ wfU p.2) : ∃ w', (Builtin.delete_ #[50, 52] 0 #[.map (some M), .agg #[.int .u64 p.1, .int .u64 p.2]]).run Tryd.prog w = .ok (.tuple #[]) w' ∧ RowI w' R L M { s with g := upd s.g p none } c ∧ w.grownBy w' (some M) := by
  obtain ⟨n, hn, hm⟩ := h.mr
  obtain ⟨w1, m, hr, hq, hmn, hg⟩ := hm.del (t := 50) Tryd.underlying50 (x := p) hp 0
  rw [fdel_upd] at hq
  exact ⟨w1, hr, h.setR hg hq (by omega) (Nat.le_refl _), hg⟩
theorem RowI.putF (h : RowI w R L M s c) (hc : c ≤ 100000) {i : Int} (hi : wfI i) (e : EvR) : ∃ w', (Instr.mapUpdate 53 (.map (some L)) (.int .i64 i) (.agg #[.int .i64 e.k, .int .i64 e.t, .int .i64 e.i, .int .u64 e.y, .int .u64 e.c, .int .u64 e.n])).run Tryd.prog w = .ok () w' ∧ RowI w' R L M { s with f := upd s.f i (some e) } (c + 1) ∧ w.grownBy w' (some L) := by
  obtain ⟨n, hn, hm⟩ := h.ml
  obtain ⟨w1, m, hr, hq, hmn, hg⟩ := hm.store (t := 53) Tryd.underlying53 (by omega) (x := i) hi (evV e)
  rw [fput_upd] at hq
  exact ⟨w1, hr, h.setL hg hq (by rw [hmn]; split <;> omega) (by omega), hg⟩
theorem RowI.putG (h : RowI w R L M s c) (hc : c ≤ 100001) {p : Nat × Nat} (hp : wfU p.1 ∧ wfU p.2) (x : Nat × Int) : ∃ w', (Instr.mapUpdate 50 (.map (some M)) (.agg #[.int .u64 p.1, .int .u64 p.2]) (.agg #[.int .u64 x.1, .int .i64 x.2])).run Tryd.prog w = .ok () w' ∧ RowI w' R L M { s with g := upd s.g p (some x) } (c + 1) ∧ w.grownBy w' (some M) := by
  obtain ⟨n, hn, hm⟩ := h.mr
  obtain ⟨w1, m, hr, hq, hmn, hg⟩ := hm.store (t := 50) Tryd.underlying50 (by omega) (x := p) hp (enV x)
  rw [fput_upd] at hq
  exact ⟨w1, hr, h.setR hg hq (by rw [hmn]; split <;> omega) (by omega), hg⟩
theorem RowI.wide (h : RowI w R L M s c) {d : Nat} (hd : c ≤ d) : RowI w R L M s d := by
  obtain ⟨n, hn, hm⟩ := h.mr
  obtain ⟨m, hm', hl⟩ := h.ml
  exact ⟨h.hb, ⟨m, by omega, hl⟩, ⟨n, by omega, hm⟩, h.ne, by have := h.cl; omega, h.rg⟩
theorem RowI.cellSet (h : RowI w R L M s c) {o : Nat} {v : Value} {s' : RwR} {c' : Nat} (hf : s'.f = s.f) (hg : s'.g = s.g) (hv : (#[Value.map (some L), .map (some M), .int .i64 s.made, .int .u64 s.cl, .int .u64 s.now, .bool s.shut].setIfInBounds o v) = #[.map (some L), .map (some M), .int .i64 s'.made, .int .u64 s'.cl, .int .u64 s'.now, .bool s'.shut]) (hc : c ≤ c') (hcl : s'.cl ≤ c') (hr : -4611686018427387904 ≤ s'.made ∧ s'.made ≤ 4611686018427387904) : RowI (w.setCell ⟨R, o, none⟩ v) R L M s' c' := by
  obtain ⟨a1, a2⟩ := h.apart
  obtain ⟨n, hn, hm⟩ := h.mr
  obtain ⟨m, hm', hl⟩ := h.ml
  have hb := h.hb
  refine ⟨?_, ⟨m, by omega, ?_⟩, ⟨n, by omega, ?_⟩, h.ne, hcl, hr⟩
  · rw [← hv]
    simp [World.setCell, Array.getElem?_modify, hb]
  · rw [hf]; exact hl.of_block (heap_setCell_other _ _ _ _ (fun e => a1 e.symm))
  · rw [hg]; exact hm.of_block (heap_setCell_other _ _ _ _ (fun e => a2 e.symm))
theorem EBx.grown {X : Nat} {e : EvR} {row : Nat} (h : EBx w X e) (hg : w.grownBy w' (some row)) (hx : X ≠ row) : EBx w' X e := by
  have hb := hg.block X h.lt (fun e => hx (by injection e))
  have hc : ∀ o, w'.cell? ⟨X, o, none⟩ = w.cell? ⟨X, o, none⟩ := fun o => World.cell?_of_block hb
  exact ⟨by have := hg.size; have := h.lt; omega, (hc 0).trans h.c0, (hc 1).trans h.c1, (hc 2).trans h.c2, (hc 3).trans h.c3, (hc 4).trans h.c4, (hc 5).trans h.c5⟩
theorem tt1 {X : Nat} {l e : EvR} {V : World} (E : EBx V X e) (I : RowI V R L M s c) (h : wfI e.i) (hl : s.lastR e.i = l) :
    V.cell? ⟨X, 2, none⟩ = some (.int .i64 e.i) ∧ V.cell? ⟨R, 0, none⟩ = some (.map (some L)) ∧ V.cell? ⟨R, 1, none⟩ = some (.map (some M)) ∧ (Instr.lookup 53 (.map (some L)) (.int .i64 e.i) false).run Tryd.prog V = .ok (.agg #[.int .i64 l.k, .int .i64 l.t, .int .i64 l.i, .int .u64 l.y, .int .u64 l.c, .int .u64 l.n]) V := by
  obtain ⟨a0, a1, a2, a3, a4, a5⟩ := I.cells
  have := I.look h
  rw [hl] at this
  exact ⟨E.c2, a0, a1, this⟩
theorem tt2 {X : Nat} {e : EvR} {V : World} (E : EBx V X e) (I : RowI V R L M s c) :
    V.cell? ⟨X, 0, none⟩ = some (.int .i64 e.k) ∧ V.cell? ⟨X, 1, none⟩ = some (.int .i64 e.t) ∧ V.cell? ⟨X, 2, none⟩ = some (.int .i64 e.i) ∧ V.cell? ⟨X, 3, none⟩ = some (.int .u64 e.y) ∧ V.cell? ⟨X, 4, none⟩ = some (.int .u64 e.c) ∧ V.cell? ⟨X, 5, none⟩ = some (.int .u64 e.n) ∧ V.cell? ⟨R, 0, none⟩ = some (.map (some L)) := ⟨E.c0, E.c1, E.c2, E.c3, E.c4, E.c5, I.cells.1⟩
theorem tt4 {X : Nat} {e : EvR} {V : World} (E : EBx V X e) (I : RowI V R L M s c) :
    V.cell? ⟨X, 0, none⟩ = some (.int .i64 e.k) ∧ V.cell? ⟨X, 1, none⟩ = some (.int .i64 e.t) ∧ V.cell? ⟨X, 2, none⟩ = some (.int .i64 e.i) ∧ V.cell? ⟨X, 3, none⟩ = some (.int .u64 e.y) ∧ V.cell? ⟨X, 4, none⟩ = some (.int .u64 e.c) ∧ V.cell? ⟨X, 5, none⟩ = some (.int .u64 e.n) ∧ V.cell? ⟨R, 1, none⟩ = some (.map (some M)) := ⟨E.c0, E.c1, E.c2, E.c3, E.c4, E.c5, I.cells.2.1⟩
/-- A task's turn. -/
def TurnIs (w w' : World) (N R L M c : Nat) (s : RwR) : Prop := RowI w' R L M s (c + 2) ∧ Below N w w'
set_option maxHeartbeats 16000000 in
set_option maxRecDepth 100000 in
theorem turn_any (I : RowI w R L M s c) (hc : c ≤ 100000) (e : EvR) (hi : wfI e.i) (hy : wfU e.y) (hs : ∀ i x, s.f i = some x → wfU x.y) {N : Nat} (hN : N ≤ w.heap.size ∧ N ≤ L ∧ N ≤ M) : Calls Tryd.prog 22 #[.pointer (some ⟨R, 0, none⟩), evV e] w fun r w' => r = .returned (.tuple #[]) ∧ TurnIs w w' N R L M c (s.turn e) := by
  have hlt := I.lt
  obtain ⟨X, hX⟩ : ∃ X, w.heap.size = X := ⟨_, rfl⟩
  obtain ⟨u1, hu1⟩ : ∃ u, w.alloc (.cells #[.int .i64 e.k, .int .i64 e.t, .int .i64 e.i, .int .u64 e.y, .int .u64 e.c, .int .u64 e.n] 27) = u := ⟨_, rfl⟩
  have b1 : Below w.heap.size w u1 := by rw [← hu1]; exact bel1 _ _
  have E1 : EBx u1 X e := by rw [← hu1, ← hX]; exact EBx.made w e
  have I1 : RowI u1 R L M s c := I.below b1
  have B : Aside (Below w.heap.size w u1) := b1
  have HX : Aside _ := hX
  have HU : Aside _ := hu1
  have XL : Aside (X ≠ L) := by show _ ≠ _; omega
  have XM : Aside (X ≠ M) := by show _ ≠ _; omega
  have HN : Aside _ := hN
  obtain ⟨l, hl⟩ : ∃ l, s.lastR e.i = l := ⟨_, rfl⟩
  have HL : Aside _ := hl
  have WL : Aside (wfU l.y) := by
    show wfU l.y
    rw [← hl]
    unfold RwR.lastR
    cases hf : s.f e.i with
    | none => exact wfU_of (by decide)
    | some x => exact hs _ _ hf
  have WI : Aside (wfI e.i) := hi
  have WY : Aside (wfU e.y) := hy
  have HC : Aside (c ≤ 100000) := hc
  have ff := fldY l
  unfold evV
  clear hX hu1 b1 I hl hi hy hs hlt hN hc
  go_enter Tryd.func22, Tryd.ntmps22
  go_upto_region 1 with fail
  rw [HU.out, HX.out]
  refine wp_region_held_drew (S := (fun V : World => V.cell? ⟨X, 2, none⟩ = some (.int .i64 e.i) ∧ V.cell? ⟨R, 0, none⟩ = some (.map (some L)) ∧ V.cell? ⟨R, 1, none⟩ = some (.map (some M)) ∧ (Instr.lookup 53 (.map (some L)) (.int .i64 e.i) false).run Tryd.prog V = .ok (.agg #[.int .i64 l.k, .int .i64 l.t, .int .i64 l.i, .int .u64 l.y, .int .u64 l.c, .int .u64 l.n]) V)) (by kernel_rfl) (tt1 E1.drew I1.drew WI.out HL.out) (fun hHeld => ?_)
  refine wpAnyH_take (i := 0) (oi := { dst := some 4, op := Op.move (Operand.tmp 0), type := 37, pos := "hist.go:119", after := #[], guard := none }) (v := ?_) rfl (by kernel_rfl) (by kernel_rfl) (by kernel_rfl) (fun _ _ _ h => h) (Or.inl ⟨by rfl, ?_⟩) (by assumption) ?_
  rotate_left
  · (intro w hSw; (try dsimp only at hSw); go_simp; try with_reducible rfl)
  simp only [Act.put, List.setIfInBounds_toArray, List.set_cons_zero, List.set_cons_succ]
  refine wpAnyH_take (i := 1) (oi := { dst := some 5, op := Op.nilCheck (Operand.tmp 4), type := 0, pos := "hist.go:119", after := #[{ on := 0, ground := Ground.data }], guard := none }) (v := ?_) rfl (by kernel_rfl) (by kernel_rfl) (by kernel_rfl) (fun _ _ _ h => h) (Or.inl ⟨by rfl, ?_⟩) (by assumption) ?_
  rotate_left
  · (intro w hSw; (try dsimp only at hSw); go_simp; try with_reducible rfl)
  simp only [Act.put, List.setIfInBounds_toArray, List.set_cons_zero, List.set_cons_succ]
  refine wpAnyH_take (i := 2) (oi := { dst := some 6, op := Op.fieldAddr 55 (Operand.tmp 5) 1, type := 0, pos := "hist.go:119", after := #[{ on := 1, ground := Ground.data }], guard := none }) (v := ?_) rfl (by kernel_rfl) (by kernel_rfl) (by kernel_rfl) (fun _ _ _ h => h) (Or.inl ⟨by rfl, ?_⟩) (by assumption) ?_
  rotate_left
  · (intro w hSw; (try dsimp only at hSw); go_simp; try with_reducible rfl)
  simp only [Act.put, List.setIfInBounds_toArray, List.set_cons_zero, List.set_cons_succ]
  refine wpAnyH_take (i := 3) (oi := { dst := some 7, op := Op.load 50 (Operand.tmp 6), type := 50, pos := "hist.go:119", after := #[{ on := 2, ground := Ground.data }], guard := none }) (v := ?_) rfl (by kernel_rfl) (by kernel_rfl) (by kernel_rfl) (fun _ _ _ h => h) (Or.inl ⟨by rfl, ?_⟩) (by assumption) ?_
  rotate_left
  · (intro w hSw; (try dsimp only at hSw); go_simp; try with_reducible rfl)
  simp only [Act.put, List.setIfInBounds_toArray, List.set_cons_zero, List.set_cons_succ]
  refine wpAnyH_take (i := 4) (oi := { dst := some 8, op := Op.move (Operand.tmp 0), type := 37, pos := "hist.go:119", after := #[], guard := none }) (v := ?_) rfl (by kernel_rfl) (by kernel_rfl) (by kernel_rfl) (fun _ _ _ h => h) (Or.inl ⟨by rfl, ?_⟩) (by assumption) ?_
  rotate_left
  · (intro w hSw; (try dsimp only at hSw); go_simp; try with_reducible rfl)
  simp only [Act.put, List.setIfInBounds_toArray, List.set_cons_zero, List.set_cons_succ]
  refine wpAnyH_take (i := 5) (oi := { dst := some 9, op := Op.nilCheck (Operand.tmp 8), type := 0, pos := "hist.go:119", after := #[{ on := 4, ground := Ground.data }], guard := none }) (v := ?_) rfl (by kernel_rfl) (by kernel_rfl) (by kernel_rfl) (fun _ _ _ h => h) (Or.inl ⟨by rfl, ?_⟩) (by assumption) ?_
  rotate_left
  · (intro w hSw; (try dsimp only at hSw); go_simp; try with_reducible rfl)
  simp only [Act.put, List.setIfInBounds_toArray, List.set_cons_zero, List.set_cons_succ]
  refine wpAnyH_take (i := 6) (oi := { dst := some 10, op := Op.fieldAddr 55 (Operand.tmp 9) 0, type := 0, pos := "hist.go:119", after := #[{ on := 5, ground := Ground.data }], guard := none }) (v := ?_) rfl (by kernel_rfl) (by kernel_rfl) (by kernel_rfl) (fun _ _ _ h => h) (Or.inl ⟨by rfl, ?_⟩) (by assumption) ?_
  rotate_left
  · (intro w hSw; (try dsimp only at hSw); go_simp; try with_reducible rfl)
  simp only [Act.put, List.setIfInBounds_toArray, List.set_cons_zero, List.set_cons_succ]
  refine wpAnyH_take (i := 7) (oi := { dst := some 11, op := Op.load 53 (Operand.tmp 10), type := 53, pos := "hist.go:119", after := #[{ on := 6, ground := Ground.data }], guard := none }) (v := ?_) rfl (by kernel_rfl) (by kernel_rfl) (by kernel_rfl) (fun _ _ _ h => h) (Or.inl ⟨by rfl, ?_⟩) (by assumption) ?_
  rotate_left
  · (intro w hSw; (try dsimp only at hSw); go_simp; try with_reducible rfl)
  simp only [Act.put, List.setIfInBounds_toArray, List.set_cons_zero, List.set_cons_succ]
  refine wpAnyH_take (i := 8) (oi := { dst := some 12, op := Op.fieldAddr 27 (Operand.tmp 3) 2, type := 0, pos := "hist.go:119", after := #[], guard := none }) (v := ?_) rfl (by kernel_rfl) (by kernel_rfl) (by kernel_rfl) (fun _ _ _ h => h) (Or.inl ⟨by rfl, ?_⟩) (by assumption) ?_
  rotate_left
  · (intro w hSw; (try dsimp only at hSw); go_simp; try with_reducible rfl)
  simp only [Act.put, List.setIfInBounds_toArray, List.set_cons_zero, List.set_cons_succ]
  refine wpAnyH_take (i := 9) (oi := { dst := some 13, op := Op.load 3 (Operand.tmp 12), type := 3, pos := "hist.go:119", after := #[{ on := 8, ground := Ground.data }], guard := none }) (v := ?_) rfl (by kernel_rfl) (by kernel_rfl) (by kernel_rfl) (fun _ _ _ h => h) (Or.inl ⟨by rfl, ?_⟩) (by assumption) ?_
  rotate_left
  · (intro w hSw; (try dsimp only at hSw); go_simp; try with_reducible rfl)
  simp only [Act.put, List.setIfInBounds_toArray, List.set_cons_zero, List.set_cons_succ]
  refine wpAnyH_take (i := 10) (oi := { dst := some 14, op := Op.lookup 53 (Operand.tmp 11) (Operand.tmp 13) false, type := 27, pos := "hist.go:119", after := #[{ on := 7, ground := Ground.data }, { on := 9, ground := Ground.data }], guard := none }) (v := ?_) rfl (by kernel_rfl) (by kernel_rfl) (by kernel_rfl) (fun _ _ _ h => h) (Or.inl ⟨by rfl, ?_⟩) (by assumption) ?_
  rotate_left
  · (intro w hSw; (try dsimp only at hSw); go_simp; try with_reducible rfl)
  simp only [Act.put, List.setIfInBounds_toArray, List.set_cons_zero, List.set_cons_succ]
  refine wpAnyH_take (i := 11) (oi := { dst := some 15, op := Op.field 27 (Operand.tmp 14) 3, type := 25, pos := "hist.go:119", after := #[{ on := 10, ground := Ground.data }], guard := none }) (v := ?_) rfl (by kernel_rfl) (by kernel_rfl) (by kernel_rfl) (fun _ _ _ h => h) (Or.inl ⟨by rfl, ?_⟩) (by assumption) ?_
  rotate_left
  · (intro w hSw; (try dsimp only at hSw); go_simp; try with_reducible rfl)
  simp only [Act.put, List.setIfInBounds_toArray, List.set_cons_zero, List.set_cons_succ]
  refine wpAnyH_take (i := 12) (oi := { dst := some 16, op := Op.fieldAddr 27 (Operand.tmp 3) 2, type := 0, pos := "hist.go:119", after := #[], guard := none }) (v := ?_) rfl (by kernel_rfl) (by kernel_rfl) (by kernel_rfl) (fun _ _ _ h => h) (Or.inl ⟨by rfl, ?_⟩) (by assumption) ?_
  rotate_left
  · (intro w hSw; (try dsimp only at hSw); go_simp; try with_reducible rfl)
  simp only [Act.put, List.setIfInBounds_toArray, List.set_cons_zero, List.set_cons_succ]
  refine wpAnyH_take (i := 13) (oi := { dst := some 17, op := Op.load 3 (Operand.tmp 16), type := 3, pos := "hist.go:119", after := #[{ on := 12, ground := Ground.data }], guard := none }) (v := ?_) rfl (by kernel_rfl) (by kernel_rfl) (by kernel_rfl) (fun _ _ _ h => h) (Or.inl ⟨by rfl, ?_⟩) (by assumption) ?_
  rotate_left
  · (intro w hSw; (try dsimp only at hSw); go_simp; try with_reducible rfl)
  simp only [Act.put, List.setIfInBounds_toArray, List.set_cons_zero, List.set_cons_succ]
  refine wpAnyH_ready (rs := [14]) (by kernel_rfl) (by simp) ?_
  refine AllReadyH.cons (o := { dst := some 18, op := Op.call { callee := Callee.value (Operand.func 32), args := #[Operand.tmp 15, Operand.tmp 17], argTypes := #[25, 3] }, type := 52, pos := "hist.go:119", after := #[{ on := 11, ground := Ground.data }, { on := 13, ground := Ground.data }], guard := none }) rfl (fun Kt hKt => ?_) AllReadyH.nil
  go_simp
  (with_reducible refine Calls.mono (placeOf_any l.y e.i _) ?_)
  rintro r v1 ⟨rfl, bb⟩
  unfold prV; dsimp only
  have I1 : RowI v1 R L M s c := I1.drew.below bb
  have E1 : EBx v1 X e := E1.drew.below bb
  have B1 : Aside (Below w.heap.size w v1) := B.out.drew.trans (bb.mono B.out.drew.size)
  obtain ⟨v2, hr2, I2, g2⟩ := I1.delG (p := (l.y, u64 e.i)) ⟨WL.out, u64_wf e.i⟩
  dsimp only at hr2
  have bL : Below v1.heap.size v1 v1 := Below.refl _ _
  have E2 : EBx v2 X e := E1.grown g2 XM.out
  have B2 : Aside (Below N w v2) := (B1.out.mono HN.out.1).grown g2 (by have := (B1.out).size; have := HN.out.1; omega) (fun k hk => by injection hk with hk; rw [← hk]; exact HN.out.2.2)
  have I2 : RowI v2 R L M (s.left e) c := by unfold RwR.left; rw [HL.out]; exact I2
  clear bb
  go_wp2_with fail
  refine hKt.out _ _ (tt1 E1 I1 WI.out HL.out) (fun hHeld => ?_)
  clear hKt Kt
  try simp only [Act.put, List.setIfInBounds_toArray, List.set_cons_zero, List.set_cons_succ]
  refine wpAnyH_ready (rs := [15]) (by kernel_rfl) (by simp) ?_
  refine AllReadyH.cons (o := { dst := none, op := Op.call { callee := Callee.builtin Builtin.delete, args := #[Operand.tmp 7, Operand.tmp 18], argTypes := #[50, 52] }, type := 0, pos := "hist.go:119", after := #[{ on := 3, ground := Ground.data }, { on := 14, ground := Ground.data }, { on := 14, ground := Ground.chain }], guard := none }) rfl (fun Kt hKt => ?_) AllReadyH.nil
  go_simp
  go_wp2_with fail
  refine hKt.out _ _ (tt1 E2 I2 WI.out HL.out) (fun hHeld => ?_)
  clear hKt Kt
  try simp only [Act.put, List.setIfInBounds_toArray, List.set_cons_zero, List.set_cons_succ]
  refine wpAnyH_done (by kernel_rfl) ?_ _
  clear hr2 E1 I1 B1 g2
  obtain ⟨v3, hr3, I3, g3⟩ := I2.drew.putF HC.out WI.out e
  have E3 : EBx v3 X e := E2.drew.grown g3 XL.out
  have B3 : Aside (Below N w v3) := (B2.out.drew).grown g3 (by have := B2.out.size; have := HN.out.1; show N ≤ v2.heap.size; omega) (fun k hk => by injection hk with hk; rw [← hk]; exact HN.out.2.1)
  go_upto_region 2 with fail
  refine wp_region_held_drew (S := (fun V : World => V.cell? ⟨X, 0, none⟩ = some (.int .i64 e.k) ∧ V.cell? ⟨X, 1, none⟩ = some (.int .i64 e.t) ∧ V.cell? ⟨X, 2, none⟩ = some (.int .i64 e.i) ∧ V.cell? ⟨X, 3, none⟩ = some (.int .u64 e.y) ∧ V.cell? ⟨X, 4, none⟩ = some (.int .u64 e.c) ∧ V.cell? ⟨X, 5, none⟩ = some (.int .u64 e.n) ∧ V.cell? ⟨R, 0, none⟩ = some (.map (some L)))) (by kernel_rfl) (tt2 E2.drew I2.drew) (fun hHeld => ?_)
  refine wpAnyH_take (i := 0) (oi := { dst := some 19, op := Op.move (Operand.tmp 0), type := 37, pos := "hist.go:120", after := #[], guard := none }) (v := ?_) rfl (by kernel_rfl) (by kernel_rfl) (by kernel_rfl) (fun _ _ _ h => h) (Or.inl ⟨by rfl, ?_⟩) (by assumption) ?_
  rotate_left
  · (intro w hSw; (try dsimp only at hSw); go_simp; try with_reducible rfl)
  simp only [Act.put, List.setIfInBounds_toArray, List.set_cons_zero, List.set_cons_succ]
  refine wpAnyH_take (i := 1) (oi := { dst := some 20, op := Op.nilCheck (Operand.tmp 19), type := 0, pos := "hist.go:120", after := #[{ on := 0, ground := Ground.data }], guard := none }) (v := ?_) rfl (by kernel_rfl) (by kernel_rfl) (by kernel_rfl) (fun _ _ _ h => h) (Or.inl ⟨by rfl, ?_⟩) (by assumption) ?_
  rotate_left
  · (intro w hSw; (try dsimp only at hSw); go_simp; try with_reducible rfl)
  simp only [Act.put, List.setIfInBounds_toArray, List.set_cons_zero, List.set_cons_succ]
  refine wpAnyH_take (i := 2) (oi := { dst := some 21, op := Op.fieldAddr 55 (Operand.tmp 20) 0, type := 0, pos := "hist.go:120", after := #[{ on := 1, ground := Ground.data }], guard := none }) (v := ?_) rfl (by kernel_rfl) (by kernel_rfl) (by kernel_rfl) (fun _ _ _ h => h) (Or.inl ⟨by rfl, ?_⟩) (by assumption) ?_
  rotate_left
  · (intro w hSw; (try dsimp only at hSw); go_simp; try with_reducible rfl)
  simp only [Act.put, List.setIfInBounds_toArray, List.set_cons_zero, List.set_cons_succ]
  refine wpAnyH_take (i := 3) (oi := { dst := some 22, op := Op.load 53 (Operand.tmp 21), type := 53, pos := "hist.go:120", after := #[{ on := 2, ground := Ground.data }], guard := none }) (v := ?_) rfl (by kernel_rfl) (by kernel_rfl) (by kernel_rfl) (fun _ _ _ h => h) (Or.inl ⟨by rfl, ?_⟩) (by assumption) ?_
  rotate_left
  · (intro w hSw; (try dsimp only at hSw); go_simp; try with_reducible rfl)
  simp only [Act.put, List.setIfInBounds_toArray, List.set_cons_zero, List.set_cons_succ]
  refine wpAnyH_take (i := 4) (oi := { dst := some 23, op := Op.fieldAddr 27 (Operand.tmp 3) 2, type := 0, pos := "hist.go:120", after := #[], guard := none }) (v := ?_) rfl (by kernel_rfl) (by kernel_rfl) (by kernel_rfl) (fun _ _ _ h => h) (Or.inl ⟨by rfl, ?_⟩) (by assumption) ?_
  rotate_left
  · (intro w hSw; (try dsimp only at hSw); go_simp; try with_reducible rfl)
  simp only [Act.put, List.setIfInBounds_toArray, List.set_cons_zero, List.set_cons_succ]
  refine wpAnyH_take (i := 5) (oi := { dst := some 24, op := Op.load 3 (Operand.tmp 23), type := 3, pos := "hist.go:120", after := #[{ on := 4, ground := Ground.data }], guard := none }) (v := ?_) rfl (by kernel_rfl) (by kernel_rfl) (by kernel_rfl) (fun _ _ _ h => h) (Or.inl ⟨by rfl, ?_⟩) (by assumption) ?_
  rotate_left
  · (intro w hSw; (try dsimp only at hSw); go_simp; try with_reducible rfl)
  simp only [Act.put, List.setIfInBounds_toArray, List.set_cons_zero, List.set_cons_succ]
  refine wpAnyH_take (i := 6) (oi := { dst := some 25, op := Op.load 27 (Operand.tmp 3), type := 27, pos := "hist.go:120", after := #[], guard := none }) (v := ?_) rfl (by kernel_rfl) (by kernel_rfl) (by kernel_rfl) (fun _ _ _ h => h) (Or.inl ⟨by rfl, ?_⟩) (by assumption) ?_
  rotate_left
  · (intro w hSw; (try dsimp only at hSw); go_simp; try with_reducible rfl)
  simp only [Act.put, List.setIfInBounds_toArray, List.set_cons_zero, List.set_cons_succ]
  refine wpAnyH_ready (rs := [7]) (by kernel_rfl) (by simp) ?_
  refine AllReadyH.cons (o := { dst := none, op := Op.mapUpdate 53 (Operand.tmp 22) (Operand.tmp 24) (Operand.tmp 25), type := 0, pos := "hist.go:120", after := #[{ on := 3, ground := Ground.data }, { on := 5, ground := Ground.data }, { on := 6, ground := Ground.data }, { on := 0, ground := Ground.phase }, { on := 1, ground := Ground.phase }, { on := 2, ground := Ground.phase }, { on := 3, ground := Ground.phase }, { on := 4, ground := Ground.phase }, { on := 5, ground := Ground.phase }, { on := 6, ground := Ground.phase }], guard := none }) rfl (fun Kt hKt => ?_) AllReadyH.nil
  go_simp
  go_wp2_with fail
  refine hKt.out _ _ (tt2 E3 I3) (fun hHeld => ?_)
  clear hKt Kt
  try simp only [Act.put, List.setIfInBounds_toArray, List.set_cons_zero, List.set_cons_succ]
  refine wpAnyH_done (by kernel_rfl) ?_ _
  have I3 : RowI v3 R L M ((s.left e).now1 e) (c + 1) := I3
  clear hr3 E2 I2 B2 g3
  have d0 := E3.c0
  by_cases k2 : e.k = 2
  · go_upto_region 4 with fail
    have K2 : Aside (e.k = 2) := k2
    clear k2 d0
    refine wp_region_held_drew (S := (fun V : World => V.cell? ⟨X, 0, none⟩ = some (.int .i64 e.k) ∧ V.cell? ⟨X, 1, none⟩ = some (.int .i64 e.t) ∧ V.cell? ⟨X, 2, none⟩ = some (.int .i64 e.i) ∧ V.cell? ⟨X, 3, none⟩ = some (.int .u64 e.y) ∧ V.cell? ⟨X, 4, none⟩ = some (.int .u64 e.c) ∧ V.cell? ⟨X, 5, none⟩ = some (.int .u64 e.n) ∧ V.cell? ⟨R, 1, none⟩ = some (.map (some M)))) (by kernel_rfl) (tt4 E3.drew I3.drew) (fun hHeld => ?_)
    refine wpAnyH_take (i := 0) (oi := { dst := some 29, op := Op.move (Operand.tmp 0), type := 37, pos := "hist.go:122", after := #[], guard := none }) (v := ?_) rfl (by kernel_rfl) (by kernel_rfl) (by kernel_rfl) (fun _ _ _ h => h) (Or.inl ⟨by rfl, ?_⟩) (by assumption) ?_
    rotate_left
    · (intro w hSw; (try dsimp only at hSw); go_simp; try with_reducible rfl)
    simp only [Act.put, List.setIfInBounds_toArray, List.set_cons_zero, List.set_cons_succ]
    refine wpAnyH_take (i := 1) (oi := { dst := some 30, op := Op.nilCheck (Operand.tmp 29), type := 0, pos := "hist.go:122", after := #[{ on := 0, ground := Ground.data }], guard := none }) (v := ?_) rfl (by kernel_rfl) (by kernel_rfl) (by kernel_rfl) (fun _ _ _ h => h) (Or.inl ⟨by rfl, ?_⟩) (by assumption) ?_
    rotate_left
    · (intro w hSw; (try dsimp only at hSw); go_simp; try with_reducible rfl)
    simp only [Act.put, List.setIfInBounds_toArray, List.set_cons_zero, List.set_cons_succ]
    refine wpAnyH_take (i := 2) (oi := { dst := some 31, op := Op.fieldAddr 55 (Operand.tmp 30) 1, type := 0, pos := "hist.go:122", after := #[{ on := 1, ground := Ground.data }], guard := none }) (v := ?_) rfl (by kernel_rfl) (by kernel_rfl) (by kernel_rfl) (fun _ _ _ h => h) (Or.inl ⟨by rfl, ?_⟩) (by assumption) ?_
    rotate_left
    · (intro w hSw; (try dsimp only at hSw); go_simp; try with_reducible rfl)
    simp only [Act.put, List.setIfInBounds_toArray, List.set_cons_zero, List.set_cons_succ]
    refine wpAnyH_take (i := 3) (oi := { dst := some 32, op := Op.load 50 (Operand.tmp 31), type := 50, pos := "hist.go:122", after := #[{ on := 2, ground := Ground.data }], guard := none }) (v := ?_) rfl (by kernel_rfl) (by kernel_rfl) (by kernel_rfl) (fun _ _ _ h => h) (Or.inl ⟨by rfl, ?_⟩) (by assumption) ?_
    rotate_left
    · (intro w hSw; (try dsimp only at hSw); go_simp; try with_reducible rfl)
    simp only [Act.put, List.setIfInBounds_toArray, List.set_cons_zero, List.set_cons_succ]
    refine wpAnyH_take (i := 4) (oi := { dst := some 33, op := Op.fieldAddr 27 (Operand.tmp 3) 3, type := 0, pos := "hist.go:122", after := #[], guard := none }) (v := ?_) rfl (by kernel_rfl) (by kernel_rfl) (by kernel_rfl) (fun _ _ _ h => h) (Or.inl ⟨by rfl, ?_⟩) (by assumption) ?_
    rotate_left
    · (intro w hSw; (try dsimp only at hSw); go_simp; try with_reducible rfl)
    simp only [Act.put, List.setIfInBounds_toArray, List.set_cons_zero, List.set_cons_succ]
    refine wpAnyH_take (i := 5) (oi := { dst := some 34, op := Op.load 25 (Operand.tmp 33), type := 25, pos := "hist.go:122", after := #[{ on := 4, ground := Ground.data }], guard := none }) (v := ?_) rfl (by kernel_rfl) (by kernel_rfl) (by kernel_rfl) (fun _ _ _ h => h) (Or.inl ⟨by rfl, ?_⟩) (by assumption) ?_
    rotate_left
    · (intro w hSw; (try dsimp only at hSw); go_simp; try with_reducible rfl)
    simp only [Act.put, List.setIfInBounds_toArray, List.set_cons_zero, List.set_cons_succ]
    refine wpAnyH_take (i := 6) (oi := { dst := some 35, op := Op.fieldAddr 27 (Operand.tmp 3) 2, type := 0, pos := "hist.go:122", after := #[], guard := none }) (v := ?_) rfl (by kernel_rfl) (by kernel_rfl) (by kernel_rfl) (fun _ _ _ h => h) (Or.inl ⟨by rfl, ?_⟩) (by assumption) ?_
    rotate_left
    · (intro w hSw; (try dsimp only at hSw); go_simp; try with_reducible rfl)
    simp only [Act.put, List.setIfInBounds_toArray, List.set_cons_zero, List.set_cons_succ]
    refine wpAnyH_take (i := 7) (oi := { dst := some 36, op := Op.load 3 (Operand.tmp 35), type := 3, pos := "hist.go:122", after := #[{ on := 6, ground := Ground.data }], guard := none }) (v := ?_) rfl (by kernel_rfl) (by kernel_rfl) (by kernel_rfl) (fun _ _ _ h => h) (Or.inl ⟨by rfl, ?_⟩) (by assumption) ?_
    rotate_left
    · (intro w hSw; (try dsimp only at hSw); go_simp; try with_reducible rfl)
    simp only [Act.put, List.setIfInBounds_toArray, List.set_cons_zero, List.set_cons_succ]
    refine wpAnyH_take (i := 9) (oi := { dst := some 38, op := Op.load 27 (Operand.tmp 3), type := 27, pos := "hist.go:122", after := #[], guard := none }) (v := ?_) rfl (by kernel_rfl) (by kernel_rfl) (by kernel_rfl) (fun _ _ _ h => h) (Or.inl ⟨by rfl, ?_⟩) (by assumption) ?_
    rotate_left
    · (intro w hSw; (try dsimp only at hSw); go_simp; try with_reducible rfl)
    simp only [Act.put, List.setIfInBounds_toArray, List.set_cons_zero, List.set_cons_succ]
    refine wpAnyH_ready (rs := [8]) (by kernel_rfl) (by simp) ?_
    refine AllReadyH.cons (o := { dst := some 37, op := Op.call { callee := Callee.value (Operand.func 32), args := #[Operand.tmp 34, Operand.tmp 36], argTypes := #[25, 3] }, type := 52, pos := "hist.go:122", after := #[{ on := 5, ground := Ground.data }, { on := 7, ground := Ground.data }], guard := none }) rfl (fun Kt hKt => ?_) AllReadyH.nil
    go_simp
    (with_reducible refine Calls.mono (placeOf_any e.y e.i _) ?_)
    rintro r v4 ⟨rfl, bb⟩
    unfold prV; dsimp only
    have E4 : EBx v4 X e := E3.drew.below bb
    have I4 : RowI v4 R L M ((s.left e).now1 e) (c + 1) := I3.drew.below bb
    have B4 : Aside (Below N w v4) := B3.out.drew.trans (bb.mono (by have := B3.out.size; have := HN.out.1; show N ≤ v3.heap.size; omega))
    clear bb
    go_wp2_with fail
    refine hKt.out _ _ (tt4 E4 I4) (fun hHeld => ?_)
    clear hKt Kt
    try simp only [Act.put, List.setIfInBounds_toArray, List.set_cons_zero, List.set_cons_succ]
    refine wpAnyH_ready (rs := [10]) (by kernel_rfl) (by simp) ?_
    refine AllReadyH.cons (o := { dst := some 39, op := Op.call { callee := Callee.value (Operand.func 14), args := #[Operand.tmp 38], argTypes := #[27] }, type := 42, pos := "hist.go:122", after := #[{ on := 9, ground := Ground.data }, { on := 8, ground := Ground.chain }], guard := none }) rfl (fun Kt hKt => ?_) AllReadyH.nil
    go_simp
    have P := entryOf_any e v4
    unfold evV enV at P
    dsimp only at P
    (with_reducible refine Calls.mono P ?_)
    rintro r v5 ⟨rfl, bb⟩
    have E5 : EBx v5 X e := E4.below bb
    have I5 : RowI v5 R L M ((s.left e).now1 e) (c + 1) := I4.below bb
    have B5 : Aside (Below N w v5) := B4.out.trans (bb.mono (by have := B4.out.size; have := HN.out.1; omega))
    obtain ⟨v6, hr6, I6, g6⟩ := I5.putG (by have := HC.out; omega) (p := (e.y, u64 e.i)) ⟨WY.out, u64_wf e.i⟩ (e.y, e.i)
    dsimp only at hr6
    have E6 : EBx v6 X e := E5.grown g6 XM.out
    have B6 : Aside (Below N w v6) := B5.out.grown g6 (by have := B5.out.size; have := HN.out.1; omega) (fun k hk => by injection hk with hk; rw [← hk]; exact HN.out.2.2)
    clear bb P
    go_wp2_with fail
    refine hKt.out _ _ (tt4 E5 I5) (fun hHeld => ?_)
    clear hKt Kt
    try simp only [Act.put, List.setIfInBounds_toArray, List.set_cons_zero, List.set_cons_succ]
    refine wpAnyH_ready (rs := [11]) (by kernel_rfl) (by simp) ?_
    refine AllReadyH.cons (o := { dst := none, op := Op.mapUpdate 50 (Operand.tmp 32) (Operand.tmp 37) (Operand.tmp 39), type := 0, pos := "hist.go:122", after := #[{ on := 3, ground := Ground.data }, { on := 8, ground := Ground.data }, { on := 10, ground := Ground.data }, { on := 10, ground := Ground.chain }, { on := 0, ground := Ground.phase }, { on := 1, ground := Ground.phase }, { on := 2, ground := Ground.phase }, { on := 3, ground := Ground.phase }, { on := 4, ground := Ground.phase }, { on := 5, ground := Ground.phase }, { on := 6, ground := Ground.phase }, { on := 7, ground := Ground.phase }, { on := 8, ground := Ground.phase }, { on := 9, ground := Ground.phase }, { on := 10, ground := Ground.phase }], guard := none }) rfl (fun Kt hKt => ?_) AllReadyH.nil
    go_simp
    go_wp2_with fail
    refine hKt.out _ _ (tt4 E6 I6) (fun hHeld => ?_)
    clear hKt Kt
    try simp only [Act.put, List.setIfInBounds_toArray, List.set_cons_zero, List.set_cons_succ]
    refine wpAnyH_done (by kernel_rfl) ?_ _
    go_wp2_with fail
    go_end0
    have TF : s.turn e = ((s.left e).now1 e).come1 e := by unfold RwR.turn; rw [if_pos K2.out]
    rw [TF]
    exact ⟨rfl, I6, B6.out⟩
  · go_wp2_with fail
    go_end0
    have TF : s.turn e = (s.left e).now1 e := by unfold RwR.turn; rw [if_neg k2]
    rw [TF]
    exact ⟨rfl, I3.wide (by omega), B3.out⟩
/-- What reading an event leaves. -/
def ReadIs (w w' : World) (N R L M c : Nat) (s : RwR) : Prop := RowI w' R L M s (c + 3) ∧ Below N w w'
theorem clN {L M : Nat} (t : RwR) {z : Int} (h : ((t.cl + 1 : Nat) : Int) = z) : (#[Value.map (some L), .map (some M), .int .i64 t.made, .int .u64 t.cl, .int .u64 t.now, .bool t.shut].setIfInBounds 3 (.int .u64 z)) = #[.map (some L), .map (some M), .int .i64 t.made, .int .u64 ((t.cl + 1 : Nat) : Int), .int .u64 t.now, .bool t.shut] := by
  subst h; rfl
theorem RwR.tick_f (s : RwR) (e : EvR) : (s.tick e).f = s.f ∧ (s.tick e).made = s.made ∧ (s.tick e).cl = s.cl := by unfold RwR.tick; split <;> exact ⟨rfl, rfl, rfl⟩
set_option maxHeartbeats 16000000 in
set_option maxRecDepth 100000 in
theorem read_any (I : RowI w R L M s c) (hc : c ≤ 90000) (e : EvR) (hi : wfI e.i) (hy : wfU e.y) (hs : ∀ i x, s.f i = some x → wfU x.y) (hm : e.k = 1 → -4611686018427387904 ≤ e.i ∧ e.i ≤ 4611686018427387904) {N : Nat} (hN : N ≤ w.heap.size ∧ N ≤ R ∧ N ≤ L ∧ N ≤ M) : Calls Tryd.prog 13 #[.pointer (some ⟨R, 0, none⟩), evV e] w fun r w' => r = .returned (.tuple #[]) ∧ ReadIs w w' N R L M c (s.read e) := by
  have hlt := I.lt
  obtain ⟨X, hX⟩ : ∃ X, w.heap.size = X := ⟨_, rfl⟩
  obtain ⟨u1, hu1⟩ : ∃ u, w.alloc (.cells #[.int .i64 e.k, .int .i64 e.t, .int .i64 e.i, .int .u64 e.y, .int .u64 e.c, .int .u64 e.n] 27) = u := ⟨_, rfl⟩
  have b1 : Below w.heap.size w u1 := by rw [← hu1]; exact bel1 _ _
  have E1 : EBx u1 X e := by rw [← hu1, ← hX]; exact EBx.made w e
  have I1 : RowI u1 R L M s c := I.below b1
  have B : Aside (Below w.heap.size w u1) := b1
  have HX : Aside _ := hX
  have HU : Aside _ := hu1
  have XR : Aside (X ≠ R) := by show _ ≠ _; omega
  have HN : Aside _ := hN
  have WI : Aside (wfI e.i) := hi
  have WY : Aside (wfU e.y) := hy
  have HS : Aside (∀ i x, s.f i = some x → wfU x.y) := hs
  have HC : Aside (c ≤ 90000) := hc
  have HM : Aside (e.k = 1 → -4611686018427387904 ≤ e.i ∧ e.i ≤ 4611686018427387904) := hm
  have RC := I1.cl
  have BN : Aside (Below N w u1) := B.out.mono hN.1
  have SX : Aside (N ≤ u1.heap.size) := by have := B.out.size; show N ≤ _; omega
  have C3 : IntKind.u64.wrap ((s.cl : Int) + 1) = (s.cl : Int) + 1 := by rw [IntKind.wrap_u64]; omega
  unfold evV
  clear hX hu1 b1 I hi hy hs hN hc hm hlt
  go_enter Tryd.func13, Tryd.ntmps13
  go_upto_region 1 with fail
  rw [HU.out, HX.out]
  by_cases k10 : e.k = 10
  · obtain ⟨_, d0, d1, d2, d3, d4, d5⟩ := id E1
    have RD : s.read e = s := by unfold RwR.read RwR.tick RwR.mark; simp [k10]
    go_wp2_with fail
    refine (within_is (b := false) (by simp) _).mono ?_
    rintro r w3 ⟨rfl, rfl⟩
    go_wp2_with fail
    go_end0
    rw [RD]
    exact ⟨rfl, I1.wide (by omega), BN.out⟩
  · have E2 : Aside (EBx (u1.setCell ⟨R, 4, none⟩ (.int .u64 e.n)) X e) := E1.grown (row := R) ⟨rfl, rfl, rfl, by simp, fun j _ hj => heap_setCell_other _ _ _ _ (fun e => hj (by rw [e]))⟩ XR.out
    have I2 : RowI (u1.setCell ⟨R, 4, none⟩ (.int .u64 e.n)) R L M (s.tick e) c := by
      refine I1.cellSet (s' := s.tick e) (c' := c) (s.tick_f e).1 ?_ ?_ (Nat.le_refl _) (by rw [(s.tick_f e).2.2]; exact I1.cl) (by rw [(s.tick_f e).2.1]; exact I1.rg)
      · unfold RwR.tick; rw [if_neg k10]
      · unfold RwR.tick; rw [if_neg k10]; rfl
    have B2 : Aside (Below N w (u1.setCell ⟨R, 4, none⟩ (.int .u64 e.n))) := BN.out.setCell HN.out.2.1 _
    obtain ⟨_, d0, d1, d2, d3, d4, d5⟩ := id E1
    obtain ⟨r0, r1, r2, r3, r4, r5⟩ := I1.cells
    have rfz := I1.frozen
    have HS2 : Aside (∀ i x, (s.tick e).f i = some x → wfU x.y) := by show ∀ i x, _; rw [(s.tick_f e).1]; exact HS.out
    have CL2 : (s.tick e).cl = s.cl := (s.tick_f e).2.2
    obtain ⟨t, ht⟩ : ∃ t, s.tick e = t := ⟨_, rfl⟩
    have HT : Aside _ := ht
    rw [ht] at I2 CL2
    have HS2 : Aside (∀ i x, t.f i = some x → wfU x.y) := by show ∀ i x, _; rw [← ht]; exact HS2.out
    clear ht
    obtain ⟨u2, hu2⟩ : ∃ u, u1.setCell ⟨R, 4, none⟩ (.int .u64 e.n) = u := ⟨_, rfl⟩
    have HU2 : Aside _ := hu2
    rw [hu2] at I2
    have E2 : EBx u2 X e := by rw [← hu2]; exact E2.out
    have B2 : Aside (Below N w u2) := by show Below _ _ _; rw [← hu2]; exact B2.out
    have S2 : Aside (u1.heap.size = u2.heap.size) := by show _ = _; rw [← hu2]; simp
    clear hu2
    go_upto_region 3 with fail
    rw [HU2.out]
    clear d0 d1 d2 d3 d4 d5 r0 r1 r2 r3 r4 r5 rfz
    obtain ⟨_, d0, d1, d2, d3, d4, d5⟩ := id E2
    obtain ⟨r0, r1, r2, r3, r4, r5⟩ := I2.cells
    have rfz := I2.frozen
    rw [CL2] at r3
    by_cases k1 : e.k = 1
    · have RD : s.read e = { t with made := e.i } := by unfold RwR.read RwR.mark; rw [HT.out]; simp [k1]
      have I3 : Aside (RowI (u2.setCell ⟨R, 2, none⟩ (.int .i64 e.i)) R L M { t with made := e.i } (c + 3)) := I2.cellSet (s' := { t with made := e.i }) rfl rfl rfl (by omega) (by have := I2.cl; show t.cl ≤ _; omega) (HM.out k1)
      have E3 := (E2.grown (w' := u2.setCell ⟨R, 2, none⟩ (.int .i64 e.i)) (row := R) ⟨rfl, rfl, rfl, by simp, fun j _ hj => heap_setCell_other _ _ _ _ (fun e => hj (by rw [e]))⟩ XR.out).c0
      go_wp2_with fail
      refine (within_is (b := false) (by simp) _).mono ?_
      rintro r w3 ⟨rfl, rfl⟩
      go_wp2_with fail
      go_end0
      rw [RD]
      exact ⟨rfl, I3.out, B2.out.setCell HN.out.2.1 _⟩
    · by_cases k3 : e.k = 3
      · have RD : s.read e = ({ t with cl := t.cl + 1 } : RwR).turn e := by unfold RwR.read RwR.mark; rw [HT.out]; simp [k3]
        have I3 : RowI (u2.setCell ⟨R, 3, none⟩ (.int .u64 ((s.cl : Int) + 1))) R L M { t with cl := t.cl + 1 } (c + 1) := I2.cellSet (s' := { t with cl := t.cl + 1 }) rfl rfl (clN t (by omega)) (by omega) (by have := I2.cl; show t.cl + 1 ≤ _; omega) I2.rg
        have E3 := E2.grown (w' := u2.setCell ⟨R, 3, none⟩ (.int .u64 ((s.cl : Int) + 1))) (row := R) ⟨rfl, rfl, rfl, by simp, fun j _ hj => heap_setCell_other _ _ _ _ (fun e => hj (by rw [e]))⟩ XR.out
        have B3 : Aside (Below N w (u2.setCell ⟨R, 3, none⟩ (.int .u64 ((s.cl : Int) + 1)))) := B2.out.setCell HN.out.2.1 _
        have S3 : Aside (u2.heap.size = (u2.setCell ⟨R, 3, none⟩ (.int .u64 ((s.cl : Int) + 1))).heap.size) := by show _ = _; simp
        obtain ⟨u3, hu3⟩ : ∃ u, u2.setCell ⟨R, 3, none⟩ (.int .u64 ((s.cl : Int) + 1)) = u := ⟨_, rfl⟩
        rw [hu3] at I3 E3 B3 S3
        have HU3 : Aside _ := hu3
        have CM : Aside (((s.cl + 1 : Nat) : Int) = (s.cl : Int) + 1) := by show _ = _; omega
        have P := turn_any I3 (by have := HC.out; omega) e WI.out WY.out HS2.out (N := N) ⟨by have := SX.out; have := S2.out; have := S3.out; omega, HN.out.2.2⟩
        unfold evV at P
        rw [k3] at P
        have d0' := id E3
        obtain ⟨_, f0, f1, f2, f3, f4, f5⟩ := d0'
        clear hu3
        go_upto_region 10 with fail
        try rw [HU3.out]
        go_wp2_with fail
        refine (within_is (b := true) (by simp) _).mono ?_
        rintro r w3 ⟨rfl, rfl⟩
        go_wp2_with fail
        refine P.mono ?_
        rintro r w4 ⟨rfl, q⟩
        go_wp2_with fail
        go_end0
        rw [RD]
        exact ⟨rfl, q.1.wide (by omega), B3.out.trans (q.2)⟩
      · by_cases k9 : e.k = 9
        · have RD : s.read e = { t with shut := true } := by unfold RwR.read RwR.mark; rw [HT.out]; simp [k9]
          have I3 : Aside (RowI (u2.setCell ⟨R, 5, none⟩ (.bool true)) R L M { t with shut := true } (c + 3)) := I2.cellSet (s' := { t with shut := true }) rfl rfl rfl (by omega) (by have := I2.cl; show t.cl ≤ _; omega) I2.rg
          have E3 := (E2.grown (w' := u2.setCell ⟨R, 5, none⟩ (.bool true)) (row := R) ⟨rfl, rfl, rfl, by simp, fun j _ hj => heap_setCell_other _ _ _ _ (fun e => hj (by rw [e]))⟩ XR.out).c0
          go_wp2_with fail
          refine (within_is (b := false) (by simp) _).mono ?_
          rintro r w3 ⟨rfl, rfl⟩
          go_wp2_with fail
          go_end0
          rw [RD]
          exact ⟨rfl, I3.out, B2.out.setCell HN.out.2.1 _⟩
        · by_cases kt : 2 ≤ e.k ∧ e.k ≤ 7
          · have RD : s.read e = t.turn e := by unfold RwR.read RwR.mark; rw [HT.out, if_pos kt, if_neg k1, if_neg k3, if_neg k9]
            have P := turn_any I2 (by have := HC.out; omega) e WI.out WY.out HS2.out (N := N) ⟨by have := SX.out; have := S2.out; omega, HN.out.2.2⟩
            unfold evV at P
            go_wp2_with fail
            refine (within_is (b := true) (by simp; omega) _).mono ?_
            rintro r w3 ⟨rfl, rfl⟩
            go_wp2_with fail
            refine P.mono ?_
            rintro r w4 ⟨rfl, q⟩
            go_wp2_with fail
            go_end0
            rw [RD]
            exact ⟨rfl, q.1.wide (by omega), B2.out.trans (q.2)⟩
          · have RD : s.read e = t := by unfold RwR.read RwR.mark; rw [HT.out, if_neg kt, if_neg k1, if_neg k3, if_neg k9]
            go_wp2_with fail
            refine (within_is (b := false) (by rw [Bool.and_eq_false_iff]; simp; omega) _).mono ?_
            rintro r w3 ⟨rfl, rfl⟩
            go_wp2_with fail
            go_end0
            rw [RD]
            exact ⟨rfl, I2.wide (by omega), B2.out⟩
end
end Go.Proofs.YtpenojbfeocjaaaDoor
