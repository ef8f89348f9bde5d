/- The law's blocks: two raw blocks, for the program and for the document. -/
import Derived.Test.YtboccihcomaaoaaShrN
import Derived.Test.YtboccihcomaaoaaShrQ
import Derived.Test.YtboccihcomaaoaaAnyE
namespace Go.Proofs.Ytboccihcomaaoaa
open Go.RowKit Go.Lib Go.Sort
set_option linter.unusedVariables false

/-- append onto a row of the call's own, or onto none: what has turned is that row alone. -/
theorem appO {TS T : TypeId} (t2 : TwoT TS T) (w : World) (base m n cap : Nat) (v : Value) (vs : List Value) (ad : Addr) (news : List Value) (o : w.ownsRow base T 2 v m vs) (h : Reads w (some ad) n news) (hn : m + n ≤ 100000) (hbase : base ≤ w.heap.size) (ty : TypeId) :
    ∃ r t w', (Builtin.append_ #[TS, TS] ty #[v, .slice (some ad) n cap]).run Try.prog w = .ok (.slice r (m + n) t) w' ∧ w'.ownsRow base T 2 (.slice r (m + n) t) (m + n) (vs ++ news) ∧ w.grownBy w' v.ownBlock ∧ Kept (fun X => X = T) w w' ∧ Below base w w' := by
  obtain ⟨i, z, hu, hi, hz, hs, hb, hc⟩ := t2
  obtain ⟨v', w', k1, k2, k3, _⟩ := run_append_own (P := Try.prog) w base TS ty T i z 2 i.bytes hu hi hz hs rfl hc (by omega) v m vs o ad n cap news h.1 h.some' h.2.1 (by unfold maxLen; omega) (by
    have : (m + n) * i.bytes ≤ 100000 * 32 := Nat.mul_le_mul hn hb
    omega) hbase
  obtain ⟨p, t, rfl⟩ : ∃ p t, v' = .slice p (m + n) t := by
    rcases k2.2 with ⟨h1, h0⟩ | ⟨g, cp, cur, h1, _⟩
    · exact ⟨none, 0, by rw [h1, h0]⟩
    · exact ⟨_, _, h1⟩
  exact ⟨p, t, w', k1, k2, k3, kept_grown rfl o k3, (Below.refl _ _).grown k3 hbase (fun k hk => (World.ownsRow.lt o k hk).1)⟩
theorem reads_raw {V : World} {G K q : Nat} {m : Int} {p : Option Addr} {T : TypeId} (hG : V.heap[G]? = some (.cells #[.int .i64 m, .slice p K q] T (0, 0))) : Reads V (some ⟨G, 0, none⟩) 1 [.int .i64 m, .slice p K q] := by
  refine ⟨rfl, fun u hu => by simp at hu; rcases hu with rfl | rfl <;> rfl, fun j u hj => ⟨⟨G, 0, none⟩, rfl, ?_⟩⟩
  rw [Addr.add_lit, Nat.zero_add, cell_of_row _ _ _ _ _ _ hG, ← hj]
  have : j = 0 ∨ j = 1 := by have := (List.getElem?_eq_some_iff.1 hj).1; simp at this; omega
  rcases this with rfl | rfl <;> rfl
/-- Raw blocks as cells. -/
def flatX (xs : List (Int × Bk)) : List Value := xs.flatMap (fun x => [.int .i64 x.1, .slice x.2.p x.2.d.length x.2.q])
theorem flatX_at : ∀ (xs : List (Int × Bk)) (i : Nat) (hi : i < xs.length), (flatX xs)[i * 2]? = some (.int .i64 xs[i].1) ∧ (flatX xs)[i * 2 + 1]? = some (.slice xs[i].2.p xs[i].2.d.length xs[i].2.q)
  | [], i, hi => by simp at hi
  | x :: r, 0, _ => ⟨rfl, rfl⟩
  | x :: r, i + 1, hi => by
    have h := flatX_at r i (by simpa using hi)
    rw [show (i + 1) * 2 = i * 2 + 2 by omega]
    exact h
theorem rawX {T : TypeId} {w : World} {base n cap : Nat} {a : Option Addr} {xs : List (Int × Bk)} (h : w.ownsRow base T 2 (.slice a n cap) n (flatX xs)) (hn : xs.length = n) (i : Nat) (hi : i < xs.length) :
    ∃ g, a = some ⟨g, 0, none⟩ ∧ g < w.heap.size ∧ w.cell? ⟨g, i * 2, none⟩ = some (.int .i64 xs[i].1) ∧ w.cell? ⟨g, i * 2 + 1, none⟩ = some (.slice xs[i].2.p xs[i].2.d.length xs[i].2.q) := by
  rcases h.2 with ⟨h1, h0⟩ | ⟨g, cap', cur, h1, hb, hg, _⟩
  · omega
  · injection h1 with e1 e2 e3
    subst e1 e3
    obtain ⟨f1, f2⟩ := flatX_at xs i hi
    exact ⟨g, rfl, lt_of_block hg, by rw [World.ownsRow.cellAt h (i * 2) (by omega), f1], by rw [World.ownsRow.cellAt h (i * 2 + 1) (by omega), f2]⟩
theorem Kept.wide {S S' : TypeId → Prop} {w w' : World} (h : Kept S w w') (hs : ∀ T, S T → S' T) : Kept S' w w' := ⟨h.size, fun k cs T fr hk hT => h.block k cs T fr hk (fun c => hT (hs T c))⟩
theorem ownB_ne {T : TypeId} {w w' : World} {base R n : Nat} {v : Value} {vs : List Value} {o : Obj} (hR : w.heap[R]? = some o) (h : v.ownBlock ≠ some R) (hg : w.grownBy w' v.ownBlock) : w'.heap[R]? = some o := (hg.block R (lt_of_block hR) (fun e => h e.symm)).trans hR

set_option maxHeartbeats 4000000 in
set_option maxRecDepth 100000 in
theorem blks_reg7 {Q : Exit → Act → World → Prop} (hQ : ∀ c (a : Act) (d : Tmp) v w, Q (.panic c) (a.put (some d) v) w → Q (.panic c) a w) {t0 t1 t2 t3 t7 t8 t9 t10 t11 t12 t13 t14 t15 t16 t17 t18 t19 t20 t21 t22 t23 t24 t25 t26 t27 t28 t29 t30 t31 t32 t33 t34 t35 t36 t37 t38 t39 t40 t41 : Value} {R6 nx xc ny yc K q base : Nat} {m : Int} {p xp yp : Option Addr} {vx vy : List Value} {wr : World}
    (box : wr.heap[R6]? = some (.cells #[.int .i64 m, .slice p K q] 79 (0, 0))) (hnx : nx ≤ 10) (hny : ny ≤ 10) (hbase : base ≤ wr.heap.size)
    (ox : wr.ownsRow base 34 2 (.slice xp nx xc) nx vx) (oy : wr.ownsRow base 79 2 (.slice yp ny yc) ny vy) (nex : (Value.slice xp nx xc).ownBlock ≠ some R6) (ney : (Value.slice yp ny yc).ownBlock ≠ some R6)
    (h : ∀ z r t r' t', Kept (fun X => X = 34 ∨ X = 79) wr z → Below base wr z → z.ownsRow base 34 2 (.slice r (nx + 1) t) (nx + 1) (vx ++ [.int .i64 m, .slice p K q]) → z.ownsRow base 79 2 (.slice r' (ny + 1) t') (ny + 1) (vy ++ [.int .i64 m, .slice p K q]) → ∀ f30 f31 f32 f33 f34 f35 f36 f37 f38 f39 f40 f41 : Value, Q .normal { tmps := #[t0, t1, .slice r (nx + 1) t, .slice r' (ny + 1) t', .slice xp nx xc, .slice yp ny yc, .pointer (some ⟨R6, 0, none⟩), t7, t8, t9, t10, t11, t12, t13, t14, t15, t16, t17, t18, t19, t20, t21, t22, t23, t24, t25, t26, t27, t28, t29, f30, f31, f32, f33, f34, f35, f36, f37, f38, f39, f40, f41], defers := [] } z) :
    Code.wp Try.prog (Code.region 7 #[{ dst := some 30, op := Op.move (Operand.tmp 4), type := 28, pos := "law.go:39", after := #[], guard := none }, { dst := some 31, op := Op.fieldAddr 79 (Operand.tmp 6) 0, type := 0, pos := "law.go:39", after := #[], guard := none }, { dst := some 32, op := Op.load 3 (Operand.tmp 31), type := 3, pos := "law.go:39", after := #[{ on := 1, ground := Ground.data }], guard := none }, { dst := some 33, op := Op.fieldAddr 79 (Operand.tmp 6) 1, type := 0, pos := "law.go:39", after := #[], guard := none }, { dst := some 34, op := Op.load 32 (Operand.tmp 33), type := 32, pos := "law.go:39", after := #[{ on := 3, ground := Ground.data }], guard := none }, { dst := some 35, op := Op.build 34 #[(0, Operand.tmp 32), (1, Operand.tmp 34)], type := 34, pos := "law.go:39", after := #[{ on := 2, ground := Ground.data }, { on := 4, ground := Ground.data }], guard := none }, { dst := some 36, op := Op.buildSlice 28 1 #[(0, Operand.tmp 35)], type := 28, pos := "law.go:39", after := #[{ on := 5, ground := Ground.data }], guard := none }, { dst := some 37, op := Op.call { callee := Callee.builtin Builtin.append, args := #[Operand.tmp 30, Operand.tmp 36], argTypes := #[28, 28] }, type := 28, pos := "law.go:39", after := #[{ on := 0, ground := Ground.data }, { on := 6, ground := Ground.data }], guard := none }, { dst := some 38, op := Op.move (Operand.tmp 5), type := 48, pos := "law.go:39", after := #[], guard := none }, { dst := some 39, op := Op.load 79 (Operand.tmp 6), type := 79, pos := "law.go:39", after := #[], guard := none }, { dst := some 40, op := Op.buildSlice 48 1 #[(0, Operand.tmp 39)], type := 48, pos := "law.go:39", after := #[{ on := 9, ground := Ground.data }], guard := none }, { dst := some 41, op := Op.call { callee := Callee.builtin Builtin.append, args := #[Operand.tmp 38, Operand.tmp 40], argTypes := #[48, 48] }, type := 48, pos := "law.go:39", after := #[{ on := 8, ground := Ground.data }, { on := 10, ground := Ground.data }, { on := 7, ground := Ground.chain }], guard := none }, { dst := some 2, op := Op.assign (Operand.tmp 37), type := 28, pos := "law.go:39", after := #[{ on := 7, ground := Ground.data }, { on := 11, ground := Ground.chain }, { on := 0, ground := Ground.phase }, { on := 1, ground := Ground.phase }, { on := 2, ground := Ground.phase }, { on := 3, ground := Ground.phase }, { on := 4, ground := Ground.phase }, { on := 5, ground := Ground.phase }, { on := 6, ground := Ground.phase }, { on := 7, ground := Ground.phase }, { on := 8, ground := Ground.textOnly Departure.lateStores }, { on := 9, ground := Ground.textOnly Departure.lateStores }, { on := 10, ground := Ground.textOnly Departure.lateStores }, { on := 11, ground := Ground.textOnly Departure.lateStoresUnsure }], guard := none }, { dst := some 3, op := Op.assign (Operand.tmp 41), type := 48, pos := "law.go:39", after := #[{ on := 11, ground := Ground.data }, { on := 12, ground := Ground.chain }, { on := 0, ground := Ground.phase }, { on := 1, ground := Ground.phase }, { on := 2, ground := Ground.phase }, { on := 3, ground := Ground.phase }, { on := 4, ground := Ground.phase }, { on := 5, ground := Ground.phase }, { on := 6, ground := Ground.phase }, { on := 7, ground := Ground.phase }, { on := 8, ground := Ground.phase }, { on := 9, ground := Ground.phase }, { on := 10, ground := Ground.phase }, { on := 11, ground := Ground.phase }, { on := 12, ground := Ground.phase }], guard := none }] true) Q { tmps := #[t0, t1, t2, t3, .slice xp nx xc, .slice yp ny yc, .pointer (some ⟨R6, 0, none⟩), t7, t8, t9, t10, t11, t12, t13, t14, t15, t16, t17, t18, t19, t20, t21, t22, t23, t24, t25, t26, t27, t28, t29, t30, t31, t32, t33, t34, t35, t36, t37, t38, t39, t40, t41], defers := [] } wr := by
  have sR := lt_of_block box
  obtain ⟨Z, hZ⟩ : ∃ Z, wr.heap.size = Z := ⟨_, rfl⟩
  obtain ⟨tP, _⟩ := twoBl
  obtain ⟨tB, _⟩ := twoB
  have q0 : Below wr.heap.size wr wr.drew := bel_D _
  have vB : Below wr.heap.size wr (wr.alloc (.cells #[.int .i64 m, .slice p K q] 79)).drew := (bel_alloc _ _).drew
  have KC : ∀ v' : World, v'.heap[R6]? = some (.cells #[.int .i64 m, .slice p K q] 79 (0, 0)) → v'.cell? ⟨R6, 0, none⟩ = some (.int .i64 m) ∧ v'.cell? ⟨R6, 1, none⟩ = some (.slice p K q) := fun v' hv => ⟨shr0 hv, shr1 hv⟩
  have KB : ∀ v', Below wr.heap.size wr v' → v'.heap[R6]? = some (.cells #[.int .i64 m, .slice p K q] 79 (0, 0)) := fun v' hv => (hv.block R6 sR).trans box
  have mx := mixed
  have va : Below wr.heap.size wr (wr.alloc (.cells #[.int .i64 m, .slice p K q] 34)).drew := (bel_alloc _ _).drew
  have gxa : ((wr.alloc (.cells #[.int .i64 m, .slice p K q] 34)).drew).heap[Z]? = some (.cells #[.int .i64 m, .slice p K q] 34 (0, 0)) := by rw [← hZ]; exact heap_alloc_new wr _
  obtain ⟨r1a, t1a, w1a, h1a, o1a, g1a, k1a, b1a⟩ := appO tP (wr.alloc (.cells #[.int .i64 m, .slice p K q] 34)).drew base nx 1 1 (.slice xp nx xc) vx ⟨Z, 0, none⟩ [.int .i64 m, .slice p K q] (own_below ox va) (reads_raw gxa) (by omega) (Nat.le_trans hbase va.size) 28
  have c1a := ownB_ne (T := 34) (base := base) (n := nx) (vs := vx) (KB _ va) nex g1a
  have y1a : w1a.ownsRow base 79 2 (.slice yp ny yc) ny vy := k1a.own (by decide) (own_below oy va)
  have l1a : Below base wr w1a := (va.mono hbase).trans b1a
  obtain ⟨Y, hY⟩ : ∃ Y, w1a.heap.size = Y := ⟨_, rfl⟩
  have vd : Below w1a.heap.size w1a (w1a.alloc (.cells #[.int .i64 m, .slice p K q] 79)) := bel_alloc _ _
  have cd : (w1a.alloc (.cells #[.int .i64 m, .slice p K q] 79)).heap[R6]? = some (.cells #[.int .i64 m, .slice p K q] 79 (0, 0)) := (vd.block R6 (lt_of_block c1a)).trans c1a
  have gya : (w1a.alloc (.cells #[.int .i64 m, .slice p K q] 79)).heap[Y]? = some (.cells #[.int .i64 m, .slice p K q] 79 (0, 0)) := by rw [← hY]; exact heap_alloc_new w1a _
  obtain ⟨r2a, t2a, w2a, h2a, o2a, g2a, k2a, b2a⟩ := appO tB (w1a.alloc (.cells #[.int .i64 m, .slice p K q] 79)) base ny 1 1 (.slice yp ny yc) vy ⟨Y, 0, none⟩ [.int .i64 m, .slice p K q] (own_below y1a vd) (reads_raw gya) (by omega) (Nat.le_trans (Nat.le_trans hbase l1a.size) vd.size) 48
  have c2a := ownB_ne (T := 79) (base := base) (n := ny) (vs := vy) cd ney g2a
  have x2a : w2a.ownsRow base 34 2 (.slice r1a (nx + 1) t1a) (nx + 1) (vx ++ [.int .i64 m, .slice p K q]) := k2a.own (by decide) (own_below o1a vd)
  have l2a : Below base wr w2a := (l1a.trans (vd.mono (Nat.le_trans hbase l1a.size))).trans b2a
  have e2a : Kept (fun X => X = 34 ∨ X = 79) wr w2a := (((Kept.of_below va).trans (k1a.wide (fun _ h => .inl h))).step vd).trans (k2a.wide (fun _ h => .inr h))
  have vb : Below wr.heap.size wr ((wr.alloc (.cells #[.int .i64 m, .slice p K q] 34)).alloc (.cells #[.int .i64 m, .slice p K q] 79)).drew := ((bel_alloc wr _).alloc (by simp) _).drew
  have gxb : (((wr.alloc (.cells #[.int .i64 m, .slice p K q] 34)).alloc (.cells #[.int .i64 m, .slice p K q] 79)).drew).heap[Z]? = some (.cells #[.int .i64 m, .slice p K q] 34 (0, 0)) := by rw [← hZ]; exact (((Below.refl _ _).alloc (Nat.le_refl _) (.cells #[.int .i64 m, .slice p K q] 79)).block _ (by simp)).trans (heap_alloc_new wr (.cells #[.int .i64 m, .slice p K q] 34))
  obtain ⟨r1b, t1b, w1b, h1b, o1b, g1b, k1b, b1b⟩ := appO tP ((wr.alloc (.cells #[.int .i64 m, .slice p K q] 34)).alloc (.cells #[.int .i64 m, .slice p K q] 79)).drew base nx 1 1 (.slice xp nx xc) vx ⟨Z, 0, none⟩ [.int .i64 m, .slice p K q] (own_below ox vb) (reads_raw gxb) (by omega) (Nat.le_trans hbase vb.size) 28
  have c1b := ownB_ne (T := 34) (base := base) (n := nx) (vs := vx) (KB _ vb) nex g1b
  have y1b : w1b.ownsRow base 79 2 (.slice yp ny yc) ny vy := k1b.own (by decide) (own_below oy vb)
  have l1b : Below base wr w1b := (vb.mono hbase).trans b1b
  have gyb : (((wr.alloc (.cells #[.int .i64 m, .slice p K q] 34)).alloc (.cells #[.int .i64 m, .slice p K q] 79)).drew).heap[(Z + 1)]? = some (.cells #[.int .i64 m, .slice p K q] 79 (0, 0)) := by have h := heap_alloc_new (wr.alloc (.cells #[.int .i64 m, .slice p K q] 34)) (.cells #[.int .i64 m, .slice p K q] 79); rw [show (wr.alloc (.cells #[.int .i64 m, .slice p K q] 34)).heap.size = Z + 1 by simp [hZ]] at h; exact h
  obtain ⟨r2b, t2b, w2b, h2b, o2b, g2b, k2b, b2b⟩ := appO tB w1b base ny 1 1 (.slice yp ny yc) vy ⟨(Z + 1), 0, none⟩ [.int .i64 m, .slice p K q] y1b (reads_raw ((k1b.block _ _ _ _ gyb (by decide)).trans gyb)) (by omega) (Nat.le_trans hbase l1b.size) 48
  have c2b := ownB_ne (T := 79) (base := base) (n := ny) (vs := vy) c1b ney g2b
  have x2b : w2b.ownsRow base 34 2 (.slice r1b (nx + 1) t1b) (nx + 1) (vx ++ [.int .i64 m, .slice p K q]) := k2b.own (by decide) o1b
  have l2b : Below base wr w2b := l1b.trans b2b
  have e2b : Kept (fun X => X = 34 ∨ X = 79) wr w2b := ((Kept.of_below vb).trans (k1b.wide (fun _ h => .inl h))).trans (k2b.wide (fun _ h => .inr h))
  have vc : Below wr.heap.size wr ((wr.alloc (.cells #[.int .i64 m, .slice p K q] 79)).alloc (.cells #[.int .i64 m, .slice p K q] 34)).drew := ((bel_alloc wr _).alloc (by simp) _).drew
  have gxc : (((wr.alloc (.cells #[.int .i64 m, .slice p K q] 79)).alloc (.cells #[.int .i64 m, .slice p K q] 34)).drew).heap[(Z + 1)]? = some (.cells #[.int .i64 m, .slice p K q] 34 (0, 0)) := by have h := heap_alloc_new (wr.alloc (.cells #[.int .i64 m, .slice p K q] 79)) (.cells #[.int .i64 m, .slice p K q] 34); rw [show (wr.alloc (.cells #[.int .i64 m, .slice p K q] 79)).heap.size = Z + 1 by simp [hZ]] at h; exact h
  obtain ⟨r1c, t1c, w1c, h1c, o1c, g1c, k1c, b1c⟩ := appO tP ((wr.alloc (.cells #[.int .i64 m, .slice p K q] 79)).alloc (.cells #[.int .i64 m, .slice p K q] 34)).drew base nx 1 1 (.slice xp nx xc) vx ⟨(Z + 1), 0, none⟩ [.int .i64 m, .slice p K q] (own_below ox vc) (reads_raw gxc) (by omega) (Nat.le_trans hbase vc.size) 28
  have c1c := ownB_ne (T := 34) (base := base) (n := nx) (vs := vx) (KB _ vc) nex g1c
  have y1c : w1c.ownsRow base 79 2 (.slice yp ny yc) ny vy := k1c.own (by decide) (own_below oy vc)
  have l1c : Below base wr w1c := (vc.mono hbase).trans b1c
  have gyc : (((wr.alloc (.cells #[.int .i64 m, .slice p K q] 79)).alloc (.cells #[.int .i64 m, .slice p K q] 34)).drew).heap[Z]? = some (.cells #[.int .i64 m, .slice p K q] 79 (0, 0)) := by rw [← hZ]; exact (((Below.refl _ _).alloc (Nat.le_refl _) (.cells #[.int .i64 m, .slice p K q] 34)).block _ (by simp)).trans (heap_alloc_new wr (.cells #[.int .i64 m, .slice p K q] 79))
  obtain ⟨r2c, t2c, w2c, h2c, o2c, g2c, k2c, b2c⟩ := appO tB w1c base ny 1 1 (.slice yp ny yc) vy ⟨Z, 0, none⟩ [.int .i64 m, .slice p K q] y1c (reads_raw ((k1c.block _ _ _ _ gyc (by decide)).trans gyc)) (by omega) (Nat.le_trans hbase l1c.size) 48
  have c2c := ownB_ne (T := 79) (base := base) (n := ny) (vs := vy) c1c ney g2c
  have x2c : w2c.ownsRow base 34 2 (.slice r1c (nx + 1) t1c) (nx + 1) (vx ++ [.int .i64 m, .slice p K q]) := k2c.own (by decide) o1c
  have l2c : Below base wr w2c := l1c.trans b2c
  have e2c : Kept (fun X => X = 34 ∨ X = 79) wr w2c := ((Kept.of_below vc).trans (k1c.wide (fun _ h => .inl h))).trans (k2c.wide (fun _ h => .inr h))
  clear ox oy gxa gxb gxc gya gyb gyc nex ney box
  clear g1a g1b g1c g2a g2b g2c y1a y1b y1c o1a o1b o1c b1a b1b b1c b2a b2b b2c
  refine anyE_start (S := (fun v' => v'.cell? ⟨R6, 0, none⟩ = some (.int .i64 m) ∧ v'.cell? ⟨R6, 1, none⟩ = some (.slice p K q))) (L := 13) (by kernel_rfl) ?_
  refine anyE_take (i := 0) (oi := { dst := some 30, op := Op.move (Operand.tmp 4), type := 28, pos := "law.go:39", after := #[], guard := none }) (v := ?_) rfl (by kernel_rfl) (by kernel_rfl) (by kernel_rfl) (by kernel_rfl) (fun c a w h => hQ c a _ _ w h) (Or.inl ⟨by rfl, ?_⟩) (KC _ (KB _ q0)) ?_
  rotate_left
  · (intro w hSw; (try dsimp only at hSw); go_simp; try with_reducible rfl)
  simp only [Act.put, List.setIfInBounds_toArray, List.set_cons_zero, List.set_cons_succ]
  refine anyE_take (i := 1) (oi := { dst := some 31, op := Op.fieldAddr 79 (Operand.tmp 6) 0, type := 0, pos := "law.go:39", after := #[], guard := none }) (v := ?_) rfl (by kernel_rfl) (by kernel_rfl) (by kernel_rfl) (by kernel_rfl) (fun c a w h => hQ c a _ _ w h) (Or.inl ⟨by rfl, ?_⟩) (KC _ (KB _ q0)) ?_
  rotate_left
  · (intro w hSw; (try dsimp only at hSw); go_simp; try with_reducible rfl)
  simp only [Act.put, List.setIfInBounds_toArray, List.set_cons_zero, List.set_cons_succ]
  refine anyE_take (i := 2) (oi := { dst := some 32, op := Op.load 3 (Operand.tmp 31), type := 3, pos := "law.go:39", after := #[{ on := 1, ground := Ground.data }], guard := none }) (v := ?_) rfl (by kernel_rfl) (by kernel_rfl) (by kernel_rfl) (by kernel_rfl) (fun c a w h => hQ c a _ _ w h) (Or.inl ⟨by rfl, ?_⟩) (KC _ (KB _ q0)) ?_
  rotate_left
  · (intro w hSw; (try dsimp only at hSw); go_simp; try with_reducible rfl)
  simp only [Act.put, List.setIfInBounds_toArray, List.set_cons_zero, List.set_cons_succ]
  refine anyE_take (i := 3) (oi := { dst := some 33, op := Op.fieldAddr 79 (Operand.tmp 6) 1, type := 0, pos := "law.go:39", after := #[], guard := none }) (v := ?_) rfl (by kernel_rfl) (by kernel_rfl) (by kernel_rfl) (by kernel_rfl) (fun c a w h => hQ c a _ _ w h) (Or.inl ⟨by rfl, ?_⟩) (KC _ (KB _ q0)) ?_
  rotate_left
  · (intro w hSw; (try dsimp only at hSw); go_simp; try with_reducible rfl)
  simp only [Act.put, List.setIfInBounds_toArray, List.set_cons_zero, List.set_cons_succ]
  refine anyE_take (i := 4) (oi := { dst := some 34, op := Op.load 32 (Operand.tmp 33), type := 32, pos := "law.go:39", after := #[{ on := 3, ground := Ground.data }], guard := none }) (v := ?_) rfl (by kernel_rfl) (by kernel_rfl) (by kernel_rfl) (by kernel_rfl) (fun c a w h => hQ c a _ _ w h) (Or.inl ⟨by rfl, ?_⟩) (KC _ (KB _ q0)) ?_
  rotate_left
  · (intro w hSw; (try dsimp only at hSw); go_simp; try with_reducible rfl)
  simp only [Act.put, List.setIfInBounds_toArray, List.set_cons_zero, List.set_cons_succ]
  refine anyE_take (i := 5) (oi := { dst := some 35, op := Op.build 34 #[(0, Operand.tmp 32), (1, Operand.tmp 34)], type := 34, pos := "law.go:39", after := #[{ on := 2, ground := Ground.data }, { on := 4, ground := Ground.data }], guard := none }) (v := ?_) rfl (by kernel_rfl) (by kernel_rfl) (by kernel_rfl) (by kernel_rfl) (fun c a w h => hQ c a _ _ w h) (Or.inl ⟨by rfl, ?_⟩) (KC _ (KB _ q0)) ?_
  rotate_left
  · (intro w hSw; (try dsimp only at hSw); go_simp; try with_reducible rfl)
  simp only [Act.put, List.setIfInBounds_toArray, List.set_cons_zero, List.set_cons_succ]
  refine anyE_take (i := 8) (oi := { dst := some 38, op := Op.move (Operand.tmp 5), type := 48, pos := "law.go:39", after := #[], guard := none }) (v := ?_) rfl (by kernel_rfl) (by kernel_rfl) (by kernel_rfl) (by kernel_rfl) (fun c a w h => hQ c a _ _ w h) (Or.inl ⟨by rfl, ?_⟩) (KC _ (KB _ q0)) ?_
  rotate_left
  · (intro w hSw; (try dsimp only at hSw); go_simp; try with_reducible rfl)
  simp only [Act.put, List.setIfInBounds_toArray, List.set_cons_zero, List.set_cons_succ]
  refine anyE_take (i := 9) (oi := { dst := some 39, op := Op.load 79 (Operand.tmp 6), type := 79, pos := "law.go:39", after := #[], guard := none }) (v := ?_) rfl (by kernel_rfl) (by kernel_rfl) (by kernel_rfl) (by kernel_rfl) (fun c a w h => hQ c a _ _ w h) (Or.inl ⟨by rfl, ?_⟩) (KC _ (KB _ q0)) ?_
  rotate_left
  · (intro w hSw; (try dsimp only at hSw); go_simp; try with_reducible rfl)
  simp only [Act.put, List.setIfInBounds_toArray, List.set_cons_zero, List.set_cons_succ]
  refine anyE_ready (rs := [6, 10]) (by kernel_rfl) (by simp) ?_
  refine AllE.cons (o := { dst := some 36, op := Op.buildSlice 28 1 #[(0, Operand.tmp 35)], type := 28, pos := "law.go:39", after := #[{ on := 5, ground := Ground.data }], guard := none }) rfl (fun Kt hKt => ?_) ?_
  · go_simp
    refine hKt.out _ _ (fun _ => KC _ (KB _ va)) ?_
    clear hKt Kt
    try simp only [Act.put, List.setIfInBounds_toArray, List.set_cons_zero, List.set_cons_succ]
    refine anyE_ready (rs := [7, 10]) (by kernel_rfl) (by simp) ?_
    refine AllE.cons (o := { dst := some 37, op := Op.call { callee := Callee.builtin Builtin.append, args := #[Operand.tmp 30, Operand.tmp 36], argTypes := #[28, 28] }, type := 28, pos := "law.go:39", after := #[{ on := 0, ground := Ground.data }, { on := 6, ground := Ground.data }], guard := none }) rfl (fun Kt hKt => ?_) ?_
    · refine step_app ((wr.alloc (.cells #[.int .i64 m, .slice p K q] 34)).drew) (by rfl) _ _ 28 28 (by rfl) (.slice xp nx xc) (.slice (some ⟨Z, 0, none⟩) 1 1) (by rfl) (by rfl) (.slice r1a (nx + 1) t1a) w1a h1a ?_
      refine hKt.out _ _ (fun _ => KC _ c1a) ?_
      clear hKt Kt
      try simp only [Act.put, List.setIfInBounds_toArray, List.set_cons_zero, List.set_cons_succ]
      refine anyE_ready (rs := [10]) (by kernel_rfl) (by simp) ?_
      refine AllE.cons (o := { dst := some 40, op := Op.buildSlice 48 1 #[(0, Operand.tmp 39)], type := 48, pos := "law.go:39", after := #[{ on := 9, ground := Ground.data }], guard := none }) rfl (fun Kt hKt => ?_) ?_
      · go_simp
        refine hKt.out _ _ (fun _ => KC _ cd) ?_
        clear hKt Kt
        try simp only [Act.put, List.setIfInBounds_toArray, List.set_cons_zero, List.set_cons_succ]
        refine anyE_ready (rs := [11]) (by kernel_rfl) (by simp) ?_
        refine AllE.cons (o := { dst := some 41, op := Op.call { callee := Callee.builtin Builtin.append, args := #[Operand.tmp 38, Operand.tmp 40], argTypes := #[48, 48] }, type := 48, pos := "law.go:39", after := #[{ on := 8, ground := Ground.data }, { on := 10, ground := Ground.data }, { on := 7, ground := Ground.chain }], guard := none }) rfl (fun Kt hKt => ?_) ?_
        · refine step_app (w1a.alloc (.cells #[.int .i64 m, .slice p K q] 79)) (by rfl) _ _ 48 48 (by rfl) (.slice yp ny yc) (.slice (some ⟨Y, 0, none⟩) 1 1) (by rfl) (by rfl) (.slice r2a (ny + 1) t2a) w2a h2a ?_
          refine hKt.out _ _ (fun _ => KC _ c2a) ?_
          clear hKt Kt
          try simp only [Act.put, List.setIfInBounds_toArray, List.set_cons_zero, List.set_cons_succ]
          refine anyE_ready (rs := [12]) (by kernel_rfl) (by simp) ?_
          refine AllE.cons (o := { dst := some 2, op := Op.assign (Operand.tmp 37), type := 28, pos := "law.go:39", after := #[{ on := 7, ground := Ground.data }, { on := 11, ground := Ground.chain }, { on := 0, ground := Ground.phase }, { on := 1, ground := Ground.phase }, { on := 2, ground := Ground.phase }, { on := 3, ground := Ground.phase }, { on := 4, ground := Ground.phase }, { on := 5, ground := Ground.phase }, { on := 6, ground := Ground.phase }, { on := 7, ground := Ground.phase }, { on := 8, ground := Ground.textOnly Departure.lateStores }, { on := 9, ground := Ground.textOnly Departure.lateStores }, { on := 10, ground := Ground.textOnly Departure.lateStores }, { on := 11, ground := Ground.textOnly Departure.lateStoresUnsure }], guard := none }) rfl (fun Kt hKt => ?_) ?_
          · go_simp
            refine hKt.out _ _ (fun _ => KC _ c2a) ?_
            clear hKt Kt
            try simp only [Act.put, List.setIfInBounds_toArray, List.set_cons_zero, List.set_cons_succ]
            refine anyE_ready (rs := [13]) (by kernel_rfl) (by simp) ?_
            refine AllE.cons (o := { dst := some 3, op := Op.assign (Operand.tmp 41), type := 48, pos := "law.go:39", after := #[{ on := 11, ground := Ground.data }, { on := 12, ground := Ground.chain }, { on := 0, ground := Ground.phase }, { on := 1, ground := Ground.phase }, { on := 2, ground := Ground.phase }, { on := 3, ground := Ground.phase }, { on := 4, ground := Ground.phase }, { on := 5, ground := Ground.phase }, { on := 6, ground := Ground.phase }, { on := 7, ground := Ground.phase }, { on := 8, ground := Ground.phase }, { on := 9, ground := Ground.phase }, { on := 10, ground := Ground.phase }, { on := 11, ground := Ground.phase }, { on := 12, ground := Ground.phase }], guard := none }) rfl (fun Kt hKt => ?_) ?_
            · go_simp
              refine hKt.out _ _ (fun h => absurd rfl h) ?_
              clear hKt Kt
              try simp only [Act.put, List.setIfInBounds_toArray, List.set_cons_zero, List.set_cons_succ]
              refine anyE_done (by kernel_rfl) ?_ _
              exact h w2a r1a t1a r2a t2a e2a l2a x2a o2a _ _ _ _ _ _ _ _ _ _ _ _
            exact AllE.nil
          exact AllE.nil
        exact AllE.nil
      exact AllE.nil
    refine AllE.cons (o := { dst := some 40, op := Op.buildSlice 48 1 #[(0, Operand.tmp 39)], type := 48, pos := "law.go:39", after := #[{ on := 9, ground := Ground.data }], guard := none }) rfl (fun Kt hKt => ?_) ?_
    · go_simp
      refine hKt.out _ _ (fun _ => KC _ (KB _ vb)) ?_
      clear hKt Kt
      try simp only [Act.put, List.setIfInBounds_toArray, List.set_cons_zero, List.set_cons_succ]
      refine anyE_ready (rs := [7]) (by kernel_rfl) (by simp) ?_
      refine AllE.cons (o := { dst := some 37, op := Op.call { callee := Callee.builtin Builtin.append, args := #[Operand.tmp 30, Operand.tmp 36], argTypes := #[28, 28] }, type := 28, pos := "law.go:39", after := #[{ on := 0, ground := Ground.data }, { on := 6, ground := Ground.data }], guard := none }) rfl (fun Kt hKt => ?_) ?_
      · refine step_app (((wr.alloc (.cells #[.int .i64 m, .slice p K q] 34)).alloc (.cells #[.int .i64 m, .slice p K q] 79)).drew) (by rfl) _ _ 28 28 (by rfl) (.slice xp nx xc) (.slice (some ⟨Z, 0, none⟩) 1 1) (by rfl) (by rfl) (.slice r1b (nx + 1) t1b) w1b h1b ?_
        refine hKt.out _ _ (fun _ => KC _ c1b) ?_
        clear hKt Kt
        try simp only [Act.put, List.setIfInBounds_toArray, List.set_cons_zero, List.set_cons_succ]
        refine anyE_ready (rs := [11]) (by kernel_rfl) (by simp) ?_
        refine AllE.cons (o := { dst := some 41, op := Op.call { callee := Callee.builtin Builtin.append, args := #[Operand.tmp 38, Operand.tmp 40], argTypes := #[48, 48] }, type := 48, pos := "law.go:39", after := #[{ on := 8, ground := Ground.data }, { on := 10, ground := Ground.data }, { on := 7, ground := Ground.chain }], guard := none }) rfl (fun Kt hKt => ?_) ?_
        · refine step_app w1b (by rfl) _ _ 48 48 (by rfl) (.slice yp ny yc) (.slice (some ⟨(Z + 1), 0, none⟩) 1 1) (by rfl) (by rfl) (.slice r2b (ny + 1) t2b) w2b h2b ?_
          refine hKt.out _ _ (fun _ => KC _ c2b) ?_
          clear hKt Kt
          try simp only [Act.put, List.setIfInBounds_toArray, List.set_cons_zero, List.set_cons_succ]
          refine anyE_ready (rs := [12]) (by kernel_rfl) (by simp) ?_
          refine AllE.cons (o := { dst := some 2, op := Op.assign (Operand.tmp 37), type := 28, pos := "law.go:39", after := #[{ on := 7, ground := Ground.data }, { on := 11, ground := Ground.chain }, { on := 0, ground := Ground.phase }, { on := 1, ground := Ground.phase }, { on := 2, ground := Ground.phase }, { on := 3, ground := Ground.phase }, { on := 4, ground := Ground.phase }, { on := 5, ground := Ground.phase }, { on := 6, ground := Ground.phase }, { on := 7, ground := Ground.phase }, { on := 8, ground := Ground.textOnly Departure.lateStores }, { on := 9, ground := Ground.textOnly Departure.lateStores }, { on := 10, ground := Ground.textOnly Departure.lateStores }, { on := 11, ground := Ground.textOnly Departure.lateStoresUnsure }], guard := none }) rfl (fun Kt hKt => ?_) ?_
          · go_simp
            refine hKt.out _ _ (fun _ => KC _ c2b) ?_
            clear hKt Kt
            try simp only [Act.put, List.setIfInBounds_toArray, List.set_cons_zero, List.set_cons_succ]
            refine anyE_ready (rs := [13]) (by kernel_rfl) (by simp) ?_
            refine AllE.cons (o := { dst := some 3, op := Op.assign (Operand.tmp 41), type := 48, pos := "law.go:39", after := #[{ on := 11, ground := Ground.data }, { on := 12, ground := Ground.chain }, { on := 0, ground := Ground.phase }, { on := 1, ground := Ground.phase }, { on := 2, ground := Ground.phase }, { on := 3, ground := Ground.phase }, { on := 4, ground := Ground.phase }, { on := 5, ground := Ground.phase }, { on := 6, ground := Ground.phase }, { on := 7, ground := Ground.phase }, { on := 8, ground := Ground.phase }, { on := 9, ground := Ground.phase }, { on := 10, ground := Ground.phase }, { on := 11, ground := Ground.phase }, { on := 12, ground := Ground.phase }], guard := none }) rfl (fun Kt hKt => ?_) ?_
            · go_simp
              refine hKt.out _ _ (fun h => absurd rfl h) ?_
              clear hKt Kt
              try simp only [Act.put, List.setIfInBounds_toArray, List.set_cons_zero, List.set_cons_succ]
              refine anyE_done (by kernel_rfl) ?_ _
              exact h w2b r1b t1b r2b t2b e2b l2b x2b o2b _ _ _ _ _ _ _ _ _ _ _ _
            exact AllE.nil
          exact AllE.nil
        exact AllE.nil
      exact AllE.nil
    exact AllE.nil
  refine AllE.cons (o := { dst := some 40, op := Op.buildSlice 48 1 #[(0, Operand.tmp 39)], type := 48, pos := "law.go:39", after := #[{ on := 9, ground := Ground.data }], guard := none }) rfl (fun Kt hKt => ?_) ?_
  · go_simp
    refine hKt.out _ _ (fun _ => KC _ (KB _ vB)) ?_
    clear hKt Kt
    try simp only [Act.put, List.setIfInBounds_toArray, List.set_cons_zero, List.set_cons_succ]
    refine anyE_ready (rs := [6]) (by kernel_rfl) (by simp) ?_
    refine AllE.cons (o := { dst := some 36, op := Op.buildSlice 28 1 #[(0, Operand.tmp 35)], type := 28, pos := "law.go:39", after := #[{ on := 5, ground := Ground.data }], guard := none }) rfl (fun Kt hKt => ?_) ?_
    · go_simp
      refine hKt.out _ _ (fun _ => KC _ (KB _ vc)) ?_
      clear hKt Kt
      try simp only [Act.put, List.setIfInBounds_toArray, List.set_cons_zero, List.set_cons_succ]
      refine anyE_ready (rs := [7]) (by kernel_rfl) (by simp) ?_
      refine AllE.cons (o := { dst := some 37, op := Op.call { callee := Callee.builtin Builtin.append, args := #[Operand.tmp 30, Operand.tmp 36], argTypes := #[28, 28] }, type := 28, pos := "law.go:39", after := #[{ on := 0, ground := Ground.data }, { on := 6, ground := Ground.data }], guard := none }) rfl (fun Kt hKt => ?_) ?_
      · refine step_app (((wr.alloc (.cells #[.int .i64 m, .slice p K q] 79)).alloc (.cells #[.int .i64 m, .slice p K q] 34)).drew) (by rfl) _ _ 28 28 (by rfl) (.slice xp nx xc) (.slice (some ⟨(Z + 1), 0, none⟩) 1 1) (by rfl) (by rfl) (.slice r1c (nx + 1) t1c) w1c h1c ?_
        refine hKt.out _ _ (fun _ => KC _ c1c) ?_
        clear hKt Kt
        try simp only [Act.put, List.setIfInBounds_toArray, List.set_cons_zero, List.set_cons_succ]
        refine anyE_ready (rs := [11]) (by kernel_rfl) (by simp) ?_
        refine AllE.cons (o := { dst := some 41, op := Op.call { callee := Callee.builtin Builtin.append, args := #[Operand.tmp 38, Operand.tmp 40], argTypes := #[48, 48] }, type := 48, pos := "law.go:39", after := #[{ on := 8, ground := Ground.data }, { on := 10, ground := Ground.data }, { on := 7, ground := Ground.chain }], guard := none }) rfl (fun Kt hKt => ?_) ?_
        · refine step_app w1c (by rfl) _ _ 48 48 (by rfl) (.slice yp ny yc) (.slice (some ⟨Z, 0, none⟩) 1 1) (by rfl) (by rfl) (.slice r2c (ny + 1) t2c) w2c h2c ?_
          refine hKt.out _ _ (fun _ => KC _ c2c) ?_
          clear hKt Kt
          try simp only [Act.put, List.setIfInBounds_toArray, List.set_cons_zero, List.set_cons_succ]
          refine anyE_ready (rs := [12]) (by kernel_rfl) (by simp) ?_
          refine AllE.cons (o := { dst := some 2, op := Op.assign (Operand.tmp 37), type := 28, pos := "law.go:39", after := #[{ on := 7, ground := Ground.data }, { on := 11, ground := Ground.chain }, { on := 0, ground := Ground.phase }, { on := 1, ground := Ground.phase }, { on := 2, ground := Ground.phase }, { on := 3, ground := Ground.phase }, { on := 4, ground := Ground.phase }, { on := 5, ground := Ground.phase }, { on := 6, ground := Ground.phase }, { on := 7, ground := Ground.phase }, { on := 8, ground := Ground.textOnly Departure.lateStores }, { on := 9, ground := Ground.textOnly Departure.lateStores }, { on := 10, ground := Ground.textOnly Departure.lateStores }, { on := 11, ground := Ground.textOnly Departure.lateStoresUnsure }], guard := none }) rfl (fun Kt hKt => ?_) ?_
          · go_simp
            refine hKt.out _ _ (fun _ => KC _ c2c) ?_
            clear hKt Kt
            try simp only [Act.put, List.setIfInBounds_toArray, List.set_cons_zero, List.set_cons_succ]
            refine anyE_ready (rs := [13]) (by kernel_rfl) (by simp) ?_
            refine AllE.cons (o := { dst := some 3, op := Op.assign (Operand.tmp 41), type := 48, pos := "law.go:39", after := #[{ on := 11, ground := Ground.data }, { on := 12, ground := Ground.chain }, { on := 0, ground := Ground.phase }, { on := 1, ground := Ground.phase }, { on := 2, ground := Ground.phase }, { on := 3, ground := Ground.phase }, { on := 4, ground := Ground.phase }, { on := 5, ground := Ground.phase }, { on := 6, ground := Ground.phase }, { on := 7, ground := Ground.phase }, { on := 8, ground := Ground.phase }, { on := 9, ground := Ground.phase }, { on := 10, ground := Ground.phase }, { on := 11, ground := Ground.phase }, { on := 12, ground := Ground.phase }], guard := none }) rfl (fun Kt hKt => ?_) ?_
            · go_simp
              refine hKt.out _ _ (fun h => absurd rfl h) ?_
              clear hKt Kt
              try simp only [Act.put, List.setIfInBounds_toArray, List.set_cons_zero, List.set_cons_succ]
              refine anyE_done (by kernel_rfl) ?_ _
              exact h w2c r1c t1c r2c t2c e2c l2c x2c o2c _ _ _ _ _ _ _ _ _ _ _ _
            exact AllE.nil
          exact AllE.nil
        exact AllE.nil
      exact AllE.nil
    exact AllE.nil
  exact AllE.nil

theorem RawR.grown {w w' : World} {S : Nat} {a : Option Addr} {xs : List (Int × Bk)} (h : RawR w S a xs) (hg : w.grownBy w' (some S)) (ne : ∀ g, a = some ⟨g, 0, none⟩ → S + 1 < g) : RawR w' S a xs := fun i hi => by
  obtain ⟨g, e, hgs, c0, c1, L⟩ := h i hi
  have hk := hg.block g hgs (fun c => by injection c with c; have := ne g e; omega)
  exact ⟨g, e, by have := hg.size; omega, (World.cell?_of_block (a := ⟨g, i * 2, none⟩) hk).trans c0, (World.cell?_of_block (a := ⟨g, i * 2 + 1, none⟩) hk).trans c1, L.grown hg (.inl rfl)⟩
theorem ownz_ge {T : TypeId} {w : World} {base n t g off : Nat} {vs : List Value} (h : OwnZ T w base (.slice (some ⟨g, off, none⟩) n t) n vs) (hn : n ≠ 0) : base ≤ g := by
  rcases h with h | ⟨e0, _⟩
  · rcases h.2 with ⟨e1, _⟩ | ⟨g', cp, cur, e1, hb', _⟩
    · cases e1
    · injection e1 with e1
      injection e1 with e1
      injection e1 with e1
      omega
  · omega
/-- The raw blocks of a call. -/
def rawOf (lev : Int) (L M : List Ent) : List (Int × List Ent) := if L.length = 0 then [((lv (sortE M) : Int), sortE M)] else [(lev, L), ((lv (sortE M) : Int), sortE M)]
/-- What blocks leaves. -/
def BlksIs (w : World) (S n : Nat) (xs : List (Int × List Ent)) (r : Ending) (w' : World) : Prop := ∃ x cx y cy ys, r = .returned (.tuple #[.slice x n cx, .slice y n cy]) ∧ RawB w' x xs ∧ RawR w' S y ys ∧ ys.map (fun y => (y.1, y.2.d)) = xs ∧ (∀ g, y = some ⟨g, 0, none⟩ → S + 1 < g) ∧ Below w.heap.size w w'
theorem blks_end {w w' : World} {S base n cx cy : Nat} {x y : Option Addr} {ys : List (Int × Bk)} {xs : List (Int × List Ent)} (ox : w'.ownsRow base 34 2 (.slice x n cx) n (flatX ys)) (oy : w'.ownsRow base 79 2 (.slice y n cy) n (flatX ys)) (hn : ys.length = n) (hn0 : n ≠ 0) (hS : S + 1 < base) (hl : ∀ b ∈ ys, Lst w' S b.2.p b.2.q b.2.d) (hx : ys.map (fun y => (y.1, y.2.d)) = xs) (hb : Below w.heap.size w w') : BlksIs w S n xs (.returned (.tuple #[.slice x n cx, .slice y n cy])) w' := by
  refine ⟨x, cx, y, cy, ys, rfl, fun i hi => ?_, fun i hi => ?_, hx, fun g e => by
    subst e
    have := ownz_ge (.inl oy) hn0
    omega, hb⟩
  · subst hx
    have hi' : i < ys.length := by simpa using hi
    obtain ⟨g, e, hg, c0, c1⟩ := rawX ox hn i hi'
    simp only [List.getElem_map]
    exact ⟨g, _, _, e, hg, c0, c1, (hl _ (List.getElem_mem hi')).1⟩
  · obtain ⟨g, e, hg, c0, c1⟩ := rawX oy hn i hi
    exact ⟨g, e, hg, c0, c1, hl _ (List.getElem_mem hi)⟩

set_option maxHeartbeats 4000000 in
set_option maxRecDepth 100000 in
theorem blks_none (S : Nat) (kind id lev : Int) (old : Bool) (pl pm : Option Addr) (ql qm km : Nat) (M : List Ent) (w : World) (hS : S + 1 < w.heap.size) (hM : IsL w pm qm M) (h2 : M.length = km) (hkm : km ≤ 40) :
    Calls Try.prog 20 #[.agg #[.int .i64 kind, .int .i64 id, .int .i64 lev, .bool old, .slice pl 0 ql, .slice pm km qm]] w (BlksIs w S 1 [((lv (sortE M) : Int), sortE M)]) := by
  obtain ⟨Z, hZ⟩ : ∃ Z, w.heap.size = Z := ⟨_, rfl⟩
  obtain ⟨u, hu⟩ : ∃ u, w.alloc (.cells #[.int .i64 kind, .int .i64 id, .int .i64 lev, .bool old, .slice pl 0 ql, .slice pm km qm] 52) = u := ⟨_, rfl⟩
  have HU : Hid _ := hu
  have bu : Below w.heap.size w u := by rw [← hu]; exact (Below.refl _ _).alloc (Nat.le_refl _) _
  have uZ : u.heap[Z]? = some (.cells #[.int .i64 kind, .int .i64 id, .int .i64 lev, .bool old, .slice pl 0 ql, .slice pm km qm] 52 (0, 0)) := by rw [← hu, ← hZ]; exact heap_alloc_new w _
  have y4 : u.cell? ⟨Z, 4, none⟩ = some (.slice pl 0 ql) := by rw [cell_of_row _ _ _ _ _ _ uZ]; rfl
  have y5 : u.cell? ⟨Z, 5, none⟩ = some (.slice pm km qm) := by rw [cell_of_row _ _ _ _ _ _ uZ]; rfl
  obtain ⟨m, hm⟩ : ∃ m, lv (sortE M) = m := ⟨_, rfl⟩
  have HM : Hid _ := hm
  have H2 : Hid _ := h2
  have of := refOfO (w := u) (n := km) (d := sortE M) (hM.below bu) h2 (by omega) rfl hm
  have BU : Aside (Below w.heap.size w u) := bu
  clear hu bu uZ hM hm
  go_enter Try.func20, Try.ntmps20
  go_wp2_with fail
  rw [HU.out]
  refine of.mono ?_
  rintro r_ w1 ⟨pa, pc, rfl, o1, b1⟩
  obtain ⟨R6, hR⟩ : ∃ R, w1.heap.size = R := ⟨_, rfl⟩
  obtain ⟨w2, hw2⟩ : ∃ W, w1.alloc (.cells #[.int .i64 m, .slice pa km pc] 79) = W := ⟨_, rfl⟩
  have HW2 : Hid _ := hw2
  have b2 : Below w1.heap.size w1 w2 := by rw [← hw2]; exact (Below.refl _ _).alloc (Nat.le_refl _) _
  have bx : w2.heap[R6]? = some (.cells #[.int .i64 m, .slice pa km pc] 79 (0, 0)) := by rw [← hw2, ← hR]; exact heap_alloc_new w1 _
  have bw1 : Below w.heap.size w w1 := BU.out.trans (b1.mono BU.out.size)
  have bw : Below w.heap.size w w2 := bw1.trans (b2.mono bw1.size)
  clear hw2 of
  go_upto_region 7 with fail
  rw [HW2.out]
  refine blks_reg7 (fun _ _ _ _ _ h => h) bx (by omega) (by omega) bw.size (World.ownsRow_nil w2 w.heap.size _ _) (World.ownsRow_nil w2 w.heap.size _ _) (by simp [Value.ownBlock]) (by simp [Value.ownBlock]) ?_
  intro z r t r' t' kz bz ox oy f30 f31 f32 f33 f34 f35 f36 f37 f38 f39 f40 f41
  have bz2 : Below w.heap.size w z := bw.trans bz
  have oz : OwnE z w.heap.size (.slice pa km pc) (sortE M) := OwnE.low (kz.own (by decide) (o1.below b2)) BU.out.size
  have ek : (sortE M).length = km := by rw [sortE_len]; exact H2.out
  have FIN : Aside (BlksIs w S 1 [((lv (sortE M) : Int), sortE M)] (.returned (.tuple #[.slice r 1 t, .slice r' 1 t'])) z) := by
    have ef : flatX [((m : Int), (⟨sortE M, pa, pc⟩ : Bk))] = [.int .i64 (m : Int), .slice pa km pc] := by rw [← ek]; rfl
    rw [List.nil_append, ← ef] at ox oy
    exact blks_end ox oy rfl (by omega) hS (fun b hb => by
      rw [List.mem_singleton] at hb
      subst hb
      exact OwnE.lst oz hS) (by rw [HM.out]; rfl) bz2
  clear ox oy oz bz bz2 kz bx b1 b2 bw bw1 o1
  go_wp2
  refine bodyPost_ret (v := .tuple #[.slice r 1 t, .slice r' 1 t']) (by simp [results, Try.results20, go_sem]) rfl ?_
  exact FIN.out

set_option maxHeartbeats 4000000 in
set_option maxRecDepth 100000 in
theorem blks_some (S : Nat) (kind id lev : Int) (old : Bool) (pl pm : Option Addr) (ql qm kl km : Nat) (L M : List Ent) (w : World) (hS : S + 1 < w.heap.size) (hL : Lst w S pl ql L) (h1 : L.length = kl) (hkl : 0 < kl) (hM : IsL w pm qm M) (h2 : M.length = km) (hkm : km ≤ 40) :
    Calls Try.prog 20 #[.agg #[.int .i64 kind, .int .i64 id, .int .i64 lev, .bool old, .slice pl kl ql, .slice pm km qm]] w (BlksIs w S 2 [(lev, L), ((lv (sortE M) : Int), sortE M)]) := by
  obtain ⟨Z, hZ⟩ : ∃ Z, w.heap.size = Z := ⟨_, rfl⟩
  obtain ⟨u, hu⟩ : ∃ u, w.alloc (.cells #[.int .i64 kind, .int .i64 id, .int .i64 lev, .bool old, .slice pl kl ql, .slice pm km qm] 52) = u := ⟨_, rfl⟩
  have HU : Hid _ := hu
  have bu : Below w.heap.size w u := by rw [← hu]; exact (Below.refl _ _).alloc (Nat.le_refl _) _
  have uZ : u.heap[Z]? = some (.cells #[.int .i64 kind, .int .i64 id, .int .i64 lev, .bool old, .slice pl kl ql, .slice pm km qm] 52 (0, 0)) := by rw [← hu, ← hZ]; exact heap_alloc_new w _
  have KZ : ∀ v : World, v.heap[Z]? = u.heap[Z]? → v.cell? ⟨Z, 2, none⟩ = some (.int .i64 lev) ∧ v.cell? ⟨Z, 4, none⟩ = some (.slice pl kl ql) ∧ v.cell? ⟨Z, 5, none⟩ = some (.slice pm km qm) := fun v hv => by
    have h := hv.trans uZ
    refine ⟨?_, ?_, ?_⟩ <;> rw [cell_of_row _ _ _ _ _ _ h] <;> rfl
  obtain ⟨y2, y4, _⟩ := KZ u rfl
  have zu : Z < u.heap.size := lt_of_block uZ
  obtain ⟨tP, _⟩ := twoBl
  obtain ⟨tB, _⟩ := twoB
  obtain ⟨G1, hG1⟩ : ∃ G, u.heap.size = G := ⟨_, rfl⟩
  have v1 : Below u.heap.size u (u.alloc (.cells #[.int .i64 lev, .slice pl kl ql] 34)) := bel_alloc _ _
  have g1 : (u.alloc (.cells #[.int .i64 lev, .slice pl kl ql] 34)).heap[G1]? = some (.cells #[.int .i64 lev, .slice pl kl ql] 34 (0, 0)) := by rw [← hG1]; exact heap_alloc_new u _
  obtain ⟨r1, t1, w1, a1, o1, gr1, k1, _⟩ := appO tP (u.alloc (.cells #[.int .i64 lev, .slice pl kl ql] 34)) w.heap.size 0 1 1 (.slice none 0 0) [] ⟨G1, 0, none⟩ [.int .i64 lev, .slice pl kl ql] (World.ownsRow_nil _ _ _ _) (reads_raw g1) (by omega) (Nat.le_trans bu.size v1.size) 28
  have d1 : Below u.heap.size u w1 := v1.trans (Below.mono ⟨gr1.os, gr1.tape, gr1.output, gr1.size, fun k hk => gr1.block k hk (by simp [Value.ownBlock])⟩ v1.size)
  rw [Nat.zero_add, List.nil_append] at o1
  rw [Nat.zero_add] at a1
  obtain ⟨y2', y4', _⟩ := KZ w1 (d1.block Z zu)
  obtain ⟨G2, hG2⟩ : ∃ G, w1.heap.size = G := ⟨_, rfl⟩
  have v2 : Below w1.heap.size w1 (w1.alloc (.cells #[.int .i64 lev, .slice pl kl ql] 79)) := bel_alloc _ _
  have g2 : (w1.alloc (.cells #[.int .i64 lev, .slice pl kl ql] 79)).heap[G2]? = some (.cells #[.int .i64 lev, .slice pl kl ql] 79 (0, 0)) := by rw [← hG2]; exact heap_alloc_new w1 _
  have bw1 : Below w.heap.size w w1 := bu.trans (d1.mono bu.size)
  obtain ⟨r2, t2, w2, a2, o2, gr2, k2, _⟩ := appO tB (w1.alloc (.cells #[.int .i64 lev, .slice pl kl ql] 79)) w.heap.size 0 1 1 (.slice none 0 0) [] ⟨G2, 0, none⟩ [.int .i64 lev, .slice pl kl ql] (World.ownsRow_nil _ _ _ _) (reads_raw g2) (by omega) (Nat.le_trans bw1.size v2.size) 48
  have d2 : Below w1.heap.size w1 w2 := v2.trans (Below.mono ⟨gr2.os, gr2.tape, gr2.output, gr2.size, fun k hk => gr2.block k hk (by simp [Value.ownBlock])⟩ v2.size)
  rw [Nat.zero_add, List.nil_append] at o2
  rw [Nat.zero_add] at a2
  obtain ⟨_, _, y5⟩ := KZ w2 ((d2.block Z (Nat.lt_of_lt_of_le zu d1.size)).trans (d1.block Z zu))
  have bw2 : Below w.heap.size w w2 := bw1.trans (d2.mono bw1.size)
  have ox1 := own_below o1 d2
  obtain ⟨m, hm⟩ : ∃ m, lv (sortE M) = m := ⟨_, rfl⟩
  have HM : Hid _ := hm
  have H2 : Hid _ := h2
  have H1 : Hid _ := h1
  have of := refOfO (w := w2) (n := km) (d := sortE M) (hM.below bw2) h2 (by omega) rfl hm
  have LL : Aside (Lst w S pl ql L) := hL
  have nZ1 : ¬ Z = G1 := by omega
  have zw : Z < w1.heap.size := Nat.lt_of_lt_of_le zu d1.size
  have nZ2 : ¬ Z = G2 := by omega
  have kz : (0 : Int) < (kl : Int) := by omega
  clear hu bu uZ hM hm KZ v1 g1 gr1 k1 d1 v2 g2 gr2 k2 d2 hL o1 bw1
  go_enter Try.func20, Try.ntmps20
  go_upto_region 3 with fail
  rw [HU.out]
  go_upto_region 5 with (at_builtin; refine Lib.wpList_append_run _ rfl _ _ 28 28 rfl _ _ rfl rfl _ w1 a1 ?_)
  clear a1 y2 y4
  go_upto_region 6 with (at_builtin; refine Lib.wpList_append_run _ rfl _ _ 48 48 rfl _ _ rfl rfl _ w2 a2 ?_)
  clear a2 y2' y4'
  go_wp2_with fail
  refine of.mono ?_
  rintro r_ w3 ⟨pa, pc, rfl, o3, b3⟩
  obtain ⟨R6, hR⟩ : ∃ R, w3.heap.size = R := ⟨_, rfl⟩
  obtain ⟨w4, hw4⟩ : ∃ W, w3.alloc (.cells #[.int .i64 m, .slice pa km pc] 79) = W := ⟨_, rfl⟩
  have HW4 : Hid _ := hw4
  have b4 : Below w3.heap.size w3 w4 := by rw [← hw4]; exact (Below.refl _ _).alloc (Nat.le_refl _) _
  have bx : w4.heap[R6]? = some (.cells #[.int .i64 m, .slice pa km pc] 79 (0, 0)) := by rw [← hw4, ← hR]; exact heap_alloc_new w3 _
  have b24 : Below w2.heap.size w2 w4 := b3.trans (b4.mono b3.size)
  have bw : Below w.heap.size w w4 := bw2.trans (b24.mono bw2.size)
  have n1 : (Value.slice r1 1 t1).ownBlock ≠ some R6 := fun e => by have := (World.ownsRow.lt ox1 _ e).2; have := b3.size; omega
  have n2 : (Value.slice r2 1 t2).ownBlock ≠ some R6 := fun e => by have := (World.ownsRow.lt o2 _ e).2; have := b3.size; omega
  clear hw4 of
  go_upto_region 7 with fail
  rw [HW4.out]
  refine blks_reg7 (fun _ _ _ _ _ h => h) bx (by omega) (by omega) bw.size (own_below ox1 b24) (own_below o2 b24) n1 n2 ?_
  intro z r t r' t' kz bz ox oy f30 f31 f32 f33 f34 f35 f36 f37 f38 f39 f40 f41
  have bz2 : Below w.heap.size w z := bw.trans bz
  have oz : OwnE z w.heap.size (.slice pa km pc) (sortE M) := OwnE.low (kz.own (by decide) (o3.below b4)) bw2.size
  have ek : (sortE M).length = km := by rw [sortE_len]; exact H2.out
  have FIN : Aside (BlksIs w S 2 [(lev, L), ((lv (sortE M) : Int), sortE M)] (.returned (.tuple #[.slice r 2 t, .slice r' 2 t'])) z) := by
    have ef : flatX [(lev, (⟨L, pl, ql⟩ : Bk)), ((m : Int), (⟨sortE M, pa, pc⟩ : Bk))] = [.int .i64 lev, .slice pl kl ql] ++ [.int .i64 (m : Int), .slice pa km pc] := by rw [← ek, ← H1.out]; rfl
    rw [← ef] at ox oy
    exact blks_end ox oy rfl (by omega) hS (fun b hb => by
      rcases List.mem_cons.1 hb with rfl | hb
      · exact LL.out.below bz2
      · rw [List.mem_singleton] at hb
        subst hb
        exact OwnE.lst oz hS) (by rw [HM.out]; rfl) bz2
  clear ox oy oz bz bz2 kz bx b3 b4 b24 bw bw2 o3 ox1 o2 n1 n2
  go_wp2
  refine bodyPost_ret (v := .tuple #[.slice r 2 t, .slice r' 2 t']) (by simp [results, Try.results20, go_sem]) rfl ?_
  exact FIN.out
/-- Both. -/
theorem blks_any (S : Nat) (kind id lev : Int) (old : Bool) (pl pm : Option Addr) (ql qm kl km : Nat) (L M : List Ent) (w : World) (hS : S + 1 < w.heap.size) (hL : Lst w S pl ql L) (h1 : L.length = kl) (hM : IsL w pm qm M) (h2 : M.length = km) (hkm : km ≤ 40) {n : Nat} (hn : (rawOf lev L M).length = n) :
    Calls Try.prog 20 #[.agg #[.int .i64 kind, .int .i64 id, .int .i64 lev, .bool old, .slice pl kl ql, .slice pm km qm]] w (BlksIs w S n (rawOf lev L M)) := by
  unfold rawOf at hn ⊢
  by_cases c : kl = 0
  · subst c
    rw [if_pos h1] at hn ⊢
    rw [← hn]
    exact blks_none S kind id lev old pl pm ql qm km M w hS hM h2 hkm
  · rw [if_neg (by omega)] at hn ⊢
    rw [← hn]
    exact blks_some S kind id lev old pl pm ql qm kl km L M w hS hL h1 (by omega) hM h2 hkm
end Go.Proofs.Ytboccihcomaaoaa
