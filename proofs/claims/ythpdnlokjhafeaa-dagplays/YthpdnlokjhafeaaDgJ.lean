/- dag.join: contract. -/
import Derived.Test.YthpdnlokjhafeaaDgB
import Derived.Test.YthpdnlokjhafeaaAnyF
namespace Go.Proofs.Ythpdnlokjhafeaa
open Go.RowKit Go.Lib Go.WideMaps Go.Maps
set_option linter.unusedVariables false

/-- An append whose run is known, at a step of a region that draws its order. -/
theorem step_app {ops : Array Oper} {o : Oper} {a : Act} {K : Act → World → Prop} {Q : Exit → Act → World → Prop} {E : Prop} (w : World) (hgd : o.guard = none) (s x : Operand) (t tn : TypeId)
    (ho : o.op = .call { callee := .builtin .append, args := #[s, x], argTypes := #[t, tn] }) (vs vx : Value) (hs : a.eval s = vs) (hx : a.eval x = vx)
    (v' : Value) (w' : World) (hr : (Builtin.append_ #[t, tn] o.type #[vs, vx]).run Try.prog w = .ok v' w') (h : K (a.put o.dst v') w') :
    if Region.wanted o (yielded ops a.tmps) = true then Oper.wp Try.prog o a w K Q else E := by
  have hw : Region.wanted o (yielded ops a.tmps) = true := by simp [Region.wanted, hgd]
  rw [if_pos hw]
  exact Lib.wp_append_run w s x t tn ho vs vx hs hx v' w' hr h
variable {w w' : World} {B M0 N N' : Nat} {M : Bool → Nat} {fp gp : Int × Int → Option Value} {f : Bool → Int → Option Value} {l : Bool → Int → List Int}
theorem DgA.drew (h : DgA w B M0 M fp f l N) : DgA w.drew B M0 M fp f l N := h.below ((Below.refl _ _).drew)
/-- What a region that draws reads of it. -/
def SL (B : Nat) (M : Bool → Nat) (f : Bool → Int → Option Value) (s : Bool) (i : Int) (v0 : World) : Prop :=
  v0.cell? ⟨B, if s then 1 else 2, none⟩ = some (.map (some (M s))) ∧ (Instr.lookup 47 (.map (some (M s))) (.int .i64 i) false).run Try.prog v0 = .ok (lv f s i) v0
theorem DgA.sl (h : DgA w B M0 M fp f l N) (s : Bool) {i : Int} (hi : wfI i) : SL B M f s i w := by
  obtain ⟨c0, c1, c2⟩ := h.cell0
  refine ⟨?_, h.look s hi⟩
  cases s
  · exact c2
  · exact c1
/-- One more at the end of a list. -/
theorem DgA.push (h : DgA w B M0 M fp f l N) (hN : N ≤ 1000000) (s : Bool) (i x : Int) (hi : wfI i) (hl : (l s i).length + 1 ≤ N) (hk : ∀ n, MapG keyI w (M s) (f s) n → n + 1 ≤ N) :
    SL B M f s i (w.alloc (.cells #[.int .i64 x] 3)) ∧ ∃ v2 w2 w3, (Builtin.append_ #[24, 24] 24 #[lv f s i, .slice (some ⟨w.heap.size, 0, none⟩) 1 1]).run Try.prog (w.alloc (.cells #[.int .i64 x] 3)) = .ok v2 w2 ∧ SL B M f s i w2 ∧
      (Instr.mapUpdate 47 (.map (some (M s))) (.int .i64 i) v2).run Try.prog w2 = .ok () w3 ∧ ∃ f', DgA w3 B M0 M fp f' (lset l s i (l s i ++ [x])) N ∧ (∀ a, a ≠ s → f' a = f a) ∧ Fr (ft B M0 M f) w w3 ∧ ∀ k, ft B M0 M f' k → ft B M0 M f k ∨ w.heap.size ≤ k := by
  have b1 : Below w.heap.size w (w.alloc (.cells #[.int .i64 x] 3)) := (Below.refl _ _).alloc (Nat.le_refl _) _
  have h1 := h.below b1
  obtain ⟨v2, w2, hr, o2, g2, n2⟩ := app_run (h1.ownv s i) (OwnI.one (base := 0) w x (Nat.zero_le _)).isIv (by simp; omega) (Nat.zero_le _) 24
  have blk : ∀ k, (lv f s i).ownBlock = some k → ∃ u, f s i = some u ∧ u.ownBlock = some k := fun k hk => by
    unfold lv at hk
    cases hf : f s i with
    | none => rw [hf] at hk; cases hk
    | some u => rw [hf] at hk; exact ⟨u, rfl, hk⟩
  have F2 : Fr (fun k => k = M s ∨ ∃ v, f s i = some v ∧ v.ownBlock = some k) w w2 := (Fr.below b1).trans (Fr.of_grown g2) (fun j hj => .inl (.inr (blk j hj)))
  obtain ⟨n, q, hn⟩ := h.mi s
  have hn1 := hk n q
  have q2 : MapG keyI w2 (M s) (f s) n := (q.of_block (b1.block _ q.lt)).of_block (g2.block _ (by have := q.lt; have := b1.size; omega) (fun e => by
    obtain ⟨u, u1, u2⟩ := blk _ e.symm
    exact (h.row u1 u2).2.2.2 s rfl))
  obtain ⟨w3, m, hr3, q3, hm, g3⟩ := q2.store Try.underlying47 (by omega) (x := i) hi v2
  have F3 : Fr (fun k => k = M s ∨ ∃ v, f s i = some v ∧ v.ownBlock = some k) w w3 := F2.trans (Fr.of_grown g3) (fun j hj => by injection hj with hj; exact .inl (.inl hj.symm))
  have n2' : ∀ k, v2.ownBlock = some k → (∃ u, f s i = some u ∧ u.ownBlock = some k) ∨ w.heap.size ≤ k := fun k hk => by
    rcases n2 k hk with e | e
    · exact .inl (blk k e)
    · exact .inr (by have := b1.size; omega)
  have o3 : OwnI w3 0 v2 (l s i ++ [x]) := o2.fr (Fr.of_grown g3) (fun k hk e => by
    injection e with e
    obtain ⟨cs, hc⟩ := o2.rowT hk
    obtain ⟨es, c, hm⟩ := q2.isMap
    exact cells_no_map hc (by rw [← e]; exact hm))
  obtain ⟨D, hD⟩ := h.turn (s := s) (id := i) (d := l s i ++ [x]) q3 (by rw [hm]; split <;> omega) (by simp; omega) F3 (fun j hj => by simp [fput, hj]) (.inr ⟨v2, by simp [fput], o3, by simp, n2'⟩)
  have hft : ∀ k, (k = M s ∨ ∃ v, f s i = some v ∧ v.ownBlock = some k) → ft B M0 M f k := fun k hk => by
    rcases hk with hk | ⟨v, h1, h2⟩
    · exact .inr (.inr (.inl ⟨s, hk⟩))
    · exact .inr (.inr (.inr ⟨s, i, v, h1, h2⟩))
  refine ⟨h1.sl s hi, v2, w2, w3, hr, ⟨?_, q2.look Try.underlying47 (zeroS w2) (x := i) hi⟩, hr3, _, D, fun a ha => fset_ne _ _ ha, F3.mono hft, hD⟩
  have := (h1.sl s hi).1
  rw [← this]
  refine World.cell?_of_block (g2.block B (by have := h.blt; have := b1.size; omega) (fun e => ?_))
  obtain ⟨u, u1, u2⟩ := blk _ e.symm
  exact (h.row u1 u2).2.1 rfl
set_option maxHeartbeats 4000000 in
set_option maxRecDepth 100000 in
theorem join_any (h : DgA w B M0 M fp f l N) (hN : N < 1000000) (p i : Int) (hp : wfI p) (hi : wfI i) :
    Calls Try.prog 26 #[.pointer (some ⟨B, 0, none⟩), .int .i64 p, .int .i64 i] w fun e w' => e = .returned (.tuple #[]) ∧
      ∃ f', DgA w' B M0 M (fput fp (p, i) (prV ((l true p).length, (l false i).length))) f' (lset (lset l true p (l true p ++ [i])) false i (l false i ++ [p])) (N + 1) ∧ Fr (ft B M0 M f) w w' ∧ ∀ k, ft B M0 M f' k → ft B M0 M f k ∨ w.heap.size ≤ k := by
  have h0 := h.drew
  obtain ⟨ab, cb, eb, _⟩ := h0.lvlen true p
  obtain ⟨aw, cw, ew, _⟩ := h0.lvlen false i
  have sb := h0.sl true hp
  have sw := h0.sl false hi
  obtain ⟨nb, hnb⟩ : ∃ n, (l true p).length = n := ⟨_, rfl⟩
  obtain ⟨nw, hnw⟩ : ∃ n, (l false i).length = n := ⟨_, rfl⟩
  have lb := h.len true p
  have lw := h.len false i
  unfold SL at sb sw
  rw [eb, hnb] at sb
  rw [ew, hnw] at sw
  have K0 : Aside ((w.drew.cell? ⟨B, 0, none⟩ = some (.map (some M0))) ∧ w.drew.cell? ⟨B, 1, none⟩ = some (.map (some (M true))) ∧ w.drew.cell? ⟨B, 2, none⟩ = some (.map (some (M false))) ∧
    (Instr.lookup 47 (.map (some (M true))) (.int .i64 p) false).run Try.prog w.drew = .ok (.slice ab nb cb) w.drew ∧ (Instr.lookup 47 (.map (some (M false))) (.int .i64 i) false).run Try.prog w.drew = .ok (.slice aw nw cw) w.drew) := ⟨h0.cell0.1, sb.1, sw.1, sb.2, sw.2⟩
  obtain ⟨n0, q0, hn0⟩ := h0.mp
  obtain ⟨w1, m1, hr1, q1, hm1, g1⟩ := q0.store Try.underlying46 (by omega) (x := (p, i)) ⟨hp, hi⟩ (prV (nb, nw))
  change (Instr.mapUpdate 46 (.map (some M0)) (.agg #[.int .i64 p, .int .i64 i]) (.agg #[.int .i64 nb, .int .i64 nw])).run _ _ = _ at hr1
  have D1 := (h0.up (Nat.le_succ N)).setP q1 (by rw [hm1]; split <;> omega) g1
  have F1 : Fr (ft B M0 M f) w w1 := ((Fr.refl (ft B M0 M f) w).drew).trans (Fr.of_grown g1) (fun j hj => by injection hj with hj; exact .inl (.inr (.inl hj.symm)))
  have count : ∀ s n (u : World), u.heap[M s]? = w.heap[M s]? → MapG keyI u (M s) (f s) n → n + 1 ≤ N + 1 := fun s n u hu hq => by
    obtain ⟨n', q', hn'⟩ := h.mi s
    obtain ⟨ks, k1, k2, k3⟩ := hq.keys
    obtain ⟨ks', k1', k2', k3'⟩ := q'.keys
    have : ks.length ≤ ks'.length := nodup_le ks ks' k1 (fun x hx => (k3' x).2 ((k3 x).1 hx))
    omega
  have D1d := D1.drew
  obtain ⟨s1, v2, w2, w3, hr2, s2, hr3, f3, D3, ne3, F3, t3⟩ := D1d.push (by omega) true p i hp (by omega) (fun n hq => by
    refine count true n w1.drew ?_ hq
    exact (g1.block _ (h.mlt true) (fun e => h.m0 true (by injection e))))
  have D3d := D3.drew
  have e3 : f3 false = f false := ne3 false (by simp)
  have eL : lset l true p (l true p ++ [i]) false i = l false i := lset_tf _ _
  obtain ⟨s4, v5, w5, w6, hr5, s5, hr6, f6, D6, ne6, F6, t6⟩ := D3d.push (by omega) false i p hi (by rw [eL]; omega) (fun n hq => by
    obtain ⟨n', q', hn'⟩ := h.mi false
    obtain ⟨ks, k1, k2, k3⟩ := hq.keys
    obtain ⟨ks', k1', k2', k3'⟩ := q'.keys
    have : ks.length ≤ ks'.length := nodup_le ks ks' k1 (fun x hx => (k3' x).2 (by have := (k3 x).1 hx; rw [e3] at this; exact this))
    omega)
  rw [eL] at D6
  have FT : Fr (ft B M0 M f) w w6 := by
    have a1 : Fr (ft B M0 M f) w w3 := F1.drew.trans F3 (fun j hj => .inl hj)
    exact a1.drew.trans F6 (fun j hj => by
      rcases t3 j hj with e | e
      · exact .inl e
      · exact .inr (by have := F1.size; have : w1.drew.heap.size = w1.heap.size := rfl; omega))
  have TT : ∀ k, ft B M0 M f6 k → ft B M0 M f k ∨ w.heap.size ≤ k := fun k hk => by
    rcases t6 k hk with e | e
    · rcases t3 k e with e | e
      · exact .inl e
      · exact .inr (by have := F1.size; have : w1.drew.heap.size = w1.heap.size := rfl; omega)
    · exact .inr (by have := F1.size; have : w1.drew.heap.size = w1.heap.size := rfl; have := F3.size; have : w3.drew.heap.size = w3.heap.size := rfl; omega)
  rw [hnb, hnw]
  have FIN : Aside (∃ f', DgA w6 B M0 M (fput fp (p, i) (prV (nb, nw))) f' (lset (lset l true p (l true p ++ [i])) false i (l false i ++ [p])) (N + 1) ∧ Fr (ft B M0 M f) w w6 ∧ ∀ k, ft B M0 M f' k → ft B M0 M f k ∨ w.heap.size ≤ k) := ⟨f6, D6, FT, TT⟩
  obtain ⟨V1, hV1⟩ : ∃ V, lv f true p = V := ⟨_, rfl⟩
  obtain ⟨V4, hV4⟩ : ∃ V, lv f3 false i = V := ⟨_, rfl⟩
  have K1 : Aside (SL B M f true p w1.drew) := D1d.sl true hp
  have K2 : Aside (SL B M f true p (w1.drew.alloc (.cells #[.int .i64 i] 3))) := s1
  have K3 : Aside (SL B M f true p w2) := s2
  have K4 : Aside (SL B M f3 false i w3.drew) := D3d.sl false hi
  have K5 : Aside (SL B M f3 false i (w3.drew.alloc (.cells #[.int .i64 p] 3))) := s4
  have K6 : Aside (SL B M f3 false i w5) := s5
  unfold SL at K1 K2 K3 K4 K5 K6
  rw [hV1] at K1 K2 K3 hr2
  rw [hV4] at K4 K5 K6 hr5
  have R2 : Aside _ := hr2
  have R5 : Aside _ := hr5
  clear h h0 q0 q1 g1 D1 D1d D3 D3d D6 F1 F3 F6 t3 t6 FT TT s1 s2 s4 s5 count sb sw eb ew ne3 ne6 e3 eL lb lw hn0 hm1 hr2 hr5 hV1 hV4
  simp only [if_true] at K1 K2 K3 K4 K5 K6
  go_enter Try.func26, Try.ntmps26
  go_upto_region 0 with fail
  refine anyE_start (S := (fun v0 => (v0.cell? ⟨B, 0, none⟩ = some (.map (some M0))) ∧ v0.cell? ⟨B, 1, none⟩ = some (.map (some (M true))) ∧ v0.cell? ⟨B, 2, none⟩ = some (.map (some (M false))) ∧ (Instr.lookup 47 (.map (some (M true))) (.int .i64 p) false).run Try.prog v0 = .ok (.slice ab nb cb) v0 ∧ (Instr.lookup 47 (.map (some (M false))) (.int .i64 i) false).run Try.prog v0 = .ok (.slice aw nw cw) v0)) (L := 22) (by kernel_rfl) ?_
  refine anyE_take (i := 0) (oi := { dst := some 6, op := Op.move (Operand.tmp 0), type := 22, pos := "dag.go:45", after := #[], guard := none }) (v := ?_) rfl (by kernel_rfl)  (by kernel_rfl) (by kernel_rfl) (by kernel_rfl) (fun _ _ _ h => h) (Or.inl ⟨by rfl, ?_⟩) (K0.out) ?_
  rotate_left
  · (intro w hSw; (try dsimp only at hSw); go_simp; try with_reducible rfl)
  simp only [Act.put, List.setIfInBounds_toArray, List.set_cons_zero, List.set_cons_succ]
  refine anyE_take (i := 1) (oi := { dst := some 7, op := Op.nilCheck (Operand.tmp 6), type := 0, pos := "dag.go:45", after := #[{ on := 0, ground := Ground.data }], guard := none }) (v := ?_) rfl (by kernel_rfl)  (by kernel_rfl) (by kernel_rfl) (by kernel_rfl) (fun _ _ _ h => h) (Or.inl ⟨by rfl, ?_⟩) (K0.out) ?_
  rotate_left
  · (intro w hSw; (try dsimp only at hSw); go_simp; try with_reducible rfl)
  simp only [Act.put, List.setIfInBounds_toArray, List.set_cons_zero, List.set_cons_succ]
  refine anyE_take (i := 2) (oi := { dst := some 8, op := Op.fieldAddr 49 (Operand.tmp 7) 0, type := 0, pos := "dag.go:45", after := #[{ on := 1, ground := Ground.data }], guard := none }) (v := ?_) rfl (by kernel_rfl)  (by kernel_rfl) (by kernel_rfl) (by kernel_rfl) (fun _ _ _ h => h) (Or.inl ⟨by rfl, ?_⟩) (K0.out) ?_
  rotate_left
  · (intro w hSw; (try dsimp only at hSw); go_simp; try with_reducible rfl)
  simp only [Act.put, List.setIfInBounds_toArray, List.set_cons_zero, List.set_cons_succ]
  refine anyE_take (i := 3) (oi := { dst := some 9, op := Op.load 46 (Operand.tmp 8), type := 46, pos := "dag.go:45", after := #[{ on := 2, ground := Ground.data }], guard := none }) (v := ?_) rfl (by kernel_rfl)  (by kernel_rfl) (by kernel_rfl) (by kernel_rfl) (fun _ _ _ h => h) (Or.inl ⟨by rfl, ?_⟩) (K0.out) ?_
  rotate_left
  · (intro w hSw; (try dsimp only at hSw); go_simp; try with_reducible rfl)
  simp only [Act.put, List.setIfInBounds_toArray, List.set_cons_zero, List.set_cons_succ]
  refine anyE_take (i := 4) (oi := { dst := some 10, op := Op.move (Operand.tmp 1), type := 3, pos := "dag.go:45", after := #[], guard := none }) (v := ?_) rfl (by kernel_rfl)  (by kernel_rfl) (by kernel_rfl) (by kernel_rfl) (fun _ _ _ h => h) (Or.inl ⟨by rfl, ?_⟩) (K0.out) ?_
  rotate_left
  · (intro w hSw; (try dsimp only at hSw); go_simp; try with_reducible rfl)
  simp only [Act.put, List.setIfInBounds_toArray, List.set_cons_zero, List.set_cons_succ]
  refine anyE_take (i := 5) (oi := { dst := some 11, op := Op.move (Operand.tmp 2), type := 3, pos := "dag.go:45", after := #[], guard := none }) (v := ?_) rfl (by kernel_rfl)  (by kernel_rfl) (by kernel_rfl) (by kernel_rfl) (fun _ _ _ h => h) (Or.inl ⟨by rfl, ?_⟩) (K0.out) ?_
  rotate_left
  · (intro w hSw; (try dsimp only at hSw); go_simp; try with_reducible rfl)
  simp only [Act.put, List.setIfInBounds_toArray, List.set_cons_zero, List.set_cons_succ]
  refine anyE_take (i := 6) (oi := { dst := some 12, op := Op.build 57 #[(0, Operand.tmp 10), (1, Operand.tmp 11)], type := 57, pos := "dag.go:45", after := #[{ on := 4, ground := Ground.data }, { on := 5, ground := Ground.data }], guard := none }) (v := ?_) rfl (by kernel_rfl)  (by kernel_rfl) (by kernel_rfl) (by kernel_rfl) (fun _ _ _ h => h) (Or.inl ⟨by rfl, ?_⟩) (K0.out) ?_
  rotate_left
  · (intro w hSw; (try dsimp only at hSw); go_simp; try with_reducible rfl)
  simp only [Act.put, List.setIfInBounds_toArray, List.set_cons_zero, List.set_cons_succ]
  refine anyE_take (i := 7) (oi := { dst := some 13, op := Op.move (Operand.tmp 0), type := 22, pos := "dag.go:45", after := #[], guard := none }) (v := ?_) rfl (by kernel_rfl)  (by kernel_rfl) (by kernel_rfl) (by kernel_rfl) (fun _ _ _ h => h) (Or.inl ⟨by rfl, ?_⟩) (K0.out) ?_
  rotate_left
  · (intro w hSw; (try dsimp only at hSw); go_simp; try with_reducible rfl)
  simp only [Act.put, List.setIfInBounds_toArray, List.set_cons_zero, List.set_cons_succ]
  refine anyE_take (i := 8) (oi := { dst := some 14, op := Op.nilCheck (Operand.tmp 13), type := 0, pos := "dag.go:45", after := #[{ on := 7, ground := Ground.data }], guard := none }) (v := ?_) rfl (by kernel_rfl)  (by kernel_rfl) (by kernel_rfl) (by kernel_rfl) (fun _ _ _ h => h) (Or.inl ⟨by rfl, ?_⟩) (K0.out) ?_
  rotate_left
  · (intro w hSw; (try dsimp only at hSw); go_simp; try with_reducible rfl)
  simp only [Act.put, List.setIfInBounds_toArray, List.set_cons_zero, List.set_cons_succ]
  refine anyE_take (i := 9) (oi := { dst := some 15, op := Op.fieldAddr 49 (Operand.tmp 14) 1, type := 0, pos := "dag.go:45", after := #[{ on := 8, ground := Ground.data }], guard := none }) (v := ?_) rfl (by kernel_rfl)  (by kernel_rfl) (by kernel_rfl) (by kernel_rfl) (fun _ _ _ h => h) (Or.inl ⟨by rfl, ?_⟩) (K0.out) ?_
  rotate_left
  · (intro w hSw; (try dsimp only at hSw); go_simp; try with_reducible rfl)
  simp only [Act.put, List.setIfInBounds_toArray, List.set_cons_zero, List.set_cons_succ]
  refine anyE_take (i := 10) (oi := { dst := some 16, op := Op.load 47 (Operand.tmp 15), type := 47, pos := "dag.go:45", after := #[{ on := 9, ground := Ground.data }], guard := none }) (v := ?_) rfl (by kernel_rfl)  (by kernel_rfl) (by kernel_rfl) (by kernel_rfl) (fun _ _ _ h => h) (Or.inl ⟨by rfl, ?_⟩) (K0.out) ?_
  rotate_left
  · (intro w hSw; (try dsimp only at hSw); go_simp; try with_reducible rfl)
  simp only [Act.put, List.setIfInBounds_toArray, List.set_cons_zero, List.set_cons_succ]
  refine anyE_take (i := 11) (oi := { dst := some 17, op := Op.move (Operand.tmp 1), type := 3, pos := "dag.go:45", after := #[], guard := none }) (v := ?_) rfl (by kernel_rfl)  (by kernel_rfl) (by kernel_rfl) (by kernel_rfl) (fun _ _ _ h => h) (Or.inl ⟨by rfl, ?_⟩) (K0.out) ?_
  rotate_left
  · (intro w hSw; (try dsimp only at hSw); go_simp; try with_reducible rfl)
  simp only [Act.put, List.setIfInBounds_toArray, List.set_cons_zero, List.set_cons_succ]
  refine anyE_take (i := 12) (oi := { dst := some 18, op := Op.lookup 47 (Operand.tmp 16) (Operand.tmp 17) false, type := 24, pos := "dag.go:45", after := #[{ on := 10, ground := Ground.data }, { on := 11, ground := Ground.data }], guard := none }) (v := ?_) rfl (by kernel_rfl)  (by kernel_rfl) (by kernel_rfl) (by kernel_rfl) (fun _ _ _ h => h) (Or.inl ⟨by rfl, ?_⟩) (K0.out) ?_
  rotate_left
  · (intro w hSw; (try dsimp only at hSw); go_simp; try with_reducible rfl)
  simp only [Act.put, List.setIfInBounds_toArray, List.set_cons_zero, List.set_cons_succ]
  refine anyE_take (i := 13) (oi := { dst := some 19, op := Op.call { callee := Callee.builtin Builtin.len, args := #[Operand.tmp 18], argTypes := #[24] }, type := 3, pos := "dag.go:45", after := #[{ on := 12, ground := Ground.data }], guard := none }) (v := ?_) rfl (by kernel_rfl)  (by kernel_rfl) (by kernel_rfl) (by kernel_rfl) (fun _ _ _ h => h) (Or.inl ⟨by rfl, ?_⟩) (K0.out) ?_
  rotate_left
  · (intro w hSw; (try dsimp only at hSw); go_simp; try with_reducible rfl)
  simp only [Act.put, List.setIfInBounds_toArray, List.set_cons_zero, List.set_cons_succ]
  refine anyE_take (i := 14) (oi := { dst := some 20, op := Op.move (Operand.tmp 0), type := 22, pos := "dag.go:45", after := #[], guard := none }) (v := ?_) rfl (by kernel_rfl)  (by kernel_rfl) (by kernel_rfl) (by kernel_rfl) (fun _ _ _ h => h) (Or.inl ⟨by rfl, ?_⟩) (K0.out) ?_
  rotate_left
  · (intro w hSw; (try dsimp only at hSw); go_simp; try with_reducible rfl)
  simp only [Act.put, List.setIfInBounds_toArray, List.set_cons_zero, List.set_cons_succ]
  refine anyE_take (i := 15) (oi := { dst := some 21, op := Op.nilCheck (Operand.tmp 20), type := 0, pos := "dag.go:45", after := #[{ on := 14, ground := Ground.data }], guard := none }) (v := ?_) rfl (by kernel_rfl)  (by kernel_rfl) (by kernel_rfl) (by kernel_rfl) (fun _ _ _ h => h) (Or.inl ⟨by rfl, ?_⟩) (K0.out) ?_
  rotate_left
  · (intro w hSw; (try dsimp only at hSw); go_simp; try with_reducible rfl)
  simp only [Act.put, List.setIfInBounds_toArray, List.set_cons_zero, List.set_cons_succ]
  refine anyE_take (i := 16) (oi := { dst := some 22, op := Op.fieldAddr 49 (Operand.tmp 21) 2, type := 0, pos := "dag.go:45", after := #[{ on := 15, ground := Ground.data }], guard := none }) (v := ?_) rfl (by kernel_rfl)  (by kernel_rfl) (by kernel_rfl) (by kernel_rfl) (fun _ _ _ h => h) (Or.inl ⟨by rfl, ?_⟩) (K0.out) ?_
  rotate_left
  · (intro w hSw; (try dsimp only at hSw); go_simp; try with_reducible rfl)
  simp only [Act.put, List.setIfInBounds_toArray, List.set_cons_zero, List.set_cons_succ]
  refine anyE_take (i := 17) (oi := { dst := some 23, op := Op.load 47 (Operand.tmp 22), type := 47, pos := "dag.go:45", after := #[{ on := 16, ground := Ground.data }], guard := none }) (v := ?_) rfl (by kernel_rfl)  (by kernel_rfl) (by kernel_rfl) (by kernel_rfl) (fun _ _ _ h => h) (Or.inl ⟨by rfl, ?_⟩) (K0.out) ?_
  rotate_left
  · (intro w hSw; (try dsimp only at hSw); go_simp; try with_reducible rfl)
  simp only [Act.put, List.setIfInBounds_toArray, List.set_cons_zero, List.set_cons_succ]
  refine anyE_take (i := 18) (oi := { dst := some 24, op := Op.move (Operand.tmp 2), type := 3, pos := "dag.go:45", after := #[], guard := none }) (v := ?_) rfl (by kernel_rfl)  (by kernel_rfl) (by kernel_rfl) (by kernel_rfl) (fun _ _ _ h => h) (Or.inl ⟨by rfl, ?_⟩) (K0.out) ?_
  rotate_left
  · (intro w hSw; (try dsimp only at hSw); go_simp; try with_reducible rfl)
  simp only [Act.put, List.setIfInBounds_toArray, List.set_cons_zero, List.set_cons_succ]
  refine anyE_take (i := 19) (oi := { dst := some 25, op := Op.lookup 47 (Operand.tmp 23) (Operand.tmp 24) false, type := 24, pos := "dag.go:45", after := #[{ on := 17, ground := Ground.data }, { on := 18, ground := Ground.data }], guard := none }) (v := ?_) rfl (by kernel_rfl)  (by kernel_rfl) (by kernel_rfl) (by kernel_rfl) (fun _ _ _ h => h) (Or.inl ⟨by rfl, ?_⟩) (K0.out) ?_
  rotate_left
  · (intro w hSw; (try dsimp only at hSw); go_simp; try with_reducible rfl)
  simp only [Act.put, List.setIfInBounds_toArray, List.set_cons_zero, List.set_cons_succ]
  refine anyE_take (i := 20) (oi := { dst := some 26, op := Op.call { callee := Callee.builtin Builtin.len, args := #[Operand.tmp 25], argTypes := #[24] }, type := 3, pos := "dag.go:45", after := #[{ on := 19, ground := Ground.data }], guard := none }) (v := ?_) rfl (by kernel_rfl)  (by kernel_rfl) (by kernel_rfl) (by kernel_rfl) (fun _ _ _ h => h) (Or.inl ⟨by rfl, ?_⟩) (K0.out) ?_
  rotate_left
  · (intro w hSw; (try dsimp only at hSw); go_simp; try with_reducible rfl)
  simp only [Act.put, List.setIfInBounds_toArray, List.set_cons_zero, List.set_cons_succ]
  refine anyE_take (i := 21) (oi := { dst := some 27, op := Op.build 57 #[(0, Operand.tmp 19), (1, Operand.tmp 26)], type := 57, pos := "dag.go:45", after := #[{ on := 13, ground := Ground.data }, { on := 20, ground := Ground.data }], guard := none }) (v := ?_) rfl (by kernel_rfl)  (by kernel_rfl) (by kernel_rfl) (by kernel_rfl) (fun _ _ _ h => h) (Or.inl ⟨by rfl, ?_⟩) (K0.out) ?_
  rotate_left
  · (intro w hSw; (try dsimp only at hSw); go_simp; try with_reducible rfl)
  simp only [Act.put, List.setIfInBounds_toArray, List.set_cons_zero, List.set_cons_succ]
  refine anyE_ready (rs := [22]) (by kernel_rfl) (by simp) ?_
  refine AllE.cons (o := { dst := none, op := Op.mapUpdate 46 (Operand.tmp 9) (Operand.tmp 12) (Operand.tmp 27), type := 0, pos := "dag.go:45", after := #[{ on := 3, ground := Ground.data }, { on := 6, ground := Ground.data }, { on := 21, ground := Ground.data }, { on := 0, ground := Ground.phase }, { on := 1, ground := Ground.phase }, { on := 2, ground := Ground.phase }, { on := 3, ground := Ground.phase }, { on := 4, ground := Ground.phase }, { on := 5, ground := Ground.phase }, { on := 6, ground := Ground.phase }, { on := 7, ground := Ground.phase }, { on := 8, ground := Ground.phase }, { on := 9, ground := Ground.phase }, { on := 10, ground := Ground.phase }, { on := 11, ground := Ground.phase }, { on := 12, ground := Ground.phase }, { on := 13, ground := Ground.phase }, { on := 14, ground := Ground.phase }, { on := 15, ground := Ground.phase }, { on := 16, ground := Ground.phase }, { on := 17, ground := Ground.phase }, { on := 18, ground := Ground.phase }, { on := 19, ground := Ground.phase }, { on := 20, ground := Ground.phase }, { on := 21, ground := Ground.phase }], guard := none }) rfl (fun Kt hKt => ?_) ?_
  · go_simp
    refine hKt.out _ _ (fun h => absurd rfl h) ?_
    clear hKt Kt
    try simp only [Act.put, List.setIfInBounds_toArray, List.set_cons_zero, List.set_cons_succ]
    refine anyE_done (by kernel_rfl) ?_ _
    go_wp2_with fail
    refine anyE_start (S := (fun v0 => v0.cell? ⟨B, 1, none⟩ = some (.map (some (M true))) ∧ (Instr.lookup 47 (.map (some (M true))) (.int .i64 p) false).run Try.prog v0 = .ok V1 v0)) (L := 14) (by kernel_rfl) ?_
    refine anyE_take (i := 0) (oi := { dst := some 28, op := Op.move (Operand.tmp 0), type := 22, pos := "dag.go:46", after := #[], guard := none }) (v := ?_) rfl (by kernel_rfl)  (by kernel_rfl) (by kernel_rfl) (by kernel_rfl) (fun _ _ _ h => h) (Or.inl ⟨by rfl, ?_⟩) (K1.out) ?_
    rotate_left
    · (intro w hSw; (try dsimp only at hSw); go_simp; try with_reducible rfl)
    simp only [Act.put, List.setIfInBounds_toArray, List.set_cons_zero, List.set_cons_succ]
    refine anyE_take (i := 1) (oi := { dst := some 29, op := Op.nilCheck (Operand.tmp 28), type := 0, pos := "dag.go:46", after := #[{ on := 0, ground := Ground.data }], guard := none }) (v := ?_) rfl (by kernel_rfl)  (by kernel_rfl) (by kernel_rfl) (by kernel_rfl) (fun _ _ _ h => h) (Or.inl ⟨by rfl, ?_⟩) (K1.out) ?_
    rotate_left
    · (intro w hSw; (try dsimp only at hSw); go_simp; try with_reducible rfl)
    simp only [Act.put, List.setIfInBounds_toArray, List.set_cons_zero, List.set_cons_succ]
    refine anyE_take (i := 2) (oi := { dst := some 30, op := Op.fieldAddr 49 (Operand.tmp 29) 1, type := 0, pos := "dag.go:46", after := #[{ on := 1, ground := Ground.data }], guard := none }) (v := ?_) rfl (by kernel_rfl)  (by kernel_rfl) (by kernel_rfl) (by kernel_rfl) (fun _ _ _ h => h) (Or.inl ⟨by rfl, ?_⟩) (K1.out) ?_
    rotate_left
    · (intro w hSw; (try dsimp only at hSw); go_simp; try with_reducible rfl)
    simp only [Act.put, List.setIfInBounds_toArray, List.set_cons_zero, List.set_cons_succ]
    refine anyE_take (i := 3) (oi := { dst := some 31, op := Op.load 47 (Operand.tmp 30), type := 47, pos := "dag.go:46", after := #[{ on := 2, ground := Ground.data }], guard := none }) (v := ?_) rfl (by kernel_rfl)  (by kernel_rfl) (by kernel_rfl) (by kernel_rfl) (fun _ _ _ h => h) (Or.inl ⟨by rfl, ?_⟩) (K1.out) ?_
    rotate_left
    · (intro w hSw; (try dsimp only at hSw); go_simp; try with_reducible rfl)
    simp only [Act.put, List.setIfInBounds_toArray, List.set_cons_zero, List.set_cons_succ]
    refine anyE_take (i := 4) (oi := { dst := some 32, op := Op.move (Operand.tmp 1), type := 3, pos := "dag.go:46", after := #[], guard := none }) (v := ?_) rfl (by kernel_rfl)  (by kernel_rfl) (by kernel_rfl) (by kernel_rfl) (fun _ _ _ h => h) (Or.inl ⟨by rfl, ?_⟩) (K1.out) ?_
    rotate_left
    · (intro w hSw; (try dsimp only at hSw); go_simp; try with_reducible rfl)
    simp only [Act.put, List.setIfInBounds_toArray, List.set_cons_zero, List.set_cons_succ]
    refine anyE_take (i := 5) (oi := { dst := some 33, op := Op.move (Operand.tmp 0), type := 22, pos := "dag.go:46", after := #[], guard := none }) (v := ?_) rfl (by kernel_rfl)  (by kernel_rfl) (by kernel_rfl) (by kernel_rfl) (fun _ _ _ h => h) (Or.inl ⟨by rfl, ?_⟩) (K1.out) ?_
    rotate_left
    · (intro w hSw; (try dsimp only at hSw); go_simp; try with_reducible rfl)
    simp only [Act.put, List.setIfInBounds_toArray, List.set_cons_zero, List.set_cons_succ]
    refine anyE_take (i := 6) (oi := { dst := some 34, op := Op.nilCheck (Operand.tmp 33), type := 0, pos := "dag.go:46", after := #[{ on := 5, ground := Ground.data }], guard := none }) (v := ?_) rfl (by kernel_rfl)  (by kernel_rfl) (by kernel_rfl) (by kernel_rfl) (fun _ _ _ h => h) (Or.inl ⟨by rfl, ?_⟩) (K1.out) ?_
    rotate_left
    · (intro w hSw; (try dsimp only at hSw); go_simp; try with_reducible rfl)
    simp only [Act.put, List.setIfInBounds_toArray, List.set_cons_zero, List.set_cons_succ]
    refine anyE_take (i := 7) (oi := { dst := some 35, op := Op.fieldAddr 49 (Operand.tmp 34) 1, type := 0, pos := "dag.go:46", after := #[{ on := 6, ground := Ground.data }], guard := none }) (v := ?_) rfl (by kernel_rfl)  (by kernel_rfl) (by kernel_rfl) (by kernel_rfl) (fun _ _ _ h => h) (Or.inl ⟨by rfl, ?_⟩) (K1.out) ?_
    rotate_left
    · (intro w hSw; (try dsimp only at hSw); go_simp; try with_reducible rfl)
    simp only [Act.put, List.setIfInBounds_toArray, List.set_cons_zero, List.set_cons_succ]
    refine anyE_take (i := 8) (oi := { dst := some 36, op := Op.load 47 (Operand.tmp 35), type := 47, pos := "dag.go:46", after := #[{ on := 7, ground := Ground.data }], guard := none }) (v := ?_) rfl (by kernel_rfl)  (by kernel_rfl) (by kernel_rfl) (by kernel_rfl) (fun _ _ _ h => h) (Or.inl ⟨by rfl, ?_⟩) (K1.out) ?_
    rotate_left
    · (intro w hSw; (try dsimp only at hSw); go_simp; try with_reducible rfl)
    simp only [Act.put, List.setIfInBounds_toArray, List.set_cons_zero, List.set_cons_succ]
    refine anyE_take (i := 9) (oi := { dst := some 37, op := Op.move (Operand.tmp 1), type := 3, pos := "dag.go:46", after := #[], guard := none }) (v := ?_) rfl (by kernel_rfl)  (by kernel_rfl) (by kernel_rfl) (by kernel_rfl) (fun _ _ _ h => h) (Or.inl ⟨by rfl, ?_⟩) (K1.out) ?_
    rotate_left
    · (intro w hSw; (try dsimp only at hSw); go_simp; try with_reducible rfl)
    simp only [Act.put, List.setIfInBounds_toArray, List.set_cons_zero, List.set_cons_succ]
    refine anyE_take (i := 10) (oi := { dst := some 38, op := Op.lookup 47 (Operand.tmp 36) (Operand.tmp 37) false, type := 24, pos := "dag.go:46", after := #[{ on := 8, ground := Ground.data }, { on := 9, ground := Ground.data }], guard := none }) (v := ?_) rfl (by kernel_rfl)  (by kernel_rfl) (by kernel_rfl) (by kernel_rfl) (fun _ _ _ h => h) (Or.inl ⟨by rfl, ?_⟩) (K1.out) ?_
    rotate_left
    · (intro w hSw; (try dsimp only at hSw); go_simp; try with_reducible rfl)
    simp only [Act.put, List.setIfInBounds_toArray, List.set_cons_zero, List.set_cons_succ]
    refine anyE_take (i := 11) (oi := { dst := some 39, op := Op.move (Operand.tmp 2), type := 3, pos := "dag.go:46", after := #[], guard := none }) (v := ?_) rfl (by kernel_rfl)  (by kernel_rfl) (by kernel_rfl) (by kernel_rfl) (fun _ _ _ h => h) (Or.inl ⟨by rfl, ?_⟩) (K1.out) ?_
    rotate_left
    · (intro w hSw; (try dsimp only at hSw); go_simp; try with_reducible rfl)
    simp only [Act.put, List.setIfInBounds_toArray, List.set_cons_zero, List.set_cons_succ]
    refine anyE_ready (rs := [12]) (by kernel_rfl) (by simp) ?_
    refine AllE.cons (o := { dst := some 40, op := Op.buildSlice 24 1 #[(0, Operand.tmp 39)], type := 24, pos := "dag.go:46", after := #[{ on := 11, ground := Ground.data }], guard := none }) rfl (fun Kt hKt => ?_) ?_
    · go_simp
      try go_wp2_with fail
      refine hKt.out _ _ (fun _ => K2.out) ?_
      clear hKt Kt
      try simp only [Act.put, List.setIfInBounds_toArray, List.set_cons_zero, List.set_cons_succ]
      refine anyE_ready (rs := [13]) (by kernel_rfl) (by simp) ?_
      refine AllE.cons (o := { dst := some 41, op := Op.call { callee := Callee.builtin Builtin.append, args := #[Operand.tmp 38, Operand.tmp 40], argTypes := #[24, 24] }, type := 24, pos := "dag.go:46", after := #[{ on := 10, ground := Ground.data }, { on := 12, ground := Ground.data }], guard := none }) rfl (fun Kt hKt => ?_) ?_
      · refine step_app _ (by rfl) _ _ 24 24 (by rfl) V1 (.slice (some ⟨w1.drew.heap.size, 0, none⟩) 1 1) (by rfl) (by rfl) v2 w2 R2.out ?_
        refine hKt.out _ _ (fun _ => K3.out) ?_
        clear hKt Kt
        try simp only [Act.put, List.setIfInBounds_toArray, List.set_cons_zero, List.set_cons_succ]
        refine anyE_ready (rs := [14]) (by kernel_rfl) (by simp) ?_
        refine AllE.cons (o := { dst := none, op := Op.mapUpdate 47 (Operand.tmp 31) (Operand.tmp 32) (Operand.tmp 41), type := 0, pos := "dag.go:46", after := #[{ on := 3, ground := Ground.data }, { on := 4, ground := Ground.data }, { on := 13, ground := Ground.data }, { on := 13, ground := Ground.chain }, { on := 0, ground := Ground.phase }, { on := 1, ground := Ground.phase }, { on := 2, ground := Ground.phase }, { on := 3, ground := Ground.phase }, { on := 4, ground := Ground.phase }, { on := 5, ground := Ground.phase }, { on := 6, ground := Ground.phase }, { on := 7, ground := Ground.phase }, { on := 8, ground := Ground.phase }, { on := 9, ground := Ground.phase }, { on := 10, ground := Ground.phase }, { on := 11, ground := Ground.phase }, { on := 12, ground := Ground.phase }, { on := 13, ground := Ground.phase }], guard := none }) rfl (fun Kt hKt => ?_) ?_
        · go_simp
          refine hKt.out _ _ (fun h => absurd rfl h) ?_
          clear hKt Kt
          try simp only [Act.put, List.setIfInBounds_toArray, List.set_cons_zero, List.set_cons_succ]
          refine anyE_done (by kernel_rfl) ?_ _
          go_wp2_with fail
          refine anyE_start (S := (fun v0 => v0.cell? ⟨B, 2, none⟩ = some (.map (some (M false))) ∧ (Instr.lookup 47 (.map (some (M false))) (.int .i64 i) false).run Try.prog v0 = .ok V4 v0)) (L := 14) (by kernel_rfl) ?_
          refine anyE_take (i := 0) (oi := { dst := some 42, op := Op.move (Operand.tmp 0), type := 22, pos := "dag.go:47", after := #[], guard := none }) (v := ?_) rfl (by kernel_rfl)  (by kernel_rfl) (by kernel_rfl) (by kernel_rfl) (fun _ _ _ h => h) (Or.inl ⟨by rfl, ?_⟩) (K4.out) ?_
          rotate_left
          · (intro w hSw; (try dsimp only at hSw); go_simp; try with_reducible rfl)
          simp only [Act.put, List.setIfInBounds_toArray, List.set_cons_zero, List.set_cons_succ]
          refine anyE_take (i := 1) (oi := { dst := some 43, op := Op.nilCheck (Operand.tmp 42), type := 0, pos := "dag.go:47", after := #[{ on := 0, ground := Ground.data }], guard := none }) (v := ?_) rfl (by kernel_rfl)  (by kernel_rfl) (by kernel_rfl) (by kernel_rfl) (fun _ _ _ h => h) (Or.inl ⟨by rfl, ?_⟩) (K4.out) ?_
          rotate_left
          · (intro w hSw; (try dsimp only at hSw); go_simp; try with_reducible rfl)
          simp only [Act.put, List.setIfInBounds_toArray, List.set_cons_zero, List.set_cons_succ]
          refine anyE_take (i := 2) (oi := { dst := some 44, op := Op.fieldAddr 49 (Operand.tmp 43) 2, type := 0, pos := "dag.go:47", after := #[{ on := 1, ground := Ground.data }], guard := none }) (v := ?_) rfl (by kernel_rfl)  (by kernel_rfl) (by kernel_rfl) (by kernel_rfl) (fun _ _ _ h => h) (Or.inl ⟨by rfl, ?_⟩) (K4.out) ?_
          rotate_left
          · (intro w hSw; (try dsimp only at hSw); go_simp; try with_reducible rfl)
          simp only [Act.put, List.setIfInBounds_toArray, List.set_cons_zero, List.set_cons_succ]
          refine anyE_take (i := 3) (oi := { dst := some 45, op := Op.load 47 (Operand.tmp 44), type := 47, pos := "dag.go:47", after := #[{ on := 2, ground := Ground.data }], guard := none }) (v := ?_) rfl (by kernel_rfl)  (by kernel_rfl) (by kernel_rfl) (by kernel_rfl) (fun _ _ _ h => h) (Or.inl ⟨by rfl, ?_⟩) (K4.out) ?_
          rotate_left
          · (intro w hSw; (try dsimp only at hSw); go_simp; try with_reducible rfl)
          simp only [Act.put, List.setIfInBounds_toArray, List.set_cons_zero, List.set_cons_succ]
          refine anyE_take (i := 4) (oi := { dst := some 46, op := Op.move (Operand.tmp 2), type := 3, pos := "dag.go:47", after := #[], guard := none }) (v := ?_) rfl (by kernel_rfl)  (by kernel_rfl) (by kernel_rfl) (by kernel_rfl) (fun _ _ _ h => h) (Or.inl ⟨by rfl, ?_⟩) (K4.out) ?_
          rotate_left
          · (intro w hSw; (try dsimp only at hSw); go_simp; try with_reducible rfl)
          simp only [Act.put, List.setIfInBounds_toArray, List.set_cons_zero, List.set_cons_succ]
          refine anyE_take (i := 5) (oi := { dst := some 47, op := Op.move (Operand.tmp 0), type := 22, pos := "dag.go:47", after := #[], guard := none }) (v := ?_) rfl (by kernel_rfl)  (by kernel_rfl) (by kernel_rfl) (by kernel_rfl) (fun _ _ _ h => h) (Or.inl ⟨by rfl, ?_⟩) (K4.out) ?_
          rotate_left
          · (intro w hSw; (try dsimp only at hSw); go_simp; try with_reducible rfl)
          simp only [Act.put, List.setIfInBounds_toArray, List.set_cons_zero, List.set_cons_succ]
          refine anyE_take (i := 6) (oi := { dst := some 48, op := Op.nilCheck (Operand.tmp 47), type := 0, pos := "dag.go:47", after := #[{ on := 5, ground := Ground.data }], guard := none }) (v := ?_) rfl (by kernel_rfl)  (by kernel_rfl) (by kernel_rfl) (by kernel_rfl) (fun _ _ _ h => h) (Or.inl ⟨by rfl, ?_⟩) (K4.out) ?_
          rotate_left
          · (intro w hSw; (try dsimp only at hSw); go_simp; try with_reducible rfl)
          simp only [Act.put, List.setIfInBounds_toArray, List.set_cons_zero, List.set_cons_succ]
          refine anyE_take (i := 7) (oi := { dst := some 49, op := Op.fieldAddr 49 (Operand.tmp 48) 2, type := 0, pos := "dag.go:47", after := #[{ on := 6, ground := Ground.data }], guard := none }) (v := ?_) rfl (by kernel_rfl)  (by kernel_rfl) (by kernel_rfl) (by kernel_rfl) (fun _ _ _ h => h) (Or.inl ⟨by rfl, ?_⟩) (K4.out) ?_
          rotate_left
          · (intro w hSw; (try dsimp only at hSw); go_simp; try with_reducible rfl)
          simp only [Act.put, List.setIfInBounds_toArray, List.set_cons_zero, List.set_cons_succ]
          refine anyE_take (i := 8) (oi := { dst := some 50, op := Op.load 47 (Operand.tmp 49), type := 47, pos := "dag.go:47", after := #[{ on := 7, ground := Ground.data }], guard := none }) (v := ?_) rfl (by kernel_rfl)  (by kernel_rfl) (by kernel_rfl) (by kernel_rfl) (fun _ _ _ h => h) (Or.inl ⟨by rfl, ?_⟩) (K4.out) ?_
          rotate_left
          · (intro w hSw; (try dsimp only at hSw); go_simp; try with_reducible rfl)
          simp only [Act.put, List.setIfInBounds_toArray, List.set_cons_zero, List.set_cons_succ]
          refine anyE_take (i := 9) (oi := { dst := some 51, op := Op.move (Operand.tmp 2), type := 3, pos := "dag.go:47", after := #[], guard := none }) (v := ?_) rfl (by kernel_rfl)  (by kernel_rfl) (by kernel_rfl) (by kernel_rfl) (fun _ _ _ h => h) (Or.inl ⟨by rfl, ?_⟩) (K4.out) ?_
          rotate_left
          · (intro w hSw; (try dsimp only at hSw); go_simp; try with_reducible rfl)
          simp only [Act.put, List.setIfInBounds_toArray, List.set_cons_zero, List.set_cons_succ]
          refine anyE_take (i := 10) (oi := { dst := some 52, op := Op.lookup 47 (Operand.tmp 50) (Operand.tmp 51) false, type := 24, pos := "dag.go:47", after := #[{ on := 8, ground := Ground.data }, { on := 9, ground := Ground.data }], guard := none }) (v := ?_) rfl (by kernel_rfl)  (by kernel_rfl) (by kernel_rfl) (by kernel_rfl) (fun _ _ _ h => h) (Or.inl ⟨by rfl, ?_⟩) (K4.out) ?_
          rotate_left
          · (intro w hSw; (try dsimp only at hSw); go_simp; try with_reducible rfl)
          simp only [Act.put, List.setIfInBounds_toArray, List.set_cons_zero, List.set_cons_succ]
          refine anyE_take (i := 11) (oi := { dst := some 53, op := Op.move (Operand.tmp 1), type := 3, pos := "dag.go:47", after := #[], guard := none }) (v := ?_) rfl (by kernel_rfl)  (by kernel_rfl) (by kernel_rfl) (by kernel_rfl) (fun _ _ _ h => h) (Or.inl ⟨by rfl, ?_⟩) (K4.out) ?_
          rotate_left
          · (intro w hSw; (try dsimp only at hSw); go_simp; try with_reducible rfl)
          simp only [Act.put, List.setIfInBounds_toArray, List.set_cons_zero, List.set_cons_succ]
          refine anyE_ready (rs := [12]) (by kernel_rfl) (by simp) ?_
          refine AllE.cons (o := { dst := some 54, op := Op.buildSlice 24 1 #[(0, Operand.tmp 53)], type := 24, pos := "dag.go:47", after := #[{ on := 11, ground := Ground.data }], guard := none }) rfl (fun Kt hKt => ?_) ?_
          · go_simp
            try go_wp2_with fail
            refine hKt.out _ _ (fun _ => K5.out) ?_
            clear hKt Kt
            try simp only [Act.put, List.setIfInBounds_toArray, List.set_cons_zero, List.set_cons_succ]
            refine anyE_ready (rs := [13]) (by kernel_rfl) (by simp) ?_
            refine AllE.cons (o := { dst := some 55, op := Op.call { callee := Callee.builtin Builtin.append, args := #[Operand.tmp 52, Operand.tmp 54], argTypes := #[24, 24] }, type := 24, pos := "dag.go:47", after := #[{ on := 10, ground := Ground.data }, { on := 12, ground := Ground.data }], guard := none }) rfl (fun Kt hKt => ?_) ?_
            · refine step_app _ (by rfl) _ _ 24 24 (by rfl) V4 (.slice (some ⟨w3.drew.heap.size, 0, none⟩) 1 1) (by rfl) (by rfl) v5 w5 R5.out ?_
              refine hKt.out _ _ (fun _ => K6.out) ?_
              clear hKt Kt
              try simp only [Act.put, List.setIfInBounds_toArray, List.set_cons_zero, List.set_cons_succ]
              refine anyE_ready (rs := [14]) (by kernel_rfl) (by simp) ?_
              refine AllE.cons (o := { dst := none, op := Op.mapUpdate 47 (Operand.tmp 45) (Operand.tmp 46) (Operand.tmp 55), type := 0, pos := "dag.go:47", after := #[{ on := 3, ground := Ground.data }, { on := 4, ground := Ground.data }, { on := 13, ground := Ground.data }, { on := 13, ground := Ground.chain }, { on := 0, ground := Ground.phase }, { on := 1, ground := Ground.phase }, { on := 2, ground := Ground.phase }, { on := 3, ground := Ground.phase }, { on := 4, ground := Ground.phase }, { on := 5, ground := Ground.phase }, { on := 6, ground := Ground.phase }, { on := 7, ground := Ground.phase }, { on := 8, ground := Ground.phase }, { on := 9, ground := Ground.phase }, { on := 10, ground := Ground.phase }, { on := 11, ground := Ground.phase }, { on := 12, ground := Ground.phase }, { on := 13, ground := Ground.phase }], guard := none }) rfl (fun Kt hKt => ?_) ?_
              · go_simp
                refine hKt.out _ _ (fun h => absurd rfl h) ?_
                clear hKt Kt
                try simp only [Act.put, List.setIfInBounds_toArray, List.set_cons_zero, List.set_cons_succ]
                refine anyE_done (by kernel_rfl) ?_ _
                go_wp2
                go_end0
                exact ⟨rfl, FIN.out⟩
              exact AllE.nil
            exact AllE.nil
          exact AllE.nil
        exact AllE.nil
      exact AllE.nil
    exact AllE.nil
  exact AllE.nil
end Go.Proofs.Ythpdnlokjhafeaa
