import Derived.Test.YtdcacbjmbfppeaaGreatJE
import Derived.Deep.RegionHeld3
/- entry.Put. -/
namespace Go.Proofs.YtdcacbjmbfppeaaGreat
open Go.RowKit Go.Lib Go.Sort
set_option linter.unusedVariables false

theorem IsLL.of_block {W : World} {g : Nat} {cs : Array Value} {T : TypeId} {fr : Nat × Nat} {ls : List (List Ent)} (h : W.heap[g]? = some (.cells cs T fr)) (hl : ls.length ≤ 9223372036854775807)
    (he : ∀ (i : Nat) (d : List Ent), ls[i]? = some d → ∃ p k, cs[i]? = some (Value.slice p d.length k) ∧ IsL W p k d) : IsLL W (some ⟨g, 0, none⟩) ls :=
  ⟨hl, fun i d hd => by
    obtain ⟨p, k, h1, h2⟩ := he i d hd
    exact ⟨g, 0, p, k, rfl, lt_of_block h, by rw [Nat.zero_add, cell_of_row _ _ _ cs T fr h]; exact h1, h2⟩⟩
/-- The three parts that Put joins. -/
theorem put_lists {w2 : World} {a p1 : Option Addr} {cap k : Nat} {d : List Ent} (e : Ent) (L : IsL w2 a cap d) (hk : k ≤ d.length) (hp : (if cap = k then a else a.map (·.add (k * 2))) = p1) :
    IsLL ((w2.alloc (.cells #[.int .u64 e.1, .int .i64 e.2] 34)).alloc (.cells #[.slice a k cap, .slice (some ⟨w2.heap.size, 0, none⟩) 1 1, .slice p1 (d.length - k) (cap - k)] 45)).drew (some ⟨w2.heap.size + 1, 0, none⟩) [d.take k, [e], d.drop k] ∧
    Below w2.heap.size w2 ((w2.alloc (.cells #[.int .u64 e.1, .int .i64 e.2] 34)).alloc (.cells #[.slice a k cap, .slice (some ⟨w2.heap.size, 0, none⟩) 1 1, .slice p1 (d.length - k) (cap - k)] 45)).drew := by
  have b1 : Below w2.heap.size w2 (w2.alloc (.cells #[.int .u64 e.1, .int .i64 e.2] 34)) := (Below.refl _ _).alloc (Nat.le_refl _) _
  have b2 : Below w2.heap.size w2 ((w2.alloc (.cells #[.int .u64 e.1, .int .i64 e.2] 34)).alloc (.cells #[.slice a k cap, .slice (some ⟨w2.heap.size, 0, none⟩) 1 1, .slice p1 (d.length - k) (cap - k)] 45)).drew := (b1.alloc (by simp) _).drew
  refine ⟨IsLL.of_block (cs := #[.slice a k cap, .slice (some ⟨w2.heap.size, 0, none⟩) 1 1, .slice p1 (d.length - k) (cap - k)]) (T := 45) (fr := (0, 0)) ?_ (by simp) (fun i x hx => ?_), b2⟩
  · have := heap_alloc_new (w2.alloc (.cells #[.int .u64 e.1, .int .i64 e.2] 34)) (.cells #[.slice a k cap, .slice (some ⟨w2.heap.size, 0, none⟩) 1 1, .slice p1 (d.length - k) (cap - k)] 45)
    rw [show (w2.alloc (.cells #[.int .u64 e.1, .int .i64 e.2] 34)).heap.size = w2.heap.size + 1 by simp] at this
    exact this
  · have hi : i < 3 := by simpa using (List.getElem?_eq_some_iff.1 hx).1
    have : i = 0 ∨ i = 1 ∨ i = 2 := by omega
    rcases this with rfl | rfl | rfl
    · simp at hx
      subst hx
      exact ⟨a, cap, by simp [List.length_take, Nat.min_eq_left hk], (L.take k).below b2⟩
    · simp at hx
      subst hx
      exact ⟨some ⟨w2.heap.size, 0, none⟩, 1, rfl, (IsL.one w2 e).below (((Below.refl _ _).alloc (by simp) _).drew)⟩
    · simp at hx
      subst hx
      have := (L.drop k hk).below b2
      rw [hp] at this
      exact ⟨p1, cap - k, by simp [List.length_drop], this⟩

end Go.Proofs.YtdcacbjmbfppeaaGreat

/- The document's Put. -/
namespace Go.Proofs.YtdcacbjmbfppeaaGreat
open Go.RowKit Go.Lib Go.Sort
set_option linter.unusedVariables false

/-- An append whose run is known, at a step of a region that draws its order. -/
theorem step_app {ops : Array Oper} {o : Oper} {a : Act} {K : Act → World → Prop} {Q : Exit → Act → World → Prop} {E : Prop} (w : World) (hgd : o.guard = none) (s x : Operand) (t tn : TypeId)
    (ho : o.op = .call { callee := .builtin .append, args := #[s, x], argTypes := #[t, tn] }) (vs vx : Value) (hs : a.eval s = vs) (hx : a.eval x = vx)
    (v' : Value) (w' : World) (hr : (Builtin.append_ #[t, tn] o.type #[vs, vx]).run Tryz.prog w = .ok v' w') (h : K (a.put o.dst v') w') :
    if Region.wanted o (yielded ops a.tmps) = true then Oper.wp Tryz.prog o a w K Q else E := by
  have hw : Region.wanted o (yielded ops a.tmps) = true := by simp [Region.wanted, hgd]
  rw [if_pos hw]
  exact Lib.wp_append_run w s x t tn ho vs vx hs hx v' w' hr h

/-- The run of 'append(x, y...)' at entries. -/
def AppRun (w : World) (v u : Value) (v' : Value) (w' : World) : Prop := (Builtin.append_ #[45, 45] 45 #[v, u]).run Tryz.prog w = .ok v' w'

theorem IsL.keeps {w X : World} {a : Option Addr} {cap : Nat} {d : List Ent} (h : IsL w a cap d) (hX : Below w.heap.size w X) : IsL X a cap d := h.below hX
/-- A block of the call's own that another append does not touch. -/
theorem isL_far {X Y : World} {g : Nat} {e : Ent} {row : Option Nat} (h : IsL X (some ⟨g, 0, none⟩) 1 [e]) (hg : X.grownBy Y row) (hne : some g ≠ row) : IsL Y (some ⟨g, 0, none⟩) 1 [e] :=
  ⟨h.le, h.big, fun i x hx => by
    obtain ⟨b, off, e1, hb, h1, h2⟩ := h.elem i x hx
    cases e1
    exact ⟨g, 0, rfl, by have := hg.size; omega, (World.cell?_of_block (w := X) (hg.block g hb hne)).trans h1, (World.cell?_of_block (w := X) (hg.block g hb hne)).trans h2⟩⟩

/-- The three appends of Put, the new entry's block laid ahead of the first. -/
theorem put_bc {w2 X : World} {a p1 : Option Addr} {cap k gA gB : Nat} {d : List Ent} {e : Ent} (hX : Below w2.heap.size w2 X) (hz : w2.heap.size ≤ X.heap.size) (oA : OwnE X w2.heap.size (.slice (some ⟨gA, 0, none⟩) 0 0) []) (LB : IsL X (some ⟨gB, 0, none⟩) 1 [e]) (hne : gB ≠ gA)
    (L : IsL w2 a cap d) (hk : k ≤ d.length) (hd : d.length ≤ 100000) (hp : (if cap = k then a else a.map (·.add (k * 2))) = p1) :
    ∃ r1 t1 u1 r2 n2 t2 u2 r3 n3 t3 u3, AppRun X (.slice (some ⟨gA, 0, none⟩) 0 0) (.slice a k cap) (.slice r1 k t1) u1 ∧ AppRun u1 (.slice r1 k t1) (.slice (some ⟨gB, 0, none⟩) 1 1) (.slice r2 n2 t2) u2 ∧ AppRun u2 (.slice r2 n2 t2) (.slice p1 (d.length - k) (cap - k)) (.slice r3 n3 t3) u3 ∧
      n3 = (d.take k ++ e :: d.drop k).length ∧ OwnE u3 w2.heap.size (.slice r3 n3 t3) (d.take k ++ e :: d.drop k) ∧ Below w2.heap.size w2 u3 ∧ Below w2.heap.size w2 u1 ∧ Below w2.heap.size w2 u2 := by
  have l1 : (d.take k).length = k := by simp; omega
  have l2 : (d.drop k).length = d.length - k := by simp
  obtain ⟨v1, u1, h1, o1, g1⟩ := app_run (d := []) (c := d.take k) oA ((L.below hX).take k) (by simp; omega) hz 45
  obtain ⟨r1, t1, rfl, _⟩ := o1.isL
  have b1 : Below w2.heap.size w2 u1 := OwnE.grown oA hX g1 hz
  have LB1 := isL_far LB g1 (by simp [Value.ownBlock]; exact hne)
  obtain ⟨v2, u2, h2, o2, g2⟩ := app_run (c := [e]) o1 LB1 (by simp; omega) b1.size 45
  obtain ⟨r2, t2, rfl, _⟩ := o2.isL
  have b2 : Below w2.heap.size w2 u2 := OwnE.grown o1 b1 g2 b1.size
  have L2 := (L.below b2).drop k hk
  rw [hp] at L2
  obtain ⟨v3, u3, h3, o3, g3⟩ := app_run (c := d.drop k) o2 L2 (by simp; omega) b2.size 45
  obtain ⟨r3, t3, rfl, _⟩ := o3.isL
  have b3 : Below w2.heap.size w2 u3 := OwnE.grown o2 b2 g3 b2.size
  have e3 : [] ++ d.take k ++ [e] ++ d.drop k = d.take k ++ e :: d.drop k := by simp
  rw [e3] at h3 o3
  rw [List.nil_append, l1] at h1 h2
  rw [l2] at h3
  exact ⟨r1, t1, u1, r2, _, t2, u2, r3, _, t3, u3, h1, h2, h3, rfl, o3, b3, b1, b2⟩

/-- .. and behind it. -/
theorem put_a {w2 X : World} {a p1 : Option Addr} {cap k gA : Nat} {d : List Ent} {e : Ent} (hX : Below w2.heap.size w2 X) (hz : w2.heap.size ≤ X.heap.size) (oA : OwnE X w2.heap.size (.slice (some ⟨gA, 0, none⟩) 0 0) [])
    (L : IsL w2 a cap d) (hk : k ≤ d.length) (hd : d.length ≤ 100000) (hp : (if cap = k then a else a.map (·.add (k * 2))) = p1) :
    ∃ r1 t1 u1 r2 n2 t2 u2 r3 n3 t3 u3, AppRun X (.slice (some ⟨gA, 0, none⟩) 0 0) (.slice a k cap) (.slice r1 k t1) u1 ∧ AppRun (u1.alloc (.cells #[.int .u64 e.1, .int .i64 e.2] 34)) (.slice r1 k t1) (.slice (some ⟨u1.heap.size, 0, none⟩) 1 1) (.slice r2 n2 t2) u2 ∧ AppRun u2 (.slice r2 n2 t2) (.slice p1 (d.length - k) (cap - k)) (.slice r3 n3 t3) u3 ∧
      n3 = (d.take k ++ e :: d.drop k).length ∧ OwnE u3 w2.heap.size (.slice r3 n3 t3) (d.take k ++ e :: d.drop k) ∧ Below w2.heap.size w2 u3 ∧ Below w2.heap.size w2 u1 ∧ Below w2.heap.size w2 u2 := by
  have l1 : (d.take k).length = k := by simp; omega
  have l2 : (d.drop k).length = d.length - k := by simp
  obtain ⟨v1, u1, h1, o1, g1⟩ := app_run (d := []) (c := d.take k) oA ((L.below hX).take k) (by simp; omega) hz 45
  obtain ⟨r1, t1, rfl, _⟩ := o1.isL
  have b1 : Below w2.heap.size w2 u1 := OwnE.grown oA hX g1 hz
  have c1 : Below u1.heap.size u1 (u1.alloc (.cells #[.int .u64 e.1, .int .i64 e.2] 34)) := (Below.refl _ _).alloc (Nat.le_refl _) _
  have b1' : Below w2.heap.size w2 (u1.alloc (.cells #[.int .u64 e.1, .int .i64 e.2] 34)) := b1.trans (c1.mono b1.size)
  have o1' := OwnE.below o1 c1
  obtain ⟨v2, u2, h2, o2, g2⟩ := app_run (c := [e]) o1' (IsL.one u1 e) (by simp; omega) b1'.size 45
  obtain ⟨r2, t2, rfl, _⟩ := o2.isL
  have b2 : Below w2.heap.size w2 u2 := OwnE.grown o1' b1' g2 b1'.size
  have L2 := (L.below b2).drop k hk
  rw [hp] at L2
  obtain ⟨v3, u3, h3, o3, g3⟩ := app_run (c := d.drop k) o2 L2 (by simp; omega) b2.size 45
  obtain ⟨r3, t3, rfl, _⟩ := o3.isL
  have b3 : Below w2.heap.size w2 u3 := OwnE.grown o2 b2 g3 b2.size
  have e3 : [] ++ d.take k ++ [e] ++ d.drop k = d.take k ++ e :: d.drop k := by simp
  rw [e3] at h3 o3
  rw [List.nil_append, l1] at h1 h2
  rw [l2] at h3
  exact ⟨r1, t1, u1, r2, _, t2, u2, r3, _, t3, u3, h1, h2, h3, rfl, o3, b3, b1, b2⟩




set_option maxHeartbeats 4000000 in
set_option maxRecDepth 100000 in
theorem refPut_made (a : Option Addr) (cap : Nat) (d : List Ent) (e : Ent) (w : World) (h : IsL w a cap d) (hd : d.length ≤ 100000) :
    Calls Tryz.prog 38 #[.slice a d.length cap, .agg #[.int .u64 e.1, .int .i64 e.2]] w (Made w (insL d e)) := by
  have hl := h.len
  have hcap := h.le
  have hbig := h.big
  unfold maxLen at hbig
  have H : Aside (IsL w a cap d) := h
  have mx := mixed
  obtain ⟨S, hS⟩ : ∃ S, w.heap.size = S := ⟨_, rfl⟩
  have HS : Hid _ := hS
  clear h
  go_enter Tryz.func38, Tryz.ntmps38
  go_wp2
  clear hS
  go_loopg [5] d.length (fun kx s5 wr => ∃ k : Nat, s5 = .int .i64 k ∧ k ≤ d.length ∧ d.length - k ≤ kx ∧ Aside (Grown (w.alloc (.cells #[.int .u64 e.1, .int .i64 e.2] 34)) wr) ∧ Aside (∀ i (hi : i < d.length), i < k → ltE e d[i] = false))
  case atStart => exact ⟨0, rfl, by omega, by omega, Grown.refl _, (fun i hi h => absurd h (by omega) : ∀ i (hi : i < d.length), i < 0 → ltE e d[i] = false)⟩
  case round =>
    obtain ⟨k, rfl, hk, hkx, G, A⟩ := hrel
    have G0 : Grown w wr := ((Grown.refl w).alloc _).trans G.out
    have c3 := fun n os => (box_at w e 34 G.out n os).1
    have c4 := fun n os => (box_at w e 34 G.out n os).2
    simp only [HS.out] at c3 c4
    by_cases hlt : k < d.length
    · have t1 : decide ((k : Int) < (d.length : Int)) = true := decide_eq_true (by omega)
      have t2 : (k : Int) < (d.length : Int) := by omega
      have t3 : decide (k < d.length) = true := decide_eq_true hlt
      obtain ⟨b, off, ha, hc⟩ := H.out.at hlt
      subst ha
      have c1 := fun n os => (hc wr G0 n os).1
      have c2 := fun n os => (hc wr G0 n os).2
      clear hc G0
      obtain ⟨x, hx⟩ : ∃ x, d[k] = x := ⟨_, rfl⟩
      rw [hx] at c1 c2
      have HX : Hid _ := hx
      clear hx
      have lg := refLess_grown e x wr
      cases hL : ltE e x with
      | false =>
        simp only [hL] at lg
        go_wp2_with fail
        go_quiet_grown (first | (go_at_call 40; exact lg _ _))
        have G2 : Aside (Grown (w.alloc (.cells #[.int .u64 e.1, .int .i64 e.2] 34)) (grow (wr.drewN nq) osq)) := G.out.trans ⟨nq, osq, rfl⟩
        clear c1 c2 c3 c4 G lg
        generalize grow (wr.drewN nq) osq = w2 at G2 ⊢
        go_wp2
        go_roundg (d.length - (k + 1))
        case measure => omega
        case rel =>
          refine ⟨k + 1, by go_num, by omega, Nat.le_refl _, G2, (fun i hi hik => ?_ : ∀ i (hi : i < d.length), i < k + 1 → ltE e d[i] = false)⟩
          by_cases z : i = k
          · subst z; rw [HX.out]; exact hL
          · exact A.out i hi (by omega)
      | true =>
        simp only [hL] at lg
        have E : Hid (d.take k ++ e :: d.drop k = insL d e) := insL_eq d e k hk (fun i hi h => A.out i h hi) (fun h => by rw [HX.out]; exact hL)
        go_wp2_with fail
        go_quiet_grown (first | (go_at_call 40; exact lg _ _))
        have G2 : Aside (Grown (w.alloc (.cells #[.int .u64 e.1, .int .i64 e.2] 34)) (grow (wr.drewN nq) osq)) := G.out.trans ⟨nq, osq, rfl⟩
        clear c1 c2 c3 c4 G lg t1 t2 t3
        generalize grow (wr.drewN nq) osq = w2 at G2 ⊢
        clear hL A
        obtain ⟨a, ha⟩ : ∃ a, some (⟨b, off, none⟩ : Addr) = a := ⟨_, rfl⟩
        rw [ha] at H ⊢
        clear ha
        have g2 : Grown w w2 := ((Grown.refl w).alloc _).trans G2.out
        have bx := box_at w e 34 G2.out 0 #[]
        rw [grow_empty] at bx
        obtain ⟨e3, e4⟩ := bx
        simp only [HS.out, show w2.drewN 0 = w2 from rfl] at e3 e4
        have hS2 : S < w2.heap.size := by have := G2.out.below.size; simp [HS.out] at this; omega
        have k1 : (k : Int) ≤ (cap : Int) := by omega
        have k2 : (k : Int) ≤ (d.length : Int) := by omega
        have k3 : (0 : Int) ≤ (k : Int) := by omega
        obtain ⟨p1, hp1⟩ : ∃ p1, (if cap = k then a else a.map (·.add (k * 2))) = p1 := ⟨_, rfl⟩
        have L := H.out.below g2.below
        obtain ⟨ra1, ta1, wa1, ra2, na2, ta2, wa2, ra3, na3, ta3, wa3, ha1, ha2, ha3, ea, oa, ba, ba1, ba2⟩ := put_a (w2 := w2) (X := (w2.alloc (.cells #[] 34)).drew) (gA := w2.heap.size) (e := e) (((Below.refl _ _).alloc (Nat.le_refl _) _).drew) (by simp) (OwnE.made w2 #[] 0 (Nat.le_refl _) (by omega) rfl) L hk hd hp1
        obtain ⟨rb1, tb1, wb1, rb2, nb2, tb2, wb2, rb3, nb3, tb3, wb3, hb1, hb2, hb3, eb, ob, bb, bb1, bb2⟩ := put_bc (w2 := w2) (X := ((w2.alloc (.cells #[] 34)).alloc (.cells #[.int .u64 e.1, .int .i64 e.2] 34)).drew) (gA := w2.heap.size) (gB := w2.heap.size + 1) (e := e) ((((Below.refl _ _).alloc (Nat.le_refl _) _).alloc (by simp) _).drew) (by simp; omega) (OwnE.below (OwnE.made w2 #[] 0 (Nat.le_refl _) (by omega) rfl) (((Below.refl _ _).alloc (Nat.le_refl _) _).drew)) (by have := IsL.one (w2.alloc (.cells #[] 34)) e; rw [show (w2.alloc (.cells #[] 34)).heap.size = w2.heap.size + 1 by simp] at this; exact this.below ((Below.refl _ _).drew)) (by omega) L hk hd hp1
        obtain ⟨rc1, tc1, wc1, rc2, nc2, tc2, wc2, rc3, nc3, tc3, wc3, hc1, hc2, hc3, ec, oc, bc, bc1, bc2⟩ := put_bc (w2 := w2) (X := ((w2.alloc (.cells #[.int .u64 e.1, .int .i64 e.2] 34)).alloc (.cells #[] 34)).drew) (gA := w2.heap.size + 1) (gB := w2.heap.size) (e := e) ((((Below.refl _ _).alloc (Nat.le_refl _) _).alloc (by simp) _).drew) (by simp; omega) (by have := OwnE.made (base := w2.heap.size) (w2.alloc (.cells #[.int .u64 e.1, .int .i64 e.2] 34)) #[] 0 (by simp) (by omega) rfl; rw [show (w2.alloc (.cells #[.int .u64 e.1, .int .i64 e.2] 34)).heap.size = w2.heap.size + 1 by simp] at this; exact this) ((IsL.one w2 e).below (((Below.refl _ _).alloc (Nat.le_refl _) _).drew)) (by omega) L hk hd hp1
        have KC : Aside (∀ v, Below w2.heap.size w2 v → v.cell? ⟨S, 0, none⟩ = some (.int .u64 e.1) ∧ v.cell? ⟨S, 1, none⟩ = some (.int .i64 e.2)) := fun v hv => ⟨(hv.cell (p := ⟨S, 0, none⟩) hS2).trans e3, (hv.cell (p := ⟨S, 1, none⟩) hS2).trans e4⟩
        have Fa : Aside (na3 = (insL d e).length ∧ OwnE wa3 w.heap.size (.slice ra3 (insL d e).length ta3) (insL d e) ∧ Below w.heap.size w wa3) := by
          refine ⟨by rw [ea, E.out], ?_, g2.below.trans (ba.mono g2.below.size)⟩
          have l := OwnE.low oa g2.below.size
          rw [ea, E.out] at l
          exact l
        have Fb : Aside (nb3 = (insL d e).length ∧ OwnE wb3 w.heap.size (.slice rb3 (insL d e).length tb3) (insL d e) ∧ Below w.heap.size w wb3) := by
          refine ⟨by rw [eb, E.out], ?_, g2.below.trans (bb.mono g2.below.size)⟩
          have l := OwnE.low ob g2.below.size
          rw [eb, E.out] at l
          exact l
        have Fc : Aside (nc3 = (insL d e).length ∧ OwnE wc3 w.heap.size (.slice rc3 (insL d e).length tc3) (insL d e) ∧ Below w.heap.size w wc3) := by
          refine ⟨by rw [ec, E.out], ?_, g2.below.trans (bc.mono g2.below.size)⟩
          have l := OwnE.low oc g2.below.size
          rw [ec, E.out] at l
          exact l
        clear L g2 G2 ea eb ec oa ob oc
        go_wp2_with fail
        go_region_held3 (fun w' => w'.cell? ⟨S, 0, none⟩ = some (.int .u64 e.1) ∧ w'.cell? ⟨S, 1, none⟩ = some (.int .i64 e.2)) (first | go_keep | exact KC.out _ ba1 | exact KC.out _ ba2 | exact KC.out _ ba | exact KC.out _ bb1 | exact KC.out _ bb2 | exact KC.out _ bb | exact KC.out _ bc1 | exact KC.out _ bc2 | exact KC.out _ bc)
          ((first
            | refine step_app ((w2.alloc (.cells #[] 34)).drew) (by rfl) _ _ 45 45 (by rfl) (.slice (some ⟨w2.heap.size, 0, none⟩) 0 0) (.slice a k cap) (by rfl) (by rfl) (.slice ra1 k ta1) wa1 ha1 ?_
            | refine step_app (wa1.alloc (.cells #[.int .u64 e.1, .int .i64 e.2] 34)) (by rfl) _ _ 45 45 (by rfl) (.slice ra1 k ta1) (.slice (some ⟨wa1.heap.size, 0, none⟩) 1 1) (by rfl) (by rfl) (.slice ra2 na2 ta2) wa2 ha2 ?_
            | refine step_app wa2 (by rfl) _ _ 45 45 (by rfl) (.slice ra2 na2 ta2) (.slice p1 (d.length - k) (cap - k)) (by rfl) (by rfl) (.slice ra3 na3 ta3) wa3 ha3 ?_
            | refine step_app (((w2.alloc (.cells #[] 34)).alloc (.cells #[.int .u64 e.1, .int .i64 e.2] 34)).drew) (by rfl) _ _ 45 45 (by rfl) (.slice (some ⟨w2.heap.size, 0, none⟩) 0 0) (.slice a k cap) (by rfl) (by rfl) (.slice rb1 k tb1) wb1 hb1 ?_
            | refine step_app wb1 (by rfl) _ _ 45 45 (by rfl) (.slice rb1 k tb1) (.slice (some ⟨w2.heap.size + 1, 0, none⟩) 1 1) (by rfl) (by rfl) (.slice rb2 nb2 tb2) wb2 hb2 ?_
            | refine step_app wb2 (by rfl) _ _ 45 45 (by rfl) (.slice rb2 nb2 tb2) (.slice p1 (d.length - k) (cap - k)) (by rfl) (by rfl) (.slice rb3 nb3 tb3) wb3 hb3 ?_
            | refine step_app (((w2.alloc (.cells #[.int .u64 e.1, .int .i64 e.2] 34)).alloc (.cells #[] 34)).drew) (by rfl) _ _ 45 45 (by rfl) (.slice (some ⟨w2.heap.size + 1, 0, none⟩) 0 0) (.slice a k cap) (by rfl) (by rfl) (.slice rc1 k tc1) wc1 hc1 ?_
            | refine step_app wc1 (by rfl) _ _ 45 45 (by rfl) (.slice rc1 k tc1) (.slice (some ⟨w2.heap.size, 0, none⟩) 1 1) (by rfl) (by rfl) (.slice rc2 nc2 tc2) wc2 hc2 ?_
            | refine step_app wc2 (by rfl) _ _ 45 45 (by rfl) (.slice rc2 nc2 tc2) (.slice p1 (d.length - k) (cap - k)) (by rfl) (by rfl) (.slice rc3 nc3 tc3) wc3 hc3 ?_))
        all_goals
          go_wp2
          go_ret
          first | exact ⟨ra3, ta3, by rw [← Fa.out.1]; rfl, Fa.out.2.1, Fa.out.2.2⟩ | exact ⟨rb3, tb3, by rw [← Fb.out.1]; rfl, Fb.out.2.1, Fb.out.2.2⟩ | exact ⟨rc3, tc3, by rw [← Fc.out.1]; rfl, Fc.out.2.1, Fc.out.2.2⟩
    · have t1 : decide ((k : Int) < (d.length : Int)) = false := decide_eq_false (by omega)
      have t2 : ¬ (k : Int) < (d.length : Int) := by omega
      have t3 : decide (k < d.length) = false := decide_eq_false hlt
      have E : Hid (d.take k ++ e :: d.drop k = insL d e) := insL_eq d e k hk (fun i hi h => A.out i h hi) (fun h => absurd h hlt)
      go_wp2_with fail
      go_quiet (fail)
      have G2 : Aside (Grown (w.alloc (.cells #[.int .u64 e.1, .int .i64 e.2] 34)) (wr.drewN nq)) := G.out.drewN nq
      clear c3 c4 G G0 t1 t2 t3 A
      generalize wr.drewN nq = w2 at G2 ⊢
      have g2 : Grown w w2 := ((Grown.refl w).alloc _).trans G2.out
      have bx := box_at w e 34 G2.out 0 #[]
      rw [grow_empty] at bx
      obtain ⟨e3, e4⟩ := bx
      simp only [HS.out, show w2.drewN 0 = w2 from rfl] at e3 e4
      have hS2 : S < w2.heap.size := by have := G2.out.below.size; simp [HS.out] at this; omega
      have k1 : (k : Int) ≤ (cap : Int) := by omega
      have k2 : (k : Int) ≤ (d.length : Int) := by omega
      have k3 : (0 : Int) ≤ (k : Int) := by omega
      obtain ⟨p1, hp1⟩ : ∃ p1, (if cap = k then a else a.map (·.add (k * 2))) = p1 := ⟨_, rfl⟩
      have L := H.out.below g2.below
      obtain ⟨ra1, ta1, wa1, ra2, na2, ta2, wa2, ra3, na3, ta3, wa3, ha1, ha2, ha3, ea, oa, ba, ba1, ba2⟩ := put_a (w2 := w2) (X := (w2.alloc (.cells #[] 34)).drew) (gA := w2.heap.size) (e := e) (((Below.refl _ _).alloc (Nat.le_refl _) _).drew) (by simp) (OwnE.made w2 #[] 0 (Nat.le_refl _) (by omega) rfl) L hk hd hp1
      obtain ⟨rb1, tb1, wb1, rb2, nb2, tb2, wb2, rb3, nb3, tb3, wb3, hb1, hb2, hb3, eb, ob, bb, bb1, bb2⟩ := put_bc (w2 := w2) (X := ((w2.alloc (.cells #[] 34)).alloc (.cells #[.int .u64 e.1, .int .i64 e.2] 34)).drew) (gA := w2.heap.size) (gB := w2.heap.size + 1) (e := e) ((((Below.refl _ _).alloc (Nat.le_refl _) _).alloc (by simp) _).drew) (by simp; omega) (OwnE.below (OwnE.made w2 #[] 0 (Nat.le_refl _) (by omega) rfl) (((Below.refl _ _).alloc (Nat.le_refl _) _).drew)) (by have := IsL.one (w2.alloc (.cells #[] 34)) e; rw [show (w2.alloc (.cells #[] 34)).heap.size = w2.heap.size + 1 by simp] at this; exact this.below ((Below.refl _ _).drew)) (by omega) L hk hd hp1
      obtain ⟨rc1, tc1, wc1, rc2, nc2, tc2, wc2, rc3, nc3, tc3, wc3, hc1, hc2, hc3, ec, oc, bc, bc1, bc2⟩ := put_bc (w2 := w2) (X := ((w2.alloc (.cells #[.int .u64 e.1, .int .i64 e.2] 34)).alloc (.cells #[] 34)).drew) (gA := w2.heap.size + 1) (gB := w2.heap.size) (e := e) ((((Below.refl _ _).alloc (Nat.le_refl _) _).alloc (by simp) _).drew) (by simp; omega) (by have := OwnE.made (base := w2.heap.size) (w2.alloc (.cells #[.int .u64 e.1, .int .i64 e.2] 34)) #[] 0 (by simp) (by omega) rfl; rw [show (w2.alloc (.cells #[.int .u64 e.1, .int .i64 e.2] 34)).heap.size = w2.heap.size + 1 by simp] at this; exact this) ((IsL.one w2 e).below (((Below.refl _ _).alloc (Nat.le_refl _) _).drew)) (by omega) L hk hd hp1
      have KC : Aside (∀ v, Below w2.heap.size w2 v → v.cell? ⟨S, 0, none⟩ = some (.int .u64 e.1) ∧ v.cell? ⟨S, 1, none⟩ = some (.int .i64 e.2)) := fun v hv => ⟨(hv.cell (p := ⟨S, 0, none⟩) hS2).trans e3, (hv.cell (p := ⟨S, 1, none⟩) hS2).trans e4⟩
      have Fa : Aside (na3 = (insL d e).length ∧ OwnE wa3 w.heap.size (.slice ra3 (insL d e).length ta3) (insL d e) ∧ Below w.heap.size w wa3) := by
        refine ⟨by rw [ea, E.out], ?_, g2.below.trans (ba.mono g2.below.size)⟩
        have l := OwnE.low oa g2.below.size
        rw [ea, E.out] at l
        exact l
      have Fb : Aside (nb3 = (insL d e).length ∧ OwnE wb3 w.heap.size (.slice rb3 (insL d e).length tb3) (insL d e) ∧ Below w.heap.size w wb3) := by
        refine ⟨by rw [eb, E.out], ?_, g2.below.trans (bb.mono g2.below.size)⟩
        have l := OwnE.low ob g2.below.size
        rw [eb, E.out] at l
        exact l
      have Fc : Aside (nc3 = (insL d e).length ∧ OwnE wc3 w.heap.size (.slice rc3 (insL d e).length tc3) (insL d e) ∧ Below w.heap.size w wc3) := by
        refine ⟨by rw [ec, E.out], ?_, g2.below.trans (bc.mono g2.below.size)⟩
        have l := OwnE.low oc g2.below.size
        rw [ec, E.out] at l
        exact l
      clear L g2 G2 ea eb ec oa ob oc
      go_wp2_with fail
      go_region_held3 (fun w' => w'.cell? ⟨S, 0, none⟩ = some (.int .u64 e.1) ∧ w'.cell? ⟨S, 1, none⟩ = some (.int .i64 e.2)) (first | go_keep | exact KC.out _ ba1 | exact KC.out _ ba2 | exact KC.out _ ba | exact KC.out _ bb1 | exact KC.out _ bb2 | exact KC.out _ bb | exact KC.out _ bc1 | exact KC.out _ bc2 | exact KC.out _ bc)
        ((first
          | refine step_app ((w2.alloc (.cells #[] 34)).drew) (by rfl) _ _ 45 45 (by rfl) (.slice (some ⟨w2.heap.size, 0, none⟩) 0 0) (.slice a k cap) (by rfl) (by rfl) (.slice ra1 k ta1) wa1 ha1 ?_
          | refine step_app (wa1.alloc (.cells #[.int .u64 e.1, .int .i64 e.2] 34)) (by rfl) _ _ 45 45 (by rfl) (.slice ra1 k ta1) (.slice (some ⟨wa1.heap.size, 0, none⟩) 1 1) (by rfl) (by rfl) (.slice ra2 na2 ta2) wa2 ha2 ?_
          | refine step_app wa2 (by rfl) _ _ 45 45 (by rfl) (.slice ra2 na2 ta2) (.slice p1 (d.length - k) (cap - k)) (by rfl) (by rfl) (.slice ra3 na3 ta3) wa3 ha3 ?_
          | refine step_app (((w2.alloc (.cells #[] 34)).alloc (.cells #[.int .u64 e.1, .int .i64 e.2] 34)).drew) (by rfl) _ _ 45 45 (by rfl) (.slice (some ⟨w2.heap.size, 0, none⟩) 0 0) (.slice a k cap) (by rfl) (by rfl) (.slice rb1 k tb1) wb1 hb1 ?_
          | refine step_app wb1 (by rfl) _ _ 45 45 (by rfl) (.slice rb1 k tb1) (.slice (some ⟨w2.heap.size + 1, 0, none⟩) 1 1) (by rfl) (by rfl) (.slice rb2 nb2 tb2) wb2 hb2 ?_
          | refine step_app wb2 (by rfl) _ _ 45 45 (by rfl) (.slice rb2 nb2 tb2) (.slice p1 (d.length - k) (cap - k)) (by rfl) (by rfl) (.slice rb3 nb3 tb3) wb3 hb3 ?_
          | refine step_app (((w2.alloc (.cells #[.int .u64 e.1, .int .i64 e.2] 34)).alloc (.cells #[] 34)).drew) (by rfl) _ _ 45 45 (by rfl) (.slice (some ⟨w2.heap.size + 1, 0, none⟩) 0 0) (.slice a k cap) (by rfl) (by rfl) (.slice rc1 k tc1) wc1 hc1 ?_
          | refine step_app wc1 (by rfl) _ _ 45 45 (by rfl) (.slice rc1 k tc1) (.slice (some ⟨w2.heap.size, 0, none⟩) 1 1) (by rfl) (by rfl) (.slice rc2 nc2 tc2) wc2 hc2 ?_
          | refine step_app wc2 (by rfl) _ _ 45 45 (by rfl) (.slice rc2 nc2 tc2) (.slice p1 (d.length - k) (cap - k)) (by rfl) (by rfl) (.slice rc3 nc3 tc3) wc3 hc3 ?_))
      all_goals
        go_wp2
        go_ret
        first | exact ⟨ra3, ta3, by rw [← Fa.out.1]; rfl, Fa.out.2.1, Fa.out.2.2⟩ | exact ⟨rb3, tb3, by rw [← Fb.out.1]; rfl, Fb.out.2.1, Fb.out.2.2⟩ | exact ⟨rc3, tc3, by rw [← Fc.out.1]; rfl, Fc.out.2.1, Fc.out.2.2⟩
theorem refPut_any (a : Option Addr) (cap : Nat) (d : List Ent) (e : Ent) (w : World) (h : IsL w a cap d) (hd : d.length ≤ 100000) :
    Calls Tryz.prog 38 #[.slice a d.length cap, .agg #[.int .u64 e.1, .int .i64 e.2]] w (Gives w (insL d e)) :=
  (refPut_made a cap d e w h hd).mono (fun _ _ h => Made.gives h)
end Go.Proofs.YtdcacbjmbfppeaaGreat

/- slices.IndexFunc at entries; entry.Drop. -/
namespace Go.Proofs.YtdcacbjmbfppeaaGreat
open Go.RowKit Go.Lib Go.Sort
set_option linter.unusedVariables false

/-- Where the first stands of which p is true; -1 if there is none. -/
def FirstIs (d : List Ent) (p : Ent → Bool) (z : Int) : Prop := (z = -1 ∧ ∀ i (hi : i < d.length), p d[i] = false) ∨ ∃ k : Nat, ∃ hk : k < d.length, z = k ∧ p d[k] = true ∧ ∀ i (hi : i < k), p (d[i]'(by omega)) = false

set_option maxHeartbeats 2000000 in
set_option maxRecDepth 100000 in
theorem indexFunc_any (a : Option Addr) (cap : Nat) (d : List Ent) (g : Nat) (cb : Array Value) (p : Ent → Bool) (w : World) (h : IsL w a cap d)
    (eg : ∀ args w, (callFunc g args).run Tryz.prog w = .ok (.enter g args) w)
    (hg : ∀ (x : Ent) (W : World), Grown w W → Calls Tryz.prog g (#[.agg #[.int .u64 x.1, .int .i64 x.2]] ++ cb) W fun e w' => e = .returned (.bool (p x)) ∧ Grown W w') :
    Calls Tryz.prog 75 #[.slice a d.length cap, .func (.func g) #[] cb] w fun r w' => ∃ z : Int, r = .returned (.int .i64 z) ∧ FirstIs d p z ∧ Grown w w' := by
  have hl := h.len
  have H : Aside (IsL w a cap d) := h
  have HG : Aside (∀ (x : Ent) (W : World), Grown w W → Calls Tryz.prog g (#[.agg #[.int .u64 x.1, .int .i64 x.2]] ++ cb) W fun e w' => e = .returned (.bool (p x)) ∧ Grown W w') := hg
  clear h hg
  go_enter Tryz.func75, Tryz.ntmps75
  go_wp2
  go_loopg [8] d.length (fun kx s8 wr => ∃ k : Nat, s8 = .int .i64 k ∧ k ≤ d.length ∧ d.length - k ≤ kx ∧ Aside (Grown w wr) ∧ Aside (∀ i (hi : i < d.length), i < k → p d[i] = false))
  case atStart => exact ⟨0, rfl, by omega, by omega, Grown.refl w, (fun i _ h => absurd h (by omega) : ∀ i (hi : i < d.length), i < 0 → p d[i] = false)⟩
  case round =>
    obtain ⟨k, rfl, hk, hkx, G, A⟩ := hrel
    by_cases hlt : k < d.length
    · have hz : (k : Int) < (d.length : Int) := by omega
      obtain ⟨b, off, ha, hc⟩ := H.out.at hlt
      subst ha
      have c1 := (hc wr G.out 0 #[]).1
      have c2 := (hc wr G.out 0 #[]).2
      simp only [grow_empty, show wr.drewN 0 = wr from rfl] at c1 c2
      clear hc
      obtain ⟨x, hx⟩ : ∃ x, d[k] = x := ⟨_, rfl⟩
      rw [hx] at c1 c2
      have HX : Hid _ := hx
      clear hx
      obtain ⟨B, hB⟩ : ∃ B, p x = B := ⟨_, rfl⟩
      have HB : Hid _ := hB
      have pc := HG.out x wr G.out
      rw [hB] at pc
      clear hB
      go_wp2_with fail
      refine pc.mono ?_
      rintro r w1 ⟨rfl, g1⟩
      have G2 : Aside (Grown w w1) := G.out.trans g1
      clear g1 G c1 c2 pc
      cases B with
      | true =>
        go_wp2
        go_ret
        refine ⟨k, rfl, .inr ⟨k, hlt, rfl, ?_, fun i hi => A.out i (by omega) hi⟩, G2.out⟩
        rw [HX.out]; exact HB.out
      | false =>
        go_wp2
        go_roundg (d.length - (k + 1))
        case measure => omega
        case rel =>
          refine ⟨k + 1, by go_num, by omega, Nat.le_refl _, G2, (fun i hi hik => ?_ : ∀ i (hi : i < d.length), i < k + 1 → p d[i] = false)⟩
          by_cases e : i = k
          · subst e; rw [HX.out]; exact HB.out
          · exact A.out i hi (by omega)
    · have hz : ¬ (k : Int) < (d.length : Int) := by omega
      go_wp2
      go_ret
      exact ⟨-1, rfl, .inl ⟨rfl, fun i hi => A.out i hi (by omega)⟩, G.out⟩

/-- A list and whether it was changed. -/
def Dropped (w : World) (d : List Ent) (id : Int) (r : Ending) (w' : World) : Prop := ∃ a cap, r = .returned (.tuple #[.slice a (dropL d id).length cap, .bool (hasL d id)]) ∧ IsL w' a cap (dropL d id) ∧ Below w.heap.size w w'

/-- The two parts that Drop joins. -/
theorem drop_lists {w2 : World} {a p1 : Option Addr} {cap k : Nat} {d : List Ent} (L : IsL w2 a cap d) (hk : k < d.length) (hp : (if cap = k + 1 then a else a.map (·.add ((k + 1) * 2))) = p1) :
    IsLL (w2.alloc (.cells #[.slice a k cap, .slice p1 (d.length - (k + 1)) (cap - (k + 1))] 45)).drew (some ⟨w2.heap.size, 0, none⟩) [d.take k, d.drop (k + 1)] ∧
    Below w2.heap.size w2 (w2.alloc (.cells #[.slice a k cap, .slice p1 (d.length - (k + 1)) (cap - (k + 1))] 45)).drew := by
  have b2 : Below w2.heap.size w2 (w2.alloc (.cells #[.slice a k cap, .slice p1 (d.length - (k + 1)) (cap - (k + 1))] 45)).drew := ((Below.refl _ _).alloc (Nat.le_refl _) _).drew
  refine ⟨IsLL.of_block (cs := #[.slice a k cap, .slice p1 (d.length - (k + 1)) (cap - (k + 1))]) (T := 45) (fr := (0, 0)) (heap_alloc_new w2 _) (by simp) (fun i x hx => ?_), b2⟩
  have hi : i < 2 := by simpa using (List.getElem?_eq_some_iff.1 hx).1
  have : i = 0 ∨ i = 1 := by omega
  rcases this with rfl | rfl
  · simp at hx
    subst hx
    exact ⟨a, cap, by simp [List.length_take, Nat.min_eq_left (Nat.le_of_lt hk)], (L.take k).below b2⟩
  · simp at hx
    subst hx
    have := (L.drop (k + 1) hk).below b2
    rw [hp] at this
    exact ⟨p1, cap - (k + 1), by simp [List.length_drop], this⟩

end Go.Proofs.YtdcacbjmbfppeaaGreat

/- The document's Sort, Merge and Drop. -/
namespace Go.Proofs.YtdcacbjmbfppeaaGreat
open Go.RowKit Go.Lib Go.Sort
set_option linter.unusedVariables false

theorem fold_take {d : List Ent} {k : Nat} (h : k < d.length) : (d.take (k + 1)).foldl insL [] = insL ((d.take k).foldl insL []) d[k] := by
  rw [List.take_succ_eq_append_getElem h, List.foldl_append]
  rfl
theorem fold_len (d : List Ent) : (d.foldl insL []).length = d.length := by
  rw [ins_fold d [] Srt.nil, sortE_len]; simp

set_option maxHeartbeats 2000000 in
set_option maxRecDepth 100000 in
theorem refSort_made (a : Option Addr) (cap : Nat) (d : List Ent) (w : World) (h : IsL w a cap d) (hd : d.length ≤ 10000) :
    Calls Tryz.prog 41 #[.slice a d.length cap] w (Made w (sortE d)) := by
  have hl := h.len
  have H : Aside (IsL w a cap d) := h
  clear h
  go_enter Tryz.func41, Tryz.ntmps41
  go_wp2
  go_loopg [3, 4] d.length (fun kx s3 s4 wr => ∃ (k n : Nat) (r : Option Addr) (t : Nat), s4 = .int .i64 k ∧ s3 = .slice r n t ∧ Hid (((d.take k).foldl insL []).length = n) ∧ k ≤ d.length ∧ d.length - k ≤ kx ∧ Aside (OwnE wr w.heap.size (.slice r n t) ((d.take k).foldl insL [])) ∧ Aside (Below w.heap.size w wr))
  case atStart => exact ⟨0, 0, none, 0, rfl, rfl, rfl, by omega, by omega, OwnE.nil w _, Below.refl _ _⟩
  case round =>
    obtain ⟨k, n, r, t, rfl, rfl, HN, hk, hkx, L, B⟩ := hrel
    by_cases hlt : k < d.length
    · have hz : (k : Int) < (d.length : Int) := by omega
      obtain ⟨b, off, rfl, hb, c1, c2⟩ := (H.out.below B.out).elem k d[k] (List.getElem?_eq_getElem hlt)
      have e1 := fold_take hlt
      obtain ⟨x, hx⟩ : ∃ x, d[k] = x := ⟨_, rfl⟩
      rw [hx] at e1 c1 c2
      have hlen : ((d.take k).foldl insL []).length ≤ 10000 := by rw [fold_len]; simp; omega
      have il : IsL wr r t ((d.take k).foldl insL []) := by
        obtain ⟨r', t', ex, l⟩ := L.out.isL
        injection ex with x1 x2 x3
        subst x1 x3
        exact l
      have pt := refPut_made r t ((d.take k).foldl insL []) x wr il (by omega)
      rw [HN.out, ← e1] at pt
      have B0 := B.out.size
      clear hx e1 hlen L il
      go_wp2_with fail
      refine pt.mono ?_
      rintro e w1 ⟨r1, t1, rfl, l1, b1⟩
      obtain ⟨n1, hn1⟩ : ∃ n1, ((d.take (k + 1)).foldl insL []).length = n1 := ⟨_, rfl⟩
      have HN1 : Hid _ := hn1
      have B1 : Aside (Below w.heap.size w w1) := Below.trans B.out (Below.mono b1 B0)
      have L1 : Aside (OwnE w1 w.heap.size (.slice r1 n1 t1) ((d.take (k + 1)).foldl insL [])) := by rw [← hn1]; exact OwnE.low l1 B0
      rw [hn1]
      clear hn1 b1 l1 c1 c2 pt B
      go_wp2
      go_roundg (d.length - (k + 1))
      case measure => omega
      case rel => exact ⟨k + 1, n1, r1, t1, by go_num, rfl, HN1, by omega, Nat.le_refl _, L1, B1⟩
    · have hz : ¬ (k : Int) < (d.length : Int) := by omega
      have e : (d.take k).foldl insL [] = sortE d := by rw [List.take_of_length_le (by omega), ins_fold d [] Srt.nil]; rfl
      rw [e] at HN L
      go_wp2
      go_ret
      exact ⟨r, t, by rw [HN.out]; rfl, by rw [HN.out]; exact L.out, B.out⟩

theorem refSort_any (a : Option Addr) (cap : Nat) (d : List Ent) (w : World) (h : IsL w a cap d) (hd : d.length ≤ 10000) :
    Calls Tryz.prog 41 #[.slice a d.length cap] w (Gives w (sortE d)) :=
  (refSort_made a cap d w h hd).mono (fun _ _ h => Made.gives h)

set_option maxHeartbeats 400000 in
theorem refMerge_any (a a' : Option Addr) (cap cap' : Nat) (c d : List Ent) (w : World) (h : IsL w a cap c) (h' : IsL w a' cap' d) (hd : c.length + d.length ≤ 10000) :
    Calls Tryz.prog 39 #[.slice a c.length cap, .slice a' d.length cap'] w (Gives w (sortE (c ++ d))) := by
  have b0 : Below w.heap.size w (w.alloc (.cells #[] 34)) := (Below.refl _ _).alloc (Nat.le_refl _) _
  have o0 := OwnE.made (base := w.heap.size) w #[] 0 (Nat.le_refl _) (by omega) rfl
  obtain ⟨v1, w1, h1, o1, g1⟩ := app_run (d := []) (c := c) o0 (h.below b0) (by simp; omega) b0.size 45
  obtain ⟨r1, t1, rfl, _⟩ := o1.isL
  have b1 : Below w.heap.size w w1 := OwnE.grown o0 b0 g1 b0.size
  obtain ⟨v2, w2, h2, o2, g2⟩ := app_run (c := d) o1 (h'.below b1) (by simp; omega) b1.size 45
  obtain ⟨r2, t2, rfl, l2⟩ := o2.isL
  have b2 : Below w.heap.size w w2 := OwnE.grown o1 b1 g2 b1.size
  obtain ⟨n1, hn1⟩ : ∃ n1, ([] ++ c).length = n1 := ⟨_, rfl⟩
  obtain ⟨n2, hn2⟩ : ∃ n2, ([] ++ c ++ d).length = n2 := ⟨_, rfl⟩
  rw [hn1] at h1 h2
  rw [hn2] at h2
  have st := refSort_any r2 t2 ([] ++ c ++ d) w2 l2 (by simp; omega)
  rw [hn2, show [] ++ c ++ d = c ++ d from rfl] at st
  have B2 : Aside (Below w.heap.size w w2) := b2
  clear hn1 hn2 o0 o1 o2 g1 g2 b0 b1 b2 l2 h h'
  go_enter Tryz.func39, Tryz.ntmps39
  go_wp2_with (at_builtin; first | refine Lib.wpList_append_run w1 rfl _ _ 45 45 rfl (.slice r1 n1 t1) (.slice a' d.length cap') rfl rfl (.slice r2 n2 t2) w2 h2 ?_ | refine Lib.wpList_append_run (w.alloc (.cells #[] 34)) rfl _ _ 45 45 rfl (.slice (some ⟨w.heap.size, 0, none⟩) 0 0) (.slice a c.length cap) rfl rfl (.slice r1 n1 t1) w1 h1 ?_)
  refine st.mono ?_
  rintro e w3 ⟨r3, t3, rfl, l3, b3⟩
  have B3 : Aside (Below w.heap.size w w3) := Below.trans B2.out (Below.mono b3 B2.out.size)
  have L3 : Aside (IsL w3 r3 t3 (sortE (c ++ d))) := l3
  clear l3 b3 st
  go_wp2
  go_ret
  exact ⟨r3, t3, rfl, L3.out, B3.out⟩
end Go.Proofs.YtdcacbjmbfppeaaGreat
