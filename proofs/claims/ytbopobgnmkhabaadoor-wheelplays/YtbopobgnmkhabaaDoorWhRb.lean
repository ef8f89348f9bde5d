/- The document's wheel: Add. -/
import Derived.Test.YtbopobgnmkhabaaDoorWhRa
namespace Go.Proofs.YtbopobgnmkhabaaDoor
open Go.RowKit Go.Lib Go.Sort Go.WideMaps Go.Maps
set_option linter.unusedVariables false

/-- The run of 'append(x, y...)' at timers. -/
def AppRun (w : World) (v u : Value) (v' : Value) (w' : World) : Prop := (Builtin.append_ #[28, 28] 28 #[v, u]).run Tryd.prog w = .ok v' w'
/-- A block of the call's own that another append does not touch. -/
theorem isL_far {X Y : World} {g : Nat} {e : Ent} {row : Option Nat} (h : IsL X (some ⟨g, 0, none⟩) 1 [e]) (hg : X.grownBy Y row) (hne : some g ≠ row) : IsL Y (some ⟨g, 0, none⟩) 1 [e] :=
  ⟨h.le, h.big, fun i x hx => by
    obtain ⟨b, off, e1, hb, h1, h2⟩ := h.elem i x hx
    cases e1
    exact ⟨g, 0, rfl, by have := hg.size; omega, (World.cell?_of_block (w := X) (hg.block g hb hne)).trans h1, (World.cell?_of_block (w := X) (hg.block g hb hne)).trans h2⟩⟩
/-- The three appends of Add, the new timer's block laid ahead of the first. -/
theorem put_bc {w2 X : World} {a p1 : Option Addr} {cap k gA gB : Nat} {d : List Ent} {e : Ent} (hX : Below w2.heap.size w2 X) (hz : w2.heap.size ≤ X.heap.size) (oA : OwnE X w2.heap.size (.slice (some ⟨gA, 0, none⟩) 0 0) []) (LB : IsL X (some ⟨gB, 0, none⟩) 1 [e]) (hne : gB ≠ gA)
    (L : IsL w2 a cap d) (hk : k ≤ d.length) (hd : d.length ≤ 100000) (hp : (if cap = k then a else a.map (·.add (k * 2))) = p1) :
    ∃ r1 t1 u1 r2 n2 t2 u2 r3 n3 t3 u3, AppRun X (.slice (some ⟨gA, 0, none⟩) 0 0) (.slice a k cap) (.slice r1 k t1) u1 ∧ AppRun u1 (.slice r1 k t1) (.slice (some ⟨gB, 0, none⟩) 1 1) (.slice r2 n2 t2) u2 ∧ AppRun u2 (.slice r2 n2 t2) (.slice p1 (d.length - k) (cap - k)) (.slice r3 n3 t3) u3 ∧
      n3 = (d.take k ++ e :: d.drop k).length ∧ OwnE u3 w2.heap.size (.slice r3 n3 t3) (d.take k ++ e :: d.drop k) ∧ Below w2.heap.size w2 u3 ∧ Below w2.heap.size w2 u1 ∧ Below w2.heap.size w2 u2 := by
  have l1 : (d.take k).length = k := by simp; omega
  have l2 : (d.drop k).length = d.length - k := by simp
  obtain ⟨v1, u1, h1, o1, g1⟩ := app_run (d := []) (c := d.take k) oA ((L.below hX).take k) (by simp; omega) hz 28
  obtain ⟨r1, t1, rfl, _⟩ := o1.isL
  have b1 : Below w2.heap.size w2 u1 := OwnE.grown oA hX g1 hz
  have LB1 := isL_far LB g1 (by simp [Value.ownBlock]; exact hne)
  obtain ⟨v2, u2, h2, o2, g2⟩ := app_run (c := [e]) o1 LB1 (by simp; omega) b1.size 28
  obtain ⟨r2, t2, rfl, _⟩ := o2.isL
  have b2 : Below w2.heap.size w2 u2 := OwnE.grown o1 b1 g2 b1.size
  have L2 := (L.below b2).drop k hk
  rw [hp] at L2
  obtain ⟨v3, u3, h3, o3, g3⟩ := app_run (c := d.drop k) o2 L2 (by simp; omega) b2.size 28
  obtain ⟨r3, t3, rfl, _⟩ := o3.isL
  have b3 : Below w2.heap.size w2 u3 := OwnE.grown o2 b2 g3 b2.size
  have e3 : [] ++ d.take k ++ [e] ++ d.drop k = d.take k ++ e :: d.drop k := by simp
  rw [e3] at h3 o3
  rw [List.nil_append, l1] at h1 h2
  rw [l2] at h3
  exact ⟨r1, t1, u1, r2, _, t2, u2, r3, _, t3, u3, h1, h2, h3, rfl, o3, b3, b1, b2⟩
/-- .. and behind it. -/
theorem put_a {w2 X : World} {a p1 : Option Addr} {cap k gA : Nat} {d : List Ent} {e : Ent} (hX : Below w2.heap.size w2 X) (hz : w2.heap.size ≤ X.heap.size) (oA : OwnE X w2.heap.size (.slice (some ⟨gA, 0, none⟩) 0 0) [])
    (L : IsL w2 a cap d) (hk : k ≤ d.length) (hd : d.length ≤ 100000) (hp : (if cap = k then a else a.map (·.add (k * 2))) = p1) :
    ∃ r1 t1 u1 r2 n2 t2 u2 r3 n3 t3 u3, AppRun X (.slice (some ⟨gA, 0, none⟩) 0 0) (.slice a k cap) (.slice r1 k t1) u1 ∧ AppRun (u1.alloc (.cells #[.int .u64 e.1, .int .i64 e.2] 33)) (.slice r1 k t1) (.slice (some ⟨u1.heap.size, 0, none⟩) 1 1) (.slice r2 n2 t2) u2 ∧ AppRun u2 (.slice r2 n2 t2) (.slice p1 (d.length - k) (cap - k)) (.slice r3 n3 t3) u3 ∧
      n3 = (d.take k ++ e :: d.drop k).length ∧ OwnE u3 w2.heap.size (.slice r3 n3 t3) (d.take k ++ e :: d.drop k) ∧ Below w2.heap.size w2 u3 ∧ Below w2.heap.size w2 u1 ∧ Below w2.heap.size w2 u2 := by
  have l1 : (d.take k).length = k := by simp; omega
  have l2 : (d.drop k).length = d.length - k := by simp
  obtain ⟨v1, u1, h1, o1, g1⟩ := app_run (d := []) (c := d.take k) oA ((L.below hX).take k) (by simp; omega) hz 28
  obtain ⟨r1, t1, rfl, _⟩ := o1.isL
  have b1 : Below w2.heap.size w2 u1 := OwnE.grown oA hX g1 hz
  have c1 : Below u1.heap.size u1 (u1.alloc (.cells #[.int .u64 e.1, .int .i64 e.2] 33)) := (Below.refl _ _).alloc (Nat.le_refl _) _
  have b1' : Below w2.heap.size w2 (u1.alloc (.cells #[.int .u64 e.1, .int .i64 e.2] 33)) := b1.trans (c1.mono b1.size)
  have o1' := OwnE.below o1 c1
  obtain ⟨v2, u2, h2, o2, g2⟩ := app_run (c := [e]) o1' (IsL.one u1 e) (by simp; omega) b1'.size 28
  obtain ⟨r2, t2, rfl, _⟩ := o2.isL
  have b2 : Below w2.heap.size w2 u2 := OwnE.grown o1' b1' g2 b1'.size
  have L2 := (L.below b2).drop k hk
  rw [hp] at L2
  obtain ⟨v3, u3, h3, o3, g3⟩ := app_run (c := d.drop k) o2 L2 (by simp; omega) b2.size 28
  obtain ⟨r3, t3, rfl, _⟩ := o3.isL
  have b3 : Below w2.heap.size w2 u3 := OwnE.grown o2 b2 g3 b2.size
  have e3 : [] ++ d.take k ++ [e] ++ d.drop k = d.take k ++ e :: d.drop k := by simp
  rw [e3] at h3 o3
  rw [List.nil_append, l1] at h1 h2
  rw [l2] at h3
  exact ⟨r1, t1, u1, r2, _, t2, u2, r3, _, t3, u3, h1, h2, h3, rfl, o3, b3, b1, b2⟩
/-- A boxed timer, in every world that has grown. -/
theorem box_at (w : World) (x : Ent) (T : TypeId) {W : World} (h : Grown (w.alloc (.cells #[.int .u64 x.1, .int .i64 x.2] T)) W) (n : Nat) (os : Array Obj) :
    (grow (W.drewN n) os).cell? ⟨w.heap.size, 0, none⟩ = some (.int .u64 x.1) ∧ (grow (W.drewN n) os).cell? ⟨w.heap.size, 1, none⟩ = some (.int .i64 x.2) := by
  have g : Grown (w.alloc (.cells #[.int .u64 x.1, .int .i64 x.2] T)) (grow (W.drewN n) os) := h.trans ⟨n, os, rfl⟩
  exact ⟨(g.cells _ _ (by simp)).trans (by simp), (g.cells _ _ (by simp)).trans (by simp)⟩
variable {w w' : World} {X : Nat → Prop} {B now : Nat} {T : List Ent}
theorem vadd_no (h : RWh w X B now T) (i : Int) (D : Nat) (hr : addR T i ≠ 0) : Calls Tryd.prog 16 #[.pointer (some ⟨B, 0, none⟩), .int .i64 i, .int .u64 (D : Int)] w fun e w' => e = .returned (.int .i64 (addR T i)) ∧ RGo w X B now (addT T i D) w' := by
  have SAME : Aside (RGo w X B now T w) := RGo.same h
  obtain ⟨a, cap, -, c1, -, -, -⟩ := h.open
  have DU := vdue_any h i
  rw [addT_no D hr]
  by_cases hi : i < 1
  · have e1 : addR T i = 1 := if_pos hi
    rw [e1]
    clear h e1 hr DU
    go_enter Tryd.func16, Tryd.ntmps16
    go_wp2
    go_ret
    exact ⟨rfl, SAME.out⟩
  · cases hdu : dueOf T i with
    | some v =>
      have e1 : addR T i = 9 := by unfold addR; rw [if_neg hi, hdu]; rfl
      have e2 : dueV T i = .tuple #[.int .u64 v, .bool true] := by unfold dueV; rw [hdu]; rfl
      rw [e1]
      rw [e2] at DU
      clear h e1 hr hdu e2
      go_enter Tryd.func16, Tryd.ntmps16
      go_wp2_with fail
      refine DU.mono ?_
      rintro e w1 ⟨rfl, rfl⟩
      go_wp2
      go_ret
      exact ⟨rfl, SAME.out⟩
    | none =>
      have hl : 1000 ≤ T.length := by
        refine Decidable.byContradiction fun hl => hr ?_
        unfold addR
        rw [if_neg hi, hdu, if_neg (by simp), if_neg hl]
      have hlz : (1000 : Int) ≤ (T.length : Int) := by omega
      have e1 : addR T i = 65 := by unfold addR; rw [if_neg hi, hdu, if_neg (by simp), if_pos hl]
      have e2 : dueV T i = .tuple #[.int .u64 0, .bool false] := by unfold dueV; rw [hdu]; rfl
      rw [e1]
      rw [e2] at DU
      clear h e1 hr hdu e2
      go_enter Tryd.func16, Tryd.ntmps16
      go_wp2_with fail
      refine DU.mono ?_
      rintro e w1 ⟨rfl, rfl⟩
      go_wp2
      go_ret
      exact ⟨rfl, SAME.out⟩
set_option maxHeartbeats 8000000 in
set_option maxRecDepth 100000 in
theorem vadd_ok (h : RWh w X B now T) (hT : TOk T) (i : Int) (D : Nat) (hr : addR T i = 0) : Calls Tryd.prog 16 #[.pointer (some ⟨B, 0, none⟩), .int .i64 i, .int .u64 (D : Int)] w fun e w' => e = .returned (.int .i64 0) ∧ RGo w X B now (insL T ((D : Int), i)) w' := by
  obtain ⟨hi, hdu, hl⟩ : ¬ i < 1 ∧ dueOf T i = none ∧ ¬ 1000 ≤ T.length := by
    unfold addR at hr
    split at hr
    · cases hr
    · next hi =>
      split at hr
      · cases hr
      · next h2 =>
        split at hr
        · cases hr
        · next h3 => exact ⟨hi, by simpa using h2, h3⟩
  have e2 : dueV T i = .tuple #[.int .u64 0, .bool false] := by unfold dueV; rw [hdu]; rfl
  have DU := vdue_any h i
  rw [e2] at DU
  have NIN : Aside (∀ x ∈ T, x ≠ ((D : Int), i)) := fun x hx e => dueOf_none hdu (D : Int) (e ▸ hx)
  have RR : Aside (RWh w X B now T) := h
  obtain ⟨a, cap, -, c1, il, frz, hBl⟩ := h.open
  have hcap := il.le
  have hbig := il.big
  unfold maxLen at hbig
  have hTl : T.length ≤ 100000 := by omega
  have hlz : ¬ (1000 : Int) ≤ (T.length : Int) := by omega
  have H : Aside (IsL w a cap T) := il
  have mx := mixed
  obtain ⟨S, hS⟩ : ∃ S, w.heap.size = S := ⟨_, rfl⟩
  have HS : Hid _ := hS
  clear h il hT hr e2 hdu hl
  go_enter Tryd.func16, Tryd.ntmps16
  go_wp2_with fail
  refine DU.mono ?_
  rintro e w1 ⟨rfl, rfl⟩
  clear DU
  go_wp2_with fail
  clear hS
  go_loopg [10] T.length (fun kx s10 wr => ∃ k : Nat, s10 = .int .i64 k ∧ k ≤ T.length ∧ T.length - k ≤ kx ∧ Aside (Grown (w1.alloc (.cells #[.int .u64 (D : Int), .int .i64 i] 33)) wr) ∧ Aside (∀ j (hj : j < T.length), j < k → ltE ((D : Int), i) T[j] = false))
  case atStart => exact ⟨0, rfl, by omega, by omega, Grown.refl _, (fun j hj h => absurd h (by omega) : ∀ j (hj : j < T.length), j < 0 → ltE ((D : Int), i) T[j] = false)⟩
  case round =>
    obtain ⟨k, rfl, hk, hkx, G, A⟩ := hrel
    have G0 : Grown w1 wr := ((Grown.refl w1).alloc _).trans G.out
    have c3 := fun n os => (box_at w1 ((D : Int), i) 33 G.out n os).1
    have c4 := fun n os => (box_at w1 ((D : Int), i) 33 G.out n os).2
    have c5 := fun n os => ((G0.trans ⟨n, os, rfl⟩ : Grown w1 (grow (wr.drewN n) os)).below.cell (p := ⟨B, 1, none⟩) hBl).trans c1
    simp only [HS.out] at c3 c4
    by_cases hlt : k < T.length
    · have t1 : decide ((k : Int) < (T.length : Int)) = true := decide_eq_true (by omega)
      have t2 : (k : Int) < (T.length : Int) := by omega
      have t3 : decide (k < T.length) = true := decide_eq_true hlt
      obtain ⟨b, off, ha, hc⟩ := H.out.at hlt
      have c6 := fun n os => (hc wr G0 n os).1
      have c7 := fun n os => (hc wr G0 n os).2
      clear hc G0
      obtain ⟨x, hx⟩ : ∃ x, T[k] = x := ⟨_, rfl⟩
      rw [hx] at c6 c7
      have HX : Hid _ := hx
      clear hx
      have lg := vless_grown x ((D : Int), i) wr
      have HA : Hid _ := ha
      rw [ha] at c5
      clear ha
      cases hL : ltE x ((D : Int), i) with
      | true =>
        simp only [hL] at lg
        go_wp2_with fail
        go_quiet_grown (first | (go_at_call 28; exact lg _ _))
        have G2 : Aside (Grown (w1.alloc (.cells #[.int .u64 (D : Int), .int .i64 i] 33)) (grow (wr.drewN nq) osq)) := G.out.trans ⟨nq, osq, rfl⟩
        clear c3 c4 c5 c6 c7 G lg
        generalize grow (wr.drewN nq) osq = w2 at G2 ⊢
        go_wp2
        go_roundg (T.length - (k + 1))
        case measure => omega
        case rel =>
          refine ⟨k + 1, by go_num, by omega, Nat.le_refl _, G2, (fun j hj hjk => ?_ : ∀ j (hj : j < T.length), j < k + 1 → ltE ((D : Int), i) T[j] = false)⟩
          by_cases z : j = k
          · subst z; rw [HX.out]; exact (ltE_not _ _).2 (by rcases (ltE_iff _ _).1 hL with h | ⟨h1, h2⟩; exact .inl h; exact .inr ⟨h1.symm, Int.le_of_lt h2⟩)
          · exact A.out j hj (by omega)
      | false =>
        simp only [hL] at lg
        have E : Hid (T.take k ++ ((D : Int), i) :: T.drop k = insL T ((D : Int), i)) := insL_eq T _ k hk (fun j hj h => A.out j h hj) (fun h => by
          rw [HX.out]
          cases e : ltE ((D : Int), i) x with
          | true => rfl
          | false => exact absurd (totE _ _ hL e) (NIN.out x (HX.out ▸ List.getElem_mem hlt)))
        go_wp2_with fail
        go_quiet_grown (first | (go_at_call 28; exact lg _ _))
        have G2 : Aside (Grown (w1.alloc (.cells #[.int .u64 (D : Int), .int .i64 i] 33)) (grow (wr.drewN nq) osq)) := G.out.trans ⟨nq, osq, rfl⟩
        clear c3 c4 c5 c6 c7 G lg t1 t2 t3 hL A
        generalize grow (wr.drewN nq) osq = w2 at G2 ⊢
        have g2 : Grown w1 w2 := ((Grown.refl w1).alloc _).trans G2.out
        have bx := box_at w1 ((D : Int), i) 33 G2.out 0 #[]
        rw [grow_empty] at bx
        obtain ⟨e3, e4⟩ := bx
        simp only [HS.out, show w2.drewN 0 = w2 from rfl] at e3 e4
        have hS2 : S < w2.heap.size := by have := G2.out.below.size; simp [HS.out] at this; omega
        have hB2 : B < w2.heap.size := Nat.lt_of_lt_of_le hBl g2.below.size
        have cB : w2.cell? ⟨B, 1, none⟩ = some (.slice a T.length cap) := (g2.below.cell (p := ⟨B, 1, none⟩) hBl).trans c1
        have fB : w2.frozen? ⟨B, 1, none⟩ = false := (g2.below.frozen (p := ⟨B, 1, none⟩) hBl).trans (frz 1)
        have k1 : (k : Int) ≤ (cap : Int) := by omega
        have k2 : (k : Int) ≤ (T.length : Int) := by omega
        have k3 : (0 : Int) ≤ (k : Int) := by omega
        obtain ⟨p1, hp1⟩ : ∃ p1, (if cap = k then a else a.map (·.add (k * 2))) = p1 := ⟨_, rfl⟩
        have L := H.out.below g2.below
        have bl : Below w2.heap.size w2 w2.drew := (Below.refl _ _).drew
        have bl0 : Below w2.heap.size w2 (w2.alloc (.cells #[] 33)).drew := ((Below.refl _ _).alloc (Nat.le_refl _) _).drew
        have bl1 : Below w2.heap.size w2 (w2.alloc (.cells #[.int .u64 (D : Int), .int .i64 i] 33)).drew := ((Below.refl _ _).alloc (Nat.le_refl _) _).drew
        have bl2 : Below w2.heap.size w2 ((w2.alloc (.cells #[] 33)).alloc (.cells #[.int .u64 (D : Int), .int .i64 i] 33)).drew := (((Below.refl _ _).alloc (Nat.le_refl _) _).alloc (by simp) _).drew
        have bl3 : Below w2.heap.size w2 ((w2.alloc (.cells #[.int .u64 (D : Int), .int .i64 i] 33)).alloc (.cells #[] 33)).drew := (((Below.refl _ _).alloc (Nat.le_refl _) _).alloc (by simp) _).drew
        obtain ⟨ra1, ta1, wa1, ra2, na2, ta2, wa2, ra3, na3, ta3, wa3, ha1, ha2, ha3, ea, oa, ba, ba1, ba2⟩ := put_a (w2 := w2) (X := (w2.alloc (.cells #[] 33)).drew) (gA := w2.heap.size) (e := ((D : Int), i)) bl0 (by simp) (OwnE.made w2 #[] 0 (Nat.le_refl _) (by unfold maxLen; omega) rfl) L hk hTl hp1
        obtain ⟨rb1, tb1, wb1, rb2, nb2, tb2, wb2, rb3, nb3, tb3, wb3, hb1, hb2, hb3, eb, ob, bb, bb1, bb2⟩ := put_bc (w2 := w2) (X := ((w2.alloc (.cells #[] 33)).alloc (.cells #[.int .u64 (D : Int), .int .i64 i] 33)).drew) (gA := w2.heap.size) (gB := w2.heap.size + 1) (e := ((D : Int), i)) bl2 (by simp; omega) (OwnE.below (OwnE.made w2 #[] 0 (Nat.le_refl _) (by unfold maxLen; omega) rfl) (((Below.refl _ _).alloc (Nat.le_refl _) _).drew)) (by have := IsL.one (w2.alloc (.cells #[] 33)) ((D : Int), i); rw [show (w2.alloc (.cells #[] 33)).heap.size = w2.heap.size + 1 by simp] at this; exact this.below ((Below.refl _ _).drew)) (by omega) L hk hTl hp1
        obtain ⟨rc1, tc1, wc1, rc2, nc2, tc2, wc2, rc3, nc3, tc3, wc3, hc1, hc2, hc3, ec, oc, bc, bc1, bc2⟩ := put_bc (w2 := w2) (X := ((w2.alloc (.cells #[.int .u64 (D : Int), .int .i64 i] 33)).alloc (.cells #[] 33)).drew) (gA := w2.heap.size + 1) (gB := w2.heap.size) (e := ((D : Int), i)) bl3 (by simp; omega) (by have := OwnE.made (base := w2.heap.size) (w2.alloc (.cells #[.int .u64 (D : Int), .int .i64 i] 33)) #[] 0 (by simp) (by unfold maxLen; omega) rfl; rw [show (w2.alloc (.cells #[.int .u64 (D : Int), .int .i64 i] 33)).heap.size = w2.heap.size + 1 by simp] at this; exact this) ((IsL.one w2 ((D : Int), i)).below (((Below.refl _ _).alloc (Nat.le_refl _) _).drew)) (by omega) L hk hTl hp1
        have bla : Below w2.heap.size w2 (wa1.alloc (.cells #[.int .u64 (D : Int), .int .i64 i] 33)) := ba1.alloc ba1.size _
        have KC : Aside (∀ v, Below w2.heap.size w2 v → v.cell? ⟨B, 1, none⟩ = some (.slice a T.length cap) ∧ v.cell? ⟨S, 0, none⟩ = some (.int .u64 (D : Int)) ∧ v.cell? ⟨S, 1, none⟩ = some (.int .i64 i)) := fun v hv => ⟨(hv.cell (p := ⟨B, 1, none⟩) hB2).trans cB, (hv.cell (p := ⟨S, 0, none⟩) hS2).trans e3, (hv.cell (p := ⟨S, 1, none⟩) hS2).trans e4⟩
        have FIN : Aside (∀ (v : World) (r : Option Addr) (n t : Nat), n = (T.take k ++ ((D : Int), i) :: T.drop k).length → OwnE v w2.heap.size (.slice r n t) (T.take k ++ ((D : Int), i) :: T.drop k) → Below w2.heap.size w2 v → RGo w1 X B now (insL T ((D : Int), i)) (v.setCell ⟨B, 1, none⟩ (.slice r n t))) := fun v r n t hn ho hv => by
          subst hn
          rw [E.out] at ho ⊢
          exact RR.out.store (g2.below.trans (hv.mono g2.below.size)) (OwnE.low ho g2.below.size)
        have Fa : Aside (RGo w1 X B now (insL T ((D : Int), i)) (wa3.setCell ⟨B, 1, none⟩ (.slice ra3 na3 ta3))) := FIN.out _ _ _ _ ea oa ba
        have Fb : Aside (RGo w1 X B now (insL T ((D : Int), i)) (wb3.setCell ⟨B, 1, none⟩ (.slice rb3 nb3 tb3))) := FIN.out _ _ _ _ eb ob bb
        have Fc : Aside (RGo w1 X B now (insL T ((D : Int), i)) (wc3.setCell ⟨B, 1, none⟩ (.slice rc3 nc3 tc3))) := FIN.out _ _ _ _ ec oc bc
        have fa1 : wa3.frozen? ⟨B, 1, none⟩ = false := (ba.frozen (p := ⟨B, 1, none⟩) hB2).trans fB
        have fb1 : wb3.frozen? ⟨B, 1, none⟩ = false := (bb.frozen (p := ⟨B, 1, none⟩) hB2).trans fB
        have fc1 : wc3.frozen? ⟨B, 1, none⟩ = false := (bc.frozen (p := ⟨B, 1, none⟩) hB2).trans fB
        have za1 : wa3.cell? ⟨B, 1, none⟩ = some (.slice a T.length cap) := (KC.out _ ba).1
        have zb1 : wb3.cell? ⟨B, 1, none⟩ = some (.slice a T.length cap) := (KC.out _ bb).1
        have zc1 : wc3.cell? ⟨B, 1, none⟩ = some (.slice a T.length cap) := (KC.out _ bc).1
        have ya1 : B < wa3.heap.size := Nat.lt_of_lt_of_le hB2 ba.size
        have yb1 : B < wb3.heap.size := Nat.lt_of_lt_of_le hB2 bb.size
        have yc1 : B < wc3.heap.size := Nat.lt_of_lt_of_le hB2 bc.size
        clear L g2 G2 ea eb ec oa ob oc FIN cB fB hS2 hB2 e3 e4 c1
        go_wp2_with fail
        refine anyE_start (S := (fun v0 => v0.cell? ⟨B, 1, none⟩ = some (.slice a T.length cap) ∧ v0.cell? ⟨S, 0, none⟩ = some (.int .u64 (D : Int)) ∧ v0.cell? ⟨S, 1, none⟩ = some (.int .i64 i))) (L := 21) (by kernel_rfl) ?_
        refine anyE_take (i := 0) (oi := { dst := some 49, op := Op.move (Operand.tmp 0), type := 43, pos := "vergerref12.go:80", after := #[], guard := none }) (v := ?_) rfl (by kernel_rfl)  (by kernel_rfl) (by kernel_rfl) (by kernel_rfl) (fun _ _ _ h => h) (Or.inl ⟨by rfl, ?_⟩) (KC.out _ bl) ?_
        rotate_left
        · (intro w hSw; (try dsimp only at hSw); go_simp; try with_reducible rfl)
        simp only [Act.put, List.setIfInBounds_toArray, List.set_cons_zero, List.set_cons_succ]
        refine anyE_take (i := 2) (oi := { dst := some 51, op := Op.move (Operand.tmp 0), type := 43, pos := "vergerref12.go:80", after := #[], guard := none }) (v := ?_) rfl (by kernel_rfl)  (by kernel_rfl) (by kernel_rfl) (by kernel_rfl) (fun _ _ _ h => h) (Or.inl ⟨by rfl, ?_⟩) (KC.out _ bl) ?_
        rotate_left
        · (intro w hSw; (try dsimp only at hSw); go_simp; try with_reducible rfl)
        simp only [Act.put, List.setIfInBounds_toArray, List.set_cons_zero, List.set_cons_succ]
        refine anyE_take (i := 3) (oi := { dst := some 52, op := Op.nilCheck (Operand.tmp 51), type := 0, pos := "vergerref12.go:80", after := #[{ on := 2, ground := Ground.data }], guard := none }) (v := ?_) rfl (by kernel_rfl)  (by kernel_rfl) (by kernel_rfl) (by kernel_rfl) (fun _ _ _ h => h) (Or.inl ⟨by rfl, ?_⟩) (KC.out _ bl) ?_
        rotate_left
        · (intro w hSw; (try dsimp only at hSw); go_simp; try with_reducible rfl)
        simp only [Act.put, List.setIfInBounds_toArray, List.set_cons_zero, List.set_cons_succ]
        refine anyE_take (i := 4) (oi := { dst := some 53, op := Op.fieldAddr 45 (Operand.tmp 52) 1, type := 0, pos := "vergerref12.go:80", after := #[{ on := 3, ground := Ground.data }], guard := none }) (v := ?_) rfl (by kernel_rfl)  (by kernel_rfl) (by kernel_rfl) (by kernel_rfl) (fun _ _ _ h => h) (Or.inl ⟨by rfl, ?_⟩) (KC.out _ bl) ?_
        rotate_left
        · (intro w hSw; (try dsimp only at hSw); go_simp; try with_reducible rfl)
        simp only [Act.put, List.setIfInBounds_toArray, List.set_cons_zero, List.set_cons_succ]
        refine anyE_take (i := 5) (oi := { dst := some 54, op := Op.load 28 (Operand.tmp 53), type := 28, pos := "vergerref12.go:80", after := #[{ on := 4, ground := Ground.data }], guard := none }) (v := ?_) rfl (by kernel_rfl)  (by kernel_rfl) (by kernel_rfl) (by kernel_rfl) (fun _ _ _ h => h) (Or.inl ⟨by rfl, ?_⟩) (KC.out _ bl) ?_
        rotate_left
        · (intro w hSw; (try dsimp only at hSw); go_simp; try with_reducible rfl)
        simp only [Act.put, List.setIfInBounds_toArray, List.set_cons_zero, List.set_cons_succ]
        refine anyE_take (i := 6) (oi := { dst := some 55, op := Op.move (Operand.tmp 10), type := 3, pos := "vergerref12.go:80", after := #[], guard := none }) (v := ?_) rfl (by kernel_rfl)  (by kernel_rfl) (by kernel_rfl) (by kernel_rfl) (fun _ _ _ h => h) (Or.inl ⟨by rfl, ?_⟩) (KC.out _ bl) ?_
        rotate_left
        · (intro w hSw; (try dsimp only at hSw); go_simp; try with_reducible rfl)
        simp only [Act.put, List.setIfInBounds_toArray, List.set_cons_zero, List.set_cons_succ]
        refine anyE_take (i := 7) (oi := { dst := some 56, op := Op.slice 28 (Operand.tmp 54) none (some (Operand.tmp 55)) none, type := 28, pos := "vergerref12.go:80", after := #[{ on := 5, ground := Ground.data }, { on := 6, ground := Ground.data }], guard := none }) (v := ?_) rfl (by kernel_rfl)  (by kernel_rfl) (by kernel_rfl) (by kernel_rfl) (fun _ _ _ h => h) (Or.inl ⟨by rfl, ?_⟩) (KC.out _ bl) ?_
        rotate_left
        · (intro w hSw; (try dsimp only at hSw); go_simp; try with_reducible rfl)
        simp only [Act.put, List.setIfInBounds_toArray, List.set_cons_zero, List.set_cons_succ]
        refine anyE_take (i := 9) (oi := { dst := some 58, op := Op.load 33 (Operand.tmp 9), type := 33, pos := "vergerref12.go:80", after := #[], guard := none }) (v := ?_) rfl (by kernel_rfl)  (by kernel_rfl) (by kernel_rfl) (by kernel_rfl) (fun _ _ _ h => h) (Or.inl ⟨by rfl, ?_⟩) (KC.out _ bl) ?_
        rotate_left
        · (intro w hSw; (try dsimp only at hSw); go_simp; try with_reducible rfl)
        simp only [Act.put, List.setIfInBounds_toArray, List.set_cons_zero, List.set_cons_succ]
        refine anyE_take (i := 12) (oi := { dst := some 61, op := Op.move (Operand.tmp 0), type := 43, pos := "vergerref12.go:80", after := #[], guard := none }) (v := ?_) rfl (by kernel_rfl)  (by kernel_rfl) (by kernel_rfl) (by kernel_rfl) (fun _ _ _ h => h) (Or.inl ⟨by rfl, ?_⟩) (KC.out _ bl) ?_
        rotate_left
        · (intro w hSw; (try dsimp only at hSw); go_simp; try with_reducible rfl)
        simp only [Act.put, List.setIfInBounds_toArray, List.set_cons_zero, List.set_cons_succ]
        refine anyE_take (i := 13) (oi := { dst := some 62, op := Op.nilCheck (Operand.tmp 61), type := 0, pos := "vergerref12.go:80", after := #[{ on := 12, ground := Ground.data }], guard := none }) (v := ?_) rfl (by kernel_rfl)  (by kernel_rfl) (by kernel_rfl) (by kernel_rfl) (fun _ _ _ h => h) (Or.inl ⟨by rfl, ?_⟩) (KC.out _ bl) ?_
        rotate_left
        · (intro w hSw; (try dsimp only at hSw); go_simp; try with_reducible rfl)
        simp only [Act.put, List.setIfInBounds_toArray, List.set_cons_zero, List.set_cons_succ]
        refine anyE_take (i := 14) (oi := { dst := some 63, op := Op.fieldAddr 45 (Operand.tmp 62) 1, type := 0, pos := "vergerref12.go:80", after := #[{ on := 13, ground := Ground.data }], guard := none }) (v := ?_) rfl (by kernel_rfl)  (by kernel_rfl) (by kernel_rfl) (by kernel_rfl) (fun _ _ _ h => h) (Or.inl ⟨by rfl, ?_⟩) (KC.out _ bl) ?_
        rotate_left
        · (intro w hSw; (try dsimp only at hSw); go_simp; try with_reducible rfl)
        simp only [Act.put, List.setIfInBounds_toArray, List.set_cons_zero, List.set_cons_succ]
        refine anyE_take (i := 15) (oi := { dst := some 64, op := Op.load 28 (Operand.tmp 63), type := 28, pos := "vergerref12.go:80", after := #[{ on := 14, ground := Ground.data }], guard := none }) (v := ?_) rfl (by kernel_rfl)  (by kernel_rfl) (by kernel_rfl) (by kernel_rfl) (fun _ _ _ h => h) (Or.inl ⟨by rfl, ?_⟩) (KC.out _ bl) ?_
        rotate_left
        · (intro w hSw; (try dsimp only at hSw); go_simp; try with_reducible rfl)
        simp only [Act.put, List.setIfInBounds_toArray, List.set_cons_zero, List.set_cons_succ]
        refine anyE_take (i := 16) (oi := { dst := some 65, op := Op.move (Operand.tmp 10), type := 3, pos := "vergerref12.go:80", after := #[], guard := none }) (v := ?_) rfl (by kernel_rfl)  (by kernel_rfl) (by kernel_rfl) (by kernel_rfl) (fun _ _ _ h => h) (Or.inl ⟨by rfl, ?_⟩) (KC.out _ bl) ?_
        rotate_left
        · (intro w hSw; (try dsimp only at hSw); go_simp; try with_reducible rfl)
        simp only [Act.put, List.setIfInBounds_toArray, List.set_cons_zero, List.set_cons_succ]
        refine anyE_take (i := 17) (oi := { dst := some 66, op := Op.slice 28 (Operand.tmp 64) (some (Operand.tmp 65)) none none, type := 28, pos := "vergerref12.go:80", after := #[{ on := 15, ground := Ground.data }, { on := 16, ground := Ground.data }], guard := none }) (v := ?_) rfl (by kernel_rfl)  (by kernel_rfl) (by kernel_rfl) (by kernel_rfl) (fun _ _ _ h => h) (Or.inl ⟨by rfl, ?_⟩) (KC.out _ bl) ?_
        rotate_left
        · (intro w hSw; (try dsimp only at hSw); go_simp; try with_reducible rfl)
        simp only [Act.put, List.setIfInBounds_toArray, List.set_cons_zero, List.set_cons_succ]
        refine anyE_ready (rs := [1, 10]) (by kernel_rfl) (by simp) ?_
        refine AllE.cons (o := { dst := some 50, op := Op.buildSlice 28 0 #[], type := 28, pos := "vergerref12.go:80", after := #[], guard := none }) rfl (fun Kt hKt => ?_) ?_
        · go_simp
          refine hKt.out _ _ (fun _ => KC.out _ bl0) ?_
          clear hKt Kt
          try simp only [Act.put, List.setIfInBounds_toArray, List.set_cons_zero, List.set_cons_succ]
          refine anyE_ready (rs := [8, 10]) (by kernel_rfl) (by simp) ?_
          refine AllE.cons (o := { dst := some 57, op := Op.call { callee := Callee.builtin Builtin.append, args := #[Operand.tmp 50, Operand.tmp 56], argTypes := #[28, 28] }, type := 28, pos := "vergerref12.go:80", after := #[{ on := 1, ground := Ground.data }, { on := 7, ground := Ground.data }], guard := none }) rfl (fun Kt hKt => ?_) ?_
          · refine step_app ((w2.alloc (.cells #[] 33)).drew) (by rfl) _ _ 28 28 (by rfl) (.slice (some ⟨w2.heap.size, 0, none⟩) 0 0) (.slice a k cap) (by rfl) (by rfl) (.slice ra1 k ta1) wa1 ha1 ?_
            refine hKt.out _ _ (fun _ => KC.out _ ba1) ?_
            clear hKt Kt
            try simp only [Act.put, List.setIfInBounds_toArray, List.set_cons_zero, List.set_cons_succ]
            refine anyE_ready (rs := [10]) (by kernel_rfl) (by simp) ?_
            refine AllE.cons (o := { dst := some 59, op := Op.buildSlice 28 1 #[(0, Operand.tmp 58)], type := 28, pos := "vergerref12.go:80", after := #[{ on := 9, ground := Ground.data }], guard := none }) rfl (fun Kt hKt => ?_) ?_
            · go_simp
              refine hKt.out _ _ (fun _ => KC.out _ bla) ?_
              clear hKt Kt
              try simp only [Act.put, List.setIfInBounds_toArray, List.set_cons_zero, List.set_cons_succ]
              refine anyE_ready (rs := [11]) (by kernel_rfl) (by simp) ?_
              refine AllE.cons (o := { dst := some 60, op := Op.call { callee := Callee.builtin Builtin.append, args := #[Operand.tmp 57, Operand.tmp 59], argTypes := #[28, 28] }, type := 28, pos := "vergerref12.go:80", after := #[{ on := 8, ground := Ground.data }, { on := 10, ground := Ground.data }, { on := 8, ground := Ground.chain }], guard := none }) rfl (fun Kt hKt => ?_) ?_
              · refine step_app (wa1.alloc (.cells #[.int .u64 (D : Int), .int .i64 i] 33)) (by rfl) _ _ 28 28 (by rfl) (.slice ra1 k ta1) (.slice (some ⟨wa1.heap.size, 0, none⟩) 1 1) (by rfl) (by rfl) (.slice ra2 na2 ta2) wa2 ha2 ?_
                refine hKt.out _ _ (fun _ => KC.out _ ba2) ?_
                clear hKt Kt
                try simp only [Act.put, List.setIfInBounds_toArray, List.set_cons_zero, List.set_cons_succ]
                refine anyE_ready (rs := [18]) (by kernel_rfl) (by simp) ?_
                refine AllE.cons (o := { dst := some 67, op := Op.call { callee := Callee.builtin Builtin.append, args := #[Operand.tmp 60, Operand.tmp 66], argTypes := #[28, 28] }, type := 28, pos := "vergerref12.go:80", after := #[{ on := 11, ground := Ground.data }, { on := 17, ground := Ground.data }, { on := 11, ground := Ground.chain }], guard := none }) rfl (fun Kt hKt => ?_) ?_
                · refine step_app wa2 (by rfl) _ _ 28 28 (by rfl) (.slice ra2 na2 ta2) (.slice p1 (T.length - k) (cap - k)) (by rfl) (by rfl) (.slice ra3 na3 ta3) wa3 ha3 ?_
                  refine hKt.out _ _ (fun _ => KC.out _ ba) ?_
                  clear hKt Kt
                  try simp only [Act.put, List.setIfInBounds_toArray, List.set_cons_zero, List.set_cons_succ]
                  refine anyF_take [20] (i := 19) (oi := { dst := some 68, op := Op.nilCheck (Operand.tmp 49), type := 0, pos := "vergerref12.go:80", after := #[{ on := 0, ground := Ground.data }, { on := 0, ground := Ground.phase }, { on := 1, ground := Ground.phase }, { on := 2, ground := Ground.phase }, { on := 3, ground := Ground.phase }, { on := 4, ground := Ground.phase }, { on := 5, ground := Ground.phase }, { on := 6, ground := Ground.phase }, { on := 7, ground := Ground.phase }, { on := 8, ground := Ground.phase }, { on := 9, ground := Ground.phase }, { on := 10, ground := Ground.phase }, { on := 11, ground := Ground.phase }, { on := 12, ground := Ground.phase }, { on := 13, ground := Ground.phase }, { on := 14, ground := Ground.phase }, { on := 15, ground := Ground.phase }, { on := 16, ground := Ground.phase }, { on := 17, ground := Ground.phase }, { on := 18, ground := Ground.phase }], guard := none }) (v := ?_) rfl (by kernel_rfl) (by kernel_rfl)  (by kernel_rfl) (by kernel_rfl) (by kernel_rfl) (fun _ _ _ h => h) (Or.inl ⟨by rfl, ?_⟩) (KC.out _ ba) ?_
                  rotate_left
                  · (intro w hSw; (try dsimp only at hSw); go_simp; try with_reducible rfl)
                  simp only [Act.put, List.setIfInBounds_toArray, List.set_cons_zero, List.set_cons_succ]
                  refine anyE_take (i := 20) (oi := { dst := some 69, op := Op.fieldAddr 45 (Operand.tmp 68) 1, type := 0, pos := "vergerref12.go:80", after := #[{ on := 19, ground := Ground.data }, { on := 0, ground := Ground.phase }, { on := 1, ground := Ground.phase }, { on := 2, ground := Ground.phase }, { on := 3, ground := Ground.phase }, { on := 4, ground := Ground.phase }, { on := 5, ground := Ground.phase }, { on := 6, ground := Ground.phase }, { on := 7, ground := Ground.phase }, { on := 8, ground := Ground.phase }, { on := 9, ground := Ground.phase }, { on := 10, ground := Ground.phase }, { on := 11, ground := Ground.phase }, { on := 12, ground := Ground.phase }, { on := 13, ground := Ground.phase }, { on := 14, ground := Ground.phase }, { on := 15, ground := Ground.phase }, { on := 16, ground := Ground.phase }, { on := 17, ground := Ground.phase }, { on := 18, ground := Ground.phase }], guard := none }) (v := ?_) rfl (by kernel_rfl)  (by kernel_rfl) (by kernel_rfl) (by kernel_rfl) (fun _ _ _ h => h) (Or.inl ⟨by rfl, ?_⟩) (KC.out _ ba) ?_
                  rotate_left
                  · (intro w hSw; (try dsimp only at hSw); go_simp; try with_reducible rfl)
                  simp only [Act.put, List.setIfInBounds_toArray, List.set_cons_zero, List.set_cons_succ]
                  refine anyE_ready (rs := [21]) (by kernel_rfl) (by simp) ?_
                  refine AllE.cons (o := { dst := none, op := Op.store 28 (Operand.tmp 69) (Operand.tmp 67), type := 0, pos := "vergerref12.go:80", after := #[{ on := 20, ground := Ground.data }, { on := 18, ground := Ground.data }, { on := 18, ground := Ground.chain }, { on := 0, ground := Ground.phase }, { on := 1, ground := Ground.phase }, { on := 2, ground := Ground.phase }, { on := 3, ground := Ground.phase }, { on := 4, ground := Ground.phase }, { on := 5, ground := Ground.phase }, { on := 6, ground := Ground.phase }, { on := 7, ground := Ground.phase }, { on := 8, ground := Ground.phase }, { on := 9, ground := Ground.phase }, { on := 10, ground := Ground.phase }, { on := 11, ground := Ground.phase }, { on := 12, ground := Ground.phase }, { on := 13, ground := Ground.phase }, { on := 14, ground := Ground.phase }, { on := 15, ground := Ground.phase }, { on := 16, ground := Ground.phase }, { on := 17, ground := Ground.phase }, { on := 18, ground := Ground.phase }], guard := none }) rfl (fun Kt hKt => ?_) ?_
                  · go_simp
                    refine hKt.out _ _ (fun h => absurd rfl h) ?_
                    clear hKt Kt
                    try simp only [Act.put, List.setIfInBounds_toArray, List.set_cons_zero, List.set_cons_succ]
                    refine anyE_done (by kernel_rfl) ?_ _
                    go_wp2
                    go_ret
                    exact ⟨rfl, Fa.out⟩
                  exact AllE.nil
                exact AllE.nil
              exact AllE.nil
            exact AllE.nil
          refine AllE.cons (o := { dst := some 59, op := Op.buildSlice 28 1 #[(0, Operand.tmp 58)], type := 28, pos := "vergerref12.go:80", after := #[{ on := 9, ground := Ground.data }], guard := none }) rfl (fun Kt hKt => ?_) ?_
          · go_simp
            refine hKt.out _ _ (fun _ => KC.out _ bl2) ?_
            clear hKt Kt
            try simp only [Act.put, List.setIfInBounds_toArray, List.set_cons_zero, List.set_cons_succ]
            refine anyE_ready (rs := [8]) (by kernel_rfl) (by simp) ?_
            refine AllE.cons (o := { dst := some 57, op := Op.call { callee := Callee.builtin Builtin.append, args := #[Operand.tmp 50, Operand.tmp 56], argTypes := #[28, 28] }, type := 28, pos := "vergerref12.go:80", after := #[{ on := 1, ground := Ground.data }, { on := 7, ground := Ground.data }], guard := none }) rfl (fun Kt hKt => ?_) ?_
            · refine step_app (((w2.alloc (.cells #[] 33)).alloc (.cells #[.int .u64 (D : Int), .int .i64 i] 33)).drew) (by rfl) _ _ 28 28 (by rfl) (.slice (some ⟨w2.heap.size, 0, none⟩) 0 0) (.slice a k cap) (by rfl) (by rfl) (.slice rb1 k tb1) wb1 hb1 ?_
              refine hKt.out _ _ (fun _ => KC.out _ bb1) ?_
              clear hKt Kt
              try simp only [Act.put, List.setIfInBounds_toArray, List.set_cons_zero, List.set_cons_succ]
              refine anyE_ready (rs := [11]) (by kernel_rfl) (by simp) ?_
              refine AllE.cons (o := { dst := some 60, op := Op.call { callee := Callee.builtin Builtin.append, args := #[Operand.tmp 57, Operand.tmp 59], argTypes := #[28, 28] }, type := 28, pos := "vergerref12.go:80", after := #[{ on := 8, ground := Ground.data }, { on := 10, ground := Ground.data }, { on := 8, ground := Ground.chain }], guard := none }) rfl (fun Kt hKt => ?_) ?_
              · refine step_app wb1 (by rfl) _ _ 28 28 (by rfl) (.slice rb1 k tb1) (.slice (some ⟨w2.heap.size + 1, 0, none⟩) 1 1) (by rfl) (by rfl) (.slice rb2 nb2 tb2) wb2 hb2 ?_
                refine hKt.out _ _ (fun _ => KC.out _ bb2) ?_
                clear hKt Kt
                try simp only [Act.put, List.setIfInBounds_toArray, List.set_cons_zero, List.set_cons_succ]
                refine anyE_ready (rs := [18]) (by kernel_rfl) (by simp) ?_
                refine AllE.cons (o := { dst := some 67, op := Op.call { callee := Callee.builtin Builtin.append, args := #[Operand.tmp 60, Operand.tmp 66], argTypes := #[28, 28] }, type := 28, pos := "vergerref12.go:80", after := #[{ on := 11, ground := Ground.data }, { on := 17, ground := Ground.data }, { on := 11, ground := Ground.chain }], guard := none }) rfl (fun Kt hKt => ?_) ?_
                · refine step_app wb2 (by rfl) _ _ 28 28 (by rfl) (.slice rb2 nb2 tb2) (.slice p1 (T.length - k) (cap - k)) (by rfl) (by rfl) (.slice rb3 nb3 tb3) wb3 hb3 ?_
                  refine hKt.out _ _ (fun _ => KC.out _ bb) ?_
                  clear hKt Kt
                  try simp only [Act.put, List.setIfInBounds_toArray, List.set_cons_zero, List.set_cons_succ]
                  refine anyF_take [20] (i := 19) (oi := { dst := some 68, op := Op.nilCheck (Operand.tmp 49), type := 0, pos := "vergerref12.go:80", after := #[{ on := 0, ground := Ground.data }, { on := 0, ground := Ground.phase }, { on := 1, ground := Ground.phase }, { on := 2, ground := Ground.phase }, { on := 3, ground := Ground.phase }, { on := 4, ground := Ground.phase }, { on := 5, ground := Ground.phase }, { on := 6, ground := Ground.phase }, { on := 7, ground := Ground.phase }, { on := 8, ground := Ground.phase }, { on := 9, ground := Ground.phase }, { on := 10, ground := Ground.phase }, { on := 11, ground := Ground.phase }, { on := 12, ground := Ground.phase }, { on := 13, ground := Ground.phase }, { on := 14, ground := Ground.phase }, { on := 15, ground := Ground.phase }, { on := 16, ground := Ground.phase }, { on := 17, ground := Ground.phase }, { on := 18, ground := Ground.phase }], guard := none }) (v := ?_) rfl (by kernel_rfl) (by kernel_rfl)  (by kernel_rfl) (by kernel_rfl) (by kernel_rfl) (fun _ _ _ h => h) (Or.inl ⟨by rfl, ?_⟩) (KC.out _ bb) ?_
                  rotate_left
                  · (intro w hSw; (try dsimp only at hSw); go_simp; try with_reducible rfl)
                  simp only [Act.put, List.setIfInBounds_toArray, List.set_cons_zero, List.set_cons_succ]
                  refine anyE_take (i := 20) (oi := { dst := some 69, op := Op.fieldAddr 45 (Operand.tmp 68) 1, type := 0, pos := "vergerref12.go:80", after := #[{ on := 19, ground := Ground.data }, { on := 0, ground := Ground.phase }, { on := 1, ground := Ground.phase }, { on := 2, ground := Ground.phase }, { on := 3, ground := Ground.phase }, { on := 4, ground := Ground.phase }, { on := 5, ground := Ground.phase }, { on := 6, ground := Ground.phase }, { on := 7, ground := Ground.phase }, { on := 8, ground := Ground.phase }, { on := 9, ground := Ground.phase }, { on := 10, ground := Ground.phase }, { on := 11, ground := Ground.phase }, { on := 12, ground := Ground.phase }, { on := 13, ground := Ground.phase }, { on := 14, ground := Ground.phase }, { on := 15, ground := Ground.phase }, { on := 16, ground := Ground.phase }, { on := 17, ground := Ground.phase }, { on := 18, ground := Ground.phase }], guard := none }) (v := ?_) rfl (by kernel_rfl)  (by kernel_rfl) (by kernel_rfl) (by kernel_rfl) (fun _ _ _ h => h) (Or.inl ⟨by rfl, ?_⟩) (KC.out _ bb) ?_
                  rotate_left
                  · (intro w hSw; (try dsimp only at hSw); go_simp; try with_reducible rfl)
                  simp only [Act.put, List.setIfInBounds_toArray, List.set_cons_zero, List.set_cons_succ]
                  refine anyE_ready (rs := [21]) (by kernel_rfl) (by simp) ?_
                  refine AllE.cons (o := { dst := none, op := Op.store 28 (Operand.tmp 69) (Operand.tmp 67), type := 0, pos := "vergerref12.go:80", after := #[{ on := 20, ground := Ground.data }, { on := 18, ground := Ground.data }, { on := 18, ground := Ground.chain }, { on := 0, ground := Ground.phase }, { on := 1, ground := Ground.phase }, { on := 2, ground := Ground.phase }, { on := 3, ground := Ground.phase }, { on := 4, ground := Ground.phase }, { on := 5, ground := Ground.phase }, { on := 6, ground := Ground.phase }, { on := 7, ground := Ground.phase }, { on := 8, ground := Ground.phase }, { on := 9, ground := Ground.phase }, { on := 10, ground := Ground.phase }, { on := 11, ground := Ground.phase }, { on := 12, ground := Ground.phase }, { on := 13, ground := Ground.phase }, { on := 14, ground := Ground.phase }, { on := 15, ground := Ground.phase }, { on := 16, ground := Ground.phase }, { on := 17, ground := Ground.phase }, { on := 18, ground := Ground.phase }], guard := none }) rfl (fun Kt hKt => ?_) ?_
                  · go_simp
                    refine hKt.out _ _ (fun h => absurd rfl h) ?_
                    clear hKt Kt
                    try simp only [Act.put, List.setIfInBounds_toArray, List.set_cons_zero, List.set_cons_succ]
                    refine anyE_done (by kernel_rfl) ?_ _
                    go_wp2
                    go_ret
                    exact ⟨rfl, Fb.out⟩
                  exact AllE.nil
                exact AllE.nil
              exact AllE.nil
            exact AllE.nil
          exact AllE.nil
        refine AllE.cons (o := { dst := some 59, op := Op.buildSlice 28 1 #[(0, Operand.tmp 58)], type := 28, pos := "vergerref12.go:80", after := #[{ on := 9, ground := Ground.data }], guard := none }) rfl (fun Kt hKt => ?_) ?_
        · go_simp
          refine hKt.out _ _ (fun _ => KC.out _ bl1) ?_
          clear hKt Kt
          try simp only [Act.put, List.setIfInBounds_toArray, List.set_cons_zero, List.set_cons_succ]
          refine anyE_ready (rs := [1]) (by kernel_rfl) (by simp) ?_
          refine AllE.cons (o := { dst := some 50, op := Op.buildSlice 28 0 #[], type := 28, pos := "vergerref12.go:80", after := #[], guard := none }) rfl (fun Kt hKt => ?_) ?_
          · go_simp
            refine hKt.out _ _ (fun _ => KC.out _ bl3) ?_
            clear hKt Kt
            try simp only [Act.put, List.setIfInBounds_toArray, List.set_cons_zero, List.set_cons_succ]
            refine anyE_ready (rs := [8]) (by kernel_rfl) (by simp) ?_
            refine AllE.cons (o := { dst := some 57, op := Op.call { callee := Callee.builtin Builtin.append, args := #[Operand.tmp 50, Operand.tmp 56], argTypes := #[28, 28] }, type := 28, pos := "vergerref12.go:80", after := #[{ on := 1, ground := Ground.data }, { on := 7, ground := Ground.data }], guard := none }) rfl (fun Kt hKt => ?_) ?_
            · refine step_app (((w2.alloc (.cells #[.int .u64 (D : Int), .int .i64 i] 33)).alloc (.cells #[] 33)).drew) (by rfl) _ _ 28 28 (by rfl) (.slice (some ⟨w2.heap.size + 1, 0, none⟩) 0 0) (.slice a k cap) (by rfl) (by rfl) (.slice rc1 k tc1) wc1 hc1 ?_
              refine hKt.out _ _ (fun _ => KC.out _ bc1) ?_
              clear hKt Kt
              try simp only [Act.put, List.setIfInBounds_toArray, List.set_cons_zero, List.set_cons_succ]
              refine anyE_ready (rs := [11]) (by kernel_rfl) (by simp) ?_
              refine AllE.cons (o := { dst := some 60, op := Op.call { callee := Callee.builtin Builtin.append, args := #[Operand.tmp 57, Operand.tmp 59], argTypes := #[28, 28] }, type := 28, pos := "vergerref12.go:80", after := #[{ on := 8, ground := Ground.data }, { on := 10, ground := Ground.data }, { on := 8, ground := Ground.chain }], guard := none }) rfl (fun Kt hKt => ?_) ?_
              · refine step_app wc1 (by rfl) _ _ 28 28 (by rfl) (.slice rc1 k tc1) (.slice (some ⟨w2.heap.size, 0, none⟩) 1 1) (by rfl) (by rfl) (.slice rc2 nc2 tc2) wc2 hc2 ?_
                refine hKt.out _ _ (fun _ => KC.out _ bc2) ?_
                clear hKt Kt
                try simp only [Act.put, List.setIfInBounds_toArray, List.set_cons_zero, List.set_cons_succ]
                refine anyE_ready (rs := [18]) (by kernel_rfl) (by simp) ?_
                refine AllE.cons (o := { dst := some 67, op := Op.call { callee := Callee.builtin Builtin.append, args := #[Operand.tmp 60, Operand.tmp 66], argTypes := #[28, 28] }, type := 28, pos := "vergerref12.go:80", after := #[{ on := 11, ground := Ground.data }, { on := 17, ground := Ground.data }, { on := 11, ground := Ground.chain }], guard := none }) rfl (fun Kt hKt => ?_) ?_
                · refine step_app wc2 (by rfl) _ _ 28 28 (by rfl) (.slice rc2 nc2 tc2) (.slice p1 (T.length - k) (cap - k)) (by rfl) (by rfl) (.slice rc3 nc3 tc3) wc3 hc3 ?_
                  refine hKt.out _ _ (fun _ => KC.out _ bc) ?_
                  clear hKt Kt
                  try simp only [Act.put, List.setIfInBounds_toArray, List.set_cons_zero, List.set_cons_succ]
                  refine anyF_take [20] (i := 19) (oi := { dst := some 68, op := Op.nilCheck (Operand.tmp 49), type := 0, pos := "vergerref12.go:80", after := #[{ on := 0, ground := Ground.data }, { on := 0, ground := Ground.phase }, { on := 1, ground := Ground.phase }, { on := 2, ground := Ground.phase }, { on := 3, ground := Ground.phase }, { on := 4, ground := Ground.phase }, { on := 5, ground := Ground.phase }, { on := 6, ground := Ground.phase }, { on := 7, ground := Ground.phase }, { on := 8, ground := Ground.phase }, { on := 9, ground := Ground.phase }, { on := 10, ground := Ground.phase }, { on := 11, ground := Ground.phase }, { on := 12, ground := Ground.phase }, { on := 13, ground := Ground.phase }, { on := 14, ground := Ground.phase }, { on := 15, ground := Ground.phase }, { on := 16, ground := Ground.phase }, { on := 17, ground := Ground.phase }, { on := 18, ground := Ground.phase }], guard := none }) (v := ?_) rfl (by kernel_rfl) (by kernel_rfl)  (by kernel_rfl) (by kernel_rfl) (by kernel_rfl) (fun _ _ _ h => h) (Or.inl ⟨by rfl, ?_⟩) (KC.out _ bc) ?_
                  rotate_left
                  · (intro w hSw; (try dsimp only at hSw); go_simp; try with_reducible rfl)
                  simp only [Act.put, List.setIfInBounds_toArray, List.set_cons_zero, List.set_cons_succ]
                  refine anyE_take (i := 20) (oi := { dst := some 69, op := Op.fieldAddr 45 (Operand.tmp 68) 1, type := 0, pos := "vergerref12.go:80", after := #[{ on := 19, ground := Ground.data }, { on := 0, ground := Ground.phase }, { on := 1, ground := Ground.phase }, { on := 2, ground := Ground.phase }, { on := 3, ground := Ground.phase }, { on := 4, ground := Ground.phase }, { on := 5, ground := Ground.phase }, { on := 6, ground := Ground.phase }, { on := 7, ground := Ground.phase }, { on := 8, ground := Ground.phase }, { on := 9, ground := Ground.phase }, { on := 10, ground := Ground.phase }, { on := 11, ground := Ground.phase }, { on := 12, ground := Ground.phase }, { on := 13, ground := Ground.phase }, { on := 14, ground := Ground.phase }, { on := 15, ground := Ground.phase }, { on := 16, ground := Ground.phase }, { on := 17, ground := Ground.phase }, { on := 18, ground := Ground.phase }], guard := none }) (v := ?_) rfl (by kernel_rfl)  (by kernel_rfl) (by kernel_rfl) (by kernel_rfl) (fun _ _ _ h => h) (Or.inl ⟨by rfl, ?_⟩) (KC.out _ bc) ?_
                  rotate_left
                  · (intro w hSw; (try dsimp only at hSw); go_simp; try with_reducible rfl)
                  simp only [Act.put, List.setIfInBounds_toArray, List.set_cons_zero, List.set_cons_succ]
                  refine anyE_ready (rs := [21]) (by kernel_rfl) (by simp) ?_
                  refine AllE.cons (o := { dst := none, op := Op.store 28 (Operand.tmp 69) (Operand.tmp 67), type := 0, pos := "vergerref12.go:80", after := #[{ on := 20, ground := Ground.data }, { on := 18, ground := Ground.data }, { on := 18, ground := Ground.chain }, { on := 0, ground := Ground.phase }, { on := 1, ground := Ground.phase }, { on := 2, ground := Ground.phase }, { on := 3, ground := Ground.phase }, { on := 4, ground := Ground.phase }, { on := 5, ground := Ground.phase }, { on := 6, ground := Ground.phase }, { on := 7, ground := Ground.phase }, { on := 8, ground := Ground.phase }, { on := 9, ground := Ground.phase }, { on := 10, ground := Ground.phase }, { on := 11, ground := Ground.phase }, { on := 12, ground := Ground.phase }, { on := 13, ground := Ground.phase }, { on := 14, ground := Ground.phase }, { on := 15, ground := Ground.phase }, { on := 16, ground := Ground.phase }, { on := 17, ground := Ground.phase }, { on := 18, ground := Ground.phase }], guard := none }) rfl (fun Kt hKt => ?_) ?_
                  · go_simp
                    refine hKt.out _ _ (fun h => absurd rfl h) ?_
                    clear hKt Kt
                    try simp only [Act.put, List.setIfInBounds_toArray, List.set_cons_zero, List.set_cons_succ]
                    refine anyE_done (by kernel_rfl) ?_ _
                    go_wp2
                    go_ret
                    exact ⟨rfl, Fc.out⟩
                  exact AllE.nil
                exact AllE.nil
              exact AllE.nil
            exact AllE.nil
          exact AllE.nil
        exact AllE.nil
    · have t1 : decide ((k : Int) < (T.length : Int)) = false := decide_eq_false (by omega)
      have t2 : ¬ (k : Int) < (T.length : Int) := by omega
      have t3 : decide (k < T.length) = false := decide_eq_false hlt
      have E : Hid (T.take k ++ ((D : Int), i) :: T.drop k = insL T ((D : Int), i)) := insL_eq T _ k hk (fun j hj h => A.out j h hj) (fun h => absurd h hlt)
      have c8 := fun n => c5 n #[]
      simp only [grow_empty] at c8
      clear G0 c5
      go_wp2_with fail
      go_quiet (fail)
      have G2 : Aside (Grown (w1.alloc (.cells #[.int .u64 (D : Int), .int .i64 i] 33)) (wr.drewN nq)) := G.out.drewN nq
      clear c3 c4 c8 G t1 t2 t3 A
      generalize wr.drewN nq = w2 at G2 ⊢
      have g2 : Grown w1 w2 := ((Grown.refl w1).alloc _).trans G2.out
      have bx := box_at w1 ((D : Int), i) 33 G2.out 0 #[]
      rw [grow_empty] at bx
      obtain ⟨e3, e4⟩ := bx
      simp only [HS.out, show w2.drewN 0 = w2 from rfl] at e3 e4
      have hS2 : S < w2.heap.size := by have := G2.out.below.size; simp [HS.out] at this; omega
      have hB2 : B < w2.heap.size := Nat.lt_of_lt_of_le hBl g2.below.size
      have cB : w2.cell? ⟨B, 1, none⟩ = some (.slice a T.length cap) := (g2.below.cell (p := ⟨B, 1, none⟩) hBl).trans c1
      have fB : w2.frozen? ⟨B, 1, none⟩ = false := (g2.below.frozen (p := ⟨B, 1, none⟩) hBl).trans (frz 1)
      have k1 : (k : Int) ≤ (cap : Int) := by omega
      have k2 : (k : Int) ≤ (T.length : Int) := by omega
      have k3 : (0 : Int) ≤ (k : Int) := by omega
      obtain ⟨p1, hp1⟩ : ∃ p1, (if cap = k then a else a.map (·.add (k * 2))) = p1 := ⟨_, rfl⟩
      have L := H.out.below g2.below
      have bl : Below w2.heap.size w2 w2.drew := (Below.refl _ _).drew
      have bl0 : Below w2.heap.size w2 (w2.alloc (.cells #[] 33)).drew := ((Below.refl _ _).alloc (Nat.le_refl _) _).drew
      have bl1 : Below w2.heap.size w2 (w2.alloc (.cells #[.int .u64 (D : Int), .int .i64 i] 33)).drew := ((Below.refl _ _).alloc (Nat.le_refl _) _).drew
      have bl2 : Below w2.heap.size w2 ((w2.alloc (.cells #[] 33)).alloc (.cells #[.int .u64 (D : Int), .int .i64 i] 33)).drew := (((Below.refl _ _).alloc (Nat.le_refl _) _).alloc (by simp) _).drew
      have bl3 : Below w2.heap.size w2 ((w2.alloc (.cells #[.int .u64 (D : Int), .int .i64 i] 33)).alloc (.cells #[] 33)).drew := (((Below.refl _ _).alloc (Nat.le_refl _) _).alloc (by simp) _).drew
      obtain ⟨ra1, ta1, wa1, ra2, na2, ta2, wa2, ra3, na3, ta3, wa3, ha1, ha2, ha3, ea, oa, ba, ba1, ba2⟩ := put_a (w2 := w2) (X := (w2.alloc (.cells #[] 33)).drew) (gA := w2.heap.size) (e := ((D : Int), i)) bl0 (by simp) (OwnE.made w2 #[] 0 (Nat.le_refl _) (by unfold maxLen; omega) rfl) L hk hTl hp1
      obtain ⟨rb1, tb1, wb1, rb2, nb2, tb2, wb2, rb3, nb3, tb3, wb3, hb1, hb2, hb3, eb, ob, bb, bb1, bb2⟩ := put_bc (w2 := w2) (X := ((w2.alloc (.cells #[] 33)).alloc (.cells #[.int .u64 (D : Int), .int .i64 i] 33)).drew) (gA := w2.heap.size) (gB := w2.heap.size + 1) (e := ((D : Int), i)) bl2 (by simp; omega) (OwnE.below (OwnE.made w2 #[] 0 (Nat.le_refl _) (by unfold maxLen; omega) rfl) (((Below.refl _ _).alloc (Nat.le_refl _) _).drew)) (by have := IsL.one (w2.alloc (.cells #[] 33)) ((D : Int), i); rw [show (w2.alloc (.cells #[] 33)).heap.size = w2.heap.size + 1 by simp] at this; exact this.below ((Below.refl _ _).drew)) (by omega) L hk hTl hp1
      obtain ⟨rc1, tc1, wc1, rc2, nc2, tc2, wc2, rc3, nc3, tc3, wc3, hc1, hc2, hc3, ec, oc, bc, bc1, bc2⟩ := put_bc (w2 := w2) (X := ((w2.alloc (.cells #[.int .u64 (D : Int), .int .i64 i] 33)).alloc (.cells #[] 33)).drew) (gA := w2.heap.size + 1) (gB := w2.heap.size) (e := ((D : Int), i)) bl3 (by simp; omega) (by have := OwnE.made (base := w2.heap.size) (w2.alloc (.cells #[.int .u64 (D : Int), .int .i64 i] 33)) #[] 0 (by simp) (by unfold maxLen; omega) rfl; rw [show (w2.alloc (.cells #[.int .u64 (D : Int), .int .i64 i] 33)).heap.size = w2.heap.size + 1 by simp] at this; exact this) ((IsL.one w2 ((D : Int), i)).below (((Below.refl _ _).alloc (Nat.le_refl _) _).drew)) (by omega) L hk hTl hp1
      have bla : Below w2.heap.size w2 (wa1.alloc (.cells #[.int .u64 (D : Int), .int .i64 i] 33)) := ba1.alloc ba1.size _
      have KC : Aside (∀ v, Below w2.heap.size w2 v → v.cell? ⟨B, 1, none⟩ = some (.slice a T.length cap) ∧ v.cell? ⟨S, 0, none⟩ = some (.int .u64 (D : Int)) ∧ v.cell? ⟨S, 1, none⟩ = some (.int .i64 i)) := fun v hv => ⟨(hv.cell (p := ⟨B, 1, none⟩) hB2).trans cB, (hv.cell (p := ⟨S, 0, none⟩) hS2).trans e3, (hv.cell (p := ⟨S, 1, none⟩) hS2).trans e4⟩
      have FIN : Aside (∀ (v : World) (r : Option Addr) (n t : Nat), n = (T.take k ++ ((D : Int), i) :: T.drop k).length → OwnE v w2.heap.size (.slice r n t) (T.take k ++ ((D : Int), i) :: T.drop k) → Below w2.heap.size w2 v → RGo w1 X B now (insL T ((D : Int), i)) (v.setCell ⟨B, 1, none⟩ (.slice r n t))) := fun v r n t hn ho hv => by
        subst hn
        rw [E.out] at ho ⊢
        exact RR.out.store (g2.below.trans (hv.mono g2.below.size)) (OwnE.low ho g2.below.size)
      have Fa : Aside (RGo w1 X B now (insL T ((D : Int), i)) (wa3.setCell ⟨B, 1, none⟩ (.slice ra3 na3 ta3))) := FIN.out _ _ _ _ ea oa ba
      have Fb : Aside (RGo w1 X B now (insL T ((D : Int), i)) (wb3.setCell ⟨B, 1, none⟩ (.slice rb3 nb3 tb3))) := FIN.out _ _ _ _ eb ob bb
      have Fc : Aside (RGo w1 X B now (insL T ((D : Int), i)) (wc3.setCell ⟨B, 1, none⟩ (.slice rc3 nc3 tc3))) := FIN.out _ _ _ _ ec oc bc
      have fa1 : wa3.frozen? ⟨B, 1, none⟩ = false := (ba.frozen (p := ⟨B, 1, none⟩) hB2).trans fB
      have fb1 : wb3.frozen? ⟨B, 1, none⟩ = false := (bb.frozen (p := ⟨B, 1, none⟩) hB2).trans fB
      have fc1 : wc3.frozen? ⟨B, 1, none⟩ = false := (bc.frozen (p := ⟨B, 1, none⟩) hB2).trans fB
      have za1 : wa3.cell? ⟨B, 1, none⟩ = some (.slice a T.length cap) := (KC.out _ ba).1
      have zb1 : wb3.cell? ⟨B, 1, none⟩ = some (.slice a T.length cap) := (KC.out _ bb).1
      have zc1 : wc3.cell? ⟨B, 1, none⟩ = some (.slice a T.length cap) := (KC.out _ bc).1
      have ya1 : B < wa3.heap.size := Nat.lt_of_lt_of_le hB2 ba.size
      have yb1 : B < wb3.heap.size := Nat.lt_of_lt_of_le hB2 bb.size
      have yc1 : B < wc3.heap.size := Nat.lt_of_lt_of_le hB2 bc.size
      clear L g2 G2 ea eb ec oa ob oc FIN cB fB hS2 hB2 e3 e4 c1
      go_wp2_with fail
      refine anyE_start (S := (fun v0 => v0.cell? ⟨B, 1, none⟩ = some (.slice a T.length cap) ∧ v0.cell? ⟨S, 0, none⟩ = some (.int .u64 (D : Int)) ∧ v0.cell? ⟨S, 1, none⟩ = some (.int .i64 i))) (L := 21) (by kernel_rfl) ?_
      refine anyE_take (i := 0) (oi := { dst := some 49, op := Op.move (Operand.tmp 0), type := 43, pos := "vergerref12.go:80", after := #[], guard := none }) (v := ?_) rfl (by kernel_rfl)  (by kernel_rfl) (by kernel_rfl) (by kernel_rfl) (fun _ _ _ h => h) (Or.inl ⟨by rfl, ?_⟩) (KC.out _ bl) ?_
      rotate_left
      · (intro w hSw; (try dsimp only at hSw); go_simp; try with_reducible rfl)
      simp only [Act.put, List.setIfInBounds_toArray, List.set_cons_zero, List.set_cons_succ]
      refine anyE_take (i := 2) (oi := { dst := some 51, op := Op.move (Operand.tmp 0), type := 43, pos := "vergerref12.go:80", after := #[], guard := none }) (v := ?_) rfl (by kernel_rfl)  (by kernel_rfl) (by kernel_rfl) (by kernel_rfl) (fun _ _ _ h => h) (Or.inl ⟨by rfl, ?_⟩) (KC.out _ bl) ?_
      rotate_left
      · (intro w hSw; (try dsimp only at hSw); go_simp; try with_reducible rfl)
      simp only [Act.put, List.setIfInBounds_toArray, List.set_cons_zero, List.set_cons_succ]
      refine anyE_take (i := 3) (oi := { dst := some 52, op := Op.nilCheck (Operand.tmp 51), type := 0, pos := "vergerref12.go:80", after := #[{ on := 2, ground := Ground.data }], guard := none }) (v := ?_) rfl (by kernel_rfl)  (by kernel_rfl) (by kernel_rfl) (by kernel_rfl) (fun _ _ _ h => h) (Or.inl ⟨by rfl, ?_⟩) (KC.out _ bl) ?_
      rotate_left
      · (intro w hSw; (try dsimp only at hSw); go_simp; try with_reducible rfl)
      simp only [Act.put, List.setIfInBounds_toArray, List.set_cons_zero, List.set_cons_succ]
      refine anyE_take (i := 4) (oi := { dst := some 53, op := Op.fieldAddr 45 (Operand.tmp 52) 1, type := 0, pos := "vergerref12.go:80", after := #[{ on := 3, ground := Ground.data }], guard := none }) (v := ?_) rfl (by kernel_rfl)  (by kernel_rfl) (by kernel_rfl) (by kernel_rfl) (fun _ _ _ h => h) (Or.inl ⟨by rfl, ?_⟩) (KC.out _ bl) ?_
      rotate_left
      · (intro w hSw; (try dsimp only at hSw); go_simp; try with_reducible rfl)
      simp only [Act.put, List.setIfInBounds_toArray, List.set_cons_zero, List.set_cons_succ]
      refine anyE_take (i := 5) (oi := { dst := some 54, op := Op.load 28 (Operand.tmp 53), type := 28, pos := "vergerref12.go:80", after := #[{ on := 4, ground := Ground.data }], guard := none }) (v := ?_) rfl (by kernel_rfl)  (by kernel_rfl) (by kernel_rfl) (by kernel_rfl) (fun _ _ _ h => h) (Or.inl ⟨by rfl, ?_⟩) (KC.out _ bl) ?_
      rotate_left
      · (intro w hSw; (try dsimp only at hSw); go_simp; try with_reducible rfl)
      simp only [Act.put, List.setIfInBounds_toArray, List.set_cons_zero, List.set_cons_succ]
      refine anyE_take (i := 6) (oi := { dst := some 55, op := Op.move (Operand.tmp 10), type := 3, pos := "vergerref12.go:80", after := #[], guard := none }) (v := ?_) rfl (by kernel_rfl)  (by kernel_rfl) (by kernel_rfl) (by kernel_rfl) (fun _ _ _ h => h) (Or.inl ⟨by rfl, ?_⟩) (KC.out _ bl) ?_
      rotate_left
      · (intro w hSw; (try dsimp only at hSw); go_simp; try with_reducible rfl)
      simp only [Act.put, List.setIfInBounds_toArray, List.set_cons_zero, List.set_cons_succ]
      refine anyE_take (i := 7) (oi := { dst := some 56, op := Op.slice 28 (Operand.tmp 54) none (some (Operand.tmp 55)) none, type := 28, pos := "vergerref12.go:80", after := #[{ on := 5, ground := Ground.data }, { on := 6, ground := Ground.data }], guard := none }) (v := ?_) rfl (by kernel_rfl)  (by kernel_rfl) (by kernel_rfl) (by kernel_rfl) (fun _ _ _ h => h) (Or.inl ⟨by rfl, ?_⟩) (KC.out _ bl) ?_
      rotate_left
      · (intro w hSw; (try dsimp only at hSw); go_simp; try with_reducible rfl)
      simp only [Act.put, List.setIfInBounds_toArray, List.set_cons_zero, List.set_cons_succ]
      refine anyE_take (i := 9) (oi := { dst := some 58, op := Op.load 33 (Operand.tmp 9), type := 33, pos := "vergerref12.go:80", after := #[], guard := none }) (v := ?_) rfl (by kernel_rfl)  (by kernel_rfl) (by kernel_rfl) (by kernel_rfl) (fun _ _ _ h => h) (Or.inl ⟨by rfl, ?_⟩) (KC.out _ bl) ?_
      rotate_left
      · (intro w hSw; (try dsimp only at hSw); go_simp; try with_reducible rfl)
      simp only [Act.put, List.setIfInBounds_toArray, List.set_cons_zero, List.set_cons_succ]
      refine anyE_take (i := 12) (oi := { dst := some 61, op := Op.move (Operand.tmp 0), type := 43, pos := "vergerref12.go:80", after := #[], guard := none }) (v := ?_) rfl (by kernel_rfl)  (by kernel_rfl) (by kernel_rfl) (by kernel_rfl) (fun _ _ _ h => h) (Or.inl ⟨by rfl, ?_⟩) (KC.out _ bl) ?_
      rotate_left
      · (intro w hSw; (try dsimp only at hSw); go_simp; try with_reducible rfl)
      simp only [Act.put, List.setIfInBounds_toArray, List.set_cons_zero, List.set_cons_succ]
      refine anyE_take (i := 13) (oi := { dst := some 62, op := Op.nilCheck (Operand.tmp 61), type := 0, pos := "vergerref12.go:80", after := #[{ on := 12, ground := Ground.data }], guard := none }) (v := ?_) rfl (by kernel_rfl)  (by kernel_rfl) (by kernel_rfl) (by kernel_rfl) (fun _ _ _ h => h) (Or.inl ⟨by rfl, ?_⟩) (KC.out _ bl) ?_
      rotate_left
      · (intro w hSw; (try dsimp only at hSw); go_simp; try with_reducible rfl)
      simp only [Act.put, List.setIfInBounds_toArray, List.set_cons_zero, List.set_cons_succ]
      refine anyE_take (i := 14) (oi := { dst := some 63, op := Op.fieldAddr 45 (Operand.tmp 62) 1, type := 0, pos := "vergerref12.go:80", after := #[{ on := 13, ground := Ground.data }], guard := none }) (v := ?_) rfl (by kernel_rfl)  (by kernel_rfl) (by kernel_rfl) (by kernel_rfl) (fun _ _ _ h => h) (Or.inl ⟨by rfl, ?_⟩) (KC.out _ bl) ?_
      rotate_left
      · (intro w hSw; (try dsimp only at hSw); go_simp; try with_reducible rfl)
      simp only [Act.put, List.setIfInBounds_toArray, List.set_cons_zero, List.set_cons_succ]
      refine anyE_take (i := 15) (oi := { dst := some 64, op := Op.load 28 (Operand.tmp 63), type := 28, pos := "vergerref12.go:80", after := #[{ on := 14, ground := Ground.data }], guard := none }) (v := ?_) rfl (by kernel_rfl)  (by kernel_rfl) (by kernel_rfl) (by kernel_rfl) (fun _ _ _ h => h) (Or.inl ⟨by rfl, ?_⟩) (KC.out _ bl) ?_
      rotate_left
      · (intro w hSw; (try dsimp only at hSw); go_simp; try with_reducible rfl)
      simp only [Act.put, List.setIfInBounds_toArray, List.set_cons_zero, List.set_cons_succ]
      refine anyE_take (i := 16) (oi := { dst := some 65, op := Op.move (Operand.tmp 10), type := 3, pos := "vergerref12.go:80", after := #[], guard := none }) (v := ?_) rfl (by kernel_rfl)  (by kernel_rfl) (by kernel_rfl) (by kernel_rfl) (fun _ _ _ h => h) (Or.inl ⟨by rfl, ?_⟩) (KC.out _ bl) ?_
      rotate_left
      · (intro w hSw; (try dsimp only at hSw); go_simp; try with_reducible rfl)
      simp only [Act.put, List.setIfInBounds_toArray, List.set_cons_zero, List.set_cons_succ]
      refine anyE_take (i := 17) (oi := { dst := some 66, op := Op.slice 28 (Operand.tmp 64) (some (Operand.tmp 65)) none none, type := 28, pos := "vergerref12.go:80", after := #[{ on := 15, ground := Ground.data }, { on := 16, ground := Ground.data }], guard := none }) (v := ?_) rfl (by kernel_rfl)  (by kernel_rfl) (by kernel_rfl) (by kernel_rfl) (fun _ _ _ h => h) (Or.inl ⟨by rfl, ?_⟩) (KC.out _ bl) ?_
      rotate_left
      · (intro w hSw; (try dsimp only at hSw); go_simp; try with_reducible rfl)
      simp only [Act.put, List.setIfInBounds_toArray, List.set_cons_zero, List.set_cons_succ]
      refine anyE_ready (rs := [1, 10]) (by kernel_rfl) (by simp) ?_
      refine AllE.cons (o := { dst := some 50, op := Op.buildSlice 28 0 #[], type := 28, pos := "vergerref12.go:80", after := #[], guard := none }) rfl (fun Kt hKt => ?_) ?_
      · go_simp
        refine hKt.out _ _ (fun _ => KC.out _ bl0) ?_
        clear hKt Kt
        try simp only [Act.put, List.setIfInBounds_toArray, List.set_cons_zero, List.set_cons_succ]
        refine anyE_ready (rs := [8, 10]) (by kernel_rfl) (by simp) ?_
        refine AllE.cons (o := { dst := some 57, op := Op.call { callee := Callee.builtin Builtin.append, args := #[Operand.tmp 50, Operand.tmp 56], argTypes := #[28, 28] }, type := 28, pos := "vergerref12.go:80", after := #[{ on := 1, ground := Ground.data }, { on := 7, ground := Ground.data }], guard := none }) rfl (fun Kt hKt => ?_) ?_
        · refine step_app ((w2.alloc (.cells #[] 33)).drew) (by rfl) _ _ 28 28 (by rfl) (.slice (some ⟨w2.heap.size, 0, none⟩) 0 0) (.slice a k cap) (by rfl) (by rfl) (.slice ra1 k ta1) wa1 ha1 ?_
          refine hKt.out _ _ (fun _ => KC.out _ ba1) ?_
          clear hKt Kt
          try simp only [Act.put, List.setIfInBounds_toArray, List.set_cons_zero, List.set_cons_succ]
          refine anyE_ready (rs := [10]) (by kernel_rfl) (by simp) ?_
          refine AllE.cons (o := { dst := some 59, op := Op.buildSlice 28 1 #[(0, Operand.tmp 58)], type := 28, pos := "vergerref12.go:80", after := #[{ on := 9, ground := Ground.data }], guard := none }) rfl (fun Kt hKt => ?_) ?_
          · go_simp
            refine hKt.out _ _ (fun _ => KC.out _ bla) ?_
            clear hKt Kt
            try simp only [Act.put, List.setIfInBounds_toArray, List.set_cons_zero, List.set_cons_succ]
            refine anyE_ready (rs := [11]) (by kernel_rfl) (by simp) ?_
            refine AllE.cons (o := { dst := some 60, op := Op.call { callee := Callee.builtin Builtin.append, args := #[Operand.tmp 57, Operand.tmp 59], argTypes := #[28, 28] }, type := 28, pos := "vergerref12.go:80", after := #[{ on := 8, ground := Ground.data }, { on := 10, ground := Ground.data }, { on := 8, ground := Ground.chain }], guard := none }) rfl (fun Kt hKt => ?_) ?_
            · refine step_app (wa1.alloc (.cells #[.int .u64 (D : Int), .int .i64 i] 33)) (by rfl) _ _ 28 28 (by rfl) (.slice ra1 k ta1) (.slice (some ⟨wa1.heap.size, 0, none⟩) 1 1) (by rfl) (by rfl) (.slice ra2 na2 ta2) wa2 ha2 ?_
              refine hKt.out _ _ (fun _ => KC.out _ ba2) ?_
              clear hKt Kt
              try simp only [Act.put, List.setIfInBounds_toArray, List.set_cons_zero, List.set_cons_succ]
              refine anyE_ready (rs := [18]) (by kernel_rfl) (by simp) ?_
              refine AllE.cons (o := { dst := some 67, op := Op.call { callee := Callee.builtin Builtin.append, args := #[Operand.tmp 60, Operand.tmp 66], argTypes := #[28, 28] }, type := 28, pos := "vergerref12.go:80", after := #[{ on := 11, ground := Ground.data }, { on := 17, ground := Ground.data }, { on := 11, ground := Ground.chain }], guard := none }) rfl (fun Kt hKt => ?_) ?_
              · refine step_app wa2 (by rfl) _ _ 28 28 (by rfl) (.slice ra2 na2 ta2) (.slice p1 (T.length - k) (cap - k)) (by rfl) (by rfl) (.slice ra3 na3 ta3) wa3 ha3 ?_
                refine hKt.out _ _ (fun _ => KC.out _ ba) ?_
                clear hKt Kt
                try simp only [Act.put, List.setIfInBounds_toArray, List.set_cons_zero, List.set_cons_succ]
                refine anyF_take [20] (i := 19) (oi := { dst := some 68, op := Op.nilCheck (Operand.tmp 49), type := 0, pos := "vergerref12.go:80", after := #[{ on := 0, ground := Ground.data }, { on := 0, ground := Ground.phase }, { on := 1, ground := Ground.phase }, { on := 2, ground := Ground.phase }, { on := 3, ground := Ground.phase }, { on := 4, ground := Ground.phase }, { on := 5, ground := Ground.phase }, { on := 6, ground := Ground.phase }, { on := 7, ground := Ground.phase }, { on := 8, ground := Ground.phase }, { on := 9, ground := Ground.phase }, { on := 10, ground := Ground.phase }, { on := 11, ground := Ground.phase }, { on := 12, ground := Ground.phase }, { on := 13, ground := Ground.phase }, { on := 14, ground := Ground.phase }, { on := 15, ground := Ground.phase }, { on := 16, ground := Ground.phase }, { on := 17, ground := Ground.phase }, { on := 18, ground := Ground.phase }], guard := none }) (v := ?_) rfl (by kernel_rfl) (by kernel_rfl)  (by kernel_rfl) (by kernel_rfl) (by kernel_rfl) (fun _ _ _ h => h) (Or.inl ⟨by rfl, ?_⟩) (KC.out _ ba) ?_
                rotate_left
                · (intro w hSw; (try dsimp only at hSw); go_simp; try with_reducible rfl)
                simp only [Act.put, List.setIfInBounds_toArray, List.set_cons_zero, List.set_cons_succ]
                refine anyE_take (i := 20) (oi := { dst := some 69, op := Op.fieldAddr 45 (Operand.tmp 68) 1, type := 0, pos := "vergerref12.go:80", after := #[{ on := 19, ground := Ground.data }, { on := 0, ground := Ground.phase }, { on := 1, ground := Ground.phase }, { on := 2, ground := Ground.phase }, { on := 3, ground := Ground.phase }, { on := 4, ground := Ground.phase }, { on := 5, ground := Ground.phase }, { on := 6, ground := Ground.phase }, { on := 7, ground := Ground.phase }, { on := 8, ground := Ground.phase }, { on := 9, ground := Ground.phase }, { on := 10, ground := Ground.phase }, { on := 11, ground := Ground.phase }, { on := 12, ground := Ground.phase }, { on := 13, ground := Ground.phase }, { on := 14, ground := Ground.phase }, { on := 15, ground := Ground.phase }, { on := 16, ground := Ground.phase }, { on := 17, ground := Ground.phase }, { on := 18, ground := Ground.phase }], guard := none }) (v := ?_) rfl (by kernel_rfl)  (by kernel_rfl) (by kernel_rfl) (by kernel_rfl) (fun _ _ _ h => h) (Or.inl ⟨by rfl, ?_⟩) (KC.out _ ba) ?_
                rotate_left
                · (intro w hSw; (try dsimp only at hSw); go_simp; try with_reducible rfl)
                simp only [Act.put, List.setIfInBounds_toArray, List.set_cons_zero, List.set_cons_succ]
                refine anyE_ready (rs := [21]) (by kernel_rfl) (by simp) ?_
                refine AllE.cons (o := { dst := none, op := Op.store 28 (Operand.tmp 69) (Operand.tmp 67), type := 0, pos := "vergerref12.go:80", after := #[{ on := 20, ground := Ground.data }, { on := 18, ground := Ground.data }, { on := 18, ground := Ground.chain }, { on := 0, ground := Ground.phase }, { on := 1, ground := Ground.phase }, { on := 2, ground := Ground.phase }, { on := 3, ground := Ground.phase }, { on := 4, ground := Ground.phase }, { on := 5, ground := Ground.phase }, { on := 6, ground := Ground.phase }, { on := 7, ground := Ground.phase }, { on := 8, ground := Ground.phase }, { on := 9, ground := Ground.phase }, { on := 10, ground := Ground.phase }, { on := 11, ground := Ground.phase }, { on := 12, ground := Ground.phase }, { on := 13, ground := Ground.phase }, { on := 14, ground := Ground.phase }, { on := 15, ground := Ground.phase }, { on := 16, ground := Ground.phase }, { on := 17, ground := Ground.phase }, { on := 18, ground := Ground.phase }], guard := none }) rfl (fun Kt hKt => ?_) ?_
                · go_simp
                  refine hKt.out _ _ (fun h => absurd rfl h) ?_
                  clear hKt Kt
                  try simp only [Act.put, List.setIfInBounds_toArray, List.set_cons_zero, List.set_cons_succ]
                  refine anyE_done (by kernel_rfl) ?_ _
                  go_wp2
                  go_ret
                  exact ⟨rfl, Fa.out⟩
                exact AllE.nil
              exact AllE.nil
            exact AllE.nil
          exact AllE.nil
        refine AllE.cons (o := { dst := some 59, op := Op.buildSlice 28 1 #[(0, Operand.tmp 58)], type := 28, pos := "vergerref12.go:80", after := #[{ on := 9, ground := Ground.data }], guard := none }) rfl (fun Kt hKt => ?_) ?_
        · go_simp
          refine hKt.out _ _ (fun _ => KC.out _ bl2) ?_
          clear hKt Kt
          try simp only [Act.put, List.setIfInBounds_toArray, List.set_cons_zero, List.set_cons_succ]
          refine anyE_ready (rs := [8]) (by kernel_rfl) (by simp) ?_
          refine AllE.cons (o := { dst := some 57, op := Op.call { callee := Callee.builtin Builtin.append, args := #[Operand.tmp 50, Operand.tmp 56], argTypes := #[28, 28] }, type := 28, pos := "vergerref12.go:80", after := #[{ on := 1, ground := Ground.data }, { on := 7, ground := Ground.data }], guard := none }) rfl (fun Kt hKt => ?_) ?_
          · refine step_app (((w2.alloc (.cells #[] 33)).alloc (.cells #[.int .u64 (D : Int), .int .i64 i] 33)).drew) (by rfl) _ _ 28 28 (by rfl) (.slice (some ⟨w2.heap.size, 0, none⟩) 0 0) (.slice a k cap) (by rfl) (by rfl) (.slice rb1 k tb1) wb1 hb1 ?_
            refine hKt.out _ _ (fun _ => KC.out _ bb1) ?_
            clear hKt Kt
            try simp only [Act.put, List.setIfInBounds_toArray, List.set_cons_zero, List.set_cons_succ]
            refine anyE_ready (rs := [11]) (by kernel_rfl) (by simp) ?_
            refine AllE.cons (o := { dst := some 60, op := Op.call { callee := Callee.builtin Builtin.append, args := #[Operand.tmp 57, Operand.tmp 59], argTypes := #[28, 28] }, type := 28, pos := "vergerref12.go:80", after := #[{ on := 8, ground := Ground.data }, { on := 10, ground := Ground.data }, { on := 8, ground := Ground.chain }], guard := none }) rfl (fun Kt hKt => ?_) ?_
            · refine step_app wb1 (by rfl) _ _ 28 28 (by rfl) (.slice rb1 k tb1) (.slice (some ⟨w2.heap.size + 1, 0, none⟩) 1 1) (by rfl) (by rfl) (.slice rb2 nb2 tb2) wb2 hb2 ?_
              refine hKt.out _ _ (fun _ => KC.out _ bb2) ?_
              clear hKt Kt
              try simp only [Act.put, List.setIfInBounds_toArray, List.set_cons_zero, List.set_cons_succ]
              refine anyE_ready (rs := [18]) (by kernel_rfl) (by simp) ?_
              refine AllE.cons (o := { dst := some 67, op := Op.call { callee := Callee.builtin Builtin.append, args := #[Operand.tmp 60, Operand.tmp 66], argTypes := #[28, 28] }, type := 28, pos := "vergerref12.go:80", after := #[{ on := 11, ground := Ground.data }, { on := 17, ground := Ground.data }, { on := 11, ground := Ground.chain }], guard := none }) rfl (fun Kt hKt => ?_) ?_
              · refine step_app wb2 (by rfl) _ _ 28 28 (by rfl) (.slice rb2 nb2 tb2) (.slice p1 (T.length - k) (cap - k)) (by rfl) (by rfl) (.slice rb3 nb3 tb3) wb3 hb3 ?_
                refine hKt.out _ _ (fun _ => KC.out _ bb) ?_
                clear hKt Kt
                try simp only [Act.put, List.setIfInBounds_toArray, List.set_cons_zero, List.set_cons_succ]
                refine anyF_take [20] (i := 19) (oi := { dst := some 68, op := Op.nilCheck (Operand.tmp 49), type := 0, pos := "vergerref12.go:80", after := #[{ on := 0, ground := Ground.data }, { on := 0, ground := Ground.phase }, { on := 1, ground := Ground.phase }, { on := 2, ground := Ground.phase }, { on := 3, ground := Ground.phase }, { on := 4, ground := Ground.phase }, { on := 5, ground := Ground.phase }, { on := 6, ground := Ground.phase }, { on := 7, ground := Ground.phase }, { on := 8, ground := Ground.phase }, { on := 9, ground := Ground.phase }, { on := 10, ground := Ground.phase }, { on := 11, ground := Ground.phase }, { on := 12, ground := Ground.phase }, { on := 13, ground := Ground.phase }, { on := 14, ground := Ground.phase }, { on := 15, ground := Ground.phase }, { on := 16, ground := Ground.phase }, { on := 17, ground := Ground.phase }, { on := 18, ground := Ground.phase }], guard := none }) (v := ?_) rfl (by kernel_rfl) (by kernel_rfl)  (by kernel_rfl) (by kernel_rfl) (by kernel_rfl) (fun _ _ _ h => h) (Or.inl ⟨by rfl, ?_⟩) (KC.out _ bb) ?_
                rotate_left
                · (intro w hSw; (try dsimp only at hSw); go_simp; try with_reducible rfl)
                simp only [Act.put, List.setIfInBounds_toArray, List.set_cons_zero, List.set_cons_succ]
                refine anyE_take (i := 20) (oi := { dst := some 69, op := Op.fieldAddr 45 (Operand.tmp 68) 1, type := 0, pos := "vergerref12.go:80", after := #[{ on := 19, ground := Ground.data }, { on := 0, ground := Ground.phase }, { on := 1, ground := Ground.phase }, { on := 2, ground := Ground.phase }, { on := 3, ground := Ground.phase }, { on := 4, ground := Ground.phase }, { on := 5, ground := Ground.phase }, { on := 6, ground := Ground.phase }, { on := 7, ground := Ground.phase }, { on := 8, ground := Ground.phase }, { on := 9, ground := Ground.phase }, { on := 10, ground := Ground.phase }, { on := 11, ground := Ground.phase }, { on := 12, ground := Ground.phase }, { on := 13, ground := Ground.phase }, { on := 14, ground := Ground.phase }, { on := 15, ground := Ground.phase }, { on := 16, ground := Ground.phase }, { on := 17, ground := Ground.phase }, { on := 18, ground := Ground.phase }], guard := none }) (v := ?_) rfl (by kernel_rfl)  (by kernel_rfl) (by kernel_rfl) (by kernel_rfl) (fun _ _ _ h => h) (Or.inl ⟨by rfl, ?_⟩) (KC.out _ bb) ?_
                rotate_left
                · (intro w hSw; (try dsimp only at hSw); go_simp; try with_reducible rfl)
                simp only [Act.put, List.setIfInBounds_toArray, List.set_cons_zero, List.set_cons_succ]
                refine anyE_ready (rs := [21]) (by kernel_rfl) (by simp) ?_
                refine AllE.cons (o := { dst := none, op := Op.store 28 (Operand.tmp 69) (Operand.tmp 67), type := 0, pos := "vergerref12.go:80", after := #[{ on := 20, ground := Ground.data }, { on := 18, ground := Ground.data }, { on := 18, ground := Ground.chain }, { on := 0, ground := Ground.phase }, { on := 1, ground := Ground.phase }, { on := 2, ground := Ground.phase }, { on := 3, ground := Ground.phase }, { on := 4, ground := Ground.phase }, { on := 5, ground := Ground.phase }, { on := 6, ground := Ground.phase }, { on := 7, ground := Ground.phase }, { on := 8, ground := Ground.phase }, { on := 9, ground := Ground.phase }, { on := 10, ground := Ground.phase }, { on := 11, ground := Ground.phase }, { on := 12, ground := Ground.phase }, { on := 13, ground := Ground.phase }, { on := 14, ground := Ground.phase }, { on := 15, ground := Ground.phase }, { on := 16, ground := Ground.phase }, { on := 17, ground := Ground.phase }, { on := 18, ground := Ground.phase }], guard := none }) rfl (fun Kt hKt => ?_) ?_
                · go_simp
                  refine hKt.out _ _ (fun h => absurd rfl h) ?_
                  clear hKt Kt
                  try simp only [Act.put, List.setIfInBounds_toArray, List.set_cons_zero, List.set_cons_succ]
                  refine anyE_done (by kernel_rfl) ?_ _
                  go_wp2
                  go_ret
                  exact ⟨rfl, Fb.out⟩
                exact AllE.nil
              exact AllE.nil
            exact AllE.nil
          exact AllE.nil
        exact AllE.nil
      refine AllE.cons (o := { dst := some 59, op := Op.buildSlice 28 1 #[(0, Operand.tmp 58)], type := 28, pos := "vergerref12.go:80", after := #[{ on := 9, ground := Ground.data }], guard := none }) rfl (fun Kt hKt => ?_) ?_
      · go_simp
        refine hKt.out _ _ (fun _ => KC.out _ bl1) ?_
        clear hKt Kt
        try simp only [Act.put, List.setIfInBounds_toArray, List.set_cons_zero, List.set_cons_succ]
        refine anyE_ready (rs := [1]) (by kernel_rfl) (by simp) ?_
        refine AllE.cons (o := { dst := some 50, op := Op.buildSlice 28 0 #[], type := 28, pos := "vergerref12.go:80", after := #[], guard := none }) rfl (fun Kt hKt => ?_) ?_
        · go_simp
          refine hKt.out _ _ (fun _ => KC.out _ bl3) ?_
          clear hKt Kt
          try simp only [Act.put, List.setIfInBounds_toArray, List.set_cons_zero, List.set_cons_succ]
          refine anyE_ready (rs := [8]) (by kernel_rfl) (by simp) ?_
          refine AllE.cons (o := { dst := some 57, op := Op.call { callee := Callee.builtin Builtin.append, args := #[Operand.tmp 50, Operand.tmp 56], argTypes := #[28, 28] }, type := 28, pos := "vergerref12.go:80", after := #[{ on := 1, ground := Ground.data }, { on := 7, ground := Ground.data }], guard := none }) rfl (fun Kt hKt => ?_) ?_
          · refine step_app (((w2.alloc (.cells #[.int .u64 (D : Int), .int .i64 i] 33)).alloc (.cells #[] 33)).drew) (by rfl) _ _ 28 28 (by rfl) (.slice (some ⟨w2.heap.size + 1, 0, none⟩) 0 0) (.slice a k cap) (by rfl) (by rfl) (.slice rc1 k tc1) wc1 hc1 ?_
            refine hKt.out _ _ (fun _ => KC.out _ bc1) ?_
            clear hKt Kt
            try simp only [Act.put, List.setIfInBounds_toArray, List.set_cons_zero, List.set_cons_succ]
            refine anyE_ready (rs := [11]) (by kernel_rfl) (by simp) ?_
            refine AllE.cons (o := { dst := some 60, op := Op.call { callee := Callee.builtin Builtin.append, args := #[Operand.tmp 57, Operand.tmp 59], argTypes := #[28, 28] }, type := 28, pos := "vergerref12.go:80", after := #[{ on := 8, ground := Ground.data }, { on := 10, ground := Ground.data }, { on := 8, ground := Ground.chain }], guard := none }) rfl (fun Kt hKt => ?_) ?_
            · refine step_app wc1 (by rfl) _ _ 28 28 (by rfl) (.slice rc1 k tc1) (.slice (some ⟨w2.heap.size, 0, none⟩) 1 1) (by rfl) (by rfl) (.slice rc2 nc2 tc2) wc2 hc2 ?_
              refine hKt.out _ _ (fun _ => KC.out _ bc2) ?_
              clear hKt Kt
              try simp only [Act.put, List.setIfInBounds_toArray, List.set_cons_zero, List.set_cons_succ]
              refine anyE_ready (rs := [18]) (by kernel_rfl) (by simp) ?_
              refine AllE.cons (o := { dst := some 67, op := Op.call { callee := Callee.builtin Builtin.append, args := #[Operand.tmp 60, Operand.tmp 66], argTypes := #[28, 28] }, type := 28, pos := "vergerref12.go:80", after := #[{ on := 11, ground := Ground.data }, { on := 17, ground := Ground.data }, { on := 11, ground := Ground.chain }], guard := none }) rfl (fun Kt hKt => ?_) ?_
              · refine step_app wc2 (by rfl) _ _ 28 28 (by rfl) (.slice rc2 nc2 tc2) (.slice p1 (T.length - k) (cap - k)) (by rfl) (by rfl) (.slice rc3 nc3 tc3) wc3 hc3 ?_
                refine hKt.out _ _ (fun _ => KC.out _ bc) ?_
                clear hKt Kt
                try simp only [Act.put, List.setIfInBounds_toArray, List.set_cons_zero, List.set_cons_succ]
                refine anyF_take [20] (i := 19) (oi := { dst := some 68, op := Op.nilCheck (Operand.tmp 49), type := 0, pos := "vergerref12.go:80", after := #[{ on := 0, ground := Ground.data }, { on := 0, ground := Ground.phase }, { on := 1, ground := Ground.phase }, { on := 2, ground := Ground.phase }, { on := 3, ground := Ground.phase }, { on := 4, ground := Ground.phase }, { on := 5, ground := Ground.phase }, { on := 6, ground := Ground.phase }, { on := 7, ground := Ground.phase }, { on := 8, ground := Ground.phase }, { on := 9, ground := Ground.phase }, { on := 10, ground := Ground.phase }, { on := 11, ground := Ground.phase }, { on := 12, ground := Ground.phase }, { on := 13, ground := Ground.phase }, { on := 14, ground := Ground.phase }, { on := 15, ground := Ground.phase }, { on := 16, ground := Ground.phase }, { on := 17, ground := Ground.phase }, { on := 18, ground := Ground.phase }], guard := none }) (v := ?_) rfl (by kernel_rfl) (by kernel_rfl)  (by kernel_rfl) (by kernel_rfl) (by kernel_rfl) (fun _ _ _ h => h) (Or.inl ⟨by rfl, ?_⟩) (KC.out _ bc) ?_
                rotate_left
                · (intro w hSw; (try dsimp only at hSw); go_simp; try with_reducible rfl)
                simp only [Act.put, List.setIfInBounds_toArray, List.set_cons_zero, List.set_cons_succ]
                refine anyE_take (i := 20) (oi := { dst := some 69, op := Op.fieldAddr 45 (Operand.tmp 68) 1, type := 0, pos := "vergerref12.go:80", after := #[{ on := 19, ground := Ground.data }, { on := 0, ground := Ground.phase }, { on := 1, ground := Ground.phase }, { on := 2, ground := Ground.phase }, { on := 3, ground := Ground.phase }, { on := 4, ground := Ground.phase }, { on := 5, ground := Ground.phase }, { on := 6, ground := Ground.phase }, { on := 7, ground := Ground.phase }, { on := 8, ground := Ground.phase }, { on := 9, ground := Ground.phase }, { on := 10, ground := Ground.phase }, { on := 11, ground := Ground.phase }, { on := 12, ground := Ground.phase }, { on := 13, ground := Ground.phase }, { on := 14, ground := Ground.phase }, { on := 15, ground := Ground.phase }, { on := 16, ground := Ground.phase }, { on := 17, ground := Ground.phase }, { on := 18, ground := Ground.phase }], guard := none }) (v := ?_) rfl (by kernel_rfl)  (by kernel_rfl) (by kernel_rfl) (by kernel_rfl) (fun _ _ _ h => h) (Or.inl ⟨by rfl, ?_⟩) (KC.out _ bc) ?_
                rotate_left
                · (intro w hSw; (try dsimp only at hSw); go_simp; try with_reducible rfl)
                simp only [Act.put, List.setIfInBounds_toArray, List.set_cons_zero, List.set_cons_succ]
                refine anyE_ready (rs := [21]) (by kernel_rfl) (by simp) ?_
                refine AllE.cons (o := { dst := none, op := Op.store 28 (Operand.tmp 69) (Operand.tmp 67), type := 0, pos := "vergerref12.go:80", after := #[{ on := 20, ground := Ground.data }, { on := 18, ground := Ground.data }, { on := 18, ground := Ground.chain }, { on := 0, ground := Ground.phase }, { on := 1, ground := Ground.phase }, { on := 2, ground := Ground.phase }, { on := 3, ground := Ground.phase }, { on := 4, ground := Ground.phase }, { on := 5, ground := Ground.phase }, { on := 6, ground := Ground.phase }, { on := 7, ground := Ground.phase }, { on := 8, ground := Ground.phase }, { on := 9, ground := Ground.phase }, { on := 10, ground := Ground.phase }, { on := 11, ground := Ground.phase }, { on := 12, ground := Ground.phase }, { on := 13, ground := Ground.phase }, { on := 14, ground := Ground.phase }, { on := 15, ground := Ground.phase }, { on := 16, ground := Ground.phase }, { on := 17, ground := Ground.phase }, { on := 18, ground := Ground.phase }], guard := none }) rfl (fun Kt hKt => ?_) ?_
                · go_simp
                  refine hKt.out _ _ (fun h => absurd rfl h) ?_
                  clear hKt Kt
                  try simp only [Act.put, List.setIfInBounds_toArray, List.set_cons_zero, List.set_cons_succ]
                  refine anyE_done (by kernel_rfl) ?_ _
                  go_wp2
                  go_ret
                  exact ⟨rfl, Fc.out⟩
                exact AllE.nil
              exact AllE.nil
            exact AllE.nil
          exact AllE.nil
        exact AllE.nil
      exact AllE.nil
end Go.Proofs.YtbopobgnmkhabaaDoor
