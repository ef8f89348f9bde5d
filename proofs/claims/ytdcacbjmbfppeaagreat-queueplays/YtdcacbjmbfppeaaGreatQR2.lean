/- The document's own queue: Slots, All, Least. -/
import Derived.Test.YtdcacbjmbfppeaaGreatQR
import Derived.Test.YtdcacbjmbfppeaaGreatJF
namespace Go.Proofs.YtdcacbjmbfppeaaGreat
open Go.RowKit Go.Lib Go.Sort
set_option linter.unusedVariables false

set_option maxHeartbeats 400000 in
theorem refMerge_made (a a' : Option Addr) (cap cap' : Nat) (c d : List Ent) (w : World) (h : IsL w a cap c) (h' : IsL w a' cap' d) (hd : c.length + d.length ≤ 10000) :
    Calls Tryz.prog 39 #[.slice a c.length cap, .slice a' d.length cap'] w (Made w (sortE (c ++ d))) := by
  have b0 : Below w.heap.size w (w.alloc (.cells #[] 34)) := (Below.refl _ _).alloc (Nat.le_refl _) _
  have o0 := OwnE.made (base := w.heap.size) w #[] 0 (Nat.le_refl _) (by omega) rfl
  obtain ⟨v1, w1, h1, o1, g1⟩ := app_run (d := []) (c := c) o0 (h.below b0) (by simp; omega) b0.size 45
  obtain ⟨r1, t1, rfl, _⟩ := o1.isL
  have b1 : Below w.heap.size w w1 := OwnE.grown o0 b0 g1 b0.size
  obtain ⟨v2, w2, h2, o2, g2⟩ := app_run (c := d) o1 (h'.below b1) (by simp; omega) b1.size 45
  obtain ⟨r2, t2, rfl, l2⟩ := o2.isL
  have b2 : Below w.heap.size w w2 := OwnE.grown o1 b1 g2 b1.size
  obtain ⟨n1, hn1⟩ : ∃ n1, ([] ++ c).length = n1 := ⟨_, rfl⟩
  obtain ⟨n2, hn2⟩ : ∃ n2, ([] ++ c ++ d).length = n2 := ⟨_, rfl⟩
  rw [hn1] at h1 h2
  rw [hn2] at h2
  have st := refSort_made r2 t2 ([] ++ c ++ d) w2 l2 (by simp; omega)
  rw [hn2, show [] ++ c ++ d = c ++ d from rfl] at st
  have B2 : Aside (Below w.heap.size w w2) := b2
  clear hn1 hn2 o0 o1 o2 g1 g2 b0 b1 b2 l2 h h'
  go_enter Tryz.func39, Tryz.ntmps39
  go_wp2_with (at_builtin; first | refine Lib.wpList_append_run w1 rfl _ _ 45 45 rfl (.slice r1 n1 t1) (.slice a' d.length cap') rfl rfl (.slice r2 n2 t2) w2 h2 ?_ | refine Lib.wpList_append_run (w.alloc (.cells #[] 34)) rfl _ _ 45 45 rfl (.slice (some ⟨w.heap.size, 0, none⟩) 0 0) (.slice a c.length cap) rfl rfl (.slice r1 n1 t1) w1 h1 ?_)
  refine st.mono ?_
  rintro e w3 ⟨r3, t3, rfl, l3, b3⟩
  have B3 : Aside (Below w.heap.size w w3) := Below.trans B2.out (Below.mono b3 B2.out.size)
  have L3 : Aside (OwnE w3 w.heap.size (.slice r3 (sortE (c ++ d)).length t3) (sortE (c ++ d))) := l3.low B2.out.size
  clear l3 b3 st
  go_wp2
  go_ret
  exact ⟨r3, t3, rfl, L3.out, B3.out⟩

/-- What the first k slots have. -/
def rsAll (g : Nat → RS) : Nat → List Ent
  | 0 => []
  | k + 1 => rsAll g k ++ rsL (g k)
theorem rsAll_len (g : Nat → RS) : ∀ k, (rsAll g k).length ≤ k
  | 0 => Nat.le_refl _
  | k + 1 => by
    have := rsAll_len g k
    show (rsAll g k ++ rsL (g k)).length ≤ _
    rw [List.length_append]
    unfold rsL
    split <;> simp <;> omega
set_option maxHeartbeats 2000000 in
set_option maxRecDepth 100000 in
theorem rslots_any (w : World) (base B SR LR T K : Nat) (g : Nat → RS) (ow : Nat → List Ent) (sh : List Ent) (m : Nat) (h : RQ w base B SR LR T K g ow sh) (hT : T ≤ 8) (hm : (rsAll g T).length = m) :
    Calls Tryz.prog 42 #[ptr B] w (PivO w m (rsAll g T)) := by
  have H : Aside (RQ w base B SR LR T K g ow sh) := h
  have HM : Hid _ := hm
  have CC : Aside (∀ W, Below w.heap.size w W → W.cell? ⟨B, 1, none⟩ = some (.slice (some ⟨SR, 0, none⟩) T T) ∧ B < W.heap.size ∧ SR < W.heap.size) := fun W hW => by
    obtain ⟨a, cap, _, c1, _⟩ := (H.out.below hW).cells
    exact ⟨c1, (H.out.below hW).lt.1, (H.out.below hW).lt.2.1⟩
  clear h hm
  go_enter Tryz.func42, Tryz.ntmps42
  go_wp2
  go_loopg [3, 4] T (fun kx s3 s4 wr => ∃ (i z : Nat) (r : Option Addr) (t : Nat), s4 = .int .i64 i ∧ s3 = .slice r z t ∧ Hid ((rsAll g i).length = z) ∧ i ≤ T ∧ T - i ≤ kx ∧ Aside (OwnE wr w.heap.size (.slice r z t) (rsAll g i)) ∧ Aside (Below w.heap.size w wr))
  case atStart => exact ⟨0, 0, none, 0, rfl, rfl, rfl, by omega, by omega, OwnE.nil _ _, Below.refl _ _⟩
  case round =>
    obtain ⟨i, z, r, t, rfl, rfl, HZ, hk, hkx, O, D⟩ := hrel
    have zle : z ≤ 8 := by have h1 := HZ.out; have h2 := rsAll_len g i; omega
    have sz := D.out.size
    obtain ⟨c1, bl, sl⟩ := CC.out wr D.out
    by_cases hlt : i < T
    · have hz : (i : Int) < (T : Int) := by omega
      obtain ⟨q0, q1, q2, _⟩ := (H.out.below D.out).at hlt
      obtain ⟨⟨f, k, d⟩, e'⟩ : ∃ x, g i = x := ⟨_, rfl⟩
      rw [e'] at q0 q1 q2
      simp only at q0 q1 q2
      have e1 : rsAll g (i + 1) = rsAll g i ++ rsL (f, (k, d)) := by show rsAll g i ++ rsL (g i) = _; rw [e']
      clear e'
      cases f with
      | false =>
        have E2 : Hid (rsAll g (i + 1) = rsAll g i) := by show _ = _; rw [e1]; simp [rsL]
        clear e1
        go_wp2
        go_roundg (T - (i + 1))
        case measure => omega
        case rel => exact ⟨i + 1, z, r, t, by go_num, rfl, by rw [E2.out]; exact HZ, by omega, Nat.le_refl _, by rw [E2.out]; exact O, D⟩
      | true =>
        have E2 : Hid (rsAll g (i + 1) = rsAll g i ++ [(k, d)]) := by show _ = _; rw [e1]; simp [rsL]
        obtain ⟨r', t', w2, hr, o2, b2⟩ := slApp (k, d) O.out HZ.out (by omega) sz
        have D2 : Aside (Below w.heap.size w w2) := D.out.trans b2
        have O2 : Aside (OwnE w2 w.heap.size (.slice r' (z + 1) t') (rsAll g (i + 1))) := by rw [E2.out]; exact o2
        have HZ2 : Hid ((rsAll g (i + 1)).length = z + 1) := by show _ = _; rw [E2.out, List.length_append, HZ.out]; rfl
        simp only at hr
        clear e1 o2 b2 O D
        go_wp2_with (at_builtin; refine Lib.wpList_append_run (World.alloc wr _) rfl _ _ 45 45 rfl _ _ rfl rfl _ w2 hr ?_)
        go_roundg (T - (i + 1))
        case measure => omega
        case rel => exact ⟨i + 1, z + 1, r', t', by go_num, rfl, HZ2, by omega, Nat.le_refl _, O2, D2⟩
    · have hz : ¬ (i : Int) < (T : Int) := by omega
      obtain rfl : i = T := by omega
      obtain rfl : z = m := by rw [← HZ.out]; exact HM.out
      go_wp2
      go_ret
      exact ⟨r, t, rfl, O.out, D.out⟩
/-- What All has behind k lists. -/
def rAllK (g : Nat → RS) (ow : Nat → List Ent) (sh : List Ent) (T : Nat) : Nat → List Ent
  | 0 => sortE (rsAll g T ++ sh)
  | k + 1 => sortE (rAllK g ow sh T k ++ ow k)
def rAllN (g : Nat → RS) (ow : Nat → List Ent) (sh : List Ent) (T : Nat) : Nat → Nat
  | 0 => (rsAll g T ++ sh).length
  | k + 1 => rAllN g ow sh T k + (ow k).length
theorem rAllK_len (g : Nat → RS) (ow : Nat → List Ent) (sh : List Ent) (T : Nat) : ∀ k, (rAllK g ow sh T k).length = rAllN g ow sh T k
  | 0 => sortE_len _
  | k + 1 => by
    show (sortE _).length = _ + _
    rw [sortE_len, List.length_append, rAllK_len g ow sh T k]
theorem rAllN_mono (g : Nat → RS) (ow : Nat → List Ent) (sh : List Ent) (T : Nat) {k j : Nat} (h : k ≤ j) : rAllN g ow sh T k ≤ rAllN g ow sh T j := by
  induction h with
  | refl => exact Nat.le_refl _
  | step _ ih => exact Nat.le_trans ih (Nat.le_add_right _ _)
set_option maxHeartbeats 2000000 in
set_option maxRecDepth 100000 in
theorem rall_any (w : World) (base B SR LR T K : Nat) (g : Nat → RS) (ow : Nat → List Ent) (sh : List Ent) (h : RQ w base B SR LR T K g ow sh) (hT : T ≤ 8) (hm : rAllN g ow sh T T ≤ 10000) :
    Calls Tryz.prog 43 #[ptr B] w (Made w (rAllK g ow sh T T)) := by
  have H : Aside (RQ w base B SR LR T K g ow sh) := h
  obtain ⟨n0, hn0⟩ : ∃ n, (rsAll g T).length = n := ⟨_, rfl⟩
  have sl := rslots_any w.drew base B SR LR T K g ow sh n0 (h.below (Below.refl _ _).drew) hT hn0
  obtain ⟨a, cap, c0, c1, c2, c3, il⟩ := h.cells
  have C3 : Aside (∀ W, Below w.heap.size w W → W.cell? ⟨B, 3, none⟩ = some (.slice a sh.length cap)) := fun W hW => by
    exact (hW.cell (p := ⟨B, 3, none⟩) h.lt.1).trans c3
  have CC : Aside (∀ W, Below w.heap.size w W → W.cell? ⟨B, 2, none⟩ = some (.slice (some ⟨LR, 0, none⟩) T T) ∧ B < W.heap.size ∧ LR < W.heap.size) := fun W hW => by
    obtain ⟨_, _, _, _, c2, _⟩ := (H.out.below hW).cells
    exact ⟨c2, (H.out.below hW).lt.1, (H.out.below hW).lt.2.2⟩
  have hb0 : Below w.heap.size w w := Below.refl _ _
  have hb1 : Below w.heap.size w w.drew := hb0.drew
  have SLT : Aside (Calls Tryz.prog 42 #[ptr B] w.drew (PivO w.drew n0 (rsAll g T))) := sl
  have l0 : (rsAll g T).length + sh.length ≤ 10000 := by
    have := rAllN_mono g ow sh T (Nat.zero_le T)
    have e : rAllN g ow sh T 0 = (rsAll g T ++ sh).length := rfl
    rw [e, List.length_append] at this
    omega
  have MG : Aside (∀ (x : Option Addr) (c : Nat) (W : World), Below w.heap.size w W → OwnE W w.heap.size (.slice x n0 c) (rsAll g T) → Calls Tryz.prog 39 #[.slice x n0 c, .slice a sh.length cap] W (Made W (sortE (rsAll g T ++ sh)))) := fun x c W hW o => by
    have ix : IsL W x c (rsAll g T) := by rw [← hn0] at o; exact o.is
    have := refMerge_made x a c cap (rsAll g T) sh W ix (il.below hW) l0
    rw [hn0] at this
    exact this
  have MX : Hid (rAllN g ow sh T T ≤ 10000) := hm
  obtain ⟨ns, hns⟩ : ∃ n, sh.length = n := ⟨_, rfl⟩
  rw [hns] at C3 MG
  have mx := mixed
  clear h c0 c1 c2 c3 il sl hm l0 hn0 hns
  go_enter Tryz.func43, Tryz.ntmps43
  go_wp2_with fail
  go_region_held3 (fun W => W.cell? ⟨B, 3, none⟩ = some (.slice a ns cap)) (first | with_reducible exact C3.out _ hb0 | with_reducible exact C3.out _ hb1 | with_reducible exact C3.out _ hb2 | with_reducible exact C3.out _ hb3)
    ((first
      | (go_at_call 39; (with_reducible refine Calls.mono (MG.out _ _ _ hb2 o2) ?_); rintro r w3 ⟨x3, y3, rfl, o3, d3⟩; have hb3 : Below w.heap.size w w3 := hb2.trans (d3.mono hb2.size))
      | (go_at_call 42; (with_reducible refine Calls.mono SLT.out ?_); rintro r w2 ⟨x2, y2, rfl, o2', d2⟩; have hb2 : Below w.heap.size w w2 := hb1.trans (d2.mono hb1.size); have o2 := OwnE.low o2' hb1.size)))
  have O3 : Aside (OwnE w3 w.heap.size (.slice x3 (rAllK g ow sh T 0).length y3) (rAllK g ow sh T 0)) := o3.low hb2.size
  have D3 : Aside (Below w.heap.size w w3) := hb3
  obtain ⟨z0, hz0⟩ : ∃ z, (sortE (rsAll g T ++ sh)).length = z := ⟨_, rfl⟩
  have HZ0 : Hid ((rAllK g ow sh T 0).length = z0) := hz0
  rw [HZ0.out] at O3
  rw [hz0]
  clear o2 o2' o3 d2 d3 hb0 hb1 hb2 hb3 SLT MG C3 hz0
  go_wp2
  go_loopg [3, 4] T (fun kx s3 s4 wr => ∃ (i z : Nat) (r : Option Addr) (t : Nat), s4 = .int .i64 i ∧ s3 = .slice r z t ∧ Hid ((rAllK g ow sh T i).length = z) ∧ i ≤ T ∧ T - i ≤ kx ∧ Aside (OwnE wr w.heap.size (.slice r z t) (rAllK g ow sh T i)) ∧ Aside (Below w.heap.size w wr))
  case atStart => exact ⟨0, z0, x3, y3, rfl, rfl, HZ0, by omega, by omega, O3, D3⟩
  case round =>
    clear O3 D3 HZ0
    obtain ⟨i, z, r, t, rfl, rfl, HZ, hk, hkx, O, D⟩ := hrel
    have sz := D.out.size
    obtain ⟨c1, bl, ll⟩ := CC.out wr D.out
    by_cases hlt : i < T
    · have hz : (i : Int) < (T : Int) := by omega
      obtain ⟨b, c, q0, iq⟩ := (H.out.below D.out).own hlt
      have io : IsL wr r t (rAllK g ow sh T i) := by have o := O.out; rw [← HZ.out] at o; exact o.is
      have mg := refMerge_made r b t c (rAllK g ow sh T i) (ow i) wr io iq (by
        have h1 := rAllN_mono g ow sh T (show i + 1 ≤ T by omega)
        have h2 : rAllN g ow sh T (i + 1) = rAllN g ow sh T i + (ow i).length := rfl
        have h3 := MX.out
        rw [rAllK_len]
        omega)
      obtain ⟨m, hm⟩ : ∃ m, (ow i).length = m := ⟨_, rfl⟩
      rw [HZ.out, hm] at mg
      rw [hm] at q0
      obtain ⟨z1, hz1⟩ : ∃ z, (rAllK g ow sh T (i + 1)).length = z := ⟨_, rfl⟩
      have HZ1 : Hid ((rAllK g ow sh T (i + 1)).length = z1) := hz1
      clear iq io hm hz1
      go_wp2_with fail
      refine mg.mono ?_
      rintro e w1 ⟨r1, t1, rfl, l1, b1⟩
      have D1 : Aside (Below w.heap.size w w1) := D.out.trans (b1.mono sz)
      have O1 : Aside (OwnE w1 w.heap.size (.slice r1 z1 t1) (rAllK g ow sh T (i + 1))) := by
        have o := l1.low sz
        rw [← HZ1.out]; exact o
      rw [show (sortE (rAllK g ow sh T i ++ ow i)).length = z1 from HZ1.out]
      clear mg l1 b1 q0 O D
      go_wp2
      go_roundg (T - (i + 1))
      case measure => omega
      case rel => exact ⟨i + 1, z1, r1, t1, by go_num, rfl, HZ1, by omega, Nat.le_refl _, O1, D1⟩
    · have hz : ¬ (i : Int) < (T : Int) := by omega
      obtain rfl : i = T := by omega
      go_wp2
      go_ret
      exact ⟨r, t, by rw [HZ.out]; rfl, by rw [HZ.out]; exact O.out, D.out⟩
end Go.Proofs.YtdcacbjmbfppeaaGreat
