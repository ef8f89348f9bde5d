/- Blocks: Cut. -/
import Derived.Test.YtoknpinlphbeoaaBlkD
import Derived.Deep.RegionHeld3
namespace Go.Proofs.Ytoknpinlphbeoaa
open Go.RowKit Go.Lib Go.Sort
set_option linter.unusedVariables false

/-- Two new blocks. -/
def MadeB2 (w : World) (c d : List Ent) (r : Ending) (w' : World) : Prop :=
  ∃ a p b q, r = .returned (.tuple #[.agg #[.int .i64 (lvl c.length), .slice a c.length p], .agg #[.int .i64 (lvl d.length), .slice b d.length q]]) ∧
    OwnE w' w.heap.size (.slice a c.length p) c ∧ OwnE w' w.heap.size (.slice b d.length q) d ∧ Below w.heap.size w w'

theorem keep_set {w : World} {S i : Nat} {v : Option Value} {p : Addr} {u : Value} (h : w.cell? ⟨S, i, none⟩ = v) (hp : p.block ≠ S) : (w.setCell p u).cell? ⟨S, i, none⟩ = v := by
  rw [World.cell?_setCell_other _ _ _ _ (by intro e; exact hp (by rw [e])), h]

set_option maxHeartbeats 1000000 in
theorem cut_any (i n : Int) (a : Option Addr) (cap : Nat) (d : List Ent) (w : World) (h : IsL w a cap d) (hd : d.length ≤ 1000000) :
    Calls Try.prog 11 #[.agg #[.int .i64 i, .slice a d.length cap], .int .i64 n] w (MadeB2 w (sortE (d.take (wth n d.length))) (sortE (d.drop (wth n d.length)))) := by
  obtain ⟨S, hS⟩ : ∃ S, w.heap.size = S := ⟨_, rfl⟩
  have HS : Hid _ := hS
  have hcap := h.le
  have hbig := h.big
  unfold maxLen at hbig
  obtain ⟨u, hu⟩ : ∃ u, ((w.alloc (.cells #[.int .i64 i, .slice a d.length cap] 26)).alloc (.cells #[.int .i64 0, .slice none 0 0] 26)).alloc (.cells #[.int .i64 0, .slice none 0 0] 26) = u := ⟨_, rfl⟩
  have HU : Hid _ := hu
  have b0 : Below S w u := by rw [← hu, ← hS]; exact (((Below.refl _ _).alloc (Nat.le_refl _) _).alloc (by simp) _).alloc (by simp; omega) _
  have su : u.heap.size = S + 3 := by rw [← hu, ← hS]; simp
  have x2 : Box2 (S + 2) (.int .i64 0) (.slice none 0 0) u := by
    rw [← hu, ← hS]
    have := Box2.new ((w.alloc (.cells #[.int .i64 i, .slice a d.length cap] 26)).alloc (.cells #[.int .i64 0, .slice none 0 0] 26)) (.int .i64 0) (.slice none 0 0) 26
    simpa using this
  have x1 : Box2 (S + 1) (.int .i64 0) (.slice none 0 0) u := by
    rw [← hu, ← hS]
    have := (Box2.new (w.alloc (.cells #[.int .i64 i, .slice a d.length cap] 26)) (.int .i64 0) (.slice none 0 0) 26).below ((Below.refl _ _).alloc (Nat.le_refl _) (.cells #[.int .i64 0, .slice none 0 0] 26)) (by simp)
    simpa using this
  have k1 : u.cell? ⟨S, 1, none⟩ = some (.slice a d.length cap) := by rw [← hu, ← hS]; exact (cells3 w _ _ _ _ _ _ 1).1
  have wi := within_any n d.length (by omega)
  have k0 := wth_le n d.length
  obtain ⟨K, hK⟩ : ∃ K, wth n d.length = K := ⟨_, rfl⟩
  rw [hK] at wi k0 ⊢
  have lu : IsL u a cap d := h.below (by rw [hS]; exact b0)
  obtain ⟨p1, hp1⟩ : ∃ p1, (if cap = K then a else a.map (·.add (K * 2))) = p1 := ⟨_, rfl⟩
  obtain ⟨c1, hc1⟩ : ∃ c1, sortE (d.take K) = c1 := ⟨_, rfl⟩
  obtain ⟨c2, hc2⟩ : ∃ c2, sortE (d.drop K) = c2 := ⟨_, rfl⟩
  have e1 : c1.length = K := by rw [← hc1, sortE_len]; simp; omega
  obtain ⟨J, hJ⟩ : ∃ J, d.length - K = J := ⟨_, rfl⟩
  have e2 : c2.length = J := by rw [← hc2, sortE_len, ← hJ]; simp
  obtain ⟨M1, hM1⟩ : ∃ M, lvl K = M := ⟨_, rfl⟩
  obtain ⟨M2, hM2⟩ : ∃ M, lvl J = M := ⟨_, rfl⟩
  have sA : ∀ W, IsL W a cap d → Calls Try.prog 10 #[.slice a K cap] W (fun r w' => ∃ x y, r = .returned (.agg #[.int .i64 M1, .slice x K y]) ∧ OwnE w' W.heap.size (.slice x K y) c1 ∧ Below W.heap.size W w') := fun W hW => by
    have := of_any a cap (d.take K) W (hW.take K) (by simp; omega)
    rw [show (d.take K).length = K by simp; omega] at this
    unfold MadeB at this
    rw [hc1, e1, hM1] at this
    exact this
  have sB : ∀ W, IsL W a cap d → Calls Try.prog 10 #[.slice p1 (d.length - K) (cap - K)] W (fun r w' => ∃ x y, r = .returned (.agg #[.int .i64 M2, .slice x J y]) ∧ OwnE w' W.heap.size (.slice x J y) c2 ∧ Below W.heap.size W w') := fun W hW => by
    have h2 := hW.drop K k0
    rw [hp1] at h2
    have := of_any p1 (cap - K) (d.drop K) W h2 (by simp; omega)
    rw [show (d.drop K).length = d.length - K by simp] at this
    unfold MadeB at this
    rw [hc2, e2, hM2] at this
    exact this
  rw [hc1, hc2]
  have E1 : Hid _ := e1
  have E2 : Hid _ := e2
  have HM1 : Hid _ := hM1
  have HM2 : Hid _ := hM2
  clear e1 e2 hM1 hM2 hc1 hc2 hJ
  have B0 : Aside (Below S w u) := b0
  have X1 : Aside (Box2 (S + 1) (.int .i64 0) (.slice none 0 0) u) := x1
  have X2 : Aside (Box2 (S + 2) (.int .i64 0) (.slice none 0 0) u) := x2
  have LU : Aside (IsL u a cap d) := lu
  have SU : Hid _ := su
  have j1 : (K : Int) ≤ (cap : Int) := by omega
  have j2 : (K : Int) ≤ (d.length : Int) := by omega
  have j3 : (0 : Int) ≤ (K : Int) := by omega
  clear hK b0 x1 x2 lu su hu h
  go_enter Try.func11, Try.ntmps11
  go_wp2_with fail
  rw [HU.out]
  refine (wi _).mono ?_
  rintro e w1 ⟨rfl, rfl⟩
  have KC : Aside (∀ v, Below w1.heap.size w1 v → (v.cell? ⟨S, 1, none⟩ = some (.slice a d.length cap) ∧ v.cell? ⟨S + 1, 0, none⟩ = some (.int .i64 0) ∧ v.cell? ⟨S + 1, 1, none⟩ = some (.slice none 0 0) ∧ v.cell? ⟨S + 2, 0, none⟩ = some (.int .i64 0) ∧ v.cell? ⟨S + 2, 1, none⟩ = some (.slice none 0 0)) ∧ v.frozen? ⟨S + 1, 0, none⟩ = false ∧ v.frozen? ⟨S + 1, 1, none⟩ = false ∧ v.frozen? ⟨S + 2, 0, none⟩ = false ∧ v.frozen? ⟨S + 2, 1, none⟩ = false) := fun v hv => by
    have y1 := X1.out.below hv (by rw [SU.out]; omega)
    have y2 := X2.out.below hv (by rw [SU.out]; omega)
    exact ⟨⟨(hv.cell (p := ⟨S, 1, none⟩) (by show S < w1.heap.size; rw [SU.out]; omega)).trans k1, y1.c0, y1.c1, y2.c0, y2.c1⟩, y1.f0, y1.f1, y2.f0, y2.f1⟩
  obtain ⟨⟨m1, m2, m3, m4, m5⟩, m6, m7, m8, m9⟩ := KC.out w1 (Below.refl _ _)
  clear k1
  go_wp2_with fail
  have m1' : w1.drew.cell? ⟨S, 1, none⟩ = some (.slice a d.length cap) := m1
  have z1 : S + 1 ≠ S := by omega
  have z2 : S + 1 + 1 ≠ S := by omega
  go_region_held3 (fun w' => w'.cell? ⟨S, 1, none⟩ = some (.slice a d.length cap)) (first | with_reducible exact m1 | with_reducible exact m1' | with_reducible exact n1 | with_reducible exact o1 | (refine keep_set (keep_set ?_ z1) z1; with_reducible exact o1) | (refine keep_set (keep_set (keep_set (keep_set ?_ z1) z1) z2) z2; with_reducible exact o1))
    ((first | (go_at_call 10; refine (sB wA LB).mono ?_; rintro r wB ⟨x2, y2, rfl, fB, dB⟩; obtain ⟨⟨o1, o2, o3, o4, o5⟩, o6, o7, o8, o9⟩ := KC.out wB (((Below.refl _ _).drew).trans (dA.trans (dB.mono dA.size)))) | (go_at_call 10; refine (sA w1.drew (LU.out.below ((Below.refl _ _).drew))).mono ?_; rintro r wA ⟨x1, y1, rfl, fA, dA⟩; have LB := LU.out.below (((Below.refl _ _).drew).trans dA); obtain ⟨⟨n1, n2, n3, n4, n5⟩, n6, n7, n8, n9⟩ := KC.out wA (((Below.refl _ _).drew).trans dA))))
  have bA : Below w1.heap.size w1 wA := ((Below.refl _ _).drew).trans dA
  have bB : Below w1.heap.size w1 wB := bA.trans (dB.mono bA.size)
  have sz : S + 3 ≤ wA.heap.size := by have := bA.size; rw [SU.out] at this; exact this
  have X3 : Aside (Box2 (S + 1) (.int .i64 M1) (.slice x1 K y1) ((((wB.setCell ⟨S + 1, 0, none⟩ (.int .i64 M1)).setCell ⟨S + 1, 1, none⟩ (.slice x1 K y1)).setCell ⟨S + 1 + 1, 0, none⟩ (.int .i64 M2)).setCell ⟨S + 1 + 1, 1, none⟩ (.slice x2 J y2))) :=
    (((X1.out.below bB (by rw [SU.out]; omega)).set _ _).other (by show S + 1 + 1 ≠ S + 1; omega) _).other (by show S + 1 + 1 ≠ S + 1; omega) _
  have X4 : Aside (Box2 (S + 1 + 1) (.int .i64 M2) (.slice x2 J y2) ((((wB.setCell ⟨S + 1, 0, none⟩ (.int .i64 M1)).setCell ⟨S + 1, 1, none⟩ (.slice x1 K y1)).setCell ⟨S + 1 + 1, 0, none⟩ (.int .i64 M2)).setCell ⟨S + 1 + 1, 1, none⟩ (.slice x2 J y2))) :=
    (((X2.out.below bB (by rw [SU.out]; omega)).other (by show S + 1 ≠ S + 2; omega) _).other (by show S + 1 ≠ S + 2; omega) _).set _ _
  have fA' : OwnE wB (S + 3) (.slice x1 K y1) c1 := (fA.low (by have : w1.heap.size = S + 3 := SU.out; show S + 3 ≤ w1.heap.size; omega)).below dB
  have fB' : OwnE wB (S + 3) (.slice x2 J y2) c2 := fB.low sz
  have O1 : Aside (OwnE ((((wB.setCell ⟨S + 1, 0, none⟩ (.int .i64 M1)).setCell ⟨S + 1, 1, none⟩ (.slice x1 K y1)).setCell ⟨S + 1 + 1, 0, none⟩ (.int .i64 M2)).setCell ⟨S + 1 + 1, 1, none⟩ (.slice x2 J y2)) S (.slice x1 K y1) c1) :=
    ((((fA'.set (by show S + 1 < S + 3; omega) _).set (by show S + 1 < S + 3; omega) _).set (by show S + 1 + 1 < S + 3; omega) _).set (by show S + 1 + 1 < S + 3; omega) _).low (by omega)
  have O2 : Aside (OwnE ((((wB.setCell ⟨S + 1, 0, none⟩ (.int .i64 M1)).setCell ⟨S + 1, 1, none⟩ (.slice x1 K y1)).setCell ⟨S + 1 + 1, 0, none⟩ (.int .i64 M2)).setCell ⟨S + 1 + 1, 1, none⟩ (.slice x2 J y2)) S (.slice x2 J y2) c2) :=
    ((((fB'.set (by show S + 1 < S + 3; omega) _).set (by show S + 1 < S + 3; omega) _).set (by show S + 1 + 1 < S + 3; omega) _).set (by show S + 1 + 1 < S + 3; omega) _).low (by omega)
  have B3 : Aside (Below S w ((((wB.setCell ⟨S + 1, 0, none⟩ (.int .i64 M1)).setCell ⟨S + 1, 1, none⟩ (.slice x1 K y1)).setCell ⟨S + 1 + 1, 0, none⟩ (.int .i64 M2)).setCell ⟨S + 1 + 1, 1, none⟩ (.slice x2 J y2))) :=
    (((((B0.out.trans (bB.mono (by have : w1.heap.size = S + 3 := SU.out; omega))).setCell (by show S ≤ S + 1; omega) _).setCell (by show S ≤ S + 1; omega) _).setCell (by show S ≤ S + 1 + 1; omega) _).setCell (by show S ≤ S + 1 + 1; omega) _)
  clear fA fB fA' fB' bA bB dA dB LB n1 n2 n3 n4 n5 n6 n7 n8 n9 o1 o2 o3 o4 o5 o6 o7 o8 o9 m1 m1' m2 m3 m4 m5 m6 m7 m8 m9 sA sB hp1 KC X1 X2 LU B0 wi
  generalize World.setCell _ _ _ = w3 at B3 X3 X4 O1 O2 ⊢
  have v0 := X3.out.c0
  have v1 := X3.out.c1
  have v2 := X4.out.c0
  have v3 := X4.out.c1
  go_wp2
  refine bodyPost_ret (v := .tuple #[.agg #[.int .i64 M1, .slice x1 K y1], .agg #[.int .i64 M2, .slice x2 J y2]]) (by simp [results, Try.results11, go_sem, v0, v1, v2, v3]) rfl ⟨x1, y1, x2, y2, ?_, ?_, ?_, by rw [HS.out]; exact B3.out⟩
  · rw [E1.out, E2.out, HM1.out, HM2.out]
  · rw [E1.out, HS.out]; exact O1.out
  · rw [E2.out, HS.out]; exact O2.out
end Go.Proofs.Ytoknpinlphbeoaa
