import Derived.Test.YtjnpmipbkiambaaGreatDoorUJN
namespace Go.Proofs.YtjnpmipbkiambaaGreatDoor.Qu
set_option maxRecDepth 100000
open Go.RowKit Go.Lib Go.Sort
set_option linter.unusedVariables false
theorem Lsm.at {w : World} {base B : Nat} {ls : List (List Ent)} (h : Lsm w base B ls) : ∃ (a : Option Addr) (cap : Nat), w.cell? ⟨B, 0, none⟩ = some (.slice a ls.length cap) ∧ ls.length ≤ cap ∧ cap ≤ maxLen ∧ B < w.heap.size ∧
  ∀ (i : Nat) (hi : i < ls.length), ∃ g p q, a = some ⟨g, 0, none⟩ ∧ g < w.heap.size ∧ ∀ W, Below w.heap.size w W → W.cell? ⟨g, i * 2, none⟩ = some (.int .i64 (lv ls[i])) ∧ W.cell? ⟨g, i * 2 + 1, none⟩ = some (.slice p ls[i].length q) ∧ IsL W p q ls[i] := by
 obtain ⟨a, cap, cB, h1, h2, hB, _, _, bs, rfl, row⟩ := h.open
 refine ⟨a, cap, cB, h1, h2, hB, fun i hi => ?_⟩
 have hi' : i < bs.length := by simpa using hi
 obtain ⟨g, e, _, hg, c0, c1⟩ := row.at hi'
 refine ⟨g, bs[i].p, bs[i].q, e, hg, fun W hW => ?_⟩
 simp only [List.getElem_map]
 exact ⟨(hW.cell (p := ⟨g, i * 2, none⟩) hg).trans c0, (hW.cell (p := ⟨g, i * 2 + 1, none⟩) hg).trans c1, (row.own bs[i] (List.getElem_mem hi')).is.below hW⟩
end Go.Proofs.YtjnpmipbkiambaaGreatDoor.Qu
namespace Go.Proofs.YtjnpmipbkiambaaGreatDoor.Qu
set_option maxRecDepth 100000
open Go.RowKit Go.Lib Go.Sort
set_option linter.unusedVariables false
def IsMin (x : Ent) (d : List Ent) : Prop := x ∈ d ∧ ∀ y ∈ d, ltE y x = false
theorem IsMin.sort {x : Ent} {d : List Ent} (h : IsMin x d) : ∃ t, sortE d = x :: t := by
 have p := sortE_perm d
 cases e : sortE d with
 | nil =>
  rw [e] at p
  have := p.mem_iff.2 h.1
  simp at this
 | cons y t =>
  have s := sortE_srt d
  rw [e] at s p
  have hy : y ∈ d := p.mem_iff.1 (by simp)
  have h1 := h.2 y hy
  have hx : x ∈ y :: t := p.mem_iff.2 h.1
  rcases List.mem_cons.1 hx with rfl | hx
  ·exact ⟨t, rfl⟩
  ·have h2 := (List.pairwise_cons.1 s).1 x hx
   rw [totE _ _ h1 h2]
   exact ⟨t, rfl⟩
theorem IsMin.head {x : Ent} {d : List Ent} (h : Srt (x :: d)) : IsMin x (x :: d) :=
 ⟨by simp, fun y hy => by
  rcases List.mem_cons.1 hy with rfl | hy
  ·exact swoE.irrefl _
  ·exact (List.pairwise_cons.1 h).1 y hy⟩
theorem IsMin.left {x y : Ent} {c d : List Ent} (h : IsMin x c) (g : IsMin y d) (hl : ltE y x = false) : IsMin x (c ++ d) :=
 ⟨by simp [h.1], fun z hz => by
  rcases List.mem_append.1 hz with hz | hz
  ·exact h.2 z hz
  ·exact swoE.ntrans _ _ _ (g.2 z hz) hl⟩
theorem IsMin.right {x y : Ent} {c d : List Ent} (h : IsMin x c) (g : IsMin y d) (hl : ltE y x = true) : IsMin y (c ++ d) :=
 ⟨by simp [g.1], fun z hz => by
  rcases List.mem_append.1 hz with hz | hz
  ·exact swoE.ntrans _ _ _ (h.2 z hz) (swoE.asymmA hl)
  ·exact g.2 z hz⟩
def MinUp (ls : List (List Ent)) (k : Nat) (F : Bool) (x : Ent) : Prop := (F = false ∧ k = 0 ∧ x = (0, 0)) ∨ (F = true ∧ IsMin x (ls.take k).flatten)
theorem MinUp.first {ls : List (List Ent)} {k : Nat} {x e : Ent} {r : List Ent} (h : MinUp ls k false x) (hk : k < ls.length) (hd : ls[k] = e :: r) (hs : Srt (e :: r)) : MinUp ls (k + 1) true e := by
 rcases h with ⟨_, rfl, _⟩ | ⟨h, _⟩
 ·right
  refine ⟨rfl, ?_⟩
  rw [flat_take hk, hd]
  simpa using IsMin.head hs
 ·cases h
theorem MinUp.less {ls : List (List Ent)} {k : Nat} {x e : Ent} {r : List Ent} (h : MinUp ls k true x) (hk : k < ls.length) (hd : ls[k] = e :: r) (hs : Srt (e :: r)) (hl : ltE e x = true) : MinUp ls (k + 1) true e := by
 rcases h with ⟨h, _⟩ | ⟨_, h⟩
 ·cases h
 ·right
  refine ⟨rfl, ?_⟩
  rw [flat_take hk, hd]
  exact h.right (IsMin.head hs) hl
theorem MinUp.more {ls : List (List Ent)} {k : Nat} {x e : Ent} {r : List Ent} (h : MinUp ls k true x) (hk : k < ls.length) (hd : ls[k] = e :: r) (hs : Srt (e :: r)) (hl : ltE e x = false) : MinUp ls (k + 1) true x := by
 rcases h with ⟨h, _⟩ | ⟨_, h⟩
 ·cases h
 ·right
  refine ⟨rfl, ?_⟩
  rw [flat_take hk, hd]
  exact h.left (IsMin.head hs) hl
def MinL (w : World) (d : List Ent) (r : Ending) (w' : World) : Prop := ∃ (F : Bool) (x : Ent), r = .returned (.tuple #[.agg #[.int .u64 x.1, .int .i64 x.2], .bool F]) ∧ ((F = false ∧ d = [] ∧ x = (0, 0)) ∨ (F = true ∧ ∃ t, sortE d = x :: t)) ∧ Below w.heap.size w w'
set_option maxHeartbeats 4000000 in
set_option maxRecDepth 100000 in
theorem lmin_any (B base : Nat) (ls : List (List Ent)) (w : World) (h : Lsm w base B ls) (hf : Fall ls) (hlen : ls.length ≤ 10000) :
  Calls Tryz.prog 127 #[.pointer (some ⟨B, 0, none⟩)] w (MinL w ls.flatten) := by
 obtain ⟨a, cap, cB, hc1, hc2, hB, hat⟩ := h.at
 have AT : Aside (∀ (i : Nat) (hi : i < ls.length), ∃ g p q, a = some ⟨g, 0, none⟩ ∧ g < w.heap.size ∧ ∀ W, Below w.heap.size w W → W.cell? ⟨g, i * 2, none⟩ = some (.int .i64 (lv ls[i])) ∧ W.cell? ⟨g, i * 2 + 1, none⟩ = some (.slice p ls[i].length q) ∧ IsL W p q ls[i]) := hat
 obtain ⟨S, hS⟩ : ∃ S, w.heap.size = S := ⟨_, rfl⟩
 have HS : Hid _ := hS
 have hB2 : B < S := by omega
 obtain ⟨n, hn⟩ : ∃ n, ls.length = n := ⟨_, rfl⟩
 have HN : Hid _ := hn
 have HF : Aside (Fall ls) := hf
 rw [hn] at cB hlen
 obtain ⟨u, hu⟩ : ∃ u, (w.alloc (.cells #[.int .u64 0, .int .i64 0] 43)).alloc (.cells #[.int .u64 0, .int .i64 0] 43) = u := ⟨_, rfl⟩
 have HU : Hid _ := hu
 have su : u.heap.size = S + 2 := by rw [← hu, ← hS]; simp
 have b0 : Below S w u := by rw [← hu, ← hS]; exact ((Below.refl _ _).alloc (Nat.le_refl _) _).alloc (by simp) _
 have x1 : Box2 (S + 1) (.int .u64 0) (.int .i64 0) u := by
  have := Box2.new (w.alloc (.cells #[.int .u64 0, .int .i64 0] 43)) (.int .u64 0) (.int .i64 0) 43
  rw [hu] at this
  simpa [hS] using this
 have x0 : Box2 S (.int .u64 0) (.int .i64 0) u := by
  have := (Box2.new w (.int .u64 0) (.int .i64 0) 43).below ((Below.refl _ _).alloc (Nat.le_refl _) (.cells #[.int .u64 0, .int .i64 0] 43)) (by simp)
  rw [hu] at this
  simpa [hS] using this
 have X0 : Aside (Box2 S (.int .u64 0) (.int .i64 0) u) := x0
 have X1 : Aside (Box2 (S + 1) (.int .u64 0) (.int .i64 0) u) := x1
 have B0 : Aside (Below S w u) := b0
 have cB0 : u.cell? ⟨B, 0, none⟩ = some (.slice a n cap) := (b0.cell (p := ⟨B, 0, none⟩) hB2).trans cB
 clear hat h hn hc1 hc2 hf hu x0 x1 b0 su
 go_enter Tryz.func127, Tryz.ntmps127
 go_wp2_with fail
 rw [HU.out]
 go_loopg [5, 15] n (fun kx s5 s15 wr => ∃ (k : Nat) (F : Bool) (x : Ent), s15 = .int .i64 k ∧ s5 = .bool F ∧ k ≤ n ∧ n - k ≤ kx ∧ Aside (MinUp ls k F x) ∧ Aside (Box2 S (.int .u64 0) (.int .i64 0) wr) ∧ Aside (Box2 (S + 1) (.int .u64 x.1) (.int .i64 x.2) wr) ∧ Aside (Below S w wr))
 case atStart => exact ⟨0, false, (0, 0), rfl, rfl, by omega, by omega, (.inl ⟨rfl, rfl, rfl⟩ : MinUp ls 0 false (0, 0)), X0, X1, B0⟩
 case round =>
  clear X0 X1 B0 cB0 HU cB
  obtain ⟨k, F, x, rfl, rfl, hk, hkx, M, X0, X1, D⟩ := hrel
  by_cases hlt : k < n
  ·have hz : (k : Int) < (n : Int) := by omega
   have hkl : k < ls.length := by rw [HN.out]; exact hlt
   obtain ⟨g, p, q, ha, hg, hcs⟩ := AT.out k hkl
   obtain ⟨c0, c1, L⟩ := hcs wr (by rw [HS.out]; exact D.out)
   have hsrt := HF.out.srt _ (List.getElem_mem hkl)
   have hpos := HF.out.pos _ (List.getElem_mem hkl)
   obtain ⟨e, r, hd⟩ : ∃ e r, ls[k] = e :: r := by
    cases hd : ls[k] with
    | nil => rw [hd] at hpos; simp at hpos
    | cons e r => exact ⟨e, r, rfl⟩
   have HD : Hid _ := hd
   have HSR : Aside (Srt (e :: r)) := by rw [← hd]; exact hsrt
   rw [hd] at c0 c1 L
   obtain ⟨m, hm⟩ : ∃ m, lv (e :: r) = m := ⟨_, rfl⟩
   obtain ⟨kl, hkl2⟩ : ∃ m, (e :: r).length = m := ⟨_, rfl⟩
   rw [hm] at c0
   rw [hkl2] at c1
   obtain ⟨R, hR⟩ : ∃ R, wr.heap.size = R := ⟨_, rfl⟩
   have sg : g < R := by have := D.out.size; omega
   have sS : S + 1 < R := by rw [← hR]; exact X1.out.lt
   obtain ⟨v1, hv1⟩ : ∃ v, wr.alloc (.cells #[.int .i64 m, .slice p kl q] 278) = v := ⟨_, rfl⟩
   have bv1 : Below wr.heap.size wr v1 := by rw [← hv1]; exact (Below.refl _ _).alloc (Nat.le_refl _) _
   have HV1 : Hid _ := hv1
   have mn := minB_any m p q e r v1 (L.below bv1)
   rw [hkl2] at mn
   have XV0 : Aside (Box2 S (.int .u64 0) (.int .i64 0) v1) := X0.out.on bv1
   have XV1 : Aside (Box2 (S + 1) (.int .u64 x.1) (.int .i64 x.2) v1) := X1.out.on bv1
   have DV : Aside (Below S w v1) := D.out.trans (bv1.mono (by omega))
   have sv1 : R ≤ v1.heap.size := by have := bv1.size; omega
   clear hm hkl2 hd L hsrt hpos hcs bv1 hv1 D X0 X1
   subst ha
   go_wp2_with fail
   rw [HV1.out]
   refine mn.mono ?_
   rintro r2 w2 ⟨rfl, b2⟩
   obtain ⟨R2, hR2⟩ : ∃ R, w2.heap.size = R := ⟨_, rfl⟩
   have sR : R ≤ R2 := by have := b2.size; omega
   obtain ⟨v2, hv2⟩ : ∃ v, w2.alloc (.cells #[.int .u64 e.1, .int .i64 e.2] 43) = v := ⟨_, rfl⟩
   have bv2 : Below w2.heap.size w2 v2 := by rw [← hv2]; exact (Below.refl _ _).alloc (Nat.le_refl _) _
   have HV2 : Hid _ := hv2
   have XE : Aside (Box2 R2 (.int .u64 e.1) (.int .i64 e.2) v2) := by rw [← hv2, ← hR2]; exact Box2.new _ _ _ _
   have Y0 : Aside (Box2 S (.int .u64 0) (.int .i64 0) v2) := (XV0.out.on b2).on bv2
   have Y1 : Aside (Box2 (S + 1) (.int .u64 x.1) (.int .i64 x.2) v2) := (XV1.out.on b2).on bv2
   have D2 : Aside (Below S w v2) := (DV.out.trans (b2.mono (by omega))).trans (bv2.mono (by omega))
   have o0 := ((XV1.out.on b2)).c0
   have o1 := ((XV1.out.on b2)).c1
   have of0 := ((XV1.out.on b2)).f0
   have of1 := ((XV1.out.on b2)).f1
   have nS : S + 1 ≠ S := by omega
   have Z1 : Aside (Box2 (S + 1) (.int .u64 e.1) (.int .i64 e.2) (((w2.setCell ⟨S + 1, 0, none⟩ (.int .u64 e.1)).setCell ⟨S + 1, 1, none⟩ (.int .i64 e.2)).alloc (.cells #[.int .u64 e.1, .int .i64 e.2] 43))) := ((XV1.out.on b2).set _ _).on ((Below.refl _ _).alloc (Nat.le_refl _) _)
   have Z0 : Aside (Box2 S (.int .u64 0) (.int .i64 0) (((w2.setCell ⟨S + 1, 0, none⟩ (.int .u64 e.1)).setCell ⟨S + 1, 1, none⟩ (.int .i64 e.2)).alloc (.cells #[.int .u64 e.1, .int .i64 e.2] 43))) := (((XV0.out.on b2).other nS _).other nS _).on ((Below.refl _ _).alloc (Nat.le_refl _) _)
   have ZD : Aside (Below S w (((w2.setCell ⟨S + 1, 0, none⟩ (.int .u64 e.1)).setCell ⟨S + 1, 1, none⟩ (.int .i64 e.2)).alloc (.cells #[.int .u64 e.1, .int .i64 e.2] 43))) := (((DV.out.trans (b2.mono (by omega))).setCell (by show S ≤ S + 1; omega) _).setCell (by show S ≤ S + 1; omega) _).alloc (by simp; omega) _
   have sv2 : R2 ≤ v2.heap.size := by have := bv2.size; omega
   clear b2 bv2 mn XV0 XV1 DV c0 c1 hv2
   have sS2 : S + 1 < R2 := by omega
   cases F with
   | false =>
    go_wp2
    go_roundg (n - (k + 1))
    case measure => omega
    case rel => exact ⟨k + 1, true, e, by go_num, rfl, by omega, Nat.le_refl _, M.out.first hkl HD.out HSR.out, Z0, Z1, ZD⟩
   | true =>
    clear Z0 Z1 ZD
    have ls2 := less_any e x v2
    have sS3 : S ≤ v2.heap.size := by omega
    cases hB : ltE e x with
    | true =>
     rw [hB] at ls2
     have HB : Hid _ := hB
     clear hB
     go_wp2_with fail
     rw [HV2.out]
     refine ls2.mono ?_
     rintro r3 w3 ⟨rfl, g3⟩
     have q0 := (Y1.out.on g3.below).c0
     have q1 := (Y1.out.on g3.below).c1
     have q2 := (Y1.out.on g3.below).f0
     have q3 := (Y1.out.on g3.below).f1
     have p0 := (XE.out.on g3.below).c0
     have p1 := (XE.out.on g3.below).c1
     have Z1 : Aside (Box2 (S + 1) (.int .u64 e.1) (.int .i64 e.2) ((w3.setCell ⟨S + 1, 0, none⟩ (.int .u64 e.1)).setCell ⟨S + 1, 1, none⟩ (.int .i64 e.2))) := (Y1.out.on g3.below).set _ _
     have Z0 : Aside (Box2 S (.int .u64 0) (.int .i64 0) ((w3.setCell ⟨S + 1, 0, none⟩ (.int .u64 e.1)).setCell ⟨S + 1, 1, none⟩ (.int .i64 e.2))) := ((Y0.out.on g3.below).other nS _).other nS _
     have ZD : Aside (Below S w ((w3.setCell ⟨S + 1, 0, none⟩ (.int .u64 e.1)).setCell ⟨S + 1, 1, none⟩ (.int .i64 e.2))) := ((D2.out.trans (g3.below.mono sS3)).setCell (by show S ≤ S + 1; omega) _).setCell (by show S ≤ S + 1; omega) _
     clear g3 ls2 o0 o1 of0 of1 Y0 Y1 D2 XE
     go_wp2
     go_roundg (n - (k + 1))
     case measure => omega
     case rel => exact ⟨k + 1, true, e, by go_num, rfl, by omega, Nat.le_refl _, M.out.less hkl HD.out HSR.out HB.out, Z0, Z1, ZD⟩
    | false =>
     rw [hB] at ls2
     have HB : Hid _ := hB
     clear hB
     go_wp2_with fail
     rw [HV2.out]
     refine ls2.mono ?_
     rintro r3 w3 ⟨rfl, g3⟩
     have Z1 : Aside (Box2 (S + 1) (.int .u64 x.1) (.int .i64 x.2) w3) := Y1.out.on g3.below
     have Z0 : Aside (Box2 S (.int .u64 0) (.int .i64 0) w3) := Y0.out.on g3.below
     have ZD : Aside (Below S w w3) := D2.out.trans (g3.below.mono sS3)
     clear g3 ls2 o0 o1 of0 of1 Y0 Y1 D2 XE
     go_wp2
     go_roundg (n - (k + 1))
     case measure => omega
     case rel => exact ⟨k + 1, true, x, by go_num, rfl, by omega, Nat.le_refl _, M.out.more hkl HD.out HSR.out HB.out, Z0, Z1, ZD⟩
  ·have hz : ¬ (k : Int) < (n : Int) := by omega
   have y0 := X1.out.c0
   have y1 := X1.out.c1
   have y2 := X0.out.c0
   have y3 := X0.out.c1
   have y4 := X0.out.f0
   have y5 := X0.out.f1
   have e : k = ls.length := by rw [HN.out]; omega
   have FIN : Aside ((F = false ∧ ls.flatten = [] ∧ x = (0, 0)) ∨ (F = true ∧ ∃ t, sortE ls.flatten = x :: t)) := by
    rcases M.out with ⟨h1, h2, h3⟩ | ⟨h1, h2⟩
    ·have : ls = [] := List.length_eq_zero_iff.1 (by omega)
     exact .inl ⟨h1, by rw [this]; rfl, h3⟩
    ·rw [List.take_of_length_le (by omega)] at h2
     exact .inr ⟨h1, h2.sort⟩
   have Z0 : Aside (Box2 S (.int .u64 x.1) (.int .i64 x.2) ((wr.setCell ⟨S, 0, none⟩ (.int .u64 x.1)).setCell ⟨S, 1, none⟩ (.int .i64 x.2))) := X0.out.set _ _
   have ZD : Aside (Below S w ((wr.setCell ⟨S, 0, none⟩ (.int .u64 x.1)).setCell ⟨S, 1, none⟩ (.int .i64 x.2))) := (D.out.setCell (Nat.le_refl _) _).setCell (Nat.le_refl _) _
   clear X0 X1 M D e
   go_wp2
   generalize World.setCell _ _ _ = w3 at Z0 ZD ⊢
   have z0 := Z0.out.c0
   have z1 := Z0.out.c1
   refine bodyPost_ret (v := .tuple #[.agg #[.int .u64 x.1, .int .i64 x.2], .bool F]) (by simp [results, Tryz.results127, go_sem, z0, z1]) rfl ⟨F, x, rfl, FIN.out, by rw [HS.out]; exact ZD.out⟩
end Go.Proofs.YtjnpmipbkiambaaGreatDoor.Qu
namespace Go.Proofs.YtjnpmipbkiambaaGreatDoor.Qu
set_option maxRecDepth 100000
open Go.RowKit Go.Lib Go.Sort
set_option linter.unusedVariables false
def dropLs (ls : List (List Ent)) (id : Int) : List (List Ent) := if firstB ls id < ls.length then dropB ls id (firstB ls id) else ls
theorem dropLs_fall {ls : List (List Ent)} (h : Fall ls) (id : Int) : Fall (dropLs ls id) := by
 unfold dropLs
 split
 ·exact dropB_fall h id _
 ·exact h
theorem dropLs_len {ls : List (List Ent)} (id : Int) : (dropLs ls id).flatten.length ≤ ls.flatten.length := by
 unfold dropLs
 split
 ·exact dropB_len id ‹_›
 ·exact Nat.le_refl _
theorem dropLs_perm {ls : List (List Ent)} {id : Int} (hd : (ls.flatten.map Prod.snd).Nodup) : (dropLs ls id).flatten.Perm (outL id ls.flatten) := by
 unfold dropLs
 split
 ·next c => exact dropB_out c hd (firstB_hasL c)
 ·next c =>
  have : hasL ls.flatten id = false := by
   cases e : hasL ls.flatten id with
   | false => rfl
   | true => exact absurd (firstB_has.2 e) c
  unfold outL
  rw [List.filter_eq_self.2]
  intro x hx
  have := hasL_false.1 this x hx
  simp [this]
theorem l7keep_out (id : Int) (d : List Ent) : keepL (fun o => decide (o = id)) d = outL id d := rfl
theorem l7outL_srt {d : List Ent} (h : Srt d) (id : Int) : sortE (outL id d) = outL id d := sortE_id (h.filter _)
set_option maxHeartbeats 400000 in
theorem l7hasFn_any (S : Nat) (id : Int) (x : Ent) (W : World) (hS : S < W.heap.size) (c0 : W.cell? ⟨S, 0, none⟩ = some (.int .i64 id)) :
  Calls Tryz.prog 307 #[.agg #[.int .u64 x.1, .int .i64 x.2], .pointer (some ⟨S, 0, none⟩)] W fun e w' => e = .returned (.bool (decide (x.2 = id))) ∧ Grown W w' := by
 have e : decide (x.2 = id) = (x.2 == id) := by by_cases h : x.2 = id <;> simp [h]
 rw [e]
 have c1 : (W.alloc (.cells #[.int .u64 x.1, .int .i64 x.2] 43)).cell? ⟨S, 0, none⟩ = some (.int .i64 id) := (cell_old W _ 0 hS).trans c0
 have hS2 : ¬ S = W.heap.size := by omega
 go_enter Tryz.func307, Tryz.ntmps307
 go_wp2
 go_ret
 exact ⟨rfl, (Grown.refl W).alloc _⟩
set_option maxHeartbeats 400000 in
theorem l7contains_any (S : Nat) (id : Int) (a : Option Addr) (cap : Nat) (d : List Ent) (w : World) (h : IsL w a cap d) (hS : S < w.heap.size) (c0 : w.cell? ⟨S, 0, none⟩ = some (.int .i64 id)) :
  Calls Tryz.prog 302 #[.slice a d.length cap, .func (.func 307) #[] #[.pointer (some ⟨S, 0, none⟩)]] w fun e w' => e = .returned (.bool (hasL d id)) ∧ Grown w w' := by
 have ix := indexFunc_any a cap d 307 #[.pointer (some ⟨S, 0, none⟩)] (fun x => decide (x.2 = id)) w h (enters_of Tryz.func307 (by kernel_rfl) rfl)
  (fun x W hW => l7hasFn_any S id x W (by have := hW.below.size; omega) ((hW.below.cell (p := ⟨S, 0, none⟩) hS).trans c0))
 clear h c0
 go_enter Tryz.func302, Tryz.ntmps302
 go_wp2_with fail
 refine ix.mono ?_
 rintro r w1 ⟨z, rfl, fi, g1⟩
 have G1 : Aside (Grown w w1) := g1
 clear g1 ix
 rcases fi with ⟨rfl, hno⟩ | ⟨k, hk, rfl, hyes, hno⟩
 ·have hh : hasL d id = false := hasL_none fun i hi => by simpa using hno i hi
  have HH : Hid _ := hh
  clear hno hh
  go_wp2
  go_ret
  exact ⟨by rw [HH.out]; rfl, G1.out⟩
 ·have hh : hasL d id = true := hasL_at k hk (by simpa using hyes)
  have HH : Hid _ := hh
  have k0 : (0 : Int) ≤ (k : Int) := by omega
  clear hno hyes hh
  go_wp2
  go_ret
  exact ⟨by rw [HH.out]; rfl, G1.out⟩
set_option maxHeartbeats 400000 in
theorem l7lhas_any (i id : Int) (a : Option Addr) (cap : Nat) (d : List Ent) (w : World) (h : IsL w a cap d) :
  Calls Tryz.prog 252 #[.agg #[.int .i64 i, .slice a d.length cap], .int .i64 id] w fun e w' => e = .returned (.bool (hasL d id)) ∧ Below w.heap.size w w' := by
 obtain ⟨S, hS⟩ : ∃ S, w.heap.size = S := ⟨_, rfl⟩
 obtain ⟨n, hn⟩ : ∃ n, d.length = n := ⟨_, rfl⟩
 obtain ⟨u, hu⟩ : ∃ u, (w.alloc (.cells #[.int .i64 i, .slice a n cap] 278)).alloc (.cells #[.int .i64 id] 3) = u := ⟨_, rfl⟩
 have HU : Hid _ := hu
 have b0 : Below w.heap.size w u := by rw [← hu]; exact ((Below.refl _ _).alloc (Nat.le_refl _) _).alloc (by simp) _
 have su : u.heap.size = S + 2 := by rw [← hu, ← hS]; simp
 have c0 : u.cell? ⟨S + 1, 0, none⟩ = some (.int .i64 id) := by
  have := cell_new (w.alloc (.cells #[.int .i64 i, .slice a n cap] 278)) #[.int .i64 id] 3 0
  rw [hu] at this
  simpa [hS] using this
 have ct := l7contains_any (S + 1) id a cap d u (h.below b0) (by omega) c0
 rw [hn] at ct ⊢
 have B0 : Aside (Below w.heap.size w u) := b0
 obtain ⟨Y, hY⟩ : ∃ Y, hasL d id = Y := ⟨_, rfl⟩
 rw [hY] at ct ⊢
 have hmf : ∀ (fn : Fn) (first cap : Array Value) (w : World), (Instr.makeFunc fn first cap).run Tryz.prog w = .ok (.func fn first cap) w := fun _ _ _ _ => rfl
 clear hu b0 su c0 h hn hY
 go_enter Tryz.func252, Tryz.ntmps252
 go_wp2_with fail
 rw [HU.out]
 refine ct.mono ?_
 rintro r w1 ⟨rfl, g1⟩
 have B1 : Aside (Below w.heap.size w w1) := B0.out.trans (g1.below.mono B0.out.size)
 clear g1 ct
 go_wp2
 go_ret
 exact ⟨rfl, B1.out⟩
set_option maxHeartbeats 400000 in
theorem l7drop1_any (S : Nat) (id i : Int) (a : Option Addr) (cap : Nat) (d : List Ent) (W : World) (h : IsL W a cap d) (hS : S < W.heap.size) (c0 : W.cell? ⟨S, 0, none⟩ = some (.int .i64 id)) :
  Calls Tryz.prog 251 #[.agg #[.int .i64 i, .slice a d.length cap], .pointer (some ⟨S, 0, none⟩)] W fun e w' => e = .returned (.bool (hasL d id)) ∧ Below W.heap.size W w' := by
 obtain ⟨R, hR⟩ : ∃ R, W.heap.size = R := ⟨_, rfl⟩
 obtain ⟨n, hn⟩ : ∃ n, d.length = n := ⟨_, rfl⟩
 obtain ⟨u, hu⟩ : ∃ u, W.alloc (.cells #[.int .i64 i, .slice a n cap] 278) = u := ⟨_, rfl⟩
 have HU : Hid _ := hu
 have b0 : Below W.heap.size W u := by rw [← hu]; exact (Below.refl _ _).alloc (Nat.le_refl _) _
 have hs := l7lhas_any i id a cap d u (h.below b0)
 rw [hn] at hs ⊢
 have B0 : Aside (Below W.heap.size W u) := b0
 have sS : S < R := by omega
 obtain ⟨Y, hY⟩ : ∃ Y, hasL d id = Y := ⟨_, rfl⟩
 rw [hY] at hs ⊢
 clear hu b0 h hn hY
 go_enter Tryz.func251, Tryz.ntmps251
 go_wp2_with fail
 rw [HU.out]
 refine hs.mono ?_
 rintro r w1 ⟨rfl, g1⟩
 have B1 : Aside (Below W.heap.size W w1) := B0.out.trans (g1.mono B0.out.size)
 clear g1 hs
 go_wp2
 go_ret
 exact ⟨rfl, B1.out⟩
set_option maxHeartbeats 400000 in
theorem l7drop2_any (S : Nat) (id o : Int) (W : World) (c0 : W.cell? ⟨S, 0, none⟩ = some (.int .i64 id)) :
  Calls Tryz.prog 253 #[.int .i64 o, .pointer (some ⟨S, 0, none⟩)] W fun e w' => e = .returned (.bool (decide (o = id))) ∧ Below W.heap.size W w' := by
 have e : decide (o = id) = (o == id) := by by_cases h : o = id <;> simp [h]
 rw [e]
 go_enter Tryz.func253, Tryz.ntmps253
 go_wp2
 go_ret
 exact ⟨rfl, Below.refl _ _⟩
def BlAt (w : World) (a : Option Addr) (ls : List (List Ent)) : Prop := ∀ (i : Nat) (hi : i < ls.length), ∃ g p q, a = some ⟨g, 0, none⟩ ∧ g < w.heap.size ∧ ∀ W, Below w.heap.size w W → W.cell? ⟨g, i * 2, none⟩ = some (.int .i64 (lv ls[i])) ∧ W.cell? ⟨g, i * 2 + 1, none⟩ = some (.slice p ls[i].length q) ∧ IsL W p q ls[i]
set_option maxHeartbeats 2000000 in
set_option maxRecDepth 100000 in
theorem indexB_any (S : Nat) (id : Int) (a : Option Addr) (cap : Nat) (ls : List (List Ent)) (w : World) (h : BlAt w a ls) (hl : ls.length ≤ 10000) (hS : S < w.heap.size) (c0 : w.cell? ⟨S, 0, none⟩ = some (.int .i64 id)) :
  Calls Tryz.prog 242 #[.slice a ls.length cap, .func (.func 251) #[] #[.pointer (some ⟨S, 0, none⟩)]] w fun r w' => ∃ z : Int, r = .returned (.int .i64 z) ∧ ((z = -1 ∧ firstB ls id = ls.length) ∨ (firstB ls id < ls.length ∧ z = (firstB ls id : Nat))) ∧ Below w.heap.size w w' := by
 have H : Aside (BlAt w a ls) := h
 have EG := enters_of Tryz.func251 (by kernel_rfl) rfl
 obtain ⟨n, hn⟩ : ∃ n, ls.length = n := ⟨_, rfl⟩
 have HN : Hid _ := hn
 rw [hn] at hl ⊢
 have CS : Aside (∀ W, Below w.heap.size w W → S < W.heap.size ∧ W.cell? ⟨S, 0, none⟩ = some (.int .i64 id)) := fun W hW => ⟨by have := hW.size; omega, (hW.cell (p := ⟨S, 0, none⟩) hS).trans c0⟩
 clear h c0 hn
 go_enter Tryz.func242, Tryz.ntmps242
 go_wp2
 go_loopg [8] n (fun kx s8 wr => ∃ k : Nat, s8 = .int .i64 k ∧ k ≤ n ∧ n - k ≤ kx ∧ Aside (Below w.heap.size w wr) ∧ Aside (∀ i (hi : i < ls.length), i < k → hasL ls[i] id = false))
 case atStart => exact ⟨0, rfl, by omega, by omega, Below.refl _ _, (fun i _ h => absurd h (by omega) : ∀ i (hi : i < ls.length), i < 0 → hasL ls[i] id = false)⟩
 case round =>
  obtain ⟨k, rfl, hk, hkx, D, A⟩ := hrel
  by_cases hlt : k < n
  ·have hz : (k : Int) < (n : Int) := by omega
   have hkl : k < ls.length := by rw [HN.out]; exact hlt
   obtain ⟨g, p, q, ha, hg, hcs⟩ := H.out k hkl
   obtain ⟨c0, c1, L⟩ := hcs wr D.out
   obtain ⟨d, hd⟩ : ∃ d, ls[k] = d := ⟨_, rfl⟩
   have HD : Hid _ := hd
   rw [hd] at c0 c1 L
   obtain ⟨Y, hY⟩ : ∃ Y, hasL d id = Y := ⟨_, rfl⟩
   have HY : Hid _ := hY
   have pc := l7drop1_any S id (lv d) p q d wr L (CS.out wr D.out).1 (CS.out wr D.out).2
   obtain ⟨m, hm⟩ : ∃ m, lv d = m := ⟨_, rfl⟩
   obtain ⟨kl, hkl2⟩ : ∃ m, d.length = m := ⟨_, rfl⟩
   rw [hm] at c0 pc
   rw [hkl2] at c1 pc
   rw [hY] at pc
   have HA : Hid _ := ha
   have hs := D.out.size
   clear hY hm hkl2 hd L hcs
   subst ha
   go_wp2_with fail
   refine pc.mono ?_
   rintro r w1 ⟨rfl, g1⟩
   have D2 : Aside (Below w.heap.size w w1) := D.out.trans (g1.mono hs)
   clear g1 D c0 c1 pc
   cases Y with
   | true =>
    have fb := firstB_at hkl (by rw [HD.out]; exact HY.out) (fun i hi => A.out i (by omega) hi)
    have FB : Hid _ := fb
    clear fb
    go_wp2
    go_ret
    refine ⟨k, rfl, .inr ⟨by rw [FB.out]; exact hlt, by rw [FB.out]⟩, D2.out⟩
   | false =>
    go_wp2
    go_roundg (n - (k + 1))
    case measure => omega
    case rel =>
     refine ⟨k + 1, by go_num, by omega, Nat.le_refl _, D2, (fun i hi hik => ?_ : ∀ i (hi : i < ls.length), i < k + 1 → hasL ls[i] id = false)⟩
     by_cases e : i = k
     ·subst e; rw [HD.out]; exact HY.out
     ·exact A.out i hi (by omega)
  ·have hz : ¬ (k : Int) < (n : Int) := by omega
   have fb := firstB_none (ls := ls) (id := id) (fun d hd => by
    obtain ⟨i, hi, rfl⟩ := List.getElem_of_mem hd
    exact A.out i hi (by have := HN.out; omega))
   rw [HN.out] at fb
   have FB : Hid _ := fb
   clear fb
   go_wp2
   go_ret
   exact ⟨-1, rfl, .inl ⟨rfl, FB.out⟩, D.out⟩
end Go.Proofs.YtjnpmipbkiambaaGreatDoor.Qu
namespace Go.Proofs.YtjnpmipbkiambaaGreatDoor.Qu
set_option maxRecDepth 100000
open Go.RowKit Go.Lib Go.Sort
set_option linter.unusedVariables false
theorem lsm_less {w : World} {base B n cap : Nat} {a : Option Addr} {bs : List Bk} {w' : World} {k : Nat} (hB : base ≤ B) (hc : w.heap[B]? = some (.cells #[.slice a n cap] 252 (0, 0))) (hr : RowB 278 w base (.slice a n cap) bs) (hn : bs.length = n) (hk : k < n) (t : TurnsB w base (.slice a n cap) (.slice a (n - 1) cap) (bs.eraseIdx k) w') (hbase : base ≤ w.heap.size) :
  w'.heap[B]? = some (.cells #[.slice a n cap] 252 (0, 0)) ∧ LsmC (w'.setCell ⟨B, 0, none⟩ (.slice a (n - 1) cap)) base B ((bs.map Bk.d).eraseIdx k) a cap ∧ Below base w (w'.setCell ⟨B, 0, none⟩ (.slice a (n - 1) cap)) ∧ Kept LB w (w'.setCell ⟨B, 0, none⟩ (.slice a (n - 1) cap)) ∧ Only B a w (w'.setCell ⟨B, 0, none⟩ (.slice a (n - 1) cap)) := by
 have e := t.ends hr.row hbase
 have hr' := hr.row
 rw [hn] at hr'
 have c4 : w'.heap[B]? = some (.cells #[.slice a n cap] 252 (0, 0)) := (t.2.block B (lt_of_block hc) (row_neB hr' hc)).trans hc
 have le : (bs.eraseIdx k).length = n - 1 := by rw [List.length_eraseIdx, if_pos (by omega), hn]
 refine ⟨c4, ⟨bs.eraseIdx k, ?_, hB, ?_, ?_⟩, e.1.setCell hB _, e.2.trans (Kept.set c4 (.inl rfl) _), Only.set (fun k hk h1 h2 => t.2.block k hk (row_ne hr' h2)) 0 _⟩
 ·rw [List.eraseIdx_eq_take_drop_succ, List.eraseIdx_eq_take_drop_succ, List.map_append, List.map_take, List.map_drop]
 ·rw [le, setCell_row c4]; rfl
 ·rw [le]; exact t.1.setCell c4 (by decide) (by decide) _
set_option maxHeartbeats 4000000 in
set_option maxRecDepth 100000 in
theorem ldrop_any (B base : Nat) (a0 : Option Addr) (ls : List (List Ent)) (id : Int) (w : World) (hA : LsmA w base B ls a0) (hf : Fall ls) (hlen : ls.length ≤ 10000) (hsum : ls.flatten.length ≤ 10000) (hbase : base ≤ w.heap.size) :
  Calls Tryz.prog 176 #[.pointer (some ⟨B, 0, none⟩), .int .i64 id] w fun r w' => r = .returned (.bool (hasL ls.flatten id)) ∧ Turned w base B a0 (dropLs ls id) w' := by
 have h := hA.t
 obtain ⟨S, hS⟩ : ∃ S, w.heap.size = S := ⟨_, rfl⟩
 have HS : Hid _ := hS
 obtain ⟨u, hu⟩ : ∃ u, w.alloc (.cells #[.int .i64 id] 3) = u := ⟨_, rfl⟩
 have HU : Hid _ := hu
 have bu : Below w.heap.size w u := by rw [← hu]; exact (Below.refl _ _).alloc (Nat.le_refl _) _
 have su : S < u.heap.size := by rw [← hu, ← hS]; simp
 have cu : u.cell? ⟨S, 0, none⟩ = some (.int .i64 id) := by rw [← hu, ← hS]; exact cell_new w _ _ 0
 have hU := hA.below bu
 obtain ⟨cap, bs, hbs, hB, hcell, hrow⟩ := hU
 obtain ⟨a', cap', cB, hc1, hc2, hB1, hat⟩ := Lsm.at (h.below bu)
 have ea : a0 = a' ∧ cap' = cap ∧ ls.length = bs.length := by
  have := lsm_cell hcell
  rw [cB] at this
  simp only [Option.some.injEq, Value.slice.injEq] at this
  exact ⟨this.1.symm, this.2.2, this.2.1⟩
 obtain ⟨ea0, rfl, el⟩ := ea
 subst ea0
 have ix := indexB_any S id a0 cap' ls u hat hlen su cu
 obtain ⟨n, hn⟩ : ∃ n, ls.length = n := ⟨_, rfl⟩
 have HN : Hid _ := hn
 rw [hn] at cB ix hlen el
 have hmf : ∀ (fn : Fn) (first cap : Array Value) (w : World), (Instr.makeFunc fn first cap).run Tryz.prog w = .ok (.func fn first cap) w := fun _ _ _ _ => rfl
 have BU : Aside (Below w.heap.size w u) := bu
 have CU : Aside (u.cell? ⟨S, 0, none⟩ = some (.int .i64 id)) := cu
 have LU : Aside (LsmA u base B ls a0) := hA.below bu
 have CE : Aside (u.heap[B]? = some (.cells #[.slice a0 n cap'] 252 (0, 0))) := by rw [el]; exact hcell
 have RW : Aside (RowB 278 u base (.slice a0 n cap') bs) := by rw [el]; exact hrow
 have HBS : Hid (bs.map Bk.d = ls) := hbs
 have HF : Aside (Fall ls) := hf
 have EL : Hid (n = bs.length) := el
 have BS : B < S := by rw [← hS]; exact h.lt.2
 have cBw : w.cell? ⟨B, 0, none⟩ = some (.slice a0 n cap') := (bu.cell (p := ⟨B, 0, none⟩) (by show B < _; omega)).symm.trans cB
 clear hu bu cu hcell hrow hbs hf hat h hA hc1 el hn cB
 go_enter Tryz.func176, Tryz.ntmps176
 go_wp2_with fail
 rw [HU.out]
 refine ix.mono ?_
 rintro r w1 ⟨z, rfl, fi, b1⟩
 have B1 : Aside (Below u.heap.size u w1) := b1
 clear b1 ix
 rcases fi with ⟨rfl, hno⟩ | ⟨hlt, rfl⟩
 ·have hh : hasL ls.flatten id = false := by
   cases e : hasL ls.flatten id with
   | false => rfl
   | true => have := firstB_has.2 e; rw [HN.out] at this; omega
  have hd : dropLs ls id = ls := by unfold dropLs; rw [if_neg (by rw [HN.out]; omega)]
  have bw : Below w.heap.size w w1 := BU.out.trans (B1.out.mono BU.out.size)
  have FIN : Aside (Turned w base B a0 (dropLs ls id) w1) := by rw [hd]; exact ⟨a0, LU.out.below B1.out, bw.mono hbase, Kept.of_below bw, Only.below bw, Moved.refl _ _⟩
  have HH : Hid _ := hh
  clear hh hd bw hno
  go_wp2
  go_ret
  exact ⟨by rw [HH.out]; rfl, FIN.out⟩
 ·obtain ⟨k, hk⟩ : ∃ k, firstB ls id = k := ⟨_, rfl⟩
  have hlt0 : firstB ls id < ls.length := by rw [HN.out]; exact hlt
  have hh : hasL ls.flatten id = true := firstB_has.1 hlt0
  rw [hk] at hlt ⊢
  have HK : Hid _ := hk
  have HH : Hid _ := hh
  have hkl : k < ls.length := by rw [HN.out]; exact hlt
  have hkb : k < bs.length := by rw [← EL.out]; exact hlt
  -- the block
  have R1 : Aside (RowB 278 w1 base (.slice a0 n cap') bs) := RW.out.below B1.out
  have C1 : Aside (w1.heap[B]? = some (.cells #[.slice a0 n cap'] 252 (0, 0))) := (B1.out.block B (lt_of_block CE.out)).trans CE.out
  obtain ⟨g, ha, hbg, hgs, c0, c1⟩ := R1.out.at hkb
  obtain ⟨x, hx⟩ : ∃ x, bs[k] = x := ⟨_, rfl⟩
  have xd : x.d = ls[k] := by
   have : (bs.map Bk.d)[k]? = ls[k]? := by rw [HBS.out]
   rw [List.getElem?_map, List.getElem?_eq_getElem hkb, List.getElem?_eq_getElem hkl, hx] at this
   simpa using this
  rw [hx] at c0 c1
  have xm : x ∈ bs := by rw [← hx]; exact List.getElem_mem hkb
  have ox := R1.out.own x xm
  have sx : Srt x.d := by rw [xd]; exact HF.out.srt _ (List.getElem_mem hkl)
  have lx : x.d.length ≤ 10000 := by
   have := (flat_split hkl).length_eq
   rw [List.length_append, ← xd] at this
   omega
  have cS1 : ∀ W, Below w1.heap.size w1 W → W.cell? ⟨S, 0, none⟩ = some (.int .i64 id) := fun W hW => (hW.cell (p := ⟨S, 0, none⟩) (by have := B1.out.size; show S < _; omega)).trans ((B1.out.cell (p := ⟨S, 0, none⟩) su).trans CU.out)
  have sh := shrink_any (lv x.d) x.p x.q x.d 253 #[.pointer (some ⟨S, 0, none⟩)] (fun o => decide (o = id)) w1 ox.is (by omega) (enters_of Tryz.func253 (by kernel_rfl) rfl) (fun o W hW => l7drop2_any S id o W (cS1 W hW))
  rw [l7keep_out, l7outL_srt sx] at sh
  obtain ⟨E, hE⟩ : ∃ E, outL id x.d = E := ⟨_, rfl⟩
  rw [hE] at sh
  obtain ⟨m, hm⟩ : ∃ m, lv x.d = m := ⟨_, rfl⟩
  obtain ⟨kl, hkl2⟩ : ∃ m, x.d.length = m := ⟨_, rfl⟩
  obtain ⟨xp, hxp⟩ : ∃ m, x.p = m := ⟨_, rfl⟩
  obtain ⟨xq, hxq⟩ : ∃ m, x.q = m := ⟨_, rfl⟩
  rw [hm] at c0 sh
  rw [hkl2, hxp, hxq] at c1 sh
  obtain ⟨KE, hKE⟩ : ∃ E', E.length = E' := ⟨_, rfl⟩
  obtain ⟨ME, hME⟩ : ∃ E', lv E = E' := ⟨_, rfl⟩
  have HE : Hid (outL id ls[k] = E) := by show _ = _; rw [← xd]; exact hE
  have HKE : Hid _ := hKE
  have HME : Hid _ := hME
  have yB := lsm_cell C1.out
  have z0 : ¬ (k : Int) < 0 := by omega
  have z1 : (k : Int) < (n : Int) := by omega
  have HA : Hid (a0 = some ⟨g, 0, none⟩) := ha
  subst ha
  have EB : base ≤ u.heap.size := by have := BU.out.size; omega
  clear hk hh hlt0 hx xd xm ox sx lx cS1 hE hm hkl2 hxp hxq hKE hME
  have e0 : dropLs ls id = if E.length = 0 then ls.eraseIdx k else layL (ls.eraseIdx k) E := by
   unfold dropLs
   rw [if_pos (by rw [HK.out]; exact hkl)]
   unfold dropB
   rw [HK.out, List.getElem?_eq_getElem hkl, Option.getD_some, HE.out]
  have E0 : Hid _ := e0
  have BW1 : Aside (Below w.heap.size w w1) := BU.out.trans (B1.out.mono BU.out.size)
  have sw1 : w.heap.size ≤ w1.heap.size := BW1.out.size
  clear e0
  go_wp2_with fail
  refine sh.mono ?_
  rintro r w2 ⟨a2, c2, rfl, o2, b2⟩
  rw [show lvl E.length = ME from HME.out, HKE.out]
  obtain ⟨R2, hR2⟩ : ∃ R, w2.heap.size = R := ⟨_, rfl⟩
  obtain ⟨v2, hv2⟩ : ∃ v, w2.alloc (.cells #[.int .i64 ME, .slice a2 KE c2] 278) = v := ⟨_, rfl⟩
  have bv2 : Below w2.heap.size w2 v2 := by rw [← hv2]; exact (Below.refl _ _).alloc (Nat.le_refl _) _
  have HV2 : Hid _ := hv2
  have b12 : Below w1.heap.size w1 v2 := b2.trans (bv2.mono b2.size)
  have XL : Aside (Box2 R2 (.int .i64 ME) (.slice a2 KE c2) v2) := by rw [← hv2, ← hR2]; exact Box2.new _ _ _ _
  have R2' : Aside (RowB 278 v2 base (.slice (some ⟨g, 0, none⟩) n cap') bs) := R1.out.below b12
  have C2 : Aside (v2.heap[B]? = some (.cells #[.slice (some ⟨g, 0, none⟩) n cap'] 252 (0, 0))) := (b12.block B (lt_of_block C1.out)).trans C1.out
  have OE : Aside (OwnE v2 base (.slice a2 KE c2) E) := by have := (o2.low (Nat.le_trans hbase sw1)).below bv2; rw [HKE.out] at this; exact this
  have BV2 : Aside (Below w.heap.size w v2) := BW1.out.trans (b12.mono sw1)
  have yB2 := lsm_cell ((b2.block B (lt_of_block C1.out)).trans C1.out)
  have dl := delete_any (some ⟨g, 0, none⟩) n cap' k base bs v2 R2'.out EL.out.symm hlt
  obtain ⟨n1, hn1⟩ : ∃ n1, n - 1 = n1 := ⟨_, rfl⟩
  have HN1 : Hid _ := hn1
  rw [hn1] at dl
  have gR : g < R2 := by have := b2.size; omega
  have BR : B < R2 := by have := lt_of_block C1.out; have := b2.size; omega
  have nBR : ¬ B = R2 := by omega
  have nRB : ¬ R2 = B := by omega
  clear o2 b2 bv2 b12 hv2 sh hn1 c0 c1 yB R1 C1
  go_wp2_with fail
  rw [HV2.out]
  refine dl.mono ?_
  rintro r w3 ⟨rfl, t3⟩
  rw [← HN1.out] at t3
  have ll := lsm_less hB C2.out R2'.out EL.out.symm hlt t3 (Nat.le_trans hbase BV2.out.size)
  rw [HN1.out, HBS.out] at ll
  obtain ⟨c4, l4, b4, k4, o4⟩ := ll
  have y3 := lsm_cell c4
  have f3 := lsm_fro c4
  have x3 : Box2 R2 (.int .i64 ME) (.slice a2 KE c2) w3 := XL.out.grown t3.2 (by simp only [Value.ownBlock, ne_eq, Option.some.injEq]; omega)
  have x4 : Box2 R2 (.int .i64 ME) (.slice a2 KE c2) (w3.setCell ⟨B, 0, none⟩ (.slice (some ⟨g, 0, none⟩) n1 cap')) := x3.other (by show B ≠ R2; omega) _
  have i0 := x3.c0
  have i1 := x3.c1
  obtain ⟨w4, hw4⟩ : ∃ W, w3.setCell ⟨B, 0, none⟩ (.slice (some ⟨g, 0, none⟩) n1 cap') = W := ⟨_, rfl⟩
  rw [hw4] at l4 b4 k4 x4 o4
  have HW4 : Hid _ := hw4
  have L4 : Aside (LsmC w4 base B (ls.eraseIdx k) (some ⟨g, 0, none⟩) cap') := l4
  have O4 : Aside (OwnE w4 base (.slice a2 KE c2) E) := k4.own lb_ent OE.out
  have B4 : Aside (Below base w w4) := (BV2.out.mono hbase).trans b4
  have K4 : Aside (Kept LB w w4) := (Kept.of_below BV2.out).trans k4
  have ON4 : Aside (Only B (some ⟨g, 0, none⟩) w w4) := (Only.below BV2.out).trans o4 BV2.out.size
  have ncap : n ≤ cap' := by
   obtain ⟨a9, c9, e, h1, h2⟩ := R2'.out.slice
   injection e with _ _ e3
   have := EL.out
   omega
  have el : (ls.eraseIdx k).length = n - 1 := by rw [List.length_eraseIdx, if_pos hkl, HN.out]
  have ef := (flat_split hkl).length_eq
  rw [List.length_append] at ef
  have eE : E.length ≤ ls[k].length := by rw [← HE.out]; exact outL_len _ _
  have EF : Hid ((ls.eraseIdx k).flatten.length + E.length ≤ 10000) := by show _ ≤ _; omega
  have ELN : Hid ((ls.eraseIdx k).length = n - 1) := el
  clear t3 l4 b4 k4 o4 x3 c4 dl hw4 el ef eE
  by_cases hz : KE = 0
  ·subst hz
   have FIN : Aside (Turned w base B (some ⟨g, 0, none⟩) (dropLs ls id) w4) := by
    rw [E0.out, if_pos HKE.out]
    exact ⟨_, L4.out.a, B4.out, K4.out, ON4.out, Moved.refl _ _⟩
   go_wp2_with fail
   rw [HW4.out]
   go_ret
   exact ⟨by rw [HH.out]; rfl, FIN.out⟩
  ·have hz2 : (0 : Int) < (KE : Int) := by omega
   have ly := lay_any B base cap' (some ⟨g, 0, none⟩) (ls.eraseIdx k) E a2 c2 w4 L4.out (by rw [HKE.out]; exact O4.out) (.inl (by rw [ELN.out]; omega)) (by rw [ELN.out]; omega) (by have := EF.out; omega) (Nat.le_trans hbase K4.out.size)
   rw [HME.out, HKE.out] at ly
   go_wp2_with fail
   rw [HW4.out]
   refine ly.mono ?_
   rintro r w5 ⟨rfl, t5⟩
   have FIN : Aside (Turned w base B (some ⟨g, 0, none⟩) (dropLs ls id) w5) := by
    rw [E0.out, if_neg (by rw [HKE.out]; exact hz)]
    obtain ⟨a9, t6, t7, t8, t9, t10⟩ := t5
    exact ⟨a9, t6, B4.out.trans t7, K4.out.trans t8, ON4.out.trans t9 K4.out.size, t10.mono K4.out.size⟩
   clear t5 ly
   go_wp2
   go_ret
   exact ⟨by rw [HH.out]; rfl, FIN.out⟩
end Go.Proofs.YtjnpmipbkiambaaGreatDoor.Qu
