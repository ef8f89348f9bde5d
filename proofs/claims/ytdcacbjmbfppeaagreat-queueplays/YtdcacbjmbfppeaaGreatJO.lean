import Derived.Test.YtdcacbjmbfppeaaGreatJN
import Derived.Test.YtdcacbjmbfppeaaGreatJG
import Derived.Deep.QuietTactic
import Derived.BigQuiet
/- One of the blocks of an own list. -/
namespace Go.Proofs.YtdcacbjmbfppeaaGreat
open Go.RowKit Go.Lib Go.Sort
set_option linter.unusedVariables false

theorem Lsm.at {w : World} {base B : Nat} {ls : List (List Ent)} (h : Lsm w base B ls) : ∃ (a : Option Addr) (cap : Nat), w.cell? ⟨B, 0, none⟩ = some (.slice a ls.length cap) ∧ ls.length ≤ cap ∧ cap ≤ maxLen ∧ B < w.heap.size ∧
    ∀ (i : Nat) (hi : i < ls.length), ∃ g p q, a = some ⟨g, 0, none⟩ ∧ g < w.heap.size ∧ ∀ W, Below w.heap.size w W → W.cell? ⟨g, i * 2, none⟩ = some (.int .i64 (lv ls[i])) ∧ W.cell? ⟨g, i * 2 + 1, none⟩ = some (.slice p ls[i].length q) ∧ IsL W p q ls[i] := by
  obtain ⟨a, cap, cB, h1, h2, hB, _, _, bs, rfl, row⟩ := h.open
  refine ⟨a, cap, cB, h1, h2, hB, fun i hi => ?_⟩
  have hi' : i < bs.length := by simpa using hi
  obtain ⟨g, e, _, hg, c0, c1⟩ := row.at hi'
  refine ⟨g, bs[i].p, bs[i].q, e, hg, fun W hW => ?_⟩
  simp only [List.getElem_map]
  exact ⟨(hW.cell (p := ⟨g, i * 2, none⟩) hg).trans c0, (hW.cell (p := ⟨g, i * 2 + 1, none⟩) hg).trans c1, (row.own bs[i] (List.getElem_mem hi')).is.below hW⟩

end Go.Proofs.YtdcacbjmbfppeaaGreat

/- lsm: Min. -/
namespace Go.Proofs.YtdcacbjmbfppeaaGreat
open Go.RowKit Go.Lib Go.Sort
set_option linter.unusedVariables false

/-- The least of a list. -/
def IsMin (x : Ent) (d : List Ent) : Prop := x ∈ d ∧ ∀ y ∈ d, ltE y x = false
theorem IsMin.sort {x : Ent} {d : List Ent} (h : IsMin x d) : ∃ t, sortE d = x :: t := by
  have p := sortE_perm d
  cases e : sortE d with
  | nil =>
    rw [e] at p
    have := p.mem_iff.2 h.1
    simp at this
  | cons y t =>
    have s := sortE_srt d
    rw [e] at s p
    have hy : y ∈ d := p.mem_iff.1 (by simp)
    have h1 := h.2 y hy
    have hx : x ∈ y :: t := p.mem_iff.2 h.1
    rcases List.mem_cons.1 hx with rfl | hx
    · exact ⟨t, rfl⟩
    · have h2 := (List.pairwise_cons.1 s).1 x hx
      rw [totE _ _ h1 h2]
      exact ⟨t, rfl⟩
theorem IsMin.head {x : Ent} {d : List Ent} (h : Srt (x :: d)) : IsMin x (x :: d) :=
  ⟨by simp, fun y hy => by
    rcases List.mem_cons.1 hy with rfl | hy
    · exact swoE.irrefl _
    · exact (List.pairwise_cons.1 h).1 y hy⟩
theorem IsMin.left {x y : Ent} {c d : List Ent} (h : IsMin x c) (g : IsMin y d) (hl : ltE y x = false) : IsMin x (c ++ d) :=
  ⟨by simp [h.1], fun z hz => by
    rcases List.mem_append.1 hz with hz | hz
    · exact h.2 z hz
    · exact swoE.ntrans _ _ _ (g.2 z hz) hl⟩
theorem IsMin.right {x y : Ent} {c d : List Ent} (h : IsMin x c) (g : IsMin y d) (hl : ltE y x = true) : IsMin y (c ++ d) :=
  ⟨by simp [g.1], fun z hz => by
    rcases List.mem_append.1 hz with hz | hz
    · exact swoE.ntrans _ _ _ (h.2 z hz) (swoE.asymmA hl)
    · exact g.2 z hz⟩
/-- What the first k blocks tell. -/
def MinUp (ls : List (List Ent)) (k : Nat) (F : Bool) (x : Ent) : Prop := (F = false ∧ k = 0 ∧ x = (0, 0)) ∨ (F = true ∧ IsMin x (ls.take k).flatten)
theorem MinUp.first {ls : List (List Ent)} {k : Nat} {x e : Ent} {r : List Ent} (h : MinUp ls k false x) (hk : k < ls.length) (hd : ls[k] = e :: r) (hs : Srt (e :: r)) : MinUp ls (k + 1) true e := by
  rcases h with ⟨_, rfl, _⟩ | ⟨h, _⟩
  · right
    refine ⟨rfl, ?_⟩
    rw [flat_take hk, hd]
    simpa using IsMin.head hs
  · cases h
theorem MinUp.less {ls : List (List Ent)} {k : Nat} {x e : Ent} {r : List Ent} (h : MinUp ls k true x) (hk : k < ls.length) (hd : ls[k] = e :: r) (hs : Srt (e :: r)) (hl : ltE e x = true) : MinUp ls (k + 1) true e := by
  rcases h with ⟨h, _⟩ | ⟨_, h⟩
  · cases h
  · right
    refine ⟨rfl, ?_⟩
    rw [flat_take hk, hd]
    exact h.right (IsMin.head hs) hl
theorem MinUp.more {ls : List (List Ent)} {k : Nat} {x e : Ent} {r : List Ent} (h : MinUp ls k true x) (hk : k < ls.length) (hd : ls[k] = e :: r) (hs : Srt (e :: r)) (hl : ltE e x = false) : MinUp ls (k + 1) true x := by
  rcases h with ⟨h, _⟩ | ⟨_, h⟩
  · cases h
  · right
    refine ⟨rfl, ?_⟩
    rw [flat_take hk, hd]
    exact h.left (IsMin.head hs) hl

/-- What Min tells of an own list. -/
def MinL (w : World) (d : List Ent) (r : Ending) (w' : World) : Prop := ∃ (F : Bool) (x : Ent), r = .returned (.tuple #[.agg #[.int .u64 x.1, .int .i64 x.2], .bool F]) ∧ ((F = false ∧ d = [] ∧ x = (0, 0)) ∨ (F = true ∧ ∃ t, sortE d = x :: t)) ∧ Below w.heap.size w w'

set_option maxHeartbeats 4000000 in
set_option maxRecDepth 100000 in
theorem lmin_any (B base : Nat) (ls : List (List Ent)) (w : World) (h : Lsm w base B ls) (hf : Fall ls) (hlen : ls.length ≤ 10000) :
    Calls Tryz.prog 50 #[.pointer (some ⟨B, 0, none⟩)] w (MinL w ls.flatten) := by
  obtain ⟨a, cap, cB, hc1, hc2, hB, hat⟩ := h.at
  have AT : Aside (∀ (i : Nat) (hi : i < ls.length), ∃ g p q, a = some ⟨g, 0, none⟩ ∧ g < w.heap.size ∧ ∀ W, Below w.heap.size w W → W.cell? ⟨g, i * 2, none⟩ = some (.int .i64 (lv ls[i])) ∧ W.cell? ⟨g, i * 2 + 1, none⟩ = some (.slice p ls[i].length q) ∧ IsL W p q ls[i]) := hat
  obtain ⟨S, hS⟩ : ∃ S, w.heap.size = S := ⟨_, rfl⟩
  have HS : Hid _ := hS
  have hB2 : B < S := by omega
  obtain ⟨n, hn⟩ : ∃ n, ls.length = n := ⟨_, rfl⟩
  have HN : Hid _ := hn
  have HF : Aside (Fall ls) := hf
  rw [hn] at cB hlen
  obtain ⟨u, hu⟩ : ∃ u, (w.alloc (.cells #[.int .u64 0, .int .i64 0] 34)).alloc (.cells #[.int .u64 0, .int .i64 0] 34) = u := ⟨_, rfl⟩
  have HU : Hid _ := hu
  have su : u.heap.size = S + 2 := by rw [← hu, ← hS]; simp
  have b0 : Below S w u := by rw [← hu, ← hS]; exact ((Below.refl _ _).alloc (Nat.le_refl _) _).alloc (by simp) _
  have x1 : Box2 (S + 1) (.int .u64 0) (.int .i64 0) u := by
    have := Box2.new (w.alloc (.cells #[.int .u64 0, .int .i64 0] 34)) (.int .u64 0) (.int .i64 0) 34
    rw [hu] at this
    simpa [hS] using this
  have x0 : Box2 S (.int .u64 0) (.int .i64 0) u := by
    have := (Box2.new w (.int .u64 0) (.int .i64 0) 34).below ((Below.refl _ _).alloc (Nat.le_refl _) (.cells #[.int .u64 0, .int .i64 0] 34)) (by simp)
    rw [hu] at this
    simpa [hS] using this
  have X0 : Aside (Box2 S (.int .u64 0) (.int .i64 0) u) := x0
  have X1 : Aside (Box2 (S + 1) (.int .u64 0) (.int .i64 0) u) := x1
  have B0 : Aside (Below S w u) := b0
  have cB0 : u.cell? ⟨B, 0, none⟩ = some (.slice a n cap) := (b0.cell (p := ⟨B, 0, none⟩) hB2).trans cB
  clear hat h hn hc1 hc2 hf hu x0 x1 b0 su
  go_enter Tryz.func50, Tryz.ntmps50
  go_wp2_with fail
  rw [HU.out]
  go_loopg [5, 15] n (fun kx s5 s15 wr => ∃ (k : Nat) (F : Bool) (x : Ent), s15 = .int .i64 k ∧ s5 = .bool F ∧ k ≤ n ∧ n - k ≤ kx ∧ Aside (MinUp ls k F x) ∧ Aside (Box2 S (.int .u64 0) (.int .i64 0) wr) ∧ Aside (Box2 (S + 1) (.int .u64 x.1) (.int .i64 x.2) wr) ∧ Aside (Below S w wr))
  case atStart => exact ⟨0, false, (0, 0), rfl, rfl, by omega, by omega, (.inl ⟨rfl, rfl, rfl⟩ : MinUp ls 0 false (0, 0)), X0, X1, B0⟩
  case round =>
    clear X0 X1 B0 cB0 HU cB
    obtain ⟨k, F, x, rfl, rfl, hk, hkx, M, X0, X1, D⟩ := hrel
    by_cases hlt : k < n
    · have hz : (k : Int) < (n : Int) := by omega
      have hkl : k < ls.length := by rw [HN.out]; exact hlt
      obtain ⟨g, p, q, ha, hg, hcs⟩ := AT.out k hkl
      obtain ⟨c0, c1, L⟩ := hcs wr (by rw [HS.out]; exact D.out)
      have hsrt := HF.out.srt _ (List.getElem_mem hkl)
      have hpos := HF.out.pos _ (List.getElem_mem hkl)
      obtain ⟨e, r, hd⟩ : ∃ e r, ls[k] = e :: r := by
        cases hd : ls[k] with
        | nil => rw [hd] at hpos; simp at hpos
        | cons e r => exact ⟨e, r, rfl⟩
      have HD : Hid _ := hd
      have HSR : Aside (Srt (e :: r)) := by rw [← hd]; exact hsrt
      rw [hd] at c0 c1 L
      obtain ⟨m, hm⟩ : ∃ m, lv (e :: r) = m := ⟨_, rfl⟩
      obtain ⟨kl, hkl2⟩ : ∃ m, (e :: r).length = m := ⟨_, rfl⟩
      rw [hm] at c0
      rw [hkl2] at c1
      obtain ⟨R, hR⟩ : ∃ R, wr.heap.size = R := ⟨_, rfl⟩
      have sg : g < R := by have := D.out.size; omega
      have sS : S + 1 < R := by rw [← hR]; exact X1.out.lt
      obtain ⟨v1, hv1⟩ : ∃ v, wr.alloc (.cells #[.int .i64 m, .slice p kl q] 110) = v := ⟨_, rfl⟩
      have bv1 : Below wr.heap.size wr v1 := by rw [← hv1]; exact (Below.refl _ _).alloc (Nat.le_refl _) _
      have HV1 : Hid _ := hv1
      have mn := minB_any m p q e r v1 (L.below bv1)
      rw [hkl2] at mn
      have XV0 : Aside (Box2 S (.int .u64 0) (.int .i64 0) v1) := X0.out.on bv1
      have XV1 : Aside (Box2 (S + 1) (.int .u64 x.1) (.int .i64 x.2) v1) := X1.out.on bv1
      have DV : Aside (Below S w v1) := D.out.trans (bv1.mono (by omega))
      have sv1 : R ≤ v1.heap.size := by have := bv1.size; omega
      clear hm hkl2 hd L hsrt hpos hcs bv1 hv1 D X0 X1
      subst ha
      go_wp2_with fail
      rw [HV1.out]
      refine mn.mono ?_
      rintro r2 w2 ⟨rfl, b2⟩
      obtain ⟨R2, hR2⟩ : ∃ R, w2.heap.size = R := ⟨_, rfl⟩
      have sR : R ≤ R2 := by have := b2.size; omega
      obtain ⟨v2, hv2⟩ : ∃ v, w2.alloc (.cells #[.int .u64 e.1, .int .i64 e.2] 34) = v := ⟨_, rfl⟩
      have bv2 : Below w2.heap.size w2 v2 := by rw [← hv2]; exact (Below.refl _ _).alloc (Nat.le_refl _) _
      have HV2 : Hid _ := hv2
      have XE : Aside (Box2 R2 (.int .u64 e.1) (.int .i64 e.2) v2) := by rw [← hv2, ← hR2]; exact Box2.new _ _ _ _
      have Y0 : Aside (Box2 S (.int .u64 0) (.int .i64 0) v2) := (XV0.out.on b2).on bv2
      have Y1 : Aside (Box2 (S + 1) (.int .u64 x.1) (.int .i64 x.2) v2) := (XV1.out.on b2).on bv2
      have D2 : Aside (Below S w v2) := (DV.out.trans (b2.mono (by omega))).trans (bv2.mono (by omega))
      have o0 := ((XV1.out.on b2)).c0
      have o1 := ((XV1.out.on b2)).c1
      have of0 := ((XV1.out.on b2)).f0
      have of1 := ((XV1.out.on b2)).f1
      have nS : S + 1 ≠ S := by omega
      have Z1 : Aside (Box2 (S + 1) (.int .u64 e.1) (.int .i64 e.2) (((w2.setCell ⟨S + 1, 0, none⟩ (.int .u64 e.1)).setCell ⟨S + 1, 1, none⟩ (.int .i64 e.2)).alloc (.cells #[.int .u64 e.1, .int .i64 e.2] 34))) := ((XV1.out.on b2).set _ _).on ((Below.refl _ _).alloc (Nat.le_refl _) _)
      have Z0 : Aside (Box2 S (.int .u64 0) (.int .i64 0) (((w2.setCell ⟨S + 1, 0, none⟩ (.int .u64 e.1)).setCell ⟨S + 1, 1, none⟩ (.int .i64 e.2)).alloc (.cells #[.int .u64 e.1, .int .i64 e.2] 34))) := (((XV0.out.on b2).other nS _).other nS _).on ((Below.refl _ _).alloc (Nat.le_refl _) _)
      have ZD : Aside (Below S w (((w2.setCell ⟨S + 1, 0, none⟩ (.int .u64 e.1)).setCell ⟨S + 1, 1, none⟩ (.int .i64 e.2)).alloc (.cells #[.int .u64 e.1, .int .i64 e.2] 34))) := (((DV.out.trans (b2.mono (by omega))).setCell (by show S ≤ S + 1; omega) _).setCell (by show S ≤ S + 1; omega) _).alloc (by simp; omega) _
      have sv2 : R2 ≤ v2.heap.size := by have := bv2.size; omega
      clear b2 bv2 mn XV0 XV1 DV c0 c1 hv2
      have sS2 : S + 1 < R2 := by omega
      cases F with
      | false =>
        go_wp2
        go_roundg (n - (k + 1))
        case measure => omega
        case rel => exact ⟨k + 1, true, e, by go_num, rfl, by omega, Nat.le_refl _, M.out.first hkl HD.out HSR.out, Z0, Z1, ZD⟩
      | true =>
        clear Z0 Z1 ZD
        have ls2 := less_any e x v2
        have sS3 : S ≤ v2.heap.size := by omega
        cases hB : ltE e x with
        | true =>
          rw [hB] at ls2
          have HB : Hid _ := hB
          clear hB
          go_wp2_with fail
          rw [HV2.out]
          refine ls2.mono ?_
          rintro r3 w3 ⟨rfl, g3⟩
          have q0 := (Y1.out.on g3.below).c0
          have q1 := (Y1.out.on g3.below).c1
          have q2 := (Y1.out.on g3.below).f0
          have q3 := (Y1.out.on g3.below).f1
          have p0 := (XE.out.on g3.below).c0
          have p1 := (XE.out.on g3.below).c1
          have Z1 : Aside (Box2 (S + 1) (.int .u64 e.1) (.int .i64 e.2) ((w3.setCell ⟨S + 1, 0, none⟩ (.int .u64 e.1)).setCell ⟨S + 1, 1, none⟩ (.int .i64 e.2))) := (Y1.out.on g3.below).set _ _
          have Z0 : Aside (Box2 S (.int .u64 0) (.int .i64 0) ((w3.setCell ⟨S + 1, 0, none⟩ (.int .u64 e.1)).setCell ⟨S + 1, 1, none⟩ (.int .i64 e.2))) := ((Y0.out.on g3.below).other nS _).other nS _
          have ZD : Aside (Below S w ((w3.setCell ⟨S + 1, 0, none⟩ (.int .u64 e.1)).setCell ⟨S + 1, 1, none⟩ (.int .i64 e.2))) := ((D2.out.trans (g3.below.mono sS3)).setCell (by show S ≤ S + 1; omega) _).setCell (by show S ≤ S + 1; omega) _
          clear g3 ls2 o0 o1 of0 of1 Y0 Y1 D2 XE
          go_wp2
          go_roundg (n - (k + 1))
          case measure => omega
          case rel => exact ⟨k + 1, true, e, by go_num, rfl, by omega, Nat.le_refl _, M.out.less hkl HD.out HSR.out HB.out, Z0, Z1, ZD⟩
        | false =>
          rw [hB] at ls2
          have HB : Hid _ := hB
          clear hB
          go_wp2_with fail
          rw [HV2.out]
          refine ls2.mono ?_
          rintro r3 w3 ⟨rfl, g3⟩
          have Z1 : Aside (Box2 (S + 1) (.int .u64 x.1) (.int .i64 x.2) w3) := Y1.out.on g3.below
          have Z0 : Aside (Box2 S (.int .u64 0) (.int .i64 0) w3) := Y0.out.on g3.below
          have ZD : Aside (Below S w w3) := D2.out.trans (g3.below.mono sS3)
          clear g3 ls2 o0 o1 of0 of1 Y0 Y1 D2 XE
          go_wp2
          go_roundg (n - (k + 1))
          case measure => omega
          case rel => exact ⟨k + 1, true, x, by go_num, rfl, by omega, Nat.le_refl _, M.out.more hkl HD.out HSR.out HB.out, Z0, Z1, ZD⟩
    · have hz : ¬ (k : Int) < (n : Int) := by omega
      have y0 := X1.out.c0
      have y1 := X1.out.c1
      have y2 := X0.out.c0
      have y3 := X0.out.c1
      have y4 := X0.out.f0
      have y5 := X0.out.f1
      have e : k = ls.length := by rw [HN.out]; omega
      have FIN : Aside ((F = false ∧ ls.flatten = [] ∧ x = (0, 0)) ∨ (F = true ∧ ∃ t, sortE ls.flatten = x :: t)) := by
        rcases M.out with ⟨h1, h2, h3⟩ | ⟨h1, h2⟩
        · have : ls = [] := List.length_eq_zero_iff.1 (by omega)
          exact .inl ⟨h1, by rw [this]; rfl, h3⟩
        · rw [List.take_of_length_le (by omega)] at h2
          exact .inr ⟨h1, h2.sort⟩
      have Z0 : Aside (Box2 S (.int .u64 x.1) (.int .i64 x.2) ((wr.setCell ⟨S, 0, none⟩ (.int .u64 x.1)).setCell ⟨S, 1, none⟩ (.int .i64 x.2))) := X0.out.set _ _
      have ZD : Aside (Below S w ((wr.setCell ⟨S, 0, none⟩ (.int .u64 x.1)).setCell ⟨S, 1, none⟩ (.int .i64 x.2))) := (D.out.setCell (Nat.le_refl _) _).setCell (Nat.le_refl _) _
      clear X0 X1 M D e
      go_wp2
      generalize World.setCell _ _ _ = w3 at Z0 ZD ⊢
      have z0 := Z0.out.c0
      have z1 := Z0.out.c1
      refine bodyPost_ret (v := .tuple #[.agg #[.int .u64 x.1, .int .i64 x.2], .bool F]) (by simp [results, Tryz.results50, go_sem, z0, z1]) rfl ⟨F, x, rfl, FIN.out, by rw [HS.out]; exact ZD.out⟩
end Go.Proofs.YtdcacbjmbfppeaaGreat
