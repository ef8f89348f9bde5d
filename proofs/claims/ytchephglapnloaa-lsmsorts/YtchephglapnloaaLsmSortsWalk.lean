/- The walk of 'LsmSorts'. -/
import Derived.Test.YtchephglapnloaaLsmY
import Derived.Test.YtchephglapnloaaLsmA
import Derived.Test.YtchephglapnloaaRowAt
import Derived.Deep.RegionHeld3
namespace Go.Proofs.Ytchephglapnloaa
open Go.RowKit Go.Lib Go.Sort
set_option linter.unusedVariables false

/-- The entries that are put: a key, and its number. -/
def keyS (zs : List Int) (i : Nat) : Ent := (zs.getD i 0, (i : Int) + 1)
/-- What the k least being taken leaves. -/
def TakeIs (ls : List (List Ent)) (A : List Ent) (k : Nat) : Prop := Fall ls ∧ sortE ls.flatten = A.drop k ∧ ls.length ≤ 200 ∧ ls.flatten.length ≤ 200
/-- A list in order whose IDs are unlike. -/
structure Uniq (A : List Ent) (zs : List Int) (N : Nat) : Prop where
  len : A.length = N
  srt : Srt A
  nod : (A.map Prod.snd).Nodup
  mem : ∀ x ∈ A, ∃ i : Nat, i < N ∧ x = keyS zs i
theorem uniq_of (zs : List Int) (N : Nat) : Uniq (sortE (putUp (keyS zs) N).flatten) zs N := by
  have p := (sortE_perm (putUp (keyS zs) N).flatten).trans (putUp_perm (keyS zs) N)
  refine ⟨by rw [p.length_eq]; simp, sortE_srt _, (p.map Prod.snd).nodup_iff.2 ?_, fun x hx => ?_⟩
  · unfold List.Nodup
    rw [List.map_map, List.pairwise_map]
    have h : List.Pairwise (fun x y => x ≠ y) (List.range N) := List.nodup_range
    refine h.imp fun hne e => hne ?_
    simp only [Function.comp, keyS] at e
    omega
  · obtain ⟨i, hi, rfl⟩ := List.mem_map.1 (p.mem_iff.1 hx)
    exact ⟨i, List.mem_range.1 hi, rfl⟩
theorem Uniq.lt {A : List Ent} {zs : List Int} {N : Nat} (h : Uniq A zs N) {k : Nat} (hk : k + 1 < A.length) : ltE A[k] A[k + 1] = true := by
  have h1 := h.srt.get (Nat.lt_succ_self k) hk
  cases e : ltE A[k] A[k + 1] with
  | true => rfl
  | false =>
    have := totE _ _ e h1
    have hn := List.pairwise_iff_getElem.1 h.nod k (k + 1) (by simp; omega) (by simpa using hk) (by omega)
    simp only [List.getElem_map] at hn
    exact absurd (by rw [this]) hn
theorem TakeIs.first {zs : List Int} {N : Nat} (hN : N ≤ 200) : TakeIs (putUp (keyS zs) N) (sortE (putUp (keyS zs) N).flatten) 0 :=
  ⟨putUp_fall _ _, by simp, by have := putUp_count (keyS zs) N; omega, by rw [putUp_len]; exact hN⟩
theorem outL_head {x : Ent} {t : List Ent} (hn : ((x :: t).map Prod.snd).Nodup) : outL x.2 (x :: t) = t := by
  unfold outL
  rw [List.filter_cons]
  simp only [decide_true, Bool.not_true, Bool.false_eq_true, if_false]
  rw [List.filter_eq_self]
  intro y hy
  rw [List.map_cons] at hn
  have := (List.nodup_cons.1 hn).1
  simp only [Bool.not_eq_true', decide_eq_false_iff_not]
  intro e
  exact this (List.mem_map.2 ⟨y, hy, e⟩)
theorem TakeIs.next {ls : List (List Ent)} {A : List Ent} {zs : List Int} {N k : Nat} (h : TakeIs ls A k) (u : Uniq A zs N) (hk : k < A.length) : hasL ls.flatten A[k].2 = true ∧ TakeIs (dropLs ls A[k].2) A (k + 1) ∧ (dropLs ls A[k].2).flatten.length = N - 1 - k := by
  obtain ⟨hf, hs, h1, h2⟩ := h
  have p : ls.flatten.Perm (A.drop k) := by rw [← hs]; exact (sortE_perm _).symm
  have hd : A.drop k = A[k] :: A.drop (k + 1) := List.drop_eq_getElem_cons hk
  have hn : ((A.drop k).map Prod.snd).Nodup := u.nod.sublist ((List.drop_sublist k A).map _)
  have hnl : (ls.flatten.map Prod.snd).Nodup := (p.map Prod.snd).nodup_iff.2 hn
  have hm : A[k] ∈ ls.flatten := p.mem_iff.2 (by rw [hd]; exact List.mem_cons_self)
  have pp : (dropLs ls A[k].2).flatten.Perm (A.drop (k + 1)) := by
    refine (dropLs_perm hnl).trans ?_
    rw [hd] at hn
    have := p.filter (fun x : Ent => !decide (x.2 = A[k].2))
    rw [hd] at this
    rw [← outL_head hn]
    exact this
  have f2 := dropLs_fall hf A[k].2
  have l2 : (dropLs ls A[k].2).flatten.length = N - 1 - k := by rw [pp.length_eq, List.length_drop, u.len]; omega
  have c2 := f2.count
  have l3 := dropLs_len (ls := ls) A[k].2
  refine ⟨?_, ⟨f2, (sortE_of (u.srt.drop (k + 1)) pp.symm).symm, by omega, by omega⟩, l2⟩
  obtain ⟨i, hi, e⟩ := List.getElem_of_mem hm
  exact hasL_at i hi (by rw [e])

theorem Uniq.notin {A : List Ent} {zs : List Int} {N i : Nat} {y : Ent} (u : Uniq A zs N) (h : (i = 0 ∧ y = (0, 0)) ∨ (0 < i ∧ A[i - 1]? = some y)) : y ∉ A.drop (i + 1) := by
  intro hy
  rcases h with ⟨_, rfl⟩ | ⟨hi, h⟩
  · obtain ⟨j, _, e⟩ := u.mem _ (List.mem_of_mem_drop hy)
    have := congrArg Prod.snd e
    simp [keyS] at this
    omega
  · obtain ⟨h1, h2⟩ := List.getElem?_eq_some_iff.1 h
    obtain ⟨t, ht, e⟩ := List.getElem_of_mem hy
    rw [List.length_drop] at ht
    rw [List.getElem_drop] at e
    have := List.pairwise_iff_getElem.1 u.nod (i - 1) (i + 1 + t) (by simp; omega) (by simp; omega) (by omega)
    simp only [List.getElem_map] at this
    exact this (by rw [h2, e])
/-- A box that holds what is not among its entries is none of its rows. -/
theorem lsm_other {w w' : World} {base B R : Nat} {ls : List (List Ent)} {y : Ent} (h : Lsm w base B ls) (hp : ∀ d ∈ ls, 0 < d.length) (hR : w.heap[R]? = some (.cells #[.int .u64 y.1, .int .i64 y.2] 28 (0, 0))) (hy : y ∉ ls.flatten) (g : w.grownBy w' (some R)) : Lsm w' base B ls := by
  obtain ⟨a, cap, bs, e1, e2, e3, e4⟩ := h
  have kp : Kept (fun X => X = 28) w w' := by
    refine ⟨g.size, fun k cs U fr hk hU => g.block k (lt_of_block hk) ?_⟩
    intro e
    simp only [Option.some.injEq] at e
    subst e
    rw [hR] at hk
    simp only [Option.some.injEq, Obj.cells.injEq] at hk
    exact hU hk.2.1.symm
  refine ⟨a, cap, bs, e1, e2, (kp.block B _ _ _ e3 (by decide)).trans e3, ⟨kp.own (by decide) e4.row, fun x hx => ?_⟩⟩
  have o := e4.own x hx
  have hd : x.d ∈ ls := by rw [← e1]; exact List.mem_map.2 ⟨x, hx, rfl⟩
  refine World.ownsRow.kept o g (.inr ?_)
  rcases o.2 with ⟨h1, h0⟩ | ⟨q, cap', cur, h1, _, hq, hn, _, hs, ht⟩
  · have := hp _ hd; omega
  · rw [h1]
    simp only [Value.ownBlock, ne_eq, Option.some.injEq]
    rintro rfl
    rw [hR] at hq
    simp only [Option.some.injEq, Obj.cells.injEq] at hq
    obtain ⟨hq, _⟩ := hq
    subst hq
    have c1 : cap' = 1 := by simp at hs; omega
    have l1 := hp _ hd
    obtain ⟨e, he⟩ : ∃ e, x.d = [e] := by
      match hx' : x.d with
      | [] => rw [hx'] at l1; simp at l1
      | [e] => exact ⟨e, rfl⟩
      | e :: f :: r => rw [hx'] at hn; simp at hn; omega
    rw [he] at ht
    simp [flat_cons] at ht
    refine hy (List.mem_flatten.2 ⟨x.d, hd, ?_⟩)
    rw [he]
    exact List.mem_singleton.2 (Prod.ext ht.1 ht.2)
/-- The two boxes, and what was there at first. -/
structure SortK (w : World) (S R R8 : Nat) (x y : Ent) (W : World) : Prop where
  e : W.heap[R8]? = some (.cells #[.int .u64 x.1, .int .i64 x.2] 28 (0, 0))
  l : W.heap[R]? = some (.cells #[.int .u64 y.1, .int .i64 y.2] 28 (0, 0))
  d : Below S w W
theorem SortK.on {w : World} {S R R8 : Nat} {x y : Ent} {W W' : World} (h : SortK w S R R8 x y W) (hS : S ≤ w.heap.size) (hw : Below W.heap.size W W') : SortK w S R R8 x y W' :=
  ⟨(hw.block _ (lt_of_block h.e)).trans h.e, (hw.block _ (lt_of_block h.l)).trans h.l, h.d.trans (hw.mono (Nat.le_trans hS h.d.size))⟩
theorem SortK.turn {w : World} {S R R8 B : Nat} {x y : Ent} {ls : List (List Ent)} {W W' : World} (h : SortK w S R R8 x y W) (t : Turned W S B ls W') : SortK w S R R8 x y W' :=
  ⟨(t.2.2.block _ _ _ _ h.e lb_ent).trans h.e, (t.2.2.block _ _ _ _ h.l lb_ent).trans h.l, h.d.trans t.2.1⟩

set_option maxHeartbeats 4000000 in
set_option maxRecDepth 100000 in
theorem lsmSorts_walk (a0 : Option Addr) (len0 cap0 : Nat) (zs : List Int) (w : World) (h0 : IsRow .u64 w a0 len0 cap0 zs) :
    Calls Try.prog 7 #[.slice a0 len0 cap0] w fun r w' => r = .returned (.bool true) ∧ Below w.heap.size w w' := by
  obtain ⟨S, hS⟩ : ∃ S, w.heap.size = S := ⟨_, rfl⟩
  have HS : Hid _ := hS
  have hl := h0.len_le
  have H0 : Aside (IsRow .u64 w a0 len0 cap0 zs) := h0
  obtain ⟨N, hN, n100, nl⟩ : ∃ N : Nat, min (len0 : Int) 100 = (N : Int) ∧ N ≤ 100 ∧ N ≤ len0 := ⟨min len0 100, by omega, by omega, by omega⟩
  have nw := lnew_any w
  have L0 : Aside (Lsm (w.alloc (.cells #[.slice none 0 0] 60)) S S []) := by rw [← hS]; exact lsm_new w _ (Nat.le_refl _)
  have D0 : Aside (Below S w (w.alloc (.cells #[.slice none 0 0] 60))) := by rw [← hS]; exact (Below.refl _ _).alloc (Nat.le_refl _) _
  rw [hS] at nw
  clear h0
  go_enter Try.func7, Try.ntmps7
  go_wp2_with fail
  refine nw.mono ?_
  rintro r w1 ⟨rfl, rfl⟩
  generalize w.alloc (.cells #[.slice none 0 0] 60) = w1 at L0 D0 ⊢
  clear nw
  go_wp2_with fail
  go_loopg [5] N (fun kx s5 wr => ∃ (k : Nat), s5 = .int .i64 k ∧ k ≤ N ∧ N - k ≤ kx ∧ Aside (Lsm wr S S (putUp (keyS zs) k)) ∧ Aside (Below S w wr))
  case atStart => exact ⟨0, rfl, by omega, by omega, L0, D0⟩
  case round =>
    clear L0 D0
    obtain ⟨k, rfl, hk, hkx, L, D⟩ := hrel
    have sz := D.out.size
    by_cases hlt : k < N
    · have hz : (k : Int) < (N : Int) := by omega
      have hz2 : (k : Int) < (len0 : Int) := by omega
      obtain ⟨b, off, ha, hb, hc, _⟩ := H0.out.at (show k < len0 by omega)
      have hc2 := (D.out.cell (p := ⟨b, off + k, none⟩) (by show b < S; omega)).trans hc
      have pt := lput_any S S _ (keyS zs k) wr L.out (by have := putUp_count (keyS zs) k; omega) (by rw [putUp_len]; omega) (by omega)
      unfold keyS at pt
      simp only at pt
      obtain ⟨z, hzz⟩ : ∃ z, zs.getD k 0 = z := ⟨_, rfl⟩
      rw [hzz] at pt hc2
      have HZ : Hid _ := hzz
      subst ha
      clear hc hzz
      go_wp2_with fail
      refine pt.mono ?_
      rintro r w2 ⟨rfl, t2⟩
      have L2 : Aside (Lsm w2 S S (putUp (keyS zs) (k + 1))) := by have := t2.1; rw [← HZ.out] at this; exact this
      have D2 : Aside (Below S w w2) := D.out.trans t2.2.1
      clear t2 pt L D hc2
      go_wp2
      go_roundg (N - (k + 1))
      case measure => omega
      case rel => exact ⟨k + 1, by go_num, by omega, Nat.le_refl _, L2, D2⟩
    · obtain rfl : k = N := by omega
      have hz : ¬ (k : Int) < (k : Int) := by omega
      have u0 := uniq_of zs k
      have t0 := TakeIs.first (zs := zs) (N := k) (by omega)
      obtain ⟨A, hA⟩ : ∃ A, sortE (putUp (keyS zs) k).flatten = A := ⟨_, rfl⟩
      rw [hA] at u0 t0
      have U : Aside (Uniq A zs k) := u0
      have T0 : Aside (TakeIs (putUp (keyS zs) k) A 0) := t0
      obtain ⟨R, hR⟩ : ∃ R, wr.heap.size = R := ⟨_, rfl⟩
      obtain ⟨v, hv⟩ : ∃ v, wr.alloc (.cells #[.int .u64 0, .int .i64 0] 28) = v := ⟨_, rfl⟩
      have HV : Hid _ := hv
      have bv : Below wr.heap.size wr v := by rw [← hv]; exact (Below.refl _ _).alloc (Nat.le_refl _) _
      have LV : Aside (Lsm v S S (putUp (keyS zs) k)) := L.out.below bv
      have DV : Aside (Below S w v) := D.out.trans (bv.mono (by omega))
      have BX : Aside (v.heap[R]? = some (.cells #[.int .u64 0, .int .i64 0] 28 (0, 0))) := by rw [← hv, ← hR]; exact heap_alloc_new wr _
      have SR : S ≤ R := by omega
      clear u0 t0 hA bv hv L D
      go_wp2_with fail
      rw [HV.out]
      go_loopg [7, 8, 9] k (fun kx s7 s8 s9 wr => ∃ (i : Nat) (y : Ent) (ls : List (List Ent)), s7 = .int .i64 i ∧ i ≤ k ∧ k - i ≤ kx ∧ Aside (TakeIs ls A i) ∧ Aside ((i = 0 ∧ y = (0, 0)) ∨ (0 < i ∧ A[i - 1]? = some y)) ∧ Aside (Lsm wr S S ls) ∧ Aside (wr.heap[R]? = some (.cells #[.int .u64 y.1, .int .i64 y.2] 28 (0, 0))) ∧ Aside (Below S w wr))
      case atStart => exact ⟨0, (0, 0), _, rfl, by omega, by omega, T0, (.inl ⟨rfl, rfl⟩ : ((0 : Nat) = 0 ∧ ((0, 0) : Ent) = (0, 0)) ∨ (0 < 0 ∧ A[0 - 1]? = some (0, 0))), LV, BX, DV⟩
      case round =>
        clear T0 LV BX DV HV sz
        obtain ⟨i, y, ls, rfl, hi, hix, T, Y, L, BX, D⟩ := hrel
        have sz := D.out.size
        by_cases hlt2 : i < k
        · have hy : (i : Int) < (k : Int) := by omega
          have hiA : i < A.length := by rw [U.out.len]; exact hlt2
          have mn := lmin_any S S ls wr L.out T.out.1 (by have := T.out.2.2.1; omega)
          obtain ⟨x, hx⟩ : ∃ x, A[i] = x := ⟨_, rfl⟩
          have hsx : sortE ls.flatten = x :: A.drop (i + 1) := by rw [T.out.2.1, List.drop_eq_getElem_cons hiA, hx]
          have HX : Hid _ := hx
          have HSX : Hid _ := hsx
          obtain ⟨j, hj, hxj⟩ := U.out.mem x (by rw [← hx]; exact List.getElem_mem hiA)
          clear hx hsx
          go_wp2_with fail
          refine mn.mono ?_
          rintro r w2 ⟨F, x', rfl, hF, d2⟩
          have hFx : F = true ∧ x' = x := by
            rcases hF with ⟨_, h, _⟩ | ⟨h, t, ht⟩
            · have := HSX.out
              rw [h, sortE_id Srt.nil] at this
              cases this
            · rw [HSX.out] at ht
              injection ht with e1 e2
              exact ⟨h, e1.symm⟩
          obtain ⟨rfl, rfl⟩ := hFx
          have xe1 : x'.1 = zs.getD j 0 := by rw [hxj]; rfl
          have xe2 : x'.2 = (j : Int) + 1 := by rw [hxj]; rfl
          obtain ⟨z, hz0⟩ : ∃ z, zs.getD j 0 = z := ⟨_, rfl⟩
          rw [hz0] at xe1
          rw [xe1, xe2]
          have XE : Hid (A[i].2 = (j : Int) + 1) := by show _ = _; rw [HX.out, xe2]
          have XY : Hid (x' = (z, (j : Int) + 1)) := by show _ = _; rw [← xe1, ← xe2]
          obtain ⟨b, off, ha, hb, hc, _⟩ := H0.out.at (show j < len0 by omega)
          rw [hz0] at hc
          obtain ⟨R8, hR8⟩ : ∃ R, w2.heap.size = R := ⟨_, rfl⟩
          obtain ⟨v2, hv2⟩ : ∃ v, w2.alloc (.cells #[.int .u64 z, .int .i64 ((j : Int) + 1)] 28) = v := ⟨_, rfl⟩
          have bv2 : Below w2.heap.size w2 v2 := by rw [← hv2]; exact (Below.refl _ _).alloc (Nat.le_refl _) _
          have HV2 : Hid _ := hv2
          have b02 : Below wr.heap.size wr v2 := d2.trans (bv2.mono d2.size)
          have X8 : Aside (v2.heap[R8]? = some (.cells #[.int .u64 z, .int .i64 ((j : Int) + 1)] 28 (0, 0))) := by rw [← hv2, ← hR8]; exact heap_alloc_new w2 _
          have X6 : Aside (v2.heap[R]? = some (.cells #[.int .u64 y.1, .int .i64 y.2] 28 (0, 0))) := (b02.block R (lt_of_block BX.out)).trans BX.out
          have L2 : Aside (Lsm v2 S S ls) := L.out.below b02
          have D2 : Aside (Below S w v2) := D.out.trans (b02.mono (by omega))
          have s2 := D2.out.size
          obtain ⟨n1, n2, n3⟩ := T.out.next U.out hiA
          rw [XE.out] at n1 n2 n3
          obtain ⟨ls', hls'⟩ : ∃ ls', dropLs ls ((j : Int) + 1) = ls' := ⟨_, rfl⟩
          rw [hls'] at n2 n3
          obtain ⟨M, hM, hM2⟩ : ∃ M : Nat, (k : Int) - 1 - (i : Int) = (M : Int) ∧ k - 1 - i = M := ⟨k - 1 - i, by omega, rfl⟩
          rw [hM2] at n3
          have DR : Aside (∀ W, Below v2.heap.size v2 W → Calls Try.prog 16 #[.pointer (some ⟨S, 0, none⟩), .int .i64 ((j : Int) + 1)] W fun r w' => r = .returned (.bool true) ∧ Turned W S S ls' w') := fun W hW => by
            have := ldrop_any S S ls ((j : Int) + 1) W (L2.out.below hW) T.out.1 (by have := T.out.2.2.1; omega) (by have := T.out.2.2.2; omega) (by have := hW.size; omega)
            rw [n1, hls'] at this
            exact this
          have LN : Aside (∀ W, Lsm W S S ls' → Calls Try.prog 12 #[.pointer (some ⟨S, 0, none⟩)] W fun r w' => r = .returned (.int .i64 M) ∧ Below W.heap.size W w') := fun W hW => by
            have := llen_any S S ls' W hW (by omega)
            rw [n3] at this
            exact this
          have T2 : Aside (TakeIs ls' A (i + 1)) := n2
          have NI : Aside (y ∉ ls'.flatten) := fun hy' => by
            have := (sortE_perm ls'.flatten).mem_iff.2 hy'
            rw [n2.2.1] at this
            exact U.out.notin Y.out this
          have Y2 : Aside ((i + 1 = 0 ∧ ((z, (j : Int) + 1) : Ent) = (0, 0)) ∨ (0 < i + 1 ∧ A[i + 1 - 1]? = some (z, (j : Int) + 1))) := by
            right
            refine ⟨by omega, ?_⟩
            rw [Nat.add_sub_cancel, List.getElem?_eq_getElem hiA, HX.out, XY.out]
          have KC : Aside (∀ W, SortK w S R R8 (z, (j : Int) + 1) y W → W.cell? ⟨R8, 0, none⟩ = some (.int .u64 z) ∧ W.cell? ⟨R8, 1, none⟩ = some (.int .i64 ((j : Int) + 1)) ∧ W.cell? ⟨R, 0, none⟩ = some (.int .u64 y.1) ∧ W.cell? ⟨R, 1, none⟩ = some (.int .i64 y.2) ∧ W.cell? ⟨b, off + j, none⟩ = some (.int .u64 z)) := fun W hW =>
            ⟨box0 hW.e, box1 hW.e, box0 hW.l, box1 hW.l, (hW.d.cell (p := ⟨b, off + j, none⟩) (by show b < S; omega)).trans hc⟩
          have kp0 : SortK w S R R8 (z, (j : Int) + 1) y v2 := ⟨X8.out, X6.out, D2.out⟩
          have kp1 : SortK w S R R8 (z, (j : Int) + 1) y v2.drew := kp0.on (by omega) ((Below.refl _ _).drew)
          have j1 : ¬ (j : Int) + 1 < 1 := by omega
          have j2 : ¬ (k : Int) < (j : Int) + 1 := by omega
          have j3 : (j : Int) < (len0 : Int) := by omega
          have j4 : IntKind.i64.wrap (j : Int) = (j : Int) := by rw [IntKind.wrap_i64]; omega
          have j7 : IntKind.i64.wrap ((k : Int) - 1) = (k : Int) - 1 := by rw [IntKind.wrap_i64]; omega
          have j8 : IntKind.i64.wrap (M : Int) = (M : Int) := by rw [IntKind.wrap_i64]; omega
          have j5 : decide ((j : Int) + 1 < 1) = false := decide_eq_false j1
          have j6 : decide ((k : Int) < (j : Int) + 1) = false := decide_eq_false j2
          have hb0 : Below v2.heap.size v2 v2 := Below.refl _ _
          have hb1 : Below v2.heap.size v2 v2.drew := hb0.drew
          have mx := mixed
          clear hv2 bv2 b02 n1 n2 n3 hls' hM2 mn hF d2 xe1 xe2 hxj hz0 hc
          subst ha
          by_cases hi0 : i = 0
          · have g1 : ¬ (0 : Int) < (i : Int) := by omega
            have g2 : decide ((0 : Int) < (i : Int)) = false := decide_eq_false g1
            have g3 : decide (0 < i) = false := decide_eq_false (by omega)
            clear g1 hi0
            go_wp2_with fail
            rw [HV2.out]
            refine wp_region_held_drew (S := fun W => W.cell? ⟨R8, 0, none⟩ = some (.int .u64 z) ∧ W.cell? ⟨R8, 1, none⟩ = some (.int .i64 ((j : Int) + 1)) ∧ W.cell? ⟨R, 0, none⟩ = some (.int .u64 y.1) ∧ W.cell? ⟨R, 1, none⟩ = some (.int .i64 y.2) ∧ W.cell? ⟨b, off + j, none⟩ = some (.int .u64 z)) (by kernel_rfl) (KC.out _ kp1) (fun hHeld => ?_)
            refine wpAnyH_take (i := 0) (oi := { dst := some 43, op := Op.move (Operand.tmp 9), type := 4, pos := "law.go:116", after := #[], guard := none }) (v := ?_) rfl (by kernel_rfl) (by kernel_rfl) (by kernel_rfl) (fun _ _ _ h => h) (Or.inl ⟨by rfl, ?_⟩) (by assumption) ?_
            rotate_left
            · (intro w hSw; (try dsimp only at hSw); go_simp; try with_reducible rfl)
            simp only [Act.put, List.setIfInBounds_toArray, List.set_cons_zero, List.set_cons_succ]
            refine wpAnyH_take (i := 1) (oi := { dst := some 44, op := Op.unOp UnOp.not 4 (Operand.tmp 43), type := 4, pos := "law.go:116", after := #[{ on := 0, ground := Ground.data }], guard := none }) (v := ?_) rfl (by kernel_rfl) (by kernel_rfl) (by kernel_rfl) (fun _ _ _ h => h) (Or.inl ⟨by rfl, ?_⟩) (by assumption) ?_
            rotate_left
            · (intro w hSw; (try dsimp only at hSw); go_simp; try with_reducible rfl)
            simp only [Act.put, List.setIfInBounds_toArray, List.set_cons_zero, List.set_cons_succ]
            refine wpAnyH_take (i := 2) (oi := { dst := some 45, op := Op.move (Operand.tmp 44), type := 4, pos := "law.go:116", after := #[{ on := 1, ground := Ground.data }], guard := none }) (v := ?_) rfl (by kernel_rfl) (by kernel_rfl) (by kernel_rfl) (fun _ _ _ h => h) (Or.inl ⟨by rfl, ?_⟩) (by assumption) ?_
            rotate_left
            · (intro w hSw; (try dsimp only at hSw); go_simp; try with_reducible rfl)
            simp only [Act.put, List.setIfInBounds_toArray, List.set_cons_zero, List.set_cons_succ]
            refine wpAnyH_take (i := 3) (oi := { dst := some 46, op := Op.move (Operand.tmp 7), type := 3, pos := "law.go:116", after := #[{ on := 2, ground := Ground.guard }], guard := some (2, false) }) (v := ?_) rfl (by kernel_rfl) (by kernel_rfl) (by kernel_rfl) (fun _ _ _ h => h) (Or.inl ⟨by rfl, ?_⟩) (by assumption) ?_
            rotate_left
            · (intro w hSw; (try dsimp only at hSw); go_simp; try with_reducible rfl)
            simp only [Act.put, List.setIfInBounds_toArray, List.set_cons_zero, List.set_cons_succ]
            refine wpAnyH_take (i := 4) (oi := { dst := some 47, op := Op.binOp BinOp.gtr 3 (Operand.tmp 46) (Operand.const (Value.int IntKind.i64 0)) 3, type := 4, pos := "law.go:116", after := #[{ on := 3, ground := Ground.data }, { on := 2, ground := Ground.guard }], guard := some (2, false) }) (v := ?_) rfl (by kernel_rfl) (by kernel_rfl) (by kernel_rfl) (fun _ _ _ h => h) (Or.inl ⟨by rfl, ?_⟩) (by assumption) ?_
            rotate_left
            · (intro w hSw; (try dsimp only at hSw); go_simp; try with_reducible rfl)
            simp only [Act.put, List.setIfInBounds_toArray, List.set_cons_zero, List.set_cons_succ]
            refine wpAnyH_take (i := 5) (oi := { dst := some 48, op := Op.move (Operand.tmp 47), type := 4, pos := "law.go:116", after := #[{ on := 4, ground := Ground.data }, { on := 2, ground := Ground.chain }, { on := 2, ground := Ground.guard }], guard := some (2, false) }) (v := ?_) rfl (by kernel_rfl) (by kernel_rfl) (by kernel_rfl) (fun _ _ _ h => h) (Or.inl ⟨by rfl, ?_⟩) (by assumption) ?_
            rotate_left
            · (intro w hSw; (try dsimp only at hSw); go_simp; try with_reducible rfl)
            simp only [Act.put, List.setIfInBounds_toArray, List.set_cons_zero, List.set_cons_succ]
            refine wpAnyH_take (i := 6) (oi := { dst := some 49, op := Op.load 28 (Operand.tmp 6), type := 28, pos := "law.go:116", after := #[{ on := 5, ground := Ground.guard }], guard := some (5, true) }) (v := undef) rfl (by kernel_rfl) (by kernel_rfl) (by kernel_rfl) (fun _ _ _ h => h) (Or.inr ⟨by rfl, rfl⟩) (by assumption) ?_
            simp only [Act.put, List.setIfInBounds_toArray, List.set_cons_zero, List.set_cons_succ]
            refine wpAnyH_take (i := 7) (oi := { dst := some 50, op := Op.load 28 (Operand.tmp 8), type := 28, pos := "law.go:116", after := #[{ on := 5, ground := Ground.guard }], guard := some (5, true) }) (v := undef) rfl (by kernel_rfl) (by kernel_rfl) (by kernel_rfl) (fun _ _ _ h => h) (Or.inr ⟨by rfl, rfl⟩) (by assumption) ?_
            simp only [Act.put, List.setIfInBounds_toArray, List.set_cons_zero, List.set_cons_succ]
            refine wpAnyH_ready (rs := [8]) (by kernel_rfl) (by simp) ?_
            refine AllReadyH.cons (o := { dst := some 51, op := Op.call { callee := Callee.value (Operand.func 23), args := #[Operand.tmp 49, Operand.tmp 50], argTypes := #[28, 28] }, type := 4, pos := "law.go:116", after := #[{ on := 6, ground := Ground.data }, { on := 7, ground := Ground.data }, { on := 5, ground := Ground.chain }, { on := 5, ground := Ground.guard }], guard := some (5, true) }) rfl (fun K hK => ?_) AllReadyH.nil
            go_simp
            refine hK.out _ _ hHeld (fun hHeld => ?_)
            clear hK K
            try simp only [Act.put, List.setIfInBounds_toArray, List.set_cons_zero, List.set_cons_succ]
            refine wpAnyH_take (i := 9) (oi := { dst := some 52, op := Op.unOp UnOp.not 4 (Operand.tmp 51), type := 4, pos := "law.go:116", after := #[{ on := 8, ground := Ground.data }, { on := 5, ground := Ground.guard }], guard := some (5, true) }) (v := undef) rfl (by kernel_rfl) (by kernel_rfl) (by kernel_rfl) (fun _ _ _ h => h) (Or.inr ⟨by rfl, rfl⟩) (by assumption) ?_
            simp only [Act.put, List.setIfInBounds_toArray, List.set_cons_zero, List.set_cons_succ]
            refine wpAnyH_take (i := 10) (oi := { dst := some 53, op := Op.pick (Operand.tmp 48) (Operand.tmp 52) (Operand.const (Value.bool false)), type := 4, pos := "law.go:116", after := #[{ on := 5, ground := Ground.data }, { on := 9, ground := Ground.data }, { on := 2, ground := Ground.guard }], guard := some (2, false) }) (v := ?_) rfl (by kernel_rfl) (by kernel_rfl) (by kernel_rfl) (fun _ _ _ h => h) (Or.inl ⟨by rfl, ?_⟩) (by assumption) ?_
            rotate_left
            · (intro w hSw; (try dsimp only at hSw); go_simp; try with_reducible rfl)
            simp only [Act.put, List.setIfInBounds_toArray, List.set_cons_zero, List.set_cons_succ]
            refine wpAnyH_take (i := 11) (oi := { dst := some 54, op := Op.pick (Operand.tmp 45) (Operand.const (Value.bool true)) (Operand.tmp 53), type := 4, pos := "law.go:116", after := #[{ on := 2, ground := Ground.data }, { on := 10, ground := Ground.data }], guard := none }) (v := ?_) rfl (by kernel_rfl) (by kernel_rfl) (by kernel_rfl) (fun _ _ _ h => h) (Or.inl ⟨by rfl, ?_⟩) (by assumption) ?_
            rotate_left
            · (intro w hSw; (try dsimp only at hSw); go_simp; try with_reducible rfl)
            simp only [Act.put, List.setIfInBounds_toArray, List.set_cons_zero, List.set_cons_succ]
            refine wpAnyH_take (i := 12) (oi := { dst := some 55, op := Op.move (Operand.tmp 54), type := 4, pos := "law.go:116", after := #[{ on := 11, ground := Ground.data }, { on := 8, ground := Ground.chain }], guard := none }) (v := ?_) rfl (by kernel_rfl) (by kernel_rfl) (by kernel_rfl) (fun _ _ _ h => h) (Or.inl ⟨by rfl, ?_⟩) (by assumption) ?_
            rotate_left
            · (intro w hSw; (try dsimp only at hSw); go_simp; try with_reducible rfl)
            simp only [Act.put, List.setIfInBounds_toArray, List.set_cons_zero, List.set_cons_succ]
            refine wpAnyH_take (i := 13) (oi := { dst := some 56, op := Op.fieldAddr 28 (Operand.tmp 8) 1, type := 0, pos := "law.go:116", after := #[{ on := 12, ground := Ground.guard }], guard := some (12, false) }) (v := ?_) rfl (by kernel_rfl) (by kernel_rfl) (by kernel_rfl) (fun _ _ _ h => h) (Or.inl ⟨by rfl, ?_⟩) (by assumption) ?_
            rotate_left
            · (intro w hSw; (try dsimp only at hSw); go_simp; try with_reducible rfl)
            simp only [Act.put, List.setIfInBounds_toArray, List.set_cons_zero, List.set_cons_succ]
            refine wpAnyH_take (i := 14) (oi := { dst := some 57, op := Op.load 3 (Operand.tmp 56), type := 3, pos := "law.go:116", after := #[{ on := 13, ground := Ground.data }, { on := 12, ground := Ground.guard }], guard := some (12, false) }) (v := ?_) rfl (by kernel_rfl) (by kernel_rfl) (by kernel_rfl) (fun _ _ _ h => h) (Or.inl ⟨by rfl, ?_⟩) (by assumption) ?_
            rotate_left
            · (intro w hSw; (try dsimp only at hSw); go_simp; try with_reducible rfl)
            simp only [Act.put, List.setIfInBounds_toArray, List.set_cons_zero, List.set_cons_succ]
            refine wpAnyH_take (i := 15) (oi := { dst := some 58, op := Op.binOp BinOp.lss 3 (Operand.tmp 57) (Operand.const (Value.int IntKind.i64 1)) 3, type := 4, pos := "law.go:116", after := #[{ on := 14, ground := Ground.data }, { on := 12, ground := Ground.guard }], guard := some (12, false) }) (v := ?_) rfl (by kernel_rfl) (by kernel_rfl) (by kernel_rfl) (fun _ _ _ h => h) (Or.inl ⟨by rfl, ?_⟩) (by assumption) ?_
            rotate_left
            · (intro w hSw; (try dsimp only at hSw); go_simp; try with_reducible rfl)
            simp only [Act.put, List.setIfInBounds_toArray, List.set_cons_zero, List.set_cons_succ]
            refine wpAnyH_take (i := 16) (oi := { dst := some 59, op := Op.pick (Operand.tmp 55) (Operand.const (Value.bool true)) (Operand.tmp 58), type := 4, pos := "law.go:116", after := #[{ on := 12, ground := Ground.data }, { on := 15, ground := Ground.data }], guard := none }) (v := ?_) rfl (by kernel_rfl) (by kernel_rfl) (by kernel_rfl) (fun _ _ _ h => h) (Or.inl ⟨by rfl, ?_⟩) (by assumption) ?_
            rotate_left
            · (intro w hSw; (try dsimp only at hSw); go_simp; try with_reducible rfl)
            simp only [Act.put, List.setIfInBounds_toArray, List.set_cons_zero, List.set_cons_succ]
            refine wpAnyH_take (i := 17) (oi := { dst := some 60, op := Op.move (Operand.tmp 59), type := 4, pos := "law.go:116", after := #[{ on := 16, ground := Ground.data }, { on := 12, ground := Ground.chain }], guard := none }) (v := ?_) rfl (by kernel_rfl) (by kernel_rfl) (by kernel_rfl) (fun _ _ _ h => h) (Or.inl ⟨by rfl, ?_⟩) (by assumption) ?_
            rotate_left
            · (intro w hSw; (try dsimp only at hSw); go_simp; try with_reducible rfl)
            simp only [Act.put, List.setIfInBounds_toArray, List.set_cons_zero, List.set_cons_succ]
            refine wpAnyH_take (i := 18) (oi := { dst := some 61, op := Op.fieldAddr 28 (Operand.tmp 8) 1, type := 0, pos := "law.go:116", after := #[{ on := 17, ground := Ground.guard }], guard := some (17, false) }) (v := ?_) rfl (by kernel_rfl) (by kernel_rfl) (by kernel_rfl) (fun _ _ _ h => h) (Or.inl ⟨by rfl, ?_⟩) (by assumption) ?_
            rotate_left
            · (intro w hSw; (try dsimp only at hSw); go_simp; try with_reducible rfl)
            simp only [Act.put, List.setIfInBounds_toArray, List.set_cons_zero, List.set_cons_succ]
            refine wpAnyH_take (i := 19) (oi := { dst := some 62, op := Op.load 3 (Operand.tmp 61), type := 3, pos := "law.go:116", after := #[{ on := 18, ground := Ground.data }, { on := 17, ground := Ground.guard }], guard := some (17, false) }) (v := ?_) rfl (by kernel_rfl) (by kernel_rfl) (by kernel_rfl) (fun _ _ _ h => h) (Or.inl ⟨by rfl, ?_⟩) (by assumption) ?_
            rotate_left
            · (intro w hSw; (try dsimp only at hSw); go_simp; try with_reducible rfl)
            simp only [Act.put, List.setIfInBounds_toArray, List.set_cons_zero, List.set_cons_succ]
            refine wpAnyH_take (i := 20) (oi := { dst := some 63, op := Op.move (Operand.tmp 4), type := 3, pos := "law.go:116", after := #[{ on := 17, ground := Ground.guard }], guard := some (17, false) }) (v := ?_) rfl (by kernel_rfl) (by kernel_rfl) (by kernel_rfl) (fun _ _ _ h => h) (Or.inl ⟨by rfl, ?_⟩) (by assumption) ?_
            rotate_left
            · (intro w hSw; (try dsimp only at hSw); go_simp; try with_reducible rfl)
            simp only [Act.put, List.setIfInBounds_toArray, List.set_cons_zero, List.set_cons_succ]
            refine wpAnyH_take (i := 21) (oi := { dst := some 64, op := Op.binOp BinOp.gtr 3 (Operand.tmp 62) (Operand.tmp 63) 3, type := 4, pos := "law.go:116", after := #[{ on := 19, ground := Ground.data }, { on := 20, ground := Ground.data }, { on := 17, ground := Ground.guard }], guard := some (17, false) }) (v := ?_) rfl (by kernel_rfl) (by kernel_rfl) (by kernel_rfl) (fun _ _ _ h => h) (Or.inl ⟨by rfl, ?_⟩) (by assumption) ?_
            rotate_left
            · (intro w hSw; (try dsimp only at hSw); go_simp; try with_reducible rfl)
            simp only [Act.put, List.setIfInBounds_toArray, List.set_cons_zero, List.set_cons_succ]
            refine wpAnyH_take (i := 22) (oi := { dst := some 65, op := Op.pick (Operand.tmp 60) (Operand.const (Value.bool true)) (Operand.tmp 64), type := 4, pos := "law.go:116", after := #[{ on := 17, ground := Ground.data }, { on := 21, ground := Ground.data }], guard := none }) (v := ?_) rfl (by kernel_rfl) (by kernel_rfl) (by kernel_rfl) (fun _ _ _ h => h) (Or.inl ⟨by rfl, ?_⟩) (by assumption) ?_
            rotate_left
            · (intro w hSw; (try dsimp only at hSw); go_simp; try with_reducible rfl)
            simp only [Act.put, List.setIfInBounds_toArray, List.set_cons_zero, List.set_cons_succ]
            refine wpAnyH_take (i := 23) (oi := { dst := some 66, op := Op.move (Operand.tmp 65), type := 4, pos := "law.go:116", after := #[{ on := 22, ground := Ground.data }, { on := 17, ground := Ground.chain }], guard := none }) (v := ?_) rfl (by kernel_rfl) (by kernel_rfl) (by kernel_rfl) (fun _ _ _ h => h) (Or.inl ⟨by rfl, ?_⟩) (by assumption) ?_
            rotate_left
            · (intro w hSw; (try dsimp only at hSw); go_simp; try with_reducible rfl)
            simp only [Act.put, List.setIfInBounds_toArray, List.set_cons_zero, List.set_cons_succ]
            refine wpAnyH_take (i := 24) (oi := { dst := some 67, op := Op.move (Operand.tmp 0), type := 22, pos := "law.go:116", after := #[{ on := 23, ground := Ground.guard }], guard := some (23, false) }) (v := ?_) rfl (by kernel_rfl) (by kernel_rfl) (by kernel_rfl) (fun _ _ _ h => h) (Or.inl ⟨by rfl, ?_⟩) (by assumption) ?_
            rotate_left
            · (intro w hSw; (try dsimp only at hSw); go_simp; try with_reducible rfl)
            simp only [Act.put, List.setIfInBounds_toArray, List.set_cons_zero, List.set_cons_succ]
            refine wpAnyH_take (i := 25) (oi := { dst := some 68, op := Op.fieldAddr 28 (Operand.tmp 8) 1, type := 0, pos := "law.go:116", after := #[{ on := 23, ground := Ground.guard }], guard := some (23, false) }) (v := ?_) rfl (by kernel_rfl) (by kernel_rfl) (by kernel_rfl) (fun _ _ _ h => h) (Or.inl ⟨by rfl, ?_⟩) (by assumption) ?_
            rotate_left
            · (intro w hSw; (try dsimp only at hSw); go_simp; try with_reducible rfl)
            simp only [Act.put, List.setIfInBounds_toArray, List.set_cons_zero, List.set_cons_succ]
            refine wpAnyH_take (i := 26) (oi := { dst := some 69, op := Op.load 3 (Operand.tmp 68), type := 3, pos := "law.go:116", after := #[{ on := 25, ground := Ground.data }, { on := 23, ground := Ground.guard }], guard := some (23, false) }) (v := ?_) rfl (by kernel_rfl) (by kernel_rfl) (by kernel_rfl) (fun _ _ _ h => h) (Or.inl ⟨by rfl, ?_⟩) (by assumption) ?_
            rotate_left
            · (intro w hSw; (try dsimp only at hSw); go_simp; try with_reducible rfl)
            simp only [Act.put, List.setIfInBounds_toArray, List.set_cons_zero, List.set_cons_succ]
            refine wpAnyH_take (i := 27) (oi := { dst := some 70, op := Op.binOp BinOp.sub 3 (Operand.tmp 69) (Operand.const (Value.int IntKind.i64 1)) 3, type := 3, pos := "law.go:116", after := #[{ on := 26, ground := Ground.data }, { on := 23, ground := Ground.guard }], guard := some (23, false) }) (v := ?_) rfl (by kernel_rfl) (by kernel_rfl) (by kernel_rfl) (fun _ _ _ h => h) (Or.inl ⟨by rfl, ?_⟩) (by assumption) ?_
            rotate_left
            · (intro w hSw; (try dsimp only at hSw); go_simp; try with_reducible rfl)
            simp only [Act.put, List.setIfInBounds_toArray, List.set_cons_zero, List.set_cons_succ]
            refine wpAnyH_take (i := 28) (oi := { dst := some 71, op := Op.indexAddr 22 (Operand.tmp 67) (Operand.tmp 70), type := 0, pos := "law.go:116", after := #[{ on := 24, ground := Ground.data }, { on := 27, ground := Ground.data }, { on := 23, ground := Ground.guard }], guard := some (23, false) }) (v := ?_) rfl (by kernel_rfl) (by kernel_rfl) (by kernel_rfl) (fun _ _ _ h => h) (Or.inl ⟨by rfl, ?_⟩) (by assumption) ?_
            rotate_left
            · (intro w hSw; (try dsimp only at hSw); go_simp; try with_reducible rfl)
            simp only [Act.put, List.setIfInBounds_toArray, List.set_cons_zero, List.set_cons_succ]
            refine wpAnyH_take (i := 29) (oi := { dst := some 72, op := Op.load 26 (Operand.tmp 71), type := 26, pos := "law.go:116", after := #[{ on := 28, ground := Ground.data }, { on := 23, ground := Ground.guard }], guard := some (23, false) }) (v := ?_) rfl (by kernel_rfl) (by kernel_rfl) (by kernel_rfl) (fun _ _ _ h => h) (Or.inl ⟨by rfl, ?_⟩) (by assumption) ?_
            rotate_left
            · (intro w hSw; (try dsimp only at hSw); go_simp; try with_reducible rfl)
            simp only [Act.put, List.setIfInBounds_toArray, List.set_cons_zero, List.set_cons_succ]
            refine wpAnyH_take (i := 30) (oi := { dst := some 73, op := Op.fieldAddr 28 (Operand.tmp 8) 0, type := 0, pos := "law.go:116", after := #[{ on := 23, ground := Ground.guard }], guard := some (23, false) }) (v := ?_) rfl (by kernel_rfl) (by kernel_rfl) (by kernel_rfl) (fun _ _ _ h => h) (Or.inl ⟨by rfl, ?_⟩) (by assumption) ?_
            rotate_left
            · (intro w hSw; (try dsimp only at hSw); go_simp; try with_reducible rfl)
            simp only [Act.put, List.setIfInBounds_toArray, List.set_cons_zero, List.set_cons_succ]
            refine wpAnyH_take (i := 31) (oi := { dst := some 74, op := Op.load 26 (Operand.tmp 73), type := 26, pos := "law.go:116", after := #[{ on := 30, ground := Ground.data }, { on := 23, ground := Ground.guard }], guard := some (23, false) }) (v := ?_) rfl (by kernel_rfl) (by kernel_rfl) (by kernel_rfl) (fun _ _ _ h => h) (Or.inl ⟨by rfl, ?_⟩) (by assumption) ?_
            rotate_left
            · (intro w hSw; (try dsimp only at hSw); go_simp; try with_reducible rfl)
            simp only [Act.put, List.setIfInBounds_toArray, List.set_cons_zero, List.set_cons_succ]
            refine wpAnyH_take (i := 32) (oi := { dst := some 75, op := Op.binOp BinOp.neq 26 (Operand.tmp 72) (Operand.tmp 74) 26, type := 4, pos := "law.go:116", after := #[{ on := 29, ground := Ground.data }, { on := 31, ground := Ground.data }, { on := 23, ground := Ground.guard }], guard := some (23, false) }) (v := ?_) rfl (by kernel_rfl) (by kernel_rfl) (by kernel_rfl) (fun _ _ _ h => h) (Or.inl ⟨by rfl, ?_⟩) (by assumption) ?_
            rotate_left
            · (intro w hSw; (try dsimp only at hSw); go_simp; try with_reducible rfl)
            simp only [Act.put, List.setIfInBounds_toArray, List.set_cons_zero, List.set_cons_succ]
            refine wpAnyH_take (i := 33) (oi := { dst := some 76, op := Op.pick (Operand.tmp 66) (Operand.const (Value.bool true)) (Operand.tmp 75), type := 4, pos := "law.go:116", after := #[{ on := 23, ground := Ground.data }, { on := 32, ground := Ground.data }], guard := none }) (v := ?_) rfl (by kernel_rfl) (by kernel_rfl) (by kernel_rfl) (fun _ _ _ h => h) (Or.inl ⟨by rfl, ?_⟩) (by assumption) ?_
            rotate_left
            · (intro w hSw; (try dsimp only at hSw); go_simp; try with_reducible rfl)
            simp only [Act.put, List.setIfInBounds_toArray, List.set_cons_zero, List.set_cons_succ]
            refine wpAnyH_take (i := 34) (oi := { dst := some 77, op := Op.move (Operand.tmp 76), type := 4, pos := "law.go:116", after := #[{ on := 33, ground := Ground.data }, { on := 23, ground := Ground.chain }], guard := none }) (v := ?_) rfl (by kernel_rfl) (by kernel_rfl) (by kernel_rfl) (fun _ _ _ h => h) (Or.inl ⟨by rfl, ?_⟩) (by assumption) ?_
            rotate_left
            · (intro w hSw; (try dsimp only at hSw); go_simp; try with_reducible rfl)
            simp only [Act.put, List.setIfInBounds_toArray, List.set_cons_zero, List.set_cons_succ]
            refine wpAnyH_take (i := 35) (oi := { dst := some 78, op := Op.move (Operand.tmp 3), type := 23, pos := "law.go:116", after := #[{ on := 34, ground := Ground.guard }], guard := some (34, false) }) (v := ?_) rfl (by kernel_rfl) (by kernel_rfl) (by kernel_rfl) (fun _ _ _ h => h) (Or.inl ⟨by rfl, ?_⟩) (by assumption) ?_
            rotate_left
            · (intro w hSw; (try dsimp only at hSw); go_simp; try with_reducible rfl)
            simp only [Act.put, List.setIfInBounds_toArray, List.set_cons_zero, List.set_cons_succ]
            refine wpAnyH_take (i := 36) (oi := { dst := some 79, op := Op.fieldAddr 28 (Operand.tmp 8) 1, type := 0, pos := "law.go:116", after := #[{ on := 34, ground := Ground.guard }], guard := some (34, false) }) (v := ?_) rfl (by kernel_rfl) (by kernel_rfl) (by kernel_rfl) (fun _ _ _ h => h) (Or.inl ⟨by rfl, ?_⟩) (by assumption) ?_
            rotate_left
            · (intro w hSw; (try dsimp only at hSw); go_simp; try with_reducible rfl)
            simp only [Act.put, List.setIfInBounds_toArray, List.set_cons_zero, List.set_cons_succ]
            refine wpAnyH_take (i := 37) (oi := { dst := some 80, op := Op.load 3 (Operand.tmp 79), type := 3, pos := "law.go:116", after := #[{ on := 36, ground := Ground.data }, { on := 34, ground := Ground.guard }], guard := some (34, false) }) (v := ?_) rfl (by kernel_rfl) (by kernel_rfl) (by kernel_rfl) (fun _ _ _ h => h) (Or.inl ⟨by rfl, ?_⟩) (by assumption) ?_
            rotate_left
            · (intro w hSw; (try dsimp only at hSw); go_simp; try with_reducible rfl)
            simp only [Act.put, List.setIfInBounds_toArray, List.set_cons_zero, List.set_cons_succ]
            refine wpAnyH_ready (rs := [38]) (by kernel_rfl) (by simp) ?_
            refine AllReadyH.cons (o := { dst := some 81, op := Op.call { callee := Callee.value (Operand.func 16), args := #[Operand.tmp 78, Operand.tmp 80], argTypes := #[23, 3] }, type := 4, pos := "law.go:116", after := #[{ on := 35, ground := Ground.data }, { on := 37, ground := Ground.data }, { on := 34, ground := Ground.chain }, { on := 34, ground := Ground.guard }], guard := some (34, false) }) rfl (fun K hK => ?_) AllReadyH.nil
            go_simp
            (with_reducible refine Calls.mono (DR.out _ hb1) ?_)
            rintro r w4 ⟨rfl, t4⟩
            have L4 : Aside (Lsm w4 S S ls') := t4.1
            have kp4 := kp1.turn t4
            go_wp2_with fail
            refine hK.out _ _ (KC.out _ kp4) (fun hHeld => ?_)
            clear hK K
            try simp only [Act.put, List.setIfInBounds_toArray, List.set_cons_zero, List.set_cons_succ]
            refine wpAnyH_take (i := 39) (oi := { dst := some 82, op := Op.unOp UnOp.not 4 (Operand.tmp 81), type := 4, pos := "law.go:116", after := #[{ on := 38, ground := Ground.data }, { on := 34, ground := Ground.guard }], guard := some (34, false) }) (v := ?_) rfl (by kernel_rfl) (by kernel_rfl) (by kernel_rfl) (fun _ _ _ h => h) (Or.inl ⟨by rfl, ?_⟩) (by assumption) ?_
            rotate_left
            · (intro w hSw; (try dsimp only at hSw); go_simp; try with_reducible rfl)
            simp only [Act.put, List.setIfInBounds_toArray, List.set_cons_zero, List.set_cons_succ]
            refine wpAnyH_take (i := 40) (oi := { dst := some 83, op := Op.pick (Operand.tmp 77) (Operand.const (Value.bool true)) (Operand.tmp 82), type := 4, pos := "law.go:116", after := #[{ on := 34, ground := Ground.data }, { on := 39, ground := Ground.data }], guard := none }) (v := ?_) rfl (by kernel_rfl) (by kernel_rfl) (by kernel_rfl) (fun _ _ _ h => h) (Or.inl ⟨by rfl, ?_⟩) (by assumption) ?_
            rotate_left
            · (intro w hSw; (try dsimp only at hSw); go_simp; try with_reducible rfl)
            simp only [Act.put, List.setIfInBounds_toArray, List.set_cons_zero, List.set_cons_succ]
            refine wpAnyH_take (i := 41) (oi := { dst := some 84, op := Op.move (Operand.tmp 83), type := 4, pos := "law.go:116", after := #[{ on := 40, ground := Ground.data }, { on := 38, ground := Ground.chain }], guard := none }) (v := ?_) rfl (by kernel_rfl) (by kernel_rfl) (by kernel_rfl) (fun _ _ _ h => h) (Or.inl ⟨by rfl, ?_⟩) (by assumption) ?_
            rotate_left
            · (intro w hSw; (try dsimp only at hSw); go_simp; try with_reducible rfl)
            simp only [Act.put, List.setIfInBounds_toArray, List.set_cons_zero, List.set_cons_succ]
            refine wpAnyH_take (i := 42) (oi := { dst := some 85, op := Op.move (Operand.tmp 3), type := 23, pos := "law.go:116", after := #[{ on := 41, ground := Ground.guard }], guard := some (41, false) }) (v := ?_) rfl (by kernel_rfl) (by kernel_rfl) (by kernel_rfl) (fun _ _ _ h => h) (Or.inl ⟨by rfl, ?_⟩) (by assumption) ?_
            rotate_left
            · (intro w hSw; (try dsimp only at hSw); go_simp; try with_reducible rfl)
            simp only [Act.put, List.setIfInBounds_toArray, List.set_cons_zero, List.set_cons_succ]
            refine wpAnyH_take (i := 44) (oi := { dst := some 87, op := Op.move (Operand.tmp 4), type := 3, pos := "law.go:116", after := #[{ on := 41, ground := Ground.guard }], guard := some (41, false) }) (v := ?_) rfl (by kernel_rfl) (by kernel_rfl) (by kernel_rfl) (fun _ _ _ h => h) (Or.inl ⟨by rfl, ?_⟩) (by assumption) ?_
            rotate_left
            · (intro w hSw; (try dsimp only at hSw); go_simp; try with_reducible rfl)
            simp only [Act.put, List.setIfInBounds_toArray, List.set_cons_zero, List.set_cons_succ]
            refine wpAnyH_take (i := 45) (oi := { dst := some 88, op := Op.binOp BinOp.sub 3 (Operand.tmp 87) (Operand.const (Value.int IntKind.i64 1)) 3, type := 3, pos := "law.go:116", after := #[{ on := 44, ground := Ground.data }, { on := 41, ground := Ground.guard }], guard := some (41, false) }) (v := ?_) rfl (by kernel_rfl) (by kernel_rfl) (by kernel_rfl) (fun _ _ _ h => h) (Or.inl ⟨by rfl, ?_⟩) (by assumption) ?_
            rotate_left
            · (intro w hSw; (try dsimp only at hSw); go_simp; try with_reducible rfl)
            simp only [Act.put, List.setIfInBounds_toArray, List.set_cons_zero, List.set_cons_succ]
            refine wpAnyH_take (i := 46) (oi := { dst := some 89, op := Op.move (Operand.tmp 7), type := 3, pos := "law.go:116", after := #[{ on := 41, ground := Ground.guard }], guard := some (41, false) }) (v := ?_) rfl (by kernel_rfl) (by kernel_rfl) (by kernel_rfl) (fun _ _ _ h => h) (Or.inl ⟨by rfl, ?_⟩) (by assumption) ?_
            rotate_left
            · (intro w hSw; (try dsimp only at hSw); go_simp; try with_reducible rfl)
            simp only [Act.put, List.setIfInBounds_toArray, List.set_cons_zero, List.set_cons_succ]
            refine wpAnyH_take (i := 47) (oi := { dst := some 90, op := Op.binOp BinOp.sub 3 (Operand.tmp 88) (Operand.tmp 89) 3, type := 3, pos := "law.go:116", after := #[{ on := 45, ground := Ground.data }, { on := 46, ground := Ground.data }, { on := 41, ground := Ground.guard }], guard := some (41, false) }) (v := ?_) rfl (by kernel_rfl) (by kernel_rfl) (by kernel_rfl) (fun _ _ _ h => h) (Or.inl ⟨by rfl, ?_⟩) (by assumption) ?_
            rotate_left
            · (intro w hSw; (try dsimp only at hSw); go_simp; try with_reducible rfl)
            simp only [Act.put, List.setIfInBounds_toArray, List.set_cons_zero, List.set_cons_succ]
            refine wpAnyH_ready (rs := [43]) (by kernel_rfl) (by simp) ?_
            refine AllReadyH.cons (o := { dst := some 86, op := Op.call { callee := Callee.value (Operand.func 12), args := #[Operand.tmp 85], argTypes := #[23] }, type := 3, pos := "law.go:116", after := #[{ on := 42, ground := Ground.data }, { on := 41, ground := Ground.chain }, { on := 41, ground := Ground.guard }], guard := some (41, false) }) rfl (fun K hK => ?_) AllReadyH.nil
            go_simp
            (with_reducible refine Calls.mono (LN.out _ L4.out) ?_)
            rintro r w5 ⟨rfl, d5⟩
            have kp5 := kp4.on (by omega) d5
            go_wp2_with fail
            refine hK.out _ _ (KC.out _ kp5) (fun hHeld => ?_)
            clear hK K
            try simp only [Act.put, List.setIfInBounds_toArray, List.set_cons_zero, List.set_cons_succ]
            refine wpAnyH_take (i := 48) (oi := { dst := some 91, op := Op.binOp BinOp.neq 3 (Operand.tmp 86) (Operand.tmp 90) 3, type := 4, pos := "law.go:116", after := #[{ on := 43, ground := Ground.data }, { on := 47, ground := Ground.data }, { on := 41, ground := Ground.guard }], guard := some (41, false) }) (v := ?_) rfl (by kernel_rfl) (by kernel_rfl) (by kernel_rfl) (fun _ _ _ h => h) (Or.inl ⟨by rfl, ?_⟩) (by assumption) ?_
            rotate_left
            · (intro w hSw; (try dsimp only at hSw); go_simp; try with_reducible rfl)
            simp only [Act.put, List.setIfInBounds_toArray, List.set_cons_zero, List.set_cons_succ]
            refine wpAnyH_take (i := 49) (oi := { dst := some 92, op := Op.pick (Operand.tmp 84) (Operand.const (Value.bool true)) (Operand.tmp 91), type := 4, pos := "law.go:116", after := #[{ on := 41, ground := Ground.data }, { on := 48, ground := Ground.data }], guard := none }) (v := ?_) rfl (by kernel_rfl) (by kernel_rfl) (by kernel_rfl) (fun _ _ _ h => h) (Or.inl ⟨by rfl, ?_⟩) (by assumption) ?_
            rotate_left
            · (intro w hSw; (try dsimp only at hSw); go_simp; try with_reducible rfl)
            simp only [Act.put, List.setIfInBounds_toArray, List.set_cons_zero, List.set_cons_succ]
            refine wpAnyH_done (by kernel_rfl) ?_ _
            have L5 : Aside (Lsm w5 S S ls') := L4.out.below d5
            have KP5 : Aside (SortK w S R R8 (z, (j : Int) + 1) y w5) := kp5
            have y0 := box0 KP5.out.e
            have y1 := box1 KP5.out.e
            have y2 := box0 KP5.out.l
            have y3 := box1 KP5.out.l
            have y4 := boxf KP5.out.l 0
            have y5 := boxf KP5.out.l 1
            obtain ⟨bs6, gr6⟩ := box_set KP5.out.l (.int .u64 z) (.int .i64 ((j : Int) + 1))
            have L6 : Aside (Lsm ((w5.setCell ⟨R, 0, none⟩ (.int .u64 z)).setCell ⟨R, 1, none⟩ (.int .i64 ((j : Int) + 1))) S S ls') := lsm_other L5.out T2.out.1.pos KP5.out.l NI.out gr6
            have BX6 : Aside (((w5.setCell ⟨R, 0, none⟩ (.int .u64 z)).setCell ⟨R, 1, none⟩ (.int .i64 ((j : Int) + 1))).heap[R]? = some (.cells #[.int .u64 z, .int .i64 ((j : Int) + 1)] 28 (0, 0))) := bs6
            have D6 : Aside (Below S w ((w5.setCell ⟨R, 0, none⟩ (.int .u64 z)).setCell ⟨R, 1, none⟩ (.int .i64 ((j : Int) + 1)))) := (KP5.out.d.setCell SR _).setCell SR _
            clear bs6 gr6 kp5
            go_wp2
            go_roundg (k - (i + 1))
            case measure => omega
            case rel => exact ⟨i + 1, (z, (j : Int) + 1), ls', by go_num, by omega, Nat.le_refl _, T2, Y2, L6, BX6, D6⟩
          · have g1 : (0 : Int) < (i : Int) := by omega
            have g2 : decide ((0 : Int) < (i : Int)) = true := decide_eq_true g1
            have g3 : decide (0 < i) = true := decide_eq_true (by omega)
            have hy2 : A[i - 1]? = some y := by
              rcases Y.out with h | h
              · omega
              · exact h.2
            have lt : ltE y (z, (j : Int) + 1) = true := by
              obtain ⟨q1, q2⟩ := List.getElem?_eq_some_iff.1 hy2
              have e : i - 1 + 1 = i := by omega
              have := U.out.lt (k := i - 1) (by omega)
              simp only [e] at this
              rw [q2, HX.out, XY.out] at this
              exact this
            have LS : Aside (∀ W, Calls Try.prog 23 #[.agg #[.int .u64 y.1, .int .i64 y.2], .agg #[.int .u64 z, .int .i64 ((j : Int) + 1)]] W fun e w' => e = .returned (.bool true) ∧ Grown W w') := fun W => by
              have := refLess_any y (z, (j : Int) + 1) W
              rw [lt] at this
              exact this
            have sv2 : S ≤ w.heap.size := by omega
            clear lt hy2 hi0
            go_wp2_with fail
            rw [HV2.out]
            obtain ⟨m1, m2, m3, m4, m5⟩ := KC.out v2 kp0
            go_region_held3 (fun W => W.cell? ⟨R8, 0, none⟩ = some (.int .u64 z) ∧ W.cell? ⟨R8, 1, none⟩ = some (.int .i64 ((j : Int) + 1)) ∧ W.cell? ⟨R, 0, none⟩ = some (.int .u64 y.1) ∧ W.cell? ⟨R, 1, none⟩ = some (.int .i64 y.2) ∧ W.cell? ⟨b, off + j, none⟩ = some (.int .u64 z)) (first | with_reducible exact KC.out _ kp0 | with_reducible exact KC.out _ kp1 | with_reducible exact KC.out _ kp3 | with_reducible exact KC.out _ kp4 | with_reducible exact KC.out _ kp5)
              ((first
                | (go_at_call 12; (with_reducible refine Calls.mono (LN.out _ L4.out) ?_); rintro r w5 ⟨rfl, d5⟩; have kp5 := kp4.on sv2 d5)
                | (go_at_call 16; (with_reducible refine Calls.mono (DR.out _ hb3) ?_); rintro r w4 ⟨rfl, t4⟩; have L4 : Aside (Lsm w4 S S ls') := t4.1; have kp4 := kp3.turn t4)
                | (go_at_call 23; (with_reducible refine Calls.mono (LS.out _) ?_); rintro r w3 ⟨rfl, g3'⟩; have hb3 : Below v2.heap.size v2 w3 := hb1.trans (g3'.below.mono hb1.size); have kp3 := kp1.on sv2 g3'.below)))
            have L5 : Aside (Lsm w5 S S ls') := L4.out.below d5
            have KP5 : Aside (SortK w S R R8 (z, (j : Int) + 1) y w5) := kp5
            have y0 := box0 KP5.out.e
            have y1 := box1 KP5.out.e
            have y2 := box0 KP5.out.l
            have y3 := box1 KP5.out.l
            have y4 := boxf KP5.out.l 0
            have y5 := boxf KP5.out.l 1
            obtain ⟨bs6, gr6⟩ := box_set KP5.out.l (.int .u64 z) (.int .i64 ((j : Int) + 1))
            have L6 : Aside (Lsm ((w5.setCell ⟨R, 0, none⟩ (.int .u64 z)).setCell ⟨R, 1, none⟩ (.int .i64 ((j : Int) + 1))) S S ls') := lsm_other L5.out T2.out.1.pos KP5.out.l NI.out gr6
            have BX6 : Aside (((w5.setCell ⟨R, 0, none⟩ (.int .u64 z)).setCell ⟨R, 1, none⟩ (.int .i64 ((j : Int) + 1))).heap[R]? = some (.cells #[.int .u64 z, .int .i64 ((j : Int) + 1)] 28 (0, 0))) := bs6
            have D6 : Aside (Below S w ((w5.setCell ⟨R, 0, none⟩ (.int .u64 z)).setCell ⟨R, 1, none⟩ (.int .i64 ((j : Int) + 1)))) := (KP5.out.d.setCell SR _).setCell SR _
            clear bs6 gr6 kp5
            go_wp2
            go_roundg (k - (i + 1))
            case measure => omega
            case rel => exact ⟨i + 1, (z, (j : Int) + 1), ls', by go_num, by omega, Nat.le_refl _, T2, Y2, L6, BX6, D6⟩
        · have hy : ¬ (i : Int) < (k : Int) := by omega
          obtain rfl : i = k := by omega
          have hsx : sortE ls.flatten = [] := by rw [T.out.2.1, List.drop_eq_nil_of_le (by rw [U.out.len]; omega)]
          have hfl : ls.flatten = [] := List.length_eq_zero_iff.1 (by rw [← sortE_len, hsx]; rfl)
          have hls : ls = [] := List.length_eq_zero_iff.1 (by have := T.out.1.count; rw [hfl] at this; simpa using this)
          subst hls
          have mn := lmin_any S S [] wr L.out Fall.nil (by simp)
          clear hsx hfl
          go_wp2_with fail
          refine mn.mono ?_
          rintro r w2 ⟨F, x', rfl, hF, d2⟩
          have hFx : F = false ∧ x' = (0, 0) := by
            rcases hF with ⟨h, _, h2⟩ | ⟨h, t, ht⟩
            · exact ⟨h, h2⟩
            · rw [show ([] : List (List Ent)).flatten = [] from rfl, sortE_id Srt.nil] at ht; cases ht
          obtain ⟨rfl, rfl⟩ := hFx
          obtain ⟨v2, hv2⟩ : ∃ v, w2.alloc (.cells #[.int .u64 0, .int .i64 0] 28) = v := ⟨_, rfl⟩
          have bv2 : Below w2.heap.size w2 v2 := by rw [← hv2]; exact (Below.refl _ _).alloc (Nat.le_refl _) _
          have HV2 : Hid _ := hv2
          have b02 : Below wr.heap.size wr v2 := d2.trans (bv2.mono d2.size)
          have L2 : Aside (Lsm v2 S S []) := L.out.below b02
          have D2 : Aside (Below S w v2) := D.out.trans (b02.mono (by omega))
          have s2 := D2.out.size
          have lvs := llevels_any S S [] v2 L2.out (by simp)
          obtain ⟨G, hG⟩ : ∃ G, v2.heap.size = G := ⟨_, rfl⟩
          rw [hG] at lvs
          simp only [List.length_nil] at lvs
          clear hv2 bv2 b02 mn hF d2
          go_wp2_with fail
          rw [HV2.out]
          refine lvs.mono ?_
          rintro r w3 ⟨rfl, _, d3⟩
          have D3 : Aside (Below S w w3) := D2.out.trans (d3.mono (by omega))
          have s3 := D3.out.size
          have aw := lawake_any w3
          clear lvs d3
          go_wp2_with fail
          refine aw.mono ?_
          rintro r9 w9 ⟨rfl, d9⟩
          have D9 : Aside (Below S w w9) := D3.out.trans (d9.mono (by omega))
          clear aw d9
          go_wp2
          go_ret
          exact ⟨rfl, by rw [HS.out]; exact D9.out⟩
end Go.Proofs.Ytchephglapnloaa
