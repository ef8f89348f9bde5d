/- Raw blocks: read one by one; Ok of whatever block; allOk. -/
import Derived.Test.YtboccihcomaaoaaShrG
import Derived.Test.YtboccihcomaaoaaShrM
import Derived.Test.YtboccihcomaaoaaBlkO
import Derived.Test.YtboccihcomaaoaaBlkS
import Derived.Test.YtboccihcomaaoaaEntD
import Derived.WalkMore
import Derived.Deep.LoopGhost
namespace Go.Proofs.Ytboccihcomaaoaa
open Go.RowKit Go.Lib Go.Sort
set_option linter.unusedVariables false

/-- Blocks that may be read: a level and a list each. -/
def RawB (w : World) (a : Option Addr) (xs : List (Int × List Ent)) : Prop :=
  ∀ (i : Nat) (hi : i < xs.length), ∃ g p q, a = some ⟨g, 0, none⟩ ∧ g < w.heap.size ∧ w.cell? ⟨g, i * 2, none⟩ = some (.int .i64 xs[i].1) ∧ w.cell? ⟨g, i * 2 + 1, none⟩ = some (.slice p xs[i].2.length q) ∧ IsL w p q xs[i].2
theorem RawB.below {w w' : World} {a : Option Addr} {xs : List (Int × List Ent)} (h : RawB w a xs) (hw : Below w.heap.size w w') : RawB w' a xs := fun i hi => by
  obtain ⟨g, p, q, e, hg, c0, c1, L⟩ := h i hi
  exact ⟨g, p, q, e, by have := hw.size; omega, (hw.cell (p := ⟨g, i * 2, none⟩) hg).trans c0, (hw.cell (p := ⟨g, i * 2 + 1, none⟩) hg).trans c1, L.below hw⟩
/-- Lists with their levels. -/
def lvs (ls : List (List Ent)) : List (Int × List Ent) := ls.map (fun d => ((lv d : Int), d))
theorem lvs_len (ls : List (List Ent)) : (lvs ls).length = ls.length := by simp [lvs]
theorem lvs_at {ls : List (List Ent)} {i : Nat} (hi : i < ls.length) : (lvs ls)[i]'(by rw [lvs_len]; exact hi) = ((lv ls[i] : Int), ls[i]) := by simp [lvs]
theorem lvs_find (ls : List (List Ent)) (p : List Ent → Bool) (q : Int × List Ent → Bool) (h : ∀ d, q ((lv d : Int), d) = p d) : (lvs ls).findIdx q = ls.findIdx p := by
  induction ls with
  | nil => rfl
  | cons d r ih =>
    show (((lv d : Int), d) :: lvs r).findIdx q = _
    rw [List.findIdx_cons, List.findIdx_cons, h, ih]
theorem RawB.isBs {w : World} {a : Option Addr} {xs : List (Int × List Ent)} (h : RawB w a xs) (hl : xs.length ≤ 9223372036854775807) : IsBs w a (xs.map Prod.snd) := by
  refine ⟨by simpa using hl, fun i d hd => ?_⟩
  rw [List.getElem?_map] at hd
  obtain ⟨x, hx, rfl⟩ := Option.map_eq_some_iff.1 hd
  obtain ⟨hi, rfl⟩ := List.getElem?_eq_some_iff.1 hx
  obtain ⟨g, p, q, e, hg, c0, c1, L⟩ := h i hi
  exact ⟨g, 0, p, q, _, e, hg, by rw [Nat.zero_add]; exact c0, by rw [Nat.zero_add]; exact c1, L⟩
theorem lvs_snd (ls : List (List Ent)) : (lvs ls).map Prod.snd = ls := by simp [lvs, Function.comp_def]
theorem RowB.raw {T : TypeId} {w : World} {base n cap : Nat} {a : Option Addr} {bs : List Bk} (h : RowB T w base (.slice a n cap) bs) : RawB w a (lvs (bs.map Bk.d)) := by
  intro i hi
  have hi' : i < bs.length := by rw [lvs_len, List.length_map] at hi; exact hi
  obtain ⟨g, e, hb, hg, c0, c1⟩ := h.at hi'
  have ex := lvs_at (ls := bs.map Bk.d) (i := i) (by simpa using hi')
  simp only [List.getElem_map] at ex
  rw [ex]
  exact ⟨g, bs[i].p, bs[i].q, e, hg, c0, c1, (h.own _ (List.getElem_mem hi')).is⟩

set_option maxHeartbeats 2000000 in
set_option maxRecDepth 100000 in
theorem indexR_any (gf : Nat) (cb : Array Value) (f : Int × List Ent → Bool) (a : Option Addr) (cap : Nat) (xs : List (Int × List Ent)) (w : World) (h : RawB w a xs) (hl : xs.length ≤ 1000000)
    (eg : ∀ args w, (callFunc gf args).run Try.prog w = .ok (.enter gf args) w)
    (hp : ∀ (x : Int × List Ent) (r : Option Addr) (t : Nat) (W : World), x ∈ xs → Below w.heap.size w W → IsL W r t x.2 → Calls Try.prog gf (#[.agg #[.int .i64 x.1, .slice r x.2.length t]] ++ cb) W fun e w' => e = .returned (.bool (f x)) ∧ Below W.heap.size W w') :
    Calls Try.prog 31 #[.slice a xs.length cap, .func (.func gf) #[] cb] w fun r w' => ∃ z : Int, r = .returned (.int .i64 z) ∧ ((z = -1 ∧ xs.findIdx f = xs.length) ∨ (xs.findIdx f < xs.length ∧ z = (xs.findIdx f : Nat))) ∧ Below w.heap.size w w' := by
  have H : Aside (RawB w a xs) := h
  have HP : Aside (∀ (x : Int × List Ent) (r : Option Addr) (t : Nat) (W : World), x ∈ xs → Below w.heap.size w W → IsL W r t x.2 → Calls Try.prog gf (#[.agg #[.int .i64 x.1, .slice r x.2.length t]] ++ cb) W fun e w' => e = .returned (.bool (f x)) ∧ Below W.heap.size W w') := hp
  obtain ⟨n, hn⟩ : ∃ n, xs.length = n := ⟨_, rfl⟩
  have HN : Hid _ := hn
  rw [hn] at hl ⊢
  clear h hp hn
  go_enter Try.func31, Try.ntmps31
  go_wp2
  go_loopg [8] n (fun kx s8 wr => ∃ k : Nat, s8 = .int .i64 k ∧ k ≤ n ∧ n - k ≤ kx ∧ Aside (Below w.heap.size w wr) ∧ Aside (∀ i (hi : i < xs.length), i < k → f xs[i] = false))
  case atStart => exact ⟨0, rfl, by omega, by omega, Below.refl _ _, (fun i _ h => absurd h (by omega) : ∀ i (hi : i < xs.length), i < 0 → f xs[i] = false)⟩
  case round =>
    obtain ⟨k, rfl, hk, hkx, D, A⟩ := hrel
    by_cases hlt : k < n
    · have hz : (k : Int) < (n : Int) := by omega
      have hkl : k < xs.length := by rw [HN.out]; exact hlt
      obtain ⟨g, p, q, ha, hg, c0, c1, L⟩ := (H.out.below D.out) k hkl
      have pc := HP.out xs[k] p q wr (List.getElem_mem hkl) D.out L
      obtain ⟨x, hx⟩ : ∃ x, xs[k] = x := ⟨_, rfl⟩
      have HX : Hid _ := hx
      rw [hx] at c0 c1 pc
      obtain ⟨Y, hY⟩ : ∃ Y, f x = Y := ⟨_, rfl⟩
      have HY : Hid _ := hY
      rw [hY] at pc
      obtain ⟨m, hm⟩ : ∃ m, x.1 = m := ⟨_, rfl⟩
      obtain ⟨kl, hkl2⟩ : ∃ m, x.2.length = m := ⟨_, rfl⟩
      rw [hm] at c0 pc
      rw [hkl2] at c1 pc
      have hs := D.out.size
      clear hY hm hkl2 hx L
      subst ha
      go_wp2_with fail
      refine pc.mono ?_
      rintro r w1 ⟨rfl, g1⟩
      have D2 : Aside (Below w.heap.size w w1) := D.out.trans (g1.mono hs)
      clear g1 D c0 c1 pc
      cases Y with
      | true =>
        have fb : xs.findIdx f = k := by
          have l1 : xs.findIdx f ≤ k := by
            apply Nat.le_of_not_lt
            intro c
            have := List.not_of_lt_findIdx c
            rw [HX.out, HY.out] at this
            simp at this
          have l2 : ¬ xs.findIdx f < k := by
            intro c
            have h1 := List.findIdx_getElem (xs := xs) (p := f) (w := by omega)
            rw [A.out _ (by omega) c] at h1
            cases h1
          omega
        have FB : Hid _ := fb
        clear fb
        go_wp2
        go_ret
        refine ⟨k, rfl, .inr ⟨by rw [FB.out]; exact hlt, by rw [FB.out]⟩, D2.out⟩
      | false =>
        go_wp2
        go_roundg (n - (k + 1))
        case measure => omega
        case rel =>
          refine ⟨k + 1, by go_num, by omega, Nat.le_refl _, D2, (fun i hi hik => ?_ : ∀ i (hi : i < xs.length), i < k + 1 → f xs[i] = false)⟩
          by_cases e : i = k
          · subst e; rw [HX.out]; exact HY.out
          · exact A.out i hi (by omega)
    · have hz : ¬ (k : Int) < (n : Int) := by omega
      have fb : xs.findIdx f = xs.length := List.findIdx_eq_length.2 (fun x hx => by
        obtain ⟨i, hi, rfl⟩ := List.getElem_of_mem hx
        exact A.out i hi (by have := HN.out; omega))
      rw [HN.out] at fb
      have FB : Hid _ := fb
      clear fb
      go_wp2
      go_ret
      exact ⟨-1, rfl, .inl ⟨rfl, FB.out⟩, D.out⟩

/-- A block whose level is that of its length, and that is in order. -/
def okX (x : Int × List Ent) : Bool := decide (x.1 = (lvl x.2.length : Int)) && srtB x.2
theorem okX_not {m : Int} {d : List Ent} (h : m ≠ (lvl d.length : Int)) : okX (m, d) = false := by unfold okX; simp [h]
theorem okX_eq {m : Nat} {d : List Ent} (h : lvl d.length = m) : okX ((m : Int), d) = srtB d := by unfold okX; simp [h]

set_option maxHeartbeats 1000000 in
theorem okR_any (m : Int) (a : Option Addr) (cap : Nat) (d : List Ent) (w : World) (h : IsL w a cap d) (hd : d.length ≤ 1000000) :
    Calls Try.prog 17 #[.agg #[.int .i64 m, .slice a d.length cap]] w fun e w' => e = .returned (.bool (okX (m, d))) ∧ Below w.heap.size w w' := by
  obtain ⟨S, hS⟩ : ∃ S, w.heap.size = S := ⟨_, rfl⟩
  have HS : Hid _ := hS
  have l20 : lvl d.length ≤ 20 := lvl_le hd
  obtain ⟨n, hn⟩ : ∃ n, d.length = n := ⟨_, rfl⟩
  obtain ⟨u, hu⟩ : ∃ u, w.alloc (.cells #[.int .i64 m, .slice a n cap] 34) = u := ⟨_, rfl⟩
  have HU : Hid _ := hu
  have b0 : Below S w u := by rw [← hu]; exact (Below.refl _ _).alloc (by omega) _
  have k0 : ∀ q, (u.drewN q).cell? ⟨S, 0, none⟩ = some (.int .i64 m) := fun q => by rw [← hu, ← hS]; exact cell_new w _ _ 0
  have k1 : ∀ q, (u.drewN q).cell? ⟨S, 1, none⟩ = some (.slice a n cap) := fun q => by rw [← hu, ← hS]; exact cell_new w _ _ 1
  have e0 : u.cell? ⟨S, 0, none⟩ = some (.int .i64 m) := k0 0
  obtain ⟨Y, hY⟩ : ∃ Y, srtB d = Y := ⟨_, rfl⟩
  have so : ∀ q, Calls Try.prog 39 #[.slice a n cap] (u.drewN q) fun e w' => e = .returned (.bool Y) ∧ Grown (u.drewN q) w' := fun q => by
    have := sorted_any a cap d (u.drewN q) (h.below (by rw [hS]; exact b0.trans ((Grown.below ⟨q, #[], by rw [grow_empty]⟩).mono (by rw [← hu, ← hS]; simp))))
    rw [hn, hY] at this
    exact this
  have sz : S ≤ u.heap.size := by have := b0.size; omega
  have BQ : ∀ q, Aside (Below S w (u.drewN q)) := fun q => b0.trans ((Grown.below ⟨q, #[], by rw [grow_empty]⟩).mono sz)
  have B0 : Aside (Below S w u) := b0
  by_cases c1 : m < 0
  · have t5 : decide (m < 0) = true := decide_eq_true c1
    have R : Hid _ := okX_not (m := m) (d := d) (by omega)
    rw [hn]
    clear b0 hu h hd hn so k0 k1 hY BQ
    go_enter Try.func17, Try.ntmps17
    go_wp2_with fail
    rw [HU.out]
    go_ret
    exact ⟨by rw [R.out]; rfl, by first | exact B0.out | (rw [HS.out]; exact B0.out)⟩
  by_cases c2 : 62 < m
  · have t5 : decide (m < 0) = false := decide_eq_false c1
    have R : Hid _ := okX_not (m := m) (d := d) (by omega)
    rw [hn]
    clear b0 hu h hd hn so k0 k1 hY BQ
    go_enter Try.func17, Try.ntmps17
    go_wp2_with fail
    rw [HU.out]
    go_ret
    exact ⟨by rw [R.out]; rfl, by first | exact B0.out | (rw [HS.out]; exact B0.out)⟩
  obtain ⟨M, rfl⟩ : ∃ M : Nat, m = (M : Int) := ⟨m.toNat, by omega⟩
  obtain ⟨P, hP⟩ : ∃ P, 2 ^ M = P := ⟨_, rfl⟩
  have rm := room_any M P (by omega) hP
  have hP1 : P ≤ 2 ^ 62 := by rw [← hP]; exact Nat.pow_le_pow_right (by omega) (by omega)
  have wn : IntKind.u64.wrap (n : Int) = (n : Int) := by rw [IntKind.wrap_u64, Int.emod_eq_of_lt (by omega) (by omega)]
  have wp2 : IntKind.u64.wrap ((P : Int) / 2) = (P : Int) / 2 := by rw [IntKind.wrap_u64, Int.emod_eq_of_lt (by omega) (by omega)]
  have t1 : ¬ (M : Int) < 0 := by omega
  have t5 : decide ((M : Int) < 0) = false := decide_eq_false t1
  have r1 := lvl_room n
  have hP2 : 0 < M → P = 2 ^ (M - 1) * 2 := fun h => by rw [← hP, ← Nat.pow_succ]; congr 1; omega
  by_cases c3 : P < n
  · have t3 : (P : Int) < (n : Int) := by omega
    have t6 : decide ((P : Int) < (n : Int)) = true := decide_eq_true t3
    have R : Hid _ := okX_not (m := (M : Int)) (d := d) (by
      intro e
      have e' : M = lvl n := by rw [hn] at e; omega
      rw [← e', hP] at r1
      omega)
    rw [hn]
    clear b0 hu h hd hn so hY hP hP1 hP2 r1
    go_enter Try.func17, Try.ntmps17
    go_wp2_with fail
    rw [HU.out]
    go_quiet ((go_at_call 38; exact Calls.quiet_of_same (rm _)))
    go_wp2_with fail
    go_ret
    exact ⟨by rw [R.out]; rfl, by first | exact (BQ nq).out | (rw [HS.out]; exact (BQ nq).out)⟩
  have t3 : ¬ (P : Int) < (n : Int) := by omega
  have t6 : decide ((P : Int) < (n : Int)) = false := decide_eq_false t3
  by_cases c4 : 0 < M
  · have t7 : (0 : Int) < (M : Int) := by omega
    have t8 : decide ((0 : Int) < (M : Int)) = true := decide_eq_true t7
    have p2 := hP2 c4
    by_cases c5 : n ≤ P / 2
    · have t4 : (n : Int) ≤ (P : Int) / 2 := by omega
      have t9 : decide ((n : Int) ≤ (P : Int) / 2) = true := decide_eq_true t4
      have R : Hid _ := okX_not (m := (M : Int)) (d := d) (by
        intro e
        have e' : M = lvl n := by rw [hn] at e; omega
        have := lvl_least (n := n) (k := M - 1) (by omega)
        omega)
      rw [hn]
      clear b0 hu h hd hn so hY hP hP1 hP2 r1 p2
      go_enter Try.func17, Try.ntmps17
      go_wp2_with fail
      rw [HU.out]
      go_quiet ((go_at_call 38; exact Calls.quiet_of_same (rm _)))
      go_wp2_with fail
      go_ret
      exact ⟨by rw [R.out]; rfl, by first | exact (BQ nq).out | (rw [HS.out]; exact (BQ nq).out)⟩
    · have t4 : ¬ (n : Int) ≤ (P : Int) / 2 := by omega
      have t9 : decide ((n : Int) ≤ (P : Int) / 2) = false := decide_eq_false t4
      have R : Hid _ := okX_eq (m := M) (d := d) (by rw [hn]; exact lvl_uniq (by omega) (.inr (by omega)))
      rw [hn, R.out, hY]
      clear b0 hu h hd hn hY hP hP1 hP2 r1 p2
      go_enter Try.func17, Try.ntmps17
      go_wp2_with fail
      rw [HU.out]
      go_quiet ((go_at_call 38; exact Calls.quiet_of_same (rm _)))
      go_wp2_with fail
      refine (so nq).mono ?_
      rintro e w2 ⟨rfl, g2⟩
      have B2 : Aside (Below S w w2) := (BQ nq).out.trans (g2.below.mono sz)
      clear g2 k0 k1 so
      go_wp2
      go_ret
      exact ⟨rfl, by first | exact B2.out | (rw [HS.out]; exact B2.out)⟩
  · have t7 : ¬ (0 : Int) < (M : Int) := by omega
    have t8 : decide ((0 : Int) < (M : Int)) = false := decide_eq_false t7
    have R : Hid _ := okX_eq (m := M) (d := d) (by rw [hn]; exact lvl_uniq (by omega) (.inl (by omega)))
    rw [hn, R.out, hY]
    clear b0 hu h hd hn hY hP hP1 hP2 r1
    go_enter Try.func17, Try.ntmps17
    go_wp2_with fail
    rw [HU.out]
    go_quiet ((go_at_call 38; exact Calls.quiet_of_same (rm _)))
    go_wp2_with fail
    refine (so nq).mono ?_
    rintro e w2 ⟨rfl, g2⟩
    have B2 : Aside (Below S w w2) := (BQ nq).out.trans (g2.below.mono sz)
    clear g2 k0 k1 so
    go_wp2
    go_ret
    exact ⟨rfl, by first | exact B2.out | (rw [HS.out]; exact B2.out)⟩

set_option maxHeartbeats 400000 in
theorem notOk_any (m : Int) (a : Option Addr) (cap : Nat) (d : List Ent) (w : World) (h : IsL w a cap d) (hd : d.length ≤ 1000000) :
    Calls Try.prog 63 #[.agg #[.int .i64 m, .slice a d.length cap]] w fun e w' => e = .returned (.bool (!okX (m, d))) ∧ Below w.heap.size w w' := by
  obtain ⟨S, hS⟩ : ∃ S, w.heap.size = S := ⟨_, rfl⟩
  obtain ⟨n, hn⟩ : ∃ n, d.length = n := ⟨_, rfl⟩
  obtain ⟨u, hu⟩ : ∃ u, w.alloc (.cells #[.int .i64 m, .slice a n cap] 34) = u := ⟨_, rfl⟩
  have HU : Hid _ := hu
  have b0 : Below w.heap.size w u := by rw [← hu]; exact (Below.refl _ _).alloc (Nat.le_refl _) _
  have ok := okR_any m a cap d u (h.below b0) hd
  rw [hn] at ok ⊢
  have B0 : Aside (Below w.heap.size w u) := b0
  obtain ⟨Y, hY⟩ : ∃ Y, okX (m, d) = Y := ⟨_, rfl⟩
  rw [hY] at ok ⊢
  clear hu b0 h hn hY
  go_enter Try.func63, Try.ntmps63
  go_wp2_with fail
  rw [HU.out]
  refine ok.mono ?_
  rintro r w1 ⟨rfl, g1⟩
  have B1 : Aside (Below w.heap.size w w1) := B0.out.trans (g1.mono B0.out.size)
  clear g1 ok
  go_wp2
  go_ret
  exact ⟨rfl, B1.out⟩

set_option maxHeartbeats 400000 in
theorem containsR_any (a : Option Addr) (cap : Nat) (xs : List (Int × List Ent)) (w : World) (h : RawB w a xs) (hl : xs.length ≤ 1000000) (hd : ∀ x ∈ xs, x.2.length ≤ 1000000) :
    Calls Try.prog 62 #[.slice a xs.length cap, .func (.func 63) #[] #[]] w fun e w' => e = .returned (.bool (!xs.all okX)) ∧ Below w.heap.size w w' := by
  have ix := indexR_any 63 #[] (fun x => !okX x) a cap xs w h hl (enters_of Try.func63 (by kernel_rfl) rfl) (fun x r t W hx hW hL => notOk_any x.1 r t x.2 W hL (hd x hx))
  have hf : (xs.findIdx (fun x => !okX x) < xs.length) ↔ xs.all okX = false := by
    rw [List.findIdx_lt_length]
    simp
  have hg : (xs.findIdx (fun x => !okX x) = xs.length) → xs.all okX = true := fun e => by
    cases c : xs.all okX with
    | true => rfl
    | false => have := hf.2 c; omega
  obtain ⟨K, hK⟩ : ∃ K, xs.findIdx (fun x => !okX x) = K := ⟨_, rfl⟩
  obtain ⟨n, hn⟩ : ∃ n, xs.length = n := ⟨_, rfl⟩
  obtain ⟨Y, hY⟩ : ∃ Y, xs.all okX = Y := ⟨_, rfl⟩
  rw [hK, hn] at ix
  rw [hK, hn, hY] at hf hg
  rw [hn, hY]
  have HF : Hid _ := hf
  have HG : Hid _ := hg
  clear h hK hn hY hf hg
  go_enter Try.func62, Try.ntmps62
  go_wp2_with fail
  refine ix.mono ?_
  rintro r w1 ⟨z, rfl, fi, g1⟩
  have G1 : Aside (Below w.heap.size w w1) := g1
  clear g1 ix
  rcases fi with ⟨rfl, hno⟩ | ⟨hk, rfl⟩
  · have hh := HG.out hno
    subst hh
    go_wp2
    go_ret
    exact ⟨rfl, G1.out⟩
  · have hh := HF.out.1 hk
    subst hh
    have k0 : (0 : Int) ≤ (K : Int) := by omega
    go_wp2
    go_ret
    exact ⟨rfl, G1.out⟩

set_option maxHeartbeats 400000 in
theorem allOk_any (a : Option Addr) (cap : Nat) (xs : List (Int × List Ent)) (w : World) (h : RawB w a xs) (hl : xs.length ≤ 1000000) (hd : ∀ x ∈ xs, x.2.length ≤ 1000000) :
    Calls Try.prog 43 #[.slice a xs.length cap] w fun e w' => e = .returned (.bool (xs.all okX)) ∧ Below w.heap.size w w' := by
  have ct := containsR_any a cap xs w h hl hd
  obtain ⟨n, hn⟩ : ∃ n, xs.length = n := ⟨_, rfl⟩
  obtain ⟨Y, hY⟩ : ∃ Y, xs.all okX = Y := ⟨_, rfl⟩
  rw [hn, hY] at ct ⊢
  clear h hn hY
  go_enter Try.func43, Try.ntmps43
  go_wp2_with fail
  refine ct.mono ?_
  rintro r w1 ⟨rfl, g1⟩
  have G1 : Aside (Below w.heap.size w w1) := g1
  clear g1 ct
  go_wp2
  go_ret
  exact ⟨by simp, G1.out⟩
end Go.Proofs.Ytboccihcomaaoaa
