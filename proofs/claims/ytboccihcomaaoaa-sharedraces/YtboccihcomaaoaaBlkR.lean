/- The document's answer for blocks: Of, All, Pivot; the law's Same. -/
import Derived.Test.YtboccihcomaaoaaBlkC
import Derived.Test.YtboccihcomaaoaaRefS
namespace Go.Proofs.Ytboccihcomaaoaa
open Go.RowKit Go.Lib Go.Sort
set_option linter.unusedVariables false

set_option maxHeartbeats 400000 in
theorem refOf_any (a : Option Addr) (cap : Nat) (l : List Ent) (w : World) (h : IsL w a cap l) (hd : l.length ≤ 10000) :
    Calls Try.prog 40 #[.slice a l.length cap] w (MadeB w (sortE l)) := by
  have lv := refLevel_any l.length (by omega)
  have sl := sortE_len l
  obtain ⟨S, hS⟩ : ∃ S, w.heap.size = S := ⟨_, rfl⟩
  have HS : Hid _ := hS
  obtain ⟨u, hu⟩ : ∃ u, w.alloc (.cells #[.int .i64 0, .slice none 0 0] 79) = u := ⟨_, rfl⟩
  have HU : Hid _ := hu
  have b0 : Below S w u := by rw [← hu]; exact (Below.refl _ _).alloc (by omega) _
  have su : u.heap.size = S + 1 := by rw [← hu, ← hS]; simp
  have x0 : Box2 S (.int .i64 0) (.slice none 0 0) u := by rw [← hu, ← hS]; exact Box2.new _ _ _ _
  have st := refSort_made a cap l u (h.below (by rw [hS]; exact b0)) hd
  have B0 : Aside (Below S w u) := b0
  have X0 : Aside (Box2 S (.int .i64 0) (.slice none 0 0) u) := x0
  have SL : Hid _ := sl
  have SU : Hid _ := su
  obtain ⟨m, hm⟩ : ∃ m, lvl l.length = m := ⟨_, rfl⟩
  have HM : Hid _ := hm
  rw [hm] at lv
  clear h b0 x0 sl su hm hu
  go_enter Try.func40, Try.ntmps40
  go_wp2_with fail
  rw [HU.out]
  refine (lv _).mono ?_
  rintro e w1 ⟨rfl, rfl⟩
  go_wp2_with fail
  refine st.mono ?_
  rintro e w2 ⟨r, t, rfl, o2, b2⟩
  rw [SL.out]
  have x2 := X0.out.below b2 (by rw [SU.out]; omega)
  have q0 := x2.c0
  have q1 := x2.c1
  have q2 := x2.f0
  have q3 := x2.f1
  have B3 : Aside (Below S w ((w2.setCell ⟨S, 0, none⟩ (.int .i64 m)).setCell ⟨S, 1, none⟩ (.slice r l.length t))) :=
    ((B0.out.trans (b2.mono (by rw [SU.out]; omega))).setCell (Nat.le_refl _) _).setCell (Nat.le_refl _) _
  have X3 : Aside (Box2 S (.int .i64 m) (.slice r l.length t) ((w2.setCell ⟨S, 0, none⟩ (.int .i64 m)).setCell ⟨S, 1, none⟩ (.slice r l.length t))) := x2.set _ _
  have O3 : Aside (OwnE ((w2.setCell ⟨S, 0, none⟩ (.int .i64 m)).setCell ⟨S, 1, none⟩ (.slice r l.length t)) S (.slice r (sortE l).length t) (sortE l)) :=
    ((o2.set (by rw [SU.out]; exact Nat.lt_succ_self S) _).set (by rw [SU.out]; exact Nat.lt_succ_self S) _).low (by rw [SU.out]; exact Nat.le_succ S)
  clear x2 o2 b2 st X0 B0 lv
  go_wp2
  generalize World.setCell _ _ _ = w3 at B3 X3 O3 ⊢
  have y0 := X3.out.c0
  have y1 := X3.out.c1
  refine bodyPost_ret (v := .agg #[.int .i64 m, .slice r l.length t]) (by simp [results, Try.results40, go_sem, y0, y1]) rfl ⟨r, t, ?_, by rw [HS.out]; exact O3.out, by rw [HS.out]; exact B3.out⟩
  rw [SL.out, HM.out]

theorem refOfN {w : World} {a : Option Addr} {p n m : Nat} {c d : List Ent} (h : IsL w a p c) (hl : c.length = n) (hn : n ≤ 10000) (hs : sortE c = d) (hm : lvl n = m) : Calls Try.prog 40 #[.slice a n p] w (MadeN w m n d) := by
  have := refOf_any a p c w h (by omega)
  rw [hl] at this
  exact this.mono fun r w' h => by rw [hs] at h; exact h.n (by rw [← hs, sortE_len, hl]) hm

set_option maxHeartbeats 4000000 in
set_option maxRecDepth 100000 in
theorem refAll_any (a : Option Addr) (cap : Nat) (ls : List (List Ent)) (w : World) (h : IsBs w a ls) (hd : ls.flatten.length ≤ 10000) :
    Calls Try.prog 23 #[.slice a ls.length cap] w (Gives w (sortE ls.flatten)) := by
  have hl := h.len
  have H : Aside (IsBs w a ls) := h
  clear h
  go_enter Try.func23, Try.ntmps23
  go_wp2
  go_loopg [3, 4] ls.length (fun kx s3 s4 wr => ∃ (k n : Nat) (r : Option Addr) (t : Nat), s4 = .int .i64 k ∧ s3 = .slice r n t ∧ Hid ((sortE (ls.take k).flatten).length = n) ∧ k ≤ ls.length ∧ ls.length - k ≤ kx ∧ Aside (IsL wr r t (sortE (ls.take k).flatten)) ∧ Aside (Below w.heap.size w wr))
  case atStart => exact ⟨0, 0, none, 0, rfl, rfl, by show (sortE (ls.take 0).flatten).length = 0; rw [sortE_len]; rfl, by omega, by omega, by rw [show sortE (ls.take 0).flatten = [] from sortE_id Srt.nil]; exact IsL.nil _, Below.refl _ _⟩
  case round =>
    obtain ⟨k, z, r, t, rfl, rfl, HN, hk, hkx, O, B⟩ := hrel
    by_cases hlt : k < ls.length
    · have hz : (k : Int) < (ls.length : Int) := by omega
      obtain ⟨b, off, p, q, m, rfl, hb, c0, c1, L⟩ := (H.out.below B.out).elem k ls[k] (List.getElem?_eq_getElem hlt)
      have e1 := flat_take hlt
      have e2 := flat_take_le ls (k + 1)
      obtain ⟨d, hdk⟩ : ∃ d, ls[k] = d := ⟨_, rfl⟩
      rw [hdk] at e1 c1 L
      have e3 : (ls.take k).flatten.length + d.length ≤ 10000 := by rw [e1, List.length_append] at e2; omega
      have mg := refMerge_any r p t q (sortE (ls.take k).flatten) d wr O.out L (by rw [sortE_len]; exact e3)
      have e4 : sortE (sortE (ls.take k).flatten ++ d) = sortE (ls.take (k + 1)).flatten := by rw [e1]; exact sortE_congr ((sortE_perm _).append_right d)
      rw [e4, HN.out] at mg
      have B0 := B.out.size
      clear e1 e2 e3 e4 hdk L O
      go_wp2_with fail
      refine mg.mono ?_
      rintro e w2 ⟨r2, t2, rfl, l2, b2⟩
      obtain ⟨n2, hn2⟩ : ∃ n2, (sortE (ls.take (k + 1)).flatten).length = n2 := ⟨_, rfl⟩
      have HN2 : Hid _ := hn2
      rw [hn2]
      have B2 : Aside (Below w.heap.size w w2) := B.out.trans (b2.mono B0)
      have O2 : Aside (IsL w2 r2 t2 (sortE (ls.take (k + 1)).flatten)) := l2
      clear l2 b2 mg B hn2 c0 c1
      go_wp2
      go_roundg (ls.length - (k + 1))
      case measure => omega
      case rel => exact ⟨k + 1, n2, r2, t2, by go_num, rfl, HN2, by omega, Nat.le_refl _, O2, B2⟩
    · have hz : ¬ (k : Int) < (ls.length : Int) := by omega
      have e : (ls.take k).flatten = ls.flatten := by rw [List.take_of_length_le (by omega)]
      rw [e] at HN O
      go_wp2
      go_ret
      exact ⟨r, t, by rw [HN.out]; rfl, O.out, B.out⟩

set_option maxHeartbeats 400000 in
theorem refPivotN {w : World} {a : Option Addr} {cap : Nat} {ls : List (List Ent)} {n : Int} {k T K : Nat} {d : List Ent} (h : IsBs w a ls) (hk : ls.length = k) (hf : ls.flatten.length = T) (hT : T ≤ 10000) (hK : wth n T = K) (hd : (sortE ls.flatten).take K = d) :
    Calls Try.prog 46 #[.slice a k cap, .int .i64 n] w (PivN w K d) := by
  have al := refAll_any a cap ls w h (by omega)
  have sl : (sortE ls.flatten).length = T := by rw [sortE_len, hf]
  have k0 : K ≤ T := by rw [← hK]; exact wth_le _ _
  have mm : min (max n 0) (T : Int) = (K : Int) := by rw [← hK]; unfold wth; omega
  have SL : Hid _ := sl
  have HD : Hid _ := hd
  rw [hk] at al
  clear h hk hf hK hd sl
  go_enter Try.func46, Try.ntmps46
  go_wp2_with fail
  refine al.mono ?_
  rintro e w1 ⟨r1, t1, rfl, l1, b1⟩
  rw [SL.out]
  have t0 := l1.le
  rw [SL.out] at t0
  have L1 : Aside (IsL w1 r1 t1 d) := by rw [← HD.out]; exact l1.take K
  have B1 : Aside (Below w.heap.size w w1) := b1
  have j1 : (K : Int) ≤ (t1 : Int) := by omega
  have j2 : (K : Int) ≤ (T : Int) := by omega
  have j3 : (0 : Int) ≤ (K : Int) := by omega
  clear l1 b1 al
  go_wp2
  go_ret
  exact ⟨r1, t1, rfl, L1.out, B1.out⟩
end Go.Proofs.Ytboccihcomaaoaa
