/- The document's Sort, Merge and Drop. -/
import Derived.Test.YtboccihcomaaoaaEntPut
namespace Go.Proofs.Ytboccihcomaaoaa
open Go.RowKit Go.Lib Go.Sort
set_option linter.unusedVariables false

theorem fold_take {d : List Ent} {k : Nat} (h : k < d.length) : (d.take (k + 1)).foldl insL [] = insL ((d.take k).foldl insL []) d[k] := by
  rw [List.take_succ_eq_append_getElem h, List.foldl_append]
  rfl
theorem fold_len (d : List Ent) : (d.foldl insL []).length = d.length := by
  rw [ins_fold d [] Srt.nil, sortE_len]; simp

set_option maxHeartbeats 2000000 in
set_option maxRecDepth 100000 in
theorem refSort_made (a : Option Addr) (cap : Nat) (d : List Ent) (w : World) (h : IsL w a cap d) (hd : d.length ≤ 10000) :
    Calls Try.prog 61 #[.slice a d.length cap] w (Made w (sortE d)) := by
  have hl := h.len
  have H : Aside (IsL w a cap d) := h
  clear h
  go_enter Try.func61, Try.ntmps61
  go_wp2
  go_loopg [3, 4] d.length (fun kx s3 s4 wr => ∃ (k n : Nat) (r : Option Addr) (t : Nat), s4 = .int .i64 k ∧ s3 = .slice r n t ∧ Hid (((d.take k).foldl insL []).length = n) ∧ k ≤ d.length ∧ d.length - k ≤ kx ∧ Aside (OwnE wr w.heap.size (.slice r n t) ((d.take k).foldl insL [])) ∧ Aside (Below w.heap.size w wr))
  case atStart => exact ⟨0, 0, none, 0, rfl, rfl, rfl, by omega, by omega, OwnE.nil w _, Below.refl _ _⟩
  case round =>
    obtain ⟨k, n, r, t, rfl, rfl, HN, hk, hkx, L, B⟩ := hrel
    by_cases hlt : k < d.length
    · have hz : (k : Int) < (d.length : Int) := by omega
      obtain ⟨b, off, rfl, hb, c1, c2⟩ := (H.out.below B.out).elem k d[k] (List.getElem?_eq_getElem hlt)
      have e1 := fold_take hlt
      obtain ⟨x, hx⟩ : ∃ x, d[k] = x := ⟨_, rfl⟩
      rw [hx] at e1 c1 c2
      have hlen : ((d.take k).foldl insL []).length ≤ 10000 := by rw [fold_len]; simp; omega
      have il : IsL wr r t ((d.take k).foldl insL []) := by
        obtain ⟨r', t', ex, l⟩ := L.out.isL
        injection ex with x1 x2 x3
        subst x1 x3
        exact l
      have pt := refPut_made r t ((d.take k).foldl insL []) x wr il (by omega)
      rw [HN.out, ← e1] at pt
      have B0 := B.out.size
      clear hx e1 hlen L il
      go_wp2_with fail
      refine pt.mono ?_
      rintro e w1 ⟨r1, t1, rfl, l1, b1⟩
      obtain ⟨n1, hn1⟩ : ∃ n1, ((d.take (k + 1)).foldl insL []).length = n1 := ⟨_, rfl⟩
      have HN1 : Hid _ := hn1
      have B1 : Aside (Below w.heap.size w w1) := Below.trans B.out (Below.mono b1 B0)
      have L1 : Aside (OwnE w1 w.heap.size (.slice r1 n1 t1) ((d.take (k + 1)).foldl insL [])) := by rw [← hn1]; exact OwnE.low l1 B0
      rw [hn1]
      clear hn1 b1 l1 c1 c2 pt B
      go_wp2
      go_roundg (d.length - (k + 1))
      case measure => omega
      case rel => exact ⟨k + 1, n1, r1, t1, by go_num, rfl, HN1, by omega, Nat.le_refl _, L1, B1⟩
    · have hz : ¬ (k : Int) < (d.length : Int) := by omega
      have e : (d.take k).foldl insL [] = sortE d := by rw [List.take_of_length_le (by omega), ins_fold d [] Srt.nil]; rfl
      rw [e] at HN L
      go_wp2
      go_ret
      exact ⟨r, t, by rw [HN.out]; rfl, by rw [HN.out]; exact L.out, B.out⟩

theorem refSort_any (a : Option Addr) (cap : Nat) (d : List Ent) (w : World) (h : IsL w a cap d) (hd : d.length ≤ 10000) :
    Calls Try.prog 61 #[.slice a d.length cap] w (Gives w (sortE d)) :=
  (refSort_made a cap d w h hd).mono (fun _ _ h => Made.gives h)

set_option maxHeartbeats 400000 in
theorem refMerge_any (a a' : Option Addr) (cap cap' : Nat) (c d : List Ent) (w : World) (h : IsL w a cap c) (h' : IsL w a' cap' d) (hd : c.length + d.length ≤ 10000) :
    Calls Try.prog 45 #[.slice a c.length cap, .slice a' d.length cap'] w (Gives w (sortE (c ++ d))) := by
  have b0 : Below w.heap.size w (w.alloc (.cells #[] 37)) := (Below.refl _ _).alloc (Nat.le_refl _) _
  have o0 := OwnE.made (base := w.heap.size) w #[] 0 (Nat.le_refl _) (by omega) rfl
  obtain ⟨v1, w1, h1, o1, g1⟩ := app_run (d := []) (c := c) o0 (h.below b0) (by simp; omega) b0.size 32
  obtain ⟨r1, t1, rfl, _⟩ := o1.isL
  have b1 : Below w.heap.size w w1 := OwnE.grown o0 b0 g1 b0.size
  obtain ⟨v2, w2, h2, o2, g2⟩ := app_run (c := d) o1 (h'.below b1) (by simp; omega) b1.size 32
  obtain ⟨r2, t2, rfl, l2⟩ := o2.isL
  have b2 : Below w.heap.size w w2 := OwnE.grown o1 b1 g2 b1.size
  obtain ⟨n1, hn1⟩ : ∃ n1, ([] ++ c).length = n1 := ⟨_, rfl⟩
  obtain ⟨n2, hn2⟩ : ∃ n2, ([] ++ c ++ d).length = n2 := ⟨_, rfl⟩
  rw [hn1] at h1 h2
  rw [hn2] at h2
  have st := refSort_any r2 t2 ([] ++ c ++ d) w2 l2 (by simp; omega)
  rw [hn2, show [] ++ c ++ d = c ++ d from rfl] at st
  have B2 : Aside (Below w.heap.size w w2) := b2
  clear hn1 hn2 o0 o1 o2 g1 g2 b0 b1 b2 l2 h h'
  go_enter Try.func45, Try.ntmps45
  go_wp2_with (at_builtin; first | refine Lib.wpList_append_run w1 rfl _ _ 32 32 rfl (.slice r1 n1 t1) (.slice a' d.length cap') rfl rfl (.slice r2 n2 t2) w2 h2 ?_ | refine Lib.wpList_append_run (w.alloc (.cells #[] 37)) rfl _ _ 32 32 rfl (.slice (some ⟨w.heap.size, 0, none⟩) 0 0) (.slice a c.length cap) rfl rfl (.slice r1 n1 t1) w1 h1 ?_)
  refine st.mono ?_
  rintro e w3 ⟨r3, t3, rfl, l3, b3⟩
  have B3 : Aside (Below w.heap.size w w3) := Below.trans B2.out (Below.mono b3 B2.out.size)
  have L3 : Aside (IsL w3 r3 t3 (sortE (c ++ d))) := l3
  clear l3 b3 st
  go_wp2
  go_ret
  exact ⟨r3, t3, rfl, L3.out, B3.out⟩
end Go.Proofs.Ytboccihcomaaoaa
