/- Slices of blocks; Pivot. -/
import Derived.Test.YtboccihcomaaoaaBlkL
import Derived.Test.YtboccihcomaaoaaEntP
namespace Go.Proofs.Ytboccihcomaaoaa
open Go.RowKit Go.Lib Go.Sort
set_option linter.unusedVariables false

/-- A slice at a whose blocks hold these lists, whatever their levels say. -/
structure IsBs (w : World) (a : Option Addr) (ls : List (List Ent)) : Prop where
  len : ls.length ≤ 9223372036854775807
  elem : ∀ i d, ls[i]? = some d → ∃ b off p k m, a = some ⟨b, off, none⟩ ∧ b < w.heap.size ∧ w.cell? ⟨b, off + i * 2, none⟩ = some (.int .i64 m) ∧ w.cell? ⟨b, off + i * 2 + 1, none⟩ = some (.slice p d.length k) ∧ IsL w p k d
theorem IsBs.below {w w' : World} {a : Option Addr} {ls : List (List Ent)} (h : IsBs w a ls) (hw : Below w.heap.size w w') : IsBs w' a ls :=
  ⟨h.len, fun i d hd => by
    obtain ⟨b, off, p, k, m, e, hb, h1, h2, h3⟩ := h.elem i d hd
    exact ⟨b, off, p, k, m, e, by have := hw.size; omega, (hw.cell (p := ⟨b, off + i * 2, none⟩) hb).trans h1, (hw.cell (p := ⟨b, off + i * 2 + 1, none⟩) hb).trans h2, h3.below hw⟩⟩
theorem IsBs.nil (w : World) : IsBs w none [] := ⟨by simp, fun i d h => by simp at h⟩

/-- What Pivot tells: a list of the call's own. -/
def PivO (w : World) (K : Nat) (d : List Ent) (r : Ending) (w' : World) : Prop := ∃ a cap, r = .returned (.slice a K cap) ∧ OwnE w' w.heap.size (.slice a K cap) d ∧ Below w.heap.size w w'
theorem OwnE.take {w : World} {base n cap : Nat} {a : Option Addr} {d : List Ent} (h : OwnE w base (.slice a n cap) d) (k : Nat) (hk : k ≤ n) (hn : d.length = n) : OwnE w base (.slice a k cap) (d.take k) := by
  have e : (d.take k).length = k := by rw [List.length_take]; omega
  have hf : flat (d.take k) = (flat d).take (k * 2) := by
    conv => rhs; rw [← List.take_append_drop k d, flat_append]
    rw [List.take_append_of_le_length (by rw [flat_len, e]; omega)]
    exact (List.take_of_length_le (by rw [flat_len, e]; omega)).symm
  subst hn
  refine ⟨by rw [flat_len], ?_⟩
  rw [e]
  rcases h.2 with ⟨h1, h0⟩ | ⟨g, cap', cur, h1, hb, hg, hn, hc, hs, ht⟩
  · injection h1 with e1 e2 e3
    subst e1 e3
    have : k = 0 := by omega
    subst this
    exact .inl ⟨rfl, rfl⟩
  · injection h1 with e1 e2 e3
    subst e1 e3
    exact .inr ⟨g, cap, cur, rfl, hb, hg, by omega, hc, hs, by rw [hf, ← ht, List.take_take]; congr 1; omega⟩
/-- What Pivot tells. -/
def PivN (w : World) (K : Nat) (d : List Ent) (r : Ending) (w' : World) : Prop := ∃ a cap, r = .returned (.slice a K cap) ∧ IsL w' a cap d ∧ Below w.heap.size w w'

set_option maxHeartbeats 4000000 in
set_option maxRecDepth 100000 in
theorem pivotO_any (a : Option Addr) (cap : Nat) (ls : List (List Ent)) (n : Int) (w : World) (h : IsBs w a ls) (hd : ls.flatten.length ≤ 1000000) :
    Calls Try.prog 47 #[.slice a ls.length cap, .int .i64 n] w (PivO w (wth n ls.flatten.length) ((sortE ls.flatten).take (wth n ls.flatten.length))) := by
  have hl := h.len
  have H : Aside (IsBs w a ls) := h
  clear h
  go_enter Try.func47, Try.ntmps47
  go_wp2
  go_loopg [5, 10] ls.length (fun kx s5 s10 wr => ∃ (k n : Nat) (r : Option Addr) (t : Nat), s10 = .int .i64 k ∧ s5 = .slice r n t ∧ Hid ((ls.take k).flatten.length = n) ∧ k ≤ ls.length ∧ ls.length - k ≤ kx ∧ Aside (OwnE wr w.heap.size (.slice r n t) (ls.take k).flatten) ∧ Aside (Below w.heap.size w wr))
  case atStart => exact ⟨0, 0, none, 0, rfl, rfl, rfl, by omega, by omega, OwnE.nil w _, Below.refl _ _⟩
  case round =>
    obtain ⟨k, z, r, t, rfl, rfl, HN, hk, hkx, O, B⟩ := hrel
    by_cases hlt : k < ls.length
    · have hz : (k : Int) < (ls.length : Int) := by omega
      obtain ⟨b, off, p, q, m, rfl, hb, c0, c1, L⟩ := (H.out.below B.out).elem k ls[k] (List.getElem?_eq_getElem hlt)
      have e1 := flat_take hlt
      have e2 := flat_take_le ls (k + 1)
      obtain ⟨d, hdk⟩ : ∃ d, ls[k] = d := ⟨_, rfl⟩
      rw [hdk] at e1 c1 L
      have e3 : (ls.take k).flatten.length + d.length ≤ 1000000 := by rw [e1, List.length_append] at e2; omega
      have bv : Below wr.heap.size wr (wr.alloc (.cells #[.int .i64 m, .slice p d.length q] 34)) := (Below.refl _ _).alloc (Nat.le_refl _) _
      obtain ⟨v2, w2, hr, o2, g2⟩ := app_run (d := (ls.take k).flatten) (c := d) (O.out.below bv) (L.below bv) e3 (Nat.le_trans B.out.size bv.size) 32
      obtain ⟨r2, t2, rfl, _⟩ := o2.isL
      have B2 : Aside (Below w.heap.size w w2) := OwnE.grown (O.out.below bv) (B.out.trans (bv.mono B.out.size)) g2 (Nat.le_trans B.out.size bv.size)
      rw [← e1] at o2 hr
      obtain ⟨n2, hn2⟩ : ∃ n2, (ls.take (k + 1)).flatten.length = n2 := ⟨_, rfl⟩
      rw [hn2] at hr
      have O2 : Aside (OwnE w2 w.heap.size (.slice r2 n2 t2) (ls.take (k + 1)).flatten) := by rw [← hn2]; exact o2
      have HN2 : Hid _ := hn2
      clear o2 g2 e1 e2 e3 hdk hn2 L O B bv
      go_wp2_with (at_builtin; refine Lib.wpList_append_run (World.alloc wr _) rfl _ _ 32 32 rfl _ _ rfl rfl _ w2 hr ?_)
      go_roundg (ls.length - (k + 1))
      case measure => omega
      case rel => exact ⟨k + 1, n2, r2, t2, by go_num, rfl, HN2, by omega, Nat.le_refl _, O2, B2⟩
    · have hz : ¬ (k : Int) < (ls.length : Int) := by omega
      have e : (ls.take k).flatten = ls.flatten := by rw [List.take_of_length_le (by omega)]
      rw [e] at HN O
      have hz2 : z ≤ 1000000 := by have := HN.out; omega
      have so := sort_made r t ls.flatten wr O.out.is hd
      have wi := within_any n z (by omega)
      have k0 := wth_le n z
      rw [HN.out] at so
      obtain ⟨K, hK⟩ : ∃ K, wth n z = K := ⟨_, rfl⟩
      have HK : Hid _ := hK
      rw [hK] at wi k0
      have sl : (sortE ls.flatten).length = z := by rw [sortE_len, HN.out]
      have SL : Hid _ := sl
      have B0 := B.out.size
      clear e sl hK O
      go_wp2_with fail
      refine so.mono ?_
      rintro e w1 ⟨r1, t1, rfl, o1, b1⟩
      rw [SL.out] at o1 ⊢
      have t0 := o1.is.le
      have t3 := o1.is.big
      rw [SL.out] at t0
      unfold maxLen at t3
      have B1 : Aside (Below w.heap.size w w1) := B.out.trans (b1.mono B0)
      have O1 : Aside (OwnE w1 w.heap.size (.slice r1 K t1) ((sortE ls.flatten).take K)) := (o1.take K (by omega) SL.out).low B0
      have j1 : (K : Int) ≤ (t1 : Int) := by omega
      have j2 : (K : Int) ≤ (z : Int) := by omega
      have j3 : (0 : Int) ≤ (K : Int) := by omega
      clear o1 b1 so B
      go_wp2_with fail
      refine (wi _).mono ?_
      rintro e w2 ⟨rfl, rfl⟩
      go_wp2
      go_ret
      exact ⟨r1, t1, by rw [HN.out, HK.out]; rfl, by rw [HN.out, HK.out]; exact O1.out, B1.out⟩

theorem pivot_any (a : Option Addr) (cap : Nat) (ls : List (List Ent)) (n : Int) (w : World) (h : IsBs w a ls) (hd : ls.flatten.length ≤ 1000000) :
    Calls Try.prog 47 #[.slice a ls.length cap, .int .i64 n] w (PivN w (wth n ls.flatten.length) ((sortE ls.flatten).take (wth n ls.flatten.length))) :=
  (pivotO_any a cap ls n w h hd).mono fun r w' ⟨x, y, h1, h2, h3⟩ => ⟨x, y, h1, h2.is, h3⟩
theorem pivotN {w : World} {a : Option Addr} {cap : Nat} {ls : List (List Ent)} {n : Int} {k T K : Nat} {d : List Ent} (h : IsBs w a ls) (hk : ls.length = k) (hf : ls.flatten.length = T) (hT : T ≤ 1000000) (hK : wth n T = K) (hd : (sortE ls.flatten).take K = d) :
    Calls Try.prog 47 #[.slice a k cap, .int .i64 n] w (PivN w K d) := by
  have := pivot_any a cap ls n w h (by omega)
  rw [hk, hf, hK, hd] at this
  exact this
/-- A row of blocks that was laid. -/
theorem IsBs.of_block {W : World} {g : Nat} {cs : Array Value} {T : TypeId} {fr : Nat × Nat} {ls : List (List Ent)} (h : W.heap[g]? = some (.cells cs T fr)) (hl : ls.length ≤ 9223372036854775807)
    (he : ∀ (i : Nat) (d : List Ent), ls[i]? = some d → ∃ p k m, cs[i * 2]? = some (Value.int .i64 m) ∧ cs[i * 2 + 1]? = some (Value.slice p d.length k) ∧ IsL W p k d) : IsBs W (some ⟨g, 0, none⟩) ls :=
  ⟨hl, fun i d hd => by
    obtain ⟨p, k, m, h0, h1, h2⟩ := he i d hd
    exact ⟨g, 0, p, k, m, rfl, lt_of_block h, by rw [Nat.zero_add, cell_of_row _ _ _ cs T fr h]; exact h0, by rw [Nat.zero_add, cell_of_row _ _ _ cs T fr h]; exact h1, h2⟩⟩
theorem bs2 {w v : World} {m1 m2 : Int} {a b : Option Addr} {p q n1 n2 S : Nat} {c d : List Ent} {T : TypeId} (hv : w.alloc (.cells #[.int .i64 m1, .slice a n1 p, .int .i64 m2, .slice b n2 q] T) = v) (hS : w.heap.size = S) (hc : IsL v a p c) (hd : IsL v b q d) (h1 : c.length = n1) (h2 : d.length = n2) : IsBs v (some ⟨S, 0, none⟩) [c, d] := by
  refine IsBs.of_block (cs := #[.int .i64 m1, .slice a n1 p, .int .i64 m2, .slice b n2 q]) (T := T) (fr := (0, 0)) (by rw [← hv, ← hS]; exact heap_alloc_new w _) (by simp) (fun i z hz => ?_)
  have hi : i < 2 := by simpa using (List.getElem?_eq_some_iff.1 hz).1
  have : i = 0 ∨ i = 1 := by omega
  rcases this with rfl | rfl
  · simp at hz
    subst hz
    exact ⟨a, p, m1, rfl, by rw [h1]; rfl, hc⟩
  · simp at hz
    subst hz
    exact ⟨b, q, m2, rfl, by rw [h2]; rfl, hd⟩
theorem bs1 {w v : World} {m1 : Int} {a : Option Addr} {p n1 S : Nat} {c : List Ent} {T : TypeId} (hv : w.alloc (.cells #[.int .i64 m1, .slice a n1 p] T) = v) (hS : w.heap.size = S) (hc : IsL v a p c) (h1 : c.length = n1) : IsBs v (some ⟨S, 0, none⟩) [c] := by
  refine IsBs.of_block (cs := #[.int .i64 m1, .slice a n1 p]) (T := T) (fr := (0, 0)) (by rw [← hv, ← hS]; exact heap_alloc_new w _) (by simp) (fun i z hz => ?_)
  have hi : i < 1 := by simpa using (List.getElem?_eq_some_iff.1 hz).1
  obtain rfl : i = 0 := by omega
  simp at hz
  subst hz
  exact ⟨a, p, m1, rfl, by rw [h1]; rfl, hc⟩
end Go.Proofs.Ytboccihcomaaoaa
