/- The document's Drop. -/
import Derived.Test.YtefkgljpocfpfaaRefS
namespace Go.Proofs.Ytefkgljpocfpfaa
open Go.RowKit Go.Lib Go.Sort
set_option linter.unusedVariables false

set_option maxHeartbeats 4000000 in
set_option maxRecDepth 100000 in
theorem refDrop_any (a : Option Addr) (cap : Nat) (d : List Ent) (id : Int) (w : World) (h : IsL w a cap d) (hd : d.length ≤ 100000) :
    Calls Try.prog 27 #[.slice a d.length cap, .int .i64 id] w (Dropped w d id) := by
  have hl := h.len
  have hcap := h.le
  have hbig := h.big
  unfold maxLen at hbig
  have H : Aside (IsL w a cap d) := h
  have mx := mixed
  have b0 : Below w.heap.size w (w.alloc (.cells #[] 31)) := (Below.refl _ _).alloc (Nat.le_refl _) _
  have o0 := OwnE.made (base := w.heap.size) w #[] 0 (Nat.le_refl _) (by omega) rfl
  have O0 : Aside (OwnE (w.alloc (.cells #[] 31)) w.heap.size (.slice (some ⟨w.heap.size, 0, none⟩) 0 0) []) := o0
  have B0 : Aside (Below w.heap.size w (w.alloc (.cells #[] 31))) := b0
  clear h b0 o0
  go_enter Try.func27, Try.ntmps27
  go_wp2
  go_loop [6] (fun s6 => ∃ k : Nat, s6 = .int .i64 k ∧ k ≤ d.length ∧ Aside (∀ i (hi : i < d.length), i < k → d[i].2 ≠ id)) (fun s6 => d.length - (intOf s6).toNat)
  case atStart => exact ⟨0, rfl, by omega, (fun i _ h => absurd h (by omega) : ∀ i (hi : i < d.length), i < 0 → d[i].2 ≠ id)⟩
  case round =>
    obtain ⟨k, rfl, hk, A⟩ := hrel
    by_cases hlt : k < d.length
    · have hz : (k : Int) < (d.length : Int) := by omega
      obtain ⟨b, off, ha, hb, c1, c2⟩ := H.out.elem k d[k] (List.getElem?_eq_getElem hlt)
      obtain ⟨x, hx⟩ : ∃ x, d[k].2 = x := ⟨_, rfl⟩
      rw [hx] at c2
      have HX : Hid _ := hx
      clear hx c1
      by_cases e : x = id
      · have hh : hasL d id = true := hasL_at k hlt (HX.out.trans e)
        have he := dropL_at d id k hlt (HX.out.trans e) (fun i hi => A.out i (by omega) hi)
        have HH : Hid _ := hh
        have e2 : (x == id) = true := by simpa using e
        clear e
        have k1 : (k : Int) ≤ (cap : Int) := by omega
        have k2 : (k : Int) + 1 ≤ (d.length : Int) := by omega
        have k3 : (0 : Int) ≤ (k : Int) + 1 := by omega
        have k4 : (0 : Int) ≤ (k : Int) := by omega
        have k5 : ((k : Int) + 1).toNat = k + 1 := by omega
        have wk : IntKind.i64.wrap ((k : Int) + 1) = (k : Int) + 1 := by rw [IntKind.wrap_i64]; omega
        obtain ⟨p1, hp1⟩ : ∃ p1, (if cap = k + 1 then a else a.map (·.add ((k + 1) * 2))) = p1 := ⟨_, rfl⟩
        have l1 : (d.take k).length = k := by simp; omega
        have l2 : (d.drop (k + 1)).length = d.length - (k + 1) := by simp
        have o0 : OwnE (w.alloc (.cells #[] 31)).drew w.heap.size (.slice (some ⟨w.heap.size, 0, none⟩) 0 0) [] := O0.out
        have b0 : Below w.heap.size w (w.alloc (.cells #[] 31)).drew := B0.out.drew
        obtain ⟨v1, w1, h1, o1, g1⟩ := app_run (d := []) (c := d.take k) o0 ((H.out.below b0).take k) (by simp; omega) b0.size 22
        obtain ⟨r1, t1, rfl, _⟩ := o1.isL
        have b1 : Below w.heap.size w w1 := OwnE.grown o0 b0 g1 b0.size
        have L1 := (H.out.below b1).drop (k + 1) hlt
        rw [hp1] at L1
        obtain ⟨v2, w2, h2, o2, g2⟩ := app_run (c := d.drop (k + 1)) o1 L1 (by simp; omega) b1.size 22
        obtain ⟨r2, t2, rfl, m2⟩ := o2.isL
        have b2 : Below w.heap.size w w2 := OwnE.grown o1 b1 g2 b1.size
        rw [List.nil_append, l1] at h1 h2
        rw [l2] at h2
        obtain ⟨n2, hn2⟩ : ∃ n2, (d.take k ++ d.drop (k + 1)).length = n2 := ⟨_, rfl⟩
        rw [hn2] at h2
        have F : Aside (n2 = (dropL d id).length ∧ IsL w2 r2 t2 (dropL d id) ∧ Below w.heap.size w w2) := ⟨by rw [← hn2, he], by rw [List.nil_append, he] at m2; exact m2, b2⟩
        clear hn2 m2 o0 o1 o2 g1 g2 b0 b1 b2 L1 he A l1 l2
        have x0 : w.cell? ⟨b, off + k * 2 + 1, none⟩ = some (.int .i64 x) := c2
        subst ha
        rw [Option.map_some, Addr.add_lit] at hp1
        go_wp2_with fail
        go_region_held3 (fun _ => True) (trivial)
          ((first
            | refine step_app w1 (by rfl) _ _ 22 22 (by rfl) (.slice r1 k t1) (.slice p1 (d.length - (k + 1)) (cap - (k + 1))) (by rfl) (by rfl) (.slice r2 n2 t2) w2 h2 ?_
            | refine step_app (w.alloc (.cells #[] 31)).drew (by rfl) _ _ 22 22 (by rfl) (.slice (some ⟨w.heap.size, 0, none⟩) 0 0) (.slice (some ⟨b, off, none⟩) k cap) (by rfl) (by rfl) (.slice r1 k t1) w1 h1 ?_))
        go_wp2
        go_ret2
        exact ⟨r2, t2, by rw [HH.out, ← F.out.1]; rfl, F.out.2.1, F.out.2.2⟩
      · have E : Hid _ := e
        have e2 : (x == id) = false := by simpa using e
        subst ha
        go_wp2
        go_round
        case rel =>
          refine ⟨k + 1, by go_num, by omega, (fun i hi hik => ?_ : ∀ i (hi : i < d.length), i < k + 1 → d[i].2 ≠ id)⟩
          by_cases e : i = k
          · subst e; rw [HX.out]; exact E.out
          · exact A.out i hi (by omega)
        case measure => simp [intOf]; omega
    · have hz : ¬ (k : Int) < (d.length : Int) := by omega
      have hh : hasL d id = false := hasL_none fun i hi => A.out i hi (by omega)
      have he := dropL_none hh
      obtain ⟨v1, w1, h1, o1, g1⟩ := app_run (d := []) (c := d) O0.out (H.out.below B0.out) (by simp; omega) B0.out.size 22
      obtain ⟨r1, t1, rfl, m1⟩ := o1.isL
      have b1 : Below w.heap.size w w1 := OwnE.grown O0.out B0.out g1 B0.out.size
      rw [List.nil_append] at h1 m1
      have F : Aside (IsL w1 r1 t1 d ∧ Below w.heap.size w w1) := ⟨m1, b1⟩
      have HH : Hid _ := hh
      have HE : Hid _ := he
      clear hh he o1 g1 m1 b1 A
      go_wp2_with (at_builtin; refine Lib.wpList_append_run (w.alloc (.cells #[] 31)) rfl _ _ 22 22 rfl (.slice (some ⟨w.heap.size, 0, none⟩) 0 0) (.slice a d.length cap) rfl rfl (.slice r1 d.length t1) w1 h1 ?_)
      go_ret2
      exact ⟨r1, t1, by rw [HH.out, HE.out]; rfl, by rw [HE.out]; exact F.out.1, F.out.2⟩
end Go.Proofs.Ytefkgljpocfpfaa
