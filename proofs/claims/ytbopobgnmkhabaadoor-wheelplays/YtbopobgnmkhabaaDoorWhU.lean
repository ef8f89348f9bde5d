/- wheel: near: what is far no longer. -/
import Derived.Test.YtbopobgnmkhabaaDoorWhS
namespace Go.Proofs.YtbopobgnmkhabaaDoor
open Go.RowKit Go.Lib Go.Sort Go.WideMaps Go.Maps
set_option linter.unusedVariables false

variable {w w' : World} {B M base now n : Nat} {hd : Nat → Value} {u : Nat → Nat} {c : Nat → Nat → List Ent} {far : List Ent} {f : Int → Option Int}
/-- The rest of a slice. -/
theorem RowF.rest {g off cap : Nat} {d : List Ent} (h : RowF w base g off cap d) {k : Nat} (hk : k ≤ d.length) (hc : cap ≠ k) : RowF w base g (off + k * 2) (cap - k) (d.drop k) := by
  obtain ⟨P, R, m1, m2, m3, m4⟩ := h.mem
  have := h.le
  refine ⟨h.low, by omega, by rw [List.length_drop]; omega, Nat.le_trans (Nat.sub_le _ _) h.big, P ++ R.take (k * 2), R.drop (k * 2), by rw [List.append_assoc, List.take_append_drop]; exact m1, by simp; omega, by simp; omega, ?_⟩
  rw [List.length_drop, flat_drop, ← m4, List.drop_take]
  congr 1
  omega
theorem OwnF.rest {g off cap : Nat} {d : List Ent} (h : OwnF w base (.slice (some ⟨g, off, none⟩) d.length cap) d) {k : Nat} (hk : k ≤ d.length) : OwnF w base (.slice (if cap = k then some ⟨g, off, none⟩ else some ⟨g, off + k * 2, none⟩) (d.length - k) (cap - k)) (d.drop k) ∧
    ∀ j, rowB (.slice (if cap = k then some ⟨g, off, none⟩ else some ⟨g, off + k * 2, none⟩) (d.length - k) (cap - k)) = some j → rowB (.slice (some ⟨g, off, none⟩) d.length cap) = some j := by
  rcases h with ⟨rfl, h⟩ | ⟨g', off', cap', e, hr⟩
  · have hk0 : k = 0 := by simpa using hk
    subst hk0
    rcases h with h | ⟨g', off', h⟩
    · simp at h
    · simp only [Value.slice.injEq, Option.some.injEq, Addr.mk.injEq] at h
      obtain ⟨⟨rfl, rfl, _⟩, _, rfl⟩ := h
      exact ⟨OwnF.zero _ _ _ _, fun j hj => by simp [rowB] at hj⟩
  · simp only [Value.slice.injEq, Option.some.injEq, Addr.mk.injEq] at e
    obtain ⟨⟨rfl, rfl, _⟩, _, rfl⟩ := e
    by_cases hc : cap = k
    · subst hc
      have hle := hr.le
      obtain he : cap = d.length := by omega
      subst he
      rw [if_pos rfl, List.drop_length, Nat.sub_self]
      exact ⟨OwnF.zero _ _ _ _, fun j hj => by simp [rowB] at hj⟩
    · rw [if_neg hc]
      have r2 := hr.rest hk hc
      refine ⟨.inr ⟨g, _, _, by rw [List.length_drop], r2⟩, fun j hj => ?_⟩
      rw [r2.rowB] at hj
      rw [hr.rowB]; exact hj

def NearIs (w : World) (B M base now n : Nat) (hd : Nat → Value) (u : Nat → Nat) (c : Nat → Nat → List Ent) (far : List Ent) (f : Int → Option Int) (r : Ending) (w' : World) : Prop :=
  ∃ k a cap v', k ≤ far.length ∧ r = .returned (.slice a k cap) ∧ IsL w' a cap (far.take k) ∧ WhA w' B M base (hset hd 262 v') now u c (far.drop k) f n ∧ Fr (fun k => k = B) w w' ∧ (∀ j, rowB v' = some j → rowB (hd 262) = some j) ∧
    (∀ i (hi : i < far.length), i < k → far[i].1 ≤ ((now ||| 16777215 : Nat) : Int)) ∧ ∀ h : k < far.length, ((now ||| 16777215 : Nat) : Int) < far[k].1
set_option maxHeartbeats 2000000 in
theorem near_any (h : WhA w B M base hd now u c far f n) (hl : far.length ≤ 100000) :
    Calls Tryd.prog 37 #[.pointer (some ⟨B, 0, none⟩)] w (NearIs w B M base now n hd u c far f) := by
  have c0 := h.head.cell (k := 0) (by omega)
  rw [h.h0] at c0
  have cF := h.head.cell (k := 262) (by omega)
  have fF := h.head.frozen 262
  have hE : now ||| 16777215 < B64 := Nat.or_lt_two_pow (n := 64) h.nb (by decide)
  have e1 : bits BinOp.or IntKind.u64 (now : Int) 16777215 = ((now ||| 16777215 : Nat) : Int) := bits_or_u64_nat now 16777215 h.nb (by decide)
  obtain ⟨E, hEE⟩ : ∃ E, now ||| 16777215 = E := ⟨_, rfl⟩
  rw [hEE] at e1
  obtain ⟨va, vc, e0, hav, hvc, hvm, hsL⟩ := h.far.isL
  obtain ⟨vn, hvn⟩ : ∃ n, far.length = n := ⟨_, rfl⟩
  rw [hvn] at e0 hvc
  rw [e0] at cF
  unfold maxLen at hvm
  have bB := h.head.lt
  have H : Aside (WhA w B M base hd now u c far f n) := h
  have L : Aside (IsL w va vc far) := hsL
  have HE0 : Hid (hd 262 = .slice va vn vc) := e0
  have HVN : Hid (far.length = vn) := hvn
  have HEE : Hid (now ||| 16777215 = E) := hEE
  have hl2 : vn ≤ 100000 := by omega
  have vcz : (vn : Int) ≤ (vc : Int) := by omega
  clear h hsL e0 hvn hEE hl hE
  have FIN : Aside (∀ k, k ≤ vn → (∀ i (hi : i < far.length), i < k → far[i].1 ≤ (E : Int)) → (∀ h : k < far.length, (E : Int) < far[k].1) → ∀ x, x = (if vc = k then va else va.map (·.add (k * 2))) → (va = none → k = 0) → NearIs w B M base now n hd u c far f (.returned (.slice va k vc)) (w.setCell ⟨B, 262, none⟩ (.slice x (vn - k) (vc - k)))) := by
    intro k hk a1 a2 x hx hk0
    have o := H.out.far
    rw [HE0.out, ← HVN.out] at o
    have hkf : k ≤ far.length := by rw [HVN.out]; exact hk
    have key : OwnF w base (.slice x (vn - k) (vc - k)) (far.drop k) ∧ ∀ j, rowB (.slice x (vn - k) (vc - k)) = some j → rowB (hd 262) = some j := by
      rcases hav with ⟨rfl, rfl⟩ | ⟨g, off, rfl⟩
      · have hk1 := hk0 rfl
        subst hk1
        have hx2 : x = none := by rw [hx]; simp
        subst hx2
        have : far = [] := List.length_eq_zero_iff.1 (by rw [HVN.out]; omega)
        have hv0 : vn = 0 := by omega
        subst hv0
        rw [this]
        exact ⟨OwnF.nil _ _, fun j hj => by cases hj⟩
      · have hx2 : x = if vc = k then some ⟨g, off, none⟩ else some ⟨g, off + k * 2, none⟩ := by
          rw [hx]; split
          · rfl
          · rw [Option.map_some, Addr.add_lit]
        obtain ⟨o1, o2⟩ := o.rest hkf
        rw [hx2, ← HVN.out]
        refine ⟨o1, fun j hj => ?_⟩
        rw [HE0.out, ← HVN.out]
        exact o2 j hj
    have hf : Fr (fun j => j = B) w (w.setCell ⟨B, 262, none⟩ (.slice x (vn - k) (vc - k))) := Fr.setCell (fun j => j = B) _ _ _ _ rfl
    have nB : ∀ j, rowB (.slice x (vn - k) (vc - k)) = some j → j ≠ B := fun j hj => (H.out.rowLt (i := 262) (by omega) (key.2 j hj)).2.2.1
    refine ⟨k, va, vc, .slice x (vn - k) (vc - k), hkf, rfl, ?_, H.out.farSet (H.out.head.set 262 _) (key.1.of_block fun j hj => heap_setCell_other _ _ _ _ (nB j hj)) (hf.mono (fun j hj => .inl hj)) (fun j hj => .inl (key.2 j hj)), hf, key.2, ?_, ?_⟩
    · have l1 := L.out.take k
      refine ⟨l1.le, l1.big, fun i y hy => ?_⟩
      obtain ⟨b, off, q1, q2, q3, q4⟩ := l1.elem i y hy
      have hbB : b ≠ B := by
        have hr : rowB (hd 262) = some b := by
          rw [HE0.out]
          have hpos : 0 < vc := by
            have := (List.getElem?_eq_some_iff.1 hy).1
            have := l1.le
            omega
          obtain ⟨c', rfl⟩ : ∃ c', vc = c' + 1 := ⟨vc - 1, by omega⟩
          rw [q1]; rfl
        exact (H.out.rowLt (i := 262) (by omega) hr).2.2.1
      refine ⟨b, off, q1, by simpa using q2, ?_, ?_⟩
      · rw [World.cell?_of_block (w := w) (heap_setCell_other _ _ _ _ hbB)]; exact q3
      · rw [World.cell?_of_block (w := w) (heap_setCell_other _ _ _ _ hbB)]; exact q4
    · intro i hi hik; rw [HEE.out]; exact a1 i hi hik
    · intro hh; rw [HEE.out]; exact a2 hh
  go_enter Tryd.func37, Tryd.ntmps37
  go_wp2
  go_loopg [4] vn (fun kx s4 wr => ∃ k : Nat, s4 = .int .i64 k ∧ k ≤ vn ∧ vn - k ≤ kx ∧ Hid (wr = w) ∧ Aside (∀ i (hi : i < far.length), i < k → far[i].1 ≤ (E : Int)))
  case atStart => exact ⟨0, rfl, by omega, by omega, rfl, fun i hi h => absurd h (by omega)⟩
  case round =>
    obtain ⟨k, rfl, hk, hkx, HW, A⟩ := hrel
    obtain rfl : w = wr := HW.out.symm
    clear HW
    have ending : (∀ h : k < far.length, (E : Int) < far[k].1) → Aside (∀ x, x = (if vc = k then va else va.map (·.add (k * 2))) → NearIs w B M base now n hd u c far f (.returned (.slice va k vc)) (w.setCell ⟨B, 262, none⟩ (.slice x (vn - k) (vc - k)))) := fun h2 x hx => FIN.out k hk A.out h2 x hx (fun e => by
      rcases hav with ⟨_, h0⟩ | ⟨g, off, h0⟩
      · omega
      · rw [e] at h0; cases h0)
    by_cases hlt : k < vn
    · have hz : (k : Int) < (vn : Int) := by omega
      have hkf : k < far.length := by rw [HVN.out]; exact hlt
      obtain ⟨b, off, ha, hbw, y1, y2⟩ := L.out.elem k far[k] (List.getElem?_eq_getElem hkf)
      obtain ⟨X, hX⟩ : ∃ X, far[k].1 = X := ⟨_, rfl⟩
      rw [hX] at y1
      have HX : Hid (far[k].1 = X) := hX
      clear y2 hX
      by_cases hle : X ≤ (E : Int)
      · subst ha
        clear ending FIN
        go_wp2
        go_roundg (vn - (k + 1))
        case measure => omega
        case rel =>
          refine ⟨k + 1, by go_num, by omega, Nat.le_refl _, rfl, fun i hi hik => ?_⟩
          by_cases e : i = k
          · subst e; rw [HX.out]; exact hle
          · exact A.out i hi (by omega)
      · have EN := ending (fun _ => by rw [HX.out]; omega)
        subst ha
        have hkc : (k : Int) ≤ (vc : Int) := by omega
        clear FIN
        by_cases hvk : vc = k
        · omega
        · have EN2 : Aside (NearIs w B M base now n hd u c far f (.returned (.slice (some ⟨b, off, none⟩) k vc)) (w.setCell ⟨B, 262, none⟩ (.slice (some ⟨b, off + k * 2, none⟩) (vn - k) (vc - k)))) := EN.out _ (by rw [if_neg hvk, Option.map_some, Addr.add_lit])
          have hle2 : (E : Int) < X := by omega
          clear EN ending hle
          go_wp2
          go_ret
          exact EN2.out
    · obtain rfl : k = vn := by omega
      have hz : ¬ (k : Int) < (k : Int) := by omega
      have EN := ending (fun hh => by rw [HVN.out] at hh; omega)
      clear FIN ending
      rcases hav with ⟨rfl, rfl⟩ | ⟨g, off, rfl⟩
      · obtain rfl : k = 0 := by omega
        have EN2 : Aside (NearIs w B M base now n hd u c far f (.returned (.slice none 0 0)) (w.setCell ⟨B, 262, none⟩ (.slice none 0 0))) := EN.out none (by simp)
        clear EN
        go_wp2
        go_ret
        exact EN2.out
      · by_cases hvk : vc = k
        · subst hvk
          have EN2 : Aside (NearIs w B M base now n hd u c far f (.returned (.slice (some ⟨g, off, none⟩) vc vc)) (w.setCell ⟨B, 262, none⟩ (.slice (some ⟨g, off, none⟩) 0 0))) := by show NearIs _ _ _ _ _ _ _ _ _ _ _ _ _; have := EN.out (some ⟨g, off, none⟩) (by simp); simpa using this
          clear EN
          go_wp2
          go_ret
          exact EN2.out
        · have EN2 : Aside (NearIs w B M base now n hd u c far f (.returned (.slice (some ⟨g, off, none⟩) k vc)) (w.setCell ⟨B, 262, none⟩ (.slice (some ⟨g, off + k * 2, none⟩) 0 (vc - k)))) := by
            have := EN.out (some ⟨g, off + k * 2, none⟩) (by rw [if_neg hvk, Option.map_some, Addr.add_lit]); rw [Nat.sub_self] at this; exact this
          clear EN
          go_wp2
          go_ret
          exact EN2.out
end Go.Proofs.YtbopobgnmkhabaaDoor
