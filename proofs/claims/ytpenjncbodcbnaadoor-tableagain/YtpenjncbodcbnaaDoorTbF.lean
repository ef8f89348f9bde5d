/- table.Again of a task that comes again: contract. -/
import Derived.Test.YtpenjncbodcbnaaDoorTbE
namespace Go.Proofs.YtpenjncbodcbnaaDoor
open Go.RowKit Go.Lib Go.WideMaps Go.Maps
set_option linter.unusedVariables false
variable {w w' u : World} {B a b r M n g cap i O : Nat} {v v' : Value} {T T' : List TR} {x y : TR} {ws ws' : Nat → Int} {fc fc' : Int × Int → Option Value}
/-- A task's job is written anew. -/
theorem Tab.setJ (h : Tab w B a b r M n (.slice (some ⟨g, 0, none⟩) T.length cap) T ws fc) (hi : T[i]? = some x) (hO : i * 9 = O) (d r' m : Int) :
    Tab (((((w.setCell ⟨g, O + 4, none⟩ (.int .u64 x.f)).setCell ⟨g, O + 5, none⟩ (.int .u64 x.p)).setCell ⟨g, O + 6, none⟩ (.int .u64 d)).setCell ⟨g, O + 7, none⟩ (.int .u64 r')).setCell ⟨g, O + 8, none⟩ (.int .u64 m)) B a b r M n (.slice (some ⟨g, 0, none⟩) T.length cap) (T.set i { x with d := d, r := r', m := m }) ws fc ∧
    Fr (tf B a b r M (.slice (some ⟨g, 0, none⟩) T.length cap)) w (((((w.setCell ⟨g, O + 4, none⟩ (.int .u64 x.f)).setCell ⟨g, O + 5, none⟩ (.int .u64 x.p)).setCell ⟨g, O + 6, none⟩ (.int .u64 d)).setCell ⟨g, O + 7, none⟩ (.int .u64 r')).setCell ⟨g, O + 8, none⟩ (.int .u64 m)) := by
  have hl : i < T.length := (List.getElem?_eq_some_iff.1 hi).1
  have at_ : ∀ z : TR, (T.set i z)[i]? = some z := fun z => by rw [List.getElem?_set_self hl]
  obtain ⟨h1, f1⟩ := h.setC (y := x) hi (j := 4) (z := .int .u64 x.f) rfl (by omega) (O := O + 4) (by rw [hO])
  obtain ⟨h2, f2⟩ := h1.setC (y := x) (at_ x) (j := 5) (z := .int .u64 x.p) rfl (by omega) (O := O + 5) (by rw [hO])
  rw [List.set_set] at h2
  obtain ⟨h3, f3⟩ := h2.setC (y := { x with d := d }) (at_ x) (j := 6) (z := .int .u64 d) rfl (by omega) (O := O + 6) (by rw [hO])
  rw [List.set_set] at h3
  obtain ⟨h4, f4⟩ := h3.setC (y := { x with d := d, r := r' }) (at_ _) (j := 7) (z := .int .u64 r') rfl (by omega) (O := O + 7) (by rw [hO])
  rw [List.set_set] at h4
  obtain ⟨h5, f5⟩ := h4.setC (y := { x with d := d, r := r', m := m }) (at_ _) (j := 8) (z := .int .u64 m) rfl (by omega) (O := O + 8) (by rw [hO])
  rw [List.set_set] at h5
  refine ⟨by simpa using h5, ?_⟩
  simp only [List.length_set] at f2 f3 f4 f5
  exact (((f1.trans f2 (fun j hj => .inl hj)).trans f3 (fun j hj => .inl hj)).trans f4 (fun j hj => .inl hj)).trans f5 (fun j hj => .inl hj)
/-- A task that has run. -/
def agnT (x : TR) (now : Int) : TR := { x with d := Tk.dueJ x.f x.p x.d now, r := IntKind.u64.wrap (x.r + 1), m := IntKind.u64.wrap (x.m + missT x.f x.p x.d now) }
set_option maxHeartbeats 4000000 in
set_option maxRecDepth 100000 in
theorem again_ok (h : Tab w B a b r M n (.slice (some ⟨g, 0, none⟩) T.length cap) T ws fc) (I : TInv T ws fc n) (hn : n ≤ 1000) (hi : T[i]? = some x) (now : Int) (hf : IsT x.f) (hp : IsT x.p) (hd : IsT x.d) (hw : IsT now) (hok : Tk.okJ x.f x.p x.d = true) (hgo : gridOk x.f x.p (max now x.d) = true) :
    Calls Tryd.prog 12 #[.pointer (some ⟨B, 0, none⟩), .int .i64 ((i : Int) + 1), .int .u64 now] w fun e w' => e = .returned (.tuple #[.int .u64 (Tk.dueJ x.f x.p x.d now), .bool true]) ∧ Tab w' B a b r M n (.slice (some ⟨g, 0, none⟩) T.length cap) (T.set i (agnT x now)) ws fc ∧ Fr (tf B a b r M (.slice (some ⟨g, 0, none⟩) T.length cap)) w w' := by
  have hlen : i < T.length := (List.getElem?_eq_some_iff.1 hi).1
  obtain ⟨O, hO⟩ : ∃ O, i * 9 = O := ⟨_, rfl⟩
  have hfi := find_in h hlen (by have := I.le; omega)
  rw [hO] at hfi
  have hp0 : x.p > 0 := by simp [Tk.okJ] at hok; exact hok.1
  obtain ⟨D, hD⟩ : ∃ D, Tk.dueJ x.f x.p x.d now = D := ⟨_, rfl⟩
  obtain ⟨R, hR⟩ : ∃ R, IntKind.u64.wrap (x.r + 1) = R := ⟨_, rfl⟩
  obtain ⟨Q, hQ⟩ : ∃ Q, IntKind.u64.wrap (x.m + missT x.f x.p x.d now) = Q := ⟨_, rfl⟩
  have hE : Aside (agnT x now = { x with d := D, r := R, m := Q }) := by show agnT x now = _; simp only [agnT, hD, hR, hQ]
  have hag := again_any x.f x.p x.d x.r x.m w
  rw [show decide (x.p > 0) = true by simpa using hp0] at hag
  have HAF : Aside (∀ u, _) := fun u => Tk.after_yes x.f x.p x.d x.r x.m now u hf hp hd hw hok
  rw [hD, hR, hQ, hgo] at HAF
  obtain ⟨k0, k1, k2, k4, k5, k6, k7, k8, fz⟩ := h.tc hi hO
  have HT : Aside (Tab w B a b r M n (.slice (some ⟨g, 0, none⟩) T.length cap) T ws fc ∧ T[i]? = some x ∧ i * 9 = O) := ⟨h, hi, hO⟩
  rw [hD]
  clear h I hi hO hlen k0 k1 k2 fz hD hR hQ hok hgo
  go_enter Tryd.func12, Tryd.ntmps12
  go_wp2_with fail
  refine hfi.mono ?_
  rintro e w1 ⟨rfl, rfl⟩
  clear hfi
  go_wp2_with fail
  refine hag.mono ?_
  rintro e w2 ⟨rfl, b2⟩
  clear hag k4 k5 k6 k7 k8
  have X2 : Aside (Tab w2 B a b r M n (.slice (some ⟨g, 0, none⟩) T.length cap) T ws fc ∧ Fr (tf B a b r M (.slice (some ⟨g, 0, none⟩) T.length cap)) w1 w2) := ⟨HT.out.1.below b2, (Fr.refl _ w1).tb b2⟩
  obtain ⟨k0, k1, k2, k4, k5, k6, k7, k8, fz⟩ := X2.out.1.tc HT.out.2.1 HT.out.2.2
  clear k0 k1 k2 fz b2
  go_wp2_with fail
  refine Calls.mono (HAF.out _) ?_
  rintro e w3 ⟨rfl, b3⟩
  clear k4 k5 k6 k7 k8
  obtain ⟨u, hu⟩ : ∃ z, w3.alloc (.cells #[.int .u64 x.f, .int .u64 x.p, .int .u64 D, .int .u64 R, .int .u64 Q] 31) = z := ⟨_, rfl⟩
  have b4 : Below w3.heap.size w3 u := by rw [← hu]; exact bel1 _ _
  have JB : Tk.JBox u w3.heap.size x.f x.p D R Q := by rw [← hu]; exact Tk.JBox.new _ _ _ _ _ _
  have X4 : Aside (Tab u B a b r M n (.slice (some ⟨g, 0, none⟩) T.length cap) T ws fc ∧ Fr (tf B a b r M (.slice (some ⟨g, 0, none⟩) T.length cap)) w1 u) := ⟨(X2.out.1.below b3).below b4, (X2.out.2.tb b3).tb b4⟩
  obtain ⟨k0, k1, k2, k4, k5, k6, k7, k8, fz⟩ := X4.out.1.tc HT.out.2.1 HT.out.2.2
  have f4 := fz (O + 4)
  have f5 := fz (O + 5)
  have f6 := fz (O + 6)
  have f7 := fz (O + 7)
  have f8 := fz (O + 8)
  have FIN : Aside _ := X4.out.1.setJ HT.out.2.1 HT.out.2.2 D R Q
  have hgs : Aside (g ≠ w3.heap.size) := by
    show g ≠ w3.heap.size
    have := X2.out.1.hg (g := g) rfl
    obtain ⟨cg, hg⟩ := this
    have := lt_of_block hg
    have := b3.size
    omega
  obtain ⟨J, hJ⟩ : ∃ J, w3.heap.size = J := ⟨_, rfl⟩
  rw [hJ] at JB hgs
  have J2 : Aside ((((((u.setCell ⟨g, O + 4, none⟩ (.int .u64 x.f)).setCell ⟨g, O + 5, none⟩ (.int .u64 x.p)).setCell ⟨g, O + 6, none⟩ (.int .u64 D)).setCell ⟨g, O + 7, none⟩ (.int .u64 R)).setCell ⟨g, O + 8, none⟩ (.int .u64 Q)).cell? ⟨J, 2, none⟩ = some (.int .u64 D)) := by
    have ne : ∀ o, (⟨J, 2, none⟩ : Addr).block ≠ (⟨g, o, none⟩ : Addr).block := fun o e => hgs.out e.symm
    show World.cell? _ _ = _
    have jb := ((((JB.other (C := g) (o := O + 4) (fun e => hgs.out e.symm) (.int .u64 x.f)).other (C := g) (o := O + 5) (fun e => hgs.out e.symm) (.int .u64 x.p)).other (C := g) (o := O + 6) (fun e => hgs.out e.symm) (.int .u64 D)).other (C := g) (o := O + 7) (fun e => hgs.out e.symm) (.int .u64 R)).other (C := g) (o := O + 8) (fun e => hgs.out e.symm) (.int .u64 Q)
    exact jb.cell.2.2.1
  obtain ⟨j0, j1, j2, j3, j4⟩ := JB.cell
  have HU : Aside _ := hu
  clear hu b3 b4 k0 k1 k2 JB fz
  go_upto_region 5 with fail
  rw [HU.out]
  obtain ⟨wz, hwz⟩ : ∃ z, ((((u.setCell ⟨g, O + 4, none⟩ (.int .u64 x.f)).setCell ⟨g, O + 5, none⟩ (.int .u64 x.p)).setCell ⟨g, O + 6, none⟩ (.int .u64 D)).setCell ⟨g, O + 7, none⟩ (.int .u64 R)).setCell ⟨g, O + 8, none⟩ (.int .u64 Q) = z := ⟨_, rfl⟩
  rw [hwz] at J2 FIN
  have HWZ : Aside _ := hwz
  clear hwz
  go_upto_region 8 with fail
  rw [HWZ.out]
  have j := J2.out
  go_wp2_with fail
  go_ret2
  exact ⟨rfl, by rw [hE.out]; exact FIN.out.1, X4.out.2.trans FIN.out.2 (fun j hj => .inl hj)⟩
theorem again_no (h : Tab w B a b r M n v T ws fc) (id now : Int) (hi : id < 1 ∨ (T.length : Int) < id) : Calls Tryd.prog 12 #[.pointer (some ⟨B, 0, none⟩), .int .i64 id, .int .u64 now] w fun e w' => e = .returned (.tuple #[.int .u64 0, .bool false]) ∧ w' = w := by
  have hf := find_no h id hi
  clear h hi
  go_enter Tryd.func12, Tryd.ntmps12
  go_wp2_with fail
  refine hf.mono ?_
  rintro e w1 ⟨rfl, rfl⟩
  go_wp2_with fail
  go_ret2
  exact ⟨rfl, rfl⟩
end Go.Proofs.YtpenjncbodcbnaaDoor
