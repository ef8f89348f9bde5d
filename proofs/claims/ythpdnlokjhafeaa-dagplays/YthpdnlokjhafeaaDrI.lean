/- Three appends onto what is new: ahead of a place, one, and what is behind it; in whatever order memory is laid. -/
import Derived.Test.YthpdnlokjhafeaaDrM
import Derived.Test.YthpdnlokjhafeaaDgJ
namespace Go.Proofs.Ythpdnlokjhafeaa
open Go.RowKit Go.Lib
set_option linter.unusedVariables false
/-- What a type of so many cells has. -/
structure TyI (TS T : TypeId) (sz by_ : Nat) where
  i : TypeInfo
  z : Value
  hu : Try.prog.underlying TS = some (.slice T)
  hi : Try.prog.info? T = some i
  hz : i.zero = some z
  hs : i.size = sz
  hb : i.bytes = by_
  hc : z.cells.size = sz
  h0 : 0 < sz
  hby : by_ ≤ 32
theorem tyI : ∃ t : TyI 24 3 1 8, True := by
  obtain ⟨i, h1, h2, h3, h4⟩ := infoI
  exact ⟨⟨i, _, Try.underlying24, h1, h2, h3, h4, rfl, by omega, by omega⟩, trivial⟩
theorem tyR : ∃ t : TyI 35 55 2 32, True := by
  obtain ⟨i, h1, h2, h3, h4⟩ := infoR
  exact ⟨⟨i, _, Try.underlying35, h1, h2, h3, h4, rfl, by omega, by omega⟩, trivial⟩
/-- A slice of n elements reads these cells. -/
def Rd (sz : Nat) (w : World) (a : Option Addr) (n : Nat) (xs : List Value) : Prop := xs.length = n * sz ∧ (∀ u ∈ xs, u.oneCell' = true) ∧ ∀ (j : Nat) (u : Value), xs[j]? = some u → ∃ b off, a = some ⟨b, off, none⟩ ∧ b < w.heap.size ∧ w.cell? ⟨b, off + j, none⟩ = some u
theorem Rd.below {sz n : Nat} {w w' : World} {a : Option Addr} {xs : List Value} (h : Rd sz w a n xs) (hb : Below w.heap.size w w') : Rd sz w' a n xs :=
  ⟨h.1, h.2.1, fun j u hj => by
    obtain ⟨b, off, e, hl, hc⟩ := h.2.2 j u hj
    refine ⟨b, off, e, by have := hb.size; omega, ?_⟩
    rw [← hc]
    exact World.cell?_of_block (hb.block b hl)⟩
theorem IsI.rd {w : World} {a : Option Addr} {cap : Nat} {d : List Int} (h : IsI w a cap d) : Rd 1 w a d.length (cz d) :=
  ⟨by simp, cz_one d, fun j u hj => by
    rw [List.getElem?_map] at hj
    obtain ⟨x, hx, rfl⟩ := Option.map_eq_some_iff.1 hj
    obtain ⟨b, off, e, hb, hc⟩ := h.elem j x hx
    exact ⟨b, off, e, hb, hc⟩⟩
theorem IsR.rd {w : World} {Y : Nat → Prop} {a : Option Addr} {cap : Nat} {R : List Rw} (h : IsR w Y a cap R) (h1 : ∀ r ∈ R, r.v.oneCell' = true) : Rd 2 w a R.length (fl R) := by
  refine ⟨fl_len R, fl_one h1, fun j u hj => ?_⟩
  by_cases e : R = []
  · subst e; simp [fl] at hj
  · obtain ⟨r, R', rfl⟩ := List.exists_cons_of_ne_nil e
    obtain ⟨b, off, ea, hb, _, _, _⟩ := h.elem 0 r rfl
    refine ⟨b, off, ea, hb, ?_⟩
    refine fl_get (r :: R') (fun j => w.cell? ⟨b, off + j, none⟩) (fun i x hx => ?_) j u hj
    obtain ⟨b', off', e', _, _, q1, q2⟩ := h.elem i x hx
    rw [ea] at e'
    injection e' with e'
    injection e' with e1 e2
    subst e1 e2
    exact ⟨q1, by rw [← Nat.add_assoc]; exact q2⟩
section
variable {TS T : TypeId} {sz by_ : Nat} {w z : World} {base m n cap : Nat} {v : Value} {vs news : List Value} {a : Option Addr}
theorem appG (t : TyI TS T sz by_) (h : w.ownsRow base T sz v m vs) (hc : Rd sz w a n news) (hb : m + n ≤ 100000) (hbase : base ≤ w.heap.size) (ty : TypeId) :
    ∃ v' w', (Builtin.append_ #[TS, TS] ty #[v, .slice a n cap]).run Try.prog w = .ok v' w' ∧ w'.ownsRow base T sz v' (m + n) (vs ++ news) ∧ w.grownBy w' v.ownBlock := by
  obtain ⟨i, zz, hu, hi, hz, hs, hbt, hcz, h0, hby⟩ := t
  by_cases e : a = none
  · subst e
    obtain rfl : news = [] := by
      cases news with
      | nil => rfl
      | cons x c => obtain ⟨b, off, h1, _⟩ := hc.2.2 0 x rfl; cases h1
    obtain rfl : n = 0 := by
      have hh := hc.1
      rw [List.length_nil] at hh
      exact Nat.eq_zero_of_not_pos (fun hp => by have := Nat.mul_pos hp h0; omega)
    refine ⟨v, w, ?_, by rw [List.append_nil]; exact h, ⟨rfl, rfl, rfl, Nat.le_refl _, fun _ _ _ => rfl⟩⟩
    rcases h.2 with ⟨rfl, h0⟩ | ⟨g, cap', cur, rfl, _, _, hnc, _⟩
    · simp [Builtin.append_, run_underlying hu, sizeOf, typeInfo, hi, Builtin.lenOf, Builtin.firstCells]
    · simp [Builtin.append_, run_underlying hu, sizeOf, typeInfo, hi, Builtin.lenOf, Builtin.firstCells, hnc, storeCells]
  · obtain ⟨ad, rfl⟩ := Option.ne_none_iff_exists'.1 e
    obtain ⟨v', w', k1, k2, k3, k4⟩ := run_append_own (P := Try.prog) w base TS ty T i zz sz by_ hu hi hz hs hbt hcz h0 v m vs h ad n cap news hc.1
      (fun j u hj => by
        obtain ⟨b, off, e', _, q⟩ := hc.2.2 j u hj
        injection e' with e'
        subst e'
        rw [Addr.add_lit]
        exact q) hc.2.1 (by unfold maxLen; omega) (by
        have : (m + n) * by_ ≤ 100000 * 32 := Nat.mul_le_mul hb hby
        omega) hbase
    exact ⟨v', w', k1, k2, k3⟩
theorem made0 (w : World) (hb : base ≤ w.heap.size) : (w.alloc (.cells #[] T)).ownsRow base T sz (.slice (some ⟨w.heap.size, 0, none⟩) 0 0) 0 [] := World.ownsRow_made w #[] 0 hb (Nat.zero_le _) (by simp)
theorem rd_one (w : World) (Q : List Value) (hQ : Q.length = sz) (h1 : ∀ u ∈ Q, u.oneCell' = true) : Rd sz (w.alloc (.cells Q.toArray T)) (some ⟨w.heap.size, 0, none⟩) 1 Q :=
  ⟨by omega, h1, fun j u hj => ⟨_, _, rfl, by simp, by
    rw [Nat.zero_add, cell_of_row _ _ _ _ _ _ (heap_alloc_new w (.cells Q.toArray T))]
    simpa using hj⟩⟩
theorem own_bel {w1 w2 : World} {xs : List Value} (h : w1.ownsRow base T sz v m xs) (hb : Below w1.heap.size w1 w2) : w2.ownsRow base T sz v m xs := by
  obtain ⟨h1, h2⟩ := h
  refine ⟨h1, ?_⟩
  rcases h2 with h2 | ⟨g, cap, cur, r1, r2, r3, r4⟩
  · exact .inl h2
  · exact .inr ⟨g, cap, cur, r1, r2, (hb.block g (lt_of_block r3)).trans r3, r4⟩
variable {P Q R : List Value} {aP aR : Option Addr} {np nr cP cR : Nat}
/-- The last two appends, whatever was laid ahead. -/
theorem ins_end (t : TyI TS T sz by_) (z y : World) {v1 : Value} {aQ : Option Addr} (ty : TypeId) (bz : Below z.heap.size z y) (o : y.ownsRow z.heap.size T sz v1 np P) (hQ : Rd sz y aQ 1 Q) (hR : Rd sz z aR nr R) (hb : np + 1 + nr ≤ 100000) :
    ∃ v2 z2 v3 z3, (Builtin.append_ #[TS, TS] ty #[v1, .slice aQ 1 1]).run Try.prog y = .ok v2 z2 ∧ Below z.heap.size z z2 ∧ (Builtin.append_ #[TS, TS] ty #[v2, .slice aR nr cR]).run Try.prog z2 = .ok v3 z3 ∧ z3.ownsRow z.heap.size T sz v3 (np + 1 + nr) (P ++ Q ++ R) ∧ Below z.heap.size z z3 := by
  obtain ⟨v2, z2, r2, o2, g2⟩ := appG (cap := 1) t o hQ (by omega) bz.size ty
  have b2 : Below z.heap.size z z2 := bz.grown g2 bz.size (fun k hk => (World.ownsRow.lt o k hk).1)
  obtain ⟨v3, z3, r3, o3, g3⟩ := appG (cap := cR) t o2 (hR.below b2) hb b2.size ty
  exact ⟨v2, z2, v3, z3, r2, b2, r3, o3, b2.grown g3 b2.size (fun k hk => (World.ownsRow.lt o2 k hk).1)⟩
theorem ins3A (t : TyI TS T sz by_) (z : World) (ty : TypeId) (hP : Rd sz z aP np P) (hR : Rd sz z aR nr R) (hQ : Q.length = sz) (h1 : ∀ u ∈ Q, u.oneCell' = true) (hb : np + 1 + nr ≤ 100000) :
    ∃ v1 z1 v2 z2 v3 z3, (Builtin.append_ #[TS, TS] ty #[.slice (some ⟨z.heap.size, 0, none⟩) 0 0, .slice aP np cP]).run Try.prog (z.alloc (.cells #[] T)) = .ok v1 z1 ∧ Below z.heap.size z z1 ∧
      (Builtin.append_ #[TS, TS] ty #[v1, .slice (some ⟨z1.heap.size, 0, none⟩) 1 1]).run Try.prog (z1.alloc (.cells Q.toArray T)) = .ok v2 z2 ∧ Below z.heap.size z z2 ∧ (Builtin.append_ #[TS, TS] ty #[v2, .slice aR nr cR]).run Try.prog z2 = .ok v3 z3 ∧ z3.ownsRow z.heap.size T sz v3 (np + 1 + nr) (P ++ Q ++ R) ∧ Below z.heap.size z z3 := by
  have b0 : Below z.heap.size z (z.alloc (.cells #[] T)) := (Below.refl _ _).alloc (Nat.le_refl _) _
  obtain ⟨v1, z1, r1, o1, g1⟩ := appG (cap := cP) t (made0 (T := T) (sz := sz) z (Nat.le_refl _)) (hP.below b0) (by omega) b0.size ty
  rw [Nat.zero_add, List.nil_append] at o1
  have b1 : Below z.heap.size z z1 := b0.grown g1 b0.size (fun k hk => by injection hk with hk; exact Nat.le_of_eq hk)
  have b1' : Below z1.heap.size z1 (z1.alloc (.cells Q.toArray T)) := (Below.refl _ _).alloc (Nat.le_refl _) _
  obtain ⟨v2, z2, v3, z3, r2, b2, r3, o3, b3⟩ := ins_end (cR := cR) t z (z1.alloc (.cells Q.toArray T)) ty (b1.alloc b1.size _) (own_bel o1 b1') (rd_one z1 Q hQ h1) hR hb
  exact ⟨v1, z1, v2, z2, v3, z3, r1, b1, r2, b2, r3, o3, b3⟩
theorem ins3B (t : TyI TS T sz by_) (z : World) (ty : TypeId) (hP : Rd sz z aP np P) (hR : Rd sz z aR nr R) (hQ : Q.length = sz) (h1 : ∀ u ∈ Q, u.oneCell' = true) (hb : np + 1 + nr ≤ 100000) :
    ∃ v1 z1 v2 z2 v3 z3, (Builtin.append_ #[TS, TS] ty #[.slice (some ⟨z.heap.size, 0, none⟩) 0 0, .slice aP np cP]).run Try.prog ((z.alloc (.cells #[] T)).alloc (.cells Q.toArray T)) = .ok v1 z1 ∧ Below z.heap.size z z1 ∧
      (Builtin.append_ #[TS, TS] ty #[v1, .slice (some ⟨z.heap.size + 1, 0, none⟩) 1 1]).run Try.prog z1 = .ok v2 z2 ∧ Below z.heap.size z z2 ∧ (Builtin.append_ #[TS, TS] ty #[v2, .slice aR nr cR]).run Try.prog z2 = .ok v3 z3 ∧ z3.ownsRow z.heap.size T sz v3 (np + 1 + nr) (P ++ Q ++ R) ∧ Below z.heap.size z z3 := by
  have b0 : Below z.heap.size z (z.alloc (.cells #[] T)) := (Below.refl _ _).alloc (Nat.le_refl _) _
  have b0' : Below (z.alloc (.cells #[] T)).heap.size (z.alloc (.cells #[] T)) ((z.alloc (.cells #[] T)).alloc (.cells Q.toArray T)) := (Below.refl _ _).alloc (Nat.le_refl _) _
  have b01 := b0.trans (b0'.mono b0.size)
  have q0 := rd_one (T := T) (z.alloc (.cells #[] T)) Q hQ h1
  rw [show (z.alloc (.cells #[] T)).heap.size = z.heap.size + 1 by simp] at q0
  obtain ⟨v1, z1, r1, o1, g1⟩ := appG (cap := cP) t (own_bel (made0 (T := T) (sz := sz) z (Nat.le_refl _)) b0') (hP.below b01) (by omega) b01.size ty
  rw [Nat.zero_add, List.nil_append] at o1
  have b1 : Below z.heap.size z z1 := b01.grown g1 b01.size (fun k hk => by injection hk with hk; exact Nat.le_of_eq hk)
  have q1 : Rd sz z1 (some ⟨z.heap.size + 1, 0, none⟩) 1 Q := ⟨q0.1, q0.2.1, fun j u hj => by
    obtain ⟨b, off, e, hl, hc⟩ := q0.2.2 j u hj
    refine ⟨b, off, e, by have := g1.size; omega, ?_⟩
    rw [← hc]
    refine World.cell?_of_block (g1.block b hl (fun hh => ?_))
    injection e with e
    injection e with e1 e2
    injection hh with hh
    rw [← e1] at hh
    simp at hh⟩
  obtain ⟨v2, z2, v3, z3, r2, b2, r3, o3, b3⟩ := ins_end (cR := cR) t z z1 ty b1 o1 q1 hR hb
  exact ⟨v1, z1, v2, z2, v3, z3, r1, b1, r2, b2, r3, o3, b3⟩
theorem ins3C (t : TyI TS T sz by_) (z : World) (ty : TypeId) (hP : Rd sz z aP np P) (hR : Rd sz z aR nr R) (hQ : Q.length = sz) (h1 : ∀ u ∈ Q, u.oneCell' = true) (hb : np + 1 + nr ≤ 100000) :
    ∃ v1 z1 v2 z2 v3 z3, (Builtin.append_ #[TS, TS] ty #[.slice (some ⟨z.heap.size + 1, 0, none⟩) 0 0, .slice aP np cP]).run Try.prog ((z.alloc (.cells Q.toArray T)).alloc (.cells #[] T)) = .ok v1 z1 ∧ Below z.heap.size z z1 ∧
      (Builtin.append_ #[TS, TS] ty #[v1, .slice (some ⟨z.heap.size, 0, none⟩) 1 1]).run Try.prog z1 = .ok v2 z2 ∧ Below z.heap.size z z2 ∧ (Builtin.append_ #[TS, TS] ty #[v2, .slice aR nr cR]).run Try.prog z2 = .ok v3 z3 ∧ z3.ownsRow z.heap.size T sz v3 (np + 1 + nr) (P ++ Q ++ R) ∧ Below z.heap.size z z3 := by
  have b0 : Below z.heap.size z (z.alloc (.cells Q.toArray T)) := (Below.refl _ _).alloc (Nat.le_refl _) _
  have b0' : Below (z.alloc (.cells Q.toArray T)).heap.size (z.alloc (.cells Q.toArray T)) ((z.alloc (.cells Q.toArray T)).alloc (.cells #[] T)) := (Below.refl _ _).alloc (Nat.le_refl _) _
  have b01 := b0.trans (b0'.mono b0.size)
  have q0 := (rd_one (T := T) z Q hQ h1).below b0'
  have m0 := made0 (T := T) (sz := sz) (base := z.heap.size) (z.alloc (.cells Q.toArray T)) b0.size
  rw [show (z.alloc (.cells Q.toArray T)).heap.size = z.heap.size + 1 by simp] at m0
  obtain ⟨v1, z1, r1, o1, g1⟩ := appG (cap := cP) t m0 (hP.below b01) (by omega) b01.size ty
  rw [Nat.zero_add, List.nil_append] at o1
  have b1 : Below z.heap.size z z1 := b01.grown g1 b01.size (fun k hk => by injection hk with hk; simp at hk; omega)
  have q1 : Rd sz z1 (some ⟨z.heap.size, 0, none⟩) 1 Q := ⟨q0.1, q0.2.1, fun j u hj => by
    obtain ⟨b, off, e, hl, hc⟩ := q0.2.2 j u hj
    refine ⟨b, off, e, by have := g1.size; omega, ?_⟩
    rw [← hc]
    refine World.cell?_of_block (g1.block b hl (fun hh => ?_))
    injection e with e
    injection e with e1 e2
    injection hh with hh
    rw [← e1] at hh
    simp at hh⟩
  obtain ⟨v2, z2, v3, z3, r2, b2, r3, o3, b3⟩ := ins_end (cR := cR) t z z1 ty b1 o1 q1 hR hb
  exact ⟨v1, z1, v2, z2, v3, z3, r1, b1, r2, b2, r3, o3, b3⟩
end
end Go.Proofs.Ythpdnlokjhafeaa
