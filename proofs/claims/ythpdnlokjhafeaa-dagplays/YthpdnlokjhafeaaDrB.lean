/- The program's dag and the document's, side by side. -/
import Derived.Test.YthpdnlokjhafeaaDrDw
import Derived.Test.YthpdnlokjhafeaaDrA
import Derived.Test.YthpdnlokjhafeaaDgW
namespace Go.Proofs.Ythpdnlokjhafeaa
open Go.RowKit Go.Lib
set_option linter.unusedVariables false

/-- Nobody waits for more than 50. -/
def Sm (E : Rel) : Prop := ∀ j, ∃ L : List Int, L.length ≤ 50 ∧ ∀ q, E q j → q ∈ L
theorem Sm.none : Sm (fun _ _ => False) := fun j => ⟨[], by simp, fun q h => h.elim⟩
theorem Sm.sub {E E' : Rel} (h : Sm E) (hs : ∀ q j, E' q j → E q j) : Sm E' := fun j => by
  obtain ⟨L, h1, h2⟩ := h j
  exact ⟨L, h1, fun q hq => h2 q (hs q j hq)⟩
theorem Sm.add {E : Rel} {id : Int} {d : List Int} (h : Sm E) (hd : d.length ≤ 50) (hE : ∀ q, ¬ E q id) : Sm (fun q j => E q j ∨ (j = id ∧ q ∈ d)) := fun j => by
  by_cases e : j = id
  · exact ⟨d, hd, fun q hq => hq.elim (fun hh => absurd (by rw [← e]; exact hh) (hE q)) (fun hh => hh.2)⟩
  · obtain ⟨L, h1, h2⟩ := h j
    exact ⟨L, h1, fun q hq => hq.elim (h2 q) (fun hh => absurd hh.1 e)⟩
theorem RI.small {E : Rel} {R : List Rw} (I : RI E R) (h : Sm E) : ∀ r ∈ R, r.ps.length ≤ 10000 := fun r hr => by
  obtain ⟨L, h1, h2⟩ := h r.id
  have := nodup_le r.ps L (I.ps r hr).1.nodup (fun q hq => h2 q ((I.waits hr q).2 hq))
  omega
/-- Both in a law's world. Z: their blocks at u, whence a round begins. -/
structure Duo (w0 u w : World) (Z X : Nat → Prop) (B : Nat) (E : Rel) (N : Nat) (Y : Nat → Prop) (F : Nat) (E2 : Rel) (R : List Rw) : Prop where
  bel : Below w0.heap.size w0 w
  d : Dg w X B E N
  r : RD w Y F R
  ri : RI E2 R
  xl : ∀ k, X k → w0.heap.size ≤ k
  yx : ∀ k, Y k → ¬ X k
  yl : ∀ k, Y k → k < w.heap.size
  fl : w0.heap.size ≤ F
  fx : ¬ X F
  fr : Fr Z u w
  xz : ∀ k, X k → Z k ∨ u.heap.size ≤ k
  fz : Z F
  sm : Sm E
  sm2 : Sm E2
variable {w0 u w w' : World} {Z X X' Y Y' : Nat → Prop} {B F N N' n : Nat} {E E' E2 : Rel} {R R' : List Rw} {id i : Int}
theorem Duo.goA (h : Duo w0 u w Z X B E N Y F E2 R) (D : Dg w' X' B E' N') (s : St X w X' w') (sm : Sm E') : Duo w0 u w' Z X' B E' N' Y F E2 R := by
  refine ⟨h.bel.trans (s.fr.toBelow h.xl h.bel.size), D, h.r.fr s.fr h.yx h.fx, h.ri, fun k hk => ?_, fun k hk hx => ?_, fun k hk => ?_, h.fl, s.out h.r.lt h.fx, h.fr.trans s.fr (fun j hj => h.xz j hj), fun k hk => ?_, h.fz, sm, h.sm2⟩
  · exact (s.new k hk).elim (h.xl k) (fun e => Nat.le_trans h.bel.size e)
  · exact s.out (h.yl k hk) (h.yx k hk) hx
  · have := h.yl k hk; have := s.size; omega
  · exact (s.new k hk).elim (h.xz k) (fun e => .inr (Nat.le_trans h.fr.size e))
theorem Duo.goR (h : Duo w0 u w Z X B E N Y F E2 R) (r : RD w' Y' F R') (ri : RI E' R') (f : Fr (fun k => k = F) w w') (hy : ∀ k, Y' k → Y k ∨ (w.heap.size ≤ k ∧ k < w'.heap.size)) (sm : Sm E') : Duo w0 u w' Z X B E N Y' F E' R' := by
  refine ⟨h.bel.trans (f.toBelow (fun k hk => by rw [hk]; exact h.fl) h.bel.size), h.d.fr f (fun k hk e => h.fx (by rw [← e]; exact hk)), r, ri, h.xl, fun k hk hx => ?_, fun k hk => ?_, h.fl, h.fx, h.fr.trans f (fun j hj => .inl (by rw [hj]; exact h.fz)), h.xz, h.fz, h.sm, sm⟩
  · rcases hy k hk with e | e
    · exact h.yx k e hx
    · have := h.d.lt hx; omega
  · rcases hy k hk with e | e
    · have := h.yl k e; have := f.size; omega
    · exact e.2
theorem Duo.below (h : Duo w0 u w Z X B E N Y F E2 R) (hb : Below w.heap.size w w') : Duo w0 u w' Z X B E N Y F E2 R := h.goA (h.d.below hb) (St.below X hb) h.sm
theorem Duo.fresh (h : Duo w0 u w Z X B E N Y F E2 R) : Duo w0 w w (fun k => X k ∨ k = F) X B E N Y F E2 R :=
  ⟨h.bel, h.d, h.r, h.ri, h.xl, h.yx, h.yl, h.fl, h.fx, Fr.refl _ _, fun k hk => .inl (.inl hk), .inr rfl, h.sm, h.sm2⟩
theorem Duo.cell (h : Duo w0 u w Z X B E N Y F E2 R) {p : Addr} (hp : p.block < u.heap.size) (hz : ¬ Z p.block) : w.cell? p = u.cell? p := World.cell?_of_block (h.fr.block p.block hp hz)
/-- The program's one has made its step, the document's not yet. -/
def Half (w0 u w : World) (Z : Nat → Prop) (B : Nat) (E : Rel) (N F : Nat) (E2 : Rel) (n : Nat) : Prop := ∃ X Y R, R.length ≤ n ∧ Duo w0 u w Z X B E N Y F E2 R
/-- Both stand alike. -/
def Like (w0 u w : World) (Z : Nat → Prop) (B : Nat) (E : Rel) (N F n : Nat) : Prop := Half w0 u w Z B E N F E n
/-- The same, with a row of the call's own that was told. -/
def HalfV (w0 u w : World) (Z : Nat → Prop) (B : Nat) (E : Rel) (N F : Nat) (E2 : Rel) (n : Nat) (P : Int → Prop) (a : Option Addr) (m c : Nat) : Prop :=
  ∃ X Y R dl, R.length ≤ n ∧ Duo w0 u w Z X B E N Y F E2 R ∧ dl.length = m ∧ OwnI w 0 (.slice a m c) dl ∧ (∀ k, Value.ownBlock (.slice a m c) = some k → k ≠ F) ∧ Up dl ∧ ∀ j, j ∈ dl ↔ P j
/-- Two slices that hold the same. -/
def Two (w : World) (a : Option Addr) (c : Nat) (a2 : Option Addr) (c2 m : Nat) : Prop := ∃ dl : List Int, dl.length = m ∧ IsI w a c dl ∧ IsI w a2 c2 dl
theorem Half.below (h : Half w0 u w Z B E N F E2 n) (hb : Below w.heap.size w w') : Half w0 u w' Z B E N F E2 n := by
  obtain ⟨X, Y, R, h1, h2⟩ := h
  exact ⟨X, Y, R, h1, h2.below hb⟩
theorem Like.below (h : Like w0 u w Z B E N F n) (hb : Below w.heap.size w w') : Like w0 u w' Z B E N F n := Half.below h hb
theorem Half.cell (h : Half w0 u w Z B E N F E2 n) {p : Addr} (hp : p.block < u.heap.size) (hz : ¬ Z p.block) : w.cell? p = u.cell? p := by
  obtain ⟨X, Y, R, h1, h2⟩ := h
  exact h2.cell hp hz
theorem Half.bel (h : Half w0 u w Z B E N F E2 n) : Below w0.heap.size w0 w := by
  obtain ⟨X, Y, R, h1, h2⟩ := h
  exact h2.bel
theorem HalfV.half {P : Int → Prop} {a : Option Addr} {m c : Nat} (h : HalfV w0 u w Z B E N F E2 n P a m c) : Half w0 u w Z B E N F E2 n := by
  obtain ⟨X, Y, R, dl, h1, h2, _⟩ := h
  exact ⟨X, Y, R, h1, h2⟩
theorem Like.up (h : Like w0 u w Z B E N F n) {N' n' : Nat} (hN : N ≤ N') (hn : n ≤ n') : Like w0 u w Z B E N' F n' := by
  obtain ⟨X, Y, R, h1, h2⟩ := h
  exact ⟨X, Y, R, Nat.le_trans h1 hn, h2.goA (h2.d.up hN) (St.refl _ _) h2.sm⟩
/-- A new round: a block is laid. -/
theorem Like.round (h : Like w0 u w Z B E N F n) (o : Obj) : ∃ Z', Like w0 (w.alloc o) (w.alloc o) Z' B E N F n ∧ ¬ Z' w.heap.size := by
  obtain ⟨X, Y, R, h1, h2⟩ := h
  have b : Below w.heap.size w (w.alloc o) := (Below.refl _ _).alloc (Nat.le_refl _) _
  refine ⟨_, ⟨X, Y, R, h1, (h2.below b).fresh⟩, fun hk => ?_⟩
  rcases hk with hk | hk
  · have := h2.d.lt hk; omega
  · have := h2.r.lt; omega
theorem Like.start (D : Dg w X B (fun _ _ => False) 0) (low : ∀ k, X k → w0.heap.size ≤ k) (b : Below w0.heap.size w0 w) : ∃ u Z, Like w0 u (w.alloc (.cells #[.slice none 0 0] 37)) Z B (fun _ _ => False) 0 w.heap.size 0 := by
  have b1 : Below w.heap.size w (w.alloc (.cells #[.slice none 0 0] 37)) := (Below.refl _ _).alloc (Nat.le_refl _) _
  refine ⟨w.alloc (.cells #[.slice none 0 0] 37), fun k => X k ∨ k = w.heap.size, X, fun _ => False, [], Nat.le_refl _, ?_⟩
  refine ⟨b.trans (b1.mono b.size), D.below b1, ⟨⟨none, 0, heap_alloc_new w _, IsR.nil _ _, .inl ⟨rfl, rfl, rfl⟩⟩, fun r hr => (by simp at hr), id⟩, RI.none, low, fun k h => h.elim, fun k h => h.elim, b.size, fun h => ?_, Fr.refl _ _, fun k hk => .inl (.inl hk), .inr rfl, Sm.none, Sm.none⟩
  have := D.lt h
  omega
theorem Like.awake (h : Like w0 u w Z B E N F n) : Calls Try.prog 13 #[] w fun e w' => e = .returned (.bool true) ∧ Below w0.heap.size w0 w' := by
  refine Calls.mono (awake_any w) ?_
  rintro e w' ⟨rfl, q⟩
  have b := Half.bel h
  exact ⟨rfl, b.trans (q.mono b.size)⟩
/-- Add, both. -/
theorem Like.add (h : Like w0 u w Z B E N F n) (hN : N ≤ 3000) (hn : n ≤ 60) (wi : wfI i) {a : Option Addr} {c : Nat} {d : List Int} (hd : d.length ≤ 50) (q : IsI w0 a c d) :
    ∃ (r e : Nat) (E' : Rel), (Calls Try.prog 9 #[.pointer (some ⟨B, 0, none⟩), .int .i64 i, .slice a d.length c] w fun x w' => x = .returned (.tuple #[.int .i64 r, .int .i64 e]) ∧ Half w0 u w' Z B E' (N + 50) F E n) ∧
      ∀ v, Half w0 u v Z B E' (N + 50) F E n → Calls Try.prog 15 #[.pointer (some ⟨F, 0, none⟩), .int .i64 i, .slice a d.length c] v fun x w' => x = .returned (.tuple #[.int .i64 r, .int .i64 e]) ∧ Like w0 u w' Z B E' (N + 50) F (n + 1) := by
  have qv : ∀ v, Below w0.heap.size w0 v → IsI v a c d := fun v hv => q.below hv
  have hup := Half.bel h
  obtain ⟨X, Y, R, h1, D⟩ := h
  have VA : ∀ v E' X' Y' R', Duo w0 u v Z X' B E' (N + 50) Y' F E R' → R'.length ≤ n → Calls Try.prog 15 #[.pointer (some ⟨F, 0, none⟩), .int .i64 i, .slice a d.length c] v fun e w' => AddIs v Y' F R' E i d e w' := fun v E' X' Y' R' D' hR' => vadd_any D'.r D'.ri (by omega) (qv v D'.bel) (by omega) i
  by_cases hb : mayB i d = false
  · refine ⟨0, 1, E, Calls.mono (add_arg (qv w hup) hb) ?_, fun v hv => ?_⟩
    · rintro e w' ⟨rfl, rfl⟩
      exact ⟨rfl, X, Y, R, h1, D.goA (D.d.up (by omega)) (St.refl _ _) D.sm⟩
    · obtain ⟨X1, Y1, R1, k1, D1⟩ := hv
      refine Calls.mono (VA v E X1 Y1 R1 D1 k1) ?_
      rintro e w' (⟨_, rfl, rfl⟩ | ⟨hb', _⟩ | ⟨hb', _⟩)
      · exact ⟨rfl, X1, Y1, R1, by omega, D1⟩
      · rw [hb] at hb'; cases hb'
      · rw [hb] at hb'; cases hb'
  · have hb : mayB i d = true := by simpa using hb
    by_cases hE : ∃ q, E q i
    · obtain ⟨q0, hq0⟩ := hE
      refine ⟨0, 9, E, Calls.mono (add_exists D.d (by omega) wi (qv w hup) hb hq0) ?_, fun v hv => ?_⟩
      · rintro e w' ⟨rfl, rfl⟩
        exact ⟨rfl, X, Y, R, h1, D.goA (D.d.up (by omega)) (St.refl _ _) D.sm⟩
      · obtain ⟨X1, Y1, R1, k1, D1⟩ := hv
        refine Calls.mono (VA v E X1 Y1 R1 D1 k1) ?_
        rintro e w' (⟨hb', _⟩ | ⟨_, _, rfl, rfl⟩ | ⟨_, hh, _⟩)
        · rw [hb] at hb'; cases hb'
        · exact ⟨rfl, X1, Y1, R1, by omega, D1⟩
        · exact absurd hq0 (hh q0)
    · have hE' : ∀ q, ¬ E q i := fun q hq => hE ⟨q, hq⟩
      obtain ⟨cu, cm⟩ := compact_mem (sortI d) (sortI_le d)
      have rl : ∀ r : List Int, Up r → (∀ x, x ∈ r ↔ x ∈ d) → r = Lib.compact (sortI d) := fun r ur mr => ur.ext cu (fun x => by rw [mr, cm, sortI_mem])
      have sm' := D.sm.add hd hE'
      refine ⟨(Lib.compact (sortI d)).length, 0, fun q j => E q j ∨ (j = i ∧ q ∈ d), Calls.mono (add_ok D.d (by omega) wi (qv w hup) hb hE') ?_, fun v hv => ?_⟩
      · rintro e w' ⟨r, X', rfl, ur, mr, D', s'⟩
        rw [rl r ur mr]
        exact ⟨rfl, X', Y, R, h1, D.goA (D'.up (by omega)) s' sm'⟩
      · obtain ⟨X1, Y1, R1, k1, D1⟩ := hv
        refine Calls.mono (VA v _ X1 Y1 R1 D1 k1) ?_
        rintro e w' (⟨hb', _⟩ | ⟨_, hh, _⟩ | ⟨_, _, r, R2, Y2, rfl, ur, mr, rd, ri, l2, f2, y2⟩)
        · rw [hb] at hb'; cases hb'
        · exact absurd hh hE
        · rw [rl r ur mr]
          exact ⟨rfl, X1, Y2, R2, by omega, D1.goR rd ri f2 y2 sm'⟩
/-- What both tell is the same list. -/
theorem two_of {dl d2 : List Int} {a a2 : Option Addr} {c c2 m : Nat} {P : Int → Prop} (hm : dl.length = m) (q : IsI w a c dl) (q2 : IsI w a2 c2 d2) (u1 : Up dl) (m1 : ∀ j, j ∈ dl ↔ P j) (u2 : Up d2) (m2 : ∀ j, j ∈ d2 ↔ P j) : d2.length = m ∧ Two w a c a2 c2 m := by
  have e : d2 = dl := u2.ext u1 (fun x => by rw [m2, m1])
  rw [e] at q2 ⊢
  exact ⟨hm, dl, hm, q, q2⟩
theorem own_isI {b : Nat} {a : Option Addr} {m c : Nat} {dl : List Int} (hm : dl.length = m) (o : OwnI w b (.slice a m c) dl) : IsI w a c dl := by
  rw [← hm] at o
  exact o.isIv
theorem Like.done (h : Like w0 u w Z B E N F n) (hN : N ≤ 3000) (wi : wfI i) :
    Calls Try.prog 10 #[.pointer (some ⟨B, 0, none⟩), .int .i64 i] w fun x w' => ∃ a m c, x = .returned (.slice a m c) ∧ HalfV w0 u w' Z B (fun q j => E q j ∧ q ≠ i) N F E n (fun j => E i j ∧ ∀ q, E q j → q = i) a m c := by
  obtain ⟨X, Y, R, h1, D⟩ := h
  refine Calls.mono (doneG D.d (by omega) wi) ?_
  rintro e w' ⟨v, d, X', rfl, o, ud, md, D', s, _, _⟩
  obtain ⟨a, c, rfl, _⟩ := o.isI
  refine ⟨a, d.length, c, rfl, X', Y, R, d, h1, D.goA D' s (D.sm.sub fun q j hh => hh.1), rfl, o.low (Nat.zero_le _), fun k hk e => ?_, ud, md⟩
  have := (o.rowLt hk).1
  have := D.r.lt
  omega
theorem Like.kill (h : Like w0 u w Z B E N F n) (hN : N ≤ 3000) (wi : wfI i) :
    Calls Try.prog 14 #[.pointer (some ⟨B, 0, none⟩), .int .i64 i] w fun x w' => ∃ a m c, x = .returned (.slice a m c) ∧ HalfV w0 u w' Z B (fun q j => E q j ∧ j ≠ i ∧ ¬ Rch E i j) N F E n (fun j => Rch E i j) a m c := by
  obtain ⟨X, Y, R, h1, D⟩ := h
  refine Calls.mono (killG D.d (by omega) wi) ?_
  rintro e w' ⟨v, d, X', rfl, o, ud, md, D', s, _, _⟩
  obtain ⟨a, c, rfl, _⟩ := o.isI
  refine ⟨a, d.length, c, rfl, X', Y, R, d, h1, D.goA D' s (D.sm.sub fun q j hh => hh.1), rfl, o.low (Nat.zero_le _), fun k hk e => ?_, ud, md⟩
  have := (o.rowLt hk).1
  have := D.r.lt
  omega
theorem HalfV.done {a : Option Addr} {m c : Nat} (h : HalfV w0 u w Z B (fun q j => E q j ∧ q ≠ i) N F E n (fun j => E i j ∧ ∀ q, E q j → q = i) a m c) (hn : n ≤ 60) :
    Calls Try.prog 16 #[.pointer (some ⟨F, 0, none⟩), .int .i64 i] w fun x w' => ∃ a2 c2, x = .returned (.slice a2 m c2) ∧ Two w' a c a2 c2 m ∧ Like w0 u w' Z B (fun q j => E q j ∧ q ≠ i) N F n := by
  obtain ⟨X, Y, R, dl, h1, D, hm, o, nF, ud, md⟩ := h
  refine Calls.mono (vdone_any D.r D.ri (by omega) (D.ri.small D.sm2)) ?_
  rintro e w' ⟨v, d2, R', Y', rfl, o2, u2, m2, rd, ri, l2, f2, y2⟩
  obtain ⟨a2, c2, rfl, q2⟩ := o2.isI
  obtain ⟨e2, tw⟩ := two_of hm (own_isI hm (o.fr f2 nF)) q2 ud md u2 m2
  rw [e2]
  exact ⟨a2, c2, rfl, tw, X, Y', R', by omega, D.goR rd ri f2 y2 (D.sm2.sub fun q j hh => hh.1)⟩
theorem HalfV.kill {a : Option Addr} {m c : Nat} (h : HalfV w0 u w Z B (fun q j => E q j ∧ j ≠ i ∧ ¬ Rch E i j) N F E n (fun j => Rch E i j) a m c) (hn : n ≤ 60) (ord : ∀ p i, E p i → p < i) :
    Calls Try.prog 17 #[.pointer (some ⟨F, 0, none⟩), .int .i64 i] w fun x w' => ∃ a2 c2, x = .returned (.slice a2 m c2) ∧ Two w' a c a2 c2 m ∧ Like w0 u w' Z B (fun q j => E q j ∧ j ≠ i ∧ ¬ Rch E i j) N F n := by
  obtain ⟨X, Y, R, dl, h1, D, hm, o, nF, ud, md⟩ := h
  refine Calls.mono (vkill_any D.r D.ri ord (by omega)) ?_
  rintro e w' ⟨v, d2, R', Y', rfl, o2, u2, m2, rd, ri, l2, f2, y2⟩
  obtain ⟨a2, c2, rfl, q2⟩ := o2.isI
  obtain ⟨e2, tw⟩ := two_of hm (own_isI hm (o.fr f2 nF)) q2 ud md u2 m2
  rw [e2]
  exact ⟨a2, c2, rfl, tw, X, Y', R', by omega, D.goR rd ri f2 y2 (D.sm2.sub fun q j hh => hh.1)⟩
theorem Like.ord (h : Like w0 u w Z B E N F n) : ∀ p i, E p i → p < i := by
  obtain ⟨X, Y, R, h1, D⟩ := h
  exact fun p i hp => (D.d.ord p i hp).2.1
theorem Like.waits (h : Like w0 u w Z B E N F n) (hN : N ≤ 3000) (wi : wfI i) :
    Calls Try.prog 18 #[.pointer (some ⟨B, 0, none⟩), .int .i64 i] w fun x w' => ∃ a m c, x = .returned (.slice a m c) ∧ HalfV w0 u w' Z B E N F E n (fun p => E p i) a m c ∧ Below w.heap.size w w' := by
  obtain ⟨X, Y, R, h1, D⟩ := h
  refine Calls.mono (waitsG D.d (by omega) i wi) ?_
  rintro e w' ⟨v, d, rfl, o, ud, md, _, b⟩
  obtain ⟨a, c, rfl, _⟩ := o.isI
  refine ⟨a, d.length, c, rfl, ⟨X, Y, R, d, h1, D.below b, rfl, o.low (Nat.zero_le _), fun k hk e => ?_, ud, md⟩, b⟩
  have := (o.rowLt hk).1
  have := D.r.lt
  omega
theorem Like.behind (h : Like w0 u w Z B E N F n) (hN : N ≤ 3000) (wi : wfI i) :
    Calls Try.prog 20 #[.pointer (some ⟨B, 0, none⟩), .int .i64 i] w fun x w' => ∃ a m c, x = .returned (.slice a m c) ∧ HalfV w0 u w' Z B E N F E n (fun j => E i j) a m c := by
  obtain ⟨X, Y, R, h1, D⟩ := h
  refine Calls.mono (behindG D.d (by omega) i wi) ?_
  rintro e w' ⟨v, d, rfl, o, ud, md, _, b⟩
  obtain ⟨a, c, rfl, _⟩ := o.isI
  refine ⟨a, d.length, c, rfl, X, Y, R, d, h1, D.below b, rfl, o.low (Nat.zero_le _), fun k hk e => ?_, ud, md⟩
  have := (o.rowLt hk).1
  have := D.r.lt
  omega
theorem HalfV.waits {a : Option Addr} {m c : Nat} (h : HalfV w0 u w Z B E N F E n (fun p => E p i) a m c) (hn : n ≤ 60) :
    Calls Try.prog 19 #[.pointer (some ⟨F, 0, none⟩), .int .i64 i] w fun x w' => ∃ a2 c2, x = .returned (.slice a2 m c2) ∧ Two w' a c a2 c2 m ∧ Like w0 u w' Z B E N F n ∧ w' = w := by
  obtain ⟨X, Y, R, dl, h1, D, hm, o, nF, ud, md⟩ := h
  refine Calls.mono (vwaits_any D.r D.ri (by omega) i) ?_
  rintro e w' ⟨rfl, v, d2, rfl, ⟨a2, c2, rfl, q2, _⟩, u2, m2⟩
  obtain ⟨e2, tw⟩ := two_of hm (own_isI hm o) q2 ud md u2 m2
  rw [e2]
  exact ⟨a2, c2, rfl, tw, ⟨X, Y, R, h1, D⟩, rfl⟩
theorem HalfV.behind {a : Option Addr} {m c : Nat} (h : HalfV w0 u w Z B E N F E n (fun j => E i j) a m c) (hn : n ≤ 60) :
    Calls Try.prog 21 #[.pointer (some ⟨F, 0, none⟩), .int .i64 i] w fun x w' => ∃ a2 c2, x = .returned (.slice a2 m c2) ∧ Two w' a c a2 c2 m ∧ Like w0 u w' Z B E N F n := by
  obtain ⟨X, Y, R, dl, h1, D, hm, o, nF, ud, md⟩ := h
  refine Calls.mono (vbehind_any D.r D.ri (by omega) i) ?_
  rintro e w' ⟨v, d2, rfl, o2, u2, m2, b⟩
  obtain ⟨a2, c2, rfl, q2⟩ := o2.isI
  obtain ⟨e2, tw⟩ := two_of hm (own_isI hm (o.below b)) q2 ud md u2 m2
  rw [e2]
  exact ⟨a2, c2, rfl, tw, X, Y, R, h1, D.below b⟩
theorem Two.same {a a2 : Option Addr} {c c2 m : Nat} (h : Two w a c a2 c2 m) : Calls Try.prog 11 #[.slice a m c, .slice a2 m c2] w fun e w' => e = .returned (.bool true) ∧ Below w.heap.size w w' := by
  obtain ⟨dl, rfl, q, q2⟩ := h
  refine Calls.mono (same_any q q2) ?_
  rintro e w' ⟨rfl, b⟩
  exact ⟨by simp, b⟩
/-- How many wait: both. -/
theorem Like.len (h : Like w0 u w Z B E N F n) : ∃ (m : Nat) (ra : Option Addr) (rc : Nat), m ≤ n ∧ (∀ v, Below w.heap.size w v → v.cell? ⟨F, 0, none⟩ = some (.slice ra m rc)) ∧ (∀ v, Below w.heap.size w v → Calls Try.prog 12 #[.pointer (some ⟨B, 0, none⟩)] v fun x w' => x = .returned (.int .i64 (m : Nat)) ∧ w' = v) := by
  obtain ⟨X, Y, R, h1, D⟩ := h
  obtain ⟨ra, rc, hc, _⟩ := D.r.cell
  refine ⟨R.length, ra, rc, h1, fun v hv => by rw [← hc]; exact hv.cell (p := ⟨F, 0, none⟩) D.r.lt, fun v hv => Calls.mono (lenG (D.d.below hv)) ?_⟩
  rintro e w' ⟨rfl, k, rfl, _, ks, nd, hl, hm⟩
  refine ⟨?_, rfl⟩
  have hk : k = R.length := by
    have nd2 : (R.map (·.id)).Nodup := by
      unfold List.Nodup
      rw [List.pairwise_map]
      exact D.ri.up.imp (fun h => by omega)
    have m2 : ∀ x, x ∈ R.map (·.id) ↔ x ∈ ks := fun x => by
      rw [hm, List.mem_map]
      constructor
      · rintro ⟨r, hr, rfl⟩
        obtain ⟨p, t, e⟩ := List.exists_cons_of_ne_nil (D.ri.ps r hr).2
        exact ⟨p, (D.ri.waits hr p).2 (by rw [e]; simp)⟩
      · rintro ⟨p, hp⟩
        obtain ⟨r, hr, e, _⟩ := (D.ri.e _ _).1 hp
        exact ⟨r, hr, e⟩
    have a1 := nodup_le _ _ nd2 (fun x hx => (m2 x).1 hx)
    have a2 := nodup_le _ _ nd (fun x hx => (m2 x).2 hx)
    rw [List.length_map] at a1 a2
    omega
  rw [hk]
end Go.Proofs.Ythpdnlokjhafeaa
