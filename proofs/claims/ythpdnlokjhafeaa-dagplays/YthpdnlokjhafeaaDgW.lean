/- The document's SameInts; what the laws of layer 14 use: Add of one, awake. -/
import Derived.Test.YthpdnlokjhafeaaDgI
import Derived.Deep.CutBlock
import Derived.Deep.DeepCutAuto
namespace Go.Proofs.Ythpdnlokjhafeaa
open Go.RowKit Go.Lib Go.WideMaps Go.Maps
set_option linter.unusedVariables false
variable {w w' u v : World} {X X' Y Z : Nat → Prop} {B N N' cap : Nat} {E E' : Rel} {p i id : Int} {a : Option Addr} {d : List Int}
/-- A row of a law: nothing below S has turned, and all of X lies above. -/
structure Abv (w0 : World) (S : Nat) (w : World) (X : Nat → Prop) : Prop where
  bel : Below S w0 w
  low : ∀ k, X k → S ≤ k
  sz : S ≤ w.heap.size
variable {w0 : World} {S : Nat}
theorem Abv.st (h : Abv w0 S w X) (s : St X w X' w') : Abv w0 S w' X' :=
  ⟨h.bel.trans (s.fr.toBelow h.low h.sz), fun k hk => (s.new k hk).elim (h.low k) (fun e => Nat.le_trans h.sz e), Nat.le_trans h.sz s.size⟩
theorem Abv.below (h : Abv w0 S w X) (b : Below w.heap.size w w') : Abv w0 S w' X := h.st (St.below X b)
theorem Abv.fr (h : Abv w0 S w X) (f : Fr Y w w') (hY : ∀ k, Y k → S ≤ k) : Abv w0 S w' X := ⟨h.bel.trans (f.toBelow hY h.sz), h.low, Nat.le_trans h.sz f.size⟩
/-- So many from a on. -/
def rngI (a : Int) (k : Nat) : List Int := (List.range k).map (fun (i : Nat) => a + (i : Int))
theorem rngI_len (a : Int) (k : Nat) : (rngI a k).length = k := by simp [rngI]
theorem rngI_at (a : Int) {k i : Nat} (h : i < k) : (rngI a k).getD i 0 = a + i := by simp [rngI, List.getD, h]
theorem rngI_mem (a : Int) (k : Nat) (x : Int) : x ∈ rngI a k ↔ a ≤ x ∧ x < a + k := by
  unfold rngI
  rw [List.mem_map]
  constructor
  · rintro ⟨i, hi, rfl⟩; have := List.mem_range.1 hi; omega
  · rintro ⟨h1, h2⟩; exact ⟨(x - a).toNat, List.mem_range.2 (by omega), by omega⟩
theorem rngI_up (a : Int) (k : Nat) : Up (rngI a k) := by
  unfold rngI Up
  rw [List.pairwise_map]
  exact List.pairwise_lt_range.imp (fun h => by omega)
theorem up_rng {d : List Int} (h : Up d) {a : Int} {k : Nat} (hm : ∀ x, x ∈ d ↔ a ≤ x ∧ x < a + k) : d = rngI a k := h.ext (rngI_up a k) (fun x => by rw [hm, rngI_mem])
theorem up_one {d : List Int} (h : Up d) {a : Int} (hm : ∀ x, x ∈ d ↔ x = a) : d = [a] := h.ext (by simp) (fun x => by rw [hm]; simp)
theorem up_nil {d : List Int} (hm : ∀ x, x ∉ d) : d = [] := List.eq_nil_iff_forall_not_mem.2 hm
theorem below_drewN (w : World) (q : Nat) : Below w.heap.size w (w.drewN q) := ⟨rfl, rfl, rfl, Nat.le_refl _, fun _ _ => rfl⟩
set_option maxHeartbeats 2000000 in
theorem same_any {a2 : Option Addr} {cap2 : Nat} {d2 : List Int} (h : IsI w a cap d) (h2 : IsI w a2 cap2 d2) : Calls Try.prog 11 #[.slice a d.length cap, .slice a2 d2.length cap2] w fun e w' => e = .returned (.bool (d == d2)) ∧ Below w.heap.size w w' := by
  have l1 := h.len
  have l2 := h2.len
  have HH : Aside (IsI w a cap d ∧ IsI w a2 cap2 d2) := ⟨h, h2⟩
  clear h h2
  obtain ⟨n, hn⟩ : ∃ n, d.length = n := ⟨_, rfl⟩
  obtain ⟨m, hm⟩ : ∃ m, d2.length = m := ⟨_, rfl⟩
  obtain ⟨b, hb⟩ : ∃ b, (d == d2) = b := ⟨_, rfl⟩
  rw [hn] at l1
  rw [hm] at l2
  rw [hn, hm, hb]
  have HB : Hid _ := hb
  clear hb
  by_cases c : n = m
  · subst c
    go_enter Try.func11, Try.ntmps11
    go_wp2_with fail
    go_loopw [5] (fun s5 wr => ∃ I : Nat, I ≤ n ∧ s5 = .int .i64 I ∧ Below w.heap.size w wr ∧ IsI wr a cap d ∧ IsI wr a2 cap2 d2 ∧ ∀ j, j < I → d.getD j 0 = d2.getD j 0) (fun i _ => n - (intOf i).toNat)
    case atStart => exact ⟨0, by omega, rfl, Below.refl _ _, HH.out.1, HH.out.2, fun j hj => by omega⟩
    case round =>
      obtain ⟨I, hI, rfl, bw, q1, q2, hall⟩ := hrel
      by_cases c2 : I < n
      · obtain ⟨g1, o1, rfl, _, c1⟩ := q1.at (j := I) (by omega)
        obtain ⟨g2, o2, rfl, _, c3⟩ := q2.at (j := I) (by omega)
        obtain ⟨x, hx⟩ : ∃ x, d.getD I 0 = x := ⟨_, rfl⟩
        obtain ⟨y, hy⟩ : ∃ y, d2.getD I 0 = y := ⟨_, rfl⟩
        rw [hx] at c1
        rw [hy] at c3
        have HA : Aside (Below w.heap.size w wr ∧ IsI wr (some ⟨g1, o1, none⟩) cap d ∧ IsI wr (some ⟨g2, o2, none⟩) cap2 d2 ∧ ∀ j, j < I → d.getD j 0 = d2.getD j 0) := ⟨bw, q1, q2, hall⟩
        have HX : Hid _ := hx
        have HY : Hid _ := hy
        clear bw q1 q2 hall hx hy HH
        have c1d : wr.drew.cell? ⟨g1, o1 + I, none⟩ = some (.int .i64 x) := c1
        have c3d : wr.drew.cell? ⟨g2, o2 + I, none⟩ = some (.int .i64 y) := c3
        by_cases ce : x = y
        · subst ce
          have NX : Aside (∀ nq, Below w.heap.size w (wr.drewN nq) ∧ IsI (wr.drewN nq) (some ⟨g1, o1, none⟩) cap d ∧ IsI (wr.drewN nq) (some ⟨g2, o2, none⟩) cap2 d2 ∧ ∀ j, j < I + 1 → d.getD j 0 = d2.getD j 0) := fun nq => by
            obtain ⟨bw, q1, q2, hall⟩ := HA.out
            have bd : Below wr.heap.size wr (wr.drewN nq) := below_drewN _ _
            refine ⟨bw.trans (bd.mono bw.size), q1.below bd, q2.below bd, fun j hj => ?_⟩
            by_cases e : j = I
            · subst e; rw [HX.out, HY.out]
            · exact hall j (by omega)
          clear HA
          go_wp2_with fail
          go_quiet (fail)
          go_wp2_with fail
          go_roundw
          case rel => exact ⟨I + 1, by omega, by go_num, NX.out _⟩
          case measure => simp [intOf]; omega
        · obtain rfl : b = false := by
            cases b with
            | false => rfl
            | true =>
              have := HB.out
              have e : d = d2 := by simpa using this
              exact absurd (by rw [← HX.out, ← HY.out, e]) ce
          go_wp2_with fail
          go_quiet (fail)
          go_wp2_with fail
          go_ret
          exact ⟨rfl, HA.out.1.trans ((below_drewN _ _).mono HA.out.1.size)⟩
      · obtain rfl : I = n := by omega
        have hd : d = d2 := by
          apply List.ext_getElem (by omega)
          intro j h1 h2
          have := hall j (by omega)
          rw [List.getD, List.getD, List.getElem?_eq_getElem h1, List.getElem?_eq_getElem h2] at this
          exact this
        obtain rfl : b = true := by rw [← HB.out, hd]; simp
        clear hall q1 q2
        go_wp2_with fail
        go_ret
        exact ⟨rfl, bw⟩
  · obtain rfl : b = false := by
      cases b with
      | false => rfl
      | true =>
        have := HB.out
        have e : d = d2 := by simpa using this
        exact absurd (by rw [← hn, ← hm, e]) c
    go_enter Try.func11, Try.ntmps11
    go_wp2_with fail
    go_ret
    exact ⟨rfl, Below.refl _ _⟩
theorem addOne (D : Dg w X B E N) (hN : N + 1 < 1000000) (id p : Int) (h1 : 1 ≤ p) (h2 : p < id) (h3 : id ≤ 9223372036854775807) (hE : ∀ q, ¬ E q id) :
    Calls Try.prog 9 #[.pointer (some ⟨B, 0, none⟩), .int .i64 id, .slice (some ⟨w.heap.size, 0, none⟩) 1 1] (w.alloc (.cells #[.int .i64 p] 3)) fun e w' => e = .returned (.tuple #[.int .i64 1, .int .i64 0]) ∧ ∃ X', Dg w' X' B (fun q j => E q j ∨ (j = id ∧ q = p)) (N + 1) ∧ St X w X' w' := by
  have b1 : Below w.heap.size w (w.alloc (.cells #[.int .i64 p] 3)) := (Below.refl _ _).alloc (Nat.le_refl _) _
  have q := (OwnI.one (base := 0) w p (Nat.zero_le _)).isIv
  refine (add_ok (D.below b1) (by simp; omega) (wfI_of (by omega) h3) q ((mayB_iff id [p]).2 ⟨by omega, by simp; omega⟩) hE).mono ?_
  rintro e w' ⟨r, X', rfl, ur, mr, D', s⟩
  obtain rfl := up_one ur (a := p) (fun x => by rw [mr]; simp)
  exact ⟨rfl, X', D'.congr (fun q j => by simp), (St.below X b1).trans s⟩
set_option maxHeartbeats 4000000 in
theorem awake_any (w : World) : Calls Try.prog 13 #[] w fun e w' => e = .returned (.bool true) ∧ Below w.heap.size w w' := by
  obtain ⟨S, hS⟩ : ∃ S, w.heap.size = S := ⟨_, rfl⟩
  go_enter Try.func13, Try.ntmps13
  go_wp2_with fail
  refine (newG w).mono ?_
  rintro e w1 ⟨B, X, rfl, D, low, b1⟩
  have A : Abv w S w1 X := ⟨by rw [← hS]; exact b1, by rw [← hS]; exact low, by rw [← hS]; exact b1.size⟩
  have b2 : Below w1.heap.size w1 (w1.alloc (.cells #[.int .i64 1, .int .i64 2, .int .i64 1] 3)) := (Below.refl _ _).alloc (Nat.le_refl _) _
  have q2 := (OwnI.lit (base := 0) w1 [1, 2, 1] (Nat.zero_le _) (by simp)).isIv
  have P := add_ok (D.below b2) (by simp) (id := 3) (wfI_of (by omega) (by omega)) q2 (by decide) (fun q h => h)
  have A2 := A.below b2
  clear D low b1 b2 A q2
  go_wp2_with fail
  refine P.mono ?_
  rintro e w2 ⟨r, X2, rfl, ur, mr, D2, s2⟩
  obtain rfl : r = [1, 2] := ur.ext (by simp) (fun x => by rw [mr]; simp; omega)
  have A3 := A2.st s2
  have P1 := doneG D2 (by simp) (id := 1) (wfI_of (by omega) (by omega))
  clear P A2 s2 ur mr
  go_wp2_with fail
  refine P1.mono ?_
  rintro e w3 ⟨v3, d3, X3, rfl, o3, u3, m3, D3, s3, di3, l3⟩
  obtain rfl : d3 = [] := up_nil (fun x hx => by
    have := (m3 x).1 hx
    simp at this
    have h2 := this.2 2
    simp [this.1] at h2)
  have A4 := A3.st s3
  have P2 := doneG D3 (by simp) (id := 2) (wfI_of (by omega) (by omega))
  clear P1 A3 s3 m3 u3 l3 D2
  obtain ⟨a3, c3, rfl, q3⟩ := o3.isI
  go_wp2_with fail
  refine P2.mono ?_
  rintro e w4 ⟨v4, d4, X4, rfl, o4, u4, m4, D4, s4, di4, l4⟩
  obtain rfl := up_one u4 (a := 3) (fun x => by
    rw [m4]
    simp
    intro h q h1 h2 h3
    omega)
  have A5 := A4.st s4
  have P3 := lenG D4
  obtain ⟨a4, c4, rfl, q4⟩ := o4.isI
  obtain ⟨g4, o4', rfl, _, cc4⟩ := q4.at (j := 0) (by simp)
  simp only [List.length_cons, List.length_nil, Nat.zero_add, Nat.add_zero, List.getD_cons_zero] at cc4 ⊢
  have FIN : Aside (Below S w w4) := A5.bel
  have NO : Aside (∀ p x, ¬ ((((False ∨ x = (3 : Int) ∧ p ∈ [(1 : Int), 2, 1]) ∧ p ≠ 1) ∧ p ≠ 2))) := fun p x h => by simp at h; omega
  clear P2 A4 s4 m4 u4 l4 D3 o3 di3 o4 di4 q3 q4 A5 D4
  go_wp2_with fail
  refine P3.mono ?_
  rintro e w5 ⟨rfl, n, rfl, hn, ks, k1, k2, k3⟩
  obtain rfl : ks = [] := up_nil (fun x hx => by
    obtain ⟨p, hp⟩ := (k3 x).1 hx
    exact NO.out p x hp)
  obtain rfl : n = 0 := k2.symm
  clear P3 k3
  go_wp2_with fail
  go_ret
  exact ⟨rfl, by first | exact FIN.out | (rw [hS]; exact FIN.out)⟩
end Go.Proofs.Ythpdnlokjhafeaa
