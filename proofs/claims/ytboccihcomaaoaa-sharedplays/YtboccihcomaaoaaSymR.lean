/- slices.symMergeCmpFunc where the second run has one entry: it goes to its place among the others. -/
import Derived.Test.YtboccihcomaaoaaSwapR
import Derived.Test.YtboccihcomaaoaaEntLess
namespace Go.Proofs.Ytboccihcomaaoaa
open Go.RowKit Go.Lib Go.Sort
set_option linter.unusedVariables false

set_option maxHeartbeats 4000000 in
set_option maxRecDepth 1000000 in
theorem symR_any (blk off cap a m b : Nat) (d0 d : Array Ent) (w0 w : World) (R : RE w0 blk off d0) (hs : d0.size = d.size) (S : SE w0 blk off d w) (ham : a + 1 < m) (hm : b = m + 1) (hb : b ≤ d.size) (hsz : d.size < 1152921504606846976) (hL : SortedIn ltE a m d) :
    Calls Try.prog 79 #[.slice (some ⟨blk, off, none⟩) d.size cap, .int .i64 a, .int .i64 m, .int .i64 b, .func (.func 66) #[] #[]] w fun e w' => e = .returned (.tuple #[]) ∧
      ∃ d' : Array Ent, SE w0 blk off d' w' ∧ PermIn a b d d' ∧ SortedIn ltE a b d' := by
  have S0 : Aside _ := S
  have HS : Aside _ := hL
  clear S hL
  have am : ¬ (m : Int) - (a : Int) = 1 := by omega
  have am2 : ((m : Int) - (a : Int) == 1) = false := by simpa using am
  have bm : (b : Int) - (m : Int) = 1 := by omega
  have HM : Hid _ := hm
  have l0 : m < b := by omega
  clear hm
  have mx := mixed
  go_enter Try.func79, Try.ntmps79
  go_wp2_with fail
  clear am bm am2
  go_loopg [14, 15] (m - a) (fun kx s14 s15 wr => ∃ i j : Nat, s14 = .int .i64 i ∧ s15 = .int .i64 j ∧ a ≤ i ∧ i ≤ j ∧ j ≤ m ∧ j - i ≤ kx ∧ Aside (SE w0 blk off d wr) ∧ Aside (i = a ∨ ltE d[m]! d[i - 1]! = false) ∧ Aside (j = m ∨ ltE d[m]! d[j]! = true))
  case atStart => exact ⟨a, m, rfl, rfl, Nat.le_refl _, by omega, Nat.le_refl _, Nat.le_refl _, S0, .inl rfl, .inl rfl⟩
  case round =>
    obtain ⟨i, j, rfl, rfl, hi, hij, hjb, hkx, S1, A1, A2⟩ := hrel
    clear S0
    by_cases hlt : i < j
    · obtain ⟨h, hh⟩ : ∃ h : Nat, ((i : Int) + (j : Int)) / 2 = (h : Int) := ⟨(i + j) / 2, by omega⟩
      have l1 : i ≤ h := by omega
      have l2 : h < j := by omega
      obtain ⟨x, hx⟩ : ∃ x, d[m]! = x := ⟨_, rfl⟩
      obtain ⟨y, hy⟩ : ∃ y, d[h]! = y := ⟨_, rfl⟩
      have c1 : ∀ n os, (grow (wr.drewN n) os).cell? ⟨blk, off + m * 2, none⟩ = some (.int .u64 x.1) := fun n os => by rw [← hx]; exact se_c0 (S1.out.grown n os) R (by omega) (by omega)
      have c2 : ∀ n os, (grow (wr.drewN n) os).cell? ⟨blk, off + m * 2 + 1, none⟩ = some (.int .i64 x.2) := fun n os => by rw [← hx]; exact se_c1 (S1.out.grown n os) R (by omega) (by omega)
      have c3 : ∀ n os, (grow (wr.drewN n) os).cell? ⟨blk, off + h * 2, none⟩ = some (.int .u64 y.1) := fun n os => by rw [← hy]; exact se_c0 (S1.out.grown n os) R (by omega) (by omega)
      have c4 : ∀ n os, (grow (wr.drewN n) os).cell? ⟨blk, off + h * 2 + 1, none⟩ = some (.int .i64 y.2) := fun n os => by rw [← hy]; exact se_c1 (S1.out.grown n os) R (by omega) (by omega)
      have hz : (h : Int) < (d.size : Int) := by omega
      have az : (m : Int) < (d.size : Int) := by omega
      cases hL : ltE x y with
      | true =>
        have hv := cfE_neg x y hL
        have hd : decide (cfE x y < 0) = true := decide_eq_true hv
        have HL : Hid (ltE d[m]! d[h]! = true) := by show ltE d[m]! d[h]! = true; rw [hx, hy]; exact hL
        clear hx hy hL
        go_wp2_with fail
        go_quiet_grown (first | (go_at_call 66; exact cmp_grown x y _ _ _))
        have S2 : Aside (SE w0 blk off d (grow (wr.drewN nq) osq)) := S1.out.grown nq osq
        clear c1 c2 c3 c4 S1 hh
        generalize grow (wr.drewN nq) osq = w2 at S2 ⊢
        go_wp2
        go_roundg (h - i)
        case measure => omega
        case rel => exact ⟨i, h, rfl, rfl, hi, l1, by omega, Nat.le_refl _, S2, A1, .inr HL.out⟩
      | false =>
        have hv := cfE_not x y hL
        have hd : decide (cfE x y < 0) = false := decide_eq_false hv
        have HL : Hid (ltE d[m]! d[h]! = false) := by show ltE d[m]! d[h]! = false; rw [hx, hy]; exact hL
        clear hx hy hL
        go_wp2_with fail
        go_quiet_grown (first | (go_at_call 66; exact cmp_grown x y _ _ _))
        have S2 : Aside (SE w0 blk off d (grow (wr.drewN nq) osq)) := S1.out.grown nq osq
        clear c1 c2 c3 c4 S1 hh
        generalize grow (wr.drewN nq) osq = w2 at S2 ⊢
        go_wp2
        go_roundg (j - (h + 1))
        case measure => omega
        case rel => exact ⟨h + 1, j, by go_num, rfl, by omega, by omega, hjb, Nat.le_refl _, S2, .inr HL.out, A2⟩
    · obtain rfl : i = j := by omega
      go_wp2_with fail
      go_loopg [17] (m - i) (fun kx s17 wr2 => ∃ (k : Nat) (dk : Array Ent), s17 = .int .i64 k ∧ i ≤ k ∧ k ≤ m ∧ k - i ≤ kx ∧ dk.size = d.size ∧ Aside (SE w0 blk off dk wr2) ∧ Aside (∀ t, dk[t]! = if k < t ∧ t ≤ m then d[t - 1]! else if t = k then d[m]! else d[t]!) ∧ Aside (PermIn a b d dk))
      case atStart =>
        refine ⟨m, d, rfl, by omega, Nat.le_refl _, Nat.le_refl _, rfl, S1, (fun t => ?_ : ∀ t, d[t]! = if m < t ∧ t ≤ m then d[t - 1]! else if t = m then d[m]! else d[t]!), permIn_refl d a b⟩
        rw [if_neg (by omega)]
        split
        · next e => rw [e]
        · rfl
      case round =>
        obtain ⟨k, dk, rfl, hak, hki, hkx2, hds, S2, G2, P2⟩ := hrel
        by_cases hk : i < k
        · obtain ⟨l, rfl⟩ : ∃ l, k = l + 1 := ⟨k - 1, by omega⟩
          have kz : (i : Int) < (l : Int) + 1 := by omega
          have kz1 : (l : Int) + 1 < (d.size : Int) := by omega
          have kz0 : (l : Int) < (d.size : Int) := by omega
          have e1 : ((l : Int) + 1).toNat = l + 1 := by omega
          have p1 : (0 : Int) ≤ (l : Int) + 1 := by omega
          have wl : IntKind.i64.wrap (l : Int) = (l : Int) := by rw [IntKind.wrap_i64]; omega
          obtain ⟨x, hx⟩ : ∃ x, dk[l + 1]! = x := ⟨_, rfl⟩
          obtain ⟨y, hy⟩ : ∃ y, dk[l]! = y := ⟨_, rfl⟩
          have c1 := se_c0 S2.out R (by omega) (show l + 1 < dk.size by omega)
          have c2 := se_c1 S2.out R (by omega) (show l + 1 < dk.size by omega)
          have c3 := se_c0 S2.out R (by omega) (show l < dk.size by omega)
          have c4 := se_c1 S2.out R (by omega) (show l < dk.size by omega)
          have f1 := se_f0 S2.out R (by omega) (show l + 1 < dk.size by omega)
          have f2 := se_f1 S2.out R (by omega) (show l + 1 < dk.size by omega)
          have f3 := se_f0 S2.out R (by omega) (show l < dk.size by omega)
          have f4 := se_f1 S2.out R (by omega) (show l < dk.size by omega)
          have sw := se_swap S2.out R (show l + 1 < dk.size by omega) (show l < dk.size by omega)
          rw [hx] at c1 c2 sw
          rw [hy] at c3 c4 sw
          have S3 : Aside _ := sw
          clear sw S2 hx hy
          go_wp2_with fail
          go_region
          clear c1 c2 c3 c4 f1 f2 f3 f4
          generalize World.drew _ = w3 at S3 ⊢
          go_wp2
          go_roundg (l - i)
          case measure => omega
          case rel =>
            refine ⟨l, swp dk (l + 1) l, by first | rfl | go_num, by omega, by omega, Nat.le_refl _, by rw [size_swp]; exact hds, S3, (fun t => ?_ : ∀ t, (swp dk (l + 1) l)[t]! = if l < t ∧ t ≤ m then d[t - 1]! else if t = l then d[m]! else d[t]!), permIn_trans _ _ _ _ _ P2.out (swp_permIn dk a b _ _ (by omega) (by omega) (by omega) (by omega) (by omega))⟩
            have g := G2.out
            have ga : dk[l + 1]! = d[m]! := by rw [g, if_neg (by omega), if_pos rfl]
            have gb : dk[l]! = d[l]! := by rw [g, if_neg (by omega), if_neg (by omega)]
            rw [swp_get dk (by omega) (by omega), ga, gb, g t]
            by_cases t1 : t = l
            · subst t1; rw [if_pos rfl, if_neg (by omega), if_pos rfl]
            · rw [if_neg t1]
              by_cases t2 : t = l + 1
              · subst t2; rw [if_pos rfl, if_pos (by omega)]; rfl
              · rw [if_neg t2, if_neg t2, if_neg t1]
                by_cases t3 : l + 1 < t ∧ t ≤ m
                · rw [if_pos t3, if_pos (by omega)]
                · rw [if_neg t3, if_neg (by omega)]
        · have kz : ¬ (i : Int) < (k : Int) := by omega
          obtain rfl : i = k := by omega
          go_wp2_with fail
          (try simp only [Exit.inBlock, Exit.then]); refine bodyPost_ret (results_none rfl _ _ _) rfl ?_
          have hm := HM.out
          subst hm
          exact ⟨rfl, dk, S2.out, P2.out, ins_right swoE HS.out hi hjb A1.out A2.out G2.out⟩
end Go.Proofs.Ytboccihcomaaoaa
