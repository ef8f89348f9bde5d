/- slices.symMergeCmpFunc: two sorted runs, one behind the other, are one. -/
import Derived.Deep.Cut
import Derived.Deep.CutRange
import Derived.Test.YtboccihcomaaoaaSwapR
import Derived.Test.YtboccihcomaaoaaSymL
import Derived.Test.YtboccihcomaaoaaSymR
namespace Go.Proofs.Ytboccihcomaaoaa
open Go.RowKit Go.Lib Go.Sort
set_option linter.unusedVariables false

/-- What it leaves. -/
def SymPost (w0 : World) (blk off a b : Nat) (d : Array Ent) (e : Ending) (w' : World) : Prop := e = .returned (.tuple #[]) ∧ ∃ d' : Array Ent, SE w0 blk off d' w' ∧ PermIn a b d d' ∧ SortedIn ltE a b d'

/-- Where nothing is left to do on the right. -/
theorem Halves.rest {lt : Ent → Ent → Bool} {a s mid e b : Nat} {d d2 : Array Ent} (H : Halves lt a s mid e b d) (p2 : PermIn a mid d d2) (hme : mid ≤ e) (c : e = mid ∨ e = b) : SortedIn lt mid b d2 := by
  rcases H.right p2 with ⟨r3, r4⟩ | h
  · rcases c with rfl | rfl
    · exact r4
    · exact r3
  · omega

set_option maxHeartbeats 8000000 in
set_option maxRecDepth 1000000 in
theorem symM_step (blk off cap a m b : Nat) (d0 d : Array Ent) (w0 w : World) (R : RE w0 blk off d0) (hs : d0.size = d.size) (S : SE w0 blk off d w) (ham : a + 1 < m) (hmb : m + 1 < b) (hb : b ≤ d.size) (hsz : d.size < 1152921504606846976) (hL : SortedIn ltE a m d) (hR : SortedIn ltE m b d)
    (ih : ∀ (a' m' b' : Nat) (d' : Array Ent) (W : World), b' - a' < b - a → d'.size = d.size → SE w0 blk off d' W → a' < m' → m' < b' → b' ≤ d.size → SortedIn ltE a' m' d' → SortedIn ltE m' b' d' →
      Calls Try.prog 79 #[.slice (some ⟨blk, off, none⟩) d.size cap, .int .i64 a', .int .i64 m', .int .i64 b', .func (.func 66) #[] #[]] W (SymPost w0 blk off a' b' d')) :
    Calls Try.prog 79 #[.slice (some ⟨blk, off, none⟩) d.size cap, .int .i64 a, .int .i64 m, .int .i64 b, .func (.func 66) #[] #[]] w (SymPost w0 blk off a b d) := by
  have rc := fun (s e : Nat) (W : World) (h1 : SE w0 blk off d W) (h2 : s < m) (h3 : m < e) (h4 : e ≤ b) => rotate_any blk off cap s m e d0 d w0 W (.func (.func 66) #[] #[]) R hs h1 h2 h3 (by omega) hsz
  have RC : Aside _ := rc
  have IH : Aside _ := ih
  have S0 : Aside _ := S
  have HL : Aside _ := hL
  have HR : Aside _ := hR
  clear S hL hR ih rc
  have am : ¬ (m : Int) - (a : Int) = 1 := by omega
  have am2 : ((m : Int) - (a : Int) == 1) = false := by simpa using am
  have bm : ¬ (b : Int) - (m : Int) = 1 := by omega
  have bm2 : ((b : Int) - (m : Int) == 1) = false := by simpa using bm
  have mx := mixed
  obtain ⟨mid, hmid⟩ : ∃ mid : Nat, ((a : Int) + (b : Int)) / 2 = (mid : Int) := ⟨(a + b) / 2, by omega⟩
  obtain ⟨N, hN⟩ : ∃ N : Nat, (mid : Int) + (m : Int) = (N : Int) := ⟨mid + m, by omega⟩
  obtain ⟨P, hP⟩ : ∃ P : Nat, (N : Int) - 1 = (P : Int) := ⟨N - 1, by omega⟩
  have amid : a < mid := by omega
  have midb : mid < b := by omega
  have two1 : 2 * mid ≤ a + b := by omega
  have two2 : a + b ≤ 2 * mid + 1 := by omega
  have HN : Hid (N = mid + m) := by show N = mid + m; omega
  have HP : Hid (P + 1 = N) := by show P + 1 = N; omega
  obtain ⟨lo, hi, hc⟩ : ∃ lo hi : Nat, (mid < m ∧ lo + b = N ∧ hi = mid) ∨ (¬ mid < m ∧ lo = a ∧ hi = m) := by
    by_cases c : mid < m
    · exact ⟨N - b, mid, .inl ⟨c, by omega, rfl⟩⟩
    · exact ⟨a, m, .inr ⟨c, rfl, rfl⟩⟩
  have HC : Hid _ := hc
  have lo1 : a ≤ lo := by omega
  have lo2 : lo ≤ hi := by omega
  have hi1 : hi ≤ mid := by omega
  have hi2 : hi ≤ m := by omega
  have loN : N ≤ lo + b := by omega
  go_enter Try.func79, Try.ntmps79
  go_upto_if 140 with fail
  go_cut [20, 21] from 140 to 146 (fun s r wr => s = .int .i64 lo ∧ r = .int .i64 hi ∧ wr = w)
  case first =>
    rcases hc with ⟨c, c1, c2⟩ | ⟨c, c1, c2⟩
    · have cz : (mid : Int) < (m : Int) := by omega
      have hlo : (N : Int) - (b : Int) = (lo : Int) := by omega
      clear c1 HC
      subst c2
      go_wp2_with fail
      go_meet
      exact ⟨rfl, rfl, rfl⟩
    · have cz : ¬ (mid : Int) < (m : Int) := by omega
      have C1 : Hid _ := c1
      have C2 : Hid _ := c2
      clear HC c1 c2
      go_wp2_with fail
      go_meet
      exact ⟨by rw [C1.out], by rw [C2.out], rfl⟩
  case rest =>
    obtain ⟨rfl, rfl, rfl⟩ := hcut
    clear hc am am2 bm bm2
    go_wp2_with fail
    go_loopg [20, 21] (hi - lo) (fun kx s20 s21 wr => ∃ i j : Nat, s20 = .int .i64 i ∧ s21 = .int .i64 j ∧ lo ≤ i ∧ i ≤ j ∧ j ≤ hi ∧ j - i ≤ kx ∧ Aside (SE w0 blk off d wr) ∧ Aside (i = lo ∨ ltE d[P - (i - 1)]! d[i - 1]! = false) ∧ Aside (j = hi ∨ ltE d[P - j]! d[j]! = true))
    case atStart => exact ⟨lo, hi, rfl, rfl, Nat.le_refl _, lo2, Nat.le_refl _, Nat.le_refl _, S0, .inl rfl, .inl rfl⟩
    case round =>
      obtain ⟨i, j, rfl, rfl, hil, hij, hjb, hkx, S1, A1, A2⟩ := hrel
      clear S0
      by_cases hlt : i < j
      · obtain ⟨c, hc⟩ : ∃ c : Nat, ((i : Int) + (j : Int)) / 2 = (c : Int) := ⟨(i + j) / 2, by omega⟩
        have l1 : i ≤ c := by omega
        have l2 : c < j := by omega
        obtain ⟨q, hq⟩ : ∃ q : Nat, (P : Int) - (c : Int) = (q : Int) := ⟨P - c, by omega⟩
        have hq2 : Hid (P - c = q) := by show P - c = q; omega
        have q1 : q < d.size := by omega
        have wq : IntKind.i64.wrap (q : Int) = (q : Int) := by rw [IntKind.wrap_i64]; omega
        have q2 : (q : Int) < (d.size : Int) := by omega
        have cz : (c : Int) < (d.size : Int) := by omega
        obtain ⟨x, hx⟩ : ∃ x, d[q]! = x := ⟨_, rfl⟩
        obtain ⟨y, hy⟩ : ∃ y, d[c]! = y := ⟨_, rfl⟩
        have c1 : ∀ n os, (grow (wr.drewN n) os).cell? ⟨blk, off + q * 2, none⟩ = some (.int .u64 x.1) := fun n os => by rw [← hx]; exact se_c0 (S1.out.grown n os) R (by omega) (by omega)
        have c2 : ∀ n os, (grow (wr.drewN n) os).cell? ⟨blk, off + q * 2 + 1, none⟩ = some (.int .i64 x.2) := fun n os => by rw [← hx]; exact se_c1 (S1.out.grown n os) R (by omega) (by omega)
        have c3 : ∀ n os, (grow (wr.drewN n) os).cell? ⟨blk, off + c * 2, none⟩ = some (.int .u64 y.1) := fun n os => by rw [← hy]; exact se_c0 (S1.out.grown n os) R (by omega) (by omega)
        have c4 : ∀ n os, (grow (wr.drewN n) os).cell? ⟨blk, off + c * 2 + 1, none⟩ = some (.int .i64 y.2) := fun n os => by rw [← hy]; exact se_c1 (S1.out.grown n os) R (by omega) (by omega)
        cases hLt : ltE x y with
        | true =>
          have hv := cfE_neg x y hLt
          have hd : decide (cfE x y < 0) = true := decide_eq_true hv
          have HB : Hid (ltE d[P - c]! d[c]! = true) := by show ltE d[P - c]! d[c]! = true; rw [hq2.out, hx, hy]; exact hLt
          clear hx hy hLt
          go_wp2_with fail
          go_quiet_grown (first | (go_at_call 66; exact cmp_grown x y _ _ _))
          have S2 : Aside (SE w0 blk off d (grow (wr.drewN nq) osq)) := S1.out.grown nq osq
          clear c1 c2 c3 c4 S1 hc
          generalize grow (wr.drewN nq) osq = w2 at S2 ⊢
          go_wp2
          go_roundg (c - i)
          case measure => omega
          case rel => exact ⟨i, c, rfl, rfl, hil, l1, by omega, Nat.le_refl _, S2, A1, .inr HB.out⟩
        | false =>
          have hv := cfE_not x y hLt
          have hd : decide (cfE x y < 0) = false := decide_eq_false hv
          have HB : Hid (ltE d[P - c]! d[c]! = false) := by show ltE d[P - c]! d[c]! = false; rw [hq2.out, hx, hy]; exact hLt
          clear hx hy hLt
          go_wp2_with fail
          go_quiet_grown (first | (go_at_call 66; exact cmp_grown x y _ _ _))
          have S2 : Aside (SE w0 blk off d (grow (wr.drewN nq) osq)) := S1.out.grown nq osq
          clear c1 c2 c3 c4 S1 hc
          generalize grow (wr.drewN nq) osq = w2 at S2 ⊢
          go_wp2
          go_roundg (j - (c + 1))
          case measure => omega
          case rel => exact ⟨c + 1, j, by go_num, rfl, by omega, by omega, hjb, Nat.le_refl _, S2, .inr HB.out, A2⟩
      · obtain rfl : i = j := by omega
        obtain ⟨e, he⟩ : ∃ e : Nat, (N : Int) - (i : Int) = (e : Int) := ⟨N - i, by omega⟩
        have e1 : mid ≤ e := by omega
        have e2 : m ≤ e := by omega
        have e3 : e ≤ b := by omega
        have e4 : Hid (mid + m - i = e) := by have := HN.out; show mid + m - i = e; omega
        have e5 : e + i = mid + m := by have := HN.out; omega
        have ai : a ≤ i := by omega
        have im : i ≤ m := by omega
        have id : i ≤ mid := by omega
        have HV : Aside (∀ d1 : Array Ent, (∀ t, d1[t]! = rotF (fun t => d[t]!) i m e t) → Halves ltE a i mid e b d1) := by
          intro d1 h1
          have k1 := HC.out
          have k2 := HN.out
          have k3 := HP.out
          have k4 := e4.out
          have h := halves (mid := mid) (s := i) (lo := lo) (hi := hi) (d := d) (d' := d1) swoE HL.out HR.out (by omega) (by omega) ai im id (by omega) (by omega) (by omega) (by omega)
            (by
              by_cases z : i = lo
              · exact .inl z
              · refine .inr ?_
                rw [show mid + m - i = P - (i - 1) by omega]
                exact A1.out.resolve_left z)
            (by
              by_cases z : i = hi
              · exact .inl z
              · refine .inr ?_
                rw [show mid + m - i - 1 = P - i by omega]
                exact A2.out.resolve_left z)
            (by rw [k4]; exact h1)
          rw [k4] at h
          exact h
        clear A1 A2 HC hkx hlt lo1 lo2 hi1 hi2 loN hil hjb
        by_cases p : i < m
        · by_cases q : i < mid
          · by_cases l : a < i
            · by_cases r : e < b
              · as_aux_lemma =>
                  have tp : (i : Int) < (m : Int) := by omega
                  have tme : (m : Int) < (e : Int) := by omega
                  have tq : (i : Int) < (mid : Int) := by omega
                  have tl : (a : Int) < (i : Int) := by omega
                  have tmd : (mid : Int) < (e : Int) := by omega
                  have tr : (e : Int) < (b : Int) := by omega
                  go_wp2_with fail
                  refine (RC.out i e wr S1.out (by omega) (by omega) e3).mono ?_
                  rintro ev w1 ⟨rfl, d1, z1, s1, g1, p1⟩
                  have H1 : Aside (Halves ltE a i mid e b d1) := HV.out d1 g1
                  have P1 : Aside (PermIn a b d d1) := permIn_mono _ _ _ _ _ _ ai e3 hb p1
                  have T1 : Aside (SE w0 blk off d1 w1) := s1
                  clear s1 g1 p1 S1
                  go_wp2_with fail
                  refine (IH.out a i mid d1 w1 (by omega) z1 T1.out (by omega) (by omega) (by omega) H1.out.r1 H1.out.r2).mono ?_
                  rintro ev w2 ⟨rfl, d2, s2, p2, o2⟩
                  have P2 : Aside (PermIn a mid d1 d2) := p2
                  have O2 : Aside (SortedIn ltE a mid d2) := o2
                  have T2 : Aside (SE w0 blk off d2 w2) := s2
                  have z2 : d2.size = d.size := p2.1.trans z1
                  clear s2 p2 o2
                  go_wp2_with fail
                  have HRT : Aside _ := H1.out.right P2.out
                  refine (IH.out mid e b d2 w2 (by omega) z2 T2.out (by omega) (by omega) hb (HRT.out.resolve_right (by omega)).1 (HRT.out.resolve_right (by omega)).2).mono ?_
                  rintro ev w3 ⟨rfl, d3, s3, p3, o3⟩
                  have P3 : Aside (PermIn mid b d2 d3) := p3
                  have O3 : Aside (SortedIn ltE mid b d3) := o3
                  have T3 : Aside (SE w0 blk off d3 w3) := s3
                  clear s3 p3 o3
                  go_wp2
                  go_end0
                  obtain ⟨q1, q2⟩ := halves_end swoE H1.out (by omega) (by omega) (by omega) P2.out O2.out P3.out O3.out
                  exact ⟨rfl, d3, T3.out, permIn_trans _ _ _ _ _ P1.out q1, q2⟩
              · as_aux_lemma =>
                  have tp : (i : Int) < (m : Int) := by omega
                  have tme : (m : Int) < (e : Int) := by omega
                  have tq : (i : Int) < (mid : Int) := by omega
                  have tl : (a : Int) < (i : Int) := by omega
                  have tmd : (mid : Int) < (e : Int) := by omega
                  have tr : ¬ (e : Int) < (b : Int) := by omega
                  go_wp2_with fail
                  refine (RC.out i e wr S1.out (by omega) (by omega) e3).mono ?_
                  rintro ev w1 ⟨rfl, d1, z1, s1, g1, p1⟩
                  have H1 : Aside (Halves ltE a i mid e b d1) := HV.out d1 g1
                  have P1 : Aside (PermIn a b d d1) := permIn_mono _ _ _ _ _ _ ai e3 hb p1
                  have T1 : Aside (SE w0 blk off d1 w1) := s1
                  clear s1 g1 p1 S1
                  go_wp2_with fail
                  refine (IH.out a i mid d1 w1 (by omega) z1 T1.out (by omega) (by omega) (by omega) H1.out.r1 H1.out.r2).mono ?_
                  rintro ev w2 ⟨rfl, d2, s2, p2, o2⟩
                  have P2 : Aside (PermIn a mid d1 d2) := p2
                  have O2 : Aside (SortedIn ltE a mid d2) := o2
                  have T2 : Aside (SE w0 blk off d2 w2) := s2
                  have z2 : d2.size = d.size := p2.1.trans z1
                  clear s2 p2 o2
                  go_wp2
                  have P3 : Aside (PermIn mid b d2 d2) := permIn_refl _ mid b
                  have O3 : Aside (SortedIn ltE mid b d2) := H1.out.rest P2.out e1 (by omega)
                  have T3 := T2
                  go_end0
                  obtain ⟨q1, q2⟩ := halves_end swoE H1.out (by omega) (by omega) (by omega) P2.out O2.out P3.out O3.out
                  exact ⟨rfl, d2, T3.out, permIn_trans _ _ _ _ _ P1.out q1, q2⟩
            · by_cases r : e < b
              · as_aux_lemma =>
                  have tp : (i : Int) < (m : Int) := by omega
                  have tme : (m : Int) < (e : Int) := by omega
                  have tq : (i : Int) < (mid : Int) := by omega
                  have tl : ¬ (a : Int) < (i : Int) := by omega
                  have tmd : (mid : Int) < (e : Int) := by omega
                  have tr : (e : Int) < (b : Int) := by omega
                  go_wp2_with fail
                  refine (RC.out i e wr S1.out (by omega) (by omega) e3).mono ?_
                  rintro ev w1 ⟨rfl, d1, z1, s1, g1, p1⟩
                  have H1 : Aside (Halves ltE a i mid e b d1) := HV.out d1 g1
                  have P1 : Aside (PermIn a b d d1) := permIn_mono _ _ _ _ _ _ ai e3 hb p1
                  have T1 : Aside (SE w0 blk off d1 w1) := s1
                  clear s1 g1 p1 S1
                  go_wp2_with fail
                  have P2 : Aside (PermIn a mid d1 d1) := permIn_refl _ a mid
                  have O2 : Aside (SortedIn ltE a mid d1) := H1.out.left (by omega) ai id
                  have T2 := T1
                  have z2 := z1
                  have HRT : Aside _ := H1.out.right P2.out
                  refine (IH.out mid e b d1 w1 (by omega) z2 T2.out (by omega) (by omega) hb (HRT.out.resolve_right (by omega)).1 (HRT.out.resolve_right (by omega)).2).mono ?_
                  rintro ev w3 ⟨rfl, d3, s3, p3, o3⟩
                  have P3 : Aside (PermIn mid b d1 d3) := p3
                  have O3 : Aside (SortedIn ltE mid b d3) := o3
                  have T3 : Aside (SE w0 blk off d3 w3) := s3
                  clear s3 p3 o3
                  go_wp2
                  go_end0
                  obtain ⟨q1, q2⟩ := halves_end swoE H1.out (by omega) (by omega) (by omega) P2.out O2.out P3.out O3.out
                  exact ⟨rfl, d3, T3.out, permIn_trans _ _ _ _ _ P1.out q1, q2⟩
              · as_aux_lemma =>
                  have tp : (i : Int) < (m : Int) := by omega
                  have tme : (m : Int) < (e : Int) := by omega
                  have tq : (i : Int) < (mid : Int) := by omega
                  have tl : ¬ (a : Int) < (i : Int) := by omega
                  have tmd : (mid : Int) < (e : Int) := by omega
                  have tr : ¬ (e : Int) < (b : Int) := by omega
                  go_wp2_with fail
                  refine (RC.out i e wr S1.out (by omega) (by omega) e3).mono ?_
                  rintro ev w1 ⟨rfl, d1, z1, s1, g1, p1⟩
                  have H1 : Aside (Halves ltE a i mid e b d1) := HV.out d1 g1
                  have P1 : Aside (PermIn a b d d1) := permIn_mono _ _ _ _ _ _ ai e3 hb p1
                  have T1 : Aside (SE w0 blk off d1 w1) := s1
                  clear s1 g1 p1 S1
                  go_wp2
                  have P2 : Aside (PermIn a mid d1 d1) := permIn_refl _ a mid
                  have O2 : Aside (SortedIn ltE a mid d1) := H1.out.left (by omega) ai id
                  have T2 := T1
                  have z2 := z1
                  have P3 : Aside (PermIn mid b d1 d1) := permIn_refl _ mid b
                  have O3 : Aside (SortedIn ltE mid b d1) := H1.out.rest P2.out e1 (by omega)
                  have T3 := T2
                  go_end0
                  obtain ⟨q1, q2⟩ := halves_end swoE H1.out (by omega) (by omega) (by omega) P2.out O2.out P3.out O3.out
                  exact ⟨rfl, d1, T3.out, permIn_trans _ _ _ _ _ P1.out q1, q2⟩
          · as_aux_lemma =>
              have tp : (i : Int) < (m : Int) := by omega
              have tme : ¬ (m : Int) < (e : Int) := by omega
              have tq : ¬ (i : Int) < (mid : Int) := by omega
              have tl : (a : Int) < (i : Int) := by omega
              have tmd : (mid : Int) < (e : Int) := by omega
              have tr : (e : Int) < (b : Int) := by omega
              go_wp2_with fail
              have H1 : Aside (Halves ltE a i mid e b d) := HV.out d (fun t => by have k := e5; rw [show e = m by omega, rot_right])
              have P1 : Aside (PermIn a b d d) := permIn_refl d a b
              have z1 : d.size = d.size := rfl
              have T1 : Aside (SE w0 blk off d wr) := S1.out
              clear S1
              have P2 : Aside (PermIn a mid d d) := permIn_refl _ a mid
              have O2 : Aside (SortedIn ltE a mid d) := H1.out.left (by omega) ai id
              have T2 := T1
              have z2 := z1
              have HRT : Aside _ := H1.out.right P2.out
              refine (IH.out mid e b d wr (by omega) z2 T2.out (by omega) (by omega) hb (HRT.out.resolve_right (by omega)).1 (HRT.out.resolve_right (by omega)).2).mono ?_
              rintro ev w3 ⟨rfl, d3, s3, p3, o3⟩
              have P3 : Aside (PermIn mid b d d3) := p3
              have O3 : Aside (SortedIn ltE mid b d3) := o3
              have T3 : Aside (SE w0 blk off d3 w3) := s3
              clear s3 p3 o3
              go_wp2
              go_end0
              obtain ⟨q1, q2⟩ := halves_end swoE H1.out (by omega) (by omega) (by omega) P2.out O2.out P3.out O3.out
              exact ⟨rfl, d3, T3.out, permIn_trans _ _ _ _ _ P1.out q1, q2⟩
        · by_cases q : i < mid
          · as_aux_lemma =>
              have tp : ¬ (i : Int) < (m : Int) := by omega
              have tme : (m : Int) < (e : Int) := by omega
              have tq : (i : Int) < (mid : Int) := by omega
              have tl : (a : Int) < (i : Int) := by omega
              have tmd : ¬ (mid : Int) < (e : Int) := by omega
              go_wp2_with fail
              have H1 : Aside (Halves ltE a i mid e b d) := HV.out d (fun t => by have k := e5; rw [show i = m by omega, rot_left])
              have P1 : Aside (PermIn a b d d) := permIn_refl d a b
              have z1 : d.size = d.size := rfl
              have T1 : Aside (SE w0 blk off d wr) := S1.out
              clear S1
              refine (IH.out a i mid d wr (by omega) z1 T1.out (by omega) (by omega) (by omega) H1.out.r1 H1.out.r2).mono ?_
              rintro ev w2 ⟨rfl, d2, s2, p2, o2⟩
              have P2 : Aside (PermIn a mid d d2) := p2
              have O2 : Aside (SortedIn ltE a mid d2) := o2
              have T2 : Aside (SE w0 blk off d2 w2) := s2
              have z2 : d2.size = d.size := p2.1.trans z1
              clear s2 p2 o2
              go_wp2
              have P3 : Aside (PermIn mid b d2 d2) := permIn_refl _ mid b
              have O3 : Aside (SortedIn ltE mid b d2) := H1.out.rest P2.out e1 (by omega)
              have T3 := T2
              go_end0
              obtain ⟨q1, q2⟩ := halves_end swoE H1.out (by omega) (by omega) (by omega) P2.out O2.out P3.out O3.out
              exact ⟨rfl, d2, T3.out, permIn_trans _ _ _ _ _ P1.out q1, q2⟩
          · as_aux_lemma =>
              have tp : ¬ (i : Int) < (m : Int) := by omega
              have tme : ¬ (m : Int) < (e : Int) := by omega
              have tq : ¬ (i : Int) < (mid : Int) := by omega
              have tl : (a : Int) < (i : Int) := by omega
              have tmd : ¬ (mid : Int) < (e : Int) := by omega
              go_wp2
              have H1 : Aside (Halves ltE a i mid e b d) := HV.out d (fun t => by have k := e5; rw [show i = m by omega, rot_left])
              have P1 : Aside (PermIn a b d d) := permIn_refl d a b
              have z1 : d.size = d.size := rfl
              have T1 : Aside (SE w0 blk off d wr) := S1.out
              clear S1
              have P2 : Aside (PermIn a mid d d) := permIn_refl _ a mid
              have O2 : Aside (SortedIn ltE a mid d) := H1.out.left (by omega) ai id
              have T2 := T1
              have z2 := z1
              have P3 : Aside (PermIn mid b d d) := permIn_refl _ mid b
              have O3 : Aside (SortedIn ltE mid b d) := H1.out.rest P2.out e1 (by omega)
              have T3 := T2
              go_end0
              obtain ⟨q1, q2⟩ := halves_end swoE H1.out (by omega) (by omega) (by omega) P2.out O2.out P3.out O3.out
              exact ⟨rfl, d, T3.out, permIn_trans _ _ _ _ _ P1.out q1, q2⟩

theorem symMerge_any (blk off cap : Nat) (d0 : Array Ent) (w0 : World) (R : RE w0 blk off d0) (hsz : d0.size < 1152921504606846976) : ∀ (k a m b : Nat) (d : Array Ent) (w : World), b - a ≤ k → d.size = d0.size → SE w0 blk off d w → a < m → m < b → b ≤ d.size → SortedIn ltE a m d → SortedIn ltE m b d →
    Calls Try.prog 79 #[.slice (some ⟨blk, off, none⟩) d.size cap, .int .i64 a, .int .i64 m, .int .i64 b, .func (.func 66) #[] #[]] w (SymPost w0 blk off a b d) := by
  intro k
  induction k with
  | zero => intro a m b d w hk; omega
  | succ k ih =>
    intro a m b d w hk hs S ham hmb hb hL hR
    by_cases c1 : m = a + 1
    · exact symL_any blk off cap a m b d0 d w0 w R hs.symm S c1 (by omega) hb (by omega) hR
    · by_cases c2 : b = m + 1
      · exact symR_any blk off cap a m b d0 d w0 w R hs.symm S (by omega) c2 hb (by omega) hL
      · exact symM_step blk off cap a m b d0 d w0 w R hs.symm S (by omega) (by omega) hb (by omega) hL hR (fun a' m' b' d' W h1 h2 h3 h4 h5 h6 h7 h8 => by
          have := ih a' m' b' d' W (by omega) (h2.trans hs) h3 h4 h5 (by omega) h7 h8
          rw [h2] at this
          exact this)
end Go.Proofs.Ytboccihcomaaoaa
