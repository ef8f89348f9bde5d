/- The walk of 'DagOnce'. -/
import Derived.Test.YthpdnlokjhafeaaDgOm
import Derived.Test.YthpdnlokjhafeaaRowAt
import Derived.WalkSmall
import Derived.Deep.QuietTactic
import Derived.BigQuiet
import Derived.Deep.CutBlock
import Derived.Deep.DeepCutAuto
namespace Go.Proofs.Ythpdnlokjhafeaa
open Go.RowKit Go.Lib
set_option linter.unusedVariables false

theorem min2 (s : TypeId) (us : Array TypeId) (a b K : Int) (h : min a b = K) (w : World) : (Builtin.min_ us s #[.int .i64 a, .int .i64 b]).run Try.prog w = .ok (.int .i64 K) w := by
  have e : (if b < a then b else a) = K := by split <;> omega
  rw [← e]
  rfl
/-- One bit. -/
def bitB (z : Int) (j : Nat) : Bool := bits BinOp.and IntKind.i64 (z / 2 ^ j) 1 == 1
/-- Whom task k wants, of the first m. -/
def wtF (zs : List Int) (k m : Nat) : List Int := (rngI 1 m).filter (fun q => bitB (zs.getD (k - 1) 0) q.toNat)
theorem wtF_up (zs : List Int) (k m : Nat) : Up (wtF zs k m) := (rngI_up 1 m).filter _
theorem wtF_mem {zs : List Int} {k m : Nat} {q : Int} (h : q ∈ wtF zs k m) : 1 ≤ q ∧ q < m + 1 := by
  have := (rngI_mem _ _ _).1 (List.mem_filter.1 h).1
  omega
theorem rngI_succ (m : Nat) : rngI 1 (m + 1) = rngI 1 m ++ [((m + 1 : Nat) : Int)] := by
  unfold rngI
  rw [List.range_succ, List.map_append]
  simp
  omega
theorem wtF_succ (zs : List Int) (k m : Nat) : wtF zs k (m + 1) = wtF zs k m ++ if bitB (zs.getD (k - 1) 0) (m + 1) = true then [((m + 1 : Nat) : Int)] else [] := by
  unfold wtF
  rw [rngI_succ, List.filter_append]
  congr 1
  generalize zs.getD (k - 1) 0 = z
  rw [List.filter_cons, List.filter_nil]
  have e : (((m + 1 : Nat) : Int)).toNat = m + 1 := by omega
  rw [e]
theorem wtF_len (zs : List Int) (k m : Nat) : (wtF zs k m).length ≤ m := Nat.le_trans (List.length_filter_le _ _) (by rw [rngI_len]; exact Nat.le_refl _)
def Wt (zs : List Int) (k : Nat) : List Int := wtF zs k (k - 1)
theorem Wt_up (zs : List Int) (k : Nat) (q : Int) (h : q ∈ Wt zs k) : 1 ≤ q ∧ q < k := by
  have h1 := wtF_mem h
  have h2 := List.length_pos_of_mem (List.mem_filter.1 h).1
  rw [rngI_len] at h2
  omega
/-- What the first loop leaves. -/
structure On1 (zs : List Int) (k : Nat) (st : Nat → Int) (wl : Nat → List Int) : Prop where
  done : ∀ m, 1 ≤ m → m < k → wl m = Wt zs m ∧ ((st m = 0 ∧ Wt zs m ≠ []) ∨ (st m = 1 ∧ Wt zs m = []))
  rest : ∀ m, k ≤ m → st m = 0 ∧ wl m = []
/-- Who waits, of the first. -/
def E1 (zs : List Int) (k : Nat) : Rel := fun q j => ∃ m : Nat, j = m ∧ 1 ≤ m ∧ m < k ∧ q ∈ Wt zs m
set_option maxHeartbeats 8000000 in
set_option maxRecDepth 100000 in
theorem dagOnce_walk (a : Option Addr) (len cap : Nat) (zs : List Int) (kl : Int) (w : World) (h : IsRow .i64 w a len cap zs) (wk : (Lit.int .i64 kl).wf = true) :
    Calls Try.prog 6 #[.slice a len cap, .int .i64 kl] w fun e w' => e = .returned (.bool true) ∧ Below w.heap.size w w' := by
  have hlen := h.len_le
  have hh : Hid (IsRow .i64 w a len cap zs) := h
  clear h
  obtain ⟨n, hn, n24, nlen⟩ : ∃ n : Nat, min (len : Int) 24 = n ∧ n ≤ 24 ∧ n ≤ len := ⟨min len 24, by omega, by omega, by omega⟩
  have mn := fun w => min2 3 #[3, 3] (len : Int) 24 n hn w
  obtain ⟨S, hS⟩ : ∃ S, w.heap.size = S := ⟨_, rfl⟩
  go_enter Try.func6, Try.ntmps6
  go_wp2_with fail
  refine (newG w).mono ?_
  rintro e w1 ⟨B, X, rfl, D, low, b1⟩
  have A : Abv w S w1 X := ⟨by rw [← hS]; exact b1, by rw [← hS]; exact low, by rw [← hS]; exact b1.size⟩
  obtain ⟨S1, hS1⟩ : ∃ S1, w1.heap.size = S1 := ⟨_, rfl⟩
  obtain ⟨w2, hw2⟩ : ∃ w2, (w1.alloc (.cells #[.int .i64 0, .int .i64 0, .int .i64 0, .int .i64 0, .int .i64 0, .int .i64 0, .int .i64 0, .int .i64 0, .int .i64 0, .int .i64 0, .int .i64 0, .int .i64 0, .int .i64 0, .int .i64 0, .int .i64 0, .int .i64 0, .int .i64 0, .int .i64 0, .int .i64 0, .int .i64 0, .int .i64 0, .int .i64 0, .int .i64 0, .int .i64 0, .int .i64 0, .int .i64 0] 43)).alloc (.cells #[.slice none 0 0, .slice none 0 0, .slice none 0 0, .slice none 0 0, .slice none 0 0, .slice none 0 0, .slice none 0 0, .slice none 0 0, .slice none 0 0, .slice none 0 0, .slice none 0 0, .slice none 0 0, .slice none 0 0, .slice none 0 0, .slice none 0 0, .slice none 0 0, .slice none 0 0, .slice none 0 0, .slice none 0 0, .slice none 0 0, .slice none 0 0, .slice none 0 0, .slice none 0 0, .slice none 0 0, .slice none 0 0, .slice none 0 0] 44) = w2 := ⟨_, rfl⟩
  have H0 : Aside (OnM w2 S S1 (S1 + 1) X (fun _ => 0) (fun _ => .slice none 0 0) (fun _ => []) ∧ Dg w2 X B (fun _ _ => False) 0 ∧ Abv w S w2 X) := by
    have x1 : Below w1.heap.size w1 (w1.alloc (.cells #[.int .i64 0, .int .i64 0, .int .i64 0, .int .i64 0, .int .i64 0, .int .i64 0, .int .i64 0, .int .i64 0, .int .i64 0, .int .i64 0, .int .i64 0, .int .i64 0, .int .i64 0, .int .i64 0, .int .i64 0, .int .i64 0, .int .i64 0, .int .i64 0, .int .i64 0, .int .i64 0, .int .i64 0, .int .i64 0, .int .i64 0, .int .i64 0, .int .i64 0, .int .i64 0] 43)) := (Below.refl _ _).alloc (Nat.le_refl _) _
    have x2 : Below (w1.alloc (.cells #[.int .i64 0, .int .i64 0, .int .i64 0, .int .i64 0, .int .i64 0, .int .i64 0, .int .i64 0, .int .i64 0, .int .i64 0, .int .i64 0, .int .i64 0, .int .i64 0, .int .i64 0, .int .i64 0, .int .i64 0, .int .i64 0, .int .i64 0, .int .i64 0, .int .i64 0, .int .i64 0, .int .i64 0, .int .i64 0, .int .i64 0, .int .i64 0, .int .i64 0, .int .i64 0] 43)).heap.size (w1.alloc (.cells #[.int .i64 0, .int .i64 0, .int .i64 0, .int .i64 0, .int .i64 0, .int .i64 0, .int .i64 0, .int .i64 0, .int .i64 0, .int .i64 0, .int .i64 0, .int .i64 0, .int .i64 0, .int .i64 0, .int .i64 0, .int .i64 0, .int .i64 0, .int .i64 0, .int .i64 0, .int .i64 0, .int .i64 0, .int .i64 0, .int .i64 0, .int .i64 0, .int .i64 0, .int .i64 0] 43)) w2 := by rw [← hw2]; exact (Below.refl _ _).alloc (Nat.le_refl _) _
    have z1 : B26 43 (w1.alloc (.cells #[.int .i64 0, .int .i64 0, .int .i64 0, .int .i64 0, .int .i64 0, .int .i64 0, .int .i64 0, .int .i64 0, .int .i64 0, .int .i64 0, .int .i64 0, .int .i64 0, .int .i64 0, .int .i64 0, .int .i64 0, .int .i64 0, .int .i64 0, .int .i64 0, .int .i64 0, .int .i64 0, .int .i64 0, .int .i64 0, .int .i64 0, .int .i64 0, .int .i64 0, .int .i64 0] 43)) w1.heap.size (fun _ => .int .i64 0) := B26.new _ _ _ _ rfl
    have z2 : B26 44 w2 (w1.alloc (.cells #[.int .i64 0, .int .i64 0, .int .i64 0, .int .i64 0, .int .i64 0, .int .i64 0, .int .i64 0, .int .i64 0, .int .i64 0, .int .i64 0, .int .i64 0, .int .i64 0, .int .i64 0, .int .i64 0, .int .i64 0, .int .i64 0, .int .i64 0, .int .i64 0, .int .i64 0, .int .i64 0, .int .i64 0, .int .i64 0, .int .i64 0, .int .i64 0, .int .i64 0, .int .i64 0] 43)).heap.size (fun _ => .slice none 0 0) := by rw [← hw2]; exact B26.new _ _ _ _ rfl
    have s2 : (w1.alloc (.cells #[.int .i64 0, .int .i64 0, .int .i64 0, .int .i64 0, .int .i64 0, .int .i64 0, .int .i64 0, .int .i64 0, .int .i64 0, .int .i64 0, .int .i64 0, .int .i64 0, .int .i64 0, .int .i64 0, .int .i64 0, .int .i64 0, .int .i64 0, .int .i64 0, .int .i64 0, .int .i64 0, .int .i64 0, .int .i64 0, .int .i64 0, .int .i64 0, .int .i64 0, .int .i64 0] 43)).heap.size = S1 + 1 := by rw [← hS1]; simp
    rw [hS1] at z1
    rw [s2] at z2
    have sz := A.sz
    refine ⟨⟨z1.below x2, z2, fun k => OwnI.nil _ _, fun k k' b _ hb => (by cases hb), fun k b hb => (by cases hb), fun hx => ?_, fun hx => ?_, by omega, by omega⟩, (D.below x1).below x2, (A.below x1).below x2⟩
    · have := D.lt hx; omega
    · have := D.lt hx; omega
  clear D A low b1 hn
  go_upto_region 7 with fail
  clear hw2 mn
  go_wp2_with fail
  go_loopw [9] (fun i wr => ∃ (k : Nat) (X' : Nat → Prop) (st : Nat → Int) (vw : Nat → Value) (wl : Nat → List Int), 1 ≤ k ∧ k ≤ n + 1 ∧ i = .int .i64 k ∧ OnM wr S S1 (S1 + 1) X' st vw wl ∧ Dg wr X' B (E1 zs k) (100 * k) ∧ Abv w S wr X' ∧ On1 zs k st wl) (fun i _ => 200 - (intOf i).toNat)
  case atStart =>
    obtain ⟨h1, h2, h3⟩ := H0.out
    exact ⟨1, X, _, _, _, by omega, by omega, rfl, h1, (h2.up (by omega)).congr (fun q j => ⟨fun ⟨m, hm⟩ => by omega, fun h => h.elim⟩), h3, ⟨fun m h1 h2 => by omega, fun m hm => ⟨rfl, rfl⟩⟩⟩
  case round =>
    obtain ⟨k, X1, st, vw, wl, k0, k1, rfl, M, D, A, O⟩ := hrel
    by_cases c : k ≤ n
    · have H1 : Aside (OnM wr S S1 (S1 + 1) X1 st vw wl ∧ Dg wr X1 B (E1 zs k) (100 * k) ∧ Abv w S wr X1 ∧ wl k = wtF zs k (1 - 1) ∧ ∀ m, 1 ≤ m → m < k → wl m = Wt zs m) := ⟨M, D, A, by rw [(O.rest k (Nat.le_refl _)).2]; rfl, fun m h1 h2 => (O.done m h1 h2).1⟩
      have HO : Aside (On1 zs k st wl) := O
      clear M D A O H0
      go_wp2_with fail
      go_loopw [10] (fun i wr => ∃ (j : Nat) (vw' : Nat → Value) (wl' : Nat → List Int), 1 ≤ j ∧ j ≤ k ∧ i = .int .i64 j ∧ OnM wr S S1 (S1 + 1) X1 st vw' wl' ∧ Dg wr X1 B (E1 zs k) (100 * k) ∧ Abv w S wr X1 ∧ wl' k = wtF zs k (j - 1) ∧ ∀ m, m ≠ k → wl' m = wl m) (fun i _ => 200 - (intOf i).toNat)
      case atStart =>
        obtain ⟨h1, h2, h3, h4, h5⟩ := H1.out
        exact ⟨1, vw, wl, by omega, by omega, rfl, h1, h2, h3, h4, fun m _ => rfl⟩
      case round =>
        obtain ⟨j, vw1, wl1, j0, j1, rfl, M, D, A, ek, eo⟩ := hrel
        by_cases c : j < k
        · obtain ⟨J, rfl⟩ : ∃ J, j = J + 1 := ⟨j - 1, by omega⟩
          obtain ⟨g, off, rfl, gb, hc, hw⟩ := hh.out.at (j := k - 1) (by omega)
          have hc : wr.cell? ⟨g, off + (k - 1), none⟩ = some (.int .i64 (zs.getD (k - 1) 0)) := by rw [← hc]; exact A.bel.cell (p := ⟨g, off + (k - 1), none⟩) (by show g < S; omega)
          have ws := wtF_succ zs k J
          obtain ⟨z, hz⟩ : ∃ z, zs.getD (k - 1) 0 = z := ⟨_, rfl⟩
          rw [hz] at hc ws
          have e1 : (k : Int) - 1 = ((k - 1 : Nat) : Int) := by omega
          have cw := M.wb.cell (k := k) (by omega)
          have ll : (wl1 k).length < 1000 := by rw [ek]; have := wtF_len zs k (J + 1 - 1); omega
          obtain ⟨v3, w3, hr3, ⟨cw3, fz3⟩, M3, F3⟩ := M.push (k := k) (by omega) ((J + 1 : Nat) : Int) ll A.sz (fun b hb => D.lt hb)
          have o3 := M3.own k
          simp only [bset_same, if_true] at o3
          obtain ⟨a3, c3, e3, _⟩ := o3.isI
          obtain ⟨L3, hL3⟩ : ∃ L3, (wl1 k ++ [((J + 1 : Nat) : Int)]).length = L3 := ⟨_, rfl⟩
          rw [hL3] at e3
          subst e3
          clear o3 hL3
          have hF3 : ∀ b, (b = S1 + 1 ∨ (vw1 k).ownBlock = some b) → S ≤ b := fun b hb => hb.elim (fun e => by rw [e]; exact M.lw) (fun e => ((M.own k).rowLt e).1)
          have nF3 : ∀ b, X1 b → ¬ (b = S1 + 1 ∨ (vw1 k).ownBlock = some b) := fun b hx hb => hb.elim (fun e => M.nw (by rw [← e]; exact hx)) (fun e => M.nx k b e hx)
          obtain ⟨bb, hbb⟩ : ∃ bb, (bits BinOp.and IntKind.i64 (z / 2 ^ (J + 1)) 1 == 1) = bb := ⟨_, rfl⟩
          have hb' : bitB z (J + 1) = bb := hbb
          rw [hb'] at ws
          cases bb with
          | true =>
            have NX : Aside (OnM (w3.setCell ⟨S1 + 1, k, none⟩ (.slice a3 L3 c3)) S S1 (S1 + 1) X1 st (bset vw1 k (.slice a3 L3 c3)) (fun m => if m = k then wl1 k ++ [((J + 1 : Nat) : Int)] else wl1 m) ∧ Dg (w3.setCell ⟨S1 + 1, k, none⟩ (.slice a3 L3 c3)) X1 B (E1 zs k) (100 * k) ∧ Abv w S (w3.setCell ⟨S1 + 1, k, none⟩ (.slice a3 L3 c3)) X1 ∧ (fun m => if m = k then wl1 k ++ [((J + 1 : Nat) : Int)] else wl1 m) k = wtF zs k (J + 1 + 1 - 1) ∧ ∀ m, m ≠ k → (fun m => if m = k then wl1 k ++ [((J + 1 : Nat) : Int)] else wl1 m) m = wl m) :=
              ⟨M3, D.fr F3 nF3, A.fr F3 hF3, by simp only [if_true]; rw [ek, show J + 1 + 1 - 1 = J + 1 by omega, ws, if_pos rfl]; rfl, fun m hm => by simp only [if_neg hm]; exact eo m hm⟩
            have R3 : Hid _ := hr3
            clear M D A ek eo M3 F3 hF3 nF3 H1 ws ll hb' hz hw HO
            have hr3 := R3.out
            go_wp2_with (at_builtin; refine wpList_app _ rfl _ _ 24 rfl _ _ rfl rfl (.slice a3 L3 c3) w3 hr3 ?_; clear hr3)
            go_roundw
            case rel => exact ⟨J + 1 + 1, _, _, by omega, by omega, by go_num, NX.out⟩
            case measure => simp [intOf]; omega
          | false =>
            have NX : Aside (OnM wr S S1 (S1 + 1) X1 st vw1 wl1 ∧ Dg wr X1 B (E1 zs k) (100 * k) ∧ Abv w S wr X1 ∧ wl1 k = wtF zs k (J + 1 + 1 - 1) ∧ ∀ m, m ≠ k → wl1 m = wl m) :=
              ⟨M, D, A, by rw [ek, show J + 1 + 1 - 1 = J + 1 by omega, ws]; simp, eo⟩
            clear M D A ek eo M3 F3 hF3 nF3 H1 ws ll hb' hz hw HO hr3 cw3 fz3
            go_wp2_with fail
            go_roundw
            case rel => exact ⟨J + 1 + 1, _, _, by omega, by omega, by go_num, NX.out⟩
            case measure => simp [intOf]; omega
        · obtain rfl : j = k := by omega
          have O := HO.out
          have cw := M.wb.cell (k := j) (by omega)
          have ew : wl1 j = Wt zs j := ek
          obtain ⟨a4, c4, e4, q4⟩ := (M.own j).isI
          rw [ew] at e4 q4
          have P := add_ok D (by have := wtF_len zs j (j - 1); unfold Wt; omega) (id := (j : Int)) (wfI_of (by omega) (by omega)) q4 ((mayB_iff _ _).2 ⟨by omega, fun p hp => Wt_up zs j p hp⟩) (fun q ⟨m, hm⟩ => by omega)
          obtain ⟨L, hL⟩ : ∃ L, (Wt zs j).length = L := ⟨_, rfl⟩
          rw [hL] at P e4
          rw [e4] at cw
          have HM : Aside (OnM wr S S1 (S1 + 1) X1 st vw1 wl1 ∧ Abv w S wr X1 ∧ (∀ m, m ≠ j → wl1 m = wl m)) := ⟨M, A, eo⟩
          have HE4 : Hid _ := e4
          have HL : Hid _ := hL
          clear M D A ek eo H1 O q4 e4 hL
          go_wp2_with fail
          refine P.mono ?_
          rintro e w4 ⟨r, X4, rfl, ur, mr, D4, s4⟩
          obtain rfl : r = Wt zs j := ur.ext (wtF_up _ _ _) mr
          obtain ⟨M, A, eo⟩ := HM.out
          have M4 := M.step s4
          have A4 := A.st s4
          have cw4 := M4.wb.cell (k := j) (by omega)
          rw [HE4.out] at cw4
          rw [HL.out]
          have D5 : Dg w4 X4 B (E1 zs (j + 1)) (100 * (j + 1)) := (D4.up (by have := HL.out; have := wtF_len zs j (j - 1); unfold Wt at *; omega)).congr (fun q i => by
            unfold E1
            constructor
            · rintro ⟨m, h1, h2, h3, h4⟩
              by_cases e : m = j
              · subst e; exact .inr ⟨h1, h4⟩
              · exact .inl ⟨m, h1, h2, by omega, h4⟩
            · rintro (⟨m, h1, h2, h3, h4⟩ | ⟨h1, h2⟩)
              · exact ⟨m, h1, h2, by omega, h4⟩
              · exact ⟨j, h1, k0, by omega, h2⟩)
          have O := HO.out
          by_cases c0 : L = 0
          · have nil : Wt zs j = [] := List.length_eq_zero_iff.1 (by rw [HL.out]; exact c0)
            have cs4 := M4.sb.cell (k := j) (by omega)
            have fs4 := M4.sb.frozen j
            obtain ⟨M5, F5⟩ := M4.setS (k := j) (by omega) 1
            have O5 : On1 zs (j + 1) (sset st j 1) wl1 := by
              refine ⟨fun m h1 h2 => ?_, fun m hm => ?_⟩
              · by_cases e : m = j
                · subst e; exact ⟨ew, .inr ⟨by simp [sset], nil⟩⟩
                · rw [eo m e]; simp only [sset, if_neg e]; exact O.done m h1 (by omega)
              · rw [eo m (by omega)]; simp only [sset, if_neg (show m ≠ j by omega)]; exact O.rest m (by omega)
            have NX : Aside (OnM (w4.setCell ⟨S1, j, none⟩ (.int .i64 1)) S S1 (S1 + 1) X4 (sset st j 1) vw1 wl1 ∧ Dg (w4.setCell ⟨S1, j, none⟩ (.int .i64 1)) X4 B (E1 zs (j + 1)) (100 * (j + 1)) ∧ Abv w S (w4.setCell ⟨S1, j, none⟩ (.int .i64 1)) X4 ∧ On1 zs (j + 1) (sset st j 1) wl1) :=
              ⟨M5, D5.fr F5 (fun b hx e => M4.ns (by rw [← e]; exact hx)), A4.fr F5 (fun b e => by rw [e]; exact M4.ls), O5⟩
            clear P D4 s4 M A eo M4 A4 D5 O M5 F5 O5 HM HO ur mr HE4 HL ew
            subst c0
            go_wp2_with fail
            go_roundw
            case rel => exact ⟨j + 1, X4, _, _, _, by omega, by omega, by go_num, NX.out⟩
            case measure => simp [intOf]; omega
          · have nnil : Wt zs j ≠ [] := fun e => c0 (by rw [← HL.out, e]; rfl)
            have O5 : On1 zs (j + 1) st wl1 := by
              refine ⟨fun m h1 h2 => ?_, fun m hm => ?_⟩
              · by_cases e : m = j
                · subst e; exact ⟨ew, .inl ⟨(O.rest m (Nat.le_refl _)).1, nnil⟩⟩
                · rw [eo m e]; exact O.done m h1 (by omega)
              · rw [eo m (by omega)]; exact O.rest m (by omega)
            have NX : Aside (OnM w4 S S1 (S1 + 1) X4 st vw1 wl1 ∧ Dg w4 X4 B (E1 zs (j + 1)) (100 * (j + 1)) ∧ Abv w S w4 X4 ∧ On1 zs (j + 1) st wl1) := ⟨M4, D5, A4, O5⟩
            have cL : ¬ ((L : Int) = 0) := by omega
            clear P D4 s4 M A eo M4 A4 D5 O O5 HM HO ur mr HE4 HL ew
            go_wp2_with fail
            go_roundw
            case rel => exact ⟨j + 1, X4, _, _, _, by omega, by omega, by go_num, NX.out⟩
            case measure => simp [intOf]; omega
    · have hwl : Aside (∀ m, 1 ≤ m → m ≤ n → wl m = Wt zs m) := fun m h1 h2 => (O.done m h1 (by omega)).1
      have H2 : Aside (OnM wr S S1 (S1 + 1) X1 st vw wl ∧ Dg wr X1 B (E1 zs (n + 1)) 2500 ∧ Abv w S wr X1 ∧ OnI (Wt zs) n 1 st (E1 zs (n + 1))) := by
        obtain rfl : k = n + 1 := by omega
        exact ⟨M, D.up (by omega), A, OnI.start (Wt_up zs) (fun m h1 h2 => (O.done m h1 (by omega)).2) (fun q j => by
          unfold E1
          constructor
          · rintro ⟨m, h1, h2, h3, h4⟩; exact ⟨m, h1, h2, by omega, h4⟩
          · rintro ⟨m, h1, h2, h3, h4⟩; exact ⟨m, h1, h2, by omega, h4⟩)⟩
      clear M D A O H0
      go_wp2_with fail
      go_loopw [13] (fun i wr => ∃ (k : Nat) (X' : Nat → Prop) (st' : Nat → Int) (E : Rel), 1 ≤ k ∧ k ≤ n + 1 ∧ i = .int .i64 k ∧ OnM wr S S1 (S1 + 1) X' st' vw wl ∧ Dg wr X' B E 2500 ∧ Abv w S wr X' ∧ OnI (Wt zs) n k st' E) (fun i _ => 200 - (intOf i).toNat)
      case atStart => exact ⟨1, X1, st, _, by omega, by omega, rfl, H2.out⟩
      case round =>
        obtain ⟨k, X2, st2, E2, k0, k1, rfl, M, D, A, O⟩ := hrel
        by_cases c : k ≤ n
        · have cs := M.sb.cell (k := k) (by omega)
          rcases O.here k0 c with s1 | s1
          · rw [s1] at cs
            obtain ⟨bk, hbk⟩ : ∃ bk, (bits BinOp.and IntKind.i64 (kl / 2 ^ k) 1 == 1) = bk := ⟨_, rfl⟩
            have HM : Aside (OnM wr S S1 (S1 + 1) X2 st2 vw wl ∧ Dg wr X2 B E2 2500 ∧ Abv w S wr X2 ∧ OnI (Wt zs) n k st2 E2) := ⟨M, D, A, O⟩
            cases bk with
            | true =>
              have P := killG D (by omega) (id := (k : Int)) (wfI_of (by omega) (by omega))
              clear M D A O H2
              go_wp2_with fail
              refine P.mono ?_
              rintro e w3 ⟨v3, d3, X3, rfl, o3, u3, m3, D3, s3, di3, l3⟩
              obtain ⟨M, D, A, O⟩ := HM.out
              have M3 := M.step s3
              have A3 := A.st s3
              have cs3 := M3.sb.cell (k := k) (by omega)
              have fs3 := M3.sb.frozen k
              obtain ⟨M4, F4⟩ := M3.setS (k := k) (by omega) 3
              have o3' := o3.low A.sz
              obtain ⟨a3, c3, e3, _⟩ := o3.isI
              obtain ⟨m, hm⟩ : ∃ m, d3.length = m := ⟨_, rfl⟩
              rw [hm] at e3
              subst e3
              have H4 : Aside (OnM (w3.setCell ⟨S1, k, none⟩ (.int .i64 3)) S S1 (S1 + 1) X3 (sset st2 k 3) vw wl ∧ Dg (w3.setCell ⟨S1, k, none⟩ (.int .i64 3)) X3 B (fun q j => E2 q j ∧ j ≠ k ∧ ¬ Rch E2 k j) 2500 ∧ Abv w S (w3.setCell ⟨S1, k, none⟩ (.int .i64 3)) X3 ∧ OwnI (w3.setCell ⟨S1, k, none⟩ (.int .i64 3)) S (.slice a3 m c3) d3) :=
                ⟨M4, D3.fr F4 (fun b hx e => M3.ns (by rw [← e]; exact hx)), A3.fr F4 (fun b e => by rw [e]; exact M3.ls), o3'.fr F4 (fun b hb => B26.row M3.sb o3' (by decide) hb)⟩
              have HO : Aside (OnI (Wt zs) n k st2 E2) := O
              have lm : m ≤ 2500 := by omega
              clear P D3 s3 M D A O M3 A3 M4 F4 o3 o3' di3 l3 HM
              go_wp2_with fail
              go_loopw [15] (fun i wr => ∃ (I : Nat) (st' : Nat → Int), I ≤ m ∧ i = .int .i64 I ∧ OnM wr S S1 (S1 + 1) X3 st' vw wl ∧ Dg wr X3 B (fun q j => E2 q j ∧ j ≠ k ∧ ¬ Rch E2 k j) 2500 ∧ Abv w S wr X3 ∧ OwnI wr S (.slice a3 m c3) d3 ∧ st' k = 3 ∧ (∀ j : Nat, j ≠ k → (j : Int) ∈ d3.take I → st' j = 2) ∧ ∀ j : Nat, j ≠ k → (j : Int) ∉ d3.take I → st' j = st2 j) (fun i _ => m - (intOf i).toNat)
              case atStart =>
                obtain ⟨h1, h2, h3, h4⟩ := H4.out
                exact ⟨0, _, by omega, rfl, h1, h2, h3, h4, by simp [sset], fun j hj hh => by simp at hh, fun j hj _ => by simp [sset, hj]⟩
              case round =>
                obtain ⟨I, st3, hI, rfl, M, D, A, o, t3, t2, t0⟩ := hrel
                by_cases c5 : I < m
                · obtain ⟨g, off, e5, hc⟩ := o.get hm c5
                  obtain ⟨j, hj, kj, jn, sj⟩ := HO.out.rch ((m3 (d3.getD I 0)).1 (getD_mem (by omega)))
                  have hnt : ((j : Nat) : Int) ∉ d3.take I := by rw [← hj]; exact nodup_take u3.nodup (I := I) (by omega)
                  rw [hj] at hc
                  have cj := M.sb.cell (k := j) (by omega)
                  have fj := M.sb.frozen j
                  have ej : st3 j = 0 := by rw [t0 j (by omega) hnt]; exact sj
                  rw [ej] at cj
                  obtain ⟨M6, F6⟩ := M.setS (k := j) (by omega) 2
                  have tk : ∀ x : Int, x ∈ d3.take (I + 1) ↔ x ∈ d3.take I ∨ x = j := fun x => by rw [mem_take_up (by omega), hj]
                  have NX : Aside (∀ nq, OnM ((wr.drewN nq).setCell ⟨S1, j, none⟩ (.int .i64 2)) S S1 (S1 + 1) X3 (sset st3 j 2) vw wl ∧ Dg ((wr.drewN nq).setCell ⟨S1, j, none⟩ (.int .i64 2)) X3 B (fun q j => E2 q j ∧ j ≠ k ∧ ¬ Rch E2 k j) 2500 ∧ Abv w S ((wr.drewN nq).setCell ⟨S1, j, none⟩ (.int .i64 2)) X3 ∧ OwnI ((wr.drewN nq).setCell ⟨S1, j, none⟩ (.int .i64 2)) S (.slice a3 m c3) d3 ∧ (sset st3 j 2) k = 3 ∧ (∀ i : Nat, i ≠ k → (i : Int) ∈ d3.take (I + 1) → (sset st3 j 2) i = 2) ∧ ∀ i : Nat, i ≠ k → (i : Int) ∉ d3.take (I + 1) → (sset st3 j 2) i = st2 i) := fun nq => by
                    have bq := below_drewN wr nq
                    obtain ⟨M7, F7⟩ := (M.below bq).setS (k := j) (by omega) 2
                    refine ⟨M7, (D.below bq).fr F7 (fun b hx e => M.ns (by rw [← e]; exact hx)), (A.below bq).fr F7 (fun b e => by rw [e]; exact M.ls), (o.below bq).fr F7 (fun b hb => B26.row (M.below bq).sb (o.below bq) (by decide) hb), by simp only [sset, if_neg (show k ≠ j by omega)]; exact t3, fun i hi hm => ?_, fun i hi hm => ?_⟩
                    · by_cases e : i = j
                      · simp [sset, e]
                      · simp only [sset, if_neg e]
                        exact t2 i hi (((tk _).1 hm).elim id (fun hh => absurd (by omega) e))
                    · have ne : i ≠ j := fun e => hm ((tk _).2 (.inr (by rw [e])))
                      simp only [sset, if_neg ne]
                      exact t0 i hi (fun hh => hm ((tk _).2 (.inl hh)))
                  have g1 : decide (j ≤ k) = false := decide_eq_false (by omega)
                  have g2 : decide (n < j) = false := decide_eq_false (by omega)
                  by_cases c0 : I = 0
                  · subst c0
                    as_aux_lemma =>
                      clear M D A o t3 t2 t0 HO M6 F6 tk H4 hnt hj
                      subst e5
                      rw [Nat.add_zero] at hc
                      go_wp2_with fail
                      go_quiet (fail)
                      go_wp2_with fail
                      go_roundw
                      case rel => exact ⟨1, _, by omega, by go_num, NX.out _⟩
                      case measure => simp [intOf]; omega
                  · obtain ⟨I', hI'⟩ : ∃ I', I = I' + 1 := ⟨I - 1, by omega⟩
                    as_aux_lemma =>
                      obtain ⟨g', off', e5', hc'⟩ := o.get hm (I := I') (by omega)
                      have lt : d3.getD I' 0 < ((j : Nat) : Int) := by
                        rw [← hj, hI']
                        have h1 : I' < d3.length := by omega
                        have h2 : I' + 1 < d3.length := by omega
                        rw [List.getD, List.getD, List.getElem?_eq_getElem h1, List.getElem?_eq_getElem h2]
                        exact List.pairwise_iff_getElem.1 u3 I' (I' + 1) h1 h2 (by omega)
                      rw [e5] at e5'
                      simp only [Option.some.injEq, Addr.mk.injEq, and_true] at e5'
                      obtain ⟨rfl, rfl⟩ := e5'
                      obtain ⟨y, hy⟩ : ∃ y, d3.getD I' 0 = y := ⟨_, rfl⟩
                      rw [hy] at hc' lt
                      have g5 : decide (((j : Nat) : Int) ≤ y) = false := decide_eq_false (by omega)
                      have g6 : (I : Int) - 1 = (I' : Int) := by omega
                      have g7 : decide (0 < I) = true := decide_eq_true (by omega)
                      have hpos : 0 < I := by omega
                      have hlt : I' < m := by omega
                      clear hI'
                      clear M D A o t3 t2 t0 HO M6 F6 tk H4 hnt hj hy
                      subst e5
                      go_wp2_with fail
                      go_quiet (fail)
                      go_wp2_with fail
                      go_roundw
                      case rel => exact ⟨I + 1, _, by omega, by go_num, NX.out _⟩
                      case measure => simp [intOf]; omega
                · obtain rfl : I = m := by omega
                  rw [List.take_of_length_le (by omega)] at t2 t0
                  have NX : Aside (OnM wr S S1 (S1 + 1) X3 st3 vw wl ∧ Dg wr X3 B (fun q j => E2 q j ∧ j ≠ k ∧ ¬ Rch E2 k j) 2500 ∧ Abv w S wr X3 ∧ OnI (Wt zs) n (k + 1) st3 (fun q j => E2 q j ∧ j ≠ k ∧ ¬ Rch E2 k j)) :=
                    ⟨M, D, A, HO.out.kill k0 c s1 t3 (fun i _ hi hr => t2 i hi ((m3 _).2 hr)) (fun i _ hi hr => t0 i hi (fun hh => hr ((m3 _).1 hh)))⟩
                  clear M D A o t3 t2 t0 HO H4
                  go_wp2_with fail
                  go_roundw
                  case rel => exact ⟨k + 1, X3, _, _, by omega, by omega, by go_num, NX.out⟩
                  case measure => simp [intOf]; omega
            | false =>
              have cs0 := M.sb.frozen k
              obtain ⟨M3, F3⟩ := M.setS (k := k) (by omega) 3
              have D3 := D.fr F3 (fun b hx e => M.ns (by rw [← e]; exact hx))
              have A3 := A.fr F3 (fun b e => by rw [e]; exact M.ls)
              have P := doneG D3 (by omega) (id := (k : Int)) (wfI_of (by omega) (by omega))
              have HM3 : Aside (OnM (wr.setCell ⟨S1, k, none⟩ (.int .i64 3)) S S1 (S1 + 1) X2 (sset st2 k 3) vw wl ∧ Abv w S (wr.setCell ⟨S1, k, none⟩ (.int .i64 3)) X2) := ⟨M3, A3⟩
              clear M D A O H2 M3 D3 A3 F3
              go_wp2_with fail
              refine P.mono ?_
              rintro e w4 ⟨v4, d4, X4, rfl, o4, u4', m4, D4, s4, di4, l4⟩
              obtain ⟨M3, A3⟩ := HM3.out
              have M4 := M3.step s4
              have A4 := A3.st s4
              have o4' := o4.low A3.sz
              obtain ⟨a4, c4, e4, _⟩ := o4.isI
              obtain ⟨m, hm⟩ : ∃ m, d4.length = m := ⟨_, rfl⟩
              rw [hm] at e4
              subst e4
              have H4 : Aside (OnM w4 S S1 (S1 + 1) X4 (sset st2 k 3) vw wl ∧ Dg w4 X4 B (fun q j => E2 q j ∧ q ≠ k) 2500 ∧ Abv w S w4 X4 ∧ OwnI w4 S (.slice a4 m c4) d4) := ⟨M4, D4, A4, o4'⟩
              have HO : Aside (OnI (Wt zs) n k st2 E2) := HM.out.2.2.2
              have lm : m ≤ 2500 := by omega
              clear P D4 s4 M3 A3 M4 A4 o4 o4' di4 l4 HM HM3 cs0 cs
              go_wp2_with fail
              go_loopw [17] (fun i wr => ∃ (I : Nat) (st' : Nat → Int), I ≤ m ∧ i = .int .i64 I ∧ OnM wr S S1 (S1 + 1) X4 st' vw wl ∧ Dg wr X4 B (fun q j => E2 q j ∧ q ≠ k) 2500 ∧ Abv w S wr X4 ∧ OwnI wr S (.slice a4 m c4) d4 ∧ st' k = 3 ∧ (∀ j : Nat, j ≠ k → (j : Int) ∈ d4.take I → st' j = 1) ∧ ∀ j : Nat, j ≠ k → (j : Int) ∉ d4.take I → st' j = st2 j) (fun i _ => m - (intOf i).toNat)
              case atStart =>
                obtain ⟨h1, h2, h3, h4⟩ := H4.out
                exact ⟨0, _, by omega, rfl, h1, h2, h3, h4, by simp [sset], fun j hj hh => by simp at hh, fun j hj _ => by simp [sset, hj]⟩
              case round =>
                obtain ⟨I, st3, hI, rfl, M, D, A, o, t3, t2, t0⟩ := hrel
                by_cases c5 : I < m
                · obtain ⟨g, off, e5, hc⟩ := o.get hm c5
                  obtain ⟨j, hj, kj, jn, sj, kin, all⟩ := HO.out.told ((m4 (d4.getD I 0)).1 (getD_mem (by omega)))
                  have hnt : ((j : Nat) : Int) ∉ d4.take I := by rw [← hj]; exact nodup_take u4'.nodup (I := I) (by omega)
                  rw [hj] at hc
                  have cj := M.sb.cell (k := j) (by omega)
                  have fj := M.sb.frozen j
                  have ej : st3 j = 0 := by rw [t0 j (by omega) hnt]; exact sj
                  rw [ej] at cj
                  have cw := M.wb.cell (k := j) (by omega)
                  obtain ⟨aj, qj, ew, isw⟩ := (M.own j).isI
                  rw [hwl.out j (by omega) jn] at ew isw
                  obtain ⟨L, hL⟩ : ∃ L, (Wt zs j).length = L := ⟨_, rfl⟩
                  have HAS0 := fun nq => has_any (isw.below (below_drewN wr nq)) ((k : Nat) : Int)
                  have LB := wtF_len zs j (j - 1)
                  have LB2 : L ≤ 30 := by rw [← hL]; unfold Wt; omega
                  rw [hL] at ew
                  rw [ew] at cw
                  rw [hL, show decide (((k : Nat) : Int) ∈ Wt zs j) = true from decide_eq_true kin] at HAS0
                  have HAS : Aside (∀ nq, Calls Try.prog 22 #[.slice aj L qj, .int .i64 ((k : Nat) : Int)] (wr.drewN nq) fun e w' => e = .returned (.bool true) ∧ w' = wr.drewN nq) := HAS0
                  have tk : ∀ x : Int, x ∈ d4.take (I + 1) ↔ x ∈ d4.take I ∨ x = j := fun x => by rw [mem_take_up (by omega), hj]
                  have ST : Aside (∀ q ∈ Wt zs j, ∃ q' : Nat, q = q' ∧ q' < 26 ∧ st3 q' = 3) := fun q hq => by
                    have u := Wt_up zs j q hq
                    refine ⟨q.toNat, by omega, by omega, ?_⟩
                    rcases all q hq with e | ⟨e, s⟩
                    · rw [e]; simpa using t3
                    · rw [t0 q.toNat (by omega) (fun hh => ?_)]
                      · exact s
                      · obtain ⟨k', e1, e2, _⟩ := HO.out.told ((m4 _).1 (List.mem_of_mem_take hh))
                        omega
                  have HSB : Aside (∀ q, q < 26 → wr.cell? ⟨S1, q, none⟩ = some (.int .i64 (st3 q))) := fun q hq => M.sb.cell hq
                  have HIW : Aside (IsI wr aj qj (Wt zs j)) := isw
                  have NX : Aside (∀ nq, OnM ((wr.drewN nq).setCell ⟨S1, j, none⟩ (.int .i64 1)) S S1 (S1 + 1) X4 (sset st3 j 1) vw wl ∧ Dg ((wr.drewN nq).setCell ⟨S1, j, none⟩ (.int .i64 1)) X4 B (fun q j => E2 q j ∧ q ≠ k) 2500 ∧ Abv w S ((wr.drewN nq).setCell ⟨S1, j, none⟩ (.int .i64 1)) X4 ∧ OwnI ((wr.drewN nq).setCell ⟨S1, j, none⟩ (.int .i64 1)) S (.slice a4 m c4) d4 ∧ (sset st3 j 1) k = 3 ∧ (∀ i : Nat, i ≠ k → (i : Int) ∈ d4.take (I + 1) → (sset st3 j 1) i = 1) ∧ ∀ i : Nat, i ≠ k → (i : Int) ∉ d4.take (I + 1) → (sset st3 j 1) i = st2 i) := fun nq => by
                    have bq := below_drewN wr nq
                    obtain ⟨M7, F7⟩ := (M.below bq).setS (k := j) (by omega) 1
                    refine ⟨M7, (D.below bq).fr F7 (fun b hx e => M.ns (by rw [← e]; exact hx)), (A.below bq).fr F7 (fun b e => by rw [e]; exact M.ls), (o.below bq).fr F7 (fun b hb => B26.row (M.below bq).sb (o.below bq) (by decide) hb), by simp only [sset, if_neg (show k ≠ j by omega)]; exact t3, fun i hi hm => ?_, fun i hi hm => ?_⟩
                    · by_cases e : i = j
                      · simp [sset, e]
                      · simp only [sset, if_neg e]
                        exact t2 i hi (((tk _).1 hm).elim id (fun hh => absurd (by omega) e))
                    · have ne : i ≠ j := fun e => hm ((tk _).2 (.inr (by rw [e])))
                      simp only [sset, if_neg ne]
                      exact t0 i hi (fun hh => hm ((tk _).2 (.inl hh)))
                  have g1 : decide (j ≤ k) = false := decide_eq_false (by omega)
                  have g2 : decide (n < j) = false := decide_eq_false (by omega)
                  have HL : Hid _ := hL
                  by_cases c0 : I = 0
                  · subst c0
                    as_aux_lemma =>
                      clear M D A o t3 t2 t0 HO tk H4 hnt hj isw ew all kin hL HAS0 LB
                      subst e5
                      rw [Nat.add_zero] at hc
                      go_wp2_with fail
                      go_quiet ((go_at_call 22; exact Calls.quiet_of_same (HAS.out _)))
                      clear HAS
                      go_wp2_with fail
                      go_loopw [18] (fun i w8 => w8 = wr.drewN nq ∧ ∃ J : Nat, J ≤ L ∧ i = .int .i64 J) (fun i _ => L - (intOf i).toNat)
                      case atStart => exact ⟨rfl, 0, by omega, rfl⟩
                      case round =>
                        obtain ⟨rfl, J, hJ, rfl⟩ := hrel
                        by_cases c6 : J < L
                        · obtain ⟨gw, ow, rfl, _, hcw⟩ := HIW.out.at (j := J) (by rw [HL.out]; exact c6)
                          obtain ⟨q', eq', q26, sq⟩ := ST.out ((Wt zs j).getD J 0) (getD_mem (by rw [HL.out]; exact c6))
                          rw [eq'] at hcw
                          have cq := HSB.out q' q26
                          rw [sq] at cq
                          clear eq'
                          go_wp2_with fail
                          go_roundw
                          case rel => exact ⟨by trivial, J + 1, by omega, by go_num⟩
                          case measure => simp [intOf]; omega
                        · obtain rfl : J = L := by omega
                          go_wp2_with fail
                          go_roundw
                          case rel => exact ⟨1, _, by omega, by go_num, NX.out _⟩
                          case measure => simp [intOf]; omega
                  · obtain ⟨I', hI'⟩ : ∃ I', I = I' + 1 := ⟨I - 1, by omega⟩
                    as_aux_lemma =>
                      obtain ⟨g', off', e5', hc'⟩ := o.get hm (I := I') (by omega)
                      have lt : d4.getD I' 0 < ((j : Nat) : Int) := by
                        rw [← hj, hI']
                        have h1 : I' < d4.length := by omega
                        have h2 : I' + 1 < d4.length := by omega
                        rw [List.getD, List.getD, List.getElem?_eq_getElem h1, List.getElem?_eq_getElem h2]
                        exact List.pairwise_iff_getElem.1 u4' I' (I' + 1) h1 h2 (by omega)
                      rw [e5] at e5'
                      simp only [Option.some.injEq, Addr.mk.injEq, and_true] at e5'
                      obtain ⟨rfl, rfl⟩ := e5'
                      obtain ⟨y, hy⟩ : ∃ y, d4.getD I' 0 = y := ⟨_, rfl⟩
                      rw [hy] at hc' lt
                      have g5 : decide (((j : Nat) : Int) ≤ y) = false := decide_eq_false (by omega)
                      have g6 : (I : Int) - 1 = (I' : Int) := by omega
                      have g7 : decide (0 < I) = true := decide_eq_true (by omega)
                      have hpos : 0 < I := by omega
                      have hlt : I' < m := by omega
                      clear hI'
                      clear M D A o t3 t2 t0 HO tk H4 hnt hj hy isw ew all kin hL HAS0 LB
                      subst e5
                      go_wp2_with fail
                      go_quiet ((go_at_call 22; exact Calls.quiet_of_same (HAS.out _)))
                      clear HAS
                      go_wp2_with fail
                      go_loopw [18] (fun i w8 => w8 = wr.drewN nq ∧ ∃ J : Nat, J ≤ L ∧ i = .int .i64 J) (fun i _ => L - (intOf i).toNat)
                      case atStart => exact ⟨rfl, 0, by omega, rfl⟩
                      case round =>
                        obtain ⟨rfl, J, hJ, rfl⟩ := hrel
                        by_cases c6 : J < L
                        · obtain ⟨gw, ow, rfl, _, hcw⟩ := HIW.out.at (j := J) (by rw [HL.out]; exact c6)
                          obtain ⟨q', eq', q26, sq⟩ := ST.out ((Wt zs j).getD J 0) (getD_mem (by rw [HL.out]; exact c6))
                          rw [eq'] at hcw
                          have cq := HSB.out q' q26
                          rw [sq] at cq
                          clear eq'
                          go_wp2_with fail
                          go_roundw
                          case rel => exact ⟨by trivial, J + 1, by omega, by go_num⟩
                          case measure => simp [intOf]; omega
                        · obtain rfl : J = L := by omega
                          go_wp2_with fail
                          go_roundw
                          case rel => exact ⟨I + 1, _, by omega, by go_num, NX.out _⟩
                          case measure => simp [intOf]; omega
                · obtain rfl : I = m := by omega
                  rw [List.take_of_length_le (by omega)] at t2 t0
                  have NX : Aside (OnM wr S S1 (S1 + 1) X4 st3 vw wl ∧ Dg wr X4 B (fun q j => E2 q j ∧ q ≠ k) 2500 ∧ Abv w S wr X4 ∧ OnI (Wt zs) n (k + 1) st3 (fun q j => E2 q j ∧ q ≠ k)) :=
                    ⟨M, D, A, HO.out.done k0 c s1 t3 (fun i _ hi hr => t2 i hi ((m4 _).2 hr)) (fun i _ hi hr => t0 i hi (fun hh => hr ((m4 _).1 hh)))⟩
                  clear M D A o t3 t2 t0 HO H4
                  go_wp2_with fail
                  go_roundw
                  case rel => exact ⟨k + 1, X4, _, _, by omega, by omega, by go_num, NX.out⟩
                  case measure => simp [intOf]; omega
          · rw [s1] at cs
            have NX : Aside (OnM wr S S1 (S1 + 1) X2 st2 vw wl ∧ Dg wr X2 B E2 2500 ∧ Abv w S wr X2 ∧ OnI (Wt zs) n (k + 1) st2 E2) := ⟨M, D, A, O.skip k0 c s1⟩
            clear M D A O H2
            go_wp2_with fail
            go_roundw
            case rel => exact ⟨k + 1, X2, _, _, by omega, by omega, by go_num, NX.out⟩
            case measure => simp [intOf]; omega
        · have P := lenG D
          have AW : Aside (∀ u, Calls Try.prog 13 #[] u fun e w' => e = .returned (.bool true) ∧ Below u.heap.size u w') := awake_any
          have hA : Aside (Abv w S wr X2) := A
          have NO : Aside (∀ q j, ¬ E2 q j) := by
            obtain rfl : k = n + 1 := by omega
            exact O.fin
          clear M D A O H2
          go_wp2_with fail
          refine P.mono ?_
          rintro e w5 ⟨rfl, n5, rfl, hn5, ks, k1', k2, k3⟩
          obtain rfl : ks = [] := up_nil (fun x hx => by
            obtain ⟨p, hp⟩ := (k3 x).1 hx
            exact NO.out p x hp)
          obtain rfl : n5 = 0 := k2.symm
          clear P k3
          go_wp2_with fail
          refine (AW.out _).mono ?_
          rintro e w6 ⟨rfl, b6⟩
          clear AW
          go_wp2_with fail
          go_ret
          have := (hA.out.below b6).bel
          exact ⟨rfl, by first | exact this | (rw [hS]; exact this)⟩
end Go.Proofs.Ythpdnlokjhafeaa
