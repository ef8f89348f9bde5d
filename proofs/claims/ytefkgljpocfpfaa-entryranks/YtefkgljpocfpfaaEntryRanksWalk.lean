/- The walk of 'EntryRanks'. -/
import Derived.Test.YtefkgljpocfpfaaEntAwake
import Derived.Test.YtefkgljpocfpfaaEntC
import Derived.Test.YtefkgljpocfpfaaEntG
import Derived.Test.YtefkgljpocfpfaaEntR3
import Derived.Test.YtefkgljpocfpfaaEntPut
namespace Go.Proofs.Ytefkgljpocfpfaa
open Go.RowKit Go.Lib Go.Sort
set_option linter.unusedVariables false

theorem least_merge (A B : List Ent) : (mergeL A B).head? = (leastL [A, B] 2).map (·.2) := by
  cases A with
  | nil =>
    cases B with
    | nil => simp [mergeL, leastL, least1]
    | cons y B => simp [mergeL, leastL, least1]
  | cons x A =>
    cases B with
    | nil => simp [mergeL, leastL, least1]
    | cons y B =>
      cases h : ltE y x <;> simp [mergeL, leastL, least1, h]

theorem tmod_le (x : Int) (n : Nat) : -(n : Int) ≤ x.tmod ((n : Int) + 1) ∧ x.tmod ((n : Int) + 1) ≤ n := by
  have h1 := Int.tmod_lt_of_pos x (show (0 : Int) < (n : Int) + 1 by omega)
  have h2 := Int.tmod_lt_of_pos (-x) (show (0 : Int) < (n : Int) + 1 by omega)
  rw [Int.neg_tmod] at h2
  omega

set_option maxHeartbeats 4000000 in
set_option maxRecDepth 100000 in
theorem entryRanks_walk (a1 : Option Addr) (k1 : Nat) (l : List Ent) (cut : Int) (w : World) (h : IsL w a1 k1 l) (b1 : l.length ≤ 140737488355328) (hw : (Lit.int .i64 cut).wf = true) :
    Calls Try.prog 5 #[.slice a1 l.length k1, .int .i64 cut] w fun r w' => r = .returned (.bool true) ∧ Below w.heap.size w w' := by
  have mx := mixed
  have hcap := h.le
  have hbig := h.big
  unfold maxLen at hbig
  have H : Aside (IsL w a1 k1 l) := h
  clear h hw
  by_cases hs : l.length ≤ 80
  · by_cases hne : l = []
    · subst hne
      go_enter Try.func5, Try.ntmps5
      go_wp2_with fail
      refine (awake_any _).mono ?_
      rintro r v ⟨rfl, dv⟩
      go_wp2
      go_ret
      exact ⟨rfl, dv⟩
    · have hpos : 0 < l.length := List.length_pos_iff.2 hne
      have hz : ¬ (80 : Int) < (l.length : Int) := by omega
      have hz2 : ((l.length : Int) == 0) = false := by simp; omega
      have hz3 : ¬ (l.length : Int) = 0 := by omega
      obtain ⟨R, hR, R0, R1⟩ : ∃ R, cut.tmod ((l.length : Int) + 1) = R ∧ -(l.length : Int) ≤ R ∧ R ≤ l.length := ⟨_, rfl, (tmod_le _ _).1, (tmod_le _ _).2⟩
      obtain ⟨K, hK, hKn⟩ : ∃ K : Nat, (R + (l.length : Int) + 1) % ((l.length : Int) + 1) = K ∧ K ≤ l.length := by
        have h1 := Int.emod_nonneg (R + (l.length : Int) + 1) (show (l.length : Int) + 1 ≠ 0 by omega)
        have h2 := Int.emod_lt_of_pos (R + (l.length : Int) + 1) (show (0 : Int) < (l.length : Int) + 1 by omega)
        exact ⟨((R + (l.length : Int) + 1) % ((l.length : Int) + 1)).toNat, by omega, by omega⟩
      have nz : ¬ (l.length : Int) + 1 = 0 := by omega
      go_enter Try.func5, Try.ntmps5
      go_wp2_with fail
      refine (sort_any a1 k1 l w H.out (by omega)).mono ?_
      rintro r w1 ⟨x, xc, rfl, f1, d1⟩
      have D1 : Aside (Below w.heap.size w w1) := d1
      have H1 : Aside (IsL w1 a1 k1 l) := H.out.below d1
      have X1 : Aside (IsL w1 x xc (sortE l)) := f1
      clear f1 d1 H
      have k2 : (K : Int) ≤ (k1 : Int) := by omega
      have k3 : (K : Int) ≤ (l.length : Int) := by omega
      have k4 : (0 : Int) ≤ (K : Int) := by omega
      go_wp2_with fail
      simp only [hK]
      clear hK hR R0 R1 nz
      obtain ⟨s, hsl⟩ : ∃ s, sortE l = s := ⟨_, rfl⟩
      have SN : Hid (s.length = l.length) := by show s.length = l.length; rw [← hsl]; exact sortE_len l
      have SS : Aside (Srt s) := by rw [← hsl]; exact sortE_srt l
      have SM : Aside (mergeL (sortE (l.take K)) (sortE (l.drop K)) = s) := by
        show mergeL (sortE (l.take K)) (sortE (l.drop K)) = s
        rw [← hsl]
        refine sortE_of (mergeL_srt _ _ (sortE_srt _) (sortE_srt _)) ((mergeL_perm _ _).trans ?_)
        exact ((sortE_perm _).append (sortE_perm _)).trans (by rw [List.take_append_drop])
      rw [hsl] at X1 ⊢
      clear hsl
      obtain ⟨p1, hp1⟩ : ∃ p1, (if k1 = K then a1 else a1.map (·.add (K * 2))) = p1 := ⟨_, rfl⟩
      have sA : ∀ W, IsL W a1 k1 l → Calls Try.prog 10 #[.slice a1 K k1] W (Gives W (sortE (l.take K))) := fun W hW => by
        have := sort_any a1 k1 (l.take K) W (hW.take K) (by simp; omega)
        rw [show (l.take K).length = K by simp; omega] at this
        exact this
      have sB : ∀ W, IsL W a1 k1 l → Calls Try.prog 10 #[.slice p1 (l.length - K) (k1 - K)] W (Gives W (sortE (l.drop K))) := fun W hW => by
        have h2 := hW.drop K hKn
        rw [hp1] at h2
        have := sort_any p1 (k1 - K) (l.drop K) W h2 (by simp; omega)
        rw [show (l.drop K).length = l.length - K by simp] at this
        exact this
      have LA : IsL w1.drew a1 k1 l := H1.out.below ((Below.refl _ _).drew)
      go_region_held3 (fun _ => True) (trivial) ((first | (go_at_call 10; refine (sB wA LB).mono ?_; rintro r wB ⟨x2, y2, rfl, fB, dB⟩) | (go_at_call 10; refine (sA w1.drew LA).mono ?_; rintro r wA ⟨x1, y1, rfl, fA, dA⟩; have LB := LA.below dA)))
      obtain ⟨A, hA⟩ : ∃ A, sortE (l.take K) = A := ⟨_, rfl⟩
      obtain ⟨B, hB⟩ : ∃ B, sortE (l.drop K) = B := ⟨_, rfl⟩
      have hAl : A.length ≤ 80 := by rw [← hA, sortE_len]; simp; omega
      have hBl : B.length ≤ 80 := by rw [← hB, sortE_len]; simp; omega
      rw [hA] at fA SM ⊢
      rw [hB] at fB SM ⊢
      have d1 : Below w1.heap.size w1 wB := ((Below.refl _ _).drew).trans (dA.trans (dB.mono dA.size))
      have D2 : Aside (Below w.heap.size w wB) := Below.trans D1.out (Below.mono d1 D1.out.size)
      have A2 : Aside (IsL wB x1 y1 A) := fA.below dB
      have B2 : Aside (IsL wB x2 y2 B) := fB
      have X2 : Aside (IsL wB x xc s) := X1.out.below d1
      obtain ⟨j, y, ST, SY⟩ : ∃ (j : Nat) (y : Ent), Hid (leastL [A, B] 2 = some (j, y)) ∧ Aside (s[0]? = some y) := by
        have h1 := least_merge A B
        rw [SM.out] at h1
        have h2 : s ≠ [] := fun e => by have := SN.out; rw [e] at this; simp at this; omega
        cases h3 : leastL [A, B] 2 with
        | none => rw [h3] at h1; simp at h1; exact absurd h1 h2
        | some jy =>
          obtain ⟨j, y⟩ := jy
          rw [h3] at h1
          refine ⟨j, y, rfl, ?_⟩
          show s[0]? = some y
          rw [← List.head?_eq_getElem?]
          simpa using h1
      clear hA hB fA fB dA dB d1 LA LB sA sB D1 X1 H1 hp1
      have q2 : Below wB.heap.size wB (wB.alloc (.cells #[.slice x1 A.length y1, .slice x2 B.length y2] 22)) := (Below.refl _ _).alloc (Nat.le_refl _) _
      have q1 : IsLL (wB.alloc (.cells #[.slice x1 A.length y1, .slice x2 B.length y2] 22)) (some ⟨wB.heap.size, 0, none⟩) [A, B] := by
        refine IsLL.of_block (cs := #[.slice x1 A.length y1, .slice x2 B.length y2]) (T := 22) (fr := (0, 0)) (heap_alloc_new wB _) (by simp) (fun i z hz => ?_)
        have hi : i < 2 := by simpa using (List.getElem?_eq_some_iff.1 hz).1
        have : i = 0 ∨ i = 1 := by omega
        rcases this with rfl | rfl
        · simp at hz
          subst hz
          exact ⟨x1, y1, rfl, A2.out.below q2⟩
        · simp at hz
          subst hz
          exact ⟨x2, y2, rfl, B2.out.below q2⟩
      have la := least_any (some ⟨wB.heap.size, 0, none⟩) 2 [A, B] _ q1
      simp only [List.length_cons, List.length_nil] at la
      have Q2 : Aside (Below wB.heap.size wB (wB.alloc (.cells #[.slice x1 A.length y1, .slice x2 B.length y2] 22))) := q2
      clear q1 q2
      go_wp2_with fail
      refine la.mono ?_
      rintro r w4 ⟨rfl, d4⟩
      have st := ST.out
      simp only [List.length_cons, List.length_nil, Nat.zero_add, Nat.reduceAdd, st, unl, unj, unb]
      clear st la
      have d5 : Below wB.heap.size wB w4 := Below.trans Q2.out (Below.mono d4 Q2.out.size)
      have D4 : Aside (Below w.heap.size w w4) := Below.trans D2.out (Below.mono d5 D2.out.size)
      have A4 : Aside (IsL w4 x1 y1 A) := A2.out.below d5
      have B4 : Aside (IsL w4 x2 y2 B) := B2.out.below d5
      have X4 : Aside (IsL w4 x xc s) := X2.out.below d5
      clear d4 d5 Q2 D2 A2 B2 X2
      go_wp2_with fail
      have d5 : Below w4.heap.size w4 (w4.alloc (.cells #[.int .u64 y.1, .int .i64 y.2] 31)) := (Below.refl _ _).alloc (Nat.le_refl _) _
      have t0 := cell_new w4 #[.int .u64 y.1, .int .i64 y.2] 31 0
      have t1 := cell_new w4 #[.int .u64 y.1, .int .i64 y.2] 31 1
      have t2 : w4.heap.size < (w4.alloc (.cells #[.int .u64 y.1, .int .i64 y.2] 31)).heap.size := by simp
      have D5 : Aside (Below w.heap.size w (w4.alloc (.cells #[.int .u64 y.1, .int .i64 y.2] 31))) := Below.trans D4.out (Below.mono d5 D4.out.size)
      have A5 : Aside (IsL (w4.alloc (.cells #[.int .u64 y.1, .int .i64 y.2] 31)) x1 y1 A) := A4.out.below d5
      have B5 : Aside (IsL (w4.alloc (.cells #[.int .u64 y.1, .int .i64 y.2] 31)) x2 y2 B) := B4.out.below d5
      have X5 : Aside (IsL (w4.alloc (.cells #[.int .u64 y.1, .int .i64 y.2] 31)) x xc s) := X4.out.below d5
      clear d5 D4 A4 B4 X4
      generalize w4.alloc (.cells #[.int .u64 y.1, .int .i64 y.2] 31) = w5 at t0 t1 t2 D5 A5 B5 X5 ⊢
      generalize w4.heap.size = T at t0 t1 t2 ⊢
      obtain ⟨b, off, rfl, hb, s0, s1⟩ := X5.out.elem 0 y SY.out
      simp only [Nat.zero_mul, Nat.add_zero] at s0 s1
      have KC : Aside (∀ v, Below w5.heap.size w5 v → v.cell? ⟨T, 0, none⟩ = some (.int .u64 y.1) ∧ v.cell? ⟨T, 1, none⟩ = some (.int .i64 y.2) ∧ v.cell? ⟨b, off, none⟩ = some (.int .u64 y.1) ∧ v.cell? ⟨b, off + 1, none⟩ = some (.int .i64 y.2)) := fun v hv =>
        ⟨(hv.cell (p := ⟨T, 0, none⟩) t2).trans t0, (hv.cell (p := ⟨T, 1, none⟩) t2).trans t1, (hv.cell (p := ⟨b, off, none⟩) hb).trans s0, (hv.cell (p := ⟨b, off + 1, none⟩) hb).trans s1⟩
      obtain ⟨m1, m2, m3, m4⟩ := KC.out w5 (Below.refl _ _)
      clear t0 t1 s0 s1
      have hsp : 0 < s.length := by have := SN.out; omega
      have hsp2 : (0 : Int) < (s.length : Int) := by omega
      have e1 := eqE y y
      simp only [decide_true] at e1
      have e2 := guardE
      have b5 : Below w5.heap.size w5 w5.drew := (Below.refl _ _).drew
      have mg := (merge_any x1 x2 y1 y2 A B w5.drew (A5.out.below b5) (B5.out.below b5) (by omega)).mono (fun _ _ h => Made.gives h)
      rw [SM.out] at mg
      have hno : (!true) = false := rfl
      go_wp2_with fail
      go_region_held3 (fun w' => w'.cell? ⟨T, 0, none⟩ = some (.int .u64 y.1) ∧ w'.cell? ⟨T, 1, none⟩ = some (.int .i64 y.2) ∧ w'.cell? ⟨b, off, none⟩ = some (.int .u64 y.1) ∧ w'.cell? ⟨b, off + 1, none⟩ = some (.int .i64 y.2)) (first | go_keep | exact ⟨m1, m2, m3, m4⟩ | exact ⟨n1, n2, n3, n4⟩ | exact ⟨o1, o2, o3, o4⟩)
        ((first | (go_at_call 13; refine sm.mono ?_; rintro r wS ⟨rfl, gS⟩; obtain ⟨o1, o2, o3, o4⟩ := KC.out wS (dM.trans (Below.mono gS.below dM.size))) | (go_at_call 11; refine mg.mono ?_; rintro r wM ⟨z, zc, rfl, fM, bM⟩; have dM : Below w5.heap.size w5 wM := b5.trans bM; obtain ⟨n1, n2, n3, n4⟩ := KC.out wM dM; have sm := same_any z (some ⟨b, off, none⟩) zc xc s s wM fM (X5.out.below dM); rw [decide_eq_true (rfl : s = s)] at sm)))
      have D6 : Aside (Below w.heap.size w wS) := Below.trans D5.out (Below.mono (dM.trans (Below.mono gS.below dM.size)) D5.out.size)
      have X6 : Aside (IsL wS (some ⟨b, off, none⟩) xc s) := X5.out.below (dM.trans (Below.mono gS.below dM.size))
      have HR : Aside (∀ i (hi : i < s.length), smal s s[i] ≤ i ∧ (smal s s[i] < i → s[smal s s[i]]? = some s[i])) := fun i hi => ⟨(smal_rank SS.out i hi).1, fun h => List.getElem?_eq_some_iff.2 ⟨_, ((smal_rank SS.out i hi).2 h).1⟩⟩
      clear dM gS sm mg fM bM m1 m2 m3 m4 n1 n2 n3 n4 o1 o2 o3 o4 KC D5 A5 B5 X5 e1 e2 b5 SM SY ST hb t2
      have sl : s.length ≤ 80 := by have := SN.out; omega
      go_wp2_with fail
      go_loopg [12] s.length (fun kx s12 wr => ∃ k : Nat, s12 = .int .i64 k ∧ k ≤ s.length ∧ s.length - k ≤ kx ∧ Aside (Below w.heap.size w wr) ∧ Aside (IsL wr (some ⟨b, off, none⟩) xc s))
      case atStart => exact ⟨0, rfl, by omega, by omega, D6, X6⟩
      case round =>
        obtain ⟨k, rfl, hk, hkx, D6', X6'⟩ := hrel
        clear D6 X6
        by_cases hlt : k < s.length
        · have hz : (k : Int) < (s.length : Int) := by omega
          obtain ⟨b', off', eb, hb, c1, c2⟩ := X6'.out.elem k s[k] (List.getElem?_eq_getElem hlt)
          cases eb
          obtain ⟨r1, r2⟩ := HR.out k hlt
          obtain ⟨y, hy⟩ : ∃ y, s[k] = y := ⟨_, rfl⟩
          obtain ⟨m, hm⟩ : ∃ m, smal s y = m := ⟨_, rfl⟩
          rw [hy] at c1 c2
          simp only [hy, hm] at r1 r2
          have HY : Hid _ := hy
          have R2 : Hid _ := r2
          have sm := place_any (some ⟨b, off, none⟩) xc s y wr X6'.out SS.out (by omega)
          rw [hm] at sm
          clear hy hm r2
          go_wp2_with fail
          refine sm.mono ?_
          rintro e w7 ⟨rfl, g7⟩
          have D7 : Aside (Below w.heap.size w w7) := Below.trans D6'.out (Below.mono g7.below D6'.out.size)
          have X7 : Aside (IsL w7 (some ⟨b, off, none⟩) xc s) := X6'.out.below g7.below
          clear c1 c2 g7 D6' X6' sm
          by_cases hmk : m < k
          · have t1 : decide ((k : Int) < (m : Int)) = false := decide_eq_false (by omega)
            have t2 : decide ((m : Int) < (k : Int)) = true := decide_eq_true (by omega)
            have t3 : decide (k < m) = false := decide_eq_false (by omega)
            have t4 : decide (m < k) = true := decide_eq_true (by omega)
            have j5 : ¬ k < m := by omega
            have j4 : (m : Int) < (s.length : Int) := by omega
            obtain ⟨b', off', ea, eb⟩ := X7.out.at hlt
            obtain ⟨b'', off'', ea2, eb2⟩ := X7.out.at (show m < s.length by omega)
            cases ea
            cases ea2
            have c1 := fun n => (eb w7 (Grown.refl w7) n #[]).1
            have c2 := fun n => (eb w7 (Grown.refl w7) n #[]).2
            have c3 := fun n => (eb2 w7 (Grown.refl w7) n #[]).1
            have c4 := fun n => (eb2 w7 (Grown.refl w7) n #[]).2
            have hj : s[m]'(by omega) = y := (List.getElem?_eq_some_iff.1 (R2.out hmk)).2
            simp only [grow_empty, HY.out] at c1 c2
            simp only [grow_empty, hj] at c3 c4
            clear eb eb2 hj
            have q1 := eqE y y
            simp only [decide_true] at q1
            have q2 := guardE
            go_wp2_with fail
            go_quiet (fail)
            clear c1 c2 c3 c4 q1 q2
            have D8 : Aside (Below w.heap.size w (w7.drewN nq)) := Below.trans D7.out (Below.mono (Grown.below ⟨nq, #[], by rw [grow_empty]⟩) D7.out.size)
            have X8 : Aside (IsL (w7.drewN nq) (some ⟨b, off, none⟩) xc s) := X7.out.below (Grown.below ⟨nq, #[], by rw [grow_empty]⟩)
            clear D7 X7
            generalize w7.drewN nq = w8 at D8 X8 ⊢
            go_wp2
            go_roundg (s.length - (k + 1))
            case measure => omega
            case rel => exact ⟨k + 1, by go_num, by omega, Nat.le_refl _, D8, X8⟩
          · obtain rfl : m = k := by omega
            have t1 : decide ((m : Int) < (m : Int)) = false := decide_eq_false (by omega)
            have t3 : decide (m < m) = false := decide_eq_false (by omega)
            go_wp2_with fail
            go_quiet (fail)
            have D8 : Aside (Below w.heap.size w (w7.drewN nq)) := Below.trans D7.out (Below.mono (Grown.below ⟨nq, #[], by rw [grow_empty]⟩) D7.out.size)
            have X8 : Aside (IsL (w7.drewN nq) (some ⟨b, off, none⟩) xc s) := X7.out.below (Grown.below ⟨nq, #[], by rw [grow_empty]⟩)
            clear D7 X7
            generalize w7.drewN nq = w8 at D8 X8 ⊢
            go_wp2
            go_roundg (s.length - (m + 1))
            case measure => omega
            case rel => exact ⟨m + 1, by go_num, by omega, Nat.le_refl _, D8, X8⟩
        · have hz : ¬ (k : Int) < (s.length : Int) := by omega
          go_wp2_with fail
          refine (awake_any _).mono ?_
          rintro e v ⟨rfl, dv⟩
          have DV : Aside (Below w.heap.size w v) := Below.trans D6'.out (Below.mono dv D6'.out.size)
          clear dv
          go_wp2
          go_ret
          exact ⟨rfl, DV.out⟩
  · have hz : (80 : Int) < (l.length : Int) := by omega
    go_enter Try.func5, Try.ntmps5
    go_wp2_with fail
    refine (awake_any _).mono ?_
    rintro r v ⟨rfl, dv⟩
    go_wp2
    go_ret
    exact ⟨rfl, dv⟩
end Go.Proofs.Ytefkgljpocfpfaa
