/- The walk of 'LsmHalves'. -/
import Derived.Test.YtchephglapnloaaLsmY
import Derived.Test.YtchephglapnloaaLsmA
import Derived.Test.YtchephglapnloaaMask
import Derived.Deep.QuietTactic
import Derived.BigQuiet
namespace Go.Proofs.Ytchephglapnloaa
open Go.RowKit Go.Lib Go.Sort
set_option linter.unusedVariables false

def halfE (i : Nat) : Ent := (((i + 1) * 53 % 127 : Nat), (i : Int) + 1)
/-- What is there when the first k were looked at. -/
def remP (o k i : Nat) : Bool := !(decide (i < k) && decide ((i + 1) % 2 = o))
def remL (o N k : Nat) : List Ent := ((List.range N).filter (remP o k)).map halfE
def leftC (o k : Nat) : Nat := ((List.range k).filter (fun i => !decide ((i + 1) % 2 = o))).length
theorem rem_zero (o N : Nat) : remL o N 0 = (List.range N).map halfE := by
  unfold remL
  rw [List.filter_eq_self.2 (fun i _ => by simp [remP])]
theorem rem_skip {o N k : Nat} (h : ¬ (k + 1) % 2 = o) : remL o N (k + 1) = remL o N k := by
  unfold remL
  congr 1
  apply List.filter_congr
  intro i _
  unfold remP
  by_cases e : i = k
  · subst e; simp [h]
  · rw [show decide (i < k + 1) = decide (i < k) by by_cases c : i < k <;> simp [c] <;> omega]
theorem rem_out {o N k : Nat} (h : (k + 1) % 2 = o) : outL ((k : Int) + 1) (remL o N k) = remL o N (k + 1) := by
  unfold remL outL
  rw [List.filter_map, List.filter_filter]
  congr 1
  apply List.filter_congr
  intro i _
  unfold remP halfE
  simp only [Function.comp]
  by_cases e : i = k
  · subst e; simp [h]
  · have e2 : ¬ ((i : Int) + 1 = (k : Int) + 1) := by omega
    rw [show decide (i < k + 1) = decide (i < k) by by_cases c : i < k <;> simp [c] <;> omega]
    simp [e2]
theorem rem_mem {o N k : Nat} (hk : k < N) : halfE k ∈ remL o N k := List.mem_map.2 ⟨k, List.mem_filter.2 ⟨List.mem_range.2 hk, by simp [remP]⟩, rfl⟩
theorem rem_nodup (o N k : Nat) : ((remL o N k).map Prod.snd).Nodup := by
  unfold remL List.Nodup
  rw [List.map_map, List.pairwise_map]
  have h : List.Pairwise (fun x y => x ≠ y) ((List.range N).filter (remP o k)) := List.Pairwise.filter _ List.nodup_range
  refine h.imp fun hne e => hne ?_
  simp only [Function.comp, halfE] at e
  omega
theorem rem_len (o N : Nat) : (remL o N N).length = leftC o N := by
  unfold remL leftC
  rw [List.length_map]
  congr 1
  apply List.filter_congr
  intro i hi
  unfold remP
  simp [List.mem_range.1 hi]
theorem left_up (o k : Nat) : leftC o (k + 1) = leftC o k + (if (k + 1) % 2 = o then 0 else 1) := by
  unfold leftC
  rw [List.range_succ, List.filter_append, List.length_append]
  by_cases h : (k + 1) % 2 = o <;> simp [h]
theorem left_le (o : Nat) : ∀ k, leftC o k ≤ k
  | 0 => by simp [leftC]
  | k + 1 => by have := left_le o k; rw [left_up]; split <;> omega
theorem rem_at {o N : Nat} {x : Ent} (h : x ∈ remL o N N) : ∃ i : Nat, i < N ∧ x = halfE i ∧ ¬ (i + 1) % 2 = o := by
  obtain ⟨i, hi, rfl⟩ := List.mem_map.1 h
  obtain ⟨h1, h2⟩ := List.mem_filter.1 hi
  have hN := List.mem_range.1 h1
  unfold remP at h2
  exact ⟨i, hN, rfl, by simpa [hN] using h2⟩
theorem hasL_mem {d : List Ent} {x : Ent} (h : x ∈ d) : hasL d x.2 = true := by
  obtain ⟨k, hk, rfl⟩ := List.getElem_of_mem h
  exact hasL_at k hk rfl
theorem hasL_out (d : List Ent) (id : Int) : hasL (outL id d) id = false := hasL_false.2 fun x hx => by
  have := (List.mem_filter.1 hx).2
  simpa using this
theorem dropLs_none {ls : List (List Ent)} {id : Int} (h : hasL ls.flatten id = false) : dropLs ls id = ls := by
  unfold dropLs
  rw [if_neg]
  intro c
  rw [firstB_has.1 c] at h
  cases h
/-- The row is what is there. -/
def RemIs (ls : List (List Ent)) (o N k : Nat) : Prop := Fall ls ∧ ls.flatten.Perm (remL o N k) ∧ ls.length ≤ 200 ∧ ls.flatten.length ≤ 200
theorem RemIs.mk' {ls : List (List Ent)} {o N k : Nat} (hf : Fall ls) (hp : ls.flatten.Perm (remL o N k)) (hN : N ≤ 200) : RemIs ls o N k := by
  have h1 := hp.length_eq
  have h2 : (remL o N k).length ≤ N := by unfold remL; rw [List.length_map]; exact Nat.le_trans (List.length_filter_le _ _) (by simp)
  have h3 := hf.count
  exact ⟨hf, hp, by omega, by omega⟩
theorem RemIs.drop {ls : List (List Ent)} {o N k : Nat} (h : RemIs ls o N k) (hN : N ≤ 200) (hk : k < N) (hp : (k + 1) % 2 = o) : hasL ls.flatten ((k : Int) + 1) = true ∧ RemIs (dropLs ls ((k : Int) + 1)) o N (k + 1) ∧ hasL (dropLs ls ((k : Int) + 1)).flatten ((k : Int) + 1) = false := by
  obtain ⟨hf, hq, _, _⟩ := h
  have hd : (ls.flatten.map Prod.snd).Nodup := (hq.map Prod.snd).nodup_iff.2 (rem_nodup o N k)
  have pp : (dropLs ls ((k : Int) + 1)).flatten.Perm (remL o N (k + 1)) := by
    refine (dropLs_perm hd).trans ?_
    rw [← rem_out hp]
    exact hq.filter _
  refine ⟨hasL_mem (x := halfE k) (hq.mem_iff.2 (rem_mem hk)), RemIs.mk' (dropLs_fall hf _) pp hN, ?_⟩
  rw [hasL_perm pp, ← rem_out hp]
  exact hasL_out _ _
theorem RemIs.skip {ls : List (List Ent)} {o N k : Nat} (h : RemIs ls o N k) (hp : ¬ (k + 1) % 2 = o) : RemIs ls o N (k + 1) := by
  obtain ⟨hf, hq, h1, h2⟩ := h
  exact ⟨hf, by rw [rem_skip hp]; exact hq, h1, h2⟩

set_option maxHeartbeats 4000000 in
set_option maxRecDepth 100000 in
theorem lsmHalves_walk (n0 odd : Int) (w : World) (h1 : (Lit.int .i64 n0).wf = true) (h2 : (Lit.int .i64 odd).wf = true) :
    Calls Try.prog 4 #[.int .i64 n0, .int .i64 odd] w fun r w' => r = .returned (.bool true) ∧ Below w.heap.size w w' := by
  obtain ⟨S, hS⟩ : ∃ S, w.heap.size = S := ⟨_, rfl⟩
  have HS : Hid _ := hS
  obtain ⟨X, hX, X0, X1⟩ : ∃ X, bits .and .i64 n0 255 = X ∧ 0 ≤ X ∧ X < 256 := ⟨_, mask_i64 n0 8 255 256 (by omega) rfl rfl, by omega, by omega⟩
  obtain ⟨N, hN, n120⟩ : ∃ N : Nat, X % 120 = (N : Int) ∧ N < 120 := ⟨(X % 120).toNat, by omega, by omega⟩
  obtain ⟨o, ho, o2⟩ : ∃ o : Nat, bits .and .i64 odd 1 = (o : Int) ∧ o < 2 := by
    have := mask_i64 odd 1 1 2 (by omega) rfl rfl
    exact ⟨(odd % 2).toNat, by rw [this]; omega, by omega⟩
  have nw := lnew_any w
  have L0 : Aside (Lsm (w.alloc (.cells #[.slice none 0 0] 60)) S S []) := by rw [← hS]; exact lsm_new w _ (Nat.le_refl _)
  have D0 : Aside (Below S w (w.alloc (.cells #[.slice none 0 0] 60))) := by rw [← hS]; exact (Below.refl _ _).alloc (Nat.le_refl _) _
  rw [hS] at nw
  clear h1 h2
  go_enter Try.func4, Try.ntmps4
  go_wp2_with fail
  refine nw.mono ?_
  rintro r w1 ⟨rfl, rfl⟩
  generalize w.alloc (.cells #[.slice none 0 0] 60) = w1 at L0 D0 ⊢
  clear nw
  go_wp2_with fail
  simp only [hN]
  clear hN hX
  go_loopg [6] (N + 1) (fun kx s6 wr => ∃ (k : Nat), s6 = .int .i64 ((k : Int) + 1) ∧ k ≤ N ∧ N + 1 - k ≤ kx ∧ Aside (Lsm wr S S (putUp halfE k)) ∧ Aside (Below S w wr))
  case atStart => exact ⟨0, rfl, by omega, by omega, L0, D0⟩
  case round =>
    clear L0 D0
    obtain ⟨k, rfl, hk, hkx, L, D⟩ := hrel
    have sz := D.out.size
    by_cases hlt : k < N
    · have hz : (k : Int) + 1 ≤ (N : Int) := by omega
      have pt := lput_any S S _ (halfE k) wr L.out (by have := putUp_count halfE k; omega) (by rw [putUp_len]; omega) (by omega)
      obtain ⟨Q, hQ, hQ2⟩ : ∃ Q : Nat, ((k : Int) + 1) * 53 % 127 = (Q : Int) ∧ (k + 1) * 53 % 127 = Q := ⟨_, by omega, rfl⟩
      have Q1 : Q < 127 := by rw [← hQ2]; exact Nat.mod_lt _ (by omega)
      unfold halfE at pt
      rw [hQ2] at pt
      simp only at pt
      have HZ : Hid (halfE k = ((Q : Int), (k : Int) + 1)) := by show _ = _; unfold halfE; rw [hQ2]
      go_wp2_with fail
      refine pt.mono ?_
      rintro r w2 ⟨rfl, t2⟩
      have L2 : Aside (Lsm w2 S S (putUp halfE (k + 1))) := by have := t2.1; rw [← HZ.out] at this; exact this
      have D2 : Aside (Below S w w2) := D.out.trans t2.2.1
      clear t2 pt L D
      go_wp2
      go_roundg (N + 1 - (k + 1))
      case measure => omega
      case rel => exact ⟨k + 1, by go_num, by omega, Nat.le_refl _, L2, D2⟩
    · obtain rfl : k = N := by omega
      have hz : ¬ (k : Int) + 1 ≤ (k : Int) := by omega
      have r0 : RemIs (putUp halfE k) o k 0 := RemIs.mk' (putUp_fall halfE k) (by rw [rem_zero]; exact putUp_perm halfE k) (by omega)
      have R0 : Aside (RemIs (putUp halfE k) o k 0) := r0
      clear r0
      go_wp2_with fail
      go_loopg [7, 8] (k + 1) (fun kx s7 s8 wr => ∃ (i n : Nat) (ls : List (List Ent)), s8 = .int .i64 ((i : Int) + 1) ∧ s7 = .int .i64 n ∧ Hid (leftC o i = n) ∧ i ≤ k ∧ k + 1 - i ≤ kx ∧ Aside (RemIs ls o k i) ∧ Aside (Lsm wr S S ls) ∧ Aside (Below S w wr))
      case atStart => exact ⟨0, 0, _, rfl, rfl, rfl, by omega, by omega, R0, L, D⟩
      case round =>
        clear R0 L D sz
        obtain ⟨i, n, ls, rfl, rfl, HN, hi, hix, R, L, D⟩ := hrel
        have sz := D.out.size
        have nle := left_le o i
        rw [HN.out] at nle
        by_cases hlt2 : i < k
        · have hy : (i : Int) + 1 ≤ (k : Int) := by omega
          have q0 : bits .and .i64 ((i : Int) + 1) 1 = (((i + 1) % 2 : Nat) : Int) := by rw [mask_i64 ((i : Int) + 1) 1 1 2 (by omega) rfl rfl]; omega
          obtain ⟨y, hy2⟩ : ∃ y, (i + 1) % 2 = y := ⟨_, rfl⟩
          rw [hy2] at q0
          have hy3 : y < 2 := by omega
          by_cases hp : y = o
          · have q1 : ((y : Int) == (o : Int)) = true := by simp [hp]
            have hp2 : (i + 1) % 2 = o := by rw [hy2]; exact hp
            obtain ⟨d1, d2, d3⟩ := R.out.drop (by omega) hlt2 hp2
            have dr := ldrop_any S S ls ((i : Int) + 1) wr L.out R.out.1 (by have := R.out.2.2.1; omega) (by have := R.out.2.2.2; omega) (by omega)
            rw [d1] at dr
            obtain ⟨ls', hls'⟩ : ∃ ls', dropLs ls ((i : Int) + 1) = ls' := ⟨_, rfl⟩
            rw [hls'] at dr d2 d3
            have R2 : Aside (RemIs ls' o k (i + 1)) := d2
            have HD3 : Hid _ := d3
            have E1 : Hid (leftC o (i + 1) = n) := by show _ = _; rw [left_up, if_pos hp2, HN.out]; rfl
            clear d1 d2 d3 hls' hy2 hp2 R
            subst hp
            go_wp2_with fail
            refine dr.mono ?_
            rintro r w2 ⟨rfl, t2⟩
            have L2 : Aside (Lsm w2 S S ls') := t2.1
            have D2 : Aside (Below S w w2) := D.out.trans t2.2.1
            have s2 := D2.out.size
            have dr2 := ldrop_any S S ls' ((i : Int) + 1) w2 L2.out R2.out.1 (by have := R2.out.2.2.1; omega) (by have := R2.out.2.2.2; omega) (by omega)
            rw [HD3.out, dropLs_none HD3.out] at dr2
            clear t2 dr L D
            go_wp2_with fail
            refine dr2.mono ?_
            rintro r w3 ⟨rfl, t3⟩
            have L3 : Aside (Lsm w3 S S ls') := t3.1
            have D3 : Aside (Below S w w3) := D2.out.trans t3.2.1
            have s3 := D3.out.size
            have ck := lcheck_any S S ls' w3 L3.out R2.out.1 (by have := R2.out.2.2.1; omega) (by have := R2.out.2.2.2; omega)
            clear t3 dr2 L2 D2
            go_wp2_with fail
            refine ck.mono ?_
            rintro r w4 ⟨rfl, d4⟩
            have L4 : Aside (Lsm w4 S S ls') := L3.out.below d4
            have D4 : Aside (Below S w w4) := D3.out.trans (d4.mono (by omega))
            clear d4 ck L3 D3
            go_wp2
            go_roundg (k + 1 - (i + 1))
            case measure => omega
            case rel => exact ⟨i + 1, n, ls', by go_num, rfl, E1, by omega, Nat.le_refl _, R2, L4, D4⟩
          · have q1 : ((y : Int) == (o : Int)) = false := by simp; omega
            have q2 : ¬ (y : Int) = (o : Int) := by omega
            have hp2 : ¬ (i + 1) % 2 = o := by rw [hy2]; exact hp
            have R2 : Aside (RemIs ls o k (i + 1)) := R.out.skip hp2
            have E1 : Hid (leftC o (i + 1) = n + 1) := by show _ = _; rw [left_up, if_neg hp2, HN.out]
            have ck := lcheck_any S S ls wr L.out R2.out.1 (by have := R2.out.2.2.1; omega) (by have := R2.out.2.2.2; omega)
            clear hy2 hp2 R
            go_wp2_with fail
            refine ck.mono ?_
            rintro r w4 ⟨rfl, d4⟩
            have L4 : Aside (Lsm w4 S S ls) := L.out.below d4
            have D4 : Aside (Below S w w4) := D.out.trans (d4.mono (by omega))
            clear d4 ck L D
            go_wp2
            go_roundg (k + 1 - (i + 1))
            case measure => omega
            case rel => exact ⟨i + 1, n + 1, ls, by go_num, by go_num, E1, by omega, Nat.le_refl _, R2, L4, D4⟩
        · obtain rfl : i = k := by omega
          have hy : ¬ (i : Int) + 1 ≤ (i : Int) := by omega
          have al := lall_any S S ls wr L.out (by have := R.out.2.2.2; omega)
          obtain ⟨A, hA⟩ : ∃ A, sortE ls.flatten = A := ⟨_, rfl⟩
          have pA : A.Perm (remL o i i) := by rw [← hA]; exact (sortE_perm _).trans R.out.2.1
          have lA : A.length = n := by rw [pA.length_eq, rem_len, HN.out]
          have lF : ls.flatten.length = n := by rw [← lA, ← hA, sortE_len]
          rw [hA, lF] at al
          have PA : Aside (A.Perm (remL o i i)) := pA
          have HLA : Hid _ := lA
          clear hA pA lA lF R
          go_wp2_with fail
          refine al.mono ?_
          rintro r w2 ⟨a2, c2, rfl, ow, d2⟩
          have D2 : Aside (Below S w w2) := D.out.trans (d2.mono (by omega))
          have A2 : Aside (IsL w2 a2 c2 A) := ow.is
          clear ow d2 al D L
          go_wp2_with fail
          go_loopg [10] n (fun kx s10 wr => ∃ (j : Nat), s10 = .int .i64 j ∧ j ≤ n ∧ n - j ≤ kx ∧ Aside (IsL wr a2 c2 A) ∧ Aside (Below S w wr))
          case atStart => exact ⟨0, rfl, by omega, by omega, A2, D2⟩
          case round =>
            clear A2 D2 sz
            obtain ⟨j, rfl, hj, hjx, A2, D2⟩ := hrel
            have sz := D2.out.size
            by_cases hlt3 : j < n
            · have hz3 : (j : Int) < (n : Int) := by omega
              have hjl : j < A.length := by rw [HLA.out]; exact hlt3
              obtain ⟨t, ht, hx, hpt⟩ := rem_at (PA.out.mem_iff.1 (List.getElem_mem hjl))
              obtain ⟨Q, hQ, hQ2⟩ : ∃ Q : Nat, ((t : Int) + 1) * 53 % 127 = (Q : Int) ∧ (t + 1) * 53 % 127 = Q := ⟨_, by omega, rfl⟩
              have Q1 : Q < 127 := by rw [← hQ2]; exact Nat.mod_lt _ (by omega)
              obtain ⟨b, off, ha, hb, c0, c1⟩ := A2.out.elem j A[j] (List.getElem?_eq_getElem hjl)
              rw [hx] at c0 c1
              unfold halfE at c0 c1
              rw [hQ2] at c0
              simp only at c0 c1
              have q0 : bits .and .i64 ((t : Int) + 1) 1 = (((t + 1) % 2 : Nat) : Int) := by rw [mask_i64 ((t : Int) + 1) 1 1 2 (by omega) rfl rfl]; omega
              obtain ⟨y, hy2⟩ : ∃ y, (t + 1) % 2 = y := ⟨_, rfl⟩
              rw [hy2] at q0 hpt
              have q1 : ((y : Int) == (o : Int)) = false := by simp; omega
              have q2 : ¬ (y : Int) = (o : Int) := by omega
              have c0' : ∀ q, (wr.drewN q).cell? ⟨b, off + j * 2, none⟩ = some (.int .u64 Q) := fun q => c0
              have c1' : ∀ q, (wr.drewN q).cell? ⟨b, off + j * 2 + 1, none⟩ = some (.int .i64 ((t : Int) + 1)) := fun q => c1
              have t120 : t < 120 := by omega
              have HA2 : Hid _ := ha
              subst ha
              clear hx hQ2 hy2
              go_wp2_with fail
              go_quiet (fail)
              have AQ : Aside (IsL (wr.drewN nq) (some ⟨b, off, none⟩) c2 A) := A2.out.below (Grown.below ⟨nq, #[], by rw [grow_empty]⟩)
              have DQ : Aside (Below S w (wr.drewN nq)) := D2.out.trans (Below.mono (Grown.below ⟨nq, #[], by rw [grow_empty]⟩) (by omega))
              go_wp2
              go_roundg (n - (j + 1))
              case measure => omega
              case rel => exact ⟨j + 1, by go_num, by omega, Nat.le_refl _, AQ, DQ⟩
            · have hz3 : ¬ (j : Int) < (n : Int) := by omega
              have aw := lawake_any wr
              go_wp2_with fail
              refine aw.mono ?_
              rintro r9 w9 ⟨rfl, d9⟩
              have D9 : Aside (Below S w w9) := D2.out.trans (d9.mono (by omega))
              clear aw d9
              go_wp2
              go_ret
              exact ⟨rfl, by rw [HS.out]; exact D9.out⟩
end Go.Proofs.Ytchephglapnloaa
