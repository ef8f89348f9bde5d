/- The document's Waits, Behind. -/
import Derived.Test.YthpdnlokjhafeaaDrR
namespace Go.Proofs.Ythpdnlokjhafeaa
open Go.RowKit Go.Lib
set_option linter.unusedVariables false
/-- What the rows tell. -/
structure RI (E : Rel) (R : List Rw) : Prop where
  up : R.Pairwise (fun r s => r.id < s.id)
  ps : ∀ r ∈ R, Up r.ps ∧ r.ps ≠ []
  e : ∀ q j, E q j ↔ ∃ r ∈ R, r.id = j ∧ q ∈ r.ps
variable {w w' : World} {Y Y' : Nat → Prop} {F : Nat} {R : List Rw} {E : Rel} {i : Int}
theorem RI.none : RI (fun _ _ => False) [] := ⟨List.Pairwise.nil, fun r h => by simp at h, fun q j => by simp⟩
/-- A row of an id is the only one. -/
theorem RI.only (h : RI E R) {r s : Rw} (hr : r ∈ R) (hs : s ∈ R) (e : r.id = s.id) : r = s := by
  obtain ⟨i, hi, rfl⟩ := List.getElem_of_mem hr
  obtain ⟨j, hj, rfl⟩ := List.getElem_of_mem hs
  have q := List.pairwise_iff_getElem.1 h.up
  rcases Nat.lt_trichotomy i j with c | c | c
  · have := q i j hi hj c; omega
  · subst c; rfl
  · have := q j i hj hi c; omega
theorem RI.waits (h : RI E R) {r : Rw} (hr : r ∈ R) (q : Int) : E q r.id ↔ q ∈ r.ps := by
  rw [h.e]
  constructor
  · rintro ⟨s, hs, e, hq⟩
    rw [← h.only hs hr e]; exact hq
  · exact fun hq => ⟨r, hr, rfl, hq⟩
/-- The cells of one row. -/
theorem IsR.at {a : Option Addr} {cap : Nat} (h : IsR w Y a cap R) {j : Nat} (hj : j < R.length) : ∃ b off r, a = some ⟨b, off, none⟩ ∧ R[j]? = some r ∧ r ∈ R ∧ b < w.heap.size ∧ w.cell? ⟨b, off + j * 2, none⟩ = some (.int .i64 r.id) ∧ w.cell? ⟨b, off + j * 2 + 1, none⟩ = some r.v := by
  have e : R[j]? = some R[j] := List.getElem?_eq_getElem hj
  obtain ⟨b, off, ea, hb, _, h1, h2⟩ := h.elem j _ e
  exact ⟨b, off, R[j], ea, e, List.getElem_mem hj, hb, h1, h2⟩
theorem RD.cell (h : RD w Y F R) : ∃ a cap, w.cell? ⟨F, 0, none⟩ = some (.slice a R.length cap) ∧ IsR w Y a cap R := by
  obtain ⟨a, cap, e, q, _⟩ := h.head
  exact ⟨a, cap, by rw [cell_of_row _ _ _ _ _ _ e]; rfl, q⟩
theorem RD.cellS (h : RD w Y F R) : ∃ a cap, w.cell? ⟨F, 0, none⟩ = some (.slice a R.length cap) ∧ IsR w Y a cap R ∧ ((a = none ∧ cap = 0 ∧ R = []) ∨ ∃ g, a = some ⟨g, 0, none⟩) := by
  obtain ⟨a, cap, e, q, s⟩ := h.head
  exact ⟨a, cap, by rw [cell_of_row _ _ _ _ _ _ e]; rfl, q, s⟩
set_option maxHeartbeats 2000000 in
theorem vwaits_any (h : RD w Y F R) (I : RI E R) (hR : R.length ≤ 100000) (i : Int) : Calls Try.prog 19 #[.pointer (some ⟨F, 0, none⟩), .int .i64 i] w fun e w' => w' = w ∧ ∃ v d, e = .returned v ∧ Sl w Y v d ∧ Up d ∧ ∀ p, p ∈ d ↔ E p i := by
  obtain ⟨a, cap, hc, q⟩ := h.cell
  obtain ⟨n, hn⟩ : ∃ n, R.length = n := ⟨_, rfl⟩
  rw [hn] at hc hR
  have Q : Aside (IsR w Y a cap R ∧ RI E R ∧ ∀ r ∈ R, Sl w Y r.v r.ps) := ⟨q, I, h.pre⟩
  clear h q I
  go_enter Try.func19, Try.ntmps19
  go_wp2_with fail
  go_loopw [5] (fun s5 wr => wr = w ∧ ∃ J : Nat, J ≤ n ∧ s5 = .int .i64 J ∧ ∀ r ∈ R.take J, r.id ≠ i) (fun i _ => n - (intOf i).toNat)
  case atStart => exact ⟨rfl, 0, by omega, rfl, fun r hr => by simp at hr⟩
  case round =>
    obtain ⟨rfl, J, hJ, rfl, hall⟩ := hrel
    by_cases c : J < n
    · obtain ⟨b, off, r, rfl, er, hr, _, h1, h2⟩ := Q.out.1.at (j := J) (by omega)
      have HA : Aside (∀ r ∈ R.take J, r.id ≠ i) := hall
      have HE : Aside (R[J]? = some r) := er
      have HM : Aside (r ∈ R) := hr
      obtain ⟨x, hx⟩ : ∃ x, r.id = x := ⟨_, rfl⟩
      rw [hx] at h1
      have HX : Hid _ := hx
      obtain ⟨p, pc, ev, qv, _⟩ := Q.out.2.2 r hr
      rw [ev] at h2
      have HV : Hid _ := ev
      clear hall er hr hx ev qv
      by_cases ce : x = i
      · subst ce
        have FIN : Aside (∃ v d, Ending.returned (.slice p r.ps.length pc) = .returned v ∧ Sl wr Y v d ∧ Up d ∧ ∀ q, q ∈ d ↔ E q x) := by
          obtain ⟨_, I, pr⟩ := Q.out
          refine ⟨_, r.ps, rfl, ?_, (I.ps r HM.out).1, fun q => ?_⟩
          · rw [← HV.out]; exact pr r HM.out
          · rw [← HX.out]; exact (I.waits HM.out q).symm
        clear HV HA
        go_wp2_with fail
        go_ret
        exact ⟨rfl, FIN.out⟩
      · have ce' : (x == i) = false := by simp [ce]
        go_wp2_with fail
        go_roundw
        case rel =>
          refine ⟨by trivial, J + 1, by omega, by go_num, fun s hs => ?_⟩
          rw [List.take_add_one, HE.out] at hs
          rcases List.mem_append.1 hs with hs | hs
          · exact HA.out s hs
          · simp at hs; rw [hs, HX.out]; exact ce
        case measure => simp [intOf]; omega
    · obtain rfl : J = n := by omega
      rw [List.take_of_length_le (by omega)] at hall
      have FIN : Aside (∃ v d, Ending.returned (.slice none 0 0) = .returned v ∧ Sl wr Y v d ∧ Up d ∧ ∀ q, q ∈ d ↔ E q i) :=
        ⟨_, [], rfl, ⟨none, 0, rfl, IsI.nil _, fun h => absurd rfl h⟩, by simp, fun q => by
          rw [Q.out.2.1.e]
          simp
          intro r hr e
          exact absurd e (hall r hr)⟩
      clear hall
      go_wp2_with fail
      go_ret
      exact ⟨rfl, FIN.out⟩
set_option maxHeartbeats 4000000 in
theorem vbehind_any (h : RD w Y F R) (I : RI E R) (hR : R.length ≤ 100000) (i : Int) : Calls Try.prog 21 #[.pointer (some ⟨F, 0, none⟩), .int .i64 i] w fun e w' => ∃ v d, e = .returned v ∧ OwnI w' w.heap.size v d ∧ Up d ∧ (∀ j, j ∈ d ↔ E i j) ∧ Below w.heap.size w w' := by
  obtain ⟨n, hn⟩ : ∃ n, R.length = n := ⟨_, rfl⟩
  obtain ⟨S, hS⟩ : ∃ S, w.heap.size = S := ⟨_, rfl⟩
  have Q : Aside (RD w Y F R ∧ RI E R) := ⟨h, I⟩
  clear h I
  go_enter Try.func21, Try.ntmps21
  go_wp2_with fail
  go_loopw [5, 6] (fun s5 s6 wr => ∃ (J : Nat) (vf : Value), J ≤ n ∧ s6 = .int .i64 J ∧ vf = s5 ∧ Below S w wr ∧ OwnI wr S vf (((R.take J).filter (fun r => decide (i ∈ r.ps))).map (·.id)) ∧ S ≤ wr.heap.size) (fun _ i _ => n - (intOf i).toNat)
  case atStart => exact ⟨0, _, by omega, rfl, rfl, Below.refl _ _, OwnI.nil _ _, by omega⟩
  case round =>
    obtain ⟨J, vf, hJ, rfl, rfl, BW, OW, sz⟩ := hrel
    have RW : RD wr Y F R := Q.out.1.below (by rw [hS]; exact BW)
    obtain ⟨a, cap, hc, q⟩ := RW.cell
    rw [hn] at hc
    by_cases c : J < n
    · obtain ⟨b, off, r, rfl, er, hr, _, h1, h2⟩ := q.at (j := J) (by omega)
      obtain ⟨x, hx⟩ : ∃ x, r.id = x := ⟨_, rfl⟩
      rw [hx] at h1
      obtain ⟨p, pc, ev, qv, _⟩ := RW.pre r hr
      rw [ev] at h2
      have HAS := has_any qv i
      have tk : ((R.take (J + 1)).filter (fun r => decide (i ∈ r.ps))).map (·.id) = ((R.take J).filter (fun r => decide (i ∈ r.ps))).map (·.id) ++ if i ∈ r.ps then [x] else [] := by
        rw [List.take_add_one, er, List.filter_append, List.map_append]
        congr 1
        by_cases c : i ∈ r.ps <;> simp [c, hx]
      obtain ⟨L, hL⟩ : ∃ L, r.ps.length = L := ⟨_, rfl⟩
      rw [hL] at HAS h2
      have Ll : L ≤ 9223372036854775807 := by rw [← hL]; exact qv.len
      have hlen : (((R.take J).filter (fun r => decide (i ∈ r.ps))).map (·.id)).length < 1000000 := by
        rw [List.length_map]
        exact Nat.lt_of_le_of_lt (List.length_filter_le _ _) (by simp; omega)
      obtain ⟨v3, w3, hr3, o3, F3, n3⟩ := OW.push x hlen sz
      have low3 : ∀ k, vf.ownBlock = some k → S ≤ k := fun k hk => (OW.rowLt hk).1
      by_cases ci : i ∈ r.ps
      · rw [show decide (i ∈ r.ps) = true from decide_eq_true ci] at HAS
        rw [if_pos ci] at tk
        have NX : Aside (Below S w w3 ∧ OwnI w3 S v3 (((R.take (J + 1)).filter (fun r => decide (i ∈ r.ps))).map (·.id)) ∧ S ≤ w3.heap.size) := ⟨BW.trans (F3.toBelow low3 sz), by rw [tk]; exact o3, by have := F3.size; omega⟩
        clear BW OW sz RW q hr er hx ev qv hL tk hlen o3 F3 n3 low3 ci
        go_wp2_with fail
        refine HAS.mono ?_
        rintro e w4 ⟨rfl, rfl⟩
        clear HAS
        go_wp2_with (at_builtin; refine wpList_app _ rfl _ _ 24 rfl _ _ rfl rfl v3 w3 hr3 ?_; clear hr3)
        go_roundw
        case rel => exact ⟨J + 1, v3, by omega, by go_num, rfl, NX.out⟩
        case measure => simp [intOf]; omega
      · rw [show decide (i ∈ r.ps) = false from decide_eq_false ci] at HAS
        rw [if_neg ci, List.append_nil] at tk
        have NX : Aside (Below S w wr ∧ OwnI wr S vf (((R.take (J + 1)).filter (fun r => decide (i ∈ r.ps))).map (·.id)) ∧ S ≤ wr.heap.size) := ⟨BW, by rw [tk]; exact OW, sz⟩
        clear BW OW sz RW q hr er hx ev qv hL tk hlen o3 F3 n3 low3 ci hr3
        go_wp2_with fail
        refine HAS.mono ?_
        rintro e w4 ⟨rfl, rfl⟩
        clear HAS
        go_wp2_with fail
        go_roundw
        case rel => exact ⟨J + 1, vf, by omega, by go_num, rfl, NX.out⟩
        case measure => simp [intOf]; omega
    · obtain rfl : J = n := by omega
      rw [List.take_of_length_le (by omega)] at OW
      have FIN : Aside (∃ v d, Ending.returned vf = .returned v ∧ OwnI wr S v d ∧ Up d ∧ (∀ j, j ∈ d ↔ E i j) ∧ Below S w wr) := by
        obtain ⟨_, I⟩ := Q.out
        refine ⟨_, _, rfl, OW, ?_, fun j => ?_, BW⟩
        · unfold Up
          rw [List.pairwise_map]
          exact (I.up.filter _).imp (fun h => h)
        · rw [I.e, List.mem_map]
          constructor
          · rintro ⟨r, hr, rfl⟩
            obtain ⟨h1, h2⟩ := List.mem_filter.1 hr
            exact ⟨r, h1, rfl, of_decide_eq_true h2⟩
          · rintro ⟨r, h1, h2, h3⟩
            exact ⟨r, List.mem_filter.2 ⟨h1, decide_eq_true h3⟩, h2⟩
      clear OW BW sz RW q
      go_wp2_with fail
      go_ret
      first | exact FIN.out | (rw [hS]; exact FIN.out)
end Go.Proofs.Ythpdnlokjhafeaa
