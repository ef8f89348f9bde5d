/- QueueNear: what is Relaxed is not far from the least (plain). -/
import Derived.Test.YtdcacbjmbfppeaaGreatQKp
namespace Go.Proofs.YtdcacbjmbfppeaaGreat
open Go.RowKit Go.Lib Go.Sort
set_option linter.unusedVariables false

variable {T K : Nat} {s : QSt} {sl ow : Nat → List Ent} {sh : List Ent}
theorem smal_app (c d : List Ent) (x : Ent) : smal (c ++ d) x = smal c x + smal d x := List.countP_append
/-- Less than what is not above place i are at most i. -/
theorem smal_at {d : List Ent} (hs : Srt d) {i : Nat} (hi : i < d.length) {x : Ent} (h : ltE d[i] x = false) : smal d x ≤ i := by
  have up : smal (d.drop i) x = 0 := smal_none fun y hy => by
    obtain ⟨j, hj, rfl⟩ := List.mem_iff_getElem.1 hy
    rw [List.getElem_drop]
    by_cases c : j = 0
    · subst c; exact h
    · have h2 : ltE (d[i + j]'(by simp at hj; omega)) d[i] = false := hs.get (show i < i + j by omega) (by simp at hj; omega)
      rw [ltE_not] at h h2 ⊢
      omega
  rw [smal_split d x i, up]
  have := smal_le (d.take i) x
  rw [List.length_take] at this
  omega
theorem flat_most (f : Nat → List Ent) : ∀ {k : Nat}, (∀ i, i < k → (f i).length ≤ K) → ((List.range k).flatMap f).length ≤ k * K
  | 0, _ => by simp
  | k + 1, hl => by
    rw [List.range_succ, List.flatMap_append, List.length_append, Nat.add_mul, Nat.one_mul]
    have := flat_most f (k := k) (fun i hi => hl i (by omega))
    simp only [List.flatMap_cons, List.flatMap_nil, List.append_nil]
    have := hl k (by omega)
    omega
theorem flat_less (f : Nat → List Ent) {t : Nat} : ∀ {k : Nat}, t < k → (∀ i, i < k → (f i).length ≤ K) → ((List.range k).flatMap (lset f t [])).length + K ≤ k * K
  | 0, h, _ => by omega
  | k + 1, h, hl => by
    rw [List.range_succ, List.flatMap_append, List.length_append, Nat.add_mul, Nat.one_mul]
    by_cases c : t = k
    · subst c
      rw [flatMap_congr' (f := lset f t []) (g := f) (fun i hi => lset_ne _ _ (by omega))]
      simp only [List.flatMap_cons, List.flatMap_nil, List.append_nil, lset_same, List.length_nil]
      have := flat_most f (k := t) (fun i hi => hl i (by omega))
      omega
    · have ih := flat_less f (t := t) (k := k) (by omega) (fun i hi => hl i (by omega))
      simp only [List.flatMap_cons, List.flatMap_nil, List.append_nil, lset_ne f _ (show k ≠ t from fun e => c e.symm)]
      have := hl k (by omega)
      omega
theorem allV_own {t : Nat} (ht : t < T) {x : Ent} (h : x ∈ ow t) : x ∈ allV T sl ow sh := by
  unfold allV
  exact List.mem_append_right _ (List.mem_append_left _ (List.mem_flatMap.2 ⟨t, List.mem_range.2 ht, h⟩))
theorem allV_sh {x : Ent} (h : x ∈ sh) : x ∈ allV T sl ow sh := by
  unfold allV
  exact List.mem_append_right _ (List.mem_append_right _ h)
/-- How many of all are less. -/
theorem View.less {N : Nat} (h : View T s sl ow sh) (ok : QOk K T N s) {t : Nat} (ht : t < T) {x : Ent} (h1 : smal (ow t) x = 0) (h2 : smal sh x ≤ K) : smal (allV T sl ow sh) x ≤ T * K + T := by
  have a1 : smal ((List.range T).flatMap sl) x ≤ T := by
    refine Nat.le_trans (smal_le _ _) ?_
    rw [← h.slots]
    exact slAll_len s.g T
  have a2 : smal ((List.range T).flatMap ow) x + K ≤ T * K := by
    rw [smal_perm (flatV_at ow ht) x, smal_app, h1, Nat.zero_add]
    have := flat_less (K := K) ow ht (fun i hi => by rw [← h.len hi]; exact ok.len i hi)
    have := smal_le ((List.range T).flatMap (lset ow t [])) x
    omega
  unfold allV
  rw [smal_app, smal_app]
  omega
theorem take1_srt (d : List Ent) : Srt (d.take 1) := by
  cases d with
  | nil => exact Srt.nil
  | cons x d => simp [Srt]
theorem candL_cases {N : Nat} (h : View T s sl ow sh) (dr : Nat) : (sh = [] ∧ candL s K dr = []) ∨ ∃ i, ∃ hi : i < sh.length, i ≤ K ∧ candL s K dr = [sh[i]] := by
  by_cases c : sh = []
  · refine .inl ⟨c, ?_⟩
    unfold candL
    rw [h.sh, c]
    rfl
  · have hp : 0 < sh.length := List.length_pos_iff.2 c
    have hl : s.hs.flatten.length = sh.length := h.hlen
    have dn : drawN ((K : Nat) : Int) s.hs.flatten.length = min (min K sh.length + 1) sh.length := by unfold drawN; rw [hl, Int.toNat_natCast]
    have d0 : 0 < min (min K sh.length + 1) sh.length := by omega
    have lt := Nat.mod_lt dr d0
    have hi : dr % min (min K sh.length + 1) sh.length < sh.length := by omega
    refine .inr ⟨dr % min (min K sh.length + 1) sh.length, hi, by omega, ?_⟩
    unfold candL
    rw [dn, h.sh, List.getElem?_eq_getElem hi]
    show (if s.hs.flatten.length = 0 then [] else _) = _
    rw [if_neg (by omega)]
theorem around {t j : Nat} (ht : t < T) (hj : j < T) : ∃ i, i < T ∧ (t + 1 + i) % T = j := by
  by_cases c : t + 1 ≤ j
  · exact ⟨j - t - 1, by omega, by rw [show t + 1 + (j - t - 1) = j by omega]; exact Nat.mod_eq_of_lt hj⟩
  · exact ⟨T + j - t - 1, by omega, by rw [show t + 1 + (T + j - t - 1) = T + j by omega, Nat.add_mod_left]; exact Nat.mod_eq_of_lt hj⟩
theorem headO_mem {d : List Ent} (h : d ≠ []) : (headO d).2 = true ∧ (headO d).1 ∈ d := by
  cases d with
  | nil => exact absurd rfl h
  | cons x d => exact ⟨rfl, List.mem_cons_self⟩
/-- What is Relaxed: there is one where there is something; it is there; not many are less. -/
theorem View.relaxed {N : Nat} (h : View T s sl ow sh) (ok : QOk K T N s) {t : Nat} (ht : t < T) (dr : Nat) :
    (allV T sl ow sh = [] ∧ (relaxQ s T K t dr).2 = false) ∨ (allV T sl ow sh ≠ [] ∧ (relaxQ s T K t dr).2 = true ∧ (relaxQ s T K t dr).1 ∈ allV T sl ow sh ∧ smal (allV T sl ow sh) (relaxQ s T K t dr).1 ≤ T * K + T) := by
  have o1 : own1 s t = (ow t).take 1 := by unfold own1; rw [h.ow t ht]
  have cc := candL_cases (N := N) (K := K) h dr
  have li := leastL_is [own1 s t, candL s K dr] (fun d hd => by
    simp only [List.mem_cons, List.not_mem_nil, or_false] at hd
    rcases hd with rfl | rfl
    · rw [o1]; exact take1_srt _
    · rcases cc with ⟨_, e⟩ | ⟨i, hi, _, e⟩
      · rw [e]; exact Srt.nil
      · rw [e]; simp [Srt]) 2 (by simp)
  have e2 : (List.take 2 [own1 s t, candL s K dr]).flatten = own1 s t ++ candL s K dr := by simp
  rw [e2] at li
  rcases li with ⟨n1, n2⟩ | ⟨j, x, n1, n2⟩
  · have u : relaxQ s T K t dr = headO (furtherL s T t) := by
      unfold relaxQ nearQ
      rw [n1]; rfl
    obtain ⟨n3, n4⟩ := List.append_eq_nil_iff.1 n2
    have ot : ow t = [] := by
      rw [o1] at n3
      cases hw : ow t with
      | nil => rfl
      | cons y r => rw [hw] at n3; cases n3
    have sh0 : sh = [] := by
      rcases cc with ⟨e, _⟩ | ⟨i, hi, _, e⟩
      · exact e
      · rw [e] at n4; cases n4
    have less : ∀ x, smal (allV T sl ow sh) x ≤ T * K + T := fun x => h.less ok ht (by rw [ot]; rfl) (by rw [sh0]; exact Nat.zero_le _)
    rw [u]
    have fl : furtherL s T t = match furtherI s T t with | some i => sortE (s.ls ((t + 1 + i) % T)).flatten | none => sortE (slAll s.g T) := rfl
    cases f : furtherI s T t with
    | some i =>
      rw [f] at fl
      unfold furtherI at f
      rw [List.find?_range_eq_some] at f
      have hT : (t + 1 + i) % T < T := Nat.mod_lt _ (by omega)
      have e3 : furtherL s T t = ow ((t + 1 + i) % T) := by rw [fl]; exact h.ow _ hT
      have ne : ow ((t + 1 + i) % T) ≠ [] := fun e => by
        have := of_decide_eq_true f.1
        rw [h.len hT, e] at this
        exact absurd this (by simp)
      rw [e3]
      obtain ⟨m1, m2⟩ := headO_mem ne
      have m3 : (headO (ow ((t + 1 + i) % T))).1 ∈ allV T sl ow sh := allV_own hT m2
      exact .inr ⟨List.ne_nil_of_mem m3, m1, m3, less _⟩
    | none =>
      rw [f] at fl
      unfold furtherI at f
      rw [List.find?_eq_none] at f
      have own0 : ∀ j, j < T → ow j = [] := fun j hj => by
        obtain ⟨i, hi, e⟩ := around ht hj
        have := f i (List.mem_range.2 hi)
        rw [e, h.len hj] at this
        simpa using this
      have e4 : (List.range T).flatMap ow = [] := by rw [flatMap_congr' own0]; exact flatN_nil T
      have e5 : allV T sl ow sh = slAll s.g T := by unfold allV; rw [e4, sh0, h.slots]; simp
      by_cases c : slAll s.g T = []
      · refine .inl ⟨by rw [e5]; exact c, ?_⟩
        have : furtherL s T t = [] := by rw [fl]; show sortE (slAll s.g T) = []; rw [c]; exact sortE_nil
        rw [this]; rfl
      · have ne : furtherL s T t ≠ [] := fun e => c (by
          have l := sortE_len (slAll s.g T)
          rw [show sortE (slAll s.g T) = furtherL s T t from fl.symm, e] at l
          exact List.eq_nil_of_length_eq_zero l.symm)
        obtain ⟨m1, m2⟩ := headO_mem ne
        have m3 : (headO (furtherL s T t)).1 ∈ allV T sl ow sh := by
          rw [e5]
          refine (sortE_perm (slAll s.g T)).mem_iff.1 ?_
          rw [show sortE (slAll s.g T) = furtherL s T t from fl.symm]
          exact m2
        exact .inr ⟨List.ne_nil_of_mem m3, m1, m3, less _⟩
  · have u : relaxQ s T K t dr = (x, true) := by
      unfold relaxQ nearQ
      rw [n1]; rfl
    rw [u]
    have m : x ∈ allV T sl ow sh := by
      rcases List.mem_append.1 n2.1 with hx | hx
      · rw [o1] at hx
        exact allV_own ht (List.mem_of_mem_take hx)
      · rcases cc with ⟨_, e⟩ | ⟨i, hi, _, e⟩
        · rw [e] at hx; cases hx
        · rw [e] at hx
          rw [List.mem_singleton.1 hx]
          exact allV_sh (List.getElem_mem hi)
    refine .inr ⟨List.ne_nil_of_mem m, rfl, m, h.less ok ht ?_ ?_⟩
    · cases hw : ow t with
      | nil => rfl
      | cons y r =>
        have hy : ltE y x = false := n2.2 y (List.mem_append_left _ (by rw [o1, hw]; simp))
        have := smal_at (d := y :: r) (by rw [← hw]; exact h.osrt ht) (i := 0) (by simp) (x := x) hy
        exact Nat.le_zero.1 this
    · rcases cc with ⟨e, _⟩ | ⟨i, hi, hK, e⟩
      · rw [e]; exact Nat.zero_le _
      · have hy : ltE sh[i] x = false := n2.2 _ (List.mem_append_right _ (by rw [e]; simp))
        exact Nat.le_trans (smal_at h.ssrt hi hy) hK
/-- What stands there behind i rounds: any. -/
def NrI (T K i : Nat) (s : QSt) : Prop := ∃ n th, KpI T K i n th s
theorem nr_relax {i t : Nat} (h : NrI T K i s) (ht : t < T) (dr : Nat) : ((relaxQ s T K t dr).2 = false ∧ NrI T K (i + 1) s) ∨ ((relaxQ s T K t dr).2 = true ∧ (firstHit s T (relaxQ s T K t dr).1.2).isSome = true ∧ NrI T K (i + 1) (takeQ s T (relaxQ s T K t dr).1.2)) := by
  obtain ⟨n, th, kp⟩ := h
  have kp0 := kp
  obtain ⟨sl, ow, sh, v, ok, l⟩ := kp
  rcases v.relaxed ok ht dr with ⟨_, e⟩ | ⟨_, e, m, _⟩
  · exact .inl ⟨e, n, th, sl, ow, sh, v, ok.mono (by omega), l.mono⟩
  · refine .inr ⟨e, ?_⟩
    obtain ⟨k, k1, k2, k3, k4⟩ := (l.has _).1 (List.mem_map_of_mem (f := Prod.snd) m)
    rw [k3]
    obtain ⟨f, g, _⟩ := kp_take kp0 k
    have b : (decide (1 ≤ k) && th k) = true := by rw [k4, decide_eq_true k1]; rfl
    exact ⟨by rw [f]; exact b, _, _, (g b).2⟩
theorem nr_put {i t : Nat} (h : NrI T K i s) (ht : t < T) (hK : K ≤ 16) (z : Int) : NrI T K (i + 1) (putQ K s t (z, (i : Int) + 1)) := by
  obtain ⟨n, th, kp⟩ := h
  exact ⟨_, _, kp_put kp ht hK z⟩
theorem nr_settle {i t : Nat} (h : NrI T K i s) (ht : t < T) (hK : K ≤ 16) : NrI T K (i + 1) (settleQ K s t) := by
  obtain ⟨n, th, kp⟩ := h
  exact ⟨_, _, kp_settle kp ht hK⟩
theorem nr_ok {i : Nat} (h : NrI T K i s) : QOk K T i s := by
  obtain ⟨n, th, sl, ow, sh, v, ok, l⟩ := h
  exact ok
/-- What the end asks. -/
theorem nr_end {i t : Nat} (h : NrI T K i s) (ht : t < T) (dr : Nat) : (relaxQ s T K t dr).2 = decide (0 < (listsQ s T).flatten.length) ∧ ((relaxQ s T K t dr).2 = true → smal (sortE (listsQ s T).flatten) (relaxQ s T K t dr).1 ≤ T * K + T ∧ hasL (sortE (listsQ s T).flatten) (relaxQ s T K t dr).1.2 = true) ∧ (s.ls t).flatten.length ≤ K := by
  obtain ⟨n, th, sl, ow, sh, v, ok, l⟩ := h
  rw [v.flatten]
  rcases v.relaxed ok ht dr with ⟨e0, e⟩ | ⟨e0, e, m, q⟩
  · exact ⟨by rw [e, e0]; rfl, fun hf => by (rw [e] at hf; cases hf), ok.len t ht⟩
  · refine ⟨by rw [e, decide_eq_true (List.length_pos_iff.2 e0)], fun _ => ⟨by rw [smal_perm (sortE_perm _)]; exact q, hasL_mem.2 (List.mem_map_of_mem (f := Prod.snd) ((sortE_perm _).mem_iff.2 m))⟩, ok.len t ht⟩
theorem nr_new (T K : Nat) : NrI T K 0 newQ := ⟨_, _, kp_new T K⟩
theorem nr_len {i : Nat} (h : NrI T K i s) : (listsQ s T).flatten.length ≤ i := by
  obtain ⟨n, th, kp⟩ := h
  obtain ⟨a, _, b, _⟩ := kp_all kp
  omega
end Go.Proofs.YtdcacbjmbfppeaaGreat
