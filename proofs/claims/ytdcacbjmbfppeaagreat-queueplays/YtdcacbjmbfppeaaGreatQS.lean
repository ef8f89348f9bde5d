/- queue: what its spots have, and which part the table leads to. -/
import Derived.Test.YtdcacbjmbfppeaaGreatQ2
import Derived.Test.YtdcacbjmbfppeaaGreatOwnSq
namespace Go.Proofs.YtdcacbjmbfppeaaGreat
open Go.RowKit Go.Lib Go.Sort
set_option linter.unusedVariables false

/-- What spot j has, in order. -/
def spotL (s : QSt) (T j : Nat) : List Ent := if j < T then slotL (s.g j) else if j < 2 * T then sortE (s.ls (j - T)).flatten else sortE s.hs.flatten
def listsQ (s : QSt) (T : Nat) : List (List Ent) := (List.range (2 * T + 1)).map (spotL s T)
theorem listsQ_len (s : QSt) (T : Nat) : (listsQ s T).length = 2 * T + 1 := by simp [listsQ]
theorem listsQ_at (s : QSt) (T : Nat) {j : Nat} (hj : j < 2 * T + 1) : (listsQ s T)[j]? = some (spotL s T j) := by simp [listsQ, hj]
/-- Which slot has this ID first. -/
def slFirst (g : Nat → Pl) (T : Nat) (id : Int) : Option Nat := (List.range T).find? (fun i => slHit (g i) id)
def slDropQ (g : Nat → Pl) (T : Nat) (id : Int) : Nat → Pl := match slFirst g T id with
  | some i => slSet g i ⟨(0, 0), (g i).v + 1, false⟩
  | none => g
/-- Does a Drop at spot j find this ID? -/
def hitQ (s : QSt) (T : Nat) (id : Int) (j : Nat) : Bool := if j < T then (slFirst s.g T id).isSome else if j < 2 * T then hasL (s.ls (j - T)).flatten id else hasL s.hs.flatten id
/-- What a Drop at spot j leaves. -/
def dropQ (s : QSt) (T : Nat) (id : Int) (j : Nat) : QSt :=
  if j < T then { s with g := slDropQ s.g T id }
  else if j < 2 * T then { s with ls := lset s.ls (j - T) (dropLs (s.ls (j - T)) id) }
  else { s with v := if hasL s.hs.flatten id then s.v + 1 else s.v, hs := dropS s.hs id }
def firstHit (s : QSt) (T : Nat) (id : Int) : Option Nat := (List.range (2 * T + 1)).find? (hitQ s T id)
def takeQ (s : QSt) (T : Nat) (id : Int) : QSt := match firstHit s T id with
  | some j => dropQ s T id j
  | none => s
def firstHas (s : QSt) (T : Nat) (id : Int) : Option Nat := (List.range (2 * T + 1)).find? (fun j => hasL (spotL s T j) id)
def whereQ (s : QSt) (T : Nat) (id : Int) : Int × Int := match firstHas s T id with
  | some j => spotAt T j
  | none => (0, 0)
theorem find_range {p : Nat → Bool} {n j : Nat} (hj : j < n) (hp : p j = true) (hl : ∀ i, i < j → p i = false) : (List.range n).find? p = some j := by
  rw [List.find?_range_eq_some]
  exact ⟨hp, List.mem_range.2 hj, fun i hi => by rw [hl i hi]; rfl⟩
theorem find_range_none {p : Nat → Bool} {n : Nat} (hl : ∀ i, i < n → p i = false) : (List.range n).find? p = none := by
  rw [List.find?_eq_none]
  intro x hx
  rw [hl x (List.mem_range.1 hx)]
  simp
theorem dropLs_no {ls : List (List Ent)} {id : Int} (h : hasL ls.flatten id = false) : dropLs ls id = ls := by
  unfold dropLs
  rw [if_neg (fun hl => by rw [firstB_has.1 hl] at h; cases h)]
theorem dropS_no {ls : List (List Ent)} {id : Int} (h : hasL ls.flatten id = false) : dropS ls id = ls := by
  unfold dropS
  rw [if_neg (fun hl => by rw [firstB_has.1 hl] at h; cases h)]
theorem dropQ_no {s : QSt} {T : Nat} {id : Int} {j : Nat} (h : hitQ s T id j = false) : dropQ s T id j = s := by
  unfold hitQ at h
  unfold dropQ
  by_cases c1 : j < T
  · rw [if_pos c1] at h ⊢
    have : slDropQ s.g T id = s.g := by
      unfold slDropQ
      cases e : slFirst s.g T id with
      | none => rfl
      | some i => rw [e] at h; cases h
    rw [this]
  · rw [if_neg c1] at h ⊢
    by_cases c2 : j < 2 * T
    · rw [if_pos c2] at h ⊢
      have : lset s.ls (j - T) (dropLs (s.ls (j - T)) id) = s.ls := by
        funext i
        by_cases e : i = j - T
        · subst e; rw [lset_same, dropLs_no h]
        · rw [lset_ne _ _ e]
      rw [this]
    · rw [if_neg c2] at h ⊢
      rw [dropS_no h, h]
      rfl

/-- The functions of a part. -/
structure Part (A : QAd) (T j : Nat) (fa fd : Nat) (xa ya xd yd : Array Value) : Prop where
  tab : tabF A T (spotAt T j).1 (spotAt T j).2 = some (.agg #[.func (.func fa) xa ya, .func (.func fd) xd yd])
  ea : ∀ args w, (callFunc fa args).run Tryz.prog w = .ok (.enter fa args) w
  ed : ∀ args w, (callFunc fd args).run Tryz.prog w = .ok (.enter fd args) w
  all : ∀ (W : World) (base K N : Nat) (s : QSt), Que W base A T K s → QOk K T N s → N ≤ 1000 → K ≤ 16 → Calls Tryz.prog fa (xa ++ ya) W (Made W (spotL s T j))
  drop : ∀ (W : World) (base K N : Nat) (s : QSt) (id : Int), Que W base A T K s → QOk K T N s → N ≤ 1000 → K ≤ 16 → base ≤ W.heap.size → Calls Tryz.prog fd (xd.push (.int .i64 id) ++ yd) W fun r w' => r = .returned (.bool (hitQ s T id j)) ∧ Que w' base A T K (dropQ s T id j) ∧ Went base W w'
theorem PivO.made {w w' : World} {n : Nat} {d : List Ent} {r : Ending} (h : PivO w n d r w') (hn : d.length = n) : Made w d r w' := by
  obtain ⟨a, cap, h1, h2, h3⟩ := h
  exact ⟨a, cap, by rw [hn]; exact h1, by rw [hn]; exact h2, h3⟩
theorem slFirst_some {g : Nat → Pl} {T : Nat} {id : Int} {i : Nat} (h : slFirst g T id = some i) : i < T ∧ slHit (g i) id = true ∧ ∀ k, k < i → slHit (g k) id = false := by
  unfold slFirst at h
  rw [List.find?_range_eq_some] at h
  exact ⟨List.mem_range.1 h.2.1, h.1, fun k hk => by simpa using h.2.2 k hk⟩
theorem slFirst_none {g : Nat → Pl} {T : Nat} {id : Int} (h : slFirst g T id = none) : ∀ i, i < T → slHit (g i) id = false := by
  unfold slFirst at h
  rw [List.find?_eq_none] at h
  intro i hi
  have := h i (List.mem_range.2 hi)
  simpa using this
/-- Drop of the slots. -/
theorem slotsDrop_any {W : World} {base K N T : Nat} {A : QAd} {s : QSt} (id : Int) (h : Que W base A T K s) (ok : QOk K T N s) (hN : N ≤ 1000) (hb : base ≤ W.heap.size) :
    Calls Tryz.prog 63 #[ptr A.SB, .int .i64 id] W fun r w' => r = .returned (.bool (slFirst s.g T id).isSome) ∧ Que w' base A T K { s with g := slDropQ s.g T id } ∧ Went base W w' := by
  obtain ⟨ra, sa, h⟩ := h
  cases e : slFirst s.g T id with
  | none =>
    refine (slDrop_none W A.SB A.SR T s.g id h.slt (slFirst_none e)).mono fun r w' ⟨h1, h2⟩ => ⟨h1, ?_, by rw [h2]; exact Went.refl _ _⟩
    have : slDropQ s.g T id = s.g := by unfold slDropQ; rw [e]
    rw [this, h2]
    exact ⟨ra, sa, h⟩
  | some i =>
    obtain ⟨h1, h2, h3⟩ := slFirst_some e
    obtain ⟨k, d, v, f, e'⟩ : ∃ k d v f, s.g i = ⟨(k, d), v, f⟩ := ⟨_, _, _, _, rfl⟩
    rw [e'] at h2
    unfold slHit at h2
    simp only [Bool.and_eq_true, beq_iff_eq] at h2
    obtain ⟨rfl, rfl⟩ := h2
    have hv := ok.ver i h1
    rw [e'] at hv
    simp only at hv
    refine (slDrop_hit W A.SB A.SR T s.g i d k v h.slt h1 e' (by omega) h3).mono fun r w' ⟨r1, r2, r3⟩ => ?_
    have : slDropQ s.g T d = slSet s.g i ⟨(0, 0), v + 1, false⟩ := by unfold slDropQ; rw [e]; show slSet s.g i ⟨(0, 0), (s.g i).v + 1, false⟩ = _; rw [e']
    rw [this]
    obtain ⟨q1, q2⟩ := h.slots r2 r3
    exact ⟨r1, ⟨_, _, q1⟩, q2⟩
theorem part_slot (A : QAd) {T j : Nat} (h : j < T) : Part A T j 61 63 #[] #[ptr A.QC, ptr (A.TC j)] #[ptr A.SB] #[] := by
  refine ⟨?_, enters_of Tryz.func61 (by kernel_rfl) rfl, enters_of Tryz.func63 (by kernel_rfl) rfl, fun W base K N s hq ok hN hK => ?_, fun W base K N s id hq ok hN hK hb => ?_⟩
  · have : spotAt T j = (1, (j : Int)) := by unfold spotAt; rw [if_pos h]
    rw [this]
    exact tabF_slot A h
  · have : spotL s T j = slotL (s.g j) := by unfold spotL; rw [if_pos h]
    rw [this]
    exact table1_any W base A T K s j hq h
  · have e1 : hitQ s T id j = (slFirst s.g T id).isSome := by unfold hitQ; rw [if_pos h]
    have e2 : dropQ s T id j = { s with g := slDropQ s.g T id } := by unfold dropQ; rw [if_pos h]
    rw [e1, e2]
    exact slotsDrop_any id hq ok hN hb
theorem part_own (A : QAd) {T j t : Nat} (h : t < T) (hj : j = T + t) : Part A T j 64 65 #[ptr (A.L t)] #[] #[ptr (A.L t)] #[] := by
  have jt : j - T = t := by omega
  refine ⟨?_, enters_of Tryz.func64 (by kernel_rfl) rfl, enters_of Tryz.func65 (by kernel_rfl) rfl, fun W base K N s hq ok hN hK => ?_, fun W base K N s id hq ok hN hK hb => ?_⟩
  · have : spotAt T j = (2, (t : Int)) := by unfold spotAt; rw [if_neg (by omega), if_pos (by omega), jt]
    rw [this]
    exact tabF_own A h
  · have : spotL s T j = sortE (s.ls t).flatten := by unfold spotL; rw [if_neg (by omega), if_pos (by omega), jt]
    rw [this]
    obtain ⟨ra, sa, hq⟩ := hq
    exact (lall_any (A.L t) base (s.ls t) W (hq.own t h).t (by have := ok.len t h; omega)).mono fun r w' hp => hp.made (sortE_len _)
  · have e1 : hitQ s T id j = hasL (s.ls t).flatten id := by unfold hitQ; rw [if_neg (by omega), if_pos (by omega), jt]
    have e2 : dropQ s T id j = { s with ls := lset s.ls t (dropLs (s.ls t) id) } := by unfold dropQ; rw [if_neg (by omega), if_pos (by omega), jt]
    rw [e1, e2]
    obtain ⟨ra, sa, hq⟩ := hq
    refine (ldrop_any (A.L t) base (ra t) (s.ls t) id W (hq.own t h) (ok.fall t h) (by have := ok.count h; omega) (by have := ok.len t h; omega) hb).mono fun r w' ⟨r1, r2⟩ => ?_
    obtain ⟨ra', q1, q2⟩ := hq.turn h r2
    exact ⟨r1, ⟨_, _, q1⟩, q2⟩
theorem part_shared (A : QAd) {T j : Nat} (hj : j = 2 * T) : Part A T j 59 60 #[ptr A.HB] #[] #[ptr A.HB] #[] := by
  refine ⟨?_, enters_of Tryz.func59 (by kernel_rfl) rfl, enters_of Tryz.func60 (by kernel_rfl) rfl, fun W base K N s hq ok hN hK => ?_, fun W base K N s id hq ok hN hK hb => ?_⟩
  · have : spotAt T j = (3, 0) := by unfold spotAt; rw [if_neg (by omega), if_neg (by omega)]
    rw [this]
    exact tabF_shared A T
  · have : spotL s T j = sortE s.hs.flatten := by unfold spotL; rw [if_neg (by omega), if_neg (by omega)]
    rw [this]
    obtain ⟨ra, sa, hq⟩ := hq
    exact (sall_any A.HB s.v s.hs W hq.shr.s (by have := ok.hsum; omega)).mono fun r w' hp => hp.made (sortE_len _)
  · have e1 : hitQ s T id j = hasL s.hs.flatten id := by unfold hitQ; rw [if_neg (by omega), if_neg (by omega)]
    have e2 : dropQ s T id j = { s with v := if hasL s.hs.flatten id then s.v + 1 else s.v, hs := dropS s.hs id } := by unfold dropQ; rw [if_neg (by omega), if_neg (by omega)]
    rw [e1, e2]
    obtain ⟨ra, sa, hq⟩ := hq
    refine (sdrop_any A.HB s.v sa s.hs id W hq.shr (by have := ok.hlen; omega) (by have := ok.hsum; omega) ok.hsrt (by have := ok.sv; omega)).mono fun r w' ⟨r1, ⟨a', r2, r3⟩, r4⟩ => ?_
    obtain ⟨q1, q2⟩ := hq.shared r2 r3 r4
    exact ⟨r1, ⟨_, _, q1⟩, q2⟩
/-- Each spot leads to a part. -/
theorem part_any (A : QAd) {T j : Nat} (hj : j < 2 * T + 1) : ∃ fa fd xa ya xd yd, Part A T j fa fd xa ya xd yd := by
  by_cases c1 : j < T
  · exact ⟨_, _, _, _, _, _, part_slot A c1⟩
  · by_cases c2 : j < 2 * T
    · exact ⟨_, _, _, _, _, _, part_own A (t := j - T) (by omega) (by omega)⟩
    · exact ⟨_, _, _, _, _, _, part_shared A (by omega)⟩
theorem spot_wf (T j : Nat) (h8 : T ≤ 8) : wfI (spotAt T j).1 ∧ wfI (spotAt T j).2 := by
  unfold spotAt wfI
  by_cases c1 : j < T
  · rw [if_pos c1]; exact ⟨(show (Lit.int .i64 1).wf = true by decide), by simp [Lit.wf, IntKind.min, IntKind.max, IntKind.bits, IntKind.signed]; omega⟩
  · rw [if_neg c1]
    by_cases c2 : j < 2 * T
    · rw [if_pos c2]; exact ⟨(show (Lit.int .i64 2).wf = true by decide), by simp [Lit.wf, IntKind.min, IntKind.max, IntKind.bits, IntKind.signed]; omega⟩
    · rw [if_neg c2]; exact ⟨by decide, by decide⟩
end Go.Proofs.YtdcacbjmbfppeaaGreat
