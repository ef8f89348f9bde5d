/- A row of events, and how far from order it is: as plain lists. Nothing of the program. -/
namespace Go.Proofs.Ytpcmdbpgplcnnaa
set_option linter.unusedVariables false

/-- An event: kind, thread, ID; key, ticket, tick. -/
structure EvR where
  k : Int
  t : Int
  i : Int
  y : Nat
  c : Nat
  n : Nat
/-! ## Lists by keys -/
def kget {α : Type} (x : Int) : List (Int × α) → Option α
  | [] => none
  | p :: l => if p.1 = x then some p.2 else kget x l
def kdel {α : Type} (x : Int) (l : List (Int × α)) : List (Int × α) := l.filter fun p => !decide (p.1 = x)
def kput {α : Type} (x : Int) (v : α) (l : List (Int × α)) : List (Int × α) := (x, v) :: kdel x l
section
variable {α : Type} {x y : Int} {v : α} {l : List (Int × α)}
theorem kget_del : kget y (kdel x l) = if y = x then none else kget y l := by
  induction l with
  | nil => simp [kdel, kget]
  | cons p l ih =>
    unfold kdel at ih ⊢
    by_cases h : p.1 = x
    · rw [List.filter_cons_of_neg (by simp [h]), ih]
      by_cases hy : y = x
      · rw [if_pos hy, if_pos hy]
      · rw [if_neg hy, if_neg hy, kget, if_neg (by rw [h]; exact fun e => hy e.symm)]
    · rw [List.filter_cons_of_pos (by simp [h])]
      unfold kget
      by_cases hy : p.1 = y
      · rw [if_pos hy, if_pos hy, if_neg (by rw [← hy]; exact h)]
      · rw [if_neg hy, if_neg hy, ih]
theorem kget_put : kget y (kput x v l) = if y = x then some v else kget y l := by
  unfold kput
  rw [kget]
  by_cases h : y = x
  · rw [if_pos h, if_pos h.symm]
  · rw [if_neg h, if_neg (fun e => h e.symm), kget_del, if_neg h]
def Keys (l : List (Int × α)) : Prop := (l.map Prod.fst).Nodup
theorem keys_nil : Keys ([] : List (Int × α)) := List.nodup_nil
theorem keys_del (h : Keys l) : Keys (kdel x l) := List.Nodup.sublist (List.Sublist.map _ List.filter_sublist) h
theorem keys_put (h : Keys l) : Keys (kput x v l) := by
  unfold kput Keys
  rw [List.map_cons, List.nodup_cons]
  refine ⟨fun hm => ?_, keys_del h⟩
  obtain ⟨p, hp, hx⟩ := List.mem_map.1 hm
  have := (List.mem_filter.1 hp).2
  simp [hx] at this
theorem kget_mem (h : Keys l) : kget x l = some v ↔ (x, v) ∈ l := by
  induction l with
  | nil => simp [kget]
  | cons p l ih =>
    obtain ⟨h1, h2⟩ := List.nodup_cons.1 h
    unfold kget
    by_cases hp : p.1 = x
    · rw [if_pos hp]
      constructor
      · intro e
        injection e with e
        rw [List.mem_cons]
        exact .inl (by rw [← hp, ← e])
      · intro hm
        rcases List.mem_cons.1 hm with e | hm
        · rw [← e]
        · exact absurd (List.mem_map.2 ⟨_, hm, hp.symm⟩) h1
    · rw [if_neg hp, ih h2, List.mem_cons]
      exact ⟨.inr, fun e => e.elim (fun e => absurd (by rw [← e]) hp) id⟩
theorem kget_some : (kget x l).isSome = true ↔ x ∈ l.map Prod.fst := by
  induction l with
  | nil => simp [kget]
  | cons p l ih =>
    unfold kget
    rw [List.map_cons, List.mem_cons]
    by_cases hp : p.1 = x
    · rw [if_pos hp]; simp [hp]
    · rw [if_neg hp, ih]
      exact ⟨.inr, fun e => e.elim (fun e => absurd e.symm hp) id⟩
theorem kdel_len : (kdel x l).length ≤ l.length := List.length_filter_le _ _
theorem kput_len : (kput x v l).length ≤ l.length + 1 := by unfold kput; have := @kdel_len α x l; rw [List.length_cons]; omega
end
/-! ## Reading -/
/-- One that is ready: key, ID, where its last event stands. -/
structure WtR where
  y : Nat
  i : Int
  s : Int
/-- What a claim is held against: what is ready, by ID; the looks, by thread. -/
structure RwB where
  S : List (Int × WtR)
  K : List (Int × (Int × Int))
def rb0 : RwB := ⟨[], []⟩
def RwB.turn (s : RwB) (a : Int) (e : EvR) : RwB := match kget e.i s.S with
  | some x => { s with S := kput e.i { x with s := a } s.S }
  | none => s
def RwB.read (s : RwB) (a : Int) (e : EvR) : RwB :=
  if e.k = 10 then { s with K := kput e.t (a, e.i) s.K }
  else if e.k = 8 ∨ e.k = 9 then s
  else if e.k = 2 then { s with S := kput e.i ⟨e.y, e.i, a⟩ s.S }
  else if e.k = 3 ∨ e.k = 4 ∨ e.k = 5 ∨ e.k = 6 ∨ e.k = 7 then { s with S := kdel e.i s.S }
  else s.turn a e
def ltB (y : Nat) (i : Int) (z : Nat) (j : Int) : Bool := if y = z then decide (i < j) else decide (y < z)
/-- Is it one that a claim passes over, whose look stands at a? -/
def overB (a : Int) (e : EvR) (x : WtR) : Bool := decide (x.s < a) && ltB x.y x.i e.y e.i
def RwB.pas (s : RwB) (e : EvR) : Int := match kget e.t s.K with
  | none => -1
  | some (a, j) => if j = e.i then ((s.S.filter fun p => overB a e p.2).length : Int) else -1
def readsB (s : RwB) (n : Nat) : List EvR → RwB
  | [] => s
  | e :: d => readsB (s.read n e) (n + 1) d
def rhoB (s : RwB) (g : Int) (n : Nat) : List EvR → Int
  | [] => g
  | e :: d => rhoB (s.read n e) (if e.k = 3 then max g (s.pas e) else g) (n + 1) d
/-- How many the claim at n passes over. -/
def pasB (d : List EvR) (n : Nat) (e : EvR) : Int := (readsB rb0 0 (d.take n)).pas e
/-! ## Waiting -/
def srcB (K : List (Int × Int)) (n : Nat) : List EvR → List Int
  | [] => []
  | e :: d => (if e.k = 3 then (kget e.i K).getD 0 else 0) :: srcB (if e.k = 2 then kput e.i (n : Int) K else K) (n + 1) d
def hapB (e : EvR) (i : Int) : Bool := decide (e.i = i) && (!decide (e.k = 10) && (!decide (e.k = 8) && !decide (e.k = 9)))
/-- Along the events behind, with their sources. -/
def waitB (i at_ : Int) : List EvR → List Int → Int
  | e :: d, z :: s => if hapB e i then 0 else (if z > at_ then 1 else 0) + waitB i at_ d s
  | _, _ => 0
def behB (K : List (Int × Int)) (g c : Int) : List EvR → Int
  | [] => g
  | e :: d =>
    if e.k = 10 ∨ e.k = 8 ∨ e.k = 9 then behB K g c d
    else if e.k = 2 then behB (kput e.i c K) g c d
    else if e.k = 3 then behB (kdel e.i K) (match kget e.i K with | some z => max g (c - z) | none => g) (c + 1) d
    else behB (kdel e.i K) g c d
end Go.Proofs.Ytpcmdbpgplcnnaa
