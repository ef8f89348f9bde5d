/- Entries as pairs of numbers, and their order; what a swap of two ranges and a rotation do, place by place; merging two sorted runs in place. Plain: nothing of the program. -/
import Derived.Sort.LotA
namespace Go.Proofs.YtbopobgnmkhabaaDoor
open Go.Sort
set_option linter.unusedVariables false

/-- Key and ID. -/
abbrev Ent := Int × Int
/-- It stands ahead. -/
def ltE (x y : Ent) : Bool := if x.1 = y.1 then decide (x.2 < y.2) else decide (x.1 < y.1)
theorem ltE_iff (x y : Ent) : ltE x y = true ↔ (x.1 < y.1 ∨ x.1 = y.1 ∧ x.2 < y.2) := by
  unfold ltE; split <;> simp <;> omega
theorem ltE_not (x y : Ent) : ltE x y = false ↔ (y.1 < x.1 ∨ x.1 = y.1 ∧ y.2 ≤ x.2) := by
  unfold ltE; split <;> simp <;> omega
theorem swoE : SWO ltE where
  irrefl x := by rw [ltE_not]; omega
  trans x y z h1 h2 := by rw [ltE_iff] at *; omega
  ntrans x y z h1 h2 := by rw [ltE_not] at *; omega
theorem totE (x y : Ent) (h1 : ltE x y = false) (h2 : ltE y x = false) : x = y := by
  rw [ltE_not] at *
  exact Prod.ext (by omega) (by omega)

section
variable {α : Type}

/-- The ranges of n from a and from b on have changed places. -/
def swR (g : Nat → α) (a b n t : Nat) : α := if a ≤ t ∧ t < a + n then g (t - a + b) else if b ≤ t ∧ t < b + n then g (t - b + a) else g t
/-- What stood from m to b stands from a on, and what stood from a to m behind it. -/
def rotF (g : Nat → α) (a m b t : Nat) : α := if a ≤ t ∧ t < a + (b - m) then g (t + (m - a)) else if a + (b - m) ≤ t ∧ t < b then g (t - (b - m)) else g t

theorem swR_zero (g : Nat → α) (a b t : Nat) : swR g a b 0 t = g t := by
  unfold swR
  rw [if_neg (by omega), if_neg (by omega)]
theorem swR_succ (g : Nat → α) (a b n t : Nat) (h : a + n < b) : swR g a b (n + 1) t = if t = b + n then g (a + n) else if t = a + n then g (b + n) else swR g a b n t := by
  unfold swR
  by_cases h1 : t = b + n
  · subst h1
    rw [if_neg (by omega), if_pos (by omega), if_pos rfl]; congr 1; omega
  · rw [if_neg h1]
    by_cases h2 : t = a + n
    · subst h2
      rw [if_pos (by omega), if_pos rfl]; congr 1; omega
    · rw [if_neg h2]
      by_cases h3 : a ≤ t ∧ t < a + n
      · rw [if_pos (by omega), if_pos h3]
      · rw [if_neg (by omega), if_neg h3]
        by_cases h4 : b ≤ t ∧ t < b + n
        · rw [if_pos (by omega), if_pos h4]
        · rw [if_neg (by omega), if_neg h4]
theorem rot_gt (g : Nat → α) (m i j t : Nat) (h : j < i) (hm : i ≤ m) : rotF (swR g (m - i) m j) (m - (i - j)) m (m + j) t = rotF g (m - i) m (m + j) t := by
  unfold rotF swR
  repeat' split
  all_goals first | omega | (congr 1 <;> omega)
theorem rot_lt (g : Nat → α) (m i j t : Nat) (h : i < j) (hm : i ≤ m) : rotF (swR g (m - i) (m + j - i) i) (m - i) m (m + (j - i)) t = rotF g (m - i) m (m + j) t := by
  unfold rotF swR
  repeat' split
  all_goals first | omega | (congr 1 <;> omega)
theorem rot_eq (g : Nat → α) (m i t : Nat) (hm : i ≤ m) : swR g (m - i) m i t = rotF g (m - i) m (m + i) t := by
  unfold rotF swR
  repeat' split
  all_goals first | omega | (congr 1 <;> omega)
theorem rot_left (g : Nat → α) (m b t : Nat) : rotF g m m b t = g t := by
  unfold rotF
  repeat' split
  all_goals first | rfl | omega | (congr 1 <;> omega)
theorem rot_right (g : Nat → α) (a m t : Nat) : rotF g a m m t = g t := by
  unfold rotF
  repeat' split
  all_goals first | rfl | omega | (congr 1 <;> omega)
theorem rotF_congr {g h : Nat → α} (e : ∀ t, g t = h t) (a m b t : Nat) : rotF g a m b t = rotF h a m b t := by
  unfold rotF; simp only [e]

variable [Inhabited α] {lt : α → α → Bool}

theorem srt_le (h : SWO lt) {a b : Nat} {d : Array α} (hs : SortedIn lt a b d) {i j : Nat} (hi : a ≤ i) (hij : i ≤ j) (hj : j < b) : lt d[j]! d[i]! = false := by
  by_cases e : i = j
  · subst e; exact h.irrefl _
  · exact hs i j hi (by omega) hj

/-- The first one goes to its place among the others. -/
theorem ins_left (h : SWO lt) {a i b : Nat} {d d' : Array α} (hs : SortedIn lt (a + 1) b d) (hi : a + 1 ≤ i) (hb : i ≤ b)
    (h1 : i = a + 1 ∨ lt d[i - 1]! d[a]! = true) (h2 : i = b ∨ lt d[i]! d[a]! = false)
    (hd : ∀ t, d'[t]! = if a ≤ t ∧ t < i - 1 then d[t + 1]! else if t = i - 1 then d[a]! else d[t]!) : SortedIn lt a b d' := by
  intro p q hp hpq hq
  have low : ∀ t, a + 1 ≤ t → t < i → lt d[a]! d[t]! = false := fun t t1 t2 => by
    rcases h1 with h1 | h1
    · omega
    · exact h.ntrans _ _ _ (h.asymmA h1) (srt_le h hs t1 (show t ≤ i - 1 by omega) (by omega))
  have up : ∀ t, i ≤ t → t < b → lt d[t]! d[a]! = false := fun t t1 t2 => by
    rcases h2 with h2 | h2
    · omega
    · exact h.ntrans _ _ _ (srt_le h hs hi t1 t2) h2
  rw [hd p, hd q]
  by_cases c1 : q < i - 1
  · rw [if_pos (by omega), if_pos (by omega)]
    exact hs _ _ (by omega) (by omega) (by omega)
  · rw [if_neg (show ¬ (a ≤ q ∧ q < i - 1) by omega)]
    by_cases c2 : q = i - 1
    · rw [if_pos c2, if_pos (by omega)]
      exact low _ (by omega) (by omega)
    · rw [if_neg c2]
      by_cases c3 : p < i - 1
      · rw [if_pos (by omega)]
        exact hs _ _ (by omega) (by omega) (by omega)
      · rw [if_neg (by omega)]
        by_cases c4 : p = i - 1
        · rw [if_pos c4]; exact up _ (by omega) (by omega)
        · rw [if_neg c4]; exact hs _ _ (by omega) (by omega) (by omega)

/-- The last one goes to its place among the others. -/
theorem ins_right (h : SWO lt) {a i m : Nat} {d d' : Array α} (hs : SortedIn lt a m d) (hi : a ≤ i) (hm : i ≤ m)
    (h1 : i = a ∨ lt d[m]! d[i - 1]! = false) (h2 : i = m ∨ lt d[m]! d[i]! = true)
    (hd : ∀ t, d'[t]! = if i < t ∧ t ≤ m then d[t - 1]! else if t = i then d[m]! else d[t]!) : SortedIn lt a (m + 1) d' := by
  intro p q hp hpq hq
  have low : ∀ t, a ≤ t → t < i → lt d[m]! d[t]! = false := fun t t1 t2 => by
    rcases h1 with h1 | h1
    · omega
    · exact h.ntrans _ _ _ h1 (srt_le h hs t1 (show t ≤ i - 1 by omega) (by omega))
  have up : ∀ t, i ≤ t → t < m → lt d[t]! d[m]! = false := fun t t1 t2 => by
    rcases h2 with h2 | h2
    · omega
    · exact h.ntrans _ _ _ (srt_le h hs hi t1 t2) (h.asymmA h2)
  rw [hd p, hd q]
  by_cases c1 : i < p
  · rw [if_pos (by omega), if_pos (by omega)]
    exact hs _ _ (by omega) (by omega) (by omega)
  · rw [if_neg (show ¬ (i < p ∧ p ≤ m) by omega)]
    by_cases c2 : p = i
    · rw [if_pos c2, if_pos (by omega)]
      exact up _ (by omega) (by omega)
    · rw [if_neg c2]
      by_cases c3 : i < q
      · rw [if_pos (by omega)]
        exact hs _ _ (by omega) (by omega) (by omega)
      · rw [if_neg (by omega)]
        by_cases c4 : q = i
        · rw [if_pos c4]; exact low _ (by omega) (by omega)
        · rw [if_neg c4]; exact hs _ _ (by omega) (by omega) (by omega)

/-- What a rotation around the middle leaves of two sorted runs: four runs, and nothing of the right half is less than anything of the left. -/
structure Halves (lt : α → α → Bool) (a s mid e b : Nat) (d : Array α) : Prop where
  r1 : SortedIn lt a s d
  r2 : SortedIn lt s mid d
  r3 : SortedIn lt mid e d
  r4 : SortedIn lt e b d
  cross : ∀ x y, a ≤ x → x < mid → mid ≤ y → y < b → lt d[y]! d[x]! = false

theorem halves (h : SWO lt) {a m b mid s lo hi : Nat} {d d' : Array α} (hL : SortedIn lt a m d) (hR : SortedIn lt m b d)
    (hlo : lo = a ∨ lo + b = mid + m) (hhi : hi = mid ∨ hi = m) (las : a ≤ s) (lsm : s ≤ m) (lsd : s ≤ mid) (lam : a ≤ mid) (lmb : mid ≤ b) (leb : mid + m - s ≤ b) (lm : m ≤ b)
    (h1 : s = lo ∨ lt d[mid + m - s]! d[s - 1]! = false) (h2 : s = hi ∨ lt d[mid + m - s - 1]! d[s]! = true)
    (hd : ∀ t, d'[t]! = rotF (fun t => d[t]!) s m (mid + m - s) t) : Halves lt a s mid (mid + m - s) b d' := by
  obtain ⟨e, he⟩ : ∃ e, mid + m - s = e := ⟨_, rfl⟩
  rw [he] at h1 h2 hd leb
  rw [he]
  have v1 : ∀ t, t < s → d'[t]! = d[t]! := fun t ht => by rw [hd]; unfold rotF; rw [if_neg (by omega), if_neg (by omega)]
  have v2 : ∀ t, s ≤ t → t < mid → d'[t]! = d[t + (m - s)]! := fun t t1 t2 => by rw [hd]; unfold rotF; rw [if_pos (by omega)]
  have v3 : ∀ t, mid ≤ t → t < e → d'[t]! = d[t - (e - m)]! := fun t t1 t2 => by rw [hd]; unfold rotF; rw [if_neg (by omega), if_pos (by omega)]
  have v4 : ∀ t, e ≤ t → d'[t]! = d[t]! := fun t ht => by rw [hd]; unfold rotF; rw [if_neg (by omega), if_neg (by omega)]
  have uv : ∀ u v, a ≤ u → u < s → e ≤ v → v < b → lt d[v]! d[u]! = false := fun u v u1 u2 w1 w2 => by
    rcases h1 with h1 | h1
    · omega
    · exact h.ntrans _ _ _ (h.ntrans _ _ _ (srt_le h hR (show m ≤ e by omega) w1 w2) h1) (srt_le h hL u1 (show u ≤ s - 1 by omega) (by omega))
  have vu : ∀ v u, m ≤ v → v < e → s ≤ u → u < m → lt d[u]! d[v]! = false := fun v u w1 w2 u1 u2 => by
    rcases h2 with h2 | h2
    · omega
    · exact h.ntrans _ _ _ (h.ntrans _ _ _ (srt_le h hL las u1 u2) (h.asymmA h2)) (srt_le h hR w1 (show v ≤ e - 1 by omega) (by omega))
  refine ⟨fun p q hp hpq hq => ?_, fun p q hp hpq hq => ?_, fun p q hp hpq hq => ?_, fun p q hp hpq hq => ?_, fun x y x1 x2 y1 y2 => ?_⟩
  · rw [v1 p (by omega), v1 q (by omega)]; exact hL _ _ hp hpq (by omega)
  · rw [v2 p (by omega) (by omega), v2 q (by omega) (by omega)]; exact hR _ _ (by omega) (by omega) (by omega)
  · rw [v3 p (by omega) (by omega), v3 q (by omega) (by omega)]; exact hL _ _ (by omega) (by omega) (by omega)
  · rw [v4 p (by omega), v4 q (by omega)]; exact hR _ _ (by omega) hpq (by omega)
  · by_cases cx : x < s
    · rw [v1 x cx]
      by_cases cy : y < e
      · rw [v3 y y1 cy]; exact srt_le h hL x1 (by omega) (by omega)
      · rw [v4 y (by omega)]; exact uv _ _ x1 cx (by omega) y2
    · rw [v2 x (by omega) x2]
      by_cases cy : y < e
      · rw [v3 y y1 cy]; exact vu _ _ (by omega) (by omega) (by omega) (by omega)
      · rw [v4 y (by omega)]; exact srt_le h hR (by omega) (by omega) y2

/-- Both halves sorted: the whole is. -/
theorem halves_end (h : SWO lt) {a s mid e b : Nat} {d1 d2 d3 : Array α} (H : Halves lt a s mid e b d1) (ham : a ≤ mid) (hmb : mid ≤ b) (hb : b ≤ d1.size)
    (p2 : PermIn a mid d1 d2) (s2 : SortedIn lt a mid d2) (p3 : PermIn mid b d2 d3) (s3 : SortedIn lt mid b d3) : PermIn a b d1 d3 ∧ SortedIn lt a b d3 := by
  have z2 : d2.size = d1.size := p2.1
  refine ⟨permIn_trans _ _ _ _ _ (permIn_mono _ _ _ _ _ _ (Nat.le_refl _) hmb hb p2) (permIn_mono _ _ _ _ _ _ ham (Nat.le_refl _) (by omega) p3), fun p q hp hpq hq => ?_⟩
  by_cases c : q < mid
  · rw [p3.2.1 p (by omega), p3.2.1 q (by omega)]; exact s2 _ _ hp hpq c
  · by_cases c' : mid ≤ p
    · exact s3 _ _ c' hpq hq
    · rw [p3.2.1 p (by omega)]
      refine permIn_all d2 d3 mid b (fun y => lt y d2[p]! = false) (by omega) p3 (fun y y1 y2 => ?_) q (by omega) hq
      rw [p2.2.1 y (by omega)]
      exact permIn_all d1 d2 a mid (fun x => lt d1[y]! x = false) (by omega) p2 (fun x x1 x2 => H.cross x y x1 x2 y1 y2) p hp (by omega)
variable {a s mid e b bs n q0 : Nat} {d : Array α}
theorem Halves.left (H : Halves lt a s mid e b d) (c : ¬ (a < s ∧ s < mid)) (has : a ≤ s) (hsm : s ≤ mid) : SortedIn lt a mid d := by
  by_cases x : a = s
  · subst x; exact H.r2
  · obtain rfl : s = mid := by omega
    exact H.r1
theorem Halves.right (H : Halves lt a s mid e b d) {d2 : Array α} (p2 : PermIn a mid d d2) : SortedIn lt mid e d2 ∧ SortedIn lt e b d2 ∨ e < mid := by
  by_cases x : e < mid
  · exact .inr x
  · refine .inl ⟨fun p q hp hpq hq => ?_, fun p q hp hpq hq => ?_⟩
    · rw [p2.2.1 p (by omega), p2.2.1 q (by omega)]; exact H.r3 _ _ hp hpq hq
    · rw [p2.2.1 p (by omega), p2.2.1 q (by omega)]; exact H.r4 _ _ hp hpq hq

/-- Each block of so many is sorted. -/
def Blk (lt : α → α → Bool) (bs n : Nat) (d : Array α) : Prop := ∀ q i j, q * bs ≤ i → i < j → j < q * bs + bs → j < n → lt d[j]! d[i]! = false
theorem Blk.at (h : Blk lt bs n d) (q : Nat) (lo hi : Nat) (h1 : q * bs ≤ lo) (h2 : hi ≤ q * bs + bs) (h3 : hi ≤ n) : SortedIn lt lo hi d :=
  fun i j hi hij hj => h q i j (by omega) hij (by omega) (by omega)
theorem Blk.all (h : Blk lt bs n d) (hn : n ≤ bs) : SortedIn lt 0 n d := h.at 0 0 n (by omega) (by omega) (Nat.le_refl _)
/-- The blocks ahead of the place q are sorted, so many at a time. -/
def BlkTo (lt : α → α → Bool) (bs n q0 : Nat) (d : Array α) : Prop := ∀ q i j, q < q0 → q * bs ≤ i → i < j → j < q * bs + bs → j < n → lt d[j]! d[i]! = false
theorem BlkTo.zero (bs n : Nat) (d : Array α) : BlkTo lt bs n 0 d := fun q i j h => by omega
theorem mul_lt_block {q q0 bs : Nat} (h : q < q0) : q * bs + bs ≤ q0 * bs := by
  have := Nat.mul_le_mul_right bs (show q + 1 ≤ q0 from h)
  rwa [Nat.add_mul, Nat.one_mul] at this
/-- One block more. -/
theorem BlkTo.next (h : BlkTo lt bs n q0 d) {hi : Nat} {d' : Array α} (p : PermIn (q0 * bs) hi d d') (s : SortedIn lt (q0 * bs) hi d') (hh : q0 * bs + bs ≤ hi ∨ n ≤ hi) : BlkTo lt bs n (q0 + 1) d' := by
  intro q i j hq h1 h2 h3 h4
  by_cases e : q = q0
  · subst e; exact s i j h1 h2 (by omega)
  · have := mul_lt_block (bs := bs) (show q < q0 by omega)
    rw [p.2.1 i (by omega), p.2.1 j (by omega)]
    exact h q i j (by omega) h1 h2 h3 h4
/-- All blocks. -/
theorem BlkTo.done (h : BlkTo lt bs n q0 d) (hn : n ≤ q0 * bs) : Blk lt bs n d := by
  intro q i j h1 h2 h3 h4
  by_cases c : q < q0
  · exact h q i j c h1 h2 h3 h4
  · have := Nat.mul_le_mul_right bs (show q0 ≤ q by omega)
    omega
/-- .. the last one being sorted already. -/
theorem BlkTo.last (h : BlkTo lt (2 * bs) n q0 d) (d0 : Array α) (B : Blk lt bs n d0) (e : ∀ t, q0 * (2 * bs) ≤ t → d[t]! = d0[t]!) (hn : n ≤ q0 * (2 * bs) + bs) : Blk lt (2 * bs) n d := by
  intro q i j h1 h2 h3 h4
  by_cases c : q < q0
  · exact h q i j c h1 h2 h3 h4
  · have := Nat.mul_le_mul_right (2 * bs) (show q0 ≤ q by omega)
    rw [e i (by omega), e j (by omega)]
    have e2 : q0 * (2 * bs) = (2 * q0) * bs := by rw [Nat.mul_comm 2 q0, Nat.mul_assoc]
    exact B (2 * q0) i j (by omega) h2 (by omega) h4
theorem Blk.run1 {d0 : Array α} (B : Blk lt bs n d0) {A q : Nat} (hA : A = q * (2 * bs)) (e : ∀ t, A ≤ t → d[t]! = d0[t]!) (h : A + bs ≤ n) : SortedIn lt A (A + bs) d := by
  intro i j hi hij hj
  have e2 : q * (2 * bs) = (2 * q) * bs := by rw [Nat.mul_comm 2 q, Nat.mul_assoc]
  rw [e i hi, e j (by omega)]
  exact B (2 * q) i j (by omega) hij (by omega) (by omega)
theorem Blk.run2 {d0 : Array α} (B : Blk lt bs n d0) {A q hi : Nat} (hA : A = q * (2 * bs)) (e : ∀ t, A ≤ t → d[t]! = d0[t]!) (h1 : hi ≤ A + 2 * bs) (h2 : hi ≤ n) : SortedIn lt (A + bs) hi d := by
  intro i j hi hij hj
  have e2 : q * (2 * bs) = (2 * q) * bs := by rw [Nat.mul_comm 2 q, Nat.mul_assoc]
  have e3 : (2 * q + 1) * bs = (2 * q) * bs + bs := by rw [Nat.add_mul, Nat.one_mul]
  rw [e i (by omega), e j (by omega)]
  exact B (2 * q + 1) i j (by omega) hij (by omega) (by omega)
end
end Go.Proofs.YtbopobgnmkhabaaDoor
