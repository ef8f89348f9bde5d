/- A dag in the heap: its head, its three maps, its lists; what a turn of one of them leaves of the whole. -/
import Derived.Test.YthpdnlokjhafeaaDgP
namespace Go.Proofs.Ythpdnlokjhafeaa
open Go.RowKit Go.Lib Go.WideMaps Go.Maps
set_option linter.unusedVariables false

structure DgA (w : World) (B M0 : Nat) (M : Bool → Nat) (fp : Int × Int → Option Value) (f : Bool → Int → Option Value) (l : Bool → Int → List Int) (N : Nat) : Prop where
  head : w.heap[B]? = some (.cells #[.map (some M0), .map (some (M true)), .map (some (M false))] 49 (0, 0))
  mp : ∃ n, MapG keyP w M0 fp n ∧ n ≤ N
  mi : ∀ s, ∃ n, MapG keyI w (M s) (f s) n ∧ n ≤ N
  own : ∀ s i v, f s i = some v → OwnI w 0 v (l s i) ∧ l s i ≠ []
  non : ∀ s i, f s i = none → l s i = []
  len : ∀ s i, (l s i).length ≤ N
  sep : ∀ s i s' i' v v' k, f s i = some v → f s' i' = some v' → v.ownBlock = some k → v'.ownBlock = some k → s = s' ∧ i = i'
  m0 : ∀ s, M s ≠ M0
  m1 : M true ≠ M false
/-- Its blocks. -/
def ft (B M0 : Nat) (M : Bool → Nat) (f : Bool → Int → Option Value) (k : Nat) : Prop := k = B ∨ k = M0 ∨ (∃ s, k = M s) ∨ ∃ s i v, f s i = some v ∧ v.ownBlock = some k
variable {w w' : World} {B M0 N N' : Nat} {M : Bool → Nat} {fp gp : Int × Int → Option Value} {f : Bool → Int → Option Value} {l : Bool → Int → List Int}
theorem cells_no_map {k : Nat} {cs : Array Value} {t : TypeId} {z : Nat × Nat} {es : Array MapEntry} {c : Nat} (h : w.heap[k]? = some (.cells cs t z)) (h' : w.heap[k]? = some (.map es c)) : False := by
  rw [h] at h'
  cases h'
theorem DgA.mlt (h : DgA w B M0 M fp f l N) (s : Bool) : M s < w.heap.size := by
  obtain ⟨n, q, _⟩ := h.mi s
  exact q.lt
theorem DgA.m0lt (h : DgA w B M0 M fp f l N) : M0 < w.heap.size := by
  obtain ⟨n, q, _⟩ := h.mp
  exact q.lt
theorem DgA.blt (h : DgA w B M0 M fp f l N) : B < w.heap.size := lt_of_block h.head
theorem DgA.bm (h : DgA w B M0 M fp f l N) : B ≠ M0 ∧ ∀ s, B ≠ M s := by
  refine ⟨fun e => ?_, fun s e => ?_⟩
  · obtain ⟨n, q, _⟩ := h.mp
    obtain ⟨es, c, q⟩ := q.isMap
    exact cells_no_map h.head (by rw [e]; exact q)
  · obtain ⟨n, q, _⟩ := h.mi s
    obtain ⟨es, c, q⟩ := q.isMap
    exact cells_no_map h.head (by rw [e]; exact q)
theorem DgA.row (h : DgA w B M0 M fp f l N) {s : Bool} {i : Int} {v : Value} {k : Nat} (hf : f s i = some v) (hk : v.ownBlock = some k) : k < w.heap.size ∧ k ≠ B ∧ k ≠ M0 ∧ ∀ s, k ≠ M s := by
  have o := (h.own s i v hf).1
  obtain ⟨cs, hc⟩ := o.rowT hk
  refine ⟨(o.rowLt hk).2, fun e => ?_, fun e => ?_, fun s' e => ?_⟩
  · have := h.head
    rw [← e, hc] at this
    simp only [Option.some.injEq, Obj.cells.injEq] at this
    exact absurd this.2.1 (by decide)
  · obtain ⟨n, q, _⟩ := h.mp
    obtain ⟨es, c, q⟩ := q.isMap
    exact cells_no_map hc (by rw [e]; exact q)
  · obtain ⟨n, q, _⟩ := h.mi s'
    obtain ⟨es, c, q⟩ := q.isMap
    exact cells_no_map hc (by rw [e]; exact q)
theorem DgA.ftLt (h : DgA w B M0 M fp f l N) {k : Nat} (hk : ft B M0 M f k) : k < w.heap.size := by
  rcases hk with rfl | rfl | ⟨s, rfl⟩ | ⟨s, i, v, h1, h2⟩
  · exact h.blt
  · exact h.m0lt
  · exact h.mlt s
  · exact (h.row h1 h2).1
/-- What is none of its blocks may turn. -/
theorem DgA.fr (h : DgA w B M0 M fp f l N) {X : Nat → Prop} (hf : Fr X w w') (hx : ∀ k, ft B M0 M f k → ¬ X k) : DgA w' B M0 M fp f l N := by
  refine ⟨(hf.block B h.blt (hx B (.inl rfl))).trans h.head, ?_, fun s => ?_, fun s i v hv => ?_, h.non, h.len, h.sep, h.m0, h.m1⟩
  · obtain ⟨n, q, hn⟩ := h.mp
    exact ⟨n, q.of_block (hf.block M0 q.lt (hx M0 (.inr (.inl rfl)))), hn⟩
  · obtain ⟨n, q, hn⟩ := h.mi s
    exact ⟨n, q.of_block (hf.block _ q.lt (hx _ (.inr (.inr (.inl ⟨s, rfl⟩))))), hn⟩
  · obtain ⟨o, hne⟩ := h.own s i v hv
    exact ⟨o.fr hf (fun k hk => hx k (.inr (.inr (.inr ⟨s, i, v, hv, hk⟩)))), hne⟩
theorem DgA.below (h : DgA w B M0 M fp f l N) (hw : Below w.heap.size w w') : DgA w' B M0 M fp f l N := h.fr (Fr.below (X := fun _ => False) hw) (fun _ _ => id)
theorem DgA.up (h : DgA w B M0 M fp f l N) (hn : N ≤ N') : DgA w B M0 M fp f l N' := by
  refine ⟨h.head, ?_, fun s => ?_, h.own, h.non, fun s i => Nat.le_trans (h.len s i) hn, h.sep, h.m0, h.m1⟩
  · obtain ⟨n, q, hn⟩ := h.mp
    exact ⟨n, q, by omega⟩
  · obtain ⟨n, q, hn⟩ := h.mi s
    exact ⟨n, q, by omega⟩
/-- The pairs have turned. -/
theorem DgA.setP (h : DgA w B M0 M fp f l N) {n : Nat} (hm : MapG keyP w' M0 gp n) (hn : n ≤ N) (hg : w.grownBy w' (some M0)) : DgA w' B M0 M gp f l N := by
  have hf : Fr (fun k => k = M0) w w' := (Fr.of_grown hg).mono (fun j hj => by injection hj with hj; exact hj.symm)
  refine ⟨(hf.block B h.blt h.bm.1).trans h.head, ⟨n, hm, hn⟩, fun s => ?_, fun s i v hv => ?_, h.non, h.len, h.sep, h.m0, h.m1⟩
  · obtain ⟨n, q, hn⟩ := h.mi s
    exact ⟨n, q.of_block (hf.block _ q.lt (h.m0 s)), hn⟩
  · obtain ⟨o, hne⟩ := h.own s i v hv
    exact ⟨o.fr hf (fun k hk => (h.row hv hk).2.2.1), hne⟩
def fset (f : Bool → Int → Option Value) (s : Bool) (g : Int → Option Value) : Bool → Int → Option Value := fun a => if a = s then g else f a
theorem fset_same (f : Bool → Int → Option Value) (s : Bool) (g : Int → Option Value) : fset f s g s = g := if_pos rfl
theorem fset_ne (f : Bool → Int → Option Value) {s a : Bool} (g : Int → Option Value) (h : a ≠ s) : fset f s g a = f a := if_neg h
/-- One list has turned. -/
theorem DgA.turn (h : DgA w B M0 M fp f l N) {s : Bool} {id : Int} {g : Int → Option Value} {n : Nat} {d : List Int} (hm : MapG keyI w' (M s) g n) (hn : n ≤ N) (hd : d.length ≤ N)
    (hf : Fr (fun k => k = M s ∨ ∃ v, f s id = some v ∧ v.ownBlock = some k) w w') (hg : ∀ j, j ≠ id → g j = f s j)
    (hv : (g id = none ∧ d = []) ∨ ∃ v, g id = some v ∧ OwnI w' 0 v d ∧ d ≠ [] ∧ ∀ k, v.ownBlock = some k → (∃ u, f s id = some u ∧ u.ownBlock = some k) ∨ w.heap.size ≤ k) :
    DgA w' B M0 M fp (fset f s g) (lset l s id d) N ∧ ∀ k, ft B M0 M (fset f s g) k → ft B M0 M f k ∨ w.heap.size ≤ k := by
  have key : ∀ a i v, fset f s g a i = some v → (a = s ∧ i = id ∧ g id = some v) ∨ (¬ (a = s ∧ i = id) ∧ f a i = some v) := fun a i v hq => by
    by_cases c : a = s
    · subst c
      rw [fset_same] at hq
      by_cases c2 : i = id
      · subst c2; exact .inl ⟨rfl, rfl, hq⟩
      · rw [hg i c2] at hq; exact .inr ⟨fun x => c2 x.2, hq⟩
    · rw [fset_ne _ _ c] at hq; exact .inr ⟨fun x => c x.1, hq⟩
  have new : ∀ v, g id = some v → OwnI w' 0 v d ∧ d ≠ [] ∧ ∀ k, v.ownBlock = some k → (∃ u, f s id = some u ∧ u.ownBlock = some k) ∨ w.heap.size ≤ k := fun v hgv => by
    rcases hv with ⟨h1, _⟩ | ⟨v', h1, h2⟩
    · rw [hgv] at h1; cases h1
    · rw [hgv] at h1; injection h1 with h1; rw [h1]; exact h2
  refine ⟨⟨(hf.block B h.blt (fun hx => ?_)).trans h.head, ?_, fun a => ?_, fun a i v hv => ?_, fun a i hq => ?_, fun a i => ?_, fun a i a' i' v v' k e1 e2 k1 k2 => ?_, h.m0, h.m1⟩, fun k hk => ?_⟩
  · rcases hx with hx | ⟨v, h1, h2⟩
    · exact h.bm.2 s hx
    · exact (h.row h1 h2).2.1 rfl
  · obtain ⟨n, q, hn⟩ := h.mp
    refine ⟨n, q.of_block (hf.block M0 q.lt (fun hx => ?_)), hn⟩
    rcases hx with hx | ⟨v, h1, h2⟩
    · exact h.m0 s hx.symm
    · exact (h.row h1 h2).2.2.1 rfl
  · by_cases c : a = s
    · subst c; rw [fset_same]; exact ⟨n, hm, hn⟩
    · rw [fset_ne _ _ c]
      obtain ⟨n, q, hn⟩ := h.mi a
      refine ⟨n, q.of_block (hf.block _ q.lt (fun hx => ?_)), hn⟩
      rcases hx with hx | ⟨v, h1, h2⟩
      · have : ∀ a s : Bool, a ≠ s → M a ≠ M s := fun a s c => by
          cases a <;> cases s
          · exact absurd rfl c
          · exact fun e => h.m1 e.symm
          · exact h.m1
          · exact absurd rfl c
        exact this a s c hx
      · exact (h.row h1 h2).2.2.2 a rfl
  · rcases key a i v hv with ⟨rfl, rfl, hg'⟩ | ⟨hne, hv⟩
    · rw [lset_same]; exact ⟨(new v hg').1, (new v hg').2.1⟩
    · rw [lset_ne _ _ hne]
      obtain ⟨o, o2⟩ := h.own a i v hv
      refine ⟨o.fr hf (fun k hk hx => ?_), o2⟩
      rcases hx with hx | ⟨u, h1, h2⟩
      · exact (h.row hv hk).2.2.2 s hx
      · exact hne (h.sep a i s id v u k hv h1 hk h2)
  · by_cases c : a = s ∧ i = id
    · obtain ⟨rfl, rfl⟩ := c
      rw [fset_same] at hq
      rw [lset_same]
      rcases hv with ⟨_, h2⟩ | ⟨v, h1, _⟩
      · exact h2
      · rw [hq] at h1; cases h1
    · rw [lset_ne _ _ c]
      refine h.non a i ?_
      by_cases c1 : a = s
      · subst c1
        rw [fset_same, hg i (fun e => c ⟨rfl, e⟩)] at hq
        exact hq
      · rw [fset_ne _ _ c1] at hq; exact hq
  · by_cases c : a = s ∧ i = id
    · obtain ⟨rfl, rfl⟩ := c
      rw [lset_same]; exact hd
    · rw [lset_ne _ _ c]; exact h.len a i
  · rcases key a i v e1 with ⟨rfl, rfl, g1⟩ | ⟨n1, g1⟩ <;> rcases key a' i' v' e2 with ⟨rfl, rfl, g2⟩ | ⟨n2, g2⟩
    · exact ⟨rfl, rfl⟩
    · rcases (new v g1).2.2 k k1 with ⟨u, u1, u2⟩ | hk
      · exact h.sep _ _ _ _ u v' k u1 g2 u2 k2
      · have := (h.row g2 k2).1; omega
    · rcases (new v' g2).2.2 k k2 with ⟨u, u1, u2⟩ | hk
      · exact h.sep _ _ _ _ v u k g1 u1 k1 u2
      · have := (h.row g1 k1).1; omega
    · exact h.sep _ _ _ _ v v' k g1 g2 k1 k2
  · rcases hk with hk | hk | hk | ⟨a, i, v, h1, h2⟩
    · exact .inl (.inl hk)
    · exact .inl (.inr (.inl hk))
    · exact .inl (.inr (.inr (.inl hk)))
    · rcases key a i v h1 with ⟨rfl, rfl, g1⟩ | ⟨n1, g1⟩
      · rcases (new v g1).2.2 k h2 with ⟨u, u1, u2⟩ | hk
        · exact .inl (.inr (.inr (.inr ⟨_, _, u, u1, u2⟩)))
        · exact .inr hk
      · exact .inl (.inr (.inr (.inr ⟨a, i, v, g1, h2⟩)))
/-- What a lookup answers. -/
theorem zeroS (w : World) : (zeroValue 24).run Try.prog w = .ok (.slice none 0 0) w := Try.zeroValue24 w
theorem zeroP (w : World) : (zeroValue 57).run Try.prog w = .ok (prV (0, 0)) w := by kernel_rfl
def lv (f : Bool → Int → Option Value) (s : Bool) (i : Int) : Value := (f s i).getD (.slice none 0 0)
theorem DgA.look (h : DgA w B M0 M fp f l N) (s : Bool) {i : Int} (hi : wfI i) : (Instr.lookup 47 (.map (some (M s))) (.int .i64 i) false).run Try.prog w = .ok (lv f s i) w := by
  obtain ⟨n, q, _⟩ := h.mi s
  exact q.look Try.underlying47 (zeroS w) (x := i) hi
theorem DgA.lookP (h : DgA w B M0 M fp f l N) {p i : Int} (hp : wfI p) (hi : wfI i) {v : Value} (hv : fp (p, i) = some v) : (Instr.lookup 46 (.map (some M0)) (.agg #[.int .i64 p, .int .i64 i]) false).run Try.prog w = .ok v w := by
  obtain ⟨n, q, _⟩ := h.mp
  have := q.look Try.underlying46 (zeroP w) (x := (p, i)) ⟨hp, hi⟩
  rw [hv] at this
  exact this
theorem DgA.ownv (h : DgA w B M0 M fp f l N) (s : Bool) (i : Int) : OwnI w 0 (lv f s i) (l s i) := by
  unfold lv
  cases hf : f s i with
  | none => rw [h.non s i hf]; exact OwnI.nil _ _
  | some v => exact (h.own s i v hf).1
theorem DgA.lvlen (h : DgA w B M0 M fp f l N) (s : Bool) (i : Int) : ∃ a cap, lv f s i = .slice a (l s i).length cap ∧ IsI w a cap (l s i) := (h.ownv s i).isI
end Go.Proofs.Ythpdnlokjhafeaa
