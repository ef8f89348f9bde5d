/- slices.Clone at entries; entry.Sort. -/
import Derived.Lib.SliceRun
import Derived.Test.YtchephglapnloaaStabR
import Derived.Test.YtchephglapnloaaEntL
import Derived.Test.YtchephglapnloaaEntM
namespace Go.Proofs.Ytchephglapnloaa
open Go.RowKit Go.Lib Go.Sort
set_option linter.unusedVariables false

/-- A new slice that holds d; nothing old has turned. -/
def Made (w : World) (d : List Ent) (r : Ending) (w' : World) : Prop := ∃ a cap, r = .returned (.slice a d.length cap) ∧ OwnE w' w.heap.size (.slice a d.length cap) d ∧ Below w.heap.size w w'
/-- The same, where nobody will append to it. -/
def Gives (w : World) (d : List Ent) (r : Ending) (w' : World) : Prop := ∃ a cap, r = .returned (.slice a d.length cap) ∧ IsL w' a cap d ∧ Below w.heap.size w w'
theorem Made.gives {w w' : World} {d : List Ent} {r : Ending} (h : Made w d r w') : Gives w d r w' := by
  obtain ⟨a, cap, h1, h2, h3⟩ := h
  obtain ⟨a', cap', e, h4⟩ := h2.isL
  cases e
  exact ⟨a, cap, h1, h4, h3⟩

set_option maxHeartbeats 400000 in
theorem clone_any (a : Option Addr) (cap : Nat) (d : List Ent) (w : World) (h : IsL w a cap d) (hd : d.length ≤ 1000000) :
    Calls Try.prog 57 #[.slice a d.length cap] w (Made w d) := by
  have hl := h.len
  have q22 : ∀ (w : World) (a : Option Addr) (n c n' c' : Nat), (binOp .eql 29 (.slice a n c) (.slice none n' c')).run Try.prog w = .ok (.bool a.isNone) w := fun w a n c n' c' => Lib.run_eql_slice_nil w _ _ a n c n' c' Try.underlying29
  by_cases ha : a = none
  · subst ha
    obtain rfl : d = [] := by
      cases d with
      | nil => rfl
      | cons x d => obtain ⟨b, off, e, _⟩ := h.elem 0 x rfl; cases e
    go_enter Try.func57, Try.ntmps57
    go_wp2
    go_ret
    exact ⟨none, 0, rfl, OwnE.nil _ _, Below.refl _ _⟩
  · obtain ⟨ad, rfl⟩ := Option.ne_none_iff_exists'.1 ha
    obtain ⟨v', w', hr, own, gr⟩ := app_run (d := []) (c := d) (OwnE.made w #[] 0 (Nat.le_refl _) (by omega) rfl) (h.below ((Below.refl _ _).alloc (Nat.le_refl _) _)) (by simpa using hd) (by simp) 29
    have B : Aside (Below w.heap.size w w') := OwnE.grown (OwnE.made w #[] 0 (Nat.le_refl _) (by omega) rfl) ((Below.refl _ _).alloc (Nat.le_refl _) _) gr (by simp)
    have O : Aside (OwnE w' w.heap.size v' d) := own
    clear own gr h
    go_enter Try.func57, Try.ntmps57
    go_wp2_with (at_builtin; refine Lib.wpList_append_run _ rfl _ _ 29 29 rfl _ _ rfl rfl v' w' hr ?_)
    go_ret
    obtain ⟨a', cap', e, _⟩ := O.out.isL
    subst e
    exact ⟨a', cap', rfl, O.out, B.out⟩

set_option maxHeartbeats 400000 in
theorem stableFunc_none (p : Option Addr) (cap : Nat) (w : World) :
    Calls Try.prog 58 #[.slice p 0 cap, .func (.func 59) #[] #[]] w fun e w' => e = .returned (.tuple #[]) ∧ w' = w := by
  go_enter Try.func58, Try.ntmps58
  go_wp2_with fail
  refine (stable_none p cap _ w).mono ?_
  rintro e w1 ⟨rfl, rfl⟩
  go_wp2
  go_end0
  exact ⟨rfl, rfl⟩

set_option maxHeartbeats 400000 in
theorem stableFunc_any (blk off cap : Nat) (d : Array Ent) (w : World) (R : RE w blk off d) (hsz : d.size < 288230376151711744) :
    Calls Try.prog 58 #[.slice (some ⟨blk, off, none⟩) d.size cap, .func (.func 59) #[] #[]] w fun e w' => e = .returned (.tuple #[]) ∧
      ∃ d' : Array Ent, SE w blk off d' w' ∧ PermIn 0 d.size d d' ∧ SortedIn ltE 0 d.size d' := by
  have st := stable_any blk off cap d w R hsz
  clear R
  go_enter Try.func58, Try.ntmps58
  go_wp2_with fail
  refine st.mono ?_
  rintro e w1 ⟨rfl, d1, s1, p1, o1⟩
  have X : Aside (∃ d' : Array Ent, SE w blk off d' w1 ∧ PermIn 0 d.size d d' ∧ SortedIn ltE 0 d.size d') := ⟨d1, s1, p1, o1⟩
  clear s1 p1 o1
  go_wp2
  go_end0
  exact ⟨rfl, X.out⟩

set_option maxHeartbeats 400000 in
theorem sort_made (a : Option Addr) (cap : Nat) (d : List Ent) (w : World) (h : IsL w a cap d) (hd : d.length ≤ 1000000) :
    Calls Try.prog 45 #[.slice a d.length cap] w (Made w (sortE d)) := by
  have cl := clone_any a cap d w h hd
  go_enter Try.func45, Try.ntmps45
  go_wp2_with fail
  refine cl.mono ?_
  rintro e w1 ⟨a1, cap1, rfl, o1, b1⟩
  obtain ⟨a2, cap2, e2, l1⟩ := o1.isL
  cases e2
  by_cases hn : d = []
  · subst hn
    go_wp2_with fail
    refine (stableFunc_none a1 cap1 w1).mono ?_
    rintro e w2 ⟨rfl, rfl⟩
    have L : Aside (OwnE w2 w.heap.size (.slice a1 (sortE []).length cap1) (sortE [])) := by rw [sortE_id Srt.nil]; exact o1
    clear l1 o1
    go_wp2
    go_ret
    exact ⟨a1, cap1, by rw [sortE_len]; rfl, L.out, b1⟩
  · obtain ⟨g, rfl, hg, R⟩ := o1.row hn
    have st := stableFunc_any g 0 cap1 d.toArray w1 R (by simpa using (by omega : d.length < 288230376151711744))
    simp only [List.size_toArray] at st
    have l2 := l1.le
    have l3 := l1.big
    go_wp2_with fail
    refine st.mono ?_
    rintro e w2 ⟨rfl, d2, s2, p2, o2⟩
    have ez : d2.size = d.length := by simpa using p2.1
    have eq : d2.toList = sortE d := by
      have := sorted_unique_holds (lt := ltE) swoE totE d.toArray d2 (by simpa using p2) (by simpa using o2)
      exact this
    have L : Aside (OwnE w2 w.heap.size (.slice (some ⟨g, 0, none⟩) (sortE d).length cap1) (sortE d)) := by
      rw [← eq]
      exact se_own s2 R o1 ez
    have B : Aside (Below w.heap.size w w2) := b1.trans (se_below s2 hg (by have := b1.size; omega))
    clear s2 p2 o2 R l1 o1 b1 st
    go_wp2
    go_ret
    exact ⟨_, cap1, by rw [sortE_len]; rfl, L.out, B.out⟩
theorem sort_any (a : Option Addr) (cap : Nat) (d : List Ent) (w : World) (h : IsL w a cap d) (hd : d.length ≤ 1000000) :
    Calls Try.prog 45 #[.slice a d.length cap] w (Gives w (sortE d)) := (sort_made a cap d w h hd).mono fun _ _ h => Made.gives h
end Go.Proofs.Ytchephglapnloaa
