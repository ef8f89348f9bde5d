import Derived.Test.YtjnpmipbkiambaaGreatDoorBWm
import Derived.Deep.LoopGhost
import Derived.Deep.Fields
import Derived.Lib.SliceRun
import Derived.StillTail
import Derived.Deep.CutBlock
import Derived.Deep.DeepCutAuto
namespace Go.Proofs.YtjnpmipbkiambaaGreatDoor.Ta
set_option maxRecDepth 100000
open Go.RowKit Go.Lib Go.WideMaps Go.Maps
set_option linter.unusedVariables false
variable {w w' : World} {B a b r M n : Nat} {v v' : Value} {T T' : List TR} {ws ws' : Nat → Int} {fc fc' : Int × Int → Option Value}
theorem tnew_at (w w1 : World) (n : Nat) (hA : AAt w1 (w.heap.size + 2) (w.heap.size + 1) w.heap.size n (fun _ => 0)) (hz : w1.heap.size = w.heap.size + 3) :
  Tab ((w1.alloc (.map #[] 0)).alloc (.cells #[.pointer (some ⟨w.heap.size + 2, 0, none⟩), .slice none 0 0, .map (some (w.heap.size + 3))] 184)) (w.heap.size + 4) (w.heap.size + 2) (w.heap.size + 1) w.heap.size (w.heap.size + 3) n (.slice none 0 0) [] (fun _ => 0) (fun _ => none) := by
 have z1 : (w1.alloc (.map #[] 0)).heap.size = w.heap.size + 4 := by rw [alloc_sz, hz]
 have b1 : Below w1.heap.size w1 (w1.alloc (.map #[] 0)) := bel1 _ _
 have b2 := bel1 (w1.alloc (.map #[] 0)) (.cells #[.pointer (some ⟨w.heap.size + 2, 0, none⟩), .slice none 0 0, .map (some (w.heap.size + 3))] 184)
 have hm := MapG.made keyP w1
 rw [hz] at hm
 refine ⟨?_, OwnG.nil rT _ 0, (hA.grew b1).grew b2, ⟨0, hm.of_block (b2.block _ (by omega))⟩⟩
 have := heap_alloc_new (w1.alloc (.map #[] 0)) (.cells #[.pointer (some ⟨w.heap.size + 2, 0, none⟩), .slice none 0 0, .map (some (w.heap.size + 3))] 184)
 rw [z1] at this
 exact this
theorem tnew_x (n : Nat) (w : World) (h1 : 1 ≤ n) (h2 : n ≤ 1000) :
  Calls Tryz.prog 40 #[.int .i64 n] w fun e w' => e = .returned (.tuple #[.pointer (some ⟨w.heap.size + 4, 0, none⟩), .int .i64 0]) ∧ Tab w' (w.heap.size + 4) (w.heap.size + 2) (w.heap.size + 1) w.heap.size (w.heap.size + 3) n (.slice none 0 0) [] (fun _ => 0) (fun _ => none) ∧ Below w.heap.size w w' := by
 have hmm := @run_makeMap Tryz.prog
 go_enter Tryz.func40, Tryz.ntmps40
 go_wp2_with fail
 refine (new_in n w h1 h2).mono ?_
 rintro e w1 ⟨rfl, hA, hB, hz⟩
 have hT : Hid _ := tnew_at w w1 n hA hz
 have hBl : Hid (Below w.heap.size w w1) := hB
 clear hA hB
 go_wp2_with fail
 go_ret2
 exact ⟨rfl, hT.out, (hBl.out.alloc (by omega) _).alloc (by rw [alloc_sz]; omega) _⟩
theorem tnew_any (n : Nat) (w : World) (h1 : 1 ≤ n) (h2 : n ≤ 1000) :
  Calls Tryz.prog 40 #[.int .i64 n] w fun e w' => ∃ B a b r M, e = .returned (.tuple #[.pointer (some ⟨B, 0, none⟩), .int .i64 0]) ∧ Tab w' B a b r M n (.slice none 0 0) [] (fun _ => 0) (fun _ => none) ∧ Below w.heap.size w w' ∧ ∀ k, tf B a b r M (.slice none 0 0) k → w.heap.size ≤ k := by
 refine (tnew_x n w h1 h2).mono ?_
 rintro e w1 ⟨rfl, hT, hB⟩
 refine ⟨_, _, _, _, _, rfl, hT, hB, fun k hk => ?_⟩
 rcases hk with rfl | rfl | rfl | rfl | rfl | hk
 ·omega
 ·omega
 ·omega
 ·omega
 ·omega
 ·cases hk
theorem tlen_any (h : Tab w B a b r M n v T ws fc) : Calls Tryz.prog 105 #[.pointer (some ⟨B, 0, none⟩)] w fun e w' => e = .returned (.int .i64 T.length) ∧ w' = w := by
 have c1 := h.c1
 obtain ⟨ad, cap, rfl, _⟩ := h.own.isG
 clear h
 go_enter Tryz.func105, Tryz.ntmps105
 go_wp2_with fail
 go_ret
 exact ⟨rfl, rfl⟩
theorem find_in {g cap i : Nat} (h : Tab w B a b r M n (.slice (some ⟨g, 0, none⟩) T.length cap) T ws fc) (hi : i < T.length) (hl : T.length ≤ 1000) : Calls Tryz.prog 133 #[.pointer (some ⟨B, 0, none⟩), .int .i64 ((i : Int) + 1)] w fun e w' => e = .returned (.pointer (some ⟨g, i * 9, none⟩)) ∧ w' = w := by
 have c1 := h.c1
 obtain ⟨L, hL⟩ : ∃ L, T.length = L := ⟨_, rfl⟩
 rw [hL] at c1 hi hl
 clear h
 have h1 : ¬ (i : Int) + 1 < 1 := by omega
 have h2 : ¬ (L : Int) < (i : Int) + 1 := by omega
 have h3 : (i : Int) < (L : Int) := by omega
 go_enter Tryz.func133, Tryz.ntmps133
 go_wp2_with fail
 go_ret
 exact ⟨by simp, rfl⟩
theorem again_any (f p d r m : Int) (w : World) : Calls Tryz.prog 134 #[.agg #[.int .u64 f, .int .u64 p, .int .u64 d, .int .u64 r, .int .u64 m]] w fun e w' => e = .returned (.bool (decide (p > 0))) ∧ Below w.heap.size w w' := by
 have hb := bel1 w
 go_enter Tryz.func134, Tryz.ntmps134
 go_wp2_with fail
 go_ret
 exact ⟨rfl, hb _⟩
set_option maxRecDepth 100000 in
theorem clone_nil (w : World) : Calls Tryz.prog 170 #[.slice none 0 0] w fun e w' => e = .returned (.slice none 0 0) ∧ w' = w := by
 have q22 : ∀ (w : World) (a : Option Addr) (n c n' c' : Nat), (binOp .eql 68 (.slice a n c) (.slice none n' c')).run Tryz.prog w = .ok (.bool a.isNone) w := fun w a n c n' c' => Lib.run_eql_slice_nil w _ _ a n c n' c' Tryz.underlying68
 go_enter Tryz.func170, Tryz.ntmps170
 go_wp2_with fail
 go_ret
 exact ⟨rfl, rfl⟩
theorem index_nil (w : World) (fn : Value) : Calls Tryz.prog 255 #[.slice none 0 0, fn] w fun e w' => e = .returned (.int .i64 (-1)) ∧ w' = w := by
 go_enter Tryz.func255, Tryz.ntmps255
 go_wp2_with fail
 go_loopw [8] (fun x wr => x = .int .i64 0 ∧ wr = w) (fun x _ => 0)
 case atStart => exact ⟨rfl, rfl⟩
 case round =>
  obtain ⟨rfl, rfl⟩ := hrel
  go_wp2_with fail
  go_ret
  exact ⟨rfl, rfl⟩
theorem contains_nil (w : World) (fn : Value) : Calls Tryz.prog 177 #[.slice none 0 0, fn] w fun e w' => e = .returned (.bool false) ∧ w' = w := by
 go_enter Tryz.func177, Tryz.ntmps177
 go_wp2_with fail
 refine (index_nil w fn).mono ?_
 rintro e w1 ⟨rfl, rfl⟩
 go_wp2_with fail
 go_ret
 exact ⟨rfl, rfl⟩
theorem bodyOk_nil (w : World) : Calls Tryz.prog 106 #[.slice none 0 0] w fun e w' => e = .returned (.bool true) ∧ w' = w := by
 go_enter Tryz.func106, Tryz.ntmps106
 go_wp2_with fail
 refine (contains_nil w _).mono ?_
 rintro e w1 ⟨rfl, rfl⟩
 go_wp2_with fail
 go_ret
 exact ⟨rfl, rfl⟩
def mayB (p s : Int) : Bool := decide (0 ≤ p) && (decide (p ≤ 7) && canB 0 s)
theorem mayBe_nil (p s : Int) (w : World) (hs : wfI s) : Calls Tryz.prog 179 #[.int .i64 p, .slice none 0 0, .int .i64 s] w fun e w' => e = .returned (.bool (mayB p s)) ∧ Below w.heap.size w w' := by
 by_cases c1 : 0 ≤ p
 ·by_cases c2 : p ≤ 7
  ·have e : mayB p s = canB 0 s := by simp [mayB, c1, c2]
   rw [e]
   have hc := can_any 0 s w (by decide) hs
   obtain ⟨cb, hcb⟩ : ∃ cb, canB 0 s = cb := ⟨_, rfl⟩
   rw [hcb] at hc ⊢
   clear hcb e
   go_enter Tryz.func179, Tryz.ntmps179
   go_wp2_with fail
   refine (bodyOk_nil w).mono ?_
   rintro e w1 ⟨rfl, rfl⟩
   go_wp2_with fail
   refine hc.mono ?_
   rintro e w2 ⟨rfl, hb⟩
   clear hc
   go_wp2_with fail
   go_ret
   exact ⟨rfl, hb⟩
  ·have e : mayB p s = false := by simp [mayB, c2]
   rw [e]
   go_enter Tryz.func179, Tryz.ntmps179
   go_wp2_with fail
   go_ret
   exact ⟨rfl, Below.refl _ _⟩
 ·have e : mayB p s = false := by simp [mayB, c1]
  rw [e]
  go_enter Tryz.func179, Tryz.ntmps179
  go_wp2_with fail
  go_ret
  exact ⟨rfl, Below.refl _ _⟩
end Go.Proofs.YtjnpmipbkiambaaGreatDoor.Ta
namespace Go.Proofs.YtjnpmipbkiambaaGreatDoor.Ta
set_option maxRecDepth 100000
open Go.RowKit Go.Lib Go.WideMaps Go.Maps
set_option linter.unusedVariables false
def hasK (s p : Int) (t : TR) : Bool := t.s == s && t.prio == p
structure TInv (T : List TR) (ws : Nat → Int) (fc : Int × Int → Option Value) (n : Nat) : Prop where
 st : ∀ i x, T[i]? = some x → ws i % 8 = x.s
 fre : ∀ i, T.length ≤ i → i < n → ws i % 8 = 0
 cnt : ∀ s p, (fc (s, p)).getD (.int .i64 0) = .int .i64 (T.countP (hasK s p) : Nat)
 dom : ∀ s p, (fc (s, p)).isSome = true → (0 ≤ s ∧ s < 8) ∧ 0 ≤ p ∧ p < 8
 le : T.length ≤ n
 ok : ∀ x ∈ T, (0 ≤ x.prio ∧ x.prio ≤ 7) ∧ 1 ≤ x.s ∧ x.s ≤ 6
variable {T : List TR} {ws : Nat → Int} {fc : Int × Int → Option Value} {n : Nat}
theorem TInv.nil (n : Nat) : TInv [] (fun _ => 0) (fun _ => none) n :=
 ⟨fun i x h => by simp at h, fun i _ _ => rfl, fun s p => rfl, fun s p h => (by cases h), by simp, fun x h => (by cases h)⟩
theorem nodupLe {α : Type} [BEq α] [LawfulBEq α] : ∀ (ks L : List α), ks.Nodup → (∀ x ∈ ks, x ∈ L) → ks.length ≤ L.length
 | [], L, _, _ => by simp
 | x :: ks, L, h, hs => by
  obtain ⟨h1, h2⟩ := List.nodup_cons.1 h
  have hx := hs x (by simp)
  have := nodupLe ks (L.erase x) h2 (fun y hy => by
   have hy' := hs y (by simp [hy])
   have hne : y ≠ x := fun e => h1 (by rw [← e]; exact hy)
   exact (List.mem_erase_of_ne hne).2 hy')
  rw [List.length_erase_of_mem hx] at this
  have := List.length_pos_of_mem hx
  simp; omega
def keys64 : List (Int × Int) := (List.range 8).flatMap fun (s : Nat) => (List.range 8).map fun (p : Nat) => ((s : Int), (p : Int))
theorem keys64_len : keys64.length = 64 := by decide
theorem keys64_mem {s p : Int} (h1 : 0 ≤ s ∧ s < 8) (h2 : 0 ≤ p ∧ p < 8) : (s, p) ∈ keys64 := by
 unfold keys64
 rw [List.mem_flatMap]
 refine ⟨s.toNat, List.mem_range.2 (by omega), List.mem_map.2 ⟨p.toNat, List.mem_range.2 (by omega), ?_⟩⟩
 rw [Prod.mk.injEq]
 omega
theorem few {w : World} {M N : Nat} (h : MapG keyP w M fc N) (hd : ∀ s p, (fc (s, p)).isSome = true → (0 ≤ s ∧ s < 8) ∧ 0 ≤ p ∧ p < 8) : N ≤ 1000000 := by
 obtain ⟨ks, k1, k2, k3⟩ := h.keys
 have := nodupLe ks keys64 k1 (fun x hx => by
  obtain ⟨s, p⟩ := x
  obtain ⟨h1, h2⟩ := hd s p ((k3 _).1 hx)
  exact keys64_mem h1 h2)
 rw [keys64_len] at this
 omega
theorem wfI_8 {s : Int} (h : 0 ≤ s ∧ s < 8) : wfI s := wfI_of (by omega) (by omega)
theorem cntP_set (q : TR → Bool) : ∀ (l : List TR) (i : Nat) (x y : TR), l[i]? = some x → (l.set i y).countP q + (if q x = true then 1 else 0) = l.countP q + (if q y = true then 1 else 0) := by
 intro l
 induction l with
 | nil => intro i x y h; simp at h
 | cons z l ih =>
  intro i x y h
  cases i with
  | zero =>
   simp at h; subst h
   rw [List.set_cons_zero, List.countP_cons, List.countP_cons]
   omega
  | succ i =>
   have := ih i x y (by simpa using h)
   rw [List.set_cons_succ, List.countP_cons, List.countP_cons]
   omega
theorem cntP_le (q : TR → Bool) (l : List TR) : l.countP q ≤ l.length := List.countP_le_length
theorem TInv.push (I : TInv T ws fc n) (x : TR) (hl : T.length < n) (hp : 0 ≤ x.prio ∧ x.prio ≤ 7) (hs : 1 ≤ x.s ∧ x.s ≤ 6) (V : Int) (hV : V % 8 = x.s) :
  TInv (T ++ [x]) (putW ws T.length V) (fput fc (x.s, x.prio) (.int .i64 ((T.countP (hasK x.s x.prio) : Nat) + 1))) n := by
 refine ⟨fun i y h => ?_, fun i h1 h2 => ?_, fun s p => ?_, fun s p h => ?_, by simp; omega, fun y hy => ?_⟩
 ·by_cases c : i < T.length
  ·rw [List.getElem?_append_left c] at h
   rw [putW_other _ _ _ _ (by omega)]
   exact I.st i y h
  ·rw [List.getElem?_append_right (by omega)] at h
   have hi : i = T.length := by
    have := (List.getElem?_eq_some_iff.1 h).1
    simp at this; omega
   subst hi
   simp at h; subst h
   rw [putW_same]; exact hV
 ·simp at h1
  rw [putW_other _ _ _ _ (by omega)]
  exact I.fre i (by omega) h2
 ·rw [List.countP_append]
  by_cases c : (s, p) = (x.s, x.prio)
  ·simp only [Prod.mk.injEq] at c
   obtain ⟨rfl, rfl⟩ := c
   simp [fput, hasK]
  ·have : hasK s p x = false := by
    simp only [Prod.mk.injEq] at c
    simp [hasK]
    intro e1 e2
    exact c ⟨e1.symm, e2.symm⟩
   simp [fput, c, this, I.cnt s p]
 ·by_cases c : (s, p) = (x.s, x.prio)
  ·simp only [Prod.mk.injEq] at c
   omega
  ·simp [fput, c] at h
   exact I.dom s p h
 ·rcases List.mem_append.1 hy with hy | hy
  ·exact I.ok y hy
  ·simp at hy; subst hy
   exact ⟨hp, hs⟩
theorem TInv.turn (I : TInv T ws fc n) {i : Nat} {x y : TR} (hi : T[i]? = some x) (hp : y.prio = x.prio) (hs : 1 ≤ y.s ∧ y.s ≤ 6) (hne : x.s ≠ y.s) (V : Int) (hV : V % 8 = y.s) :
  TInv (T.set i y) (putW ws i V) (fput (fput fc (x.s, x.prio) (.int .i64 ((T.countP (hasK x.s x.prio) : Nat) - 1 : Int))) (y.s, x.prio) (.int .i64 ((T.countP (hasK y.s x.prio) : Nat) + 1))) n := by
 have hil : i < T.length := (List.getElem?_eq_some_iff.1 hi).1
 have hxm : x ∈ T := List.mem_of_getElem? hi
 have okx := I.ok x hxm
 refine ⟨fun j z h => ?_, fun j h1 h2 => ?_, fun s p => ?_, fun s p h => ?_, by simp; exact I.le, fun z hz => ?_⟩
 ·by_cases c : j = i
  ·subst c
   rw [List.getElem?_set_self hil] at h
   injection h with h
   subst h
   rw [putW_same]; exact hV
  ·rw [List.getElem?_set_ne (fun e => c e.symm)] at h
   rw [putW_other _ _ _ _ c]
   exact I.st j z h
 ·simp at h1
  rw [putW_other _ _ _ _ (by omega)]
  exact I.fre j h1 h2
 ·have hc := cntP_set (hasK s p) T i x y hi
  by_cases c1 : (s, p) = (y.s, x.prio)
  ·simp only [Prod.mk.injEq] at c1
   obtain ⟨rfl, rfl⟩ := c1
   have e1 : hasK y.s x.prio x = false := by simp [hasK, hne]
   have e2 : hasK y.s x.prio y = true := by simp [hasK, hp]
   simp [e1, e2] at hc
   simp [fput, hc]
  ·by_cases c2 : (s, p) = (x.s, x.prio)
   ·simp only [Prod.mk.injEq] at c2
    obtain ⟨rfl, rfl⟩ := c2
    have e1 : hasK x.s x.prio x = true := by simp [hasK]
    have e2 : hasK x.s x.prio y = false := by simp [hasK]; intro e; exact absurd e.symm hne
    simp [e1, e2] at hc
    simp [fput, c1]
    omega
   ·have e1 : hasK s p x = false := by
     simp only [Prod.mk.injEq] at c2
     simp [hasK]
     intro h1 h2
     exact c2 ⟨h1.symm, h2.symm⟩
    have e2 : hasK s p y = false := by
     simp only [Prod.mk.injEq] at c1
     simp [hasK]
     intro h1 h2
     exact c1 ⟨h1.symm, by rw [← hp]; exact h2.symm⟩
    simp [e1, e2] at hc
    simp [fput, c1, c2, hc, I.cnt s p]
 ·by_cases c1 : (s, p) = (y.s, x.prio)
  ·simp only [Prod.mk.injEq] at c1
   omega
  ·by_cases c2 : (s, p) = (x.s, x.prio)
   ·simp only [Prod.mk.injEq] at c2
    omega
   ·simp [fput, c1, c2] at h
    exact I.dom s p h
 ·rcases List.mem_or_eq_of_mem_set hz with hz | hz
  ·exact I.ok z hz
  ·subst hz
   exact ⟨by rw [hp]; exact okx.1, hs⟩
theorem TInv.same (I : TInv T ws fc n) {i : Nat} {x y : TR} (hi : T[i]? = some x) (hp : y.prio = x.prio) (hs : y.s = x.s) : TInv (T.set i y) ws fc n := by
 have hil : i < T.length := (List.getElem?_eq_some_iff.1 hi).1
 have okx := I.ok x (List.mem_of_getElem? hi)
 refine ⟨fun j z h => ?_, fun j h1 h2 => I.fre j (by simpa using h1) h2, fun s p => ?_, I.dom, by simp; exact I.le, fun z hz => ?_⟩
 ·by_cases c : j = i
  ·subst c
   rw [List.getElem?_set_self hil] at h
   injection h with h
   subst h
   rw [hs]
   exact I.st j x hi
  ·rw [List.getElem?_set_ne (fun e => c e.symm)] at h
   exact I.st j z h
 ·have hc := cntP_set (hasK s p) T i x y hi
  have : hasK s p y = hasK s p x := by simp [hasK, hp, hs]
  rw [this] at hc
  rw [I.cnt s p]
  congr 2
  omega
 ·rcases List.mem_or_eq_of_mem_set hz with hz | hz
  ·exact I.ok z hz
  ·subst hz
   exact ⟨by rw [hp]; exact okx.1, by rw [hs]; exact okx.2⟩
end Go.Proofs.YtjnpmipbkiambaaGreatDoor.Ta
namespace Go.Proofs.YtjnpmipbkiambaaGreatDoor.Ta
set_option maxRecDepth 100000
set_option linter.unusedVariables false
def IsT (x : Int) : Prop := 0 ≤ x ∧ x < 18446744073709551616
end Go.Proofs.YtjnpmipbkiambaaGreatDoor.Ta
namespace Go.Proofs.YtjnpmipbkiambaaGreatDoor.Ta
set_option maxRecDepth 100000
set_option linter.unusedVariables false
section
variable {P : Program} {ops : Array Oper} {Q : Exit → Act → World → Prop} {md : Region.Mode} {S : World → Prop} {L : Nat}
def wpAnyE (P : Program) (md : Region.Mode) (ops : Array Oper) (Q : Exit → Act → World → Prop) (S : World → Prop) (L : Nat) : Nat → Array Bool → Act → World → Prop
 | 0, lst, a, w => Region.ready md ops lst = [] ∧ Q .normal a w
 | f + 1, lst, a, w => (Region.ready md ops lst = [] → Q .normal a w) ∧
   ∀ i ∈ Region.ready md ops lst, wpOp P ops Q i (fun b u => (i ≠ L → S u) ∧ wpAnyE P md ops Q S L f (lst.setIfInBounds i true) b u) a w
theorem anyE_any : ∀ (f : Nat) (lst : Array Bool) (a : Act) (w : World), wpAnyE P md ops Q S L f lst a w → wpAny P md ops Q f lst a w
 | 0, _, _, _, h => h
 | f + 1, _, _, _, h => ⟨h.1, fun i hi => wpOp_mono (fun b u g => anyE_any f _ b u g.2) (h.2 i hi)⟩
theorem anyE_start {id : Nat} {a : Act} {w : World} (hm : P.follows .mixedOrders = true) (h : wpAnyE P .any ops Q S L ops.size (Array.replicate ops.size false) a w.drew) : (Code.region id ops true).wp P Q a w :=
 wp_region_any hm (anyE_any _ _ _ _ h)
theorem anyE_first {i : Nat} {oi : Oper} {v : Value} (hi : ops[i]? = some oi) (hsel : Region.noSelect ops = true) (hL : Region.waitsFor md ops L i = true) (hQ : ∀ c a w, Q (.panic c) (a.put oi.dst v) w → Q (.panic c) a w) :
  ∀ (f : Nat) (lst : Array Bool) (a : Act) (w : World), (∀ j oj, ops[j]? = some oj → j ≠ i → lst.getD j true = false → (∀ e ∈ oj.after, Region.binds md e = true → e.on ≠ i) → oi.apart ops oj = true) →
   i ∈ Region.ready md ops lst → YieldsIf P ops S oi v a → S w → wpAnyE P md ops Q S L f (lst.setIfInBounds i true) (a.put oi.dst v) w → wpAnyE P md ops Q S L (f + 1) lst a w := by
 intro f
 induction f with
 | zero =>
  intro lst a w _ hr hy hS H
  refine ⟨fun h => (by rw [h] at hr; cases hr), fun j hj => ?_⟩
  by_cases e : j = i
  ·subst e; exact hy.wpOp hi hS ⟨fun _ => hS, H⟩
  ·have := ready_mono hj e
   rw [H.1] at this
   cases this
 | succ f ih =>
  intro lst a w hfree hr hy hS H
  refine ⟨fun h => (by rw [h] at hr; cases hr), fun j hj => ?_⟩
  by_cases e : j = i
  ·subst e; exact hy.wpOp hi hS ⟨fun _ => hS, H⟩
  ·obtain ⟨hjun, oj, hoj, hall⟩ := mem_ready.1 hj
   have hr0 := (mem_ready.1 hr).1
   have hnot : ∀ x ∈ oj.after, Region.binds md x = true → x.on ≠ i := fun x hx hb he => by
    have h1 := hall x hx hb
    rw [he] at h1
    rcases Nat.lt_or_ge i lst.size with c | c
    ·simp [c] at hr0 h1; rw [hr0] at h1; cases h1
    ·simp [Array.getElem?_eq_none c] at h1
   have ns := Region.noSelect_spec hsel
   have step := wpOp_putIf hoj (hfree j oj hoj e hjun hnot) (fun cs b => ns i oi cs b hi) (fun cs b => ns j oj cs b hoj) hQ hy (H.2 j (ready_mono hj e))
   have hri := ready_mono hr (Ne.symm e)
   have hfree' : ∀ k ok, ops[k]? = some ok → k ≠ i → (lst.setIfInBounds j true).getD k true = false → (∀ x ∈ ok.after, Region.binds md x = true → x.on ≠ i) → oi.apart ops ok = true := fun k ok hk hki hun hno => by
    refine hfree k ok hk hki ?_ hno
    by_cases c : j = k
    ·subst c; exact hjun
    ·rw [getD_set_ne true c] at hun; exact hun
   refine wpOp_mono (fun b u g => ?_) step
   have jL : j ≠ L := by
    rintro rfl
    obtain ⟨o', ho', x, hx, hb, he⟩ := Region.waitsFor_spec hL
    rw [hoj] at ho'
    injection ho' with ho'
    subst ho'
    exact hnot x hx hb he
   have hS' := g.2.1 jL
   refine ⟨fun _ => hS', ih (lst.setIfInBounds j true) b u hfree' hri g.1 hS' ?_⟩
   rw [Array.setIfInBounds_comm _ _ e]
   exact g.2.2
theorem anyE_take {i : Nat} {oi : Oper} {v : Value} {f : Nat} {lst : Array Bool} {a : Act} {w : World} (hi : ops[i]? = some oi) (hs : Region.noSelect ops = true) (hL : Region.waitsFor md ops L i = true) (hf : Region.free md ops lst i = true) (hr : (Region.ready md ops lst).contains i = true)
  (hQ : ∀ c a w, Q (.panic c) (a.put oi.dst v) w → Q (.panic c) a w) (hy : YieldsIf P ops S oi v a) (hS : S w) (h : wpAnyE P md ops Q S L f (lst.setIfInBounds i true) (a.put oi.dst v) w) : wpAnyE P md ops Q S L (f + 1) lst a w :=
 anyE_first hi hs hL hQ f lst a w (Region.free_spec hi hf) (by simpa using hr) hy hS h
def AllE (P : Program) (md : Region.Mode) (ops : Array Oper) (Q : Exit → Act → World → Prop) (S : World → Prop) (L f : Nat) (lst : Array Bool) (a : Act) (w : World) (rs : List Nat) : Prop :=
 ∀ i ∈ rs, wpOp P ops Q i (fun b u => (i ≠ L → S u) ∧ wpAnyE P md ops Q S L f (lst.setIfInBounds i true) b u) a w
theorem anyE_ready {rs : List Nat} {f : Nat} {lst : Array Bool} {a : Act} {w : World} (hr : Region.ready md ops lst = rs) (hne : rs ≠ []) (h : AllE P md ops Q S L f lst a w rs) : wpAnyE P md ops Q S L (f + 1) lst a w :=
 ⟨fun c => absurd (hr.symm.trans c) hne, fun i hi => h i (by rw [← hr]; exact hi)⟩
theorem AllE.nil {f : Nat} {lst : Array Bool} {a : Act} {w : World} : AllE P md ops Q S L f lst a w [] := fun _ h => by cases h
theorem AllE.cons {f : Nat} {lst : Array Bool} {a : Act} {w : World} {i : Nat} {o : Oper} {rs : List Nat} (ho : ops[i]? = some o)
  (h : ∀ K : Act → World → Prop, Shut (∀ a w, (i ≠ L → S w) → wpAnyE P md ops Q S L f (lst.setIfInBounds i true) a w → K a w) → if Region.wanted o (yielded ops a.tmps) = true then Oper.wp P o a w K Q else K (a.put o.dst undef) w)
  (hs : AllE P md ops Q S L f lst a w rs) : AllE P md ops Q S L f lst a w (i :: rs) := fun j hj => by
 rcases List.mem_cons.1 hj with rfl | hj
 ·exact wpOp_step ho (fun K hK => h K (fun a w h1 h2 => hK a w ⟨h1, h2⟩))
 ·exact hs j hj
theorem anyE_done {lst : Array Bool} {a : Act} {w : World} (hr : Region.ready md ops lst = []) (h : Q .normal a w) : ∀ f, wpAnyE P md ops Q S L f lst a w
 | 0 => ⟨hr, h⟩
 | _ + 1 => ⟨fun _ => h, by rw [hr]; simp⟩
end
end Go.Proofs.YtjnpmipbkiambaaGreatDoor.Ta
namespace Go.Proofs.YtjnpmipbkiambaaGreatDoor.Ta
set_option maxRecDepth 100000
set_option linter.unusedVariables false
section
variable {P : Program} {ops : Array Oper} {Q : Exit → Act → World → Prop} {md : Region.Mode} {S : World → Prop} {L : Nat}
def chainOk (md : Region.Mode) (ops : Array Oper) : Nat → List Nat → Nat → Bool
 | i, [], L => Region.waitsFor md ops L i
 | i, m :: ms, L => Region.waitsFor md ops m i && chainOk md ops m ms L
theorem not_ready {lst : Array Bool} {a b : Nat} (hw : Region.waitsFor md ops a b = true) (hb : lst.getD b true = false) : a ∉ Region.ready md ops lst := fun h => by
 obtain ⟨_, oj, hoj, hall⟩ := mem_ready.1 h
 obtain ⟨o', ho', x, hx, hbd, he⟩ := Region.waitsFor_spec hw
 rw [hoj] at ho'
 injection ho' with ho'
 subst ho'
 have h1 := hall x hx hbd
 rw [he] at h1
 rcases Nat.lt_or_ge b lst.size with c | c
 ·simp [c] at hb h1; rw [hb] at h1; cases h1
 ·simp [Array.getElem?_eq_none c] at h1
theorem chain_not {lst : Array Bool} {j : Nat} (hj : j ∈ Region.ready md ops lst) : ∀ (ms : List Nat) (i : Nat), chainOk md ops i ms L = true → lst.getD i true = false → (∀ m ∈ ms, lst.getD m true = false) → j ∉ ms ∧ j ≠ L
 | [], i, h, hi, _ => ⟨by simp, fun e => not_ready h hi (e ▸ hj)⟩
 | m :: ms, i, h, hi, hu => by
  simp only [chainOk, Bool.and_eq_true] at h
  obtain ⟨h1, h2⟩ := chain_not hj ms m h.2 (hu m (by simp)) (fun x hx => hu x (by simp [hx]))
  refine ⟨fun hx => ?_, h2⟩
  rcases List.mem_cons.1 hx with e | hx
  ·exact not_ready h.1 hi (e ▸ hj)
  ·exact h1 hx
theorem anyF_first {i : Nat} {oi : Oper} {v : Value} (ms : List Nat) (hi : ops[i]? = some oi) (hsel : Region.noSelect ops = true) (hL : chainOk md ops i ms L = true) (hQ : ∀ c a w, Q (.panic c) (a.put oi.dst v) w → Q (.panic c) a w) :
  ∀ (f : Nat) (lst : Array Bool) (a : Act) (w : World), (∀ m ∈ ms, lst.getD m true = false) → (∀ j oj, ops[j]? = some oj → j ≠ i → lst.getD j true = false → (∀ e ∈ oj.after, Region.binds md e = true → e.on ≠ i) → oi.apart ops oj = true) →
   i ∈ Region.ready md ops lst → YieldsIf P ops S oi v a → S w → wpAnyE P md ops Q S L f (lst.setIfInBounds i true) (a.put oi.dst v) w → wpAnyE P md ops Q S L (f + 1) lst a w := by
 intro f
 induction f with
 | zero =>
  intro lst a w _ _ hr hy hS H
  refine ⟨fun h => (by rw [h] at hr; cases hr), fun j hj => ?_⟩
  by_cases e : j = i
  ·subst e; exact hy.wpOp hi hS ⟨fun _ => hS, H⟩
  ·have := ready_mono hj e
   rw [H.1] at this
   cases this
 | succ f ih =>
  intro lst a w hu hfree hr hy hS H
  refine ⟨fun h => (by rw [h] at hr; cases hr), fun j hj => ?_⟩
  by_cases e : j = i
  ·subst e; exact hy.wpOp hi hS ⟨fun _ => hS, H⟩
  ·obtain ⟨hjun, oj, hoj, hall⟩ := mem_ready.1 hj
   have hr0 := (mem_ready.1 hr).1
   have hnot : ∀ x ∈ oj.after, Region.binds md x = true → x.on ≠ i := fun x hx hb he => by
    have h1 := hall x hx hb
    rw [he] at h1
    rcases Nat.lt_or_ge i lst.size with c | c
    ·simp [c] at hr0 h1; rw [hr0] at h1; cases h1
    ·simp [Array.getElem?_eq_none c] at h1
   have ns := Region.noSelect_spec hsel
   have step := wpOp_putIf hoj (hfree j oj hoj e hjun hnot) (fun cs b => ns i oi cs b hi) (fun cs b => ns j oj cs b hoj) hQ hy (H.2 j (ready_mono hj e))
   have hri := ready_mono hr (Ne.symm e)
   have hfree' : ∀ k ok, ops[k]? = some ok → k ≠ i → (lst.setIfInBounds j true).getD k true = false → (∀ x ∈ ok.after, Region.binds md x = true → x.on ≠ i) → oi.apart ops ok = true := fun k ok hk hki hun hno => by
    refine hfree k ok hk hki ?_ hno
    by_cases c : j = k
    ·subst c; exact hjun
    ·rw [getD_set_ne true c] at hun; exact hun
   refine wpOp_mono (fun b u g => ?_) step
   obtain ⟨jm, jL⟩ := chain_not (L := L) hj ms i hL hr0 hu
   have hS' := g.2.1 jL
   have hu' : ∀ m ∈ ms, (lst.setIfInBounds j true).getD m true = false := fun m hm => by
    have hc : j ≠ m := fun c => jm (by rw [c]; exact hm)
    rw [getD_set_ne true hc]; exact hu m hm
   refine ⟨fun _ => hS', ih (lst.setIfInBounds j true) b u hu' hfree' hri g.1 hS' ?_⟩
   rw [Array.setIfInBounds_comm _ _ e]
   exact g.2.2
theorem anyF_take (ms : List Nat) {i : Nat} {oi : Oper} {v : Value} {f : Nat} {lst : Array Bool} {a : Act} {w : World} (hi : ops[i]? = some oi) (hs : Region.noSelect ops = true) (hL : chainOk md ops i ms L = true) (hu : (ms.all fun m => !lst.getD m true) = true) (hf : Region.free md ops lst i = true) (hr : (Region.ready md ops lst).contains i = true)
  (hQ : ∀ c a w, Q (.panic c) (a.put oi.dst v) w → Q (.panic c) a w) (hy : YieldsIf P ops S oi v a) (hS : S w) (h : wpAnyE P md ops Q S L f (lst.setIfInBounds i true) (a.put oi.dst v) w) : wpAnyE P md ops Q S L (f + 1) lst a w :=
 anyF_first ms hi hs hL hQ f lst a w (fun m hm => by simpa using List.all_eq_true.1 hu m hm) (Region.free_spec hi hf) (by simpa using hr) hy hS h
end
end Go.Proofs.YtjnpmipbkiambaaGreatDoor.Ta
namespace Go.Proofs.YtjnpmipbkiambaaGreatDoor.Ta
set_option maxRecDepth 100000
open Go.RowKit Go.Lib Go.WideMaps Go.Maps
set_option linter.unusedVariables false
variable {w w' u : World} {B a b r M n g cap i O : Nat} {v v' : Value} {T T' : List TR} {x y : TR} {ws ws' : Nat → Int} {fc fc' : Int × Int → Option Value}
theorem flat_same {α : Type} {R : RowT α} (d : List α) : ∀ (i : Nat) (x y : α), d[i]? = some x → R.enc y = R.enc x → R.flat (d.set i y) = R.flat d := by
 induction d with
 | nil => intro i x y h; simp at h
 | cons z d ih =>
  intro i x y h he
  cases i with
  | zero =>
   simp at h; subst h
   rw [List.set_cons_zero, flat_cons, flat_cons, he]
  | succ i =>
   rw [List.set_cons_succ, flat_cons, flat_cons, ih i x y (by simpa using h) he]
theorem OwnG.same {α : Type} {R : RowT α} {w : World} {base : Nat} {v : Value} {d : List α} {i : Nat} {x y : α} (h : OwnG R w base v d) (hi : d[i]? = some x) (he : R.enc y = R.enc x) : OwnG R w base v (d.set i y) := by
 unfold OwnG
 rw [List.length_set, flat_same d i x y hi he]
 exact h
structure TC (w : World) (g O : Nat) (x : TR) : Prop where
 k0 : w.cell? ⟨g, O, none⟩ = some (.int .i64 x.prio)
 k1 : w.cell? ⟨g, O + 1, none⟩ = some (.int .u64 x.due)
 k2 : w.cell? ⟨g, O + 2, none⟩ = some (.int .u64 x.key)
 k4 : w.cell? ⟨g, O + 4, none⟩ = some (.int .u64 x.f)
 k5 : w.cell? ⟨g, O + 5, none⟩ = some (.int .u64 x.p)
 k6 : w.cell? ⟨g, O + 6, none⟩ = some (.int .u64 x.d)
 k7 : w.cell? ⟨g, O + 7, none⟩ = some (.int .u64 x.r)
 k8 : w.cell? ⟨g, O + 8, none⟩ = some (.int .u64 x.m)
 fz : ∀ o, w.frozen? ⟨g, o, none⟩ = false
theorem Tab.tc (h : Tab w B a b r M n (.slice (some ⟨g, 0, none⟩) T.length cap) T ws fc) (hi : T[i]? = some x) (hO : i * 9 = O) : TC w g O x := by
 subst hO
 have c := fun j u hu => h.own.cell (i := i) (x := x) hi (j := j) (u := u) hu
 exact ⟨c 0 _ rfl, c 1 _ rfl, c 2 _ rfl, c 4 _ rfl, c 5 _ rfl, c 6 _ rfl, c 7 _ rfl, c 8 _ rfl, fun o => h.own.frozen o⟩
theorem Tab.len (h : Tab w B a b r M n v T ws fc) (hi : T[i]? = some x) : ∃ g cap, v = .slice (some ⟨g, 0, none⟩) T.length cap := h.own.addr (fun e => by rw [e] at hi; simp at hi)
theorem Tab.sameT (h : Tab w B a b r M n v T ws fc) (hi : T[i]? = some x) (he : rT.enc y = rT.enc x) : Tab w B a b r M n v (T.set i y) ws fc := ⟨h.head, h.own.same hi he, h.arn, h.map⟩
theorem Tab.setC (h : Tab w B a b r M n (.slice (some ⟨g, 0, none⟩) T.length cap) T ws fc) (hi : T[i]? = some x) {j : Nat} {z : Value} (he : rT.enc y = (rT.enc x).set j z) (hj : j < 9) (hO : i * 9 + j = O) :
  Tab (w.setCell ⟨g, O, none⟩ z) B a b r M n (.slice (some ⟨g, 0, none⟩) (T.set i y).length cap) (T.set i y) ws fc ∧ Fr (tf B a b r M (.slice (some ⟨g, 0, none⟩) T.length cap)) w (w.setCell ⟨g, O, none⟩ z) := by
 subst hO
 have hf : Fr (fun k => (Value.slice (some ⟨g, 0, none⟩) T.length cap).ownBlock = some k) w (w.setCell ⟨g, i * 9 + j, none⟩ z) := Fr.setCell _ w g (i * 9 + j) z rfl
 have ho := h.own.setAt (i := i) (j := j) (y := y) (u := z) hi he hj
 have := h.setT (T' := T.set i y) hf (by rw [List.length_set] at ho; exact ho)
 refine ⟨?_, hf.mono (fun k hk => .inr (.inr (.inr (.inr (.inr hk)))))⟩
 rw [List.length_set]
 exact this
def S8 (B M g O : Nat) (pr s c : Int) (v0 : World) : Prop := v0.cell? ⟨B, 2, none⟩ = some (.map (some M)) ∧ v0.cell? ⟨g, O, none⟩ = some (.int .i64 pr) ∧ (Instr.lookup 181 (.map (some M)) (.agg #[.int .i64 s, .int .i64 pr]) false).run Tryz.prog v0 = .ok (.int .i64 c) v0
theorem bump_all (h : Tab u B a b r M n (.slice (some ⟨g, 0, none⟩) T.length cap) T ws fc) (I : ∀ s p, (fc (s, p)).isSome = true → (0 ≤ s ∧ s < 8) ∧ 0 ≤ p ∧ p < 8) (hi : T[i]? = some x) (hO : i * 9 = O) (hp : 0 ≤ x.prio ∧ x.prio ≤ 7) (s : Int) (hs : 0 ≤ s ∧ s < 8) (c c' : Int) (hc : (fc (s, x.prio)).getD (.int .i64 0) = .int .i64 c) :
  S8 B M g O x.prio s c u.drew ∧ ∃ st w4 w5, (Instr.mapEntry 181 (.map (some M)) (.agg #[.int .i64 s, .int .i64 x.prio])).run Tryz.prog u.drew = .ok (.tuple #[.int .i64 c, .int .i64 st]) w4 ∧ S8 B M g O x.prio s c w4 ∧
   (Instr.entryStore 181 (.map (some M)) (.int .i64 st) (.int .i64 c')).run Tryz.prog w4 = .ok () w5 ∧
   Tab w5 B a b r M n (.slice (some ⟨g, 0, none⟩) T.length cap) T ws (fput fc (s, x.prio) (.int .i64 c')) ∧ Fr (tf B a b r M (.slice (some ⟨g, 0, none⟩) T.length cap)) u w5 := by
 have h0 := h.drew
 obtain ⟨N, hN⟩ := h0.map
 have hk : keyP.ok (s, x.prio) := ⟨wfI_8 hs, wfI_8 (by omega)⟩
 obtain ⟨st, w4, w5, mm, l0, e4, l4, e5, m5, g5, g4⟩ := hN.bump (few hN I) hk c hc (.int .i64 c')
 obtain ⟨es, q, hM'⟩ := h0.hM
 obtain ⟨cg, hg⟩ := h0.hg (g := g) rfl
 refine ⟨⟨h0.c2, (h0.tc hi hO).k0, l0⟩, st, w4, w5, e4, ⟨?_, ?_, l4⟩, e5, h0.setM g5 m5, ?_⟩
 ·rw [World.cell?_of_block (g4.block B (lt_of_block h0.head) (fun e => un_map h0.head hM' (by injection e)))]
  exact h0.c2
 ·rw [World.cell?_of_block (g4.block g (lt_of_block hg) (fun e => un_map hg hM' (by injection e)))]
  exact (h0.tc hi hO).k0
 ·exact ((Fr.refl _ u).drew).trans (Fr.of_grown g5) (fun j hj => .inl (.inr (.inr (.inr (.inr (.inl (by injection hj with hj; exact hj.symm)))))))
theorem dom_put {fc : Int × Int → Option Value} (I : ∀ s p, (fc (s, p)).isSome = true → (0 ≤ s ∧ s < 8) ∧ 0 ≤ p ∧ p < 8) {s p : Int} (hs : 0 ≤ s ∧ s < 8) (hp : 0 ≤ p ∧ p < 8) (z : Value) : ∀ s' p', ((fput fc (s, p) z) (s', p')).isSome = true → (0 ≤ s' ∧ s' < 8) ∧ 0 ≤ p' ∧ p' < 8 := fun s' p' h => by
 by_cases c : (s', p') = (s, p)
 ·simp only [Prod.mk.injEq] at c
  omega
 ·simp [fput, c] at h
  exact I s' p' h
end Go.Proofs.YtjnpmipbkiambaaGreatDoor.Ta
namespace Go.Proofs.YtjnpmipbkiambaaGreatDoor.Ta
set_option maxRecDepth 100000
open Go.RowKit Go.Lib Go.WideMaps Go.Maps
set_option linter.unusedVariables false
variable {w w' u : World} {B a b r M n g cap i O : Nat} {v v' : Value} {T T' : List TR} {x y : TR} {ws ws' : Nat → Int} {fc fc' : Int × Int → Option Value}
theorem tf_abr {B a b r M : Nat} {v : Value} {j : Nat} (h : j = a ∨ j = b ∨ j = r) : tf B a b r M v j := by
 rcases h with rfl | rfl | rfl
 ·exact .inr (.inl rfl)
 ·exact .inr (.inr (.inl rfl))
 ·exact .inr (.inr (.inr (.inl rfl)))
end Go.Proofs.YtjnpmipbkiambaaGreatDoor.Ta
