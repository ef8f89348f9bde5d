/- A table in the heap, told by its tasks alone; its calls; 'awake' of layer 17. -/
import Derived.Test.YtpenjncbodcbnaaDoorTbCa
import Derived.Test.YtpenjncbodcbnaaDoorTbCb
import Derived.Test.YtpenjncbodcbnaaDoorTbDb
import Derived.Test.YtpenjncbodcbnaaDoorTbE
namespace Go.Proofs.YtpenjncbodcbnaaDoor
open Go.RowKit Go.Lib Go.WideMaps Go.Maps
set_option linter.unusedVariables false
/-- At B lies a table with room for n; X its blocks. -/
def Tb (w : World) (X : Nat → Prop) (B n : Nat) (T : List TR) : Prop := n ≤ 1000 ∧ ∃ a b r M v ws fc, Tab w B a b r M n v T ws fc ∧ TInv T ws fc n ∧ ∀ k, X k ↔ tf B a b r M v k
/-- What a call of it leaves of the rest. -/
structure Sx (X : Nat → Prop) (w : World) (X' : Nat → Prop) (w' : World) : Prop where
  fr : Fr X w w'
  new : ∀ k, X' k → X k ∨ w.heap.size ≤ k
/-- All its blocks are above S, and what lies below S is as it was. -/
structure Ab (w0 : World) (S : Nat) (w : World) (X : Nat → Prop) : Prop where
  bel : Below S w0 w
  low : ∀ k, X k → S ≤ k
  sz : S ≤ w.heap.size
variable {w w' w0 u : World} {X X' Y : Nat → Prop} {B n i S : Nat} {T T' : List TR} {x y : TR}
theorem Sx.refl (X : Nat → Prop) (w : World) : Sx X w X w := ⟨Fr.refl _ _, fun k h => .inl h⟩
theorem Sx.trans {Z : Nat → Prop} {v : World} (h : Sx X w Y u) (k : Sx Y u Z v) : Sx X w Z v :=
  ⟨h.fr.trans k.fr h.new, fun j hj => by
    rcases k.new j hj with e | e
    · exact h.new j e
    · exact .inr (Nat.le_trans h.fr.size e)⟩
theorem Sx.below (X : Nat → Prop) (hb : Below w.heap.size w w') : Sx X w X w' := ⟨Fr.below hb, fun k h => .inl h⟩
theorem Sx.out (h : Sx X w X' w') {k : Nat} (hk : k < w.heap.size) (hx : ¬ X k) : ¬ X' k := fun hx' => by
  rcases h.new k hx' with e | e
  · exact hx e
  · omega
theorem Ab.st (h : Ab w0 S w X) (k : Sx X w X' w') : Ab w0 S w' X' := by
  refine ⟨h.bel.trans (k.fr.toBelow h.low h.sz), fun j hj => ?_, Nat.le_trans h.sz k.fr.size⟩
  rcases k.new j hj with e | e
  · exact h.low j e
  · exact Nat.le_trans h.sz e
theorem Ab.below (h : Ab w0 S w X) (hb : Below w.heap.size w w') : Ab w0 S w' X := h.st (Sx.below X hb)
theorem Tb.lt (h : Tb w X B n T) {k : Nat} (hk : X k) : k < w.heap.size := by
  obtain ⟨_, a, b, r, M, v, ws, fc, D, I, hX⟩ := h
  exact D.tfLt ((hX k).1 hk)
theorem Tb.fr (h : Tb w X B n T) (hf : Fr Y w w') (hx : ∀ k, X k → ¬ Y k) : Tb w' X B n T := by
  obtain ⟨hn, a, b, r, M, v, ws, fc, D, I, hX⟩ := h
  exact ⟨hn, a, b, r, M, v, ws, fc, D.fr hf (fun k hk => hx k ((hX k).2 hk)), I, hX⟩
theorem Tb.below (h : Tb w X B n T) (hw : Below w.heap.size w w') : Tb w' X B n T := h.fr (Fr.below (X := fun _ => False) hw) (fun _ _ => id)
theorem Tb.ok (h : Tb w X B n T) : (∀ x ∈ T, (0 ≤ x.prio ∧ x.prio ≤ 7) ∧ 1 ≤ x.s ∧ x.s ≤ 6) ∧ T.length ≤ n ∧ n ≤ 1000 := by
  obtain ⟨hn, a, b, r, M, v, ws, fc, D, I, hX⟩ := h
  exact ⟨I.ok, I.le, hn⟩
/-- A block of a row of ints is none of its blocks. -/
theorem Tb.noInt (h : Tb w X B n T) {k : Nat} {cs : Array Value} (hk : w.heap[k]? = some (.cells cs 3 (0, 0))) : ¬ X k := fun hx => by
  obtain ⟨hn, a, b, r, M, v, ws, fc, D, I, hX⟩ := h
  obtain ⟨ca, ha'⟩ := D.ha
  obtain ⟨cb, hb'⟩ := D.hb
  obtain ⟨cr, hr'⟩ := D.hr
  obtain ⟨es, q, hM'⟩ := D.hM
  rcases (hX k).1 hx with rfl | rfl | rfl | rfl | rfl | e
  · exact un_cells hk D.head (by decide) rfl
  · exact un_cells hk ha' (by decide) rfl
  · exact un_cells hk hb' (by decide) rfl
  · exact un_cells hk hr' (by decide) rfl
  · exact un_map hk hM' rfl
  · obtain ⟨cg, hg⟩ := D.hg e
    exact un_cells hk hg (by decide) rfl
theorem newT (n : Nat) (w : World) (h1 : 1 ≤ n) (h2 : n ≤ 1000) : Calls Tryd.prog 5 #[.int .i64 n] w fun e w' => ∃ B X, e = .returned (.tuple #[.pointer (some ⟨B, 0, none⟩), .int .i64 0]) ∧ Tb w' X B n [] ∧ Ab w w.heap.size w' X := by
  refine (tnew_any n w h1 h2).mono ?_
  rintro e w' ⟨B, a, b, r, M, rfl, D, hb, low⟩
  exact ⟨B, _, rfl, ⟨h2, a, b, r, M, _, _, _, D, TInv.nil n, fun k => Iff.rfl⟩, ⟨hb, low, hb.size⟩⟩
theorem lenT (h : Tb w X B n T) : Calls Tryd.prog 10 #[.pointer (some ⟨B, 0, none⟩)] w fun e w' => e = .returned (.int .i64 T.length) ∧ w' = w := by
  obtain ⟨hn, a, b, r, M, v, ws, fc, D, I, hX⟩ := h
  exact tlen_any D
theorem countT (h : Tb w X B n T) (s : Int) (hs : wfI s) : Calls Tryd.prog 9 #[.pointer (some ⟨B, 0, none⟩), .int .i64 s] w fun e w' => e = .returned (.int .i64 (T.countP (ofS s) : Nat)) ∧ w' = w := by
  obtain ⟨hn, a, b, r, M, v, ws, fc, D, I, hX⟩ := h
  exact count_any D I hn s hs
theorem sx_of {a b r M : Nat} {v v' : Value} (hX : ∀ k, X k ↔ tf B a b r M v k) (hf : Fr (tf B a b r M v) w w') (hn : ∀ k, v'.ownBlock = some k → v.ownBlock = some k ∨ w.heap.size ≤ k) : Sx X w (tf B a b r M v') w' := by
  refine ⟨hf.mono (fun k hk => (hX k).2 hk), fun k hk => ?_⟩
  rcases hk with e | e | e | e | e | e
  · exact .inl ((hX k).2 (.inl e))
  · exact .inl ((hX k).2 (.inr (.inl e)))
  · exact .inl ((hX k).2 (.inr (.inr (.inl e))))
  · exact .inl ((hX k).2 (.inr (.inr (.inr (.inl e)))))
  · exact .inl ((hX k).2 (.inr (.inr (.inr (.inr (.inl e))))))
  · rcases hn k e with e | e
    · exact .inl ((hX k).2 (.inr (.inr (.inr (.inr (.inr e))))))
    · exact .inr e
theorem sx_same {a b r M : Nat} {v : Value} (hX : ∀ k, X k ↔ tf B a b r M v k) (hf : Fr (tf B a b r M v) w w') : Sx X w X w' := ⟨hf.mono (fun k hk => (hX k).2 hk), fun k hk => .inl hk⟩
theorem makeT (h : Tb w X B n T) (prio f d rr m s : Int) (hm : mayB prio s = true) (hl : T.length < n) :
    Calls Tryd.prog 6 #[.pointer (some ⟨B, 0, none⟩), .int .i64 prio, .slice none 0 0, .agg #[.int .u64 f, .int .u64 0, .int .u64 d, .int .u64 rr, .int .u64 m], .int .i64 s] w fun e w' => e = .returned (.tuple #[.int .i64 ((T.length : Int) + 1), .int .i64 0]) ∧ ∃ X', Tb w' X' B n (T ++ [mkT prio f 0 d 0 m s]) ∧ Sx X w X' w' := by
  obtain ⟨hn, a, b, r, M, v, ws, fc, D, I, hX⟩ := h
  refine (make_plain D I hn prio f 0 d rr m s hm hl rfl).mono ?_
  rintro e w' ⟨rfl, v', ws', fc', D', I', F, N⟩
  exact ⟨rfl, _, ⟨hn, a, b, r, M, v', ws', fc', D', I', fun k => Iff.rfl⟩, sx_of hX F N⟩
theorem makeP (h : Tb w X B n T) (prio f p d rr m s : Int) (hm : mayB prio s = true) (hl : T.length < n) (hf : IsT f) (hp : IsT p) (hd : IsT d) (hp0 : p > 0) (hok : Tk.okJ f p d = true) :
    Calls Tryd.prog 6 #[.pointer (some ⟨B, 0, none⟩), .int .i64 prio, .slice none 0 0, .agg #[.int .u64 f, .int .u64 p, .int .u64 d, .int .u64 rr, .int .u64 m], .int .i64 s] w fun e w' => e = .returned (.tuple #[.int .i64 ((T.length : Int) + 1), .int .i64 0]) ∧ ∃ X', Tb w' X' B n (T ++ [mkT prio f p d rr m s]) ∧ Sx X w X' w' := by
  obtain ⟨hn, a, b, r, M, v, ws, fc, D, I, hX⟩ := h
  refine (make_again D I hn prio f p d rr m s hm hl hf hp hd hp0 hok).mono ?_
  rintro e w' ⟨rfl, v', ws', fc', D', I', F, N⟩
  exact ⟨rfl, _, ⟨hn, a, b, r, M, v', ws', fc', D', I', fun k => Iff.rfl⟩, sx_of hX F N⟩
/-- What Turn answers of a task that does not come again. -/
def turnE (x : TR) (s : Int) : Int := if s < 1 ∨ 6 < s then 1 else if canB x.s s = true then 0 else 7
theorem turnG (h : Tb w X B n T) (hi : T[i]? = some x) (s : Int) (hp0 : x.p = 0) :
    Calls Tryd.prog 7 #[.pointer (some ⟨B, 0, none⟩), .int .i64 ((i : Int) + 1), .int .i64 s] w fun e w' => e = .returned (.int .i64 (turnE x s)) ∧ Tb w' X B n (if canB x.s s = true then T.set i (turnT x s) else T) ∧ Sx X w X w' := by
  obtain ⟨hn, a, b, r, M, v, ws, fc, D, I, hX⟩ := h
  obtain ⟨g, cap, rfl⟩ := D.len hi
  by_cases c1 : s < 1 ∨ 6 < s
  · have e1 : turnE x s = 1 := by simp only [turnE, if_pos c1]
    have e2 : canB x.s s = false := by
      cases hc : canB x.s s with
      | false => rfl
      | true => obtain ⟨q, rfl, q1, _, q2, _⟩ := can_range hc; omega
    rw [e1, e2]
    refine (tturn_arg D I hn hi s c1).mono ?_
    rintro e w' ⟨rfl, D', F⟩
    exact ⟨rfl, ⟨hn, a, b, r, M, _, ws, fc, D', I, hX⟩, sx_same hX F⟩
  · cases hc : canB x.s s with
    | false =>
      have e1 : turnE x s = 7 := by simp only [turnE, if_neg c1, hc]; rfl
      rw [e1]
      refine (tturn_state D I hn hi s (by omega) hc).mono ?_
      rintro e w' ⟨rfl, D', F⟩
      exact ⟨rfl, ⟨hn, a, b, r, M, _, ws, fc, D', I, hX⟩, sx_same hX F⟩
    | true =>
      have e1 : turnE x s = 0 := by simp only [turnE, if_neg c1, hc]; rfl
      rw [e1]
      refine (tturn_ok D I hn hi s hc hp0).mono ?_
      rintro e w' ⟨rfl, ⟨ws', fc', D', I'⟩, F⟩
      exact ⟨rfl, ⟨hn, a, b, r, M, _, ws', fc', D', I', hX⟩, sx_same hX F⟩
theorem setG (h : Tb w X B n T) (hi : T[i]? = some x) (due : Int) :
    Calls Tryd.prog 14 #[.pointer (some ⟨B, 0, none⟩), .int .i64 ((i : Int) + 1), .int .u64 due] w fun e w' => e = .returned (.int .i64 0) ∧ Tb w' X B n (T.set i { x with due := due }) ∧ Sx X w X w' := by
  obtain ⟨hn, a, b, r, M, v, ws, fc, D, I, hX⟩ := h
  obtain ⟨g, cap, rfl⟩ := D.len hi
  refine (set_any D I hn hi due).mono ?_
  rintro e w' ⟨rfl, D', F⟩
  exact ⟨rfl, ⟨hn, a, b, r, M, _, ws, fc, D', I.same hi rfl rfl, hX⟩, sx_same hX F⟩
set_option maxHeartbeats 2000000 in
theorem awakeT (w : World) : Calls Tryd.prog 11 #[] w fun e w' => e = .returned (.bool true) ∧ Below w.heap.size w w' := by
  obtain ⟨S, hS⟩ : ∃ S, w.heap.size = S := ⟨_, rfl⟩
  go_enter Tryd.func11, Tryd.ntmps11
  go_wp2_with fail
  refine (newT 5 w (by omega) (by omega)).mono ?_
  rintro e w1 ⟨B, X, rfl, D, A⟩
  rw [hS] at A
  have P := makeT D 3 0 0 0 0 2 (by decide) (by simp)
  clear D
  go_wp2_with fail
  refine P.mono ?_
  rintro e w2 ⟨rfl, X2, D2, s2⟩
  have A2 := A.st s2
  clear P A s2
  have P1 := turnG D2 (i := 0) (x := mkT 3 0 0 0 0 0 2) rfl 4 rfl
  rw [show turnE (mkT 3 0 0 0 0 0 2) 4 = 7 by decide, show canB (mkT 3 0 0 0 0 0 2).s 4 = false by decide] at P1
  clear D2
  go_wp2_with fail
  refine P1.mono ?_
  rintro e w3 ⟨rfl, D3, s3⟩
  have A3 := A2.st s3
  clear P1 A2 s3
  have P2 := turnG (i := 0) (x := mkT 3 0 0 0 0 0 2) D3 rfl 3 rfl
  rw [show turnE (mkT 3 0 0 0 0 0 2) 3 = 0 by decide, show canB (mkT 3 0 0 0 0 0 2).s 3 = true by decide] at P2
  clear D3
  go_wp2_with fail
  refine P2.mono ?_
  rintro e w4 ⟨rfl, D4, s4⟩
  have FIN : Aside (Below S w w4) := (A3.st s4).bel
  have P3 := countT D4 3 (wfI_of (by omega) (by omega))
  clear P2 A3 s4 D4
  go_wp2_with fail
  refine P3.mono ?_
  rintro e w5 ⟨rfl, rfl⟩
  clear P3
  go_wp2_with fail
  go_ret
  exact ⟨rfl, by first | exact FIN.out | (rw [hS]; exact FIN.out)⟩
end Go.Proofs.YtpenjncbodcbnaaDoor
