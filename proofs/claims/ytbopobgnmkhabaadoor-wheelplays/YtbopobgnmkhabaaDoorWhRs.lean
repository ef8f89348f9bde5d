/- The program's wheel and the document's, side by side; the law's 'same'. -/
import Derived.Test.YtbopobgnmkhabaaDoorWhRb
import Derived.Test.YtbopobgnmkhabaaDoorWhRd
import Derived.Test.YtbopobgnmkhabaaDoorWhAm
import Derived.Deep.RegionHeld3
namespace Go.Proofs.YtbopobgnmkhabaaDoor
open Go.RowKit Go.Lib Go.Sort Go.WideMaps Go.Maps
set_option linter.unusedVariables false

/-- Both wheels in a law's world. Y: their blocks at w1, whence a round begins. -/
structure Duo (w0 w1 w : World) (Y F X : Nat → Prop) (A ba na : Nat) (Ta : List Ent) (B nb : Nat) (Tb : List Ent) : Prop where
  a : Wst w0 w F A ba na Ta
  r : RWh w X B nb Tb
  lo : ∀ k, X k → w0.heap.size ≤ k
  ne : ∀ k, X k → ¬ F k
  fr : Fr Y w1 w
  fy : ∀ k, F k → Y k ∨ w1.heap.size ≤ k
  xy : ∀ k, X k → Y k ∨ w1.heap.size ≤ k
variable {w0 w1 w w' : World} {Y F X : Nat → Prop} {A ba na B nb now : Nat} {T Ta Tb : List Ent}
theorem Duo.goA (h : Duo w0 w1 w Y F X A ba na Ta B nb Tb) {na' : Nat} {Ta' : List Ent} (g : WIs w F A ba na' Ta' w') : ∃ F', Duo w0 w1 w' Y F' X A ba na' Ta' B nb Tb := by
  obtain ⟨F', q1, q2, q3⟩ := h.a.go g
  refine ⟨F', q1, h.r.fr q2 (fun k hk hF => h.ne k hk hF), h.lo, fun k hk hF => ?_, h.fr.trans q2 (fun j hj => h.fy j hj), fun k hk => ?_, h.xy⟩
  · rcases q3 k hF with q | q
    · exact h.ne k hk q
    · have := h.r.lt hk; omega
  · rcases q3 k hk with q | q
    · exact h.fy k q
    · exact .inr (Nat.le_trans h.fr.size q)
theorem Duo.goR (h : Duo w0 w1 w Y F X A ba na Ta B nb Tb) {nb' : Nat} {Tb' : List Ent} (g : RGo w X B nb' Tb' w') : ∃ X', Duo w0 w1 w' Y F X' A ba na Ta B nb' Tb' ∧ Fr X w w' ∧ ∀ k, X' k → X k ∨ w.heap.size ≤ k := by
  obtain ⟨X', q1, q2, q3⟩ := g
  refine ⟨X', ⟨h.a.fr q2 (fun k hk => ⟨h.ne k hk, h.lo k hk⟩), q1, fun k hk => ?_, fun k hk hF => ?_, h.fr.trans q2 (fun j hj => h.xy j hj), h.fy, fun k hk => ?_⟩, q2, q3⟩
  · rcases q3 k hk with q | q
    · exact h.lo k q
    · exact Nat.le_trans h.a.bel.size q
  · rcases q3 k hk with q | q
    · exact h.ne k q hF
    · have := (h.a.low hF).2; omega
  · rcases q3 k hk with q | q
    · exact h.xy k q
    · exact .inr (Nat.le_trans h.fr.size q)
theorem Duo.below (h : Duo w0 w1 w Y F X A ba na Ta B nb Tb) (hw : Below w.heap.size w w') : Duo w0 w1 w' Y F X A ba na Ta B nb Tb :=
  ⟨h.a.below hw, h.r.below hw, h.lo, h.ne, h.fr.trans (Fr.below (X := fun _ => False) hw) (fun j hj => hj.elim), h.fy, h.xy⟩
/-- A new round begins. -/
theorem Duo.fresh (h : Duo w0 w1 w Y F X A ba na Ta B nb Tb) : Duo w0 w w (fun k => F k ∨ X k) F X A ba na Ta B nb Tb :=
  ⟨h.a, h.r, h.lo, h.ne, Fr.refl _ _, fun k hk => .inl (.inl hk), fun k hk => .inl (.inr hk)⟩
theorem Duo.cell (h : Duo w0 w1 w Y F X A ba na Ta B nb Tb) {p : Addr} (hp : p.block < w1.heap.size) (hy : ¬ Y p.block) : w.cell? p = w1.cell? p := World.cell?_of_block (h.fr.block p.block hp hy)

/-- Both stand alike. -/
def Like (w0 w1 w : World) (Y : Nat → Prop) (A ba B now : Nat) (T : List Ent) : Prop := ∃ F X, Duo w0 w1 w Y F X A ba now T B now T
/-- The program's one has made its step, the document's not yet. -/
def Half (w0 w1 w : World) (Y : Nat → Prop) (A ba na : Nat) (Ta : List Ent) (B nb : Nat) (Tb : List Ent) : Prop := ∃ F X, Duo w0 w1 w Y F X A ba na Ta B nb Tb
theorem Like.addA (h : Like w0 w1 w Y A ba B now T) {i : Int} (wi : wfI i) {D : Nat} (hD : D < B64) :
    Calls Tryd.prog 10 #[.pointer (some ⟨A, 0, none⟩), .int .i64 i, .int .u64 D] w fun e w' => e = .returned (.int .i64 (addR T i)) ∧ Half w0 w1 w' Y A ba now (addT T i D) B now T := by
  obtain ⟨F, X, h⟩ := h
  refine Calls.mono (add_any h.a.whl wi hD h.a.hi) ?_
  rintro e w' ⟨rfl, q⟩
  obtain ⟨F', q⟩ := h.goA q
  exact ⟨rfl, F', X, q⟩
theorem Half.addR (h : Half w0 w1 w Y A ba na Ta B now T) (hT : TOk T) (i : Int) (D : Nat) (ha : Ta = addT T i D) (hn : na = now) :
    Calls Tryd.prog 16 #[.pointer (some ⟨B, 0, none⟩), .int .i64 i, .int .u64 D] w fun e w' => e = .returned (.int .i64 (addR T i)) ∧ Like w0 w1 w' Y A ba B now (addT T i D) := by
  subst ha hn
  obtain ⟨F, X, h⟩ := h
  by_cases hr : addR T i = 0
  · have e : addT T i D = insL T ((D : Int), i) := if_pos hr
    refine Calls.mono (vadd_ok h.r hT i D hr) ?_
    rintro e' w' ⟨rfl, q⟩
    obtain ⟨X', q, -⟩ := h.goR q
    exact ⟨by rw [hr], F, X', by rw [e] at q ⊢; exact q⟩
  · refine Calls.mono (vadd_no h.r i D hr) ?_
    rintro e' w' ⟨rfl, q⟩
    obtain ⟨X', q, -⟩ := h.goR q
    exact ⟨rfl, F, X', q⟩
theorem Like.cancelA (h : Like w0 w1 w Y A ba B now T) {i : Int} (wi : wfI i) :
    Calls Tryd.prog 15 #[.pointer (some ⟨A, 0, none⟩), .int .i64 i] w fun e w' => e = .returned (.bool (dueOf T i).isSome) ∧ Half w0 w1 w' Y A ba now (canT T i) B now T := by
  obtain ⟨F, X, h⟩ := h
  refine Calls.mono (cancel_any h.a.whl wi h.a.hi) ?_
  rintro e w' ⟨rfl, q⟩
  obtain ⟨F', q⟩ := h.goA q
  exact ⟨rfl, F', X, q⟩
theorem Half.cancelR (h : Half w0 w1 w Y A ba na Ta B now T) (hT : TOk T) (i : Int) (ha : Ta = canT T i) (hn : na = now) :
    Calls Tryd.prog 17 #[.pointer (some ⟨B, 0, none⟩), .int .i64 i] w fun e w' => e = .returned (.bool (dueOf T i).isSome) ∧ Like w0 w1 w' Y A ba B now (canT T i) := by
  subst ha hn
  obtain ⟨F, X, h⟩ := h
  refine Calls.mono (vcancel_any h.r hT i) ?_
  rintro e' w' ⟨rfl, q⟩
  obtain ⟨X', q, -⟩ := h.goR q
  exact ⟨rfl, F, X', q⟩
/-- The program's Advance: what it tells is the call's own. -/
def HalfV (w0 w1 w : World) (Y : Nat → Prop) (A ba na : Nat) (Ta : List Ent) (B nb : Nat) (Tb : List Ent) (v : Value) (d : List Ent) : Prop := ∃ F X, Duo w0 w1 w Y F X A ba na Ta B nb Tb ∧ OwnF w 0 v d ∧ ∀ k, rowB v = some k → ¬ X k
theorem Like.advA (h : Like w0 w1 w Y A ba B now T) {tt : Nat} (ht : tt < B64) :
    Calls Tryd.prog 11 #[.pointer (some ⟨A, 0, none⟩), .int .u64 tt] w fun e w' => ∃ a cap, e = .returned (.slice a (dueL (max now tt) T).length cap) ∧ HalfV w0 w1 w' Y A ba (max now tt) (restL (max now tt) T) B now T (.slice a (dueL (max now tt) T).length cap) (dueL (max now tt) T) := by
  obtain ⟨F, X, h⟩ := h
  refine Calls.mono (adv_own h.a.whl ht h.a.tabW (Nat.lt_of_lt_of_le h.a.pos h.a.lo) h.a.hi) ?_
  rintro e w' ⟨v, rfl, q1, F', q2, q3, q4, q5⟩
  obtain ⟨F2, t1⟩ := h.goA ⟨F', q2, q3, q4⟩
  obtain ⟨a, cap, rfl, -, -, -, -⟩ := q1.isL
  exact ⟨a, cap, rfl, F2, X, t1, q1.low (Nat.zero_le _), fun k hk hX => by have := h.r.lt hX; have := (q1.rowLt hk).1; omega⟩
theorem HalfV.advR {v : Value} {a : Option Addr} {n cap : Nat} {d : List Ent} (h : HalfV w0 w1 w Y A ba na Ta B now T (.slice a n cap) d) (hT : TOk T) (tt : Nat) (hd : d = dueL (max now tt) T) (ha : Ta = restL (max now tt) T) (hn : na = max now tt) :
    Calls Tryd.prog 19 #[.pointer (some ⟨B, 0, none⟩), .int .u64 tt] w fun e w' => ∃ r t, e = .returned (.slice r n t) ∧ n = d.length ∧ IsL w' a cap d ∧ IsL w' r t d ∧ Like w0 w1 w' Y A ba B (max now tt) (restL (max now tt) T) := by
  subst ha hn hd
  obtain ⟨F, X, h, o, hr⟩ := h
  refine Calls.mono (vadv_any h.r hT tt) ?_
  rintro e' w' ⟨r, t, rfl, il, q⟩
  obtain ⟨X', q, f, -⟩ := h.goR q
  obtain ⟨a2, c2, e, -, -, -, il2⟩ := (o.fr f hr).isL
  injection e with e1 e2 e3
  subst e1 e2 e3
  exact ⟨r, t, rfl, rfl, il2, il, F, X', q⟩
theorem Like.below (h : Like w0 w1 w Y A ba B now T) (hw : Below w.heap.size w w') : Like w0 w1 w' Y A ba B now T := by
  obtain ⟨F, X, h⟩ := h
  exact ⟨F, X, h.below hw⟩
theorem Like.ok (h : Like w0 w1 w Y A ba B now T) : TOk T := by
  obtain ⟨F, X, h⟩ := h
  exact h.a.whl.ok
set_option maxHeartbeats 8000000 in
set_option maxRecDepth 100000 in
theorem same_any (h : Like w0 w1 w Y A ba B now T) {i : Int} (wi : wfI i) :
    Calls Tryd.prog 20 #[.pointer (some ⟨A, 0, none⟩), .pointer (some ⟨B, 0, none⟩), .int .i64 i] w fun e w' => e = .returned (.bool true) ∧ Below w.heap.size w w' := by
  obtain ⟨F, X, h⟩ := h
  obtain ⟨a, cap, c0, c1, il, -, hBl⟩ := h.r.open
  have DU := due_any h.a.whl wi
  have DR := vdue_any h.r i
  have NX := next_any h.a.whl h.a.tabW
  have hTl := h.a.whl.ok.len
  obtain ⟨V, hV⟩ : ∃ V, (dueOf T i).getD 0 = V := ⟨_, rfl⟩
  obtain ⟨O, hO⟩ : ∃ O, (dueOf T i).isSome = O := ⟨_, rfl⟩
  have hdv : dueV T i = .tuple #[.int .u64 V, .bool O] := by unfold dueV; rw [hV, hO]
  rw [hdv] at DU DR
  have NOW : Aside (∀ W, Below w.heap.size w W → Calls Tryd.prog 13 #[.pointer (some ⟨A, 0, none⟩)] W fun e w' => e = .returned (.int .u64 now) ∧ w' = W) := fun W hW => now_any (h.a.whl.below hW)
  have LEN : Aside (∀ W, Below w.heap.size w W → Calls Tryd.prog 12 #[.pointer (some ⟨A, 0, none⟩)] W fun e w' => e = .returned (.int .i64 (T.length : Nat)) ∧ w' = W) := fun W hW => wlen_any (h.a.whl.below hW)
  have ALL : Aside (∀ W, Below w.heap.size w W → Calls Tryd.prog 30 #[.pointer (some ⟨A, 0, none⟩)] W fun e w' => ∃ x y, e = .returned (.slice x T.length y) ∧ IsL w' x y T ∧ Below W.heap.size W w') := fun W hW => by
    refine Calls.mono (all_any (h.a.whl.below hW)) ?_
    rintro e w' ⟨v, rfl, o, b⟩
    obtain ⟨x, y, rfl, -, -, -, il⟩ := o.isL
    exact ⟨x, y, rfl, il, b⟩
  have IL : Aside (IsL w a cap T) := il
  have C0 : Aside (∀ W, Below w.heap.size w W → W.cell? ⟨B, 0, none⟩ = some (.int .u64 (now : Int)) ∧ W.cell? ⟨B, 1, none⟩ = some (.slice a T.length cap)) := fun W hW => ⟨(hW.cell (p := ⟨B, 0, none⟩) hBl).trans c0, (hW.cell (p := ⟨B, 1, none⟩) hBl).trans c1⟩
  have SAM : Aside (∀ W x y, Below w.heap.size w W → IsL W x y T → Calls Tryd.prog 18 #[.slice x T.length y, .slice a T.length cap] W fun e w' => e = .returned (.bool true) ∧ Below W.heap.size W w') := fun W x y hW hx => by
    refine Calls.mono (sameT_any x a y cap T W hx (IL.out.below hW)) ?_
    rintro e w' ⟨rfl, g⟩
    exact ⟨rfl, g.below⟩
  have HD : Hid (∀ x (T' : List Ent), T = x :: T' → ∃ b off, a = some ⟨b, off, none⟩ ∧ ∀ W, Below w.heap.size w W → W.cell? ⟨b, off, none⟩ = some (.int .u64 x.1)) := fun x T' e => by
    obtain ⟨b, off, e1, hb, z1, z2⟩ := IL.out.elem 0 x (by rw [e]; rfl)
    exact ⟨b, off, e1, fun W hW => (hW.cell (p := ⟨b, off, none⟩) hb).trans (by simpa using z1)⟩
  have mx := mixed
  clear h il hdv hV hO
  cases T with
  | nil =>
    have en : nextV [] = .tuple #[.int .u64 0, .bool false] := rfl
    rw [en] at NX
    go_enter Tryd.func20, Tryd.ntmps20
    go_wp2_with fail
    refine DU.mono ?_
    rintro e w2 ⟨rfl, rfl⟩
    go_wp2_with fail
    refine DR.mono ?_
    rintro e w3 ⟨rfl, rfl⟩
    go_wp2_with fail
    refine NX.mono ?_
    rintro e w4 ⟨rfl, x4⟩
    have hb0 : Below w3.heap.size w3 w4.drew := x4.drew
    clear DU DR NX c0 c1
    simp only [List.length_nil] at *
    go_upto_region 4 with fail
    go_region_held3 (fun W => W.cell? ⟨B, 0, none⟩ = some (.int .u64 (now : Int)) ∧ W.cell? ⟨B, 1, none⟩ = some (.slice a 0 cap)) (first | with_reducible exact C0.out _ hb0 | with_reducible exact C0.out _ x7 | with_reducible exact C0.out _ x8)
      ((first
        | (go_at_call 18; (with_reducible refine Calls.mono (SAM.out _ _ _ x7 o7) ?_); rintro e w8 ⟨rfl, d8⟩; have x8 : Below w3.heap.size w3 w8 := x7.trans (d8.mono x7.size))
        | (go_at_call 30; (with_reducible refine Calls.mono (ALL.out _ hb0) ?_); rintro e w7 ⟨a7, b7, rfl, o7, d7⟩; have x7 : Below w3.heap.size w3 w7 := hb0.trans (d7.mono hb0.size))
        | (go_at_call 12; (with_reducible refine Calls.mono (LEN.out _ hb0) ?_); rintro e w6 ⟨rfl, rfl⟩)
        | (go_at_call 13; (with_reducible refine Calls.mono (NOW.out _ hb0) ?_); rintro e w5 ⟨rfl, rfl⟩)))
    go_wp2_with fail
    go_ret
    exact ⟨rfl, x8⟩
  | cons x T' =>
    have en : nextV (x :: T') = .tuple #[.int .u64 x.1, .bool true] := rfl
    rw [en] at NX
    obtain ⟨b, off, ha, hcx⟩ := HD.out x T' rfl
    subst ha
    have HC : Aside (∀ W, Below w.heap.size w W → W.cell? ⟨b, off, none⟩ = some (.int .u64 x.1)) := hcx
    obtain ⟨n, hn⟩ : ∃ n, (x :: T').length = n := ⟨_, rfl⟩
    have hp : (0 : Int) < (n : Int) := by rw [← hn, List.length_cons]; omega
    have hpd : decide ((0 : Int) < (n : Int)) = true := decide_eq_true hp
    have hp2 : 0 < n := by omega
    simp only [hn] at ALL LEN C0 SAM
    clear HD hcx hn hTl en IL c0 c1
    go_enter Tryd.func20, Tryd.ntmps20
    go_wp2_with fail
    refine DU.mono ?_
    rintro e w2 ⟨rfl, rfl⟩
    go_wp2_with fail
    refine DR.mono ?_
    rintro e w3 ⟨rfl, rfl⟩
    go_wp2_with fail
    refine NX.mono ?_
    rintro e w4 ⟨rfl, x4⟩
    have hb0 : Below w3.heap.size w3 w4.drew := x4.drew
    clear DU DR NX
    go_upto_region 4 with fail
    go_region_held3 (fun W => W.cell? ⟨B, 0, none⟩ = some (.int .u64 (now : Int)) ∧ W.cell? ⟨B, 1, none⟩ = some (.slice (some ⟨b, off, none⟩) n cap)) (first | with_reducible exact C0.out _ hb0 | with_reducible exact C0.out _ x7 | with_reducible exact C0.out _ x8)
      ((first
        | (go_at_call 18; (with_reducible refine Calls.mono (SAM.out _ _ _ x7 o7) ?_); rintro e w8 ⟨rfl, d8⟩; have x8 : Below w3.heap.size w3 w8 := x7.trans (d8.mono x7.size))
        | (go_at_call 30; (with_reducible refine Calls.mono (ALL.out _ hb0) ?_); rintro e w7 ⟨a7, b7, rfl, o7, d7⟩; have x7 : Below w3.heap.size w3 w7 := hb0.trans (d7.mono hb0.size))
        | (go_at_call 12; (with_reducible refine Calls.mono (LEN.out _ hb0) ?_); rintro e w6 ⟨rfl, rfl⟩)
        | (go_at_call 13; (with_reducible refine Calls.mono (NOW.out _ hb0) ?_); rintro e w5 ⟨rfl, rfl⟩)))
    have e8 := (C0.out _ x8).2
    have h8 := HC.out _ x8
    clear C0 HC ALL SAM LEN NOW
    go_wp2_with fail
    go_ret
    exact ⟨rfl, x8⟩
end Go.Proofs.YtbopobgnmkhabaaDoor
