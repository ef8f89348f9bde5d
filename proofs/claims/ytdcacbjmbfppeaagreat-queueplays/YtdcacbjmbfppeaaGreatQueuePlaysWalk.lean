/- The walk of 'QueuePlays'. -/
import Derived.Test.YtdcacbjmbfppeaaGreatQR8
import Derived.Test.YtdcacbjmbfppeaaGreatQPq
import Derived.Test.YtdcacbjmbfppeaaGreatQIn
import Derived.Test.YtdcacbjmbfppeaaGreatMask
import Derived.Deep.LoopGhost
import Derived.Deep.CutBlock
import Derived.Deep.DeepCutAuto
import Derived.Deep.RegionHeld3
namespace Go.Proofs.YtdcacbjmbfppeaaGreat
open Go.RowKit Go.Lib Go.Sort
set_option linter.unusedVariables false

section

variable {T K : Nat} {s : QSt} {r : RSt}
/-- Both stand alike; no ID is twice, none is above i, and there are at most i. -/
structure PlI (T K i : Nat) (s : QSt) (r : RSt) : Prop where
  ok : QOk K T i s
  tw : Twin T s r
  nd : (ids (allV T r.sl r.ow r.sh)).Nodup
  up : ∀ x ∈ ids (allV T r.sl r.ow r.sh), x ≤ (i : Int)
  few : (allV T r.sl r.ow r.sh).length ≤ i
theorem view_all {sl ow sl' ow' : Nat → List Ent} {sh sh' : List Ent} (h : View T s sl ow sh) (h' : View T s sl' ow' sh') : allV T sl ow sh = allV T sl' ow' sh' := by rw [← h.flatten, ← h'.flatten]
theorem pl_of {i : Nat} {sl ow : Nat → List Ent} {sh d : List Ent} (ok : QOk K T i s) (tw : Twin T s r) (v : View T s sl ow sh) (p : (allV T sl ow sh).Perm d) (nd : (ids d).Nodup) (up : ∀ x ∈ ids d, x ≤ (i : Int)) (few : d.length ≤ i) : PlI T K i s r := by
  have e := view_all v tw
  rw [e] at p
  have q : (ids (allV T r.sl r.ow r.sh)).Perm (ids d) := p.map _
  exact ⟨ok, tw, q.nodup_iff.2 nd, fun x hx => up x (q.mem_iff.1 hx), by rw [p.length_eq]; exact few⟩
theorem pl_new (T K : Nat) (r : RSt) (h : Twin T newQ r) : PlI T K 0 newQ r := by
  refine pl_of (newQ_ok K T) h (View.new T) (List.Perm.refl _) ?_ ?_ ?_
  all_goals
    have e : allV T (fun _ => []) (fun _ => []) [] = [] := by unfold allV; rw [flatN_nil]; rfl
    rw [e]
    simp [ids]
theorem pl_put {i t : Nat} (h : PlI T K i s r) (ht : t < T) (hK : K ≤ 16) (z : Int) : PlI T K (i + 1) (putQ K s t (z, (i : Int) + 1)) (rPut K r t (z, (i : Int) + 1)) := by
  obtain ⟨sl', ow', sh', v', p⟩ := View.putAny (K := K) h.tw ht (z, (i : Int) + 1)
  refine pl_of (put_ok h.ok ht hK _) (twin_put h.tw ht _) v' p ?_ ?_ ?_
  · refine List.nodup_cons.2 ⟨fun hx => ?_, h.nd⟩
    have := h.up _ hx
    simp only at this
    omega
  · intro x hx
    rcases List.mem_cons.1 (show x ∈ ((i : Int) + 1) :: ids (allV T r.sl r.ow r.sh) from hx) with e | e
    · omega
    · have := h.up _ e; omega
  · rw [List.length_cons]; have := h.few; omega
theorem pl_settle {i t : Nat} (h : PlI T K i s r) (ht : t < T) (hK : K ≤ 16) : PlI T K (i + 1) (settleQ K s t) (rSettle K r t) := by
  obtain ⟨sl', ow', sh', v', _, p⟩ := View.settle (K := K) h.tw ht
  exact pl_of (settle_ok h.ok ht hK) (twin_settle h.tw ht) v' p h.nd (fun x hx => by have := h.up x hx; omega) (by have := h.few; omega)
theorem pl_take {i : Nat} (h : PlI T K i s r) (id : Int) : PlI T K (i + 1) (takeQ s T id) (rTake r T id) := by
  obtain ⟨_, sl', ow', sh', v', e⟩ := View.takeAny h.tw h.nd id
  refine pl_of (take_ok h.ok id) (twin_take h.tw h.nd id).2 v' (by rw [e]) ?_ ?_ ?_
  · unfold ids outL
    exact List.Pairwise.sublist (List.Sublist.map _ List.filter_sublist) h.nd
  · intro x hx
    have := h.up x ((ids_out _ _ _).1 hx).1
    omega
  · have h1 : (outL id (allV T r.sl r.ow r.sh)).length ≤ _ := List.length_filter_le _ _
    have := h.few
    omega
theorem pl_mono {i : Nat} (h : PlI T K i s r) : PlI T K (i + 1) s r := ⟨h.ok.mono (by omega), h.tw, h.nd, fun x hx => by have := h.up x hx; omega, by have := h.few; omega⟩
theorem pl_len {i : Nat} (h : PlI T K i s r) : (listsQ s T).flatten.length ≤ i := by rw [View.flatten h.tw]; exact h.few
theorem pl_own {i t : Nat} (h : PlI T K i s r) (ht : t < T) : (r.ow t).length ≤ K := by rw [← View.len h.tw ht]; exact h.ok.len t ht
theorem pl_sh {i : Nat} (h : PlI T K i s r) : r.sh.length ≤ i := by
  have := h.few
  unfold allV at this
  rw [List.length_append, List.length_append] at this
  omega
theorem twin_new (T : Nat) (r : RSt) (hg : r.g = fun _ => noS) (ho : r.ow = fun _ => []) (hs : r.sh = []) : Twin T newQ r := by
  unfold Twin RSt.sl
  rw [hg, ho, hs]
  exact View.new T
end

theorem mq_opP : ¬ MQ 32 ∧ ¬ RTy 32 ∧ ¬ RTy 34 := by unfold MQ RTy; decide
/-- Boxes of calls and of entries stay. -/
def Kp (w w' : World) : Prop := ∀ (k : Nat) (cs : Array Value) (U : TypeId) (fr : Nat × Nat), (U = 32 ∨ U = 34) → w.heap[k]? = some (.cells cs U fr) → w'.heap[k]? = some (.cells cs U fr)
theorem Kp.trans {u v w : World} (h : Kp u v) (g : Kp v w) : Kp u w := fun k cs U fr hU hk => g k cs U fr hU (h k cs U fr hU hk)
theorem Kp.of_below {w w' : World} (h : Below w.heap.size w w') : Kp w w' := fun k cs U fr _ hk => (h.block k (lt_of_block hk)).trans hk
theorem Kp.of_went {b : Nat} {w w' : World} (h : Went b w w') : Kp w w' := fun k cs U fr hU hk => h.block hk (by rcases hU with rfl | rfl <;> first | exact mq_opP.1 | exact mq_ent)
theorem Kp.of_go {b : Nat} {w w' : World} (h : RGo b w w') : Kp w w' := fun k cs U fr hU hk => h.kept k cs U fr hk (by rcases hU with rfl | rfl <;> first | exact mq_opP.2.1 | exact mq_opP.2.2)
/-- What stands there behind i rounds. -/
structure PlM (w : World) (S S2 : Nat) (A : QAd) (T K B SR LR i : Nat) (wx : World) : Prop where
  que : ∃ s r, Que wx S A T K s ∧ RQ wx S2 B SR LR T K r.g r.ow r.sh ∧ PlI T K i s r
  low : Below S w wx
  siz : S ≤ S2 ∧ S2 ≤ wx.heap.size
theorem PlM.on {w : World} {S S2 : Nat} {A : QAd} {T K B SR LR i : Nat} {wx wy : World} (h : PlM w S S2 A T K B SR LR i wx) (hb : Below wx.heap.size wx wy) : PlM w S S2 A T K B SR LR i wy := by
  obtain ⟨s, r, q, h2, k⟩ := h.que
  obtain ⟨z1, z2⟩ := h.siz
  exact ⟨⟨s, r, q.below hb, h2.below hb, k⟩, h.low.trans (hb.mono (by omega)), z1, Nat.le_trans z2 hb.size⟩
theorem PlM.mono {w : World} {S S2 : Nat} {A : QAd} {T K B SR LR i : Nat} {wx : World} (h : PlM w S S2 A T K B SR LR i wx) : PlM w S S2 A T K B SR LR (i + 1) wx := by
  obtain ⟨s, r, q, h2, k⟩ := h.que
  exact ⟨⟨s, r, q, h2, pl_mono k⟩, h.low, h.siz⟩
section
variable {w : World} {S S2 : Nat} {A : QAd} {T K B SR LR i : Nat} {u : World}
theorem PlM.put (h : PlM w S S2 A T K B SR LR i u) (hi : i < 60) (h1 : 1 ≤ T) (h8 : T ≤ 8) (hK : K ≤ 16) (tz ky : Int) : ∃ (f : Bool) (z : Int), z = (if f then 0 else 1) ∧
    Calls Tryz.prog 8 #[ptr B, .int .i64 tz, .agg #[.int .u64 ky, .int .i64 ((i : Int) + 1)]] u fun e w' => e = .returned (.bool f) ∧ Kp u w' ∧
      Calls Tryz.prog 9 #[ptr A.B, .int .i64 tz, .agg #[.int .u64 ky, .int .i64 ((i : Int) + 1)]] w' fun e w'' => e = .returned (.int .i64 z) ∧ Kp w' w'' ∧ PlM w S S2 A T K B SR LR (i + 1) w'' := by
  obtain ⟨s, r, q, h2, k⟩ := h.que
  obtain ⟨z1, z2⟩ := h.siz
  have hsh := pl_sh k
  by_cases c : 0 ≤ tz ∧ tz < (T : Int)
  · obtain ⟨t, rfl⟩ : ∃ t : Nat, tz = (t : Int) := ⟨tz.toNat, by omega⟩
    have tT : t < T := by omega
    have how := pl_own k tT
    refine ⟨true, 0, rfl, (rput_in u S2 B SR LR T K r t ky ((i : Int) + 1) h2 h8 tT z2 (by omega) (by omega)).mono ?_⟩
    rintro e w1 ⟨rfl, h3, g⟩
    have q1 := g.que _ _ _ _ _ q
    have zz : S2 ≤ w1.heap.size := g.size z2
    refine ⟨rfl, Kp.of_go g, (put_in w1 S A T K i s t ky ((i : Int) + 1) q1 k.ok (by omega) hK tT (by omega)).mono ?_⟩
    rintro e w2 ⟨rfl, q2, g2⟩
    exact ⟨rfl, Kp.of_went g2, ⟨⟨_, _, q2, h3.went g2, pl_put k tT hK ky⟩, (h.low.trans (g.low.mono z1)).trans g2.low, z1, Nat.le_trans zz g2.size⟩⟩
  · have c' : tz < 0 ∨ (T : Int) ≤ tz := by omega
    refine ⟨false, 1, rfl, (rput_out u S2 B SR LR T K r tz ky ((i : Int) + 1) h2 h8 c').mono ?_⟩
    rintro e w1 ⟨rfl, g⟩
    refine ⟨rfl, Kp.of_below g, (put_out w1 S A T K s tz ky ((i : Int) + 1) (q.below g) c').mono ?_⟩
    rintro e w2 ⟨rfl, g2⟩
    exact ⟨rfl, Kp.of_below g2, ((h.on g).on g2).mono⟩
theorem PlM.settle (h : PlM w S S2 A T K B SR LR i u) (hi : i < 60) (h1 : 1 ≤ T) (h8 : T ≤ 8) (hK : K ≤ 16) (tz : Int) : ∃ (f : Bool),
    Calls Tryz.prog 10 #[ptr A.B, .int .i64 tz] u fun e w' => e = .returned (.bool f) ∧ Kp u w' ∧
      Calls Tryz.prog 11 #[ptr B, .int .i64 tz] w' fun e w'' => e = .returned (.bool f) ∧ Kp w' w'' ∧ PlM w S S2 A T K B SR LR (i + 1) w'' := by
  obtain ⟨s, r, q, h2, k⟩ := h.que
  obtain ⟨z1, z2⟩ := h.siz
  have hsh := pl_sh k
  by_cases c : 0 ≤ tz ∧ tz < (T : Int)
  · obtain ⟨t, rfl⟩ : ∃ t : Nat, tz = (t : Int) := ⟨tz.toNat, by omega⟩
    have tT : t < T := by omega
    have how := pl_own k tT
    have ef : (s.g t).f = (r.g t).1 := by
      have e := k.tw.sl t tT
      unfold RSt.sl rsL slotL at e
      revert e
      cases (s.g t).f <;> cases (r.g t).1 <;> simp
    refine ⟨(r.g t).1, (settle_in u S A T K i s t _ q k.ok (by omega) hK tT ef (by omega)).mono ?_⟩
    rintro e w1 ⟨rfl, q1, g⟩
    have zz : S2 ≤ w1.heap.size := Nat.le_trans z2 g.size
    refine ⟨rfl, Kp.of_went g, (rsettle_in w1 S2 B SR LR T K r t _ (h2.went g) h8 tT rfl zz (by omega) (by omega)).mono ?_⟩
    rintro e w2 ⟨rfl, h3, g2⟩
    exact ⟨rfl, Kp.of_go g2, ⟨⟨_, _, g2.que _ _ _ _ _ q1, h3, pl_settle k tT hK⟩, (h.low.trans g.low).trans (g2.low.mono z1), z1, g2.size zz⟩⟩
  · have c' : tz < 0 ∨ (T : Int) ≤ tz := by omega
    refine ⟨false, (settle_out u S A T K s tz q c').mono ?_⟩
    rintro e w1 ⟨rfl, g⟩
    refine ⟨rfl, Kp.of_below g, (rsettle_out w1 S2 B SR LR T K r tz (h2.below g) h8 c').mono ?_⟩
    rintro e w2 ⟨rfl, rfl⟩
    exact ⟨rfl, Kp.of_below (Below.refl _ _), (h.on g).mono⟩
theorem PlM.where2 (h : PlM w S S2 A T K B SR LR i u) (hi : i < 60) (h1 : 1 ≤ T) (h8 : T ≤ 8) (hK : K ≤ 16) (id : Int) : ∃ (x y : Int),
    (Calls Tryz.prog 14 #[ptr A.B, .int .i64 id] u fun e w' => e = .returned (.tuple #[.int .i64 x, .int .i64 y]) ∧ Below u.heap.size u w') ∧
    ∀ W, Below u.heap.size u W → Calls Tryz.prog 15 #[ptr B, .int .i64 id] W fun e w' => e = .returned (.tuple #[.int .i64 x, .int .i64 y]) ∧ w' = W := by
  obtain ⟨s, r, q, h2, k⟩ := h.que
  refine ⟨(whereQ s T id).1, (whereQ s T id).2, where_any u S A T K i s id q k.ok (by omega) hK h1 h8, fun W hW => ?_⟩
  rw [twin_where k.tw id]
  exact rwhere_any W S2 B SR LR T K r.g r.ow r.sh id (h2.below hW) h8
theorem PlM.take (h : PlM w S S2 A T K B SR LR i u) (hi : i < 60) (h1 : 1 ≤ T) (h8 : T ≤ 8) (hK : K ≤ 16) (id : Int) : ∃ (f : Bool),
    Calls Tryz.prog 16 #[ptr A.B, .int .i64 id] u fun e w' => e = .returned (.bool f) ∧ Kp u w' ∧
      Calls Tryz.prog 17 #[ptr B, .int .i64 id] w' fun e w'' => e = .returned (.bool f) ∧ Kp w' w'' ∧ PlM w S S2 A T K B SR LR (i + 1) w'' := by
  obtain ⟨s, r, q, h2, k⟩ := h.que
  obtain ⟨z1, z2⟩ := h.siz
  have hsh := pl_sh k
  have how : ∀ t, t < T → (r.ow t).length ≤ 1000 := fun t ht => by have := pl_own k ht; omega
  refine ⟨(firstHit s T id).isSome, (take_any u S A T K i s id q k.ok (by omega) hK h1 h8 (by omega)).mono ?_⟩
  rintro e w1 ⟨rfl, q1, g⟩
  have zz : S2 ≤ w1.heap.size := Nat.le_trans z2 g.size
  rw [(twin_take k.tw k.nd id).1]
  refine ⟨rfl, Kp.of_went g, (rtake_any w1 S2 B SR LR T K r id (h2.went g) h8 zz how (by omega)).mono ?_⟩
  rintro e w2 ⟨rfl, h3, g2⟩
  exact ⟨rfl, Kp.of_go g2, ⟨⟨_, _, g2.que _ _ _ _ _ q1, h3, pl_take k id⟩, (h.low.trans g.low).trans (g2.low.mono z1), z1, g2.size zz⟩⟩
theorem PlM.relax (h : PlM w S S2 A T K B SR LR i u) (hi : i ≤ 60) (h1 : 1 ≤ T) (h8 : T ≤ 8) (hK : K ≤ 16) (tz : Int) (dr : Nat) (hdr : dr < 18446744073709551616) : ∃ (x y : Int) (f : Bool),
    (Calls Tryz.prog 18 #[ptr A.B, .int .i64 tz, .int .u64 dr] u fun e w' => e = .returned (.tuple #[.agg #[.int .u64 x, .int .i64 y], .bool f]) ∧ Below u.heap.size u w') ∧
    ∀ W, Below u.heap.size u W → Calls Tryz.prog 12 #[ptr B, .int .i64 tz, .int .u64 dr] W fun e w' => e = .returned (.tuple #[.agg #[.int .u64 x, .int .i64 y], .bool f]) ∧ Below W.heap.size W w' := by
  obtain ⟨s, r, q, h2, k⟩ := h.que
  have hsh := pl_sh k
  have how : ∀ t, t < T → (r.ow t).length ≤ 1000 := fun t ht => by have := pl_own k ht; omega
  by_cases c : 0 ≤ tz ∧ tz < (T : Int)
  · obtain ⟨t, rfl⟩ : ∃ t : Nat, tz = (t : Int) := ⟨tz.toNat, by omega⟩
    have tT : t < T := by omega
    have a := relaxed_in u S A T K i s t dr q k.ok (by omega) hK tT h8 hdr
    rw [twin_relax k.tw tT dr] at a
    exact ⟨_, _, _, a, fun W hW => rrelaxed_in W S2 B SR LR T K r t dr (h2.below hW) h8 tT hK hdr how (by omega)⟩
  · have c' : tz < 0 ∨ (T : Int) ≤ tz := by omega
    exact ⟨0, 0, false, relaxed_out u S A T K s tz dr q c', fun W hW => rrelaxed_out W S2 B SR LR T K r tz dr (h2.below hW) h8 c'⟩
theorem PlM.least (h : PlM w S S2 A T K B SR LR i u) (hi : i ≤ 60) (h8 : T ≤ 8) : ∃ (x y : Int) (f : Bool),
    Calls Tryz.prog 13 #[ptr B] u fun e w' => e = .returned (.tuple #[.agg #[.int .u64 x, .int .i64 y], .bool f]) ∧ Below u.heap.size u w' := by
  obtain ⟨s, r, q, h2, k⟩ := h.que
  have e : rAllN r.g r.ow r.sh T T ≤ 10000 := by
    rw [← rAllK_len, ← twin_all k.tw, sortE_len]
    have := pl_len k
    omega
  exact ⟨_, _, _, rleast_any u S2 B SR LR T K r.g r.ow r.sh h2 h8 e⟩
theorem PlM.same (h : PlM w S S2 A T K B SR LR i u) (hi : i ≤ 60) (h1 : 1 ≤ T) (h8 : T ≤ 8) (hK : K ≤ 16) :
    Calls Tryz.prog 19 #[ptr A.B, ptr B] u fun e w' => e = .returned (.bool true) ∧ Below u.heap.size u w' := by
  obtain ⟨s, r, q, h2, k⟩ := h.que
  exact qsame_any u S S2 A T K i B SR LR s r q k.ok (by omega) hK h1 h8 h2 k.tw (by have := pl_len k; omega)
end
theorem PlM.new {w w1 w2 : World} {S : Nat} {A : QAd} {T K B SR LR : Nat} (q : Que w1 S A T K newQ) (b1 : Below S w w1) (hS : S ≤ w1.heap.size) (h : RQ w2 w1.heap.size B SR LR T K noR.g noR.ow noR.sh) (b2 : Below w1.heap.size w1 w2) : PlM w S w1.heap.size A T K B SR LR 0 w2 :=
  ⟨⟨newQ, noR, q.below b2, h, pl_new T K noR (twin_new T noR rfl rfl rfl)⟩, b1.trans (b2.mono hS), hS, b2.size⟩
theorem box5P {w : World} {O : Nat} {a b c d e : Value} {U : TypeId} (h : w.heap[O]? = some (.cells #[a, b, c, d, e] U (0, 0))) :
    w.cell? ⟨O, 0, none⟩ = some a ∧ w.cell? ⟨O, 1, none⟩ = some b ∧ w.cell? ⟨O, 2, none⟩ = some c ∧ w.cell? ⟨O, 3, none⟩ = some d ∧ w.cell? ⟨O, 4, none⟩ = some e := by
  refine ⟨?_, ?_, ?_, ?_, ?_⟩ <;> (rw [cell_of_row _ _ _ _ _ _ h]; rfl)
theorem box2P {w : World} {O : Nat} {a b : Value} {U : TypeId} (h : w.heap[O]? = some (.cells #[a, b] U (0, 0))) :
    w.cell? ⟨O, 0, none⟩ = some a ∧ w.cell? ⟨O, 1, none⟩ = some b := by
  refine ⟨?_, ?_⟩ <;> (rw [cell_of_row _ _ _ _ _ _ h]; rfl)
set_option maxRecDepth 100000 in
/-- Where none may be. -/
theorem queuePlays_out (a b : Int) (sl : Value) (w : World) (h : a < 1 ∨ 8 < a ∨ b < 0 ∨ 16 < b) :
    Calls Tryz.prog 3 #[.int .i64 a, .int .i64 b, sl] w fun r w' => r = .returned (.bool true) ∧ Below w.heap.size w w' := by
  obtain ⟨S, hS⟩ : ∃ S, w.heap.size = S := ⟨_, rfl⟩
  have nw : Calls Tryz.prog 5 #[.int .i64 a, .int .i64 b] w fun r w' => r = .returned (.tuple #[.pointer none, .int .i64 1]) ∧ Below w.heap.size w w' := by
    by_cases c : a < 1 ∨ 8 < a
    · exact (qnew_out1 a b w c).mono (by rintro r w' ⟨rfl, rfl⟩; exact ⟨rfl, Below.refl _ _⟩)
    · obtain ⟨n, rfl⟩ : ∃ n : Nat, a = (n : Int) := ⟨a.toNat, by omega⟩
      exact qnew_out2 n b w (by omega) (by omega) (by omega)
  have rn := fun w => rnew_out w a b h
  have aw := fun w => qawake_any w
  rw [hS] at nw
  clear h
  go_enter Tryz.func3, Tryz.ntmps3
  go_wp2_with fail
  refine nw.mono ?_
  rintro r w1 ⟨rfl, b1⟩
  clear nw
  go_wp2_with fail
  refine (rn _).mono ?_
  rintro r w2 ⟨rfl, rfl⟩
  clear rn
  go_wp2_with fail
  refine (aw _).mono ?_
  rintro r w3 ⟨rfl, b3⟩
  have D3 : Aside (Below S w w3) := b1.trans (b3.mono (by have := b1.size; omega))
  clear aw b1 b3
  go_wp2
  go_ret
  exact ⟨rfl, by first | exact D3.out | (rw [hS]; exact D3.out)⟩

set_option maxHeartbeats 8000000 in
set_option maxRecDepth 100000 in
theorem queuePlays_walk (a b : Int) (a2 : Option Addr) (len2 cap2 : Nat) (Z : Nat → Nat → Int) (w : World) (wa : (Lit.int .i64 a).wf = true) (wb : (Lit.int .i64 b).wf = true) (h2 : IsRecs opKs w a2 len2 Z) :
    Calls Tryz.prog 3 #[.int .i64 a, .int .i64 b, .slice a2 len2 cap2] w fun r w' => r = .returned (.bool true) ∧ Below w.heap.size w w' := by
  by_cases hout : a < 1 ∨ 8 < a ∨ b < 0 ∨ 16 < b
  · exact queuePlays_out a b _ w hout
  obtain ⟨T, rfl⟩ : ∃ n : Nat, a = (n : Int) := ⟨a.toNat, by omega⟩
  obtain ⟨K, rfl⟩ : ∃ n : Nat, b = (n : Int) := ⟨b.toNat, by omega⟩
  obtain ⟨S, hS⟩ : ∃ S, w.heap.size = S := ⟨_, rfl⟩
  have h1 : 1 ≤ T := by omega
  have h8 : T ≤ 8 := by omega
  have hK : K ≤ 16 := by omega
  have hl2 := h2.len_le
  have H2 : Aside (IsRecs opKs w a2 len2 Z) := h2
  have nw := qnew_in T K w h1 h8 hK
  have HS : Hid _ := hS
  clear wa wb h2 hout
  go_enter Tryz.func3, Tryz.ntmps3
  go_wp2_with fail
  refine nw.mono ?_
  rintro r w1 ⟨A, rfl, q1, b1⟩
  rw [hS] at q1 b1
  obtain ⟨S2, hS2⟩ : ∃ S, w1.heap.size = S := ⟨_, rfl⟩
  have SS : S ≤ S2 := by rw [← hS2]; have := b1.size; omega
  have rn := rnew_in w1 T K h1 h8 hK
  have Q1 : Aside (Que w1 S A T K newQ) := q1
  have B1 : Aside (Below S w w1) := b1
  clear nw q1 b1 hS
  go_wp2_with fail
  refine rn.mono ?_
  rintro r w2 ⟨B, SR, LR, rfl, r2, b2⟩
  have K0 : Aside (PlM w S S2 A T K B SR LR 0 w2) := by
    have := PlM.new Q1.out B1.out (by omega) r2 b2
    rw [hS2] at this
    exact this
  clear rn r2 b2 Q1 B1 hS2
  go_wp2_with fail
  go_loopg [10] 61 (fun kx s10 wx => ∃ (i : Nat), s10 = .int .i64 i ∧ i ≤ 60 ∧ 61 - i ≤ kx ∧ Aside (PlM w S S2 A T K B SR LR i wx))
  case atStart => exact ⟨0, rfl, by omega, by omega, K0⟩
  case round =>
    clear K0
    obtain ⟨i, rfl, hi, hix, P⟩ := hrel
    obtain ⟨wo, hwo⟩ : ∃ x : World, x = wr := ⟨_, rfl⟩
    subst hwo
    have Sw : S ≤ wo.heap.size := by have := P.out.siz; omega
    by_cases hlt : i < len2 ∧ i < 60
    · obtain ⟨hl1, hl3⟩ := hlt
      have hz1 : (i : Int) < (len2 : Int) := by omega
      have hz2 : (i : Int) < 60 := by omega
      have hz3 : decide ((i : Int) < (len2 : Int)) = true := decide_eq_true hz1
      obtain ⟨dw, hdw, dw1⟩ : ∃ d : Nat, Z i 4 = (d : Int) ∧ d < 18446744073709551616 := by
        obtain ⟨_, _, _, _, hc⟩ := H2.out.elem i hl1
        have wd := (hc 4 .u64 rfl).2
        simp [Lit.wf, IntKind.min, IntKind.max, IntKind.bits, IntKind.signed] at wd
        exact ⟨(Z i 4).toNat, by omega, by omega⟩
      obtain ⟨b, off, ha, hb, c0, c1, c2, c3, c4⟩ := H2.out.five hl1
      rw [HS.out] at hb
      have c0' := (P.out.low.cell (p := ⟨b, off + i * 5, none⟩) hb).trans c0
      have c1' := (P.out.low.cell (p := ⟨b, off + i * 5 + 1, none⟩) hb).trans c1
      have c2' := (P.out.low.cell (p := ⟨b, off + i * 5 + 2, none⟩) hb).trans c2
      have c3' := (P.out.low.cell (p := ⟨b, off + i * 5 + 3, none⟩) hb).trans c3
      have c4' := (P.out.low.cell (p := ⟨b, off + i * 5 + 4, none⟩) hb).trans c4
      obtain ⟨kind, hkind⟩ : ∃ z, Z i 0 = z := ⟨_, rfl⟩
      obtain ⟨tz, htz⟩ : ∃ z, Z i 1 = z := ⟨_, rfl⟩
      obtain ⟨iz, hiz⟩ : ∃ z, Z i 2 = z := ⟨_, rfl⟩
      obtain ⟨ky, hky⟩ : ∃ z, Z i 3 = z := ⟨_, rfl⟩
      rw [hkind] at c0'
      rw [htz] at c1'
      rw [hiz] at c2'
      rw [hky] at c3'
      rw [hdw] at c4'
      subst ha
      clear c0 c1 c2 c3 c4 hb hkind htz hiz hky hdw
      obtain ⟨O, hO⟩ : ∃ O, wo.heap.size = O := ⟨_, rfl⟩
      obtain ⟨u, hu⟩ : ∃ u, wo.alloc (.cells #[.int .i64 kind, .int .i64 tz, .int .i64 iz, .int .u64 ky, .int .u64 dw] 32) = u := ⟨_, rfl⟩
      have bu : Below wo.heap.size wo u := by rw [← hu]; exact (Below.refl _ _).alloc (Nat.le_refl _) _
      have XO : Aside (u.heap[O]? = some (.cells #[.int .i64 kind, .int .i64 tz, .int .i64 iz, .int .u64 ky, .int .u64 dw] 32 (0, 0))) := by rw [← hu, ← hO]; exact heap_alloc_new wo _
      have PU : Aside (PlM w S S2 A T K B SR LR i u) := P.out.on bu
      have HU : Hid _ := hu
      clear hu bu P
      go_upto_block 2 with fail
      rw [HU.out]
      try rw [hO]
      clear c0' c1' c2' c3' c4' hO HU
      obtain ⟨y0, y1, y2, y3, y4⟩ := box5P XO.out
      have i1w : IntKind.i64.wrap ((i : Int) + 1) = (i : Int) + 1 := by rw [IntKind.wrap_i64]; omega
      go_cut [12, 13, 14, 15, 16, 17, 18, 19, 20, 21, 22] (fun s12 s13 s14 s15 s16 s17 s18 s19 s20 s21 s22 wx => PlM w S S2 A T K B SR LR (i + 1) wx ∧ wx.heap[O]? = some (.cells #[.int .i64 kind, .int .i64 tz, .int .i64 iz, .int .u64 ky, .int .u64 dw] 32 (0, 0)))
      case first =>
        by_cases k0 : kind = 0
        · subst k0
          as_aux_lemma =>
            obtain ⟨X, hX⟩ : ∃ X, u.heap.size = X := ⟨_, rfl⟩
            obtain ⟨v, hv⟩ : ∃ v, u.alloc (.cells #[.int .u64 ky, .int .i64 ((i : Int) + 1)] 34) = v := ⟨_, rfl⟩
            have bv : Below u.heap.size u v := by rw [← hv]; exact (Below.refl _ _).alloc (Nat.le_refl _) _
            have xv : v.heap[X]? = some (.cells #[.int .u64 ky, .int .i64 ((i : Int) + 1)] 34 (0, 0)) := by rw [← hv, ← hX]; exact heap_alloc_new u _
            have ov : v.heap[O]? = some (.cells #[.int .i64 0, .int .i64 tz, .int .i64 iz, .int .u64 ky, .int .u64 dw] 32 (0, 0)) := (bv.block O (lt_of_block XO.out)).trans XO.out
            obtain ⟨f, z, hz, pc⟩ := (PU.out.on bv).put hl3 h1 h8 hK tz ky
            have KC : Aside (∀ W : World, Kp v W → W.heap[O]? = some (.cells #[.int .i64 0, .int .i64 tz, .int .i64 iz, .int .u64 ky, .int .u64 dw] 32 (0, 0)) ∧ W.cell? ⟨O, 1, none⟩ = some (.int .i64 tz) ∧ W.cell? ⟨X, 0, none⟩ = some (.int .u64 ky) ∧ W.cell? ⟨X, 1, none⟩ = some (.int .i64 ((i : Int) + 1))) := fun W hW =>
              ⟨hW _ _ _ _ (.inl rfl) ov, (box5P (hW _ _ _ _ (.inl rfl) ov)).2.1, box2P (hW _ _ _ _ (.inr rfl) xv)⟩
            obtain ⟨v0, v1⟩ := box2P xv
            obtain ⟨v2, v3, v4, v5, v6⟩ := box5P ov
            have HV : Hid _ := hv
            clear hv bv xv ov PU
            go_upto_region 26 with fail
            try rw [HV.out]
            try rw [hX]
            go_wp2_with fail
            refine pc.mono ?_
            rintro r_ w8 ⟨rfl, k8, c8⟩
            obtain ⟨_, t0, t1, t2⟩ := KC.out _ k8
            have K8 : Aside (Kp v w8) := k8
            clear pc k8 v0 v1 v2 v3 v4 v5 v6 y0 y1 y2 y3 y4
            cases f with
            | true =>
              simp only [if_true] at hz
              subst hz
              go_wp2_with fail
              refine c8.mono ?_
              rintro r_ w9 ⟨rfl, k9, M⟩
              have M9 : Aside (PlM w S S2 A T K B SR LR (i + 1) w9 ∧ w9.heap[O]? = some (.cells #[.int .i64 0, .int .i64 tz, .int .i64 iz, .int .u64 ky, .int .u64 dw] 32 (0, 0))) := ⟨M, (KC.out _ (K8.out.trans k9)).1⟩
              clear c8 k9 M t0 t1 t2
              go_wp2_with fail
              go_meet
              exact M9.out
            | false =>
              simp only [Bool.false_eq_true, if_false] at hz
              subst hz
              go_wp2_with fail
              refine c8.mono ?_
              rintro r_ w9 ⟨rfl, k9, M⟩
              have M9 : Aside (PlM w S S2 A T K B SR LR (i + 1) w9 ∧ w9.heap[O]? = some (.cells #[.int .i64 0, .int .i64 tz, .int .i64 iz, .int .u64 ky, .int .u64 dw] 32 (0, 0))) := ⟨M, (KC.out _ (K8.out.trans k9)).1⟩
              clear c8 k9 M t0 t1 t2
              go_wp2_with fail
              go_meet
              exact M9.out
        by_cases k1 : kind = 1
        · subst k1
          as_aux_lemma =>
            have bd : Below u.heap.size u u.drew := (Below.refl _ _).drew
            obtain ⟨f, st0⟩ := (PU.out.on bd).settle hl3 h1 h8 hK tz
            have ST : Aside (Calls Tryz.prog 10 #[ptr A.B, .int .i64 tz] u.drew fun e w' => e = .returned (.bool f) ∧ Kp u.drew w' ∧ Calls Tryz.prog 11 #[ptr B, .int .i64 tz] w' fun e w'' => e = .returned (.bool f) ∧ Kp w' w'' ∧ PlM w S S2 A T K B SR LR (i + 1) w'') := st0
            have g0 : Kp u u.drew := Kp.of_below bd
            have KC : Aside (∀ W : World, Kp u W → W.heap[O]? = some (.cells #[.int .i64 1, .int .i64 tz, .int .i64 iz, .int .u64 ky, .int .u64 dw] 32 (0, 0)) ∧ W.cell? ⟨O, 1, none⟩ = some (.int .i64 tz)) := fun W hW =>
              ⟨hW _ _ _ _ (.inl rfl) XO.out, (box5P (hW _ _ _ _ (.inl rfl) XO.out)).2.1⟩
            clear st0 PU bd
            go_upto_region 31 with fail
            go_region_held3 (fun W => W.cell? ⟨O, 1, none⟩ = some (.int .i64 tz)) (first | with_reducible exact (KC.out _ g0).2 | with_reducible exact (KC.out _ g8).2 | with_reducible exact (KC.out _ g9).2)
              ((first
                | (go_at_call 11; (with_reducible refine Calls.mono c8 ?_); rintro r_ w9 ⟨rfl, k9, M⟩; have g9 := g8.trans k9)
                | (go_at_call 10; (with_reducible refine Calls.mono ST.out ?_); rintro r_ w8 ⟨rfl, k8, c8⟩; have g8 := g0.trans k8)))
            have M9 : Aside (PlM w S S2 A T K B SR LR (i + 1) w9 ∧ w9.heap[O]? = some (.cells #[.int .i64 1, .int .i64 tz, .int .i64 iz, .int .u64 ky, .int .u64 dw] 32 (0, 0))) := ⟨M, (KC.out _ g9).1⟩
            clear M g9 g8 k8 k9 c8 g0 KC ST y0 y1 y2 y3 y4
            go_wp2_with fail
            go_meet
            exact M9.out
        by_cases k2 : kind = 2
        · subst k2
          as_aux_lemma =>
            obtain ⟨x1, x2, fx, _, rx0⟩ := PU.out.relax (by omega) h1 h8 hK tz dw dw1
            have rx := rx0 u (Below.refl _ _)
            clear rx0
            go_wp2_with fail
            refine rx.mono ?_
            rintro r_ w4 ⟨rfl, d4⟩
            obtain ⟨R, hR⟩ : ∃ R, w4.heap.size = R := ⟨_, rfl⟩
            obtain ⟨v, hv⟩ : ∃ v, w4.alloc (.cells #[.int .u64 x1, .int .i64 x2] 34) = v := ⟨_, rfl⟩
            have bv : Below u.heap.size u v := by rw [← hv]; exact d4.alloc d4.size _
            have vs : v.heap[R]? = some (.cells #[.int .u64 x1, .int .i64 x2] 34 (0, 0)) := by rw [← hv, ← hR]; exact heap_alloc_new w4 _
            obtain ⟨v0, v1⟩ := box2P vs
            have PV : Aside (PlM w S S2 A T K B SR LR i v) := PU.out.on bv
            have KV : Aside (Kp u v) := Kp.of_below bv
            obtain ⟨o0, o1, o2, o3, o4⟩ := box5P (KV.out _ _ _ _ (.inl rfl) XO.out)
            have HV : Hid _ := hv
            clear hv bv vs d4 rx y0 y1 y2 y3 y4 PU
            go_upto_region 15 with fail
            try rw [HV.out]
            obtain ⟨p, q, wq, wr2⟩ := PV.out.where2 hl3 h1 h8 hK x2
            go_wp2_with fail
            refine wq.mono ?_
            rintro r_ w5 ⟨rfl, d5⟩
            have wr3 := wr2 w5 d5
            obtain ⟨f, tk⟩ := (PV.out.on d5).take hl3 h1 h8 hK x2
            have K5 : Aside (Kp u w5) := KV.out.trans (Kp.of_below d5)
            obtain ⟨z0, z1, z2, z3, z4⟩ := box5P (K5.out _ _ _ _ (.inl rfl) XO.out)
            clear wq wr2 d5
            go_wp2_with fail
            refine wr3.mono ?_
            rintro r_ w6 ⟨rfl, rfl⟩
            clear wr3
            go_wp2_with fail
            refine tk.mono ?_
            rintro r_ w7 ⟨rfl, k7, c7⟩
            have K7 : Aside (Kp u w7) := K5.out.trans k7
            clear tk k7
            go_wp2_with fail
            refine c7.mono ?_
            rintro r_ w8 ⟨rfl, k8, M⟩
            have M9 : Aside (PlM w S S2 A T K B SR LR (i + 1) w8 ∧ w8.heap[O]? = some (.cells #[.int .i64 2, .int .i64 tz, .int .i64 iz, .int .u64 ky, .int .u64 dw] 32 (0, 0))) := ⟨M, (K7.out.trans k8) _ _ _ _ (.inl rfl) XO.out⟩
            clear c7 k8 M
            go_wp2_with fail
            go_meet
            exact M9.out
        by_cases k3 : kind = 3
        · subst k3
          as_aux_lemma =>
            obtain ⟨x1, x2, fx, rx⟩ := PU.out.least (by omega) h8
            go_wp2_with fail
            refine rx.mono ?_
            rintro r_ w4 ⟨rfl, d4⟩
            obtain ⟨R, hR⟩ : ∃ R, w4.heap.size = R := ⟨_, rfl⟩
            obtain ⟨v, hv⟩ : ∃ v, w4.alloc (.cells #[.int .u64 x1, .int .i64 x2] 34) = v := ⟨_, rfl⟩
            have bv : Below u.heap.size u v := by rw [← hv]; exact d4.alloc d4.size _
            have vs : v.heap[R]? = some (.cells #[.int .u64 x1, .int .i64 x2] 34 (0, 0)) := by rw [← hv, ← hR]; exact heap_alloc_new w4 _
            obtain ⟨v0, v1⟩ := box2P vs
            have PV : Aside (PlM w S S2 A T K B SR LR i v) := PU.out.on bv
            have KV : Aside (Kp u v) := Kp.of_below bv
            obtain ⟨o0, o1, o2, o3, o4⟩ := box5P (KV.out _ _ _ _ (.inl rfl) XO.out)
            have HV : Hid _ := hv
            clear hv bv vs d4 rx y0 y1 y2 y3 y4 PU
            go_upto_region 18 with fail
            try rw [HV.out]
            obtain ⟨p, q, wq, wr2⟩ := PV.out.where2 hl3 h1 h8 hK x2
            go_wp2_with fail
            refine wq.mono ?_
            rintro r_ w5 ⟨rfl, d5⟩
            have wr3 := wr2 w5 d5
            obtain ⟨f, tk⟩ := (PV.out.on d5).take hl3 h1 h8 hK x2
            have K5 : Aside (Kp u w5) := KV.out.trans (Kp.of_below d5)
            obtain ⟨z0, z1, z2, z3, z4⟩ := box5P (K5.out _ _ _ _ (.inl rfl) XO.out)
            clear wq wr2 d5
            go_wp2_with fail
            refine wr3.mono ?_
            rintro r_ w6 ⟨rfl, rfl⟩
            clear wr3
            go_wp2_with fail
            refine tk.mono ?_
            rintro r_ w7 ⟨rfl, k7, c7⟩
            have K7 : Aside (Kp u w7) := K5.out.trans k7
            clear tk k7
            go_wp2_with fail
            refine c7.mono ?_
            rintro r_ w8 ⟨rfl, k8, M⟩
            have M9 : Aside (PlM w S S2 A T K B SR LR (i + 1) w8 ∧ w8.heap[O]? = some (.cells #[.int .i64 3, .int .i64 tz, .int .i64 iz, .int .u64 ky, .int .u64 dw] 32 (0, 0))) := ⟨M, (K7.out.trans k8) _ _ _ _ (.inl rfl) XO.out⟩
            clear c7 k8 M
            go_wp2_with fail
            go_meet
            exact M9.out
        as_aux_lemma =>
          have PV : Aside (PlM w S S2 A T K B SR LR i u) := PU
          have KV : Aside (Kp u u) := Kp.of_below (Below.refl _ _)
          clear PU
          obtain ⟨p, q, wq, wr2⟩ := PV.out.where2 hl3 h1 h8 hK iz
          go_wp2_with fail
          refine wq.mono ?_
          rintro r_ w5 ⟨rfl, d5⟩
          have wr3 := wr2 w5 d5
          obtain ⟨f, tk⟩ := (PV.out.on d5).take hl3 h1 h8 hK iz
          have K5 : Aside (Kp u w5) := KV.out.trans (Kp.of_below d5)
          obtain ⟨z0, z1, z2, z3, z4⟩ := box5P (K5.out _ _ _ _ (.inl rfl) XO.out)
          clear wq wr2 d5
          go_wp2_with fail
          refine wr3.mono ?_
          rintro r_ w6 ⟨rfl, rfl⟩
          clear wr3
          go_wp2_with fail
          refine tk.mono ?_
          rintro r_ w7 ⟨rfl, k7, c7⟩
          have K7 : Aside (Kp u w7) := K5.out.trans k7
          clear tk k7
          go_wp2_with fail
          refine c7.mono ?_
          rintro r_ w8 ⟨rfl, k8, M⟩
          have M9 : Aside (PlM w S S2 A T K B SR LR (i + 1) w8 ∧ w8.heap[O]? = some (.cells #[.int .i64 kind, .int .i64 tz, .int .i64 iz, .int .u64 ky, .int .u64 dw] 32 (0, 0))) := ⟨M, (K7.out.trans k8) _ _ _ _ (.inl rfl) XO.out⟩
          clear c7 k8 M
          go_wp2_with fail
          go_meet
          exact M9.out
      case rest =>
        obtain ⟨M0, XC⟩ := hcut
        have M : Aside (PlM w S S2 A T K B SR LR (i + 1) wc) := M0
        have XO2 : Aside (wc.heap[O]? = some (.cells #[.int .i64 kind, .int .i64 tz, .int .i64 iz, .int .u64 ky, .int .u64 dw] 32 (0, 0))) := XC
        obtain ⟨e0, e1, e2, e3, e4⟩ := box5P XC
        obtain ⟨x1, x2, fx, rx, ry⟩ := M0.relax (by omega) h1 h8 hK tz dw dw1
        clear M0 XC y0 y1 y2 y3 y4 PU XO
        go_wp2_with fail
        refine rx.mono ?_
        rintro r_ w4 ⟨rfl, d4⟩
        obtain ⟨R, hR⟩ : ∃ R, w4.heap.size = R := ⟨_, rfl⟩
        obtain ⟨v, hv⟩ : ∃ v, w4.alloc (.cells #[.int .u64 x1, .int .i64 x2] 34) = v := ⟨_, rfl⟩
        have bv : Below wc.heap.size wc v := by rw [← hv]; exact d4.alloc d4.size _
        have vs : v.heap[R]? = some (.cells #[.int .u64 x1, .int .i64 x2] 34 (0, 0)) := by rw [← hv, ← hR]; exact heap_alloc_new w4 _
        have VS : Aside (v.heap[R]? = some (.cells #[.int .u64 x1, .int .i64 x2] 34 (0, 0))) := vs
        have ov := (bv.block O (lt_of_block XO2.out)).trans XO2.out
        obtain ⟨o0, o1, o2, o3, o4⟩ := box5P ov
        have rz := ry v bv
        have BV : Aside (Below wc.heap.size wc v) := bv
        have HV : Hid _ := hv
        clear hv bv vs ov d4 rx ry e0 e1 e2 e3 e4
        go_upto_region 34 with fail
        try rw [HV.out]
        go_wp2_with fail
        refine rz.mono ?_
        rintro r_ w5 ⟨rfl, d5⟩
        obtain ⟨R5, hR5⟩ : ∃ R, w5.heap.size = R := ⟨_, rfl⟩
        obtain ⟨v5, hv5⟩ : ∃ v, w5.alloc (.cells #[.int .u64 x1, .int .i64 x2] 34) = v := ⟨_, rfl⟩
        have bv5 : Below v.heap.size v v5 := by rw [← hv5]; exact d5.alloc d5.size _
        have vs5 : v5.heap[R5]? = some (.cells #[.int .u64 x1, .int .i64 x2] 34 (0, 0)) := by rw [← hv5, ← hR5]; exact heap_alloc_new w5 _
        have vs4 := (bv5.block R (lt_of_block VS.out)).trans VS.out
        obtain ⟨q0, q1⟩ := box2P vs5
        obtain ⟨q2, q3⟩ := box2P vs4
        have PV : Aside (PlM w S S2 A T K B SR LR (i + 1) v5) := (M.out.on BV.out).on bv5
        have sm := PV.out.same (by omega) h1 h8 hK
        have HV5 : Hid _ := hv5
        clear hv5 bv5 vs4 vs5 d5 rz o0 o1 o2 o3 o4
        go_upto_region 35 with fail
        try rw [HV5.out]
        go_wp2_with fail
        refine sm.mono ?_
        rintro r_ w6 ⟨rfl, d6⟩
        have M6 : Aside (PlM w S S2 A T K B SR LR (i + 1) w6) := PV.out.on d6
        clear sm d6 q0 q1 q2 q3
        go_wp2
        go_roundg (61 - (i + 1))
        case measure => omega
        case rel => exact ⟨i + 1, by go_num, by omega, Nat.le_refl _, M6⟩
    · have aw := qawake_any wo
      have LOW : Aside (Below S w wo) := P.out.low
      clear P
      by_cases hz1 : (i : Int) < (len2 : Int)
      · have hz3 : decide ((i : Int) < (len2 : Int)) = true := decide_eq_true hz1
        have hz2 : ¬ (i : Int) < 60 := by omega
        go_wp2_with fail
        refine aw.mono ?_
        rintro r_ w3 ⟨rfl, b3⟩
        have D3 : Aside (Below S w w3) := LOW.out.trans (b3.mono Sw)
        clear aw b3
        go_wp2
        go_ret
        exact ⟨rfl, by first | exact D3.out | (rw [HS.out]; exact D3.out)⟩
      · have hz3 : decide ((i : Int) < (len2 : Int)) = false := decide_eq_false hz1
        go_wp2_with fail
        refine aw.mono ?_
        rintro r_ w3 ⟨rfl, b3⟩
        have D3 : Aside (Below S w w3) := LOW.out.trans (b3.mono Sw)
        clear aw b3
        go_wp2
        go_ret
        exact ⟨rfl, by first | exact D3.out | (rw [HS.out]; exact D3.out)⟩
end Go.Proofs.YtdcacbjmbfppeaaGreat
