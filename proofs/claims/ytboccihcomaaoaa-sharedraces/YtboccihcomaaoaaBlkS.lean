/- Blocks: Shrink, by a function that answers. -/
import Derived.Defers
import Derived.Recover
import Derived.Test.YtboccihcomaaoaaBlkC
namespace Go.Proofs.Ytboccihcomaaoaa
open Go.RowKit Go.Lib Go.Sort
set_option linter.unusedVariables false

/-- The deferred function of a call that returns: recover finds nothing. -/
theorem catch_idle (w : World) : CallsD Try.prog 73 #[] .returning w fun e u' w' => e = .returned (.tuple #[]) ∧ u' = .returning ∧ w' = w := by
  refine callsD_of_wpS Try.func73 rfl fun c₀ cs hu => ?_
  apply wpS_region
  cases c₀
  simp_all [wpOpsS, go_sem, recoverD, bodyPostS, results, Try.results73]

set_option maxHeartbeats 400000 in
theorem says_any (g : Nat) (cb : Array Value) (id : Int) (B : Bool) (w : World) (eg : ∀ args w, (callFunc g args).run Try.prog w = .ok (.enter g args) w)
    (hg : Calls Try.prog g (#[.int .i64 id] ++ cb) w fun e w' => e = .returned (.bool B) ∧ Below w.heap.size w w') :
    Calls Try.prog 58 #[.func (.func g) #[] cb, .int .i64 id] w fun e w' => e = .returned (.bool B) ∧ Below w.heap.size w w' := by
  go_enter_defers Try.func58, Try.ntmps58
  go_wp2_with fail
  refine hg.mono ?_
  rintro e w1 ⟨rfl, d1⟩
  go_wp2
  refine leaves_cons (f := 73) (args := #[]) (by simp) (by simp [go_sem]) ?_
  refine (catch_idle _).mono ?_
  rintro e u' w'' ⟨rfl, rfl, rfl⟩
  exact ⟨_, results_tmp rfl _ _ _, rfl, d1⟩

/-- What is left. -/
def keepL (p : Int → Bool) (d : List Ent) : List Ent := d.filter (fun x => !p x.2)
theorem keep_take (p : Int → Bool) {d : List Ent} {k : Nat} (h : k < d.length) : keepL p (d.take (k + 1)) = keepL p (d.take k) ++ (if p d[k].2 then [] else [d[k]]) := by
  unfold keepL
  rw [List.take_succ_eq_append_getElem h, List.filter_append]
  cases e : p d[k].2 <;> simp [e]
theorem keep_len (p : Int → Bool) (d : List Ent) : (keepL p d).length ≤ d.length := List.length_filter_le _ _

set_option maxHeartbeats 4000000 in
set_option maxRecDepth 100000 in
theorem shrink_any (i : Int) (a : Option Addr) (cap : Nat) (d : List Ent) (g : Nat) (cb : Array Value) (p : Int → Bool) (w : World) (h : IsL w a cap d) (hd : d.length ≤ 100000) (eg : ∀ args w, (callFunc g args).run Try.prog w = .ok (.enter g args) w)
    (hg : ∀ id W, Below w.heap.size w W → Calls Try.prog g (#[.int .i64 id] ++ cb) W fun e w' => e = .returned (.bool (p id)) ∧ Below W.heap.size W w') :
    Calls Try.prog 34 #[.agg #[.int .i64 i, .slice a d.length cap], .func (.func g) #[] cb] w (MadeB w (sortE (keepL p d))) := by
  obtain ⟨S, hS⟩ : ∃ S, w.heap.size = S := ⟨_, rfl⟩
  have HS : Hid _ := hS
  obtain ⟨N, hN⟩ : ∃ N, d.length = N := ⟨_, rfl⟩
  have HN : Hid _ := hN
  obtain ⟨u, hu⟩ : ∃ u, (w.alloc (.cells #[.int .i64 i, .slice a N cap] 34)).alloc (.cells #[.int .i64 0, .slice none 0 0] 34) = u := ⟨_, rfl⟩
  have HU : Hid _ := hu
  have b0 : Below S w u := by rw [← hu, ← hS]; exact ((Below.refl _ _).alloc (Nat.le_refl _) _).alloc (by simp) _
  have su : u.heap.size = S + 2 := by rw [← hu, ← hS]; simp
  have x1 : Box2 (S + 1) (.int .i64 0) (.slice none 0 0) u := by
    have := Box2.new (w.alloc (.cells #[.int .i64 i, .slice a N cap] 34)) (.int .i64 0) (.slice none 0 0) 34
    rw [hu] at this
    simpa [hS] using this
  have LU : Aside (IsL u a cap d) := h.below (by rw [hS]; exact b0)
  have B0 : Aside (Below S w u) := b0
  have X1 : Aside (Box2 (S + 1) (.int .i64 0) (.slice none 0 0) u) := x1
  have SU : Hid _ := su
  have HG : Aside (∀ id W, Below w.heap.size w W → Calls Try.prog g (#[.int .i64 id] ++ cb) W fun e w' => e = .returned (.bool (p id)) ∧ Below W.heap.size W w') := hg
  rw [hN] at hd ⊢
  have hnil : ∀ w : World, (binOp BinOp.eql 38 (.func (.func g) #[] cb) .nilFunc).run Try.prog w = .ok (.bool false) w := fun _ => by first | rfl | (simp [go_sem]; done) | kernel_rfl
  clear hg hN hu b0 su x1 h
  go_enter Try.func34, Try.ntmps34
  go_wp2_with fail
  rw [HU.out]
  go_loopg [5, 16] N (fun kx s5 s16 wr => ∃ (k n : Nat) (r : Option Addr) (t : Nat), s16 = .int .i64 k ∧ s5 = .slice r n t ∧ Hid ((keepL p (d.take k)).length = n) ∧ k ≤ N ∧ N - k ≤ kx ∧ Aside (OwnE wr (S + 2) (.slice r n t) (keepL p (d.take k))) ∧ Aside (Below (S + 2) u wr))
  case atStart => exact ⟨0, 0, none, 0, rfl, rfl, rfl, by omega, by omega, OwnE.nil _ _, Below.refl _ _⟩
  case round =>
    obtain ⟨k, z, r, t, rfl, rfl, HZ, hk, hkx, O, B⟩ := hrel
    have zle : z ≤ N := by have h1 := HZ.out; have h2 := keep_len p (d.take k); rw [List.length_take, HN.out] at h2; omega
    have sz : S + 2 ≤ wr.heap.size := by have := B.out.size; have := SU.out; omega
    have BW : Aside (Below S w wr) := B0.out.trans (B.out.mono (by omega))
    by_cases hlt : k < N
    · have hz : (k : Int) < (N : Int) := by omega
      have hlt' : k < d.length := by rw [HN.out]; exact hlt
      obtain ⟨b, off, rfl, hb, c0, c1⟩ := (LU.out.below (by rw [SU.out]; exact B.out)).elem k d[k] (List.getElem?_eq_getElem hlt')
      have e1 := keep_take p hlt'
      obtain ⟨x, hx⟩ : ∃ x, d[k] = x := ⟨_, rfl⟩
      rw [hx] at e1 c0 c1
      obtain ⟨R, hR⟩ : ∃ R, wr.heap.size = R := ⟨_, rfl⟩
      obtain ⟨v, hv⟩ : ∃ v, wr.alloc (.cells #[.int .u64 x.1, .int .i64 x.2] 37) = v := ⟨_, rfl⟩
      have HV : Hid _ := hv
      have bv : Below wr.heap.size wr v := by rw [← hv]; exact (Below.refl _ _).alloc (Nat.le_refl _) _
      have v0 : v.cell? ⟨R, 0, none⟩ = some (.int .u64 x.1) := by rw [← hv, ← hR]; exact cell_new wr _ _ 0
      have v1 : v.cell? ⟨R, 1, none⟩ = some (.int .i64 x.2) := by rw [← hv, ← hR]; exact cell_new wr _ _ 1
      have vs : R < v.heap.size := by rw [← hv, ← hR]; simp
      have sy := says_any g cb x.2 (p x.2) v eg (HG.out x.2 v (by rw [HS.out]; exact BW.out.trans (bv.mono (by omega))))
      have hbR : b < R := by omega
      have E1 : Aside (keepL p (d.take (k + 1)) = keepL p (d.take k) ++ (if p x.2 then [] else [x])) := e1
      have BV : Aside (Below (S + 2) u v) := B.out.trans (bv.mono (by omega))
      have OV : Aside (OwnE v (S + 2) (.slice r z t) (keepL p (d.take k))) := O.out.below bv
      clear e1 hx hv bv O B hb
      cases hB : p x.2 with
      | true =>
        rw [hB] at sy E1
        have E2 : Hid (keepL p (d.take (k + 1)) = keepL p (d.take k)) := by show _ = _; have := E1.out; simpa using this
        clear E1
        go_wp2_with fail
        rw [HV.out]
        refine sy.mono ?_
        rintro e w1 ⟨rfl, b1⟩
        have B1 : Aside (Below (S + 2) u w1) := BV.out.trans (b1.mono (by omega))
        have O1 : Aside (OwnE w1 (S + 2) (.slice r z t) (keepL p (d.take (k + 1)))) := by rw [E2.out]; exact OV.out.below b1
        clear b1 sy v0 v1 c0 c1 OV BV
        go_wp2
        go_roundg (N - (k + 1))
        case measure => omega
        case rel => exact ⟨k + 1, z, r, t, by go_num, rfl, by rw [E2.out]; exact HZ, by omega, Nat.le_refl _, O1, B1⟩
      | false =>
        rw [hB] at sy E1
        have E2 : Hid (keepL p (d.take (k + 1)) = keepL p (d.take k) ++ [x]) := by show _ = _; have := E1.out; simpa using this
        clear E1
        go_wp2_with fail
        rw [HV.out]
        refine sy.mono ?_
        rintro e w1 ⟨rfl, b1⟩
        have B1 : Aside (Below (S + 2) u w1) := BV.out.trans (b1.mono (by omega))
        have y0 : w1.cell? ⟨R, 0, none⟩ = some (.int .u64 x.1) := (b1.cell (p := ⟨R, 0, none⟩) vs).trans v0
        have y1 : w1.cell? ⟨R, 1, none⟩ = some (.int .i64 x.2) := (b1.cell (p := ⟨R, 1, none⟩) vs).trans v1
        have ws : R < w1.heap.size := by have := b1.size; omega
        obtain ⟨r', t', w2, hr, o2, b2⟩ := app_one x (OV.out.below b1) HZ.out (by omega) (by omega)
        have B2 : Aside (Below (S + 2) u w2) := B1.out.trans b2
        have O2 : Aside (OwnE w2 (S + 2) (.slice r' (z + 1) t') (keepL p (d.take (k + 1)))) := by rw [E2.out]; exact o2
        have HZ2 : Hid ((keepL p (d.take (k + 1))).length = z + 1) := by show _ = _; rw [E2.out, List.length_append, HZ.out]; rfl
        clear b1 sy v0 v1 c0 c1 OV BV o2 b2
        go_wp2_with (at_builtin; refine Lib.wpList_append_run (World.alloc w1 _) rfl _ _ 32 32 rfl _ _ rfl rfl _ w2 hr ?_)
        go_roundg (N - (k + 1))
        case measure => omega
        case rel => exact ⟨k + 1, z + 1, r', t', by go_num, rfl, HZ2, by omega, Nat.le_refl _, O2, B2⟩
    · have hz : ¬ (k : Int) < (N : Int) := by omega
      have e : d.take k = d := List.take_of_length_le (by rw [HN.out]; omega)
      rw [e] at HZ O
      have ofa := of_any r t (keepL p d) wr O.out.is (by have := HZ.out; omega)
      rw [HZ.out] at ofa
      obtain ⟨m, hm⟩ : ∃ m, lvl z = m := ⟨_, rfl⟩
      have HM : Hid _ := hm
      have SL : Hid ((sortE (keepL p d)).length = z) := by show _ = _; rw [sortE_len, HZ.out]
      clear e O hm
      go_wp2_with fail
      refine ofa.mono ?_
      rintro e w2 ⟨r2, t2, rfl, o2, b2⟩
      rw [SL.out, HM.out]
      have x2 := X1.out.below (B.out.trans (b2.mono sz)) (by omega)
      have q0 := x2.c0
      have q1 := x2.c1
      have q2 := x2.f0
      have q3 := x2.f1
      have B3 : Aside (Below S w ((w2.setCell ⟨S + 1, 0, none⟩ (.int .i64 m)).setCell ⟨S + 1, 1, none⟩ (.slice r2 z t2))) :=
        ((BW.out.trans (b2.mono (by omega))).setCell (by show S ≤ S + 1; omega) _).setCell (by show S ≤ S + 1; omega) _
      have X3 : Aside (Box2 (S + 1) (.int .i64 m) (.slice r2 z t2) ((w2.setCell ⟨S + 1, 0, none⟩ (.int .i64 m)).setCell ⟨S + 1, 1, none⟩ (.slice r2 z t2))) := x2.set _ _
      have O3 : Aside (OwnE ((w2.setCell ⟨S + 1, 0, none⟩ (.int .i64 m)).setCell ⟨S + 1, 1, none⟩ (.slice r2 z t2)) S (.slice r2 (sortE (keepL p d)).length t2) (sortE (keepL p d))) :=
        ((o2.set (by show S + 1 < _; omega) _).set (by show S + 1 < _; omega) _).low (by omega)
      clear x2 o2 b2 ofa X1 B0 B BW LU
      go_wp2
      generalize World.setCell _ _ _ = w3 at B3 X3 O3 ⊢
      have y0 := X3.out.c0
      have y1 := X3.out.c1
      refine bodyPost_ret (v := .agg #[.int .i64 m, .slice r2 z t2]) (by simp [results, Try.results34, go_sem, y0, y1]) rfl ⟨r2, t2, ?_, by rw [HS.out]; exact O3.out, by rw [HS.out]; exact B3.out⟩
      rw [SL.out, HM.out]

theorem shrinkN {w : World} {i : Int} {a : Option Addr} {q : Nat} {d c : List Ent} {g : Nat} {cb : Array Value} {p : Int → Bool} {N n m : Nat} (h : IsL w a q d) (hl : d.length = N) (hN : N ≤ 100000) (eg : ∀ args w, (callFunc g args).run Try.prog w = .ok (.enter g args) w)
    (hg : ∀ id W, Below w.heap.size w W → Calls Try.prog g (#[.int .i64 id] ++ cb) W fun e w' => e = .returned (.bool (p id)) ∧ Below W.heap.size W w') (hc : sortE (keepL p d) = c) (hn : c.length = n) (hm : lvl n = m) :
    Calls Try.prog 34 #[.agg #[.int .i64 i, .slice a N q], .func (.func g) #[] cb] w (MadeN w m n c) := by
  have := shrink_any i a q d g cb p w h (by omega) eg hg
  rw [hl] at this
  exact this.mono fun r w' h => by rw [hc] at h; exact h.n hn hm
end Go.Proofs.Ytboccihcomaaoaa
