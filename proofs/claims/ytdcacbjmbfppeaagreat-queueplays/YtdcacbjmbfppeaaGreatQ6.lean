/- queue: what is found further off. -/
import Derived.Test.YtdcacbjmbfppeaaGreatQ5
import Derived.Deep.DeepCutAuto
import Derived.Deep.Cut
namespace Go.Proofs.YtdcacbjmbfppeaaGreat
open Go.RowKit Go.Lib Go.Sort
set_option linter.unusedVariables false

/-- The first of a list, if there is one. -/
def headO : List Ent → Ent × Bool
  | [] => ((0, 0), false)
  | x :: _ => (x, true)
/-- Which own list of the others has something, from t + 1 on. -/
def furtherI (s : QSt) (T t : Nat) : Option Nat := (List.range T).find? (fun i => decide (0 < (s.ls ((t + 1 + i) % T)).flatten.length))
def furtherL (s : QSt) (T t : Nat) : List Ent := match furtherI s T t with
  | some i => sortE (s.ls ((t + 1 + i) % T)).flatten
  | none => sortE (slAll s.g T)
theorem sortE_nil : sortE [] = [] := sortE_id Srt.nil
theorem headO_min {F : Bool} {x : Ent} {d : List Ent} (h : (F = false ∧ d = [] ∧ x = (0, 0)) ∨ (F = true ∧ ∃ t, sortE d = x :: t)) : (x, F) = headO (sortE d) := by
  rcases h with ⟨rfl, rfl, rfl⟩ | ⟨rfl, t, e⟩
  · rw [sortE_nil]; rfl
  · rw [e]; rfl
theorem lminO (w : World) (base : Nat) (A : QAd) (T K N : Nat) (s : QSt) (t : Nat) (h : Que w base A T K s) (ok : QOk K T N s) (hK : K ≤ 16) (ht : t < T) :
    Calls Tryz.prog 50 #[ptr (A.L t)] w (EntIs w (headO (sortE (s.ls t).flatten)).1 (headO (sortE (s.ls t).flatten)).2) := by
  obtain ⟨ra, sa, h⟩ := h
  refine (lmin_any (A.L t) base (s.ls t) w (h.own t ht).t (ok.fall t ht) (by have := ok.count ht; omega)).mono ?_
  rintro r w' ⟨F, x, rfl, hx, b⟩
  rw [← headO_min hx]
  exact ⟨rfl, b⟩
theorem least_one (d : List Ent) : (unl (leastL [d] 1), unb (leastL [d] 1)) = headO d := by
  cases d <;> rfl
theorem entf {w : World} {B : Nat} {cs : Array Value} {U : TypeId} (h : w.heap[B]? = some (.cells cs U (0, 0))) (o : Nat) : w.frozen? ⟨B, o, none⟩ = false := by simp [World.frozen?, h]
theorem entSet2 {w : World} {B : Nat} {x y : Value} {U : TypeId} (h : w.heap[B]? = some (.cells #[x, y] U (0, 0))) (a b : Value) : ((w.setCell ⟨B, 0, none⟩ a).setCell ⟨B, 1, none⟩ b).heap[B]? = some (.cells #[a, b] U (0, 0)) := by
  have h1 : (w.setCell ⟨B, 0, none⟩ a).heap[B]? = some (.cells #[a, y] U (0, 0)) := by simp [World.setCell, Array.getElem?_modify, h]
  generalize w.setCell ⟨B, 0, none⟩ a = v at h1 ⊢
  simp [World.setCell, Array.getElem?_modify, h1]
theorem isLL_one {w : World} {g n cap : Nat} {a : Option Addr} {d : List Ent} (hg : w.heap[g]? = some (.cells #[.slice a n cap] 45 (0, 0))) (hn : d.length = n) (hd : IsL w a cap d) : IsLL w (some ⟨g, 0, none⟩) [d] := by
  refine ⟨by simp, fun i x hx => ?_⟩
  cases i with
  | zero =>
    simp at hx
    subst hx
    exact ⟨g, 0, a, cap, rfl, lt_of_block hg, by rw [hn, cell_of_row _ _ _ _ _ _ hg]; rfl, hd⟩
  | succ i => simp at hx

set_option maxHeartbeats 4000000 in
set_option maxRecDepth 100000 in
theorem further_any (w : World) (base : Nat) (A : QAd) (T K N : Nat) (s : QSt) (t : Nat) (h : Que w base A T K s) (ok : QOk K T N s) (hN : N ≤ 1000) (hK : K ≤ 16) (ht : t < T) (h8 : T ≤ 8) :
    Calls Tryz.prog 52 #[ptr A.B, .int .i64 t] w (EntIs w (headO (furtherL s T t)).1 (headO (furtherL s T t)).2) := by
  obtain ⟨S, hS⟩ : ∃ S, w.heap.size = S := ⟨_, rfl⟩
  obtain ⟨u, hu⟩ : ∃ u, w.alloc (.cells #[.int .u64 0, .int .i64 0] 34) = u := ⟨_, rfl⟩
  have bu : Below w.heap.size w u := by rw [← hu]; exact (Below.refl _ _).alloc (Nat.le_refl _) _
  have us : u.heap[S]? = some (.cells #[.int .u64 0, .int .i64 0] 34 (0, 0)) := by rw [← hu, ← hS]; exact heap_alloc_new w _
  have H : Aside (Que u base A T K s) := h.below bu
  have OK : Aside (QOk K T N s) := ok
  have KC : Aside (∀ W, Below u.heap.size u W → W.cell? ⟨A.B, 1, none⟩ = some (ptr A.SB) ∧ W.cell? ⟨A.B, 2, none⟩ = some (.slice (some ⟨A.OR, 0, none⟩) T A.oc) ∧ A.B < W.heap.size ∧ A.OR < W.heap.size ∧ ∀ i, i < T → W.cell? ⟨A.OR, i, none⟩ = some (ptr (A.L i))) := fun W hW => by
    obtain ⟨ra, sa, q⟩ := H.out.below hW
    exact ⟨q.fix.cells.2.1, q.fix.cells.2.2.1, q.fix.blt, q.fix.olt, fun i hi => q.fix.own hi⟩
  have BU : Aside (Below w.heap.size w u) := bu
  have US : Aside (u.heap[S]? = some (.cells #[.int .u64 0, .int .i64 0] 34 (0, 0))) := us
  have HU : Hid _ := hu
  have HS : Hid _ := hS
  obtain ⟨c2, c3⟩ : w.cell? ⟨A.B, 2, none⟩ = some (.slice (some ⟨A.OR, 0, none⟩) T A.oc) ∧ A.B < w.heap.size := by
    obtain ⟨ra, sa, q⟩ := h
    exact ⟨q.fix.cells.2.2.1, q.fix.blt⟩
  have c3' : A.B < S := by omega
  have c3n : ¬ A.B = S := by omega
  clear hu bu us h ok
  go_enter Tryz.func52, Tryz.ntmps52
  go_wp2_with fail
  rw [HU.out]
  go_loopg [18] T (fun kx s18 wr => ∃ (k : Nat), s18 = .int .i64 k ∧ k ≤ T ∧ T - k ≤ kx ∧ Aside (Below u.heap.size u wr) ∧ Aside (∀ i, i < k → decide (0 < (s.ls ((t + 1 + i) % T)).flatten.length) = false))
  case atStart => exact ⟨0, rfl, by omega, by omega, Below.refl _ _, (fun i hi => absurd hi (by omega) : ∀ i, i < 0 → decide (0 < (s.ls ((t + 1 + i) % T)).flatten.length) = false)⟩
  case round =>
    clear c2 c3 c3' c3n
    obtain ⟨k, rfl, hk, hkx, D, NO⟩ := hrel
    obtain ⟨c1, c2, c3, c4, c5⟩ := KC.out wr D.out
    by_cases hlt : k < T
    · have hz : (k : Int) < (T : Int) := by omega
      obtain ⟨p, hp⟩ : ∃ p, (t + 1 + k) % T = p := ⟨_, rfl⟩
      have pT : p < T := by rw [← hp]; exact Nat.mod_lt _ (by omega)
      have c6 := c5 p pT
      have hp2 : ((t : Int) + 1 + (k : Int)).tmod (T : Int) = (p : Int) := by rw [show (t : Int) + 1 + (k : Int) = ((t + 1 + k : Nat) : Int) by omega, Int.tmod_eq_emod_of_nonneg (by omega), ← hp, Int.natCast_emod]
      have HP : Hid _ := hp
      clear c5 hp
      go_wp2_with fail
      go_quiet (fail)
      obtain ⟨x1, hx1⟩ : ∃ x, (headO (sortE (s.ls p).flatten)).1.1 = x := ⟨_, rfl⟩
      obtain ⟨x2, hx2⟩ : ∃ x, (headO (sortE (s.ls p).flatten)).1.2 = x := ⟨_, rfl⟩
      obtain ⟨f, hf⟩ : ∃ x, (headO (sortE (s.ls p).flatten)).2 = x := ⟨_, rfl⟩
      have DD : Below u.heap.size u (wr.drewN nq) := ⟨D.out.os, D.out.tape, D.out.output, D.out.size, D.out.block⟩
      have mn := lminO (wr.drewN nq) base A T K N s p (H.out.below DD) OK.out hK pT
      unfold EntIs at mn
      rw [hx1, hx2, hf] at mn
      have X1 : Hid _ := hx1
      have X2 : Hid _ := hx2
      have XF : Hid _ := hf
      have DR : Aside (Below u.heap.size u (wr.drewN nq)) := DD
      clear hx1 hx2 hf DD hp2 c6
      go_wp2_with fail
      refine mn.mono ?_
      rintro r w2 ⟨rfl, d2⟩
      have D2 : Aside (Below u.heap.size u w2) := DR.out.trans (d2.mono DR.out.size)
      have s2 := (D2.out.block S (lt_of_block US.out)).trans US.out
      have W2 : Aside (Below w.heap.size w w2) := BU.out.trans (D2.out.mono BU.out.size)
      have Sl : S < w2.heap.size := lt_of_block s2
      have nS : ¬ S = w2.heap.size := by omega
      cases f with
      | true =>
        have y0 : w2.cell? ⟨S, 0, none⟩ = some (.int .u64 0) := (ent0 s2).1
        have y1 : w2.cell? ⟨S, 1, none⟩ = some (.int .i64 0) := (ent0 s2).2
        have z0 := entf s2 0
        have z1 := entf s2 1
        have s3 := entSet2 s2 (.int .u64 x1) (.int .i64 x2)
        have FB : Aside (Below w.heap.size w ((w2.setCell ⟨S, 0, none⟩ (.int .u64 x1)).setCell ⟨S, 1, none⟩ (.int .i64 x2))) := below_box W2.out (by have := HS.out; omega) _ _
        have v0' := (cell_old ((w2.setCell ⟨S, 0, none⟩ (.int .u64 x1)).setCell ⟨S, 1, none⟩ (.int .i64 x2)) (.cells #[.int .u64 x1, .int .i64 x2] 34) 0 (b := S) (by simp [World.setCell]; omega)).trans (ent0 s3).1
        have v1' := (cell_old ((w2.setCell ⟨S, 0, none⟩ (.int .u64 x1)).setCell ⟨S, 1, none⟩ (.int .i64 x2)) (.cells #[.int .u64 x1, .int .i64 x2] 34) 1 (b := S) (by simp [World.setCell]; omega)).trans (ent0 s3).2
        have FE : Aside ((headO (furtherL s T t)).1.1 = x1 ∧ (headO (furtherL s T t)).1.2 = x2 ∧ (headO (furtherL s T t)).2 = true) := by
          have hit : decide (0 < (s.ls ((t + 1 + k) % T)).flatten.length) = true := by
            rw [HP.out]
            have xf := XF.out
            have sl := sortE_len (s.ls p).flatten
            cases e : sortE (s.ls p).flatten with
            | nil => rw [e] at xf; cases xf
            | cons y d => rw [e] at sl; simp only [List.length_cons] at sl; exact decide_eq_true (by omega)
          have e : furtherI s T t = some k := find_range hlt hit NO.out
          have e2 : furtherL s T t = sortE (s.ls p).flatten := by unfold furtherL; rw [e]; show sortE (s.ls ((t + 1 + k) % T)).flatten = _; rw [HP.out]
          rw [e2]
          exact ⟨X1.out, X2.out, XF.out⟩
        clear s2 s3 d2 mn c1 c2 c3 c4
        go_wp2_with fail
        refine bodyPost_ret (v := .tuple #[.agg #[.int .u64 x1, .int .i64 x2], .bool true]) (by simp [results, Tryz.results52, go_sem, v0', v1']) rfl ⟨by rw [FE.out.1, FE.out.2.1, FE.out.2.2], FB.out.alloc FB.out.size _⟩
      | false =>
        have NO2 : Aside (∀ i, i < k + 1 → decide (0 < (s.ls ((t + 1 + i) % T)).flatten.length) = false) := fun i hi => by
          by_cases e : i = k
          · subst e
            rw [HP.out]
            have xf := XF.out
            have sl := sortE_len (s.ls p).flatten
            cases e : sortE (s.ls p).flatten with
            | nil => rw [e] at sl; simp only [List.length_nil] at sl; exact decide_eq_false (by omega)
            | cons y d => rw [e] at xf; cases xf
          · exact NO.out i (by omega)
        have D3 : Aside (Below u.heap.size u (w2.alloc (.cells #[.int .u64 x1, .int .i64 x2] 34))) := D2.out.alloc D2.out.size _
        clear s2 d2 mn c1 c2 c3 c4
        go_wp2
        go_roundg (T - (k + 1))
        case measure => omega
        case rel => exact ⟨k + 1, by go_num, by omega, Nat.le_refl _, D3, NO2⟩
    · have hz : ¬ (k : Int) < (T : Int) := by omega
      have e2 : furtherL s T t = sortE (slAll s.g T) := by
        have e : furtherI s T t = none := find_range_none fun i hi => NO.out i (by omega)
        unfold furtherL; rw [e]
      obtain ⟨m, hm⟩ : ∃ m, (slAll s.g T).length = m := ⟨_, rfl⟩
      have m8 := slAll_len s.g T
      have al : Calls Tryz.prog 66 #[ptr A.SB] wr (SlAllIs wr m (slAll s.g T)) := by
        obtain ⟨ra, sa, q⟩ := H.out.below D.out
        exact slAll_any wr A.SB A.SR T s.g m q.slt hm
      obtain ⟨d, hd⟩ : ∃ d, sortE (slAll s.g T) = d := ⟨_, rfl⟩
      have hdl : d.length = m := by rw [← hd, sortE_len]; exact hm
      have HM : Hid _ := hm
      have HD : Hid _ := hd
      have HDL : Hid _ := hdl
      have E2 : Hid _ := e2
      obtain ⟨x1, hx1⟩ : ∃ x, (headO d).1.1 = x := ⟨_, rfl⟩
      obtain ⟨x2, hx2⟩ : ∃ x, (headO d).1.2 = x := ⟨_, rfl⟩
      obtain ⟨f, hf⟩ : ∃ x, (headO d).2 = x := ⟨_, rfl⟩
      have lo := least_one d
      have lo1 : unl (leastL [d] 1) = (headO d).1 := congrArg Prod.fst lo
      have lo2 : unb (leastL [d] 1) = (headO d).2 := congrArg Prod.snd lo
      obtain ⟨j, hj⟩ : ∃ j, unj (leastL [d] 1) = j := ⟨_, rfl⟩
      have LO : Hid (unl (leastL [d] 1) = (x1, x2) ∧ unb (leastL [d] 1) = f ∧ unj (leastL [d] 1) = j) := ⟨by rw [lo1, ← hx1, ← hx2], by rw [lo2]; exact hf, hj⟩
      have X1 : Hid _ := hx1
      have X2 : Hid _ := hx2
      have XF : Hid _ := hf
      rw [hm] at m8
      clear e2 hm hd hdl hx1 hx2 hf lo lo1 lo2 hj c2 c4 c5
      go_wp2_with fail
      refine al.mono ?_
      rintro r w2 ⟨a, cap, rfl, o2, d2⟩
      have il : IsL w2 a cap (slAll s.g T) := by rw [← HM.out] at o2; exact o2.is
      have so := sort_made a cap (slAll s.g T) w2 il (by have := HM.out; omega)
      rw [HM.out, HD.out] at so
      have D2 : Aside (Below u.heap.size u w2) := D.out.trans (d2.mono D.out.size)
      clear o2 d2 al il
      go_wp2_with fail
      refine so.mono ?_
      rintro r w3 ⟨a3, cap3, rfl, o3, d3⟩
      rw [HDL.out] at o3 ⊢
      have D3 : Aside (Below u.heap.size u w3) := D2.out.trans (d3.mono D2.out.size)
      obtain ⟨R3, hR3⟩ : ∃ R, w3.heap.size = R := ⟨_, rfl⟩
      obtain ⟨u3, hu3⟩ : ∃ u, w3.alloc (.cells #[.slice a3 m cap3] 45) = u := ⟨_, rfl⟩
      have bu3 : Below w3.heap.size w3 u3 := by rw [← hu3]; exact (Below.refl _ _).alloc (Nat.le_refl _) _
      have us3 : u3.heap[R3]? = some (.cells #[.slice a3 m cap3] 45 (0, 0)) := by rw [← hu3, ← hR3]; exact heap_alloc_new w3 _
      have il3 : IsL u3 a3 cap3 d := by rw [← HDL.out] at o3; exact o3.is.below bu3
      have le := least_any (some ⟨R3, 0, none⟩) 1 [d] u3 (isLL_one us3 HDL.out il3)
      simp only [List.length_singleton] at le
      have DU3 : Aside (Below u.heap.size u u3) := D3.out.trans (bu3.mono D3.out.size)
      have HU3 : Hid _ := hu3
      clear o3 d3 so hu3 bu3 us3 il3
      go_wp2_with fail
      rw [HU3.out]
      refine le.mono ?_
      rintro r w4 ⟨hr, d4⟩
      simp only [List.length_singleton] at hr
      rw [LO.out.1, LO.out.2.1, LO.out.2.2] at hr
      subst hr
      have D4 : Aside (Below u.heap.size u w4) := DU3.out.trans (d4.mono DU3.out.size)
      have s2 := (D4.out.block S (lt_of_block US.out)).trans US.out
      have W4 : Aside (Below w.heap.size w w4) := BU.out.trans (D4.out.mono BU.out.size)
      have Sl : S < w4.heap.size := lt_of_block s2
      have nS : ¬ S = w4.heap.size := by omega
      have y0 : w4.cell? ⟨S, 0, none⟩ = some (.int .u64 0) := (ent0 s2).1
      have y1 : w4.cell? ⟨S, 1, none⟩ = some (.int .i64 0) := (ent0 s2).2
      have z0 := entf s2 0
      have z1 := entf s2 1
      have s3 := entSet2 s2 (.int .u64 x1) (.int .i64 x2)
      have FB : Aside (Below w.heap.size w ((w4.setCell ⟨S, 0, none⟩ (.int .u64 x1)).setCell ⟨S, 1, none⟩ (.int .i64 x2))) := below_box W4.out (by have := HS.out; omega) _ _
      have v0' := (cell_old ((w4.setCell ⟨S, 0, none⟩ (.int .u64 x1)).setCell ⟨S, 1, none⟩ (.int .i64 x2)) (.cells #[.int .u64 x1, .int .i64 x2] 34) 0 (b := S) (by simp [World.setCell]; omega)).trans (ent0 s3).1
      have v1' := (cell_old ((w4.setCell ⟨S, 0, none⟩ (.int .u64 x1)).setCell ⟨S, 1, none⟩ (.int .i64 x2)) (.cells #[.int .u64 x1, .int .i64 x2] 34) 1 (b := S) (by simp [World.setCell]; omega)).trans (ent0 s3).2
      have FE : Aside ((headO (furtherL s T t)).1.1 = x1 ∧ (headO (furtherL s T t)).1.2 = x2 ∧ (headO (furtherL s T t)).2 = f) := by
        rw [E2.out, HD.out]
        exact ⟨X1.out, X2.out, XF.out⟩
      clear s2 s3 d4 le c1 c3
      go_wp2_with fail
      refine bodyPost_ret (v := .tuple #[.agg #[.int .u64 x1, .int .i64 x2], .bool f]) (by simp [results, Tryz.results52, go_sem, v0', v1']) rfl ⟨by rw [FE.out.1, FE.out.2.1, FE.out.2.2], FB.out.alloc FB.out.size _⟩
end Go.Proofs.YtdcacbjmbfppeaaGreat
