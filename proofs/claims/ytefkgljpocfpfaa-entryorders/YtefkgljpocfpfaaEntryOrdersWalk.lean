/- The walk of 'EntryOrders'. -/
import Derived.Test.YtefkgljpocfpfaaEntAwake
import Derived.Test.YtefkgljpocfpfaaEntC
import Derived.Test.YtefkgljpocfpfaaEntR3
import Derived.Deep.Cut
import Derived.Deep.CutRange
namespace Go.Proofs.Ytefkgljpocfpfaa
open Go.RowKit Go.Lib Go.Sort
set_option linter.unusedVariables false

/-- Three boxes one behind the other, in every world that has grown. -/
theorem boxes3 (w : World) (x y z : Ent) (T : TypeId) {W : World} (h : Below (w.heap.size + 3) (((w.alloc (.cells #[.int .u64 x.1, .int .i64 x.2] T)).alloc (.cells #[.int .u64 y.1, .int .i64 y.2] T)).alloc (.cells #[.int .u64 z.1, .int .i64 z.2] T)) W) :
    W.cell? ⟨w.heap.size, 0, none⟩ = some (.int .u64 x.1) ∧ W.cell? ⟨w.heap.size, 1, none⟩ = some (.int .i64 x.2) ∧ W.cell? ⟨w.heap.size + 1, 0, none⟩ = some (.int .u64 y.1) ∧ W.cell? ⟨w.heap.size + 1, 1, none⟩ = some (.int .i64 y.2) ∧ W.cell? ⟨w.heap.size + 2, 0, none⟩ = some (.int .u64 z.1) ∧ W.cell? ⟨w.heap.size + 2, 1, none⟩ = some (.int .i64 z.2) :=
  ⟨(h.cell (p := ⟨w.heap.size, 0, none⟩) (by simp)).trans (cells3 w _ _ _ _ _ _ _).1, (h.cell (p := ⟨w.heap.size, 1, none⟩) (by simp)).trans (cells3 w _ _ _ _ _ _ _).1, (h.cell (p := ⟨w.heap.size + 1, 0, none⟩) (by simp)).trans (cells3 w _ _ _ _ _ _ _).2.1, (h.cell (p := ⟨w.heap.size + 1, 1, none⟩) (by simp)).trans (cells3 w _ _ _ _ _ _ _).2.1, (h.cell (p := ⟨w.heap.size + 2, 0, none⟩) (by simp)).trans (cells3 w _ _ _ _ _ _ _).2.2, (h.cell (p := ⟨w.heap.size + 2, 1, none⟩) (by simp)).trans (cells3 w _ _ _ _ _ _ _).2.2⟩

set_option maxHeartbeats 4000000 in
set_option maxRecDepth 100000 in
theorem entryOrders_walk (a b c : Ent) (a3 : Option Addr) (k3 : Nat) (l : List Ent) (w : World) (h : IsL w a3 k3 l) (b3 : l.length ≤ 140737488355328) :
    Calls Try.prog 8 #[.agg #[.int .u64 a.1, .int .i64 a.2], .agg #[.int .u64 b.1, .int .i64 b.2], .agg #[.int .u64 c.1, .int .i64 c.2], .slice a3 l.length k3] w fun e w' => e = .returned (.bool true) ∧ Below w.heap.size w w' := by
  have mx := mixed
  obtain ⟨S, hS⟩ : ∃ S, w.heap.size = S := ⟨_, rfl⟩
  by_cases hs : l.length ≤ 100
  · have hz : ¬ (100 : Int) < (l.length : Int) := by omega
    obtain ⟨u, hu⟩ : ∃ u, ((w.alloc (.cells #[.int .u64 a.1, .int .i64 a.2] 31)).alloc (.cells #[.int .u64 b.1, .int .i64 b.2] 31)).alloc (.cells #[.int .u64 c.1, .int .i64 c.2] 31) = u := ⟨_, rfl⟩
    have gu : Grown w u := by rw [← hu]; exact (((Grown.refl w).alloc _).alloc _).alloc _
    have zu : u.heap.size = S + 3 := by rw [← hu, ← hS]; simp
    have BX : Aside (∀ W, Below (S + 3) u W → W.cell? ⟨S, 0, none⟩ = some (.int .u64 a.1) ∧ W.cell? ⟨S, 1, none⟩ = some (.int .i64 a.2) ∧ W.cell? ⟨S + 1, 0, none⟩ = some (.int .u64 b.1) ∧ W.cell? ⟨S + 1, 1, none⟩ = some (.int .i64 b.2) ∧ W.cell? ⟨S + 2, 0, none⟩ = some (.int .u64 c.1) ∧ W.cell? ⟨S + 2, 1, none⟩ = some (.int .i64 c.2)) := by
      intro W hW
      subst hS
      rw [← hu] at hW
      exact boxes3 w a b c _ hW
    have HU : Aside _ := hu
    have GU : Aside (Below S w u) := by rw [← hS]; exact gu.below
    have H : Aside (IsL u a3 k3 l) := h.below gu.below
    clear hu gu h
    have lab := less_grown a b u
    have lba := less_grown b a u
    have laa := fun W => less_any a a W
    have lbc := fun W => less_any b c W
    have lac := fun W => less_any a c W
    have haa : ltE a a = false := swoE.irrefl a
    obtain ⟨X, hX⟩ : ∃ X, ltE a b = X := ⟨_, rfl⟩
    obtain ⟨Y, hY⟩ : ∃ Y, ltE b a = Y := ⟨_, rfl⟩
    obtain ⟨Z, hZ⟩ : ∃ Z, ltE b c = Z := ⟨_, rfl⟩
    obtain ⟨V, hV⟩ : ∃ V, ltE a c = V := ⟨_, rfl⟩
    simp only [hX] at lab
    simp only [hY] at lba
    simp only [haa] at laa
    simp only [hZ] at lbc
    simp only [hV] at lac
    have q1 := eqE a b
    have q2 := guardE
    have t1 : ¬ (X = true ∧ Y = true) := fun ⟨x, y⟩ => by subst x y; have := swoE.asymmA hX; rw [hY] at this; cases this
    have t2 : X = false → Y = false → a = b := fun x y => by subst x y; exact totE a b hX hY
    have t3 : X = true → Z = true → V = true := fun x y => by subst x y; rw [← hV]; exact swoE.trans _ _ _ hX hZ
    have T1 : Aside _ := t1
    have T2 : Aside _ := t2
    have T3 : Aside _ := t3
    clear t1 t2 t3 hX hY hZ hV haa
    go_enter Try.func8, Try.ntmps8
    go_wp2_with fail
    rw [HU.out]
    have c1 := fun n os => (BX.out (grow (u.drewN n) os) (by have := (Grown.below (u := u) ⟨n, os, rfl⟩); rw [zu] at this; exact this)).1
    have c2 := fun n os => (BX.out (grow (u.drewN n) os) (by have := (Grown.below (u := u) ⟨n, os, rfl⟩); rw [zu] at this; exact this)).2.1
    have c3 := fun n os => (BX.out (grow (u.drewN n) os) (by have := (Grown.below (u := u) ⟨n, os, rfl⟩); rw [zu] at this; exact this)).2.2.1
    have c4 := fun n os => (BX.out (grow (u.drewN n) os) (by have := (Grown.below (u := u) ⟨n, os, rfl⟩); rw [zu] at this; exact this)).2.2.2.1
    go_quiet_grown ((go_at_call 21; first | with_reducible exact lab _ _ | with_reducible exact lba _ _))
    have B2 : Aside (Below (S + 3) u (grow (u.drewN nq) osq)) := by have := (Grown.below (u := u) ⟨nq, osq, rfl⟩); rw [zu] at this; exact this
    clear c1 c2 c3 c4 lab lba
    generalize grow (u.drewN nq) osq = w2 at B2 ⊢
    go_upto_region 4 with fail
    go_cut [59] from 24 to 59 (fun v wr => v = .bool false ∧ Below (S + 3) u wr)
    case first =>
      obtain ⟨d1, d2, d3, d4, d5, d6⟩ := BX.out w2 B2.out
      cases X with
      | true =>
        cases Y with
        | true => exact absurd ⟨rfl, rfl⟩ T1.out
        | false =>
          go_wp2_with fail
          refine (laa _).mono ?_
          rintro e w3 ⟨rfl, g⟩
          have B3 : Aside (Below (S + 3) u w3) := Below.trans B2.out (Below.mono g.below (by have := B2.out.size; omega))
          clear g d1 d2 d3 d4 d5 d6
          obtain ⟨d1, d2, d3, d4, d5, d6⟩ := BX.out w3 B3.out
          go_wp2_with fail
          refine (lbc _).mono ?_
          rintro e w4 ⟨rfl, g⟩
          have B4 : Aside (Below (S + 3) u w4) := Below.trans B3.out (Below.mono g.below (by have := B3.out.size; omega))
          clear g d1 d2 d3 d4 d5 d6
          obtain ⟨d1, d2, d3, d4, d5, d6⟩ := BX.out w4 B4.out
          cases Z with
          | true =>
            have v : V = true := by simpa using T3.out
            subst v
            go_wp2_with fail
            refine (lac _).mono ?_
            rintro e w5 ⟨rfl, g⟩
            have B5 : Aside (Below (S + 3) u w5) := Below.trans B4.out (Below.mono g.below (by have := B4.out.size; omega))
            clear g d1 d2 d3 d4 d5 d6
            obtain ⟨d1, d2, d3, d4, d5, d6⟩ := BX.out w5 B5.out
            go_wp2_with fail
            go_meet
            exact ⟨rfl, B5.out⟩
          | false =>
            go_wp2_with fail
            go_meet
            exact ⟨rfl, B4.out⟩
      | false =>
        cases Y with
        | true =>
          go_wp2_with fail
          refine (laa _).mono ?_
          rintro e w3 ⟨rfl, g⟩
          have B3 : Aside (Below (S + 3) u w3) := Below.trans B2.out (Below.mono g.below (by have := B2.out.size; omega))
          clear g d1 d2 d3 d4 d5 d6
          obtain ⟨d1, d2, d3, d4, d5, d6⟩ := BX.out w3 B3.out
          go_wp2_with fail
          go_meet
          exact ⟨rfl, B3.out⟩
        | false =>
          have hab : decide (a = b) = true := decide_eq_true (T2.out rfl rfl)
          have q3 : ∀ w, Sem.run Try.prog (Op.equalIn 10000 31 (.agg #[.int .u64 a.1, .int .i64 a.2]) (.agg #[.int .u64 b.1, .int .i64 b.2])) w = .ok true w := fun w => by rw [q1, hab]
          clear q1 hab
          go_wp2_with fail
          refine (laa _).mono ?_
          rintro e w3 ⟨rfl, g⟩
          have B3 : Aside (Below (S + 3) u w3) := Below.trans B2.out (Below.mono g.below (by have := B2.out.size; omega))
          clear g d1 d2 d3 d4 d5 d6
          obtain ⟨d1, d2, d3, d4, d5, d6⟩ := BX.out w3 B3.out
          go_wp2_with fail
          go_meet
          exact ⟨rfl, B3.out⟩
    case rest =>
      obtain ⟨rfl, b3'⟩ := hcut
      clear B2 laa lbc lac q1 q2 T1 T2 T3
      rename World => w3
      have D3 : Aside (Below S w w3) := Below.trans GU.out (Below.mono b3' (by omega))
      have L3 : Aside (IsL w3 a3 k3 l) := H.out.below (by rw [zu]; exact b3')
      clear b3' H BX HU GU
      go_wp2_with fail
      refine (sort_any a3 k3 l w3 L3.out (by omega)).mono ?_
      rintro e w4 ⟨x, xc, rfl, f4, e4⟩
      have D4 : Aside (Below S w w4) := Below.trans D3.out (Below.mono e4 (by have := D3.out.size; omega))
      have L4 : Aside (IsL w4 a3 k3 l) := L3.out.below e4
      have X4 : Aside (IsL w4 x xc (sortE l)) := f4
      clear f4 e4 D3 L3
      obtain ⟨s, hsl⟩ : ∃ s, sortE l = s := ⟨_, rfl⟩
      have hn : s.length = l.length := by rw [← hsl]; exact sortE_len l
      have HR : Aside (∀ i (hi : i < s.length), smal l s[i] ≤ i ∧ (smal l s[i] < i → s[i - 1]'(by omega) = s[i])) := by
        intro i hi
        have hsrt : Srt s := by rw [← hsl]; exact sortE_srt l
        have hp : smal s s[i] = smal l s[i] := by
          have p : s.Perm l := by rw [← hsl]; exact sortE_perm l
          exact smal_perm p _
        obtain ⟨h1, h2⟩ := smal_rank hsrt i hi
        rw [hp] at h1
        refine ⟨h1, fun h => ?_⟩
        exact (h2 (by rw [hp]; exact h)).2
      rw [hsl] at X4 ⊢
      clear hsl
      have HN : Hid _ := hn
      go_wp2_with fail
      clear hn
      go_loopg [12] s.length (fun kx s12 wr => ∃ k : Nat, s12 = .int .i64 k ∧ k ≤ s.length ∧ s.length - k ≤ kx ∧ Aside (Below S w wr) ∧ Aside (IsL wr a3 k3 l) ∧ Aside (IsL wr x xc s))
      case atStart => exact ⟨0, rfl, by omega, by omega, D4, L4, X4⟩
      case round =>
        obtain ⟨k, rfl, hk, hkx, D5, L5, X5⟩ := hrel
        clear D4 L4 X4
        have hsz := HN.out
        by_cases hlt : k < s.length
        · have hz : (k : Int) < (s.length : Int) := by omega
          obtain ⟨b, off, rfl, hb, c1, c2⟩ := X5.out.elem k s[k] (List.getElem?_eq_getElem hlt)
          obtain ⟨r1, r2⟩ := HR.out k hlt
          obtain ⟨y, hy⟩ : ∃ y, s[k] = y := ⟨_, rfl⟩
          obtain ⟨m, hm⟩ : ∃ m, smal l y = m := ⟨_, rfl⟩
          rw [hy] at c1 c2
          simp only [hy, hm] at r1 r2
          have HY : Hid _ := hy
          have R2 : Hid _ := r2
          have sm := smaller_any a3 k3 l y wr L5.out
          rw [hm] at sm
          clear hy hm r2
          go_wp2_with fail
          refine sm.mono ?_
          rintro e w6 ⟨rfl, g6⟩
          have D6 : Aside (Below S w w6) := Below.trans D5.out (Below.mono g6.below (by have := D5.out.size; omega))
          have L6 : Aside (IsL w6 a3 k3 l) := L5.out.below g6.below
          have X6 : Aside (IsL w6 (some ⟨b, off, none⟩) xc s) := X5.out.below g6.below
          clear c1 c2 g6 D5 L5 X5 sm
          by_cases hmk : m < k
          · obtain ⟨j, rfl⟩ : ∃ j, k = j + 1 := ⟨k - 1, by omega⟩
            have t1 : decide ((j : Int) + 1 < (m : Int)) = false := decide_eq_false (by omega)
            have t2 : decide ((m : Int) < (j : Int) + 1) = true := decide_eq_true (by omega)
            have wj : IntKind.i64.wrap (j : Int) = (j : Int) := by rw [IntKind.wrap_i64]; omega
            have j0 : (0 : Int) ≤ (j : Int) + 1 := by omega
            have j1 : (j : Int) + 1 < (s.length : Int) := by omega
            have j2 : (j : Int) < (s.length : Int) := by omega
            have j3 : ((j : Int) + 1).toNat = j + 1 := by omega
            have j4 : (m : Int) < (j : Int) + 1 := by omega
            have j5 : ¬ (j : Int) + 1 < (m : Int) := by omega
            obtain ⟨b', off', ea, eb⟩ := X6.out.at hlt
            obtain ⟨b'', off'', ea2, eb2⟩ := X6.out.at (show j < s.length by omega)
            cases ea
            cases ea2
            have c1 := fun n => (eb w6 (Grown.refl w6) n #[]).1
            have c2 := fun n => (eb w6 (Grown.refl w6) n #[]).2
            have c3 := fun n => (eb2 w6 (Grown.refl w6) n #[]).1
            have c4 := fun n => (eb2 w6 (Grown.refl w6) n #[]).2
            have hj := R2.out hmk
            simp only [Nat.add_sub_cancel] at hj
            simp only [grow_empty, hj] at c1 c2 c3 c4
            simp only [HY.out] at c1 c2
            clear eb eb2 hj
            have q1 := eqE y y
            simp only [decide_true] at q1
            have q2 := guardE
            go_wp2_with fail
            go_quiet (fail)
            clear c1 c2 c3 c4 q1 q2
            have D7 : Aside (Below S w (w6.drewN nq)) := Below.trans D6.out (Below.mono (Grown.below ⟨nq, #[], by rw [grow_empty]⟩) (by have := D6.out.size; omega))
            have L7 : Aside (IsL (w6.drewN nq) a3 k3 l) := L6.out.below (Grown.below ⟨nq, #[], by rw [grow_empty]⟩)
            have X7 : Aside (IsL (w6.drewN nq) (some ⟨b, off, none⟩) xc s) := X6.out.below (Grown.below ⟨nq, #[], by rw [grow_empty]⟩)
            clear D6 L6 X6
            generalize w6.drewN nq = w7 at D7 L7 X7 ⊢
            go_wp2
            go_roundg (s.length - ((j + 1) + 1))
            case measure => omega
            case rel => exact ⟨(j + 1) + 1, by go_num, by omega, Nat.le_refl _, D7, L7, X7⟩
          · obtain rfl : m = k := by omega
            have t1 : decide ((m : Int) < (m : Int)) = false := decide_eq_false (by omega)
            go_wp2_with fail
            go_quiet (fail)
            have D7 : Aside (Below S w (w6.drewN nq)) := Below.trans D6.out (Below.mono (Grown.below ⟨nq, #[], by rw [grow_empty]⟩) (by have := D6.out.size; omega))
            have L7 : Aside (IsL (w6.drewN nq) a3 k3 l) := L6.out.below (Grown.below ⟨nq, #[], by rw [grow_empty]⟩)
            have X7 : Aside (IsL (w6.drewN nq) (some ⟨b, off, none⟩) xc s) := X6.out.below (Grown.below ⟨nq, #[], by rw [grow_empty]⟩)
            clear D6 L6 X6
            generalize w6.drewN nq = w7 at D7 L7 X7 ⊢
            go_wp2
            go_roundg (s.length - (m + 1))
            case measure => omega
            case rel => exact ⟨m + 1, by go_num, by omega, Nat.le_refl _, D7, L7, X7⟩
        · have hz : ¬ (k : Int) < (s.length : Int) := by omega
          go_wp2_with fail
          refine (awake_any _).mono ?_
          rintro e v ⟨rfl, dv⟩
          have D6 : Aside (Below S w v) := Below.trans D5.out (Below.mono dv (by have := D5.out.size; omega))
          clear dv
          go_wp2
          go_ret
          exact ⟨rfl, by rw [hS]; exact D6.out⟩
  · have hz : (100 : Int) < (l.length : Int) := by omega
    clear h
    go_enter Try.func8, Try.ntmps8
    go_wp2_with fail
    refine (awake_any _).mono ?_
    rintro e v ⟨rfl, dv⟩
    go_wp2
    go_ret
    exact ⟨rfl, Below.trans (((((Below.refl _ w).alloc (Nat.le_refl _) _).alloc (by simp) _).alloc (by simp; omega) _)) (Below.mono dv (by simp; omega))⟩
end Go.Proofs.Ytefkgljpocfpfaa
