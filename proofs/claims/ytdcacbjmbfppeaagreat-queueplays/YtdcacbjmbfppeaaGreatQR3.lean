/- The document's own queue: Least, Where. -/
import Derived.Test.YtdcacbjmbfppeaaGreatQR2
namespace Go.Proofs.YtdcacbjmbfppeaaGreat
open Go.RowKit Go.Lib Go.Sort
set_option linter.unusedVariables false

set_option maxHeartbeats 2000000 in
set_option maxRecDepth 100000 in
theorem rleast_any (w : World) (base B SR LR T K : Nat) (g : Nat → RS) (ow : Nat → List Ent) (sh : List Ent) (h : RQ w base B SR LR T K g ow sh) (hT : T ≤ 8) (hm : rAllN g ow sh T T ≤ 10000) :
    Calls Tryz.prog 13 #[ptr B] w (EntIs w (headO (rAllK g ow sh T T)).1 (headO (rAllK g ow sh T T)).2) := by
  obtain ⟨S, hS⟩ : ∃ S, w.heap.size = S := ⟨_, rfl⟩
  obtain ⟨u, hu⟩ : ∃ u, w.alloc (.cells #[.int .u64 0, .int .i64 0] 34) = u := ⟨_, rfl⟩
  have bu : Below w.heap.size w u := by rw [← hu]; exact (Below.refl _ _).alloc (Nat.le_refl _) _
  have us : u.heap[S]? = some (.cells #[.int .u64 0, .int .i64 0] 34 (0, 0)) := by rw [← hu, ← hS]; exact heap_alloc_new w _
  have al := rall_any u base B SR LR T K g ow sh (h.below bu) hT hm
  obtain ⟨D, hD⟩ : ∃ D, rAllK g ow sh T T = D := ⟨_, rfl⟩
  rw [hD] at al ⊢
  have BU : Aside (Below w.heap.size w u) := bu
  have US : Aside (u.heap[S]? = some (.cells #[.int .u64 0, .int .i64 0] 34 (0, 0))) := us
  have HU : Hid _ := hu
  have HS : Hid _ := hS
  clear h hu bu us hD hm
  cases D with
  | nil =>
    go_enter Tryz.func13, Tryz.ntmps13
    go_wp2_with fail
    rw [HU.out]
    refine al.mono ?_
    rintro r w1 ⟨a1, c1, rfl, o1, b1⟩
    have s1 := (b1.block S (lt_of_block US.out)).trans US.out
    have B1 : Aside (Below w.heap.size w w1) := BU.out.trans (b1.mono BU.out.size)
    obtain ⟨y0, y1⟩ := ent0 s1
    have z0 := entf s1 0
    have z1 := entf s1 1
    have Sl : S < w1.heap.size := lt_of_block s1
    obtain ⟨v0, v1⟩ := slBox s1 (.int .u64 0) (.int .i64 0)
    have FB : Aside (Below w.heap.size w ((w1.setCell ⟨S, 0, none⟩ (.int .u64 0)).setCell ⟨S, 1, none⟩ (.int .i64 0))) := below_box B1.out (by have := HS.out; omega) _ _
    clear al o1 b1 s1
    go_wp2_with fail
    refine bodyPost_ret (v := .tuple #[.agg #[.int .u64 0, .int .i64 0], .bool false]) (by simp [results, Tryz.results13, go_sem, v0, v1]) rfl ⟨rfl, FB.out⟩
  | cons x d =>
    obtain ⟨x1, x2⟩ := x
    obtain ⟨n, hn⟩ : ∃ n, (((x1, x2) : Ent) :: d).length = n := ⟨_, rfl⟩
    have n0 : ¬ (n : Int) = 0 := by simp at hn; omega
    have n1 : (0 : Int) < (n : Int) := by simp at hn; omega
    have n2 : ¬ n = 0 := by simp at hn; omega
    have HN : Hid _ := hn
    go_enter Tryz.func13, Tryz.ntmps13
    go_wp2_with fail
    rw [HU.out]
    refine al.mono ?_
    rintro r w1 ⟨a1, c1, rfl, o1, b1⟩
    obtain ⟨gA, offA, ga, gl, e0, e1⟩ := o1.is.elem 0 (x1, x2) rfl
    subst ga
    simp only [Nat.zero_mul, Nat.add_zero] at e0 e1
    have s1 := (b1.block S (lt_of_block US.out)).trans US.out
    have B1 : Aside (Below w.heap.size w w1) := BU.out.trans (b1.mono BU.out.size)
    obtain ⟨y0, y1⟩ := ent0 s1
    have z0 := entf s1 0
    have z1 := entf s1 1
    have Sl : S < w1.heap.size := lt_of_block s1
    obtain ⟨v0, v1⟩ := slBox s1 (.int .u64 x1) (.int .i64 x2)
    have FB : Aside (Below w.heap.size w ((w1.setCell ⟨S, 0, none⟩ (.int .u64 x1)).setCell ⟨S, 1, none⟩ (.int .i64 x2))) := below_box B1.out (by have := HS.out; omega) _ _
    rw [HN.out]
    clear al o1 b1 s1 hn
    go_wp2_with fail
    refine bodyPost_ret (v := .tuple #[.agg #[.int .u64 x1, .int .i64 x2], .bool true]) (by simp [results, Tryz.results13, go_sem, v0, v1]) rfl ⟨rfl, FB.out⟩

/-- Where the document's queue finds an ID. -/
def rWhere (g : Nat → RS) (ow : Nat → List Ent) (sh : List Ent) (T : Nat) (id : Int) : Int × Int :=
  match (List.range T).find? (fun i => (g i).1 && (g i).2.2 == id) with
  | some i => (1, (i : Int))
  | none => match (List.range T).find? (fun i => hasL (ow i) id) with
    | some i => (2, (i : Int))
    | none => if hasL sh id then (3, 0) else (0, 0)
set_option maxHeartbeats 4000000 in
set_option maxRecDepth 100000 in
theorem rwhere_any (w : World) (base B SR LR T K : Nat) (g : Nat → RS) (ow : Nat → List Ent) (sh : List Ent) (id : Int) (h : RQ w base B SR LR T K g ow sh) (hT : T ≤ 8) :
    Calls Tryz.prog 15 #[ptr B, .int .i64 id] w fun r w' => r = .returned (.tuple #[.int .i64 (rWhere g ow sh T id).1, .int .i64 (rWhere g ow sh T id).2]) ∧ w' = w := by
  have H : Aside (RQ w base B SR LR T K g ow sh) := h
  obtain ⟨a, cap, c0, c1, c2, c3, il⟩ := h.cells
  have IL : Aside (IsL w a cap sh) := il
  obtain ⟨ns, hns⟩ : ∃ n, sh.length = n := ⟨_, rfl⟩
  rw [hns] at c3
  have HNS : Hid _ := hns
  obtain ⟨p, hp⟩ : ∃ p, rWhere g ow sh T id = p := ⟨_, rfl⟩
  obtain ⟨p1, p2⟩ := p
  rw [hp]
  have HP : Hid _ := hp
  clear h c0 il hns hp
  go_enter Tryz.func15, Tryz.ntmps15
  go_wp2
  go_loopg [6] T (fun kx s6 wr => ∃ (i : Nat), s6 = .int .i64 i ∧ i ≤ T ∧ T - i ≤ kx ∧ Aside (∀ j, j < i → ((g j).1 && (g j).2.2 == id) = false) ∧ wr = w)
  case atStart => exact ⟨0, rfl, by omega, by omega, fun j hj => by omega, rfl⟩
  case round =>
    obtain ⟨i, rfl, hi, hkx, NO, hw⟩ := hrel
    subst hw
    by_cases hlt : i < T
    · have hz : (i : Int) < (T : Int) := by omega
      obtain ⟨q0, q1, q2, _⟩ := H.out.at hlt
      obtain ⟨⟨f, k, d⟩, e'⟩ : ∃ x, g i = x := ⟨_, rfl⟩
      rw [e'] at q0 q1 q2
      simp only at q0 q1 q2
      have HE : Hid _ := e'
      clear e'
      have nx : (f && d == id) = false → Aside (∀ j, j < i + 1 → ((g j).1 && (g j).2.2 == id) = false) := fun hf j hj => by
        by_cases e : j = i
        · subst e; rw [HE.out]; exact hf
        · exact NO.out j (by omega)
      cases f with
      | false =>
        have N2 := nx rfl
        clear nx
        go_wp2
        go_roundg (T - (i + 1))
        case measure => omega
        case rel => exact ⟨i + 1, by go_num, by omega, Nat.le_refl _, N2, rfl⟩
      | true =>
        by_cases hd : d = id
        · have e1 : rWhere g ow sh T id = (1, (i : Int)) := by
            unfold rWhere
            rw [find_range (p := fun i => (g i).1 && (g i).2.2 == id) hlt (by show ((g i).1 && (g i).2.2 == id) = true; rw [HE.out]; simp [hd]) (fun j hj => NO.out j hj)]
          rw [HP.out] at e1
          injection e1 with e1 e2
          subst e1 e2 hd
          clear nx
          go_wp2
          refine bodyPost_ret (v := .tuple #[.int .i64 1, .int .i64 i]) (by simp [results, Tryz.results15, go_sem]) rfl ⟨rfl, rfl⟩
        · have N2 := nx (by simp [hd])
          clear nx
          go_wp2
          go_roundg (T - (i + 1))
          case measure => omega
          case rel => exact ⟨i + 1, by go_num, by omega, Nat.le_refl _, N2, rfl⟩
    · have hz : ¬ (i : Int) < (T : Int) := by omega
      obtain rfl : i = T := by omega
      have S0 : Hid ((List.range i).find? (fun i => (g i).1 && (g i).2.2 == id) = none) := find_range_none fun j hj => NO.out j hj
      obtain ⟨m, hm⟩ : ∃ m, m = i := ⟨_, rfl⟩
      subst hm
      obtain ⟨wo, hwo⟩ : ∃ x, x = wr := ⟨_, rfl⟩
      subst hwo
      clear NO
      go_wp2
      go_loopg [7] m (fun kx s7 wr => ∃ (i : Nat), s7 = .int .i64 i ∧ i ≤ m ∧ m - i ≤ kx ∧ Aside (∀ j, j < i → hasL (ow j) id = false) ∧ wr = wo)
      case atStart => exact ⟨0, rfl, by omega, by omega, fun j hj => by omega, rfl⟩
      case round =>
        obtain ⟨i, rfl, hi, hkx, NO, hw⟩ := hrel
        subst hw
        by_cases hlt : i < m
        · have hz : (i : Int) < (m : Int) := by omega
          obtain ⟨b, c, q0, iq⟩ := H.out.own hlt
          obtain ⟨n, hn⟩ : ∃ n, (ow i).length = n := ⟨_, rfl⟩
          have hs := has_any b c (ow i) id wr iq
          obtain ⟨f, hf⟩ : ∃ f, hasL (ow i) id = f := ⟨_, rfl⟩
          rw [hn, hf] at hs
          rw [hn] at q0
          have HF : Hid _ := hf
          clear iq hn hf
          cases f with
          | true =>
            have e1 : rWhere g ow sh m id = (2, (i : Int)) := by
              unfold rWhere
              rw [S0.out, find_range (p := fun i => hasL (ow i) id) hlt HF.out (fun j hj => NO.out j hj)]
            rw [HP.out] at e1
            injection e1 with e1 e2
            subst e1 e2
            go_wp2_with fail
            refine hs.mono ?_
            rintro r w1 ⟨rfl, hw1⟩
            subst hw1
            clear hs
            go_wp2
            refine bodyPost_ret (v := .tuple #[.int .i64 2, .int .i64 i]) (by simp [results, Tryz.results15, go_sem]) rfl ⟨rfl, rfl⟩
          | false =>
            have N2 : Aside (∀ j, j < i + 1 → hasL (ow j) id = false) := fun j hj => by
              by_cases e : j = i
              · subst e; exact HF.out
              · exact NO.out j (by omega)
            go_wp2_with fail
            refine hs.mono ?_
            rintro r w1 ⟨rfl, hw1⟩
            obtain rfl : wr = w1 := hw1.symm
            clear hs
            go_wp2
            go_roundg (m - (i + 1))
            case measure => omega
            case rel => exact ⟨i + 1, by go_num, by omega, Nat.le_refl _, N2, rfl⟩
        · have hz : ¬ (i : Int) < (m : Int) := by omega
          obtain rfl : i = m := by omega
          have S1 : (List.range i).find? (fun i => hasL (ow i) id) = none := find_range_none fun j hj => NO.out j hj
          have hs := has_any a cap sh id wr IL.out
          obtain ⟨f, hf⟩ : ∃ f, hasL sh id = f := ⟨_, rfl⟩
          have e1 : rWhere g ow sh i id = if f then (3, 0) else (0, 0) := by
            unfold rWhere
            rw [S0.out, S1, hf]
          rw [HP.out] at e1
          rw [HNS.out, hf] at hs
          clear hf S1
          cases f with
          | true =>
            rw [if_pos rfl] at e1
            injection e1 with e1 e2
            subst e1 e2
            go_wp2_with fail
            refine hs.mono ?_
            rintro r w1 ⟨rfl, hw1⟩
            subst hw1
            clear hs
            go_wp2
            refine bodyPost_ret (v := .tuple #[.int .i64 3, .int .i64 0]) (by simp [results, Tryz.results15, go_sem]) rfl ⟨rfl, rfl⟩
          | false =>
            rw [if_neg (by simp)] at e1
            injection e1 with e1 e2
            subst e1 e2
            go_wp2_with fail
            refine hs.mono ?_
            rintro r w1 ⟨rfl, hw1⟩
            subst hw1
            clear hs
            go_wp2
            refine bodyPost_ret (v := .tuple #[.int .i64 0, .int .i64 0]) (by simp [results, Tryz.results15, go_sem]) rfl ⟨rfl, rfl⟩
end Go.Proofs.YtdcacbjmbfppeaaGreat
