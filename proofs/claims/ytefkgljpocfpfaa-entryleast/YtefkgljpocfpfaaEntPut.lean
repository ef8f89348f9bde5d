/- entry.Put. -/
import Derived.Test.YtefkgljpocfpfaaEntP
import Derived.Test.YtefkgljpocfpfaaEntR2
import Derived.Deep.RegionHeld3
namespace Go.Proofs.Ytefkgljpocfpfaa
open Go.RowKit Go.Lib Go.Sort
set_option linter.unusedVariables false

theorem IsLL.of_block {W : World} {g : Nat} {cs : Array Value} {T : TypeId} {fr : Nat × Nat} {ls : List (List Ent)} (h : W.heap[g]? = some (.cells cs T fr)) (hl : ls.length ≤ 9223372036854775807)
    (he : ∀ (i : Nat) (d : List Ent), ls[i]? = some d → ∃ p k, cs[i]? = some (Value.slice p d.length k) ∧ IsL W p k d) : IsLL W (some ⟨g, 0, none⟩) ls :=
  ⟨hl, fun i d hd => by
    obtain ⟨p, k, h1, h2⟩ := he i d hd
    exact ⟨g, 0, p, k, rfl, lt_of_block h, by rw [Nat.zero_add, cell_of_row _ _ _ cs T fr h]; exact h1, h2⟩⟩
/-- The three parts that Put joins. -/
theorem put_lists {w2 : World} {a p1 : Option Addr} {cap k : Nat} {d : List Ent} (e : Ent) (L : IsL w2 a cap d) (hk : k ≤ d.length) (hp : (if cap = k then a else a.map (·.add (k * 2))) = p1) :
    IsLL ((w2.alloc (.cells #[.int .u64 e.1, .int .i64 e.2] 31)).alloc (.cells #[.slice a k cap, .slice (some ⟨w2.heap.size, 0, none⟩) 1 1, .slice p1 (d.length - k) (cap - k)] 22)).drew (some ⟨w2.heap.size + 1, 0, none⟩) [d.take k, [e], d.drop k] ∧
    Below w2.heap.size w2 ((w2.alloc (.cells #[.int .u64 e.1, .int .i64 e.2] 31)).alloc (.cells #[.slice a k cap, .slice (some ⟨w2.heap.size, 0, none⟩) 1 1, .slice p1 (d.length - k) (cap - k)] 22)).drew := by
  have b1 : Below w2.heap.size w2 (w2.alloc (.cells #[.int .u64 e.1, .int .i64 e.2] 31)) := (Below.refl _ _).alloc (Nat.le_refl _) _
  have b2 : Below w2.heap.size w2 ((w2.alloc (.cells #[.int .u64 e.1, .int .i64 e.2] 31)).alloc (.cells #[.slice a k cap, .slice (some ⟨w2.heap.size, 0, none⟩) 1 1, .slice p1 (d.length - k) (cap - k)] 22)).drew := (b1.alloc (by simp) _).drew
  refine ⟨IsLL.of_block (cs := #[.slice a k cap, .slice (some ⟨w2.heap.size, 0, none⟩) 1 1, .slice p1 (d.length - k) (cap - k)]) (T := 22) (fr := (0, 0)) ?_ (by simp) (fun i x hx => ?_), b2⟩
  · have := heap_alloc_new (w2.alloc (.cells #[.int .u64 e.1, .int .i64 e.2] 31)) (.cells #[.slice a k cap, .slice (some ⟨w2.heap.size, 0, none⟩) 1 1, .slice p1 (d.length - k) (cap - k)] 22)
    rw [show (w2.alloc (.cells #[.int .u64 e.1, .int .i64 e.2] 31)).heap.size = w2.heap.size + 1 by simp] at this
    exact this
  · have hi : i < 3 := by simpa using (List.getElem?_eq_some_iff.1 hx).1
    have : i = 0 ∨ i = 1 ∨ i = 2 := by omega
    rcases this with rfl | rfl | rfl
    · simp at hx
      subst hx
      exact ⟨a, cap, by simp [List.length_take, Nat.min_eq_left hk], (L.take k).below b2⟩
    · simp at hx
      subst hx
      exact ⟨some ⟨w2.heap.size, 0, none⟩, 1, rfl, (IsL.one w2 e).below (((Below.refl _ _).alloc (by simp) _).drew)⟩
    · simp at hx
      subst hx
      have := (L.drop k hk).below b2
      rw [hp] at this
      exact ⟨p1, cap - k, by simp [List.length_drop], this⟩

set_option maxHeartbeats 4000000 in
set_option maxRecDepth 100000 in
theorem put_any (a : Option Addr) (cap : Nat) (d : List Ent) (e : Ent) (w : World) (h : IsL w a cap d) (hs : Srt d) (hd : d.length ≤ 100000) :
    Calls Try.prog 15 #[.slice a d.length cap, .agg #[.int .u64 e.1, .int .i64 e.2]] w (Gives w (insL d e)) := by
  have hl := h.len
  have hcap := h.le
  have hbig := h.big
  unfold maxLen at hbig
  have H : Aside (IsL w a cap d) := h
  have mx := mixed
  obtain ⟨S, hS⟩ : ∃ S, w.heap.size = S := ⟨_, rfl⟩
  have HS : Hid _ := hS
  clear h
  go_enter Try.func15, Try.ntmps15
  go_wp2
  clear hS
  go_loopg [5] d.length (fun kx s5 wr => ∃ k : Nat, s5 = .int .i64 k ∧ k ≤ d.length ∧ k ≤ kx ∧ Aside (Grown (w.alloc (.cells #[.int .u64 e.1, .int .i64 e.2] 31)) wr) ∧ Aside (∀ i (hi : i < d.length), k ≤ i → ltE e d[i] = true))
  case atStart => exact ⟨d.length, rfl, Nat.le_refl _, Nat.le_refl _, Grown.refl _, (fun i hi h => absurd h (by omega) : ∀ i (hi : i < d.length), d.length ≤ i → ltE e d[i] = true)⟩
  case round =>
    obtain ⟨k, rfl, hk, hkx, G, A⟩ := hrel
    have G0 : Grown w wr := ((Grown.refl w).alloc _).trans G.out
    have c3 := fun n os => (box_at w e 31 G.out n os).1
    have c4 := fun n os => (box_at w e 31 G.out n os).2
    simp only [HS.out] at c3 c4
    by_cases hgo : ∃ j, ∃ hj : j < d.length, k = j + 1 ∧ ltE e d[j] = true
    · obtain ⟨j, hj, rfl, hL⟩ := hgo
      have t1 : decide ((0 : Int) < (j : Int) + 1) = true := decide_eq_true (by omega)
      have t2 : (0 : Int) < (j : Int) + 1 := by omega
      have wj : IntKind.i64.wrap (j : Int) = (j : Int) := by rw [IntKind.wrap_i64]; omega
      have j2 : (j : Int) < (d.length : Int) := by omega
      obtain ⟨b, off, ha, hc⟩ := H.out.at hj
      subst ha
      have c1 := fun n os => (hc wr G0 n os).1
      have c2 := fun n os => (hc wr G0 n os).2
      clear hc G0
      obtain ⟨x, hx⟩ : ∃ x, d[j] = x := ⟨_, rfl⟩
      rw [hx] at c1 c2 hL
      have HX : Hid _ := hx
      clear hx
      have lg := less_grown e x wr
      simp only [hL] at lg
      go_wp2_with fail
      go_quiet_grown (first | (go_at_call 21; exact lg _ _))
      have G2 : Aside (Grown (w.alloc (.cells #[.int .u64 e.1, .int .i64 e.2] 31)) (grow (wr.drewN nq) osq)) := G.out.trans ⟨nq, osq, rfl⟩
      clear c1 c2 c3 c4 G lg
      generalize grow (wr.drewN nq) osq = w2 at G2 ⊢
      go_wp2
      go_roundg j
      case measure => omega
      case rel =>
        refine ⟨j, by first | rfl | go_num, by omega, Nat.le_refl _, G2, (fun i hi hij => ?_ : ∀ i (hi : i < d.length), j ≤ i → ltE e d[i] = true)⟩
        by_cases z : i = j
        · subst z; rw [HX.out]; exact hL
        · exact A.out i hi (by omega)
    · have E : Hid (d.take k ++ e :: d.drop k = insL d e) := by
        show _ = _
        refine insL_end hs e k hk ?_ (fun i hi h => A.out i hi h)
        by_cases z : k = 0
        · exact .inl z
        · refine .inr ⟨by omega, ?_⟩
          cases c : ltE e (d[k - 1]'(by omega)) with
          | false => rfl
          | true => exact absurd ⟨k - 1, by omega, by omega, c⟩ hgo
      clear hs A
      by_cases z : k = 0
      · have t1 : decide ((0 : Int) < (k : Int)) = false := decide_eq_false (by omega)
        have t2 : ¬ (0 : Int) < (k : Int) := by omega
        have t3 : ¬ 0 < k := by omega
        clear z hgo
        go_wp2_with fail
        go_quiet (fail)
        have G2 : Aside (Grown (w.alloc (.cells #[.int .u64 e.1, .int .i64 e.2] 31)) (wr.drewN nq)) := G.out.drewN nq
        clear c3 c4 G G0 t1 t2 t3
        generalize wr.drewN nq = w2 at G2 ⊢
        have bx := box_at w e 31 G2.out 0 #[]
        rw [grow_empty] at bx
        obtain ⟨e3, e4⟩ := bx
        simp only [HS.out, show w2.drewN 0 = w2 from rfl] at e3 e4
        have k1 : (k : Int) ≤ (cap : Int) := by omega
        have k2 : (k : Int) ≤ (d.length : Int) := by omega
        have k3 : (0 : Int) ≤ (k : Int) := by omega
        obtain ⟨p1, hp1⟩ : ∃ p1, (if cap = k then a else a.map (·.add (k * 2))) = p1 := ⟨_, rfl⟩
        have g2 : Grown w w2 := ((Grown.refl w).alloc _).trans G2.out
        obtain ⟨q1, q2⟩ := put_lists e (H.out.below g2.below) hk hp1
        have con := concat_any _ 3 _ _ q1 (by simp; omega)
        have fl : [d.take k, [e], d.drop k].flatten = insL d e := by rw [← E.out]; simp
        rw [fl] at con
        have D1 : Aside (Below w.heap.size w ((w2.alloc (.cells #[.int .u64 e.1, .int .i64 e.2] 31)).alloc (.cells #[.slice a k cap, .slice (some ⟨w2.heap.size, 0, none⟩) 1 1, .slice p1 (d.length - k) (cap - k)] 22)).drew) := g2.below.trans (q2.mono g2.below.size)
        have hS2 : S < w2.heap.size := by have := G2.out.below.size; simp [HS.out] at this; omega
        have KC : Aside (∀ v, Below _ ((w2.alloc (.cells #[.int .u64 e.1, .int .i64 e.2] 31)).alloc (.cells #[.slice a k cap, .slice (some ⟨w2.heap.size, 0, none⟩) 1 1, .slice p1 (d.length - k) (cap - k)] 22)).drew v → v.cell? ⟨S, 0, none⟩ = some (.int .u64 e.1) ∧ v.cell? ⟨S, 1, none⟩ = some (.int .i64 e.2)) := fun v hv => ⟨((q2.trans (hv.mono q2.size)).cell (p := ⟨S, 0, none⟩) hS2).trans e3, ((q2.trans (hv.mono q2.size)).cell (p := ⟨S, 1, none⟩) hS2).trans e4⟩
        clear q1 q2 fl g2 G2
        simp only [List.length_cons, List.length_nil] at con
        go_wp2_with fail
        go_region_held3 (fun w' => w'.cell? ⟨S, 0, none⟩ = some (.int .u64 e.1) ∧ w'.cell? ⟨S, 1, none⟩ = some (.int .i64 e.2)) (first | go_keep | exact ⟨m3, m4⟩) ((go_at_call 32; refine con.mono ?_; rintro r w3 ⟨x, xc, rfl, o3, b3⟩; obtain ⟨m3, m4⟩ := KC.out w3 b3))
        have D3 : Aside (Below w.heap.size w w3) := Below.trans D1.out (Below.mono b3 D1.out.size)
        obtain ⟨x', xc', ex, l3⟩ := o3.isL
        cases ex
        have L3 : Aside (IsL w3 x xc (insL d e)) := l3
        clear b3 o3 l3 D1 KC m3 m4 con
        go_wp2
        go_ret
        exact ⟨x, xc, rfl, L3.out, D3.out⟩
      · obtain ⟨j, hj⟩ : ∃ j, k = j + 1 := ⟨k - 1, by omega⟩
        have HJ : Hid _ := hj
        have t1 : decide ((0 : Int) < (k : Int)) = true := decide_eq_true (by omega)
        have t2 : (0 : Int) < (k : Int) := by omega
        have t3 : 0 < k := by omega
        have t5 : decide (0 < k) = true := decide_eq_true t3
        have t4 : (k : Int) - 1 = (j : Int) := by omega
        have wj : IntKind.i64.wrap (j : Int) = (j : Int) := by rw [IntKind.wrap_i64]; omega
        have j1 : j < d.length := by omega
        have j2 : (j : Int) < (d.length : Int) := by omega
        have hL : ltE e d[j] = false := by
          cases c : ltE e d[j] with
          | false => rfl
          | true => exact absurd ⟨j, j1, hj, c⟩ hgo
        clear z hgo hj
        obtain ⟨b, off, ha, hc⟩ := H.out.at j1
        subst ha
        have c1 := fun n os => (hc wr G0 n os).1
        have c2 := fun n os => (hc wr G0 n os).2
        clear hc G0
        obtain ⟨x, hx⟩ : ∃ x, d[j] = x := ⟨_, rfl⟩
        rw [hx] at c1 c2 hL
        clear hx
        have lg := less_grown e x wr
        simp only [hL] at lg
        go_wp2_with fail
        go_quiet_grown (first | (go_at_call 21; exact lg _ _))
        have G2 : Aside (Grown (w.alloc (.cells #[.int .u64 e.1, .int .i64 e.2] 31)) (grow (wr.drewN nq) osq)) := G.out.trans ⟨nq, osq, rfl⟩
        clear c1 c2 c3 c4 G lg t1 t2 t3 t4 t5 wj j2
        generalize grow (wr.drewN nq) osq = w2 at G2 ⊢
        clear hL
        obtain ⟨a, ha⟩ : ∃ a, some (⟨b, off, none⟩ : Addr) = a := ⟨_, rfl⟩
        rw [ha] at H ⊢
        clear ha
        have bx := box_at w e 31 G2.out 0 #[]
        rw [grow_empty] at bx
        obtain ⟨e3, e4⟩ := bx
        simp only [HS.out, show w2.drewN 0 = w2 from rfl] at e3 e4
        have k1 : (k : Int) ≤ (cap : Int) := by omega
        have k2 : (k : Int) ≤ (d.length : Int) := by omega
        have k3 : (0 : Int) ≤ (k : Int) := by omega
        obtain ⟨p1, hp1⟩ : ∃ p1, (if cap = k then a else a.map (·.add (k * 2))) = p1 := ⟨_, rfl⟩
        have g2 : Grown w w2 := ((Grown.refl w).alloc _).trans G2.out
        obtain ⟨q1, q2⟩ := put_lists e (H.out.below g2.below) hk hp1
        have con := concat_any _ 3 _ _ q1 (by simp; omega)
        have fl : [d.take k, [e], d.drop k].flatten = insL d e := by rw [← E.out]; simp
        rw [fl] at con
        have D1 : Aside (Below w.heap.size w ((w2.alloc (.cells #[.int .u64 e.1, .int .i64 e.2] 31)).alloc (.cells #[.slice a k cap, .slice (some ⟨w2.heap.size, 0, none⟩) 1 1, .slice p1 (d.length - k) (cap - k)] 22)).drew) := g2.below.trans (q2.mono g2.below.size)
        have hS2 : S < w2.heap.size := by have := G2.out.below.size; simp [HS.out] at this; omega
        have KC : Aside (∀ v, Below _ ((w2.alloc (.cells #[.int .u64 e.1, .int .i64 e.2] 31)).alloc (.cells #[.slice a k cap, .slice (some ⟨w2.heap.size, 0, none⟩) 1 1, .slice p1 (d.length - k) (cap - k)] 22)).drew v → v.cell? ⟨S, 0, none⟩ = some (.int .u64 e.1) ∧ v.cell? ⟨S, 1, none⟩ = some (.int .i64 e.2)) := fun v hv => ⟨((q2.trans (hv.mono q2.size)).cell (p := ⟨S, 0, none⟩) hS2).trans e3, ((q2.trans (hv.mono q2.size)).cell (p := ⟨S, 1, none⟩) hS2).trans e4⟩
        clear q1 q2 fl g2 G2
        simp only [List.length_cons, List.length_nil] at con
        go_wp2_with fail
        go_region_held3 (fun w' => w'.cell? ⟨S, 0, none⟩ = some (.int .u64 e.1) ∧ w'.cell? ⟨S, 1, none⟩ = some (.int .i64 e.2)) (first | go_keep | exact ⟨m3, m4⟩) ((go_at_call 32; refine con.mono ?_; rintro r w3 ⟨x, xc, rfl, o3, b3⟩; obtain ⟨m3, m4⟩ := KC.out w3 b3))
        have D3 : Aside (Below w.heap.size w w3) := Below.trans D1.out (Below.mono b3 D1.out.size)
        obtain ⟨x', xc', ex, l3⟩ := o3.isL
        cases ex
        have L3 : Aside (IsL w3 x xc (insL d e)) := l3
        clear b3 o3 l3 D1 KC m3 m4 con
        go_wp2
        go_ret
        exact ⟨x, xc, rfl, L3.out, D3.out⟩
end Go.Proofs.Ytefkgljpocfpfaa
