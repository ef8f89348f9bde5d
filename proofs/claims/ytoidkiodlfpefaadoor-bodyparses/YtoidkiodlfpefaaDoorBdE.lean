/- Contract: body.read. -/
import Derived.Test.YtoidkiodlfpefaaDoorBdD
namespace Go.Proofs.YtoidkiodlfpefaaDoor
open Go.RowKit Go.Lib Go.Shelf Go.Sort
set_option linter.unusedVariables false
set_option maxRecDepth 10000

/-- Three cells, all written. -/
theorem set3 {w : World} {S : Nat} {x y z : Value} {t : TypeId} (h : w.heap[S]? = some (.cells #[x, y, z] t (0, 0))) (a b c : Value) : (((w.setCell ⟨S, 0, none⟩ a).setCell ⟨S, 1, none⟩ b).setCell ⟨S, 2, none⟩ c).heap[S]? = some (.cells #[a, b, c] t (0, 0)) := by
  have h1 := heap_setCell_same w S 0 _ _ a h
  have h2 := heap_setCell_same _ S 1 _ _ b h1
  have h3 := heap_setCell_same _ S 2 _ _ c h2
  rw [h3]
  rfl
theorem cells3 {w : World} {S : Nat} {x y z : Value} {t : TypeId} (h : w.heap[S]? = some (.cells #[x, y, z] t (0, 0))) : (w.cell? ⟨S, 0, none⟩ = some x ∧ w.cell? ⟨S, 1, none⟩ = some y ∧ w.cell? ⟨S, 2, none⟩ = some z) ∧ ∀ j, w.frozen? ⟨S, j, none⟩ = false :=
  ⟨⟨cell_of_row _ _ _ _ _ _ h, cell_of_row _ _ _ _ _ _ h, cell_of_row _ _ _ _ _ _ h⟩, fun j => frozen_of_row _ _ j _ _ h⟩
theorem set2 {w : World} {S : Nat} {x y : Value} {t : TypeId} (h : w.heap[S]? = some (.cells #[x, y] t (0, 0))) (a : Value) : (w.setCell ⟨S, 0, none⟩ a).heap[S]? = some (.cells #[a, y] t (0, 0)) ∧ (w.setCell ⟨S, 1, none⟩ a).heap[S]? = some (.cells #[x, a] t (0, 0)) := by
  have h1 := heap_setCell_same w S 0 _ _ a h
  have h2 := heap_setCell_same w S 1 _ _ a h
  rw [h1, h2]
  exact ⟨rfl, rfl⟩
theorem cells2 {w : World} {S : Nat} {x y : Value} {t : TypeId} (h : w.heap[S]? = some (.cells #[x, y] t (0, 0))) : (w.cell? ⟨S, 0, none⟩ = some x ∧ w.cell? ⟨S, 1, none⟩ = some y) ∧ ∀ j, w.frozen? ⟨S, j, none⟩ = false :=
  ⟨⟨cell_of_row _ _ _ _ _ _ h, cell_of_row _ _ _ _ _ _ h⟩, fun j => frozen_of_row _ _ j _ _ h⟩
theorem below_set3 {w v : World} {B S : Nat} (h : Below B w v) (hS : B ≤ S) (a b c : Value) : Below B w (((v.setCell ⟨S, 0, none⟩ a).setCell ⟨S, 1, none⟩ b).setCell ⟨S, 2, none⟩ c) := Below.setCell (Below.setCell (Below.setCell h hS _) hS _) hS _
/-- What read answers. -/
def ReadIs (w : World) (l : List UInt8) (e : Ending) (w' : World) : Prop :=
  (∃ x : OpR, e = .returned (.tuple #[.agg #[.int .i64 x.1, .int .i64 x.2.1, .int .i64 x.2.2], .bool (rdB l)]) ∧ (rdB l = true → x = rdO l)) ∧ Below w.heap.size w w'
/-- The numbers read so far. -/
def nvA (p : List (List UInt8)) (I : Nat) : Int := if 1 ≤ I then (numV (p.tail.getD 0 []) : Int) else 0
def nvB (p : List (List UInt8)) (I : Nat) : Int := if 2 ≤ I then (numV (p.tail.getD 1 []) : Int) else 0
theorem nv_end {p : List (List UInt8)} {T : Nat} (h : p.tail.length = T) (h2 : T ≤ 2) : nvA p T = (numV (p.tail.getD 0 []) : Int) ∧ nvB p T = (numV (p.tail.getD 1 []) : Int) := by
  unfold nvA nvB
  constructor
  · split
    · rfl
    · rw [List.getD, List.getElem?_eq_none (by omega)]; rfl
  · split
    · rfl
    · rw [List.getD, List.getElem?_eq_none (by omega)]; rfl
theorem nv_set {w : World} {A : Nat} {p : List (List UInt8)} {I : Nat} {t : TypeId} (h : w.heap[A]? = some (.cells #[.int .i64 (nvA p I), .int .i64 (nvB p I)] t (0, 0))) (hI : I < 2) :
    (w.setCell ⟨A, I, none⟩ (.int .i64 (numV (p.tail.getD I []) : Int))).heap[A]? = some (.cells #[.int .i64 (nvA p (I + 1)), .int .i64 (nvB p (I + 1))] t (0, 0)) := by
  have hi : I = 0 ∨ I = 1 := by omega
  rcases hi with rfl | rfl
  · exact (set2 h _).1
  · exact (set2 h _).2
set_option maxHeartbeats 1600000 in
set_option maxRecDepth 100000 in
theorem read_any (s : ByteArray) (l : List UInt8) (hs : s.data.toList = l) (hl : l.length ≤ 400) (M : Nat) (w : World) (t : Tb w) (hk : Kds w M) : Calls Tryd.prog 24 #[.string s, .map (some M)] w (ReadIs w l) := by
  obtain ⟨u1, hu1⟩ : ∃ u, w.alloc (.cells #[.int .i64 0, .int .i64 0, .int .i64 0] 23) = u := ⟨_, rfl⟩
  have bu1 : Below w.heap.size w u1 := by rw [← hu1]; exact bel1 _ _
  have su1 : u1.heap.size = w.heap.size + 1 := by rw [← hu1, alloc_sz]
  have hS0 : u1.heap[w.heap.size]? = some (.cells #[.int .i64 0, .int .i64 0, .int .i64 0] 23 (0, 0)) := by rw [← hu1]; exact heap_alloc_new _ _
  have sp := split_any l 32 u1 (t.below bu1) (by omega)
  have hse : Value.string s = sV l := by rw [sV_of, hs]
  rw [← hse] at sp
  obtain ⟨p, hp⟩ : ∃ p, wds 32 l = p := ⟨_, rfl⟩
  have hpp : 0 < p.length := by rw [← hp]; exact wds_pos 32 l
  have hpl : p.length ≤ 401 := by rw [← hp]; have := wds_len 32 l; omega
  have hpm : ∀ x ∈ p, x.length ≤ 400 := by rw [← hp]; exact fun x hx => Nat.le_trans (wds_mem_len 32 l x hx) hl
  rw [hp] at sp
  obtain ⟨u2, hu2⟩ : ∃ u, u1.alloc (.cells (p.map sV).toArray 9) = u := ⟨_, rfl⟩
  rw [hu2] at sp
  have bu2 : Below u1.heap.size u1 u2 := by rw [← hu2]; exact bel1 _ _
  have su2 : u2.heap.size = w.heap.size + 2 := by rw [← hu2, alloc_sz, su1]
  have hR : ∀ (j : Nat) x, p[j]? = some x → u2.cell? ⟨w.heap.size + 1, j, none⟩ = some (sV x) := fun j x hx => by
    rw [← su1, ← hu2, cell_fresh, List.getElem?_toArray, List.getElem?_map, hx]; rfl
  have t2 : Tb u2 := (t.below bu1).below bu2
  have k2 : Kds u2 M := (hk.below bu1).below bu2
  obtain ⟨p0, hp0⟩ : ∃ x, p.headD [] = x := ⟨_, rfl⟩
  have hp0' : p[0]? = some p0 := by
    rw [← hp0]
    cases p with
    | nil => simp at hpp
    | cons a r => rfl
  have c0 := hR 0 p0 hp0'
  have lk := k2.look p0 (by have := hpm p0 (List.mem_of_getElem? hp0'); unfold maxLen; omega)
  unfold sV at c0 lk
  obtain ⟨P0, hP0⟩ : ∃ P : ByteArray, ⟨p0.toArray⟩ = P := ⟨_, rfl⟩
  rw [hP0] at c0 lk
  obtain ⟨k, hkk⟩ : ∃ k, kindOf p0 = k := ⟨_, rfl⟩
  have kr := kindOf_range p0
  rw [hkk] at lk kr
  have hrd : rdB l = (decide (k ≠ 0) && decide (p.tail.length = toK k) && p.tail.all (numB 7)) := by
    unfold rdB shapeB; rw [hp, hp0, hkk]
  have hro : rdO l = (k, (numV (p.tail.getD 0 []) : Int), (numV (p.tail.getD 1 []) : Int)) := by
    unfold rdO opP; rw [hp, hp0, hkk]
  have htl : p.tail.length = p.length - 1 := List.length_tail
  unfold ReadIs
  obtain ⟨B, hB⟩ : ∃ B, rdB l = B := ⟨_, rfl⟩
  rw [hB] at hrd ⊢
  have HRD : Aside (B = (decide (k ≠ 0) && decide (p.tail.length = toK k) && p.tail.all (numB 7))) := hrd
  have HRO : Aside (rdO l = (k, (numV (p.tail.getD 0 []) : Int), (numV (p.tail.getD 1 []) : Int))) := hro
  have B2 : Aside (Below w.heap.size w u2) := Below.tr bu1 bu2
  have HU1 : Hid _ := hu1
  have TB2 : Aside (Tb u2) := t2
  have HR : Aside (∀ (j : Nat) x, p[j]? = some x → u2.cell? ⟨w.heap.size + 1, j, none⟩ = some (sV x)) := hR
  have HS0 : Aside (u2.heap[w.heap.size]? = some (.cells #[.int .i64 0, .int .i64 0, .int .i64 0] 23 (0, 0))) := (bu2.block _ (by omega)).trans hS0
  clear hrd hro hu2 hR t2 k2 bu1 bu2 hu1 t hk hse hs hp hp0 hp0' hP0 hkk hpm hB hS0
  go_enter Tryd.func24, Tryd.ntmps24
  go_upto_region 1 with fail
  rw [HU1.out]
  go_wp2_with fail
  refine sp.mono ?_
  rintro r w2 ⟨rfl, rfl⟩
  go_upto_region 3 with fail
  obtain ⟨⟨z0, z1, z2⟩, zf⟩ := cells3 HS0.out
  have zS : w.heap.size < w2.heap.size := by omega
  by_cases hk0 : k = 0
  · subst hk0
    have hB : B = false := HRD.out
    subst hB
    clear zf
    have z3 := (cells3 HS0.out).2 0
    have z4 := (cells3 HS0.out).2 1
    have z5 := (cells3 HS0.out).2 2
    obtain ⟨⟨r0, r1, r2⟩, _⟩ := cells3 (set3 HS0.out (.int .i64 0) (.int .i64 0) (.int .i64 0))
    go_wp2
    refine bodyPost_ret (v := .tuple #[.agg #[.int .i64 0, .int .i64 0, .int .i64 0], .bool false]) (by simp [results, Tryd.results24, go_sem, r0, r1, r2]) rfl ⟨⟨(0, 0, 0), rfl, fun h => by cases h⟩, below_set3 B2.out (Nat.le_refl _) _ _ _⟩
  · obtain ⟨K, rfl⟩ : ∃ K : Nat, k = (K : Int) := ⟨k.toNat, by omega⟩
    have hK : 1 ≤ K ∧ K ≤ 5 := by omega
    have hK6 : (K : Int) < 6 := by omega
    obtain ⟨_, c1, _⟩ := TB2.out.sh K (by omega)
    have hT : toK (K : Int) = shT.getD K 0 := rfl
    have hT2 : shT.getD K 0 ≤ 2 := by
      have hI : K = 1 ∨ K = 2 ∨ K = 3 ∨ K = 4 ∨ K = 5 := by omega
      rcases hI with rfl | rfl | rfl | rfl | rfl <;> decide
    rw [hT] at HRD
    clear hT
    generalize shT.getD K 0 = T at *
    have kne : decide ((K : Int) ≠ 0) = true := decide_eq_true hk0
    rw [kne] at lk HRD
    by_cases hn : p.length = T + 1
    · have hn' : (p.length : Int) - 1 = (T : Int) := by omega
      have hB : Aside (B = p.tail.all (numB 7)) := by
        have := HRD.out
        rw [decide_eq_true (p := p.tail.length = T) (by omega)] at this
        exact this
      obtain ⟨u3, hu3⟩ : ∃ u, w2.alloc (.cells #[.int .i64 0, .int .i64 0] 54) = u := ⟨_, rfl⟩
      have bu3 : Below w2.heap.size w2 u3 := by rw [← hu3]; exact bel1 _ _
      have hA0 : u3.heap[w.heap.size + 2]? = some (.cells #[.int .i64 (nvA p 0), .int .i64 (nvB p 0)] 54 (0, 0)) := by rw [← hu3, ← su2]; exact heap_alloc_new _ _
      have HA0 : Aside (u3.heap[w.heap.size + 2]? = some (.cells #[.int .i64 (nvA p 0), .int .i64 (nvB p 0)] 54 (0, 0))) := hA0
      have HU3 : Hid _ := hu3
      have BU3 : Aside (Below w2.heap.size w2 u3) := bu3
      clear HRD zf z0 z1 z2 kne hu3 bu3 hA0
      go_upto_region 6 with fail
      rw [HU3.out]
      go_cut [36, 37, 38] (fun s36 s37 s38 wx => (∃ q : Nat, (0 < T → q = 1) ∧ s36 = .slice (some ⟨w.heap.size + 1, q, none⟩) T T) ∧ s37 = .int .i64 T ∧ s38 = .int .i64 0 ∧ wx = u3)
      case first =>
        by_cases hT0 : T = 0
        · subst hT0
          go_wp2
          go_meet
          exact ⟨⟨_, fun h => by omega, rfl⟩, rfl, rfl, rfl⟩
        · go_wp2
          go_meet
          exact ⟨⟨_, fun h => rfl, rfl⟩, rfl, rfl, rfl⟩
      case rest =>
        obtain ⟨⟨q, hq, rfl⟩, rfl, rfl, rfl⟩ := hcut
        go_wp2_with fail
        go_loopg [38] T (fun kx s38 wr => ∃ I : Nat, s38 = .int .i64 I ∧ I ≤ T ∧ T - I ≤ kx ∧ Aside (wr.heap[w.heap.size + 2]? = some (.cells #[.int .i64 (nvA p I), .int .i64 (nvB p I)] 54 (0, 0))) ∧ Aside (Below w2.heap.size w2 wr) ∧ Aside ((p.tail.take I).all (numB 7) = true))
        case atStart => exact ⟨0, rfl, by omega, by omega, HA0, BU3, (rfl : (p.tail.take 0).all (numB 7) = true)⟩
        case round =>
          obtain ⟨I, rfl, hI, hkx, HA, G, AL⟩ := hrel
          have S0 : wr.heap[w.heap.size]? = some (.cells #[.int .i64 0, .int .i64 0, .int .i64 0] 23 (0, 0)) := (G.out.block _ zS).trans HS0.out
          by_cases hlt : I < T
          · have hz : (I : Int) < (T : Int) := by omega
            have hq1 : q = 1 := hq (by omega)
            subst hq1
            have hpt : I < p.tail.length := by omega
            obtain ⟨x, hx⟩ : ∃ x, p.tail[I] = x := ⟨_, rfl⟩
            have hx1 : p[1 + I]? = some x := by
              rw [← hx, Nat.add_comm, ← List.getElem?_tail, List.getElem?_eq_getElem hpt]
            have hxd : p.tail.getD I [] = x := by rw [List.getD, List.getElem?_eq_getElem hpt, hx]; rfl
            have hc := (G.out.cell (p := ⟨w.heap.size + 1, 1 + I, none⟩) (by show w.heap.size + 1 < _; omega)).trans (HR.out _ _ hx1)
            unfold sV at hc
            obtain ⟨X, hX⟩ : ∃ X : ByteArray, ⟨x.toArray⟩ = X := ⟨_, rfl⟩
            rw [hX] at hc
            have nm := number_any X x (by rw [← hX]) wr
            obtain ⟨NB, hNB⟩ : ∃ NB, numB 7 x = NB := ⟨_, rfl⟩
            obtain ⟨NV, hNV⟩ : ∃ V : Int, (if numB 7 x then (numV x : Int) else 0) = V := ⟨_, rfl⟩
            rw [hNV, hNB] at nm
            have HNB : Hid _ := hNB
            have HNV : Aside ((if numB 7 x then (numV x : Int) else 0) = NV) := hNV
            have HX : Hid _ := hx
            have HXD : Hid _ := hxd
            have S0' : Aside (wr.heap[w.heap.size]? = some (.cells #[.int .i64 0, .int .i64 0, .int .i64 0] 23 (0, 0))) := S0
            clear hx hNB hNV hxd hX S0 hx1
            go_wp2_with fail
            refine nm.mono ?_
            rintro r w5 ⟨rfl, b5⟩
            have A5 := (b5.block _ (lt_of_block HA.out)).trans HA.out
            have S5 := (b5.block _ (lt_of_block S0'.out)).trans S0'.out
            have hAI : ∃ v, w5.cell? ⟨w.heap.size + 2, I, none⟩ = some v := by
              have hi : I = 0 ∨ I = 1 := by omega
              rcases hi with rfl | rfl
              · exact ⟨_, (cells2 A5).1.1⟩
              · exact ⟨_, (cells2 A5).1.2⟩
            obtain ⟨vI, hvI⟩ := hAI
            have hfI := (cells2 A5).2 I
            have hAl : w.heap.size + 2 < w5.heap.size := lt_of_block A5
            have hI2 : (I : Int) < 2 := by omega
            obtain ⟨w6, hw6⟩ : ∃ u, w5.setCell ⟨w.heap.size + 2, I, none⟩ (.int .i64 NV) = u := ⟨_, rfl⟩
            have S6 : w6.heap[w.heap.size]? = some (.cells #[.int .i64 0, .int .i64 0, .int .i64 0] 23 (0, 0)) := by
              rw [← hw6, heap_setCell_other _ _ _ _ (by show w.heap.size ≠ w.heap.size + 2; omega)]; exact S5
            have B6 : Aside (Below w2.heap.size w2 w6) := by
              show Below w2.heap.size w2 w6
              rw [← hw6]
              exact Below.setCell (Below.tr G.out b5) (by show w2.heap.size ≤ w.heap.size + 2; omega) _
            have S6' : Aside (w6.heap[w.heap.size]? = some (.cells #[.int .i64 0, .int .i64 0, .int .i64 0] 23 (0, 0))) := S6
            have A6 : Aside (NB = true → w6.heap[w.heap.size + 2]? = some (.cells #[.int .i64 (nvA p (I + 1)), .int .i64 (nvB p (I + 1))] 54 (0, 0))) := fun hnb => by
              have e : NV = (numV (p.tail.getD I []) : Int) := by
                rw [← HNV.out, HNB.out, hnb, if_pos rfl, HXD.out]
              rw [← hw6, e]
              exact nv_set A5 (by omega)
            have HW6 : Hid _ := hw6
            clear hw6 S6 S5 A5 b5 nm hc HA G S0'
            go_upto_region 10 with fail
            rw [HW6.out]
            clear HW6 hvI hfI hAl
            have zs6 : w.heap.size < w6.heap.size := lt_of_block S6'.out
            cases NB with
            | true =>
              have AL2 : Aside ((p.tail.take (I + 1)).all (numB 7) = true) := by
                show (p.tail.take (I + 1)).all (numB 7) = true
                rw [List.take_succ_eq_append_getElem hpt, List.all_append, AL.out]
                simp [HX.out, HNB.out]
              have A7 : Aside (w6.heap[w.heap.size + 2]? = some (.cells #[.int .i64 (nvA p (I + 1)), .int .i64 (nvB p (I + 1))] 54 (0, 0))) := A6.out rfl
              go_wp2
              go_roundg (T - (I + 1))
              case measure => omega
              case rel => exact ⟨I + 1, by go_num, by omega, Nat.le_refl _, A7, B6, AL2⟩
            | false =>
              have hB' : B = false := by
                rw [hB.out]
                exact List.all_eq_false.2 ⟨x, by rw [← HX.out]; exact List.getElem_mem hpt, by rw [HNB.out]; simp⟩
              clear hB
              subst hB'
              obtain ⟨⟨z0, z1, z2⟩, _⟩ := cells3 S6'.out
              have z3 := (cells3 S6'.out).2 0
              have z4 := (cells3 S6'.out).2 1
              have z5 := (cells3 S6'.out).2 2
              obtain ⟨⟨r0, r1, r2⟩, _⟩ := cells3 (set3 S6'.out (.int .i64 0) (.int .i64 0) (.int .i64 0))
              go_wp2
              refine bodyPost_ret (v := .tuple #[.agg #[.int .i64 0, .int .i64 0, .int .i64 0], .bool false]) (by simp [results, Tryd.results24, go_sem, r0, r1, r2]) rfl ⟨⟨(0, 0, 0), rfl, fun h => by cases h⟩, below_set3 (Below.tr B2.out B6.out) (Nat.le_refl _) _ _ _⟩
          · have hz : ¬ (I : Int) < (T : Int) := by omega
            have e0 : I = T := by omega
            subst e0
            have hlen : p.tail.length = I := by omega
            have hB' : B = true := by
              rw [hB.out, ← AL.out, ← hlen, List.take_length]
            clear hB
            subst hB'
            obtain ⟨n1, n2⟩ := nv_end hlen hT2
            have HO : Aside (rdO l = ((K : Int), nvA p I, nvB p I)) := by
              show rdO l = _
              rw [HRO.out, n1, n2]
            obtain ⟨⟨y0, y1⟩, _⟩ := cells2 HA.out
            have B9 : Aside (Below w.heap.size w wr) := Below.tr B2.out G.out
            have zs6 : w.heap.size < wr.heap.size := lt_of_block S0
            obtain ⟨⟨z0, z1, z2⟩, _⟩ := cells3 S0
            have z3 := (cells3 S0).2 0
            have z4 := (cells3 S0).2 1
            have z5 := (cells3 S0).2 2
            obtain ⟨⟨r0, r1, r2⟩, _⟩ := cells3 (set3 S0 (.int .i64 (K : Int)) (.int .i64 (nvA p I)) (.int .i64 (nvB p I)))
            clear S0 n1 n2 HA G
            go_wp2
            refine bodyPost_ret (v := .tuple #[.agg #[.int .i64 (K : Int), .int .i64 (nvA p I), .int .i64 (nvB p I)], .bool true]) (by simp [results, Tryd.results24, go_sem, r0, r1, r2]) rfl ⟨by rw [HO.out], below_set3 B9.out (Nat.le_refl _) _ _ _⟩
    · have hn' : ¬ (p.length : Int) - 1 = (T : Int) := by omega
      have hB : B = false := by
        have := HRD.out
        rw [decide_eq_false (p := p.tail.length = T) (by omega)] at this
        exact this
      subst hB
      clear zf kne
      have z3 := (cells3 HS0.out).2 0
      have z4 := (cells3 HS0.out).2 1
      have z5 := (cells3 HS0.out).2 2
      obtain ⟨⟨r0, r1, r2⟩, _⟩ := cells3 (set3 HS0.out (.int .i64 0) (.int .i64 0) (.int .i64 0))
      go_wp2
      refine bodyPost_ret (v := .tuple #[.agg #[.int .i64 0, .int .i64 0, .int .i64 0], .bool false]) (by simp [results, Tryd.results24, go_sem, r0, r1, r2]) rfl ⟨⟨(0, 0, 0), rfl, fun h => by cases h⟩, below_set3 B2.out (Nat.le_refl _) _ _ _⟩

end Go.Proofs.YtoidkiodlfpefaaDoor
