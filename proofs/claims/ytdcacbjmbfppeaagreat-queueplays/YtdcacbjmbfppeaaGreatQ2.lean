/- queue: listOf, inSlot, the table's function of a slot, spots. -/
import Derived.Test.YtdcacbjmbfppeaaGreatQ1
namespace Go.Proofs.YtdcacbjmbfppeaaGreat
open Go.RowKit Go.Lib Go.Sort
set_option linter.unusedVariables false

set_option maxHeartbeats 400000 in
theorem listOf_yes (k d : Int) (w : World) : Calls Tryz.prog 49 #[.agg #[.int .u64 k, .int .i64 d], .bool true] w (Made w [(k, d)]) := by
  go_enter Tryz.func49, Tryz.ntmps49
  go_wp2
  go_ret
  refine ⟨some ⟨w.heap.size + 1, 0, none⟩, 1, rfl, ?_, ((Below.refl _ _).alloc (Nat.le_refl _) _).alloc (by simp) _⟩
  have := OwnE.one (base := w.heap.size) (w.alloc (.cells #[.int .u64 k, .int .i64 d] 34)) (k, d) (by simp)
  simpa using this
set_option maxHeartbeats 400000 in
theorem listOf_no (k d : Int) (w : World) : Calls Tryz.prog 49 #[.agg #[.int .u64 k, .int .i64 d], .bool false] w (Made w []) := by
  go_enter Tryz.func49, Tryz.ntmps49
  go_wp2
  go_ret
  exact ⟨none, 0, rfl, OwnE.nil _ _, (Below.refl _ _).alloc (Nat.le_refl _) _⟩
/-- What a slot has, as a list. -/
def slotL (p : Pl) : List Ent := if p.f then [p.e] else []
theorem listOf_any (p : Pl) (w : World) : Calls Tryz.prog 49 #[.agg #[.int .u64 p.e.1, .int .i64 p.e.2], .bool p.f] w (Made w (slotL p)) := by
  obtain ⟨⟨k, d⟩, v, f⟩ := p
  cases f with
  | true => exact listOf_yes k d w
  | false => exact listOf_no k d w
theorem Made.mono {w w0 w' : World} {d : List Ent} {r : Ending} (h : Made w d r w') (hw : Below w0.heap.size w0 w) : Made w0 d r w' := by
  obtain ⟨a, cap, h1, h2, h3⟩ := h
  exact ⟨a, cap, h1, h2.low hw.size, hw.trans (h3.mono hw.size)⟩

set_option maxHeartbeats 1000000 in
theorem inSlot_any (w : World) (base : Nat) (A : QAd) (T K : Nat) (s : QSt) (t : Nat) (h : Que w base A T K s) (ht : t < T) :
    Calls Tryz.prog 62 #[ptr A.B, .int .i64 t] w (Made w (slotL (s.g t))) := by
  obtain ⟨ra, sa, h⟩ := h
  obtain ⟨c0, c1, c2, c3, c4⟩ := h.fix.cells
  obtain ⟨k, d, v, f, e'⟩ : ∃ k d v f, s.g t = ⟨(k, d), v, f⟩ := ⟨_, _, _, _, rfl⟩
  have gt := slGet_in w A.SB A.SR T s.g t k d v f h.slt ht e'
  rw [e']
  clear h c0 c2 c3 c4 e'
  go_enter Tryz.func62, Tryz.ntmps62
  go_wp2_with fail
  refine gt.mono ?_
  rintro r w1 ⟨rfl, b1⟩
  obtain ⟨u, hu⟩ : ∃ u, w1.alloc (.cells #[.int .u64 k, .int .i64 d] 34) = u := ⟨_, rfl⟩
  have BU : Aside (Below w.heap.size w u) := by rw [← hu]; exact b1.trans (((Below.refl _ _).alloc (Nat.le_refl _) _).mono b1.size)
  have HU : Hid _ := hu
  have lo := listOf_any ⟨(k, d), v, f⟩ u
  clear hu b1 gt c1
  go_wp2_with fail
  rw [HU.out]
  refine lo.mono ?_
  rintro r w2 hm
  obtain ⟨a, cap, rfl, o2, b2⟩ := hm.mono BU.out
  have M : Aside (Made w (slotL ⟨(k, d), v, f⟩) (.returned (.slice a (slotL ⟨(k, d), v, f⟩).length cap)) w2) := ⟨a, cap, rfl, o2, b2⟩
  obtain ⟨n, hn⟩ : ∃ n, (slotL ⟨(k, d), v, f⟩).length = n := ⟨_, rfl⟩
  rw [hn] at M ⊢
  clear hm o2 b2 lo hn
  go_wp2
  go_ret
  exact M.out
set_option maxHeartbeats 1000000 in
theorem table1_any (w : World) (base : Nat) (A : QAd) (T K : Nat) (s : QSt) (t : Nat) (h : Que w base A T K s) (ht : t < T) :
    Calls Tryz.prog 61 #[ptr A.QC, ptr (A.TC t)] w (Made w (slotL (s.g t))) := by
  have is := inSlot_any w base A T K s t h ht
  obtain ⟨ra, sa, h⟩ := h
  have c0 : w.cell? ⟨A.QC, 0, none⟩ = some (ptr A.B) := by rw [cell_of_row _ _ _ _ _ _ h.fix.qc]; rfl
  have c1 : w.cell? ⟨A.TC t, 0, none⟩ = some (.int .i64 t) := by rw [cell_of_row _ _ _ _ _ _ (h.fix.tc t ht)]; rfl
  obtain ⟨d, hd⟩ : ∃ d, slotL (s.g t) = d := ⟨_, rfl⟩
  rw [hd] at is ⊢
  clear h hd
  go_enter Tryz.func61, Tryz.ntmps61
  go_wp2_with fail
  refine is.mono ?_
  rintro r w2 ⟨a, cap, rfl, o2, b2⟩
  have M : Aside (Made w d (.returned (.slice a d.length cap)) w2) := ⟨a, cap, rfl, o2, b2⟩
  clear o2 b2 is
  go_wp2
  go_ret
  exact M.out

/- spots -/
def spotAt (T j : Nat) : Int × Int := if j < T then (1, (j : Int)) else if j < 2 * T then (2, ((j - T : Nat) : Int)) else (3, 0)
def flatS (l : List (Int × Int)) : List Value := l.flatMap fun x => [.int .i64 x.1, .int .i64 x.2]
theorem flatS_len (l : List (Int × Int)) : (flatS l).length = l.length * 2 := by
  induction l with
  | nil => rfl
  | cons x l ih => show (flatS l).length + 1 + 1 = _; rw [ih, List.length_cons]; omega
theorem flatS_snoc (l : List (Int × Int)) (x : Int × Int) : flatS (l ++ [x]) = flatS l ++ [.int .i64 x.1, .int .i64 x.2] := by simp [flatS]
theorem flatS_at : ∀ (l : List (Int × Int)) (i : Nat) (x : Int × Int), l[i]? = some x → (flatS l)[i * 2]? = some (.int .i64 x.1) ∧ (flatS l)[i * 2 + 1]? = some (.int .i64 x.2)
  | [], i, x, h => by simp at h
  | y :: l, 0, x, h => by simp at h; subst h; exact ⟨rfl, rfl⟩
  | y :: l, i + 1, x, h => by
    obtain ⟨h1, h2⟩ := flatS_at l i x (by simpa using h)
    rw [show (i + 1) * 2 = i * 2 + 1 + 1 by omega]
    exact ⟨by simpa [flatS] using h1, by simpa [flatS] using h2⟩
def OwnSp (w : World) (base : Nat) (a : Option Addr) (n cap : Nat) (l : List (Int × Int)) : Prop := l.length = n ∧ w.ownsRow base 81 2 (.slice a n cap) n (flatS l)
theorem OwnSp.below {w w' : World} {base n cap : Nat} {a : Option Addr} {l : List (Int × Int)} (h : OwnSp w base a n cap l) (hw : Below w.heap.size w w') : OwnSp w' base a n cap l := ⟨h.1, own_below h.2 hw⟩
theorem infoSp : ∃ i, Tryz.prog.info? 81 = some i ∧ i.zero = some (.agg #[.int .i64 0, .int .i64 0]) ∧ i.size = 2 ∧ i.bytes = 16 := by
  have h : (Tryz.prog.info? 81).map (fun i => (i.zero, i.size, i.bytes)) = some (some (.agg #[.int .i64 0, .int .i64 0]), 2, 16) := by kernel_rfl
  obtain ⟨i, h1, h2⟩ := Option.map_eq_some_iff.1 h
  simp at h2
  exact ⟨i, h1, h2.1, h2.2.1, h2.2.2⟩
theorem app_spot {w : World} {base n cap G : Nat} {a : Option Addr} {l : List (Int × Int)} {p t : Int} (h : OwnSp w base a n cap l) (c0 : w.cell? ⟨G, 0, none⟩ = some (.int .i64 p)) (c1 : w.cell? ⟨G, 1, none⟩ = some (.int .i64 t)) (hn : n ≤ 1000) (hbase : base ≤ w.heap.size) (ty : TypeId) :
    ∃ r t' w', (Builtin.append_ #[78, 78] ty #[.slice a n cap, .slice (some ⟨G, 0, none⟩) 1 1]).run Tryz.prog w = .ok (.slice r (n + 1) t') w' ∧ OwnSp w' base r (n + 1) t' (l ++ [(p, t)]) ∧ ∀ u, Below base u w → Below base u w' := by
  obtain ⟨i, hi, hz, hs, hby⟩ := infoSp
  obtain ⟨v', w', k1, k2, k3, k4⟩ := run_append_own (P := Tryz.prog) w base 78 ty 81 i _ 2 16 Tryz.underlying78 hi hz hs hby rfl (by omega) _ n (flatS l) h.2 ⟨G, 0, none⟩ 1 1 [.int .i64 p, .int .i64 t] rfl
    (fun j u hj => by
      have : j = 0 ∨ j = 1 := by have := (List.getElem?_eq_some_iff.1 hj).1; simp at this; omega
      rcases this with rfl | rfl
      · simp at hj; subst hj; exact c0
      · simp at hj; subst hj; exact c1) (by intro u hu; simp at hu; rcases hu with rfl | rfl <;> rfl) (by unfold maxLen; omega) (by omega) hbase
  have e : ∃ r t', v' = .slice r (n + 1) t' := by
    rcases k2.2 with ⟨e, e0⟩ | ⟨g, cap', cur, e, _⟩
    · omega
    · exact ⟨_, _, e⟩
  obtain ⟨r, t', rfl⟩ := e
  refine ⟨r, t', w', k1, ⟨by simp [h.1], by rw [flatS_snoc]; exact k2⟩, fun u hu => hu.trans ?_⟩
  exact ⟨k3.os, k3.tape, k3.output, k3.size, fun k hk => k3.block k (by omega) (fun e => by
    have := World.ownsRow.lt h.2 k e.symm
    omega)⟩
/-- The first n spots. -/
def spL (T n : Nat) : List (Int × Int) := (List.range n).map (spotAt T)
theorem spL_len (T n : Nat) : (spL T n).length = n := by simp [spL]
theorem spL_succ (T n : Nat) : spL T (n + 1) = spL T n ++ [spotAt T n] := by simp [spL, List.range_succ]
/-- What spots tells. -/
def SpotsIs (w : World) (T n : Nat) (r : Ending) (w' : World) : Prop := ∃ g cap, r = .returned (.slice (some ⟨g, 0, none⟩) n cap) ∧ w.heap.size ≤ g ∧ (∀ W : World, Below w'.heap.size w' W → g < W.heap.size ∧ ∀ j, j < n → W.cell? ⟨g, j * 2, none⟩ = some (.int .i64 (spotAt T j).1) ∧ W.cell? ⟨g, j * 2 + 1, none⟩ = some (.int .i64 (spotAt T j).2)) ∧ (∀ W : World, Kept MQ w' W → g < W.heap.size ∧ ∀ j, j < n → W.cell? ⟨g, j * 2, none⟩ = some (.int .i64 (spotAt T j).1) ∧ W.cell? ⟨g, j * 2 + 1, none⟩ = some (.int .i64 (spotAt T j).2)) ∧ Below w.heap.size w w'
theorem OwnSp.cells {w : World} {base T n cap : Nat} {a : Option Addr} (h : OwnSp w base a n cap (spL T n)) (hn : 0 < n) : ∃ g, a = some ⟨g, 0, none⟩ ∧ base ≤ g ∧ ∀ W : World, W.heap[g]? = w.heap[g]? → g < W.heap.size ∧ ∀ j, j < n → W.cell? ⟨g, j * 2, none⟩ = some (.int .i64 (spotAt T j).1) ∧ W.cell? ⟨g, j * 2 + 1, none⟩ = some (.int .i64 (spotAt T j).2) := by
  rcases h.2.2 with ⟨e, e0⟩ | ⟨g, cap', cur, e, hb, hg, _⟩
  · omega
  · injection e with e1 _ e3
    subst e1 e3
    refine ⟨g, rfl, hb, fun W hW => ⟨lt_of_block (hW.trans hg), fun j hj => ?_⟩⟩
    have hx : (spL T n)[j]? = some (spotAt T j) := by simp [spL, hj]
    obtain ⟨f0, f1⟩ := flatS_at _ j _ hx
    have k0 := World.ownsRow.cellAt h.2 (j * 2) (by omega)
    have k1 := World.ownsRow.cellAt h.2 (j * 2 + 1) (by omega)
    rw [f0] at k0
    rw [f1] at k1
    exact ⟨(World.cell?_of_block (a := ⟨g, j * 2, none⟩) hW).trans k0, (World.cell?_of_block (a := ⟨g, j * 2 + 1, none⟩) hW).trans k1⟩
theorem mq_spot : ¬ MQ 81 := by unfold MQ; decide
theorem OwnSp.is {w w0 : World} {T n cap : Nat} {a : Option Addr} (h : OwnSp w w0.heap.size a n cap (spL T n)) (hn : 0 < n) (hb : Below w0.heap.size w0 w) : SpotsIs w0 T n (.returned (.slice a n cap)) w := by
  obtain ⟨g, e, h1, h2⟩ := h.cells hn
  obtain ⟨cs, hg⟩ : ∃ cs, w.heap[g]? = some (.cells cs 81 (0, 0)) := by
    rcases h.2.2 with ⟨e', e0⟩ | ⟨g', cap', cur, e', _, hg, _⟩
    · omega
    · injection e' with e1 _ e3
      rw [e] at e1
      injection e1 with e1
      injection e1 with e1
      subst e1
      exact ⟨cur, hg⟩
  exact ⟨g, cap, by rw [e], h1, fun W hW => h2 W (hW.block g (lt_of_block hg)), fun W hW => h2 W (hW.block g _ _ _ hg mq_spot), hb⟩

set_option maxHeartbeats 4000000 in
set_option maxRecDepth 100000 in
theorem spots_any (w : World) (A : QAd) (T K : Nat) (h : QFix w A T K) (h1 : 1 ≤ T) (h8 : T ≤ 8) :
    Calls Tryz.prog 44 #[ptr A.B] w (SpotsIs w T (2 * T + 1)) := by
  obtain ⟨S, hS⟩ : ∃ S, w.heap.size = S := ⟨_, rfl⟩
  have H : Aside (QFix w A T K) := h
  have CB : Aside (∀ W, Below S w W → W.cell? ⟨A.B, 2, none⟩ = some (.slice (some ⟨A.OR, 0, none⟩) T A.oc)) := fun W hW => (H.out.below (by rw [hS]; exact hW)).cells.2.2.1
  have HS : Hid _ := hS
  clear h hS
  have ix0 : ∀ w : World, (Instr.index 80 (.agg #[.int .i64 1, .int .i64 2]) (.int .i64 0)).run Tryz.prog w = .ok (.int .i64 1) w := fun w => by kernel_rfl
  have ix1 : ∀ w : World, (Instr.index 80 (.agg #[.int .i64 1, .int .i64 2]) (.int .i64 1)).run Tryz.prog w = .ok (.int .i64 2) w := fun w => by kernel_rfl
  go_enter Tryz.func44, Tryz.ntmps44
  go_wp2
  go_loopg [3, 8] 2 (fun kx s3 s8 wr => ∃ (i n cap : Nat) (a : Option Addr), s8 = .int .i64 i ∧ i ≤ 2 ∧ 2 - i ≤ kx ∧ Hid (n = i * T) ∧ s3 = .slice a n cap ∧ Aside (OwnSp wr S a n cap (spL T n)) ∧ Aside (Below S w wr))
  case atStart => exact ⟨0, 0, 0, none, rfl, by omega, by omega, (by show _ = _; omega), rfl, ⟨rfl, World.ownsRow_nil _ _ _ _⟩, Below.refl _ _⟩
  case round =>
    obtain ⟨i, n, cap, a, rfl, hi, hkx, HN, rfl, O, D⟩ := hrel
    by_cases hlt : i < 2
    · have hz : (i : Int) < 2 := by omega
      have cb := CB.out wr D.out
      have hi2 : i = 0 ∨ i = 1 := by omega
      rcases hi2 with rfl | rfl
      · clear hz hlt
        obtain ⟨wo, hwo⟩ : ∃ x, x = wr := ⟨_, rfl⟩
        subst hwo
        go_wp2
        go_loopg [3, 16] T (fun kx2 s3 s16 wr => ∃ (j m cap2 : Nat) (a2 : Option Addr), s16 = .int .i64 j ∧ j ≤ T ∧ T - j ≤ kx2 ∧ Hid (m = j) ∧ s3 = .slice a2 m cap2 ∧ Aside (OwnSp wr S a2 m cap2 (spL T m)) ∧ Aside (Below S w wr))
        case atStart => exact ⟨0, n, cap, a, rfl, by omega, by omega, (by show _ = _; have := HN.out; omega), rfl, O, D⟩
        case round =>
          obtain ⟨j, m, cap2, a2, rfl, hj, hkx2, HM, rfl, O2, D2⟩ := hrel
          by_cases hjl : j < T
          · have hz2 : (j : Int) < (T : Int) := by omega
            have m20 : m ≤ 20 := by have := HM.out; omega
            obtain ⟨S2, hS2⟩ : ∃ S, wr.heap.size = S := ⟨_, rfl⟩
            obtain ⟨u, hu⟩ : ∃ u, wr.alloc (.cells #[.int .i64 1, .int .i64 j] 81) = u := ⟨_, rfl⟩
            have bu : Below wr.heap.size wr u := by rw [← hu]; exact (Below.refl _ _).alloc (Nat.le_refl _) _
            have us : u.heap[S2]? = some (.cells #[.int .i64 1, .int .i64 j] 81 (0, 0)) := by rw [← hu, ← hS2]; exact heap_alloc_new wr _
            have SS : S ≤ u.heap.size := by have := D2.out.size; have := bu.size; have := HS.out; omega
            obtain ⟨r, t', w', hr, o, bb⟩ := app_spot (G := S2) (O2.out.below bu) (ent0 us).1 (ent0 us).2 (by omega) SS 78
            have sp : spotAt T m = (1, (j : Int)) := by
              have := HM.out
              unfold spotAt
              rw [if_pos (by omega), this]
            rw [← sp, ← spL_succ] at o
            have O3 : Aside (OwnSp w' S r (m + 1) t' (spL T (m + 1))) := o
            have D3 : Aside (Below S w w') := bb w (D2.out.trans (bu.mono (by have := D2.out.size; have := HS.out; omega)))
            rw [← hu] at hr
            clear o bb us hu bu sp SS
            go_wp2_with (at_builtin; refine Lib.wpList_append_run _ rfl _ _ 78 78 rfl _ _ rfl rfl _ w' hr ?_)
            go_roundg (T - (j + 1))
            case measure => omega
            case rel => exact ⟨j + 1, m + 1, t', r, by go_num, by omega, Nat.le_refl _, (by show _ = _; have := HM.out; omega), rfl, O3, D3⟩
          · have hz2 : ¬ (j : Int) < (T : Int) := by omega
            go_wp2
            go_roundg (2 - 1)
            case measure => omega
            case rel => exact ⟨1, m, cap2, a2, by go_num, by omega, Nat.le_refl _, (by show _ = _; have := HM.out; omega), rfl, O2, D2⟩
      · clear hz hlt
        obtain ⟨wo, hwo⟩ : ∃ x, x = wr := ⟨_, rfl⟩
        subst hwo
        go_wp2
        go_loopg [3, 16] T (fun kx2 s3 s16 wr => ∃ (j m cap2 : Nat) (a2 : Option Addr), s16 = .int .i64 j ∧ j ≤ T ∧ T - j ≤ kx2 ∧ Hid (m = T + j) ∧ s3 = .slice a2 m cap2 ∧ Aside (OwnSp wr S a2 m cap2 (spL T m)) ∧ Aside (Below S w wr))
        case atStart => exact ⟨0, n, cap, a, rfl, by omega, by omega, (by show _ = _; have := HN.out; omega), rfl, O, D⟩
        case round =>
          obtain ⟨j, m, cap2, a2, rfl, hj, hkx2, HM, rfl, O2, D2⟩ := hrel
          by_cases hjl : j < T
          · have hz2 : (j : Int) < (T : Int) := by omega
            have m20 : m ≤ 20 := by have := HM.out; omega
            obtain ⟨S2, hS2⟩ : ∃ S, wr.heap.size = S := ⟨_, rfl⟩
            obtain ⟨u, hu⟩ : ∃ u, wr.alloc (.cells #[.int .i64 2, .int .i64 j] 81) = u := ⟨_, rfl⟩
            have bu : Below wr.heap.size wr u := by rw [← hu]; exact (Below.refl _ _).alloc (Nat.le_refl _) _
            have us : u.heap[S2]? = some (.cells #[.int .i64 2, .int .i64 j] 81 (0, 0)) := by rw [← hu, ← hS2]; exact heap_alloc_new wr _
            have SS : S ≤ u.heap.size := by have := D2.out.size; have := bu.size; have := HS.out; omega
            obtain ⟨r, t', w', hr, o, bb⟩ := app_spot (G := S2) (O2.out.below bu) (ent0 us).1 (ent0 us).2 (by omega) SS 78
            have sp : spotAt T m = (2, (j : Int)) := by
              have := HM.out
              unfold spotAt
              rw [if_neg (by omega), if_pos (by omega), show m - T = j by omega]
            rw [← sp, ← spL_succ] at o
            have O3 : Aside (OwnSp w' S r (m + 1) t' (spL T (m + 1))) := o
            have D3 : Aside (Below S w w') := bb w (D2.out.trans (bu.mono (by have := D2.out.size; have := HS.out; omega)))
            rw [← hu] at hr
            clear o bb us hu bu sp SS
            go_wp2_with (at_builtin; refine Lib.wpList_append_run _ rfl _ _ 78 78 rfl _ _ rfl rfl _ w' hr ?_)
            go_roundg (T - (j + 1))
            case measure => omega
            case rel => exact ⟨j + 1, m + 1, t', r, by go_num, by omega, Nat.le_refl _, (by show _ = _; have := HM.out; omega), rfl, O3, D3⟩
          · have hz2 : ¬ (j : Int) < (T : Int) := by omega
            go_wp2
            go_roundg (2 - 2)
            case measure => omega
            case rel => exact ⟨2, m, cap2, a2, by go_num, by omega, Nat.le_refl _, (by show _ = _; have := HM.out; omega), rfl, O2, D2⟩
    · have hz : ¬ (i : Int) < 2 := by omega
      obtain ⟨S2, hS2⟩ : ∃ S, wr.heap.size = S := ⟨_, rfl⟩
      obtain ⟨u, hu⟩ : ∃ u, wr.alloc (.cells #[.int .i64 3, .int .i64 0] 81) = u := ⟨_, rfl⟩
      have bu : Below wr.heap.size wr u := by rw [← hu]; exact (Below.refl _ _).alloc (Nat.le_refl _) _
      have us : u.heap[S2]? = some (.cells #[.int .i64 3, .int .i64 0] 81 (0, 0)) := by rw [← hu, ← hS2]; exact heap_alloc_new wr _
      have nT : n = 2 * T := by have := HN.out; have e2 : i = 2 := (by omega); rw [e2] at this; omega
      have SS : S ≤ u.heap.size := by have := D.out.size; have := bu.size; have := HS.out; omega
      obtain ⟨r, t', w', hr, o, bb⟩ := app_spot (G := S2) (O.out.below bu) (ent0 us).1 (ent0 us).2 (by omega) SS 78
      have sp : spotAt T n = (3, 0) := by
        unfold spotAt
        rw [if_neg (by omega), if_neg (by omega)]
      rw [← sp, ← spL_succ] at o
      have b3 : Below S w w' := bb w (D.out.trans (bu.mono (by have := D.out.size; have := HS.out; omega)))
      have FIN : Aside (SpotsIs w T (2 * T + 1) (.returned (.slice r (n + 1) t')) w') := by
        have e : n + 1 = 2 * T + 1 := by omega
        rw [e] at o ⊢
        rw [← HS.out] at o b3
        exact o.is (by omega) b3
      rw [← hu] at hr
      clear o bb us hu bu sp SS b3 nT
      go_wp2_with (at_builtin; refine Lib.wpList_append_run _ rfl _ _ 78 78 rfl _ _ rfl rfl _ w' hr ?_)
      go_ret
      exact FIN.out
end Go.Proofs.YtdcacbjmbfppeaaGreat
