/- lsm: Levels, Check, Min. -/
import Derived.Deep.QuietTactic
import Derived.BigQuiet
import Derived.Test.YtchephglapnloaaLsmR
import Derived.Test.YtchephglapnloaaBlkO
namespace Go.Proofs.Ytchephglapnloaa
open Go.RowKit Go.Lib Go.Sort
set_option linter.unusedVariables false

/-- A row of ints at G: the levels of these. -/
def LevIs (w : World) (G : Nat) (ls : List (List Ent)) : Prop := ∃ cs, w.heap[G]? = some (.cells cs 3 (0, 0)) ∧ ∀ (i : Nat) (d : List Ent), ls[i]? = some d → cs[i]? = some (.int .i64 (lv d))
theorem LevIs.below {w w' : World} {G : Nat} {ls : List (List Ent)} (h : LevIs w G ls) (hw : Below w.heap.size w w') : LevIs w' G ls := by
  obtain ⟨cs, h1, h2⟩ := h
  exact ⟨cs, (hw.block G (lt_of_block h1)).trans h1, h2⟩
theorem LevIs.at {w : World} {G : Nat} {ls : List (List Ent)} (h : LevIs w G ls) {i : Nat} (hi : i < ls.length) : w.cell? ⟨G, i, none⟩ = some (.int .i64 (lv ls[i])) ∧ G < w.heap.size := by
  obtain ⟨cs, h1, h2⟩ := h
  exact ⟨by rw [cell_of_row _ _ _ _ _ _ h1]; exact h2 i _ (List.getElem?_eq_getElem hi), lt_of_block h1⟩
/-- One of an own list's blocks. -/
theorem Lsm.at {w : World} {base B : Nat} {ls : List (List Ent)} (h : Lsm w base B ls) : ∃ (a : Option Addr) (cap : Nat), w.cell? ⟨B, 0, none⟩ = some (.slice a ls.length cap) ∧ ls.length ≤ cap ∧ cap ≤ maxLen ∧ B < w.heap.size ∧
    ∀ (i : Nat) (hi : i < ls.length), ∃ g p q, a = some ⟨g, 0, none⟩ ∧ g < w.heap.size ∧ ∀ W, Below w.heap.size w W → W.cell? ⟨g, i * 2, none⟩ = some (.int .i64 (lv ls[i])) ∧ W.cell? ⟨g, i * 2 + 1, none⟩ = some (.slice p ls[i].length q) ∧ IsL W p q ls[i] := by
  obtain ⟨a, cap, cB, h1, h2, hB, _, _, bs, rfl, row⟩ := h.open
  refine ⟨a, cap, cB, h1, h2, hB, fun i hi => ?_⟩
  have hi' : i < bs.length := by simpa using hi
  obtain ⟨g, e, _, hg, c0, c1⟩ := row.at hi'
  refine ⟨g, bs[i].p, bs[i].q, e, hg, fun W hW => ?_⟩
  simp only [List.getElem_map]
  exact ⟨(hW.cell (p := ⟨g, i * 2, none⟩) hg).trans c0, (hW.cell (p := ⟨g, i * 2 + 1, none⟩) hg).trans c1, (row.own bs[i] (List.getElem_mem hi')).is.below hW⟩

theorem infoI : ∃ i, Try.prog.info? 3 = some i ∧ i.zero = some (.int .i64 0) ∧ i.size = 1 ∧ i.bytes = 8 := by
  have h : (Try.prog.info? 3).map (fun i => (i.zero, i.size, i.bytes)) = some (some (.int .i64 0), 1, 8) := by kernel_rfl
  obtain ⟨i, h1, h2⟩ := Option.map_eq_some_iff.1 h
  simp at h2
  exact ⟨i, h1, h2.1, h2.2.1, h2.2.2⟩
/-- The first k of a row of n ints are the levels of these. -/
def LevUp (w : World) (G n k : Nat) (ls : List (List Ent)) : Prop := ∃ cs, w.heap[G]? = some (.cells cs 3 (0, 0)) ∧ cs.size = n ∧ ∀ (i : Nat) (d : List Ent), i < k → ls[i]? = some d → cs[i]? = some (.int .i64 (lv d))
theorem makeI_run (w : World) (n : Nat) (hn : n ≤ 2000000) (ls : List (List Ent)) :
    ∃ w', (Instr.makeSlice 48 (.int .i64 (n : Int)) (.int .i64 (n : Int))).run Try.prog w = .ok (.slice (some ⟨w.heap.size, 0, none⟩) n n) w' ∧ LevUp w' w.heap.size n 0 ls ∧ Below w.heap.size w w' := by
  obtain ⟨i, hi, hz, hs, hby⟩ := infoI
  obtain ⟨w', h1, h2, h3⟩ := run_makeSlice_full (P := Try.prog) w w.heap.size 48 3 i _ 1 Try.underlying48 hi hz hs .i64 .i64 n (by omega) (by rw [hby]; omega) (by unfold maxLen; omega) (Nat.le_refl _)
  refine ⟨w', h1, ?_, (Below.refl _ _).grown h3 (Nat.le_refl _) (fun k hk => by cases hk)⟩
  rcases h2.2 with ⟨e, _⟩ | ⟨g, cap, cur, e, _, hg, _, _, hz, _⟩
  · cases e
  · injection e with e1 e2 e3
    simp only [Option.some.injEq, Addr.mk.injEq, and_true] at e1
    subst e3
    rw [← e1] at hg
    exact ⟨cur, hg, by omega, fun i d h => absurd h (by omega)⟩
theorem LevUp.step {w : World} {G n k : Nat} {ls : List (List Ent)} (h : LevUp w G n k ls) (hk : k < n) (hl : k < ls.length) {o : Obj} : ∃ x, w.cell? ⟨G, k, none⟩ = some x ∧ w.frozen? ⟨G, k, none⟩ = false ∧ G < w.heap.size ∧ LevUp ((w.setCell ⟨G, k, none⟩ (.int .i64 (lv ls[k]))).alloc o) G n (k + 1) ls := by
  obtain ⟨cs, h1, h2, h3⟩ := h
  have hlt := lt_of_block h1
  have h1' : (w.setCell ⟨G, k, none⟩ (.int .i64 (lv ls[k]))).heap[G]? = some (.cells (cs.setIfInBounds k (.int .i64 (lv ls[k]))) 3 (0, 0)) := by
    rw [setCell_eq_setRow _ G k cs _ _ _ h1]
    exact setRow_heap _ G cs _ _ _ h1
  refine ⟨cs[k]'(by omega), by rw [cell_of_row _ _ _ _ _ _ h1]; exact Array.getElem?_eq_getElem _, by simp [World.frozen?, h1], hlt, cs.setIfInBounds k (.int .i64 (lv ls[k])), ?_, by simp [h2], fun i d hi hd => ?_⟩
  · exact (((Below.refl _ (w.setCell ⟨G, k, none⟩ (.int .i64 (lv ls[k])))).alloc (Nat.le_refl _) o).block G (lt_of_block h1')).trans h1'
  · by_cases e : i = k
    · subst e
      rw [List.getElem?_eq_getElem hl] at hd
      simp only [Option.some.injEq] at hd
      rw [Array.getElem?_setIfInBounds, if_pos rfl, if_pos (by omega), hd]
    · rw [Array.getElem?_setIfInBounds, if_neg (by omega)]
      exact h3 i d (by omega) hd

set_option maxHeartbeats 4000000 in
set_option maxRecDepth 100000 in
theorem llevels_any (B base : Nat) (ls : List (List Ent)) (w : World) (h : Lsm w base B ls) (hlen : ls.length ≤ 10000) :
    Calls Try.prog 21 #[.pointer (some ⟨B, 0, none⟩)] w fun r w' => r = .returned (.slice (some ⟨w.heap.size, 0, none⟩) ls.length ls.length) ∧ LevIs w' w.heap.size ls ∧ Below w.heap.size w w' := by
  obtain ⟨a, cap, cB, hc1, hc2, hB, hat⟩ := h.at
  have AT : Aside (∀ (i : Nat) (hi : i < ls.length), ∃ g p q, a = some ⟨g, 0, none⟩ ∧ g < w.heap.size ∧ ∀ W, Below w.heap.size w W → W.cell? ⟨g, i * 2, none⟩ = some (.int .i64 (lv ls[i])) ∧ W.cell? ⟨g, i * 2 + 1, none⟩ = some (.slice p ls[i].length q) ∧ IsL W p q ls[i]) := hat
  obtain ⟨S, hS⟩ : ∃ S, w.heap.size = S := ⟨_, rfl⟩
  have HS : Hid _ := hS
  have hB2 : B < S := by omega
  obtain ⟨n, hn⟩ : ∃ n, ls.length = n := ⟨_, rfl⟩
  have HN : Hid _ := hn
  rw [hn] at cB hlen ⊢
  obtain ⟨w1, hm, u1, b1⟩ := makeI_run w n (by omega) ls
  rw [hS] at hm u1 b1
  have U1 : Aside (LevUp w1 S n 0 ls) := u1
  have B1 : Aside (Below S w w1) := b1
  have cB1 : w1.cell? ⟨B, 0, none⟩ = some (.slice a n cap) := (b1.cell (p := ⟨B, 0, none⟩) hB2).trans cB
  clear hat h hn hc1 hc2 u1 b1
  go_enter Try.func21, Try.ntmps21
  go_wp2
  go_loopg [17] n (fun kx s17 wr => ∃ (k : Nat), s17 = .int .i64 k ∧ k ≤ n ∧ n - k ≤ kx ∧ Aside (LevUp wr S n k ls) ∧ Aside (Below S w wr))
  case atStart => exact ⟨0, rfl, by omega, by omega, U1, B1⟩
  case round =>
    clear cB1 U1 B1 hm
    obtain ⟨k, rfl, hk, hkx, U, D⟩ := hrel
    by_cases hlt : k < n
    · have hz : (k : Int) < (n : Int) := by omega
      have hkl : k < ls.length := by rw [HN.out]; exact hlt
      obtain ⟨g, p, q, rfl, hg, hcs⟩ := AT.out k hkl
      obtain ⟨c0, c1, L⟩ := hcs wr (by rw [HS.out]; exact D.out)
      obtain ⟨x, y0, y1, y2, u⟩ := U.out.step hlt hkl (o := .cells #[.int .i64 (lv ls[k]), .slice p ls[k].length q] 62)
      obtain ⟨m, hm⟩ : ∃ m, lv ls[k] = m := ⟨_, rfl⟩
      obtain ⟨kl, hkl2⟩ : ∃ m, ls[k].length = m := ⟨_, rfl⟩
      rw [hm] at c0 u
      rw [hkl2] at c1 u
      obtain ⟨R, hR⟩ : ∃ R, wr.heap.size = R := ⟨_, rfl⟩
      have sS : S < R := by omega
      have sg : g < R := by have := D.out.size; omega
      have U2 : Aside (LevUp ((wr.setCell ⟨S, k, none⟩ (.int .i64 m)).alloc (.cells #[.int .i64 m, .slice p kl q] 62)) S n (k + 1) ls) := u
      have D2 : Aside (Below S w ((wr.setCell ⟨S, k, none⟩ (.int .i64 m)).alloc (.cells #[.int .i64 m, .slice p kl q] 62))) := (D.out.setCell (Nat.le_refl _) _).alloc (by have := D.out.size; simp; omega) _
      clear L hcs u hm hkl2 U D
      go_wp2
      go_roundg (n - (k + 1))
      case measure => omega
      case rel => exact ⟨k + 1, by go_num, by omega, Nat.le_refl _, U2, D2⟩
    · have hz : ¬ (k : Int) < (n : Int) := by omega
      go_wp2
      go_ret
      refine ⟨rfl, ?_, D.out⟩
      obtain ⟨cs, h1, h2, h3⟩ := U.out
      refine ⟨cs, h1, fun i d hd => h3 i d ?_ hd⟩
      have := (List.getElem?_eq_some_iff.1 hd).1
      have := HN.out
      omega

set_option maxHeartbeats 4000000 in
set_option maxRecDepth 100000 in
theorem lcheck_any (B base : Nat) (ls : List (List Ent)) (w : World) (h : Lsm w base B ls) (hf : Fall ls) (hlen : ls.length ≤ 10000) (hsum : ls.flatten.length ≤ 10000) :
    Calls Try.prog 14 #[.pointer (some ⟨B, 0, none⟩)] w fun r w' => r = .returned (.int .i64 0) ∧ Below w.heap.size w w' := by
  obtain ⟨a, cap, cB, hc1, hc2, hB, hat⟩ := h.at
  have AT : Aside (∀ (i : Nat) (hi : i < ls.length), ∃ g p q, a = some ⟨g, 0, none⟩ ∧ g < w.heap.size ∧ ∀ W, Below w.heap.size w W → W.cell? ⟨g, i * 2, none⟩ = some (.int .i64 (lv ls[i])) ∧ W.cell? ⟨g, i * 2 + 1, none⟩ = some (.slice p ls[i].length q) ∧ IsL W p q ls[i]) := hat
  obtain ⟨S, hS⟩ : ∃ S, w.heap.size = S := ⟨_, rfl⟩
  have HS : Hid _ := hS
  have hB2 : B < S := by omega
  obtain ⟨n, hn⟩ : ∃ n, ls.length = n := ⟨_, rfl⟩
  have HN : Hid _ := hn
  have HF : Aside (Fall ls) := hf
  have CB : Aside (∀ W, Below S w W → W.cell? ⟨B, 0, none⟩ = some (.slice a n cap)) := fun W hW => by rw [← hn]; exact (hW.cell (p := ⟨B, 0, none⟩) hB2).trans cB
  rw [hn] at cB hlen
  have bnd : ∀ d ∈ ls, d.length ≤ 10000 := fun d hd => by
    obtain ⟨k, hk, rfl⟩ := List.getElem_of_mem hd
    have := (flat_split hk).length_eq
    rw [List.length_append] at this
    omega
  have BND : Aside (∀ d ∈ ls, d.length ≤ 10000) := bnd
  clear hat h hn hc1 hc2 hf bnd hsum
  go_enter Try.func14, Try.ntmps14
  go_wp2
  go_loopg [10] n (fun kx s10 wr => ∃ (k : Nat), s10 = .int .i64 k ∧ k ≤ n ∧ n - k ≤ kx ∧ Aside (Below S w wr))
  case atStart => exact ⟨0, rfl, by omega, by omega, (by rw [← HS.out]; exact Below.refl _ _)⟩
  case round =>
    clear cB
    obtain ⟨k, rfl, hk, hkx, D⟩ := hrel
    by_cases hlt : k < n
    · have hz : (k : Int) < (n : Int) := by omega
      have hkl : k < ls.length := by rw [HN.out]; exact hlt
      obtain ⟨g, p, q, ha, hg, hcs⟩ := AT.out k hkl
      obtain ⟨c0, c1, L⟩ := hcs wr (by rw [HS.out]; exact D.out)
      have hsrt := HF.out.srt _ (List.getElem_mem hkl)
      have hpos := HF.out.pos _ (List.getElem_mem hkl)
      have hbd := BND.out _ (List.getElem_mem hkl)
      obtain ⟨d, hd⟩ : ∃ d, ls[k] = d := ⟨_, rfl⟩
      have HD : Hid _ := hd
      rw [hd] at c0 c1 L hsrt hpos hbd
      obtain ⟨m, hm⟩ : ∃ m, lv d = m := ⟨_, rfl⟩
      obtain ⟨kl, hkl2⟩ : ∃ m, d.length = m := ⟨_, rfl⟩
      have HMM : Hid _ := hm
      rw [hm] at c0
      rw [hkl2] at c1 hpos hbd
      obtain ⟨R, hR⟩ : ∃ R, wr.heap.size = R := ⟨_, rfl⟩
      have sg : g < R := by have := D.out.size; omega
      obtain ⟨v1, hv1⟩ : ∃ v, wr.alloc (.cells #[.int .i64 m, .slice p kl q] 62) = v := ⟨_, rfl⟩
      have bv1 : Below wr.heap.size wr v1 := by rw [← hv1]; exact (Below.refl _ _).alloc (Nat.le_refl _) _
      have HV1 : Hid _ := hv1
      have ok := okB_any p q d v1 (L.below bv1) hsrt (by omega)
      rw [hkl2, show lvl kl = m from by rw [← hkl2]; exact hm] at ok
      have BV : Aside (Below S w v1) := D.out.trans (bv1.mono (by have := D.out.size; omega))
      have xv : Box2 R (.int .i64 m) (.slice p kl q) v1 := by rw [← hv1, ← hR]; exact Box2.new _ _ _ _
      have XV : Aside (Box2 R (.int .i64 m) (.slice p kl q) v1) := xv
      have t1 : ¬ (kl : Int) = 0 := by omega
      have t2 : ((kl : Int) == 0) = false := by simp; omega
      have yR : v1.cell? ⟨R, 1, none⟩ = some (.slice p kl q) := xv.c1
      have HA : Hid _ := ha
      clear hm hkl2 hd L hsrt hcs bv1 hv1 xv D
      have yB := CB.out wr
      clear yB
      subst ha
      go_wp2_with fail
      rw [HV1.out]
      refine ok.mono ?_
      rintro r w2 ⟨rfl, b2⟩
      have z0 := (XV.out.on b2).c0
      have z1 := (XV.out.on b2).c1
      have B2 : Aside (Below S w w2) := BV.out.trans (b2.mono (by have := BV.out.size; have := HS.out; omega))
      clear ok b2 yR c0 c1
      by_cases k0 : k = 0
      · subst k0
        have t3 : ¬ (0 : Int) < 0 := by omega
        have t4 : decide ((0 : Int) < 0) = false := decide_eq_false t3
        go_wp2_with fail
        go_quiet (fail)
        go_wp2
        go_roundg (n - (0 + 1))
        case measure => omega
        case rel => exact ⟨0 + 1, by go_num, by omega, Nat.le_refl _, (by exact (B2.out.trans (Below.mono (Grown.below ⟨nq, #[], by rw [grow_empty]⟩) (by have := B2.out.size; have := HS.out; omega))))⟩
      · obtain ⟨j, rfl⟩ : ∃ j, k = j + 1 := ⟨k - 1, by omega⟩
        have hjl : j < ls.length := by omega
        obtain ⟨g', p', q', ha', hg', hcs'⟩ := AT.out j hjl
        simp only [Option.some.injEq, Addr.mk.injEq, and_true] at ha'
        subst ha'
        obtain ⟨mj, hmj⟩ : ∃ m, lv ls[j] = m := ⟨_, rfl⟩
        have lt : lv ls[j + 1] < lv ls[j] := List.pairwise_iff_getElem.1 HF.out.fall j (j + 1) hjl hkl (by omega)
        rw [HD.out, HMM.out, hmj] at lt
        have y0 : ∀ q, (w2.drewN q).cell? ⟨g, j * 2, none⟩ = some (.int .i64 mj) := fun q => by rw [← hmj]; exact (hcs' w2 (by rw [HS.out]; exact B2.out)).1
        have y1 : ∀ q, (w2.drewN q).cell? ⟨B, 0, none⟩ = some (.slice (some ⟨g, 0, none⟩) n cap) := fun q => CB.out w2 B2.out
        have y2 : ∀ q, (w2.drewN q).cell? ⟨R, 0, none⟩ = some (.int .i64 m) := fun q => z0
        have t3 : (0 : Int) < (j : Int) + 1 := by omega
        have t4 : decide ((0 : Int) < (j : Int) + 1) = true := decide_eq_true t3
        have t5 : ¬ (mj : Int) ≤ (m : Int) := by omega
        have t6 : decide ((mj : Int) ≤ (m : Int)) = false := decide_eq_false t5
        have t7 : (j : Int) < (n : Int) := by omega
        clear hcs' hmj
        go_wp2_with fail
        go_quiet (fail)
        go_wp2
        go_roundg (n - (j + 1 + 1))
        case measure => omega
        case rel => exact ⟨j + 1 + 1, by go_num, by omega, Nat.le_refl _, (by exact (B2.out.trans (Below.mono (Grown.below ⟨nq, #[], by rw [grow_empty]⟩) (by have := B2.out.size; have := HS.out; omega))))⟩
    · have hz : ¬ (k : Int) < (n : Int) := by omega
      go_wp2
      go_ret
      exact ⟨rfl, D.out⟩
end Go.Proofs.Ytchephglapnloaa
