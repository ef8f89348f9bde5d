/- The law's same: a Snap beside the document's Shared. -/
import Derived.Deep.RegionHeld3
import Derived.Deep.QuietTactic
import Derived.BigQuiet
import Derived.Test.YtboccihcomaaoaaShrQ
namespace Go.Proofs.Ytboccihcomaaoaa
open Go.RowKit Go.Lib Go.Sort
set_option linter.unusedVariables false

set_option maxHeartbeats 4000000 in
set_option maxRecDepth 100000 in
theorem ssame_any (S v n Wb base cap cap' : Nat) (ls : List (List Ent)) (a a' : Option Addr) (bs : List Bk) (w : World) (h : Bls w base a n cap ls) (hB : w.heap[Wb]? = some (.cells #[.int .u64 v, .slice a' n cap'] 50 (0, 0))) (hr : RefS w S a' n cap' bs) (hbs : bs.map Bk.d = ls) (hl : n ≤ 9000) :
    Calls Try.prog 26 #[.agg #[.int .u64 v, .slice a n cap], .pointer (some ⟨Wb, 0, none⟩)] w fun r w' => r = .returned (.bool true) ∧ Below w.heap.size w w' := by
  obtain ⟨Z, hZ⟩ : ∃ Z, w.heap.size = Z := ⟨_, rfl⟩
  obtain ⟨u, hu⟩ : ∃ u, w.alloc (.cells #[.int .u64 v, .slice a n cap] 30) = u := ⟨_, rfl⟩
  have HU : Hid _ := hu
  have bu : Below w.heap.size w u := by rw [← hu]; exact (Below.refl _ _).alloc (Nat.le_refl _) _
  have uZ : u.heap[Z]? = some (.cells #[.int .u64 v, .slice a n cap] 30 (0, 0)) := by rw [← hu, ← hZ]; exact heap_alloc_new w _
  have hWb : Wb < Z := by rw [← hZ]; exact lt_of_block hB
  have uB := (bu.block Wb (lt_of_block hB)).trans hB
  obtain ⟨cs, hcs, hcl, hrow⟩ := h
  have UZ : Aside (u.heap[Z]? = some (.cells #[.int .u64 v, .slice a n cap] 30 (0, 0))) := uZ
  have UB : Aside (u.heap[Wb]? = some (.cells #[.int .u64 v, .slice a' n cap'] 50 (0, 0))) := uB
  have ROW : Aside (RowB 34 u base (.slice a n cap) cs) := hrow.below bu
  have REF : Aside (RefS u S a' n cap' bs) := hr.below bu
  have BU : Aside (Below w.heap.size w u) := bu
  have HE : Hid (cs.map Bk.d = bs.map Bk.d) := hcs.trans hbs.symm
  have HCL : Hid _ := hcl
  have y0 : ∀ q, (u.drewN q).cell? ⟨Z, 0, none⟩ = some (.int .u64 v) := fun q => shr0 UZ.out
  have y1 : ∀ q, (u.drewN q).cell? ⟨Z, 1, none⟩ = some (.slice a n cap) := fun q => shr1 UZ.out
  have y2 : ∀ q, (u.drewN q).cell? ⟨Wb, 0, none⟩ = some (.int .u64 v) := fun q => shr0 UB.out
  have y3 : ∀ q, (u.drewN q).cell? ⟨Wb, 1, none⟩ = some (.slice a' n cap') := fun q => shr1 UB.out
  have nWZ : ¬ Wb = Z := by omega
  clear hu bu uZ uB hcs hcl hrow hr hB hbs
  go_enter Try.func26, Try.ntmps26
  go_wp2_with fail
  rw [HU.out]
  go_quiet (fail)
  clear y0 y1 y2 y3
  go_wp2_with fail
  go_loopg [5] n (fun kx s5 wx => ∃ i : Nat, s5 = .int .i64 (i : Int) ∧ i ≤ n ∧ n - i ≤ kx ∧ Aside (Below u.heap.size u wx))
  case atStart => exact ⟨0, rfl, by omega, by omega, Grown.below ⟨nq, #[], by rw [grow_empty]⟩⟩
  case round =>
    obtain ⟨i, rfl, hi, hkx, D⟩ := hrel
    have wB := (D.out.block Wb (lt_of_block UB.out)).trans UB.out
    have x1 := shr1 wB
    by_cases hlt : i < n
    · have hz : (i : Int) < (n : Int) := by omega
      have hic : i < cs.length := by rw [HCL.out]; exact hlt
      have hib : i < bs.length := by rw [REF.out.len]; exact hlt
      have ed : cs[i].d = bs[i].d := by
        have h1 : (cs.map Bk.d)[i]? = (bs.map Bk.d)[i]? := by rw [HE.out]
        simpa [hic, hib] using h1
      obtain ⟨g, hga, _, hgs, e0, e1⟩ := (ROW.out.below D.out).at hic
      obtain ⟨g', off, hga', hgs', f0, f1⟩ := (REF.out.below D.out).cell hib
      have L1 := ((ROW.out.below D.out).own _ (List.getElem_mem hic)).is
      have L2 := ((REF.out.below D.out).lst _ (List.getElem_mem hib)).1
      have wZ := (D.out.block Z (lt_of_block UZ.out)).trans UZ.out
      rw [ed] at e0 e1 L1
      obtain ⟨d, hd⟩ : ∃ d, bs[i].d = d := ⟨_, rfl⟩
      rw [hd] at e0 e1 f0 f1 L1 L2
      obtain ⟨m, hm⟩ : ∃ y, lv d = y := ⟨_, rfl⟩
      obtain ⟨K, hK⟩ : ∃ y, d.length = y := ⟨_, rfl⟩
      obtain ⟨p1, hp1⟩ : ∃ y, cs[i].p = y := ⟨_, rfl⟩
      obtain ⟨q1, hq1⟩ : ∃ y, cs[i].q = y := ⟨_, rfl⟩
      obtain ⟨p2, hp2⟩ : ∃ y, bs[i].p = y := ⟨_, rfl⟩
      obtain ⟨q2, hq2⟩ : ∃ y, bs[i].q = y := ⟨_, rfl⟩
      rw [hm] at e0 f0
      rw [hK, hp1, hq1] at e1
      rw [hK, hp2, hq2] at f1
      rw [hp1, hq1] at L1
      rw [hp2, hq2] at L2
      have SM : Aside (∀ W, Below wr.heap.size wr W → Calls Try.prog 13 #[.slice p1 K q1, .slice p2 K q2] W fun e w' => e = .returned (.bool true) ∧ Below W.heap.size W w') := fun W hW => sameN (B := true) (L1.below hW) (L2.below hW) hK hK (decide_eq_true rfl)
      have KC : Aside (∀ W, Below wr.heap.size wr W → W.cell? ⟨Z, 1, none⟩ = some (.slice a n cap) ∧ W.cell? ⟨Wb, 1, none⟩ = some (.slice a' n cap') ∧ W.cell? ⟨g, i * 2, none⟩ = some (.int .i64 m) ∧ W.cell? ⟨g, i * 2 + 1, none⟩ = some (.slice p1 K q1) ∧ W.cell? ⟨g', off + i * 2, none⟩ = some (.int .i64 m) ∧ W.cell? ⟨g', off + i * 2 + 1, none⟩ = some (.slice p2 K q2)) := fun W hW => ⟨shr1 ((hW.block Z (lt_of_block wZ)).trans wZ), shr1 ((hW.block Wb (lt_of_block wB)).trans wB), (hW.cell (p := ⟨g, i * 2, none⟩) hgs).trans e0, (hW.cell (p := ⟨g, i * 2 + 1, none⟩) hgs).trans e1, (hW.cell (p := ⟨g', off + i * 2, none⟩) hgs').trans f0, (hW.cell (p := ⟨g', off + i * 2 + 1, none⟩) hgs').trans f1⟩
      subst hga hga'
      have hb1 : Below wr.heap.size wr wr.drew := (Below.refl _ _).drew
      have mx := mixed
      clear ed e0 e1 f0 f1 L1 L2 wZ wB hd hm hK hp1 hp2 hq1 hq2
      go_wp2_with fail
      clear x1
      obtain ⟨k1, k2, k3, k4, k5, k6⟩ := KC.out _ hb1
      go_region_held3 (fun v' => v'.cell? ⟨Z, 1, none⟩ = some (.slice (some ⟨g, 0, none⟩) n cap) ∧ v'.cell? ⟨Wb, 1, none⟩ = some (.slice (some ⟨g', off, none⟩) n cap') ∧ v'.cell? ⟨g, i * 2, none⟩ = some (.int .i64 m) ∧ v'.cell? ⟨g, i * 2 + 1, none⟩ = some (.slice p1 K q1) ∧ v'.cell? ⟨g', off + i * 2, none⟩ = some (.int .i64 m) ∧ v'.cell? ⟨g', off + i * 2 + 1, none⟩ = some (.slice p2 K q2)) (first | exact KC.out _ hb1 | exact KC.out _ hb2)
        ((go_at_call 13; (with_reducible refine Calls.mono (SM.out _ hb1) ?_); rintro r w2 ⟨rfl, d2⟩; have hb2 : Below wr.heap.size wr w2 := hb1.trans (d2.mono hb1.size)))
      have D2 : Aside (Below u.heap.size u w2) := D.out.trans (hb2.mono D.out.size)
      clear SM KC hb1 hb2 d2
      go_wp2
      go_roundg (n - (i + 1))
      case measure => omega
      case rel => exact ⟨i + 1, by go_num, by omega, Nat.le_refl _, D2⟩
    · have hz : ¬ (i : Int) < (n : Int) := by omega
      have D2 : Aside (Below Z w wr) := by rw [← hZ]; exact BU.out.trans (D.out.mono BU.out.size)
      go_wp2
      go_ret
      exact ⟨rfl, D2.out⟩
end Go.Proofs.Ytboccihcomaaoaa
