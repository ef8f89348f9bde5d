/- The walk of 'SharedPlays'. -/
import Derived.OpenShut
import Derived.Deep.LoopGhost
import Derived.Deep.CutBlock
import Derived.Deep.DeepCutAuto
import Derived.Test.YtboccihcomaaoaaShrOp
import Derived.Test.YtboccihcomaaoaaShrV12
import Derived.Test.YtboccihcomaaoaaShrV30
import Derived.Test.YtboccihcomaaoaaShrK
import Derived.Test.YtboccihcomaaoaaMask
namespace Go.Proofs.Ytboccihcomaaoaa
open Go.RowKit Go.Lib Go.Sort
set_option linter.unusedVariables false
set_option maxHeartbeats 8000000 in
set_option maxRecDepth 100000 in
theorem sharedPlays_walk (a0 : Option Addr) (len0 cap0 : Nat) (Z : Nat → OpR) (k0 d0 : Int) (w : World) (h0 : IsOps w a0 len0 Z) (h1 : (Lit.int .i64 k0).wf = true) (h2 : (Lit.int .u64 d0).wf = true) :
    Calls Try.prog 5 #[.slice a0 len0 cap0, .int .i64 k0, .int .u64 d0] w fun r w' => r = .returned (.bool true) ∧ Below w.heap.size w w' := by
  obtain ⟨S, hS⟩ : ∃ S, w.heap.size = S := ⟨_, rfl⟩
  have HS : Hid _ := hS
  have bk := bounds_i64 h1
  have bd := bounds_u64 h2
  obtain ⟨dr, hdr⟩ : ∃ dr : Nat, (dr : Int) = d0 := ⟨d0.toNat, by omega⟩
  subst hdr
  obtain ⟨kn, hkn⟩ : ∃ kn : Nat, (kn : Int) = k0 % 32 := ⟨(k0 % 32).toNat, by omega⟩
  have kn32 : kn < 32 := by omega
  have mk : bits .and .i64 k0 31 = (kn : Int) := by rw [hkn]; exact mask_i64 k0 5 31 32 (by omega) (by omega) (by omega)
  have hl := h0.len_le
  have H0 : Aside (IsOps w a0 len0 Z) := h0
  have nw := snew_any w
  rw [hS] at nw
  have B0 : Aside (PlI w S 0 0 [] ((w.alloc (.cells #[.int .u64 0, .slice none 0 0] 69)).alloc (.cells #[.int .u64 0, .slice none 0 0] 50))) := PlI.new w S hS
  have mx := mixed
  clear h0 h1 h2 hkn
  go_enter Try.func5, Try.ntmps5
  go_wp2_with fail
  refine nw.mono ?_
  rintro r w1 ⟨rfl, rfl⟩
  clear nw
  go_wp2_with fail
  generalize (w.alloc (.cells #[.int .u64 0, .slice none 0 0] 69)).alloc (.cells #[.int .u64 0, .slice none 0 0] 50) = w1 at B0 ⊢
  go_loopg [9, 10, 11, 12, 13, 14, 15, 16, 17, 18, 19, 20, 21] 31 (fun kx s9 s10 s11 s12 s13 s14 s15 s16 s17 s18 s19 s20 s21 wr => ∃ (i v : Nat) (ls : List (List Ent)), s9 = .int .i64 (i : Int) ∧ i ≤ len0 ∧ i ≤ 30 ∧ 31 - i ≤ kx ∧ Aside (PlI w S i v ls wr))
  case atStart => exact ⟨0, 0, [], rfl, by omega, by omega, by omega, B0⟩
  case round =>
    clear B0
    obtain ⟨i, v, ls, rfl, hil, hi30, hix, BO⟩ := hrel
    have sz := BO.out.sz
    by_cases hlt : i < len0 ∧ i < 30
    · obtain ⟨hlt1, hlt2⟩ := hlt
      have hz : (i : Int) < (len0 : Int) := by omega
      have hz30 : (i : Int) < 30 := by omega
      obtain ⟨b, off, ha, hb, c0, c1, c2, c3, c4, c5, LL, LM⟩ := H0.out.elem i hlt1
      obtain ⟨o, hO⟩ : ∃ o, Z i = o := ⟨_, rfl⟩
      rw [hO] at c0 c1 c2 c3 c4 c5 LL LM
      obtain ⟨kind, id, lev, old, pl, ql, L, pm, qm, M⟩ := o
      dsimp only at c0 c1 c2 c3 c4 c5 LL LM
      obtain ⟨kl, hkl⟩ : ∃ y, L.length = y := ⟨_, rfl⟩
      obtain ⟨km, hkm⟩ : ∃ y, M.length = y := ⟨_, rfl⟩
      have HKL : Hid _ := hkl
      have HKM : Hid _ := hkm
      rw [hkl] at c4
      rw [hkm] at c5
      have LS : Aside (IsL w pl ql L ∧ IsL w pm qm M) := ⟨LL, LM⟩
      have c0 := (BO.out.d.cell (p := ⟨b, off + i * 6, none⟩) (by show b < S; omega)).trans c0
      have c1 := (BO.out.d.cell (p := ⟨b, off + i * 6 + 1, none⟩) (by show b < S; omega)).trans c1
      have c2 := (BO.out.d.cell (p := ⟨b, off + i * 6 + 2, none⟩) (by show b < S; omega)).trans c2
      have c3 := (BO.out.d.cell (p := ⟨b, off + i * 6 + 3, none⟩) (by show b < S; omega)).trans c3
      have c4 := (BO.out.d.cell (p := ⟨b, off + i * 6 + 4, none⟩) (by show b < S; omega)).trans c4
      have c5 := (BO.out.d.cell (p := ⟨b, off + i * 6 + 5, none⟩) (by show b < S; omega)).trans c5
      obtain ⟨B10, hB10⟩ : ∃ O, wr.heap.size = O := ⟨_, rfl⟩
      obtain ⟨u, hu⟩ : ∃ u, wr.alloc (.cells #[.int .i64 kind, .int .i64 id, .int .i64 lev, .bool old, .slice pl kl ql, .slice pm km qm] 52) = u := ⟨_, rfl⟩
      have HU : Hid _ := hu
      have xo : u.heap[B10]? = some (.cells #[.int .i64 kind, .int .i64 id, .int .i64 lev, .bool old, .slice pl kl ql, .slice pm km qm] 52 (0, 0)) := by rw [← hu, ← hB10]; exact heap_alloc_new wr _
      have XO : Aside (u.heap[B10]? = some (.cells #[.int .i64 kind, .int .i64 id, .int .i64 lev, .bool old, .slice pl kl ql, .slice pm km qm] 52 (0, 0))) := xo
      have BU : Aside (PlI w S i v ls u) := by rw [← hu]; exact BO.out.on (bel_alloc _ _)
      have y4 : u.cell? ⟨B10, 4, none⟩ = some (.slice pl kl ql) := by rw [cell_of_row _ _ _ _ _ _ xo]; rfl
      have y5 : u.cell? ⟨B10, 5, none⟩ = some (.slice pm km qm) := by rw [cell_of_row _ _ _ _ _ _ xo]; rfl
      have HLO : Hid (S + 1 < B10) := by show S + 1 < B10; omega
      subst ha
      clear hO BO hu LL LM hkl hkm xo
      go_upto_region 9 with fail
      rw [HU.out]
      clear c0 c1 c2 c3 c4 c5 HU hB10
      by_cases big : 40 < kl
      · have t1 : (40 : Int) < (kl : Int) := by omega
        have t2 : decide ((40 : Int) < (kl : Int)) = true := decide_eq_true t1
        go_wp2_with fail
        refine (sawake_any u).mono ?_
        rintro r w3 ⟨rfl, b3⟩
        have D3 : Aside (Below S w w3) := BU.out.d.trans (b3.mono (by have := BU.out.sz; omega))
        clear b3
        go_wp2
        go_ret
        exact ⟨rfl, by rw [hS]; exact D3.out⟩
      · have t1 : ¬ (40 : Int) < (kl : Int) := by omega
        have t2 : decide ((40 : Int) < (kl : Int)) = false := decide_eq_false t1
        by_cases big2 : 40 < km
        · have t3 : (40 : Int) < (km : Int) := by omega
          have t4 : decide ((40 : Int) < (km : Int)) = true := decide_eq_true t3
          go_wp2_with fail
          refine (sawake_any u).mono ?_
          rintro r w3 ⟨rfl, b3⟩
          have D3 : Aside (Below S w w3) := BU.out.d.trans (b3.mono (by have := BU.out.sz; omega))
          clear b3
          go_wp2
          go_ret
          exact ⟨rfl, by rw [hS]; exact D3.out⟩
        · have t3 : ¬ (40 : Int) < (km : Int) := by omega
          have t4 : decide ((40 : Int) < (km : Int)) = false := decide_eq_false t3
          obtain ⟨n, hn⟩ : ∃ n, ls.length = n := ⟨_, rfl⟩
          have n62 : n ≤ 62 := by have := BU.out.len; omega
          have sn := snap_any S v n ls u BU.out.p hn (by omega) (fun d hd => by have := mem_len hd; have := BU.out.sum; omega)
          have HN : Hid _ := hn
          clear hn
          go_wp2_with fail
          (with_reducible refine Calls.mono sn ?_)
          rintro r w2 ⟨sa, sc, rfl, l2, b2⟩
          obtain ⟨B11, hB11⟩ : ∃ O, w2.heap.size = O := ⟨_, rfl⟩
          obtain ⟨u2, hu2⟩ : ∃ u, w2.alloc (.cells #[.int .u64 v, .slice sa n sc] 30) = u := ⟨_, rfl⟩
          have HU2 : Hid _ := hu2
          have bu2 : Below w2.heap.size w2 u2 := by rw [← hu2]; exact bel_alloc _ _
          have x11 : u2.heap[B11]? = some (.cells #[.int .u64 v, .slice sa n sc] 30 (0, 0)) := by rw [← hu2, ← hB11]; exact heap_alloc_new w2 _
          have b12 : Below u.heap.size u u2 := b2.trans (bu2.mono b2.size)
          have p2 := BU.out.on b12
          obtain ⟨ra, rn, rc, rbs, r1, r2, r3⟩ := p2.r
          have ern : rn = n := by rw [← HN.out, ← r1, List.length_map, r3.len]
          subst ern
          obtain ⟨B12, hB12⟩ : ∃ O, u2.heap.size = O := ⟨_, rfl⟩
          obtain ⟨u3, hu3⟩ : ∃ u, (u2.alloc (.cells #[.int .u64 v, .slice ra rn rc] 50)).drew = u := ⟨_, rfl⟩
          have bu3 : Below u2.heap.size u2 u3 := by rw [← hu3]; exact (bel_alloc _ _).drew
          have x12 : u3.heap[B12]? = some (.cells #[.int .u64 v, .slice ra rn rc] 50 (0, 0)) := by rw [← hu3, ← hB12]; exact heap_alloc_new u2 _
          have b23 : Below w2.heap.size w2 u3 := bu2.trans (bu3.mono bu2.size)
          have PU : Aside (PlI w S i v ls u3) := p2.on bu3
          have OU : Aside (OldI S B10 B11 B12 v rn ⟨kind, id, lev, old, pl, ql, L, pm, qm, M⟩ sa sc ls u3) := by
            refine ⟨?_, (bu3.block _ (lt_of_block x11)).trans x11, ⟨u.heap.size, BU.out.sz, l2.below b23⟩, ⟨ra, rc, rbs, r1, x12, r3.below bu3⟩, HLO.out, ?_, ?_⟩
            · show u3.heap[B10]? = some (.cells #[.int .i64 kind, .int .i64 id, .int .i64 lev, .bool old, .slice pl L.length ql, .slice pm M.length qm] 52 (0, 0))
              rw [HKL.out, HKM.out]
              exact ((b12.trans (bu3.mono b12.size)).block _ (lt_of_block XO.out)).trans XO.out
            · have := BU.out.sz; have := b2.size; omega
            · have := BU.out.sz; have := b12.size; omega
          have R2 : Aside (u2.heap[S + 1]? = some (.cells #[.int .u64 v, .slice ra rn rc] 50 (0, 0))) := r2
          have HB12 : Hid _ := hB12
          have HU3 : Hid _ := hu3
          clear sn l2 b2 bu2 bu3 b12 b23 x11 x12 r1 r2 r3 p2 hu2 hu3 y4 y5 XO BU hB12
          go_upto_region 12 with fail
          rw [HU2.out]
          clear hB11
          refine spl_reg12 (fun _ _ _ _ _ h => h) R2.out HB12.out ?_
          intro f54 f55 f56 f57 f58 f59 f60 f61 f62 f63
          rw [HU3.out]
          obtain ⟨y0, y1, y2, y3, y4, y5⟩ := OU.out.cells
          dsimp only at y0 y1 y2 y3 y4 y5
          rw [HKL.out] at y4
          rw [HKM.out] at y5
          clear R2
          go_upto_block 2 with fail
          go_cut [] (fun wx => ∃ v' ks, PlI w S (i + 1) v' ks wx ∧ OldI S B10 B11 B12 v rn ⟨kind, id, lev, old, pl, ql, L, pm, qm, M⟩ sa sc ls wx)
          case first =>
            by_cases k0 : kind = 0
            · subst k0
              obtain ⟨v', hv'⟩ : ∃ v', (if kl = 0 then v else v + 1) = v' := ⟨_, rfl⟩
              have vi : v' ≤ i + 1 := by have := PU.out.ver; rw [← hv']; split <;> omega
              have p1 := sadd_any S v ls pl kl ql L u3 PU.out.p (LS.out.1.below (by rw [hS]; exact PU.out.d)) HKL.out (by have := PU.out.len; omega) (by have := PU.out.sum; omega) PU.out.srt (by have := PU.out.ver; omega)
              rw [hv'] at p1
              have HV : Hid _ := hv'
              clear hv' y0 y1 y2 y3 y5
              have y0 := OU.out.cells.1
              dsimp only at y0
              go_wp2_with fail
              (with_reducible refine Calls.mono p1 ?_)
              rintro r w4 ⟨rfl, s4, g4⟩
              have q4 := PU.out.mid g4
              have o4 := OU.out.gp PU.out g4
              have z4 := o4.cells.2.2.2.2.1
              dsimp only at z4
              rw [HKL.out] at z4
              have sz4 : w.heap.size ≤ u3.heap.size := PU.out.d.size
              have D4 : Below S w w4 := PU.out.d.trans (below_of_grown g4 (Nat.le_refl _) (by have := PU.out.sz; omega))
              have p2 := rsadd_any S v ls pl kl ql L w4 q4 (LS.out.1.below (by rw [hS]; exact D4)) HKL.out (by have := PU.out.len; omega) (by have := PU.out.sum; omega) (by have := PU.out.ver; omega)
              rw [HV.out] at p2
              have S4 : Aside (Shr w4 S v' (addS ls L)) := s4
              have G4 : Aside (u3.grownBy w4 (some S)) := g4
              have Q4 : Aside (RShr w4 S v ls) := q4
              have O4 : Aside (OldI S B10 B11 B12 v rn ⟨0, id, lev, old, pl, ql, L, pm, qm, M⟩ sa sc ls w4) := o4
              clear p1 s4 g4 q4 o4 y0 y4 D4
              go_wp2_with fail
              (with_reducible refine Calls.mono p2 ?_)
              rintro r w5 ⟨rfl, s5, g5⟩
              have P5 : Aside (PlI w S (i + 1) v' (addS ls L) w5) := PU.out.step S4.out G4.out Q4.out s5 g5 (addS_srt L PU.out.srt) (by have := addS_count ls L; have := PU.out.len; omega) (by rw [addS_len, HKL.out]; have := PU.out.sum; omega) vi
              have O5 : Aside (OldI S B10 B11 B12 v rn ⟨0, id, lev, old, pl, ql, L, pm, qm, M⟩ sa sc ls w5) := O4.out.gr Q4.out g5
              clear p2 s5 g5 z4
              go_wp2_with fail
              go_meet
              exact ⟨_, _, P5.out, O5.out⟩
            · have k2 : (kind == 0) = false := by simp [k0]
              by_cases k1 : kind = 1
              · subst k1
                obtain ⟨H, hH⟩ : ∃ h, hasL ls.flatten id = h := ⟨_, rfl⟩
                obtain ⟨v', hv'⟩ : ∃ v', (if H = true then v + 1 else v) = v' := ⟨_, rfl⟩
                have vi : v' ≤ i + 1 := by have := PU.out.ver; rw [← hv']; split <;> omega
                have q1 : Below u3.heap.size u3 u3.drew := bel_D _
                have PD1 : Aside (PlI w S i v ls u3.drew) := PU.out.on q1
                have OD1 : Aside (OldI S B10 B11 B12 v rn ⟨1, id, lev, old, pl, ql, L, pm, qm, M⟩ sa sc ls u3.drew) := OU.out.on q1
                have d1 : Aside (Calls Try.prog 11 #[.pointer (some ⟨S, 0, none⟩), .int .i64 id] u3.drew fun r w' => r = .returned (.bool H) ∧ (Shr w' S v' (dropS ls id) ∧ RShr w' S v ls ∧ OldI S B10 B11 B12 v rn ⟨1, id, lev, old, pl, ql, L, pm, qm, M⟩ sa sc ls w' ∧ u3.drew.grownBy w' (some S))) := by
                  refine (sdrop_any S v ls id u3.drew PD1.out.p (by have := PU.out.len; omega) (by have := PU.out.sum; omega) PU.out.srt (by have := PU.out.ver; omega)).mono ?_
                  rintro r w' ⟨h1, h2, h3⟩
                  rw [hH] at h1 h2
                  rw [hv'] at h2
                  exact ⟨h1, h2, PD1.out.mid h3, OD1.out.gp PD1.out h3, h3⟩
                have d2 : Aside (∀ W, (Shr W S v' (dropS ls id) ∧ RShr W S v ls ∧ OldI S B10 B11 B12 v rn ⟨1, id, lev, old, pl, ql, L, pm, qm, M⟩ sa sc ls W ∧ u3.drew.grownBy W (some S)) → Calls Try.prog 19 #[.pointer (some ⟨S + 1, 0, none⟩), .int .i64 id] W fun r w' => r = .returned (.bool H) ∧ (PlI w S (i + 1) v' (dropS ls id) w' ∧ OldI S B10 B11 B12 v rn ⟨1, id, lev, old, pl, ql, L, pm, qm, M⟩ sa sc ls w')) := fun W hW => by
                  obtain ⟨e1, e2, e3, e4⟩ := hW
                  refine (rsdrop_any S v ls id W e2 (by have := PU.out.len; omega) (by have := PU.out.sum; omega) PU.out.srt (by have := PU.out.ver; omega)).mono ?_
                  rintro r w' ⟨h1, h2, h3⟩
                  rw [hH] at h1 h2
                  rw [hv'] at h2
                  exact ⟨h1, PD1.out.step e1 e4 e2 h2 h3 (dropS_srt id PU.out.srt) (by have := dropS_count ls id; have := PU.out.len; omega) (by have := dropS_len ls id; have := PU.out.sum; omega) vi, e3.gr e2 h3⟩
                clear hH hv' k0
                go_upto_region 24 with fail
                refine spl_reg24 (fun _ _ _ _ _ h => h) (OD1.out.cells.2.1) (fun W h => h.2.2.1.cells.2.1) (fun W h => h.2.cells.2.1) d1.out d2.out ?_
                intro z hz' f100 f101 f102 f103 f104 f105 f106 f107
                have PZ : Aside (PlI w S (i + 1) v' (dropS ls id) z ∧ OldI S B10 B11 B12 v rn ⟨1, id, lev, old, pl, ql, L, pm, qm, M⟩ sa sc ls z) := hz'
                clear hz' d1 d2 PD1 OD1 q1
                go_wp2_with fail
                go_meet
                exact ⟨_, _, PZ.out.1, PZ.out.2⟩
              · have k3 : (kind == 1) = false := by simp [k1]
                obtain ⟨xs, hxs⟩ : ∃ xs, rawOf lev L M = xs := ⟨_, rfl⟩
                obtain ⟨nn, hnn⟩ : ∃ nn, xs.length = nn := ⟨_, rfl⟩
                have bl := blks_any S kind id lev old pl pm ql qm kl km L M u3 PU.out.sz (IsL.lst LS.out.1 (by rw [hS]; exact Nat.le_refl _) (by rw [hS]; exact PU.out.d)) HKL.out (LS.out.2.below (by rw [hS]; exact PU.out.d)) HKM.out (by omega) (n := nn) (by rw [hxs]; exact hnn)
                rw [hxs] at bl
                have XF : Aside (xs.length ≤ 2 ∧ (∀ x ∈ xs, x.2.length ≤ 40) ∧ (xs.map Prod.snd).flatten.length ≤ 80) := by
                  have l1 := HKL.out
                  have l2 : (sortE M).length = km := by rw [sortE_len]; exact HKM.out
                  rw [← hxs]
                  unfold rawOf
                  split
                  · refine ⟨by simp, fun x hx => ?_, ?_⟩
                    · rw [List.mem_singleton] at hx
                      subst hx
                      show (sortE M).length ≤ 40
                      omega
                    · simp only [List.map_cons, List.map_nil, List.flatten_cons, List.flatten_nil, List.append_nil]
                      omega
                  · refine ⟨by simp, fun x hx => ?_, ?_⟩
                    · rcases List.mem_cons.1 hx with rfl | hx
                      · show L.length ≤ 40
                        omega
                      · rw [List.mem_singleton] at hx
                        subst hx
                        show (sortE M).length ≤ 40
                        omega
                    · simp only [List.map_cons, List.map_nil, List.flatten_cons, List.flatten_nil, List.append_nil, List.length_append]
                      omega
                have HNN : Hid _ := hnn
                clear hxs hnn
                go_wp2_with fail
                (with_reducible refine Calls.mono bl ?_)
                rintro r w4 ⟨x, cx, y, cy, ys, rfl, rx, ry, hys, ne4, b4⟩
                have NE : Aside (∀ g, y = some ⟨g, 0, none⟩ → S + 1 < g) := ne4
                have P4 : Aside (PlI w S i v ls w4) := PU.out.on b4
                have O4 : Aside (OldI S B10 B11 B12 v rn ⟨kind, id, lev, old, pl, ql, L, pm, qm, M⟩ sa sc ls w4) := OU.out.on b4
                have RX : Aside (RawB w4 x xs) := rx
                have RY : Aside (RawR w4 S y ys) := ry
                have HYS : Hid _ := hys
                obtain ⟨ra4, rn4, rc4, rbs4, _, r24, _⟩ := P4.out.r
                have v4 := shr0 r24
                have z3 := O4.out.cells.2.2.2.1
                dsimp only at z3
                clear bl rx ry hys b4 ne4 y0 y1 y2 y3 y4 y5 r24
                cases old with
                | true =>
                  obtain ⟨V3, hV3⟩ : ∃ V3 : Nat, V3 = v + 3 := ⟨_, rfl⟩
                  have wv : IntKind.u64.wrap ((v : Int) + 3) = (V3 : Int) := by rw [IntKind.wrap_u64, Int.emod_eq_of_lt (by omega) (by have := P4.out.ver; omega)]; omega
                  have p1 := swap_old S v V3 ls x nn cx w4 P4.out.p (by omega)
                  have p2 := rswap_old S v V3 ls y nn cy w4 P4.out.r (by omega)
                  clear hV3
                  go_wp2_with fail
                  (with_reducible refine Calls.mono p1 ?_)
                  rintro r w5 ⟨rfl, e5⟩
                  subst e5
                  go_wp2_with fail
                  (with_reducible refine Calls.mono p2 ?_)
                  rintro r w6 ⟨rfl, e6⟩
                  subst e6
                  clear p1 p2 v4 z3
                  go_wp2_with fail
                  go_meet
                  exact ⟨_, _, P4.out.up, O4.out⟩
                | false =>
                  obtain ⟨Bx, hBx⟩ : ∃ b, xs.all okX = b := ⟨_, rfl⟩
                  have hBy : ys.all okB = Bx := by rw [← hBx, ← HYS.out, List.all_map]; rfl
                  have em : xs.map Prod.snd = ys.map (fun x => x.2.d) := by rw [← HYS.out, List.map_map]; rfl
                  have yl : ys.length = nn := by rw [← HNN.out, ← HYS.out, List.length_map]
                  have p1 := swapX_any S v ls x nn cx xs w4 P4.out.p (by have := P4.out.ver; omega) RX.out HNN.out (by have := XF.out.1; have := HNN.out; omega) (fun x hx => by have := XF.out.2.1 x hx; omega)
                  have HBX : Hid _ := hBx
                  have HBY : Hid _ := hBy
                  have HEM : Hid _ := em
                  have HYL : Hid _ := yl
                  clear hBx hBy em yl
                  go_wp2_with fail
                  (with_reducible refine Calls.mono p1 ?_)
                  rintro r w5 ⟨hr, s5, g5⟩
                  rw [HBX.out] at hr s5
                  subst hr
                  have q5 := P4.out.mid g5
                  have O5 : Aside (OldI S B10 B11 B12 v rn ⟨kind, id, lev, false, pl, ql, L, pm, qm, M⟩ sa sc ls w5) := O4.out.gp P4.out g5
                  have p2 := rswap_any S v ls y nn cy ys w5 q5 (by have := P4.out.ver; omega) (RY.out.grown g5 NE.out) HYL.out (by have := XF.out.1; have := HNN.out; omega) (fun e he => by
                    have h1 := XF.out.2.1 (e.1, e.2.d) (by rw [← HYS.out]; exact List.mem_map.2 ⟨e, he, rfl⟩)
                    dsimp only at h1
                    omega)
                  have S5 : Aside (if Bx = true then Shr w5 S (v + 1) (xs.map Prod.snd) else Shr w5 S v ls) := s5
                  have G5 : Aside (w4.grownBy w5 (some S)) := g5
                  have Q5 : Aside (RShr w5 S v ls) := q5
                  clear p1 s5 g5 q5 v4 z3
                  go_wp2_with fail
                  (with_reducible refine Calls.mono p2 ?_)
                  rintro r w6 ⟨hr, s6, g6⟩
                  rw [HBY.out] at hr s6
                  subst hr
                  have O6 : Aside (OldI S B10 B11 B12 v rn ⟨kind, id, lev, false, pl, ql, L, pm, qm, M⟩ sa sc ls w6) := O5.out.gr Q5.out g6
                  have P6 : Aside (∃ v' ks, PlI w S (i + 1) v' ks w6) := by
                    have s5 := S5.out
                    cases Bx with
                    | true =>
                      rw [if_pos rfl] at s5 s6
                      rw [← HEM.out] at s6
                      obtain ⟨_, srt⟩ := okX_lvs HBX.out
                      exact ⟨v + 1, xs.map Prod.snd, P4.out.step s5 G5.out Q5.out s6 g6 srt (by rw [List.length_map]; have := XF.out.1; omega) (by have := XF.out.2.2; omega) (by have := P4.out.ver; omega)⟩
                    | false =>
                      rw [if_neg (by simp)] at s5 s6
                      exact ⟨v, ls, P4.out.step s5 G5.out Q5.out s6 g6 P4.out.srt (by have := P4.out.len; omega) (by have := P4.out.sum; omega) (by have := P4.out.ver; omega)⟩
                  clear p2 s6 g6
                  go_wp2_with fail
                  go_meet
                  obtain ⟨v', ks, h⟩ := P6.out
                  exact ⟨v', ks, h, O6.out⟩
          case rest =>
            obtain ⟨v', ks, P, O⟩ := hcut
            have PP : Aside (PlI w S (i + 1) v' ks wc) := P
            have OO : Aside (OldI S B10 B11 B12 v rn ⟨kind, id, lev, old, pl, ql, L, pm, qm, M⟩ sa sc ls wc) := O
            obtain ⟨qa, qn, qc, qbs, q1, q2, q3⟩ := P.r
            have i1 := shr1 q2
            have hkn : ks.length = qn := by rw [← q1, List.length_map, q3.len]
            have ib := q3.isBs
            rw [q1] at ib
            obtain ⟨D, hD⟩ : ∃ D, sortE ks.flatten = D := ⟨_, rfl⟩
            obtain ⟨T, hT⟩ : ∃ T, ks.flatten.length = T := ⟨_, rfl⟩
            have T24 : T ≤ 2480 := by have := P.sum; omega
            have dT : D.length = T := by rw [← hD, sortE_len, hT]
            have qn62 : qn ≤ 62 := by have := P.len; omega
            have al := refAll_any qa qc ks wc ib (by omega)
            rw [hkn, hD] at al
            obtain ⟨x, ok, cp, cr⟩ := cand_both S v' ks k0 dr (by omega) bk (by omega)
            have CP : Aside (∀ W, Shr W S v' ks → Calls Try.prog 24 #[.pointer (some ⟨S, 0, none⟩), .int .i64 k0, .int .u64 dr] W (CandIs W x ok)) := cp
            have CR : Aside (∀ W, RShr W S v' ks → Calls Try.prog 25 #[.pointer (some ⟨S + 1, 0, none⟩), .int .i64 k0, .int .u64 dr] W (CandIs W x ok)) := cr
            have HT : Hid _ := hT
            have HD : Hid _ := hD
            have DT : Hid _ := dT
            have HKN : Hid _ := hkn
            clear P O q1 q2 q3 ib hD hT dT cp cr PU OU hkn y0 y1 y2 y3 y4 y5
            go_wp2_with fail
            (with_reducible refine Calls.mono al ?_)
            rintro r w6 ⟨pa, pc, hr, l6, b6⟩
            rw [DT.out] at hr
            subst hr
            have L6 : Aside (IsL w6 pa pc D) := l6
            have B6 : Aside (Below wc.heap.size wc w6) := b6
            have c1 := CP.out w6 (PP.out.on b6).p
            clear al l6 b6 i1
            go_wp2_with fail
            (with_reducible refine Calls.mono c1 ?_)
            rintro r w7 ⟨rfl, b7⟩
            obtain ⟨B17, hB17⟩ : ∃ O, w7.heap.size = O := ⟨_, rfl⟩
            obtain ⟨u7, hu7⟩ : ∃ u, w7.alloc (.cells #[.int .u64 x.1, .int .i64 x.2] 37) = u := ⟨_, rfl⟩
            have HU7 : Hid _ := hu7
            have x17 : u7.heap[B17]? = some (.cells #[.int .u64 x.1, .int .i64 x.2] 37 (0, 0)) := by rw [← hu7, ← hB17]; exact heap_alloc_new w7 _
            have b67 : Below w6.heap.size w6 u7 := by rw [← hu7]; exact b7.trans ((bel_alloc w7 _).mono b7.size)
            have B7 : Aside (Below wc.heap.size wc u7) := B6.out.trans (b67.mono B6.out.size)
            have X17 : Aside (u7.heap[B17]? = some (.cells #[.int .u64 x.1, .int .i64 x.2] 37 (0, 0))) := x17
            have L7 : Aside (IsL u7 pa pc D) := L6.out.below b67
            have c2 := CR.out u7 (PP.out.on B7.out).r
            clear c1 b7 hu7 x17 b67 L6 B6
            go_wp2_with fail
            rw [HU7.out]
            clear hB17
            (with_reducible refine Calls.mono c2 ?_)
            rintro r w8 ⟨rfl, b8⟩
            obtain ⟨B19, hB19⟩ : ∃ O, w8.heap.size = O := ⟨_, rfl⟩
            obtain ⟨u8, hu8⟩ : ∃ u, w8.alloc (.cells #[.int .u64 x.1, .int .i64 x.2] 37) = u := ⟨_, rfl⟩
            have HU8 : Hid _ := hu8
            have x19 : u8.heap[B19]? = some (.cells #[.int .u64 x.1, .int .i64 x.2] 37 (0, 0)) := by rw [← hu8, ← hB19]; exact heap_alloc_new w8 _
            have b78 : Below u7.heap.size u7 u8 := by rw [← hu8]; exact b8.trans ((bel_alloc w8 _).mono b8.size)
            have B8 : Aside (Below wc.heap.size wc u8) := B7.out.trans (b78.mono B7.out.size)
            have X19 : Aside (u8.heap[B19]? = some (.cells #[.int .u64 x.1, .int .i64 x.2] 37 (0, 0))) := x19
            have X18 : Aside (u8.heap[B17]? = some (.cells #[.int .u64 x.1, .int .i64 x.2] 37 (0, 0))) := (b78.block _ (lt_of_block X17.out)).trans X17.out
            have L8 : Aside (IsL u8 pa pc D) := L7.out.below b78
            clear c2 b8 hu8 x19 b78 L7 B7 X17
            go_upto_region 30 with fail
            rw [HU8.out]
            clear hB19
            have P8 := PP.out.on B8.out
            have O8 := OO.out.on B8.out
            obtain ⟨base, _, row8⟩ := O8.row
            obtain ⟨a8, c8, bs8, e8, h8, ref8⟩ := O8.ref
            obtain ⟨ta, tn, tc, tbs, t1, t2, t3⟩ := P8.r
            have etn : tn = qn := by rw [← HKN.out, ← t1, List.length_map, t3.len]
            subst etn
            have hls : ∀ d ∈ ks, d.length ≤ 1000000 := fun d hd => by have := mem_len hd; have := HT.out; omega
            refine spl_reg30 (S := S) (v := v') (n := tn) (ls := ks) (D := D) (T := T) (K := min kn T) (v0 := v) (n0 := rn) (c0 := sc) (a0 := sa) (x := x) (fun _ _ _ _ _ h => h)
              (fun W hW => ⟨shr0 ((hW.block _ (lt_of_block O8.c11)).trans O8.c11), shr1 ((hW.block _ (lt_of_block O8.c11)).trans O8.c11), shr0 ((hW.block _ (lt_of_block X18.out)).trans X18.out), shr1 ((hW.block _ (lt_of_block X18.out)).trans X18.out), shr0 ((hW.block _ (lt_of_block X19.out)).trans X19.out), shr1 ((hW.block _ (lt_of_block X19.out)).trans X19.out)⟩)
              (fun W hW => ssame_any S v rn B12 base sc c8 ls sa a8 bs8 W (row8.below hW) ((hW.block _ (lt_of_block h8)).trans h8) (ref8.below hW) e8 (by omega))
              (fun W hW => snap_any S v' tn ks W (P8.p.below hW) HKN.out (by omega) hls)
              (fun W a c base hW hb => ssame_any S v' tn (S + 1) base c tc ks a ta tbs W hb ((hW.block _ (lt_of_block t2)).trans t2) (t3.below hW) t1 (by omega))
              (fun W hW => by
                have := sall_any S v' ks W (P8.p.below hW) (by rw [HT.out]; omega)
                rw [HT.out, HD.out] at this
                exact this)
              L8.out DT.out (by omega)
              (fun W hW => by
                have := slen_any S v' ks W (P8.p.below hW) (by rw [HT.out]; omega)
                rw [HT.out] at this
                exact this)
              (fun W hW => by
                have := sfirst_any S v' ks (kn : Int) (min kn T) W (P8.p.below hW) (by rw [HT.out]; omega) (by rw [HT.out]; unfold wth; omega)
                rw [HD.out] at this
                exact this)
              rfl ?_
            intro z bz f130 f131 f132 f133 f134 f135 f136 f137 f138 f139 f140 f141 f142 f143 f144 f145 f146 f147 f148 f149 f150 f151 f152 f153 f154 f155 f156 f157 f158 f159 f160 f161 f162 f163 f164 f165 f166 f167 f168 f169 f170 f171 f172 f173 f174 f175 f176
            have P9 : Aside (PlI w S (i + 1) v' ks z) := P8.on bz
            clear bz P8 O8 row8 ref8 t1 t2 t3 h8 e8 hls
            go_wp2
            go_roundg (31 - (i + 1))
            case measure => omega
            case rel => exact ⟨i + 1, v', ks, by go_num, by omega, by omega, Nat.le_refl _, P9⟩
    · have D3 : Aside (Below S w wr) := BO.out.d
      by_cases h1 : i < len0
      · have hz : (i : Int) < (len0 : Int) := by omega
        have hz30 : ¬ (i : Int) < 30 := by omega
        have t1 : decide ((i : Int) < (len0 : Int)) = true := decide_eq_true hz
        have t2 : decide ((i : Int) < 30) = false := decide_eq_false hz30
        go_wp2_with fail
        refine (sawake_any wr).mono ?_
        rintro r w3 ⟨rfl, b3⟩
        have D4 : Aside (Below S w w3) := D3.out.trans (b3.mono (by omega))
        clear b3
        go_wp2
        go_ret
        exact ⟨rfl, by rw [hS]; exact D4.out⟩
      · have hz : ¬ (i : Int) < (len0 : Int) := by omega
        have t1 : decide ((i : Int) < (len0 : Int)) = false := decide_eq_false hz
        go_wp2_with fail
        refine (sawake_any wr).mono ?_
        rintro r w3 ⟨rfl, b3⟩
        have D4 : Aside (Below S w w3) := D3.out.trans (b3.mono (by omega))
        clear b3
        go_wp2
        go_ret
        exact ⟨rfl, by rw [hS]; exact D4.out⟩
end Go.Proofs.Ytboccihcomaaoaa
