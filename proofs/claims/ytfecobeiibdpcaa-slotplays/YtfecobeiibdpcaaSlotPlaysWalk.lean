/- The walk of 'SlotPlays'. -/
import Derived.Test.YtfecobeiibdpcaaSlotPlaysA
import Derived.Test.YtfecobeiibdpcaaSltVa
import Derived.Test.YtfecobeiibdpcaaSltVb
import Derived.Test.YtfecobeiibdpcaaSltVc
import Derived.Test.YtfecobeiibdpcaaSltVd
import Derived.Deep.DeepCutAuto
import Derived.Deep.CutBlock
import Derived.Deep.RegionHeld3
namespace Go.Proofs.Ytfecobeiibdpcaa
open Go.RowKit Go.Lib Go.Sort
set_option linter.unusedVariables false

theorem slIs {w : World} {base n cap : Nat} {a : Option Addr} {d : List Ent} (h : OwnE w base (.slice a n cap) d) : IsL w a cap d := by
  obtain ⟨a', c', e, l⟩ := h.isL
  injection e with e1 e2 e3
  subst e1 e3
  exact l
/-- The first slot from j on that has this ID; -1, if there is none. -/
def FirstIs (g : Nat → Pl) (N : Nat) (id : Int) (j : Nat) (A : Int) : Prop :=
  (A = -1 ∧ ∀ i, j ≤ i → i < N → slHit (g i) id = false) ∨ ∃ a : Nat, A = (a : Int) ∧ j ≤ a ∧ a < N ∧ slHit (g a) id = true ∧ ∀ i, j ≤ i → i < a → slHit (g i) id = false
theorem FirstIs.no {g : Nat → Pl} {N : Nat} {id : Int} {t : Nat} {A : Int} (h : FirstIs g N id (t + 1) A) (hn : slHit (g t) id = false) : FirstIs g N id t A := by
  rcases h with ⟨h1, h2⟩ | ⟨a, h1, h2, h3, h4, h5⟩
  · exact .inl ⟨h1, fun i hi hN => by by_cases e : i = t; (subst e; exact hn); exact h2 i (by omega) hN⟩
  · exact .inr ⟨a, h1, by omega, h3, h4, fun i hi hN => by by_cases e : i = t; (subst e; exact hn); exact h5 i (by omega) hN⟩
theorem FirstIs.yes {g : Nat → Pl} {N : Nat} {id : Int} {t : Nat} (tN : t < N) (hn : slHit (g t) id = true) : FirstIs g N id t (t : Int) :=
  .inr ⟨t, rfl, Nat.le_refl _, tN, hn, fun i h1 h2 => by omega⟩

set_option maxHeartbeats 8000000 in
set_option maxRecDepth 100000 in
theorem slotPlays_walk (n0 : Int) (a1 : Option Addr) (len1 cap1 : Nat) (Z : Nat → Op9) (w : World) (h0 : (Lit.int .i64 n0).wf = true) (h1 : IsOp9 w a1 len1 Z) :
    Calls Try.prog 5 #[.int .i64 n0, .slice a1 len1 cap1] w fun r w' => r = .returned (.bool true) ∧ Below w.heap.size w w' := by
  obtain ⟨S, hS⟩ : ∃ S, w.heap.size = S := ⟨_, rfl⟩
  have hl := h1.1
  have H1 : Aside (IsOp9 w a1 len1 Z) := h1
  by_cases hn : n0 < 1 ∨ 8 < n0
  · exact slotPlays_out n0 a1 len1 cap1 w hn
  obtain ⟨N, rfl⟩ : ∃ N : Nat, n0 = (N : Int) := ⟨n0.toNat, by omega⟩
  have N0 : 1 ≤ N := by omega
  have N8 : N ≤ 8 := by omega
  have t1 : ¬ (8 : Int) < (N : Int) := by omega
  have t2 : ¬ (N : Int) < 1 := by omega
  have nw := slNew_in N w S hS (by omega) (by omega)
  rw [hS]
  have HS : Hid _ := hS
  clear h0 h1 hS hn
  go_enter Try.func5, Try.ntmps5
  go_wp2_with fail
  refine nw.mono ?_
  rintro r w1 ⟨rfl, s1, b1, z1⟩
  have th := slThreads_any w1 (S + 1) S N _ s1
  obtain ⟨w2, hm, rs2, b2, z2⟩ := makeRS_run w1 N N8
  rw [z1] at hm rs2 z2
  have P0 : Aside (Play9 w S N 0 (fun _ => Pl.zero) (fun _ => Pl.zero) w2) := ⟨s1.below b2, rs2, b1.trans (b2.mono (by omega)), fun j hj => Nat.le_refl _⟩
  clear nw s1 b1 rs2 b2 z2
  go_wp2_with fail
  refine th.mono ?_
  rintro r w1_ ⟨rfl, hw⟩
  subst hw
  clear th
  go_wp2_with fail
  clear hm z1
  go_loopg [10] 61 (fun kx s10 wx => ∃ (i : Nat) (g : Nat → Pl), s10 = .int .i64 i ∧ i ≤ 60 ∧ 61 - i ≤ kx ∧ Aside (Play9 w S N i g g wx))
  case atStart => exact ⟨0, _, rfl, by omega, by omega, P0⟩
  case round =>
    clear P0
    obtain ⟨i, g, rfl, hi, hix, P⟩ := hrel
    obtain ⟨wo, hwo⟩ : ∃ x : World, x = wr := ⟨_, rfl⟩
    subst hwo
    have sz := P.out.sz
    by_cases hlt : i < len1 ∧ i < 60
    · obtain ⟨hl1, hl2⟩ := hlt
      have hz1 : (i : Int) < (len1 : Int) := by omega
      have hz2 : (i : Int) < 60 := by omega
      have hz3 : decide ((i : Int) < (len1 : Int)) = true := decide_eq_true hz1
      obtain ⟨b, off, ha, hb, c0, c1, c2, c3, c4⟩ := H1.out.2 i hl1
      rw [HS.out] at hb
      have c0' := (P.out.low.cell (p := ⟨b, off + i * 5, none⟩) hb).trans c0
      have c1' := (P.out.low.cell (p := ⟨b, off + i * 5 + 1, none⟩) hb).trans c1
      have c2' := (P.out.low.cell (p := ⟨b, off + i * 5 + 2, none⟩) hb).trans c2
      have c3' := (P.out.low.cell (p := ⟨b, off + i * 5 + 3, none⟩) hb).trans c3
      have c4' := (P.out.low.cell (p := ⟨b, off + i * 5 + 4, none⟩) hb).trans c4
      obtain ⟨o, ho⟩ : ∃ o, Z i = o := ⟨_, rfl⟩
      rw [ho] at c0' c1' c2' c3' c4'
      obtain ⟨kind, T, V, ek, ed⟩ := o
      simp only at c0' c1' c2' c3' c4'
      clear ho
      subst ha
      clear c0 c1 c2 c3 c4 hb
      obtain ⟨O, hO⟩ : ∃ O, wo.heap.size = O := ⟨_, rfl⟩
      obtain ⟨u, hu⟩ : ∃ u, wo.alloc (.cells #[.int .i64 kind, .int .i64 T, .int .u64 V, .int .u64 ek, .int .i64 ed] 48) = u := ⟨_, rfl⟩
      have XO : Aside (u.heap[O]? = some (.cells #[.int .i64 kind, .int .i64 T, .int .u64 V, .int .u64 ek, .int .i64 ed] 48 (0, 0))) := by rw [← hu, ← hO]; exact heap_alloc_new wo _
      have PU : Aside (Play9 w S N i g g u) := by rw [← hu]; exact P.out.on ((Below.refl _ _).alloc (Nat.le_refl _) _)
      have HU : Hid _ := hu
      have SO : S + 2 < O := by omega
      clear hu
      go_upto_region 12 with fail
      rw [HU.out]
      try rw [hO]
      clear c0' c1' c2' c3' c4' hO HU P sz
      obtain ⟨y0, y1, y2, y3, y4⟩ := box5 XO.out
      go_cut [12] (fun s12 wx => (∃ I : Bool, s12 = .bool I ∧ (I = true → 0 ≤ T ∧ T < (N : Int)) ∧ (I = false → T < 0 ∨ (N : Int) ≤ T)) ∧ wx = u)
      case first =>
        as_aux_lemma =>
          by_cases q0 : 0 ≤ T
          · have r0 : decide (0 ≤ T) = true := decide_eq_true q0
            by_cases q1 : T < (N : Int)
            · have r1 : decide (T < (N : Int)) = true := decide_eq_true q1
              go_wp2_with fail
              go_meet
              exact ⟨⟨true, rfl, fun _ => ⟨q0, q1⟩, fun h => (by cases h)⟩, rfl⟩
            · have r1 : decide (T < (N : Int)) = false := decide_eq_false q1
              go_wp2_with fail
              go_meet
              exact ⟨⟨false, rfl, fun h => (by cases h), fun _ => .inr (by omega)⟩, rfl⟩
          · have r0 : decide (0 ≤ T) = false := decide_eq_false q0
            go_wp2_with fail
            go_meet
            exact ⟨⟨false, rfl, fun h => (by cases h), fun _ => .inl (by omega)⟩, rfl⟩
      case rest =>
        obtain ⟨⟨I, rfl, hI1, hI2⟩, hw⟩ := hcut
        subst hw
        have HI1 : Hid (I = true → 0 ≤ T ∧ T < (N : Int)) := hI1
        have HI2 : Hid (I = false → T < 0 ∨ (N : Int) ≤ T) := hI2
        clear hI1 hI2
        go_upto_block 2 with fail
        go_cut [13, 14, 15, 16, 17, 18, 19] (fun s13 s14 s15 s16 s17 s18 s19 wx => ∃ g', Play9 w S N (i + 1) g' g' wx)
        case first =>
          by_cases k0 : kind = 0
          · as_aux_lemma =>
              subst k0
              cases I with
              | false =>
                have p1 := slPut_out wc (S + 1) S N g T ek ed PU.out.slt (HI2.out rfl)
                go_wp2_with fail
                refine p1.mono ?_
                rintro r w4 ⟨rfl, b4⟩
                have P4 : Aside (Play9 w S N (i + 1) g g w4) := (PU.out.on b4).up
                clear b4 p1 y0 y1 y2 y3 y4
                go_wp2_with fail
                go_meet
                exact ⟨_, P4.out⟩
              | true =>
                obtain ⟨t, rfl⟩ : ∃ t : Nat, T = (t : Int) := ⟨T.toNat, by have := HI1.out rfl; omega⟩
                have tN : t < N := by have := HI1.out rfl; omega
                have tz : (t : Int) < (N : Int) := by omega
                obtain ⟨k, d, v, f, hg⟩ : ∃ k d v f, g t = ⟨(k, d), v, f⟩ := ⟨_, _, _, _, rfl⟩
                obtain ⟨r0, r1, r2, r3⟩ := PU.out.ref.cells tN hg
                have HG : Hid _ := hg
                have vi : v ≤ 60 := by have := PU.out.few t tN; rw [hg] at this; simp only at this; omega
                clear hg
                cases f with
                | true =>
                  have p1 := slPut_full wc (S + 1) S N g t ek ed PU.out.slt tN (by rw [HG.out])
                  go_wp2_with fail
                  refine p1.mono ?_
                  rintro r w4 ⟨rfl, b4⟩
                  have P4 : Aside (Play9 w S N (i + 1) g g w4) := (PU.out.on b4).up
                  clear b4 p1 y0 y1 y2 y3 y4 r0 r1 r2 r3
                  go_wp2_with fail
                  go_meet
                  exact ⟨_, P4.out⟩
                | false =>
                  have P2 : Play9 w S N i g (slSet g t ⟨(ek, ed), v + 1, true⟩) _ := (PU.out.set t ek ed (v + 1) true).on (Below.refl _ _).drew
                  rw [show ((v + 1 : Nat) : Int) = (v : Int) + 1 by omega] at P2
                  have XO2 := (Play9.keptR PU.out XO.out SO t ek ed (v + 1) true)
                  rw [show ((v + 1 : Nat) : Int) = (v : Int) + 1 by omega] at XO2
                  go_upto_region 25 with fail
                  refine slp_reg25 (fun _ _ _ _ _ h => h) y1 r3 y3 y4 r0 r1 r2 (World.rowIs.frozen PU.out.ref) tN (by omega) ?_
                  intro f170 f171 f172 f173 f174 f175 f176 f177 f178 f179 f180 f181 f182 f183
                  obtain ⟨u2, hu2⟩ : ∃ x, ((((wc.setCell ⟨S + 2, t * 4, none⟩ (.bool true)).setCell ⟨S + 2, t * 4 + 1, none⟩ (.int .u64 ek)).setCell ⟨S + 2, t * 4 + 2, none⟩ (.int .i64 ed)).setCell ⟨S + 2, t * 4 + 3, none⟩ (.int .u64 ((v : Int) + 1))).drew = x := ⟨_, rfl⟩
                  rw [hu2] at P2 XO2 ⊢
                  have PA : Aside _ := P2
                  have p1 := slPut_ok u2 (S + 1) S N g t ek ed v P2.slt tN (by rw [HG.out]) (by rw [HG.out]) (by omega)
                  clear y0 y1 y2 y3 y4 r0 r1 r2 r3 hu2 P2
                  obtain ⟨y0, y1, y2, y3, y4⟩ := box5 XO2
                  clear XO2
                  go_wp2_with fail
                  refine p1.mono ?_
                  rintro r w4 ⟨rfl, s4, g4⟩
                  have P4 : Aside (Play9 w S N (i + 1) (slSet g t ⟨(ek, ed), v + 1, true⟩) (slSet g t ⟨(ek, ed), v + 1, true⟩) w4) := PA.out.turn tN (by rw [HG.out]) s4 g4
                  clear p1 s4 g4 y0 y1 y2 y3 y4 PA
                  go_wp2_with fail
                  go_meet
                  exact ⟨_, P4.out⟩
          by_cases k3 : kind = 3
          · as_aux_lemma =>
              subst k3
              have F0 : Aside (FirstIs g N ed N (-1)) := .inl ⟨rfl, fun i h1 h2 => by omega⟩
              have wn : IntKind.i64.wrap ((N : Int) - 1) = (N : Int) - 1 := by rw [IntKind.wrap_i64]; omega
              go_wp2_with fail
              clear wn y0 y1 y2 y3 y4
              go_loopg [14, 15] (N + 1) (fun kx s14 s15 wx => ∃ (j : Nat) (A z : Int), s15 = .int .i64 z ∧ s14 = .int .i64 A ∧ Hid (z = (j : Int) - 1) ∧ j ≤ N ∧ j + 1 ≤ kx ∧ Aside (FirstIs g N ed j A) ∧ Aside (Below wc.heap.size wc wx))
              case atStart => exact ⟨N, -1, (N : Int) - 1, rfl, rfl, rfl, Nat.le_refl _, Nat.le_refl _, F0, Below.refl _ _⟩
              case round =>
                clear F0
                obtain ⟨j, A, z, rfl, rfl, HZ, hj, hjx, FI, D⟩ := hrel
                have PR : Aside (Play9 w S N i g g wr) := PU.out.on D.out
                have XR : Aside (wr.heap[O]? = some (.cells #[.int .i64 3, .int .i64 T, .int .u64 V, .int .u64 ek, .int .i64 ed] 48 (0, 0))) := (D.out.block O (lt_of_block XO.out)).trans XO.out
                obtain ⟨y0, y1, y2, y3, y4⟩ := box5 XR.out
                by_cases j0 : j = 0
                · have hz := HZ.out
                  rw [j0] at hz
                  obtain rfl : z = -1 := by omega
                  have hF := FI.out
                  rw [j0] at hF
                  clear hz j0
                  rcases hF with ⟨hA, hF⟩ | ⟨a, hA, _, aN, hit, hF⟩
                  · subst hA
                    have p1 := slDrop_none wr (S + 1) S N g ed PR.out.slt (fun i hi => hF i (by omega) hi)
                    have P4 : Aside (Play9 w S N (i + 1) g g wr) := PR.out.up
                    clear hF FI
                    go_wp2_with fail
                    refine p1.mono ?_
                    rintro r w4 ⟨rfl, h4⟩
                    subst h4
                    clear p1
                    go_wp2_with fail
                    go_meet
                    exact ⟨_, P4.out⟩
                  · subst hA
                    obtain ⟨k, d, v, f, hg⟩ : ∃ k d v f, g a = ⟨(k, d), v, f⟩ := ⟨_, _, _, _, rfl⟩
                    rw [hg] at hit
                    obtain ⟨rfl, rfl⟩ : f = true ∧ d = ed := by simpa [slHit] using hit
                    have vi : v ≤ 60 := by have := PR.out.few a aN; rw [hg] at this; simp only at this; omega
                    have p1 := slDrop_hit wr (S + 1) S N g a d k v PR.out.slt aN hg (by omega) (fun i hi => hF i (by omega) hi)
                    have HG : Hid _ := hg
                    have a0 : (0 : Int) ≤ (a : Int) := by omega
                    have a1 : decide ((0 : Int) ≤ (a : Int)) = true := decide_eq_true a0
                    have az : (a : Int) < (N : Int) := by omega
                    have wv : IntKind.u64.wrap ((v : Int) + 1) = (v : Int) + 1 := by rw [IntKind.wrap_u64, Int.emod_eq_of_lt (by omega) (by omega)]
                    clear hF FI hit hg
                    go_wp2_with fail
                    refine p1.mono ?_
                    rintro r w4 ⟨rfl, s4, g4⟩
                    have P4 := PR.out.turn aN (by rw [HG.out]) s4 g4
                    obtain ⟨r0, r1, r2, r3⟩ := P4.ref.cells aN HG.out
                    have f0 := World.rowIs.frozen P4.ref (a * 4)
                    have f1 := World.rowIs.frozen P4.ref (a * 4 + 1)
                    have f2 := World.rowIs.frozen P4.ref (a * 4 + 2)
                    have f3 := World.rowIs.frozen P4.ref (a * 4 + 3)
                    have P5 := P4.set a 0 0 (v + 1) false
                    rw [show ((v + 1 : Nat) : Int) = (v : Int) + 1 by omega] at P5
                    have PF : Aside _ := P5
                    clear P4 P5 s4 g4 p1 y0 y1 y2 y3 y4
                    go_wp2_with fail
                    go_meet
                    exact ⟨_, PF.out⟩
                · obtain ⟨t, rfl⟩ : ∃ t, j = t + 1 := ⟨j - 1, by omega⟩
                  obtain rfl : z = (t : Int) := by have := HZ.out; omega
                  have tN : t < N := by omega
                  have t0 : (0 : Int) ≤ (t : Int) := by omega
                  have wz : IntKind.i64.wrap ((t : Int) - 1) = (t : Int) - 1 := by rw [IntKind.wrap_i64]; omega
                  obtain ⟨k, d, v, f, hg⟩ : ∃ k d v f, g t = ⟨(k, d), v, f⟩ := ⟨_, _, _, _, rfl⟩
                  obtain ⟨r0, r1, r2, r3⟩ := PR.out.ref.cells tN hg
                  have D2 : Aside (Below wc.heap.size wc wr.drew) := D.out.drew
                  cases f with
                  | false =>
                    have FI2 : Aside (FirstIs g N ed t A) := FI.out.no (by rw [hg]; rfl)
                    clear FI hg
                    go_upto_region 37 with fail
                    refine slp_reg37_no (fun _ _ _ _ _ h => h) r0 tN ?_
                    intro f210 f211 f212 f213 f214 f215 f216 f217 f218 f219 f220 f221 f222 f223 f224 f225
                    clear y0 y1 y2 y3 y4 r0 r1 r2 r3
                    go_wp2_with fail
                    go_roundg (t + 1)
                    case measure => omega
                    case rel => exact ⟨t, A, (t : Int) - 1, rfl, rfl, rfl, by omega, Nat.le_refl _, FI2, D2⟩
                  | true =>
                    by_cases e : d = ed
                    · have FI2 : Aside (FirstIs g N ed t (t : Int)) := FirstIs.yes tN (by rw [hg]; simp [slHit, e])
                      have hb : (d == ed) = true := by simpa using e
                      clear FI hg e
                      go_upto_region 37 with fail
                      refine slp_reg37_yes (fun _ _ _ _ _ h => h) r0 r2 y4 tN hb ?_
                      intro f210 f211 f212 f213 f214 f215 f216 f217 f218 f219 f220 f221 f222 f223 f224 f225
                      clear y0 y1 y2 y3 y4 r0 r1 r2 r3 hb
                      go_wp2_with fail
                      go_roundg (t + 1)
                      case measure => omega
                      case rel => exact ⟨t, (t : Int), (t : Int) - 1, rfl, rfl, rfl, by omega, Nat.le_refl _, FI2, D2⟩
                    · have FI2 : Aside (FirstIs g N ed t A) := FI.out.no (by rw [hg]; simp [slHit, e])
                      have hb : (d == ed) = false := by simpa using e
                      clear FI hg e
                      go_upto_region 37 with fail
                      refine slp_reg37_yes (fun _ _ _ _ _ h => h) r0 r2 y4 tN hb ?_
                      intro f210 f211 f212 f213 f214 f215 f216 f217 f218 f219 f220 f221 f222 f223 f224 f225
                      clear y0 y1 y2 y3 y4 r0 r1 r2 r3 hb
                      go_wp2_with fail
                      go_roundg (t + 1)
                      case measure => omega
                      case rel => exact ⟨t, A, (t : Int) - 1, rfl, rfl, rfl, by omega, Nat.le_refl _, FI2, D2⟩
          · as_aux_lemma =>
              have k0' : (kind == 0) = false := by simpa using k0
              have k3' : (kind == 3) = false := by simpa using k3
              go_upto_region 15 with fail
              go_cut [96] (fun s96 wx => (∃ E : Bool, s96 = .bool E ∧ (E = true → I = true)) ∧ wx = wc)
              case first =>
                as_aux_lemma =>
                  by_cases k1 : kind = 1
                  · have k1' : (kind == 1) = true := by simpa using k1
                    clear k1
                    cases I with
                    | true =>
                      go_wp2_with fail
                      go_meet
                      exact ⟨⟨true, rfl, fun _ => rfl⟩, rfl⟩
                    | false =>
                      go_wp2_with fail
                      go_meet
                      exact ⟨⟨false, rfl, fun h => h⟩, rfl⟩
                  · have k1' : (kind == 1) = false := by simpa using k1
                    clear k1
                    go_wp2_with fail
                    go_meet
                    exact ⟨⟨false, rfl, fun h => (by cases h)⟩, rfl⟩
              case rest =>
                obtain ⟨⟨E, rfl, hE⟩, hw⟩ := hcut
                subst hw
                have HE : Hid (E = true → I = true) := hE
                clear hE k0' k3' k0 k3
                go_upto_if 96 with fail
                go_cut [16] (fun s16 wx => (∃ vv : Int, s16 = .int .u64 vv) ∧ wx = wc)
                case first =>
                  as_aux_lemma =>
                    cases E with
                    | false =>
                      go_wp2_with fail
                      go_meet
                      exact ⟨⟨V, rfl⟩, rfl⟩
                    | true =>
                      obtain rfl := HE.out rfl
                      obtain ⟨t, rfl⟩ : ∃ t : Nat, T = (t : Int) := ⟨T.toNat, by have := HI1.out rfl; omega⟩
                      have tN : t < N := by have := HI1.out rfl; omega
                      have tz : (t : Int) < (N : Int) := by omega
                      obtain ⟨k, d, v, f, hg⟩ : ∃ k d v f, g t = ⟨(k, d), v, f⟩ := ⟨_, _, _, _, rfl⟩
                      obtain ⟨r0, r1, r2, r3⟩ := PU.out.ref.cells tN hg
                      clear hg
                      go_wp2_with fail
                      go_meet
                      exact ⟨⟨v, rfl⟩, rfl⟩
                case rest =>
                  obtain ⟨⟨vv, rfl⟩, hw⟩ := hcut
                  subst hw
                  cases I with
                  | false =>
                    as_aux_lemma =>
                      have p1 := slTake_out wc (S + 1) S N g T vv PU.out.slt (HI2.out rfl)
                      go_wp2_with fail
                      refine p1.mono ?_
                      rintro r w4 ⟨rfl, b4⟩
                      obtain ⟨u4, hu4⟩ : ∃ x, w4.alloc (.cells #[.int .u64 0, .int .i64 0] 33) = x := ⟨_, rfl⟩
                      have bu4 : Below w4.heap.size w4 u4 := by rw [← hu4]; exact (Below.refl _ _).alloc (Nat.le_refl _) _
                      have hx : u4.heap[w4.heap.size]? = some (.cells #[.int .u64 0, .int .i64 0] 33 (0, 0)) := by rw [← hu4]; exact heap_alloc_new w4 _
                      have x0 : u4.cell? ⟨w4.heap.size, 0, none⟩ = some (.int .u64 0) := by rw [cell_of_row _ _ _ _ _ _ hx]; rfl
                      have x1 : u4.cell? ⟨w4.heap.size, 1, none⟩ = some (.int .i64 0) := by rw [cell_of_row _ _ _ _ _ _ hx]; rfl
                      have HU4 : Hid _ := hu4
                      have P5 : Aside (Play9 w S N (i + 1) g g u4) := ((PU.out.on b4).up).on bu4
                      clear p1 b4 hu4 bu4 hx y0 y1 y2 y3 y4
                      go_upto_region 19 with fail
                      rw [HU4.out]
                      refine slp_reg19_no (fun _ _ _ _ _ h => h) x1 ?_
                      intro f130 f131 f132 f133 f134 f135 f136 f137 f138 f139 f140 f141 f142 f143 f144 f145 f146 f147 f148 f149 f150 f151 f152 f153
                      have P6 : Aside (Play9 w S N (i + 1) g g u4.drew) := P5.out.on (Below.refl _ _).drew
                      clear x0 x1
                      go_wp2_with fail
                      go_meet
                      exact ⟨_, P6.out⟩
                  | true =>
                    obtain ⟨t, rfl⟩ : ∃ t : Nat, T = (t : Int) := ⟨T.toNat, by have := HI1.out rfl; omega⟩
                    have tN : t < N := by have := HI1.out rfl; omega
                    have tz : (t : Int) < (N : Int) := by omega
                    obtain ⟨k, d, v, f, hg⟩ : ∃ k d v f, g t = ⟨(k, d), v, f⟩ := ⟨_, _, _, _, rfl⟩
                    have HG : Hid _ := hg
                    have vi : v ≤ 60 := by have := PU.out.few t tN; rw [hg] at this; simp only at this; omega
                    clear hg
                    by_cases ok : f = true ∧ (v : Int) = vv
                    · as_aux_lemma =>
                        obtain ⟨rfl, rfl⟩ := ok
                        have p1 := slTake_ok wc (S + 1) S N g t k d v PU.out.slt tN HG.out (by omega)
                        go_wp2_with fail
                        refine p1.mono ?_
                        rintro r w4 ⟨rfl, s4, g4⟩
                        obtain ⟨u4, hu4⟩ : ∃ x, w4.alloc (.cells #[.int .u64 k, .int .i64 d] 33) = x := ⟨_, rfl⟩
                        have bu4 : Below w4.heap.size w4 u4 := by rw [← hu4]; exact (Below.refl _ _).alloc (Nat.le_refl _) _
                        have hx : u4.heap[w4.heap.size]? = some (.cells #[.int .u64 k, .int .i64 d] 33 (0, 0)) := by rw [← hu4]; exact heap_alloc_new w4 _
                        have x0 : u4.cell? ⟨w4.heap.size, 0, none⟩ = some (.int .u64 k) := by rw [cell_of_row _ _ _ _ _ _ hx]; rfl
                        have x1 : u4.cell? ⟨w4.heap.size, 1, none⟩ = some (.int .i64 d) := by rw [cell_of_row _ _ _ _ _ _ hx]; rfl
                        have HU4 : Hid _ := hu4
                        have P5 : Aside (Play9 w S N (i + 1) (slSet g t ⟨(0, 0), v + 1, false⟩) g u4) := (PU.out.turn tN (by rw [HG.out]) s4 g4).on bu4
                        have X5 := (bu4.block O (lt_of_block (PU.out.kept XO.out SO g4))).trans (PU.out.kept XO.out SO g4)
                        obtain ⟨r0, r1, r2, r3⟩ := P5.out.ref.cells tN HG.out
                        have fz := World.rowIs.frozen P5.out.ref
                        have ev : ((v : Int) == (v : Int)) = true := by simp
                        clear p1 s4 g4 hu4 bu4 hx y0 y1 y2 y3 y4
                        obtain ⟨y0, y1, y2, y3, y4⟩ := box5 X5
                        go_upto_region 18 with fail
                        rw [HU4.out]
                        go_upto_region 19 with fail
                        refine slp_reg19_yes (fun _ _ _ _ _ h => h) x0 x1 y1 r1 r2 tN ?_
                        intro f130 f131 f132 f133 f134 f135 f136 f137 f138 f139 f140 f141 f142 f143 f144 f145 f146 f147 f148 f149 f150 f151 f152 f153
                        go_upto_region 22 with fail
                        refine slp_reg22 (wr := u4.drew) (fun _ _ _ _ _ h => h) y1 r3 r0 r1 r2 fz tN (by omega) ?_
                        intro f156 f157 f158 f159 f160 f161 f162 f163 f164 f165 f166 f167
                        have P6 := ((P5.out.on (Below.refl _ _).drew).set t 0 0 (v + 1) false).on (Below.refl _ _).drew
                        rw [show ((v + 1 : Nat) : Int) = (v : Int) + 1 by omega] at P6
                        have PF : Aside _ := P6
                        clear x0 x1 y0 y1 y2 y3 y4 r0 r1 r2 r3 P5 P6 X5
                        go_wp2_with fail
                        go_meet
                        exact ⟨_, PF.out⟩
                    · as_aux_lemma =>
                        have p1 := slTake_no wc (S + 1) S N g t vv PU.out.slt tN (by
                          rw [HG.out]
                          by_cases c : f = true
                          · exact .inr fun e => ok ⟨c, e⟩
                          · exact .inl (by simpa using c))
                        go_wp2_with fail
                        refine p1.mono ?_
                        rintro r w4 ⟨rfl, b4⟩
                        obtain ⟨u4, hu4⟩ : ∃ x, w4.alloc (.cells #[.int .u64 0, .int .i64 0] 33) = x := ⟨_, rfl⟩
                        have bu4 : Below w4.heap.size w4 u4 := by rw [← hu4]; exact (Below.refl _ _).alloc (Nat.le_refl _) _
                        have hx : u4.heap[w4.heap.size]? = some (.cells #[.int .u64 0, .int .i64 0] 33 (0, 0)) := by rw [← hu4]; exact heap_alloc_new w4 _
                        have x0 : u4.cell? ⟨w4.heap.size, 0, none⟩ = some (.int .u64 0) := by rw [cell_of_row _ _ _ _ _ _ hx]; rfl
                        have x1 : u4.cell? ⟨w4.heap.size, 1, none⟩ = some (.int .i64 0) := by rw [cell_of_row _ _ _ _ _ _ hx]; rfl
                        have HU4 : Hid _ := hu4
                        have P5 : Aside (Play9 w S N (i + 1) g g u4) := ((PU.out.on b4).up).on bu4
                        have X5 := (b4.trans (bu4.mono b4.size)).block O (lt_of_block XO.out) |>.trans XO.out
                        obtain ⟨r0, r1, r2, r3⟩ := P5.out.ref.cells tN HG.out
                        clear p1 b4 hu4 bu4 hx y0 y1 y2 y3 y4
                        obtain ⟨y0, y1, y2, y3, y4⟩ := box5 X5
                        have P6 : Aside (Play9 w S N (i + 1) g g u4.drew) := P5.out.on (Below.refl _ _).drew
                        go_upto_region 18 with fail
                        rw [HU4.out]
                        cases f with
                        | false =>
                          clear ok
                          go_upto_region 19 with fail
                          refine slp_reg19_no (fun _ _ _ _ _ h => h) x1 ?_
                          intro f130 f131 f132 f133 f134 f135 f136 f137 f138 f139 f140 f141 f142 f143 f144 f145 f146 f147 f148 f149 f150 f151 f152 f153
                          clear x0 x1 y0 y1 y2 y3 y4 r0 r1 r2 r3
                          go_wp2_with fail
                          go_meet
                          exact ⟨_, P6.out⟩
                        | true =>
                          have ne : ¬ (v : Int) = vv := fun e => ok ⟨rfl, e⟩
                          have nb : ((v : Int) == vv) = false := by simpa using ne
                          clear ok
                          go_upto_region 19 with fail
                          refine slp_reg19_no (fun _ _ _ _ _ h => h) x1 ?_
                          intro f130 f131 f132 f133 f134 f135 f136 f137 f138 f139 f140 f141 f142 f143 f144 f145 f146 f147 f148 f149 f150 f151 f152 f153
                          clear x0 x1 y0 y1 y2 y3 y4 r0 r1 r2 r3
                          go_wp2_with fail
                          go_meet
                          exact ⟨_, P6.out⟩
        case rest =>
          as_aux_lemma =>
            obtain ⟨g', PC0⟩ := hcut
            have PC : Aside (Play9 w S N (i + 1) g' g' wc) := PC0
            clear PC0 PU XO HI1 HI2 y0 y1 y2 y3 y4
            go_wp2_with fail
            go_loopg [20, 21] (N + 1) (fun kx s20 s21 wx => ∃ (j z : Nat) (r : Option Addr) (tc : Nat), s21 = .int .i64 j ∧ s20 = .slice r z tc ∧ Hid ((slAll g' j).length = z) ∧ j ≤ N ∧ N + 1 - j ≤ kx ∧ Aside (OwnE wx wc.heap.size (.slice r z tc) (slAll g' j)) ∧ Aside (Below wc.heap.size wc wx))
            case atStart => exact ⟨0, 0, none, 0, rfl, rfl, rfl, by omega, by omega, OwnE.nil _ _, Below.refl _ _⟩
            case round =>
              obtain ⟨j, z, r, tc, rfl, rfl, HZ, hj, hjx, OW, D⟩ := hrel
              have PR : Aside (Play9 w S N (i + 1) g' g' wr) := PC.out.on D.out
              have zle : z ≤ 8 := by have h1 := HZ.out; have h2 := slAll_len g' j; omega
              have dsz := D.out.size
              by_cases jl : j < N
              · have jz : (j : Int) < (N : Int) := by omega
                obtain ⟨k, d, v, f, hg⟩ : ∃ k d v f, g' j = ⟨(k, d), v, f⟩ := ⟨_, _, _, _, rfl⟩
                have HG : Hid _ := hg
                have p1 := slGet_in wr (S + 1) S N g' j k d v f PR.out.slt jl hg
                clear hg
                go_wp2_with fail
                refine p1.mono ?_
                rintro r_ w4 ⟨rfl, b4⟩
                obtain ⟨u4, hu4⟩ : ∃ x, w4.alloc (.cells #[.int .u64 k, .int .i64 d] 33) = x := ⟨_, rfl⟩
                have bu4 : Below w4.heap.size w4 u4 := by rw [← hu4]; exact (Below.refl _ _).alloc (Nat.le_refl _) _
                have hx : u4.heap[w4.heap.size]? = some (.cells #[.int .u64 k, .int .i64 d] 33 (0, 0)) := by rw [← hu4]; exact heap_alloc_new w4 _
                have x0 : u4.cell? ⟨w4.heap.size, 0, none⟩ = some (.int .u64 k) := by rw [cell_of_row _ _ _ _ _ _ hx]; rfl
                have x1 : u4.cell? ⟨w4.heap.size, 1, none⟩ = some (.int .i64 d) := by rw [cell_of_row _ _ _ _ _ _ hx]; rfl
                have b5 : Below wr.heap.size wr u4 := b4.trans (bu4.mono b4.size)
                have P5 := PR.out.on b5
                obtain ⟨r0, r1, r2, r3⟩ := P5.ref.cells jl HG.out
                have HU4 : Hid _ := hu4
                obtain ⟨u5, hu5⟩ : ∃ x, u4.drew = x := ⟨_, rfl⟩
                have b6 : Below wr.heap.size wr u5 := by rw [← hu5]; exact b5.drew
                have HU5 : Hid _ := hu5
                have D6 : Below wc.heap.size wc u5 := D.out.trans (b6.mono dsz)
                have O6 : OwnE u5 wc.heap.size (.slice r z tc) (slAll g' j) := OW.out.below b6
                obtain ⟨q0, q1, q2, q3⟩ := (PR.out.on b6).ref.cells jl HG.out
                have e1 : slAll g' (j + 1) = slAll g' j ++ (if f then [(k, d)] else []) := by show slAll g' j ++ _ = _; rw [HG.out]
                clear p1 b4 hu4 bu4 hx b5 P5 hu5 OW D
                cases f with
                | false =>
                  have E2 : Hid (slAll g' (j + 1) = slAll g' j) := by show _ = _; rw [e1]; simp
                  have O7 : Aside (OwnE u5 wc.heap.size (.slice r z tc) (slAll g' (j + 1))) := by rw [E2.out]; exact O6
                  have D7 : Aside _ := D6
                  clear e1 O6 D6 b6
                  go_upto_region 48 with fail
                  rw [HU4.out]
                  refine slp_reg48_no (fun _ _ _ _ _ h => h) r0 r3 jl ?_
                  intro f260 f261 f262 f263 f264 f265 f266 f267 f268 f269 f270 f271 f272 f273 f274 f275 f276 f277 f278 f279 f280 f281 f282 f283 f284 f285 f286
                  rw [HU5.out]
                  clear r0 r1 r2 r3 x0 x1
                  go_wp2_with fail
                  go_roundg (N + 1 - (j + 1))
                  case measure => omega
                  case rel => exact ⟨j + 1, z, r, tc, by go_num, rfl, by rw [E2.out]; exact HZ, by omega, Nat.le_refl _, O7, D7⟩
                | true =>
                  have E2 : Hid (slAll g' (j + 1) = slAll g' j ++ [(k, d)]) := by show _ = _; rw [e1]; simp
                  obtain ⟨r', t', w7, hr, o7, b7⟩ := slApp (k, d) O6 HZ.out (by omega) (by have := b6.size; omega)
                  have D7 : Aside (Below wc.heap.size wc w7) := D6.trans b7
                  have O7 : Aside (OwnE w7 wc.heap.size (.slice r' (z + 1) t') (slAll g' (j + 1))) := by rw [E2.out]; exact o7
                  have HZ2 : Hid ((slAll g' (j + 1)).length = z + 1) := by show _ = _; rw [E2.out, List.length_append, HZ.out]; rfl
                  simp only at hr
                  clear e1 O6 D6 b6 o7 b7
                  go_upto_region 48 with fail
                  rw [HU4.out]
                  refine slp_reg48_yes (fun _ _ _ _ _ h => h) x0 x1 r0 r1 r2 r3 jl ?_
                  intro f260 f261 f262 f263 f264 f265 f266 f267 f268 f269 f270 f271 f272 f273 f274 f275 f276 f277 f278 f279 f280 f281 f282 f283 f284 f285 f286
                  rw [HU5.out]
                  clear r0 r1 r2 r3 x0 x1
                  go_wp2_with (at_builtin; refine Lib.wpList_append_run (World.alloc u5 _) rfl _ _ 40 40 rfl _ _ rfl rfl _ w7 hr ?_)
                  go_roundg (N + 1 - (j + 1))
                  case measure => omega
                  case rel => exact ⟨j + 1, z + 1, r', t', by go_num, rfl, HZ2, by omega, Nat.le_refl _, O7, D7⟩
              · have jz : ¬ (j : Int) < (N : Int) := by omega
                obtain rfl : j = N := by omega
                have al := slAll_any wr (S + 1) S j g' z PR.out.slt HZ.out
                clear D dsz
                go_wp2_with fail
                refine al.mono ?_
                rintro r_ w4 ⟨a4, c4, rfl, o4, b4⟩
                have sm := same_any a4 r c4 tc (slAll g' j) (slAll g' j) w4 (slIs o4) (slIs (OW.out.below b4))
                rw [decide_eq_true (rfl : slAll g' j = slAll g' j), HZ.out] at sm
                have P4 := PR.out.on b4
                clear al o4 b4 OW
                go_wp2_with fail
                refine sm.mono ?_
                rintro r_ w5 ⟨rfl, G5⟩
                have P6 : Aside (Play9 w S j (i + 1) g' g' w5) := P4.on G5.below
                clear sm G5 P4
                go_wp2_with fail
                go_roundg (61 - (i + 1))
                case measure => omega
                case rel => exact ⟨i + 1, g', by go_num, by omega, Nat.le_refl _, P6⟩
    · as_aux_lemma =>
        have aw := slAwake_any wo
        have szS : S ≤ wo.heap.size := by omega
        by_cases c1 : i < len1
        · have z1 : (i : Int) < (len1 : Int) := by omega
          have z2 : ¬ (i : Int) < 60 := by omega
          have z3 : decide ((i : Int) < (len1 : Int)) = true := decide_eq_true z1
          go_wp2_with fail
          refine aw.mono ?_
          rintro r w4 ⟨rfl, b4⟩
          have D4 : Aside (Below S w w4) := P.out.low.trans (b4.mono szS)
          clear b4 aw
          go_wp2
          go_ret
          exact ⟨rfl, D4.out⟩
        · have z1 : ¬ (i : Int) < (len1 : Int) := by omega
          have z3 : decide ((i : Int) < (len1 : Int)) = false := decide_eq_false z1
          go_wp2_with fail
          refine aw.mono ?_
          rintro r w4 ⟨rfl, b4⟩
          have D4 : Aside (Below S w w4) := P.out.low.trans (b4.mono szS)
          clear b4 aw
          go_wp2
          go_ret
          exact ⟨rfl, D4.out⟩
end Go.Proofs.Ytfecobeiibdpcaa
