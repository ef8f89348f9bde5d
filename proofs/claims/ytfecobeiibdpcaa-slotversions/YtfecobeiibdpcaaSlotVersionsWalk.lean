/- The walk of 'SlotVersions'. -/
import Derived.Test.YtfecobeiibdpcaaSltA
import Derived.Test.YtfecobeiibdpcaaMask
import Derived.Test.YtfecobeiibdpcaaRowAt
import Derived.Deep.DeepCutAuto
import Derived.Deep.RegionHeld3
namespace Go.Proofs.Ytfecobeiibdpcaa
open Go.RowKit Go.Lib Go.Sort
set_option linter.unusedVariables false

/-- What holds between two rounds: what was counted is what the slots say. -/
structure Vers (w0 : World) (S i : Nat) (g : Nat → Pl) (wr : World) : Prop where
  slt : Slt wr (S + 1) S 2 g
  ver : wr.rowIs (S + 2) 28 2 (fun j => .int .u64 (g j).v)
  has : wr.rowIs (S + 3) 29 2 (fun j => .bool (g j).f)
  low : Below S w0 wr
  few : ∀ j, j < 2 → (g j).v ≤ i
variable {w0 : World} {S i : Nat} {g : Nat → Pl} {wr w' : World}
theorem Vers.on (h : Vers w0 S i g wr) (hv : Below wr.heap.size wr w') : Vers w0 S i g w' :=
  ⟨h.slt.below hv, h.ver.of_block (hv.block _ h.ver.lt), h.has.of_block (hv.block _ h.has.lt), h.low.trans (hv.mono (by have := h.slt.rlt; omega)), h.few⟩
theorem Vers.up (h : Vers w0 S i g wr) : Vers w0 S (i + 1) g wr := ⟨h.slt, h.ver, h.has, h.low, fun j hj => by have := h.few j hj; omega⟩
/-- A slot was turned, and both counters with it. -/
theorem Vers.turn {T v : Nat} {e : Ent} {f : Bool} (h : Vers w0 S i g wr) (hT : T < 2) (hv : (g T).v = v) (hs : Slt w' (S + 1) S 2 (slSet g T ⟨e, v + 1, f⟩)) (hg : wr.grownBy w' (some S)) :
    Vers w0 S (i + 1) (slSet g T ⟨e, v + 1, f⟩) ((w'.setCell ⟨S + 3, T, none⟩ (.bool f)).setCell ⟨S + 2, T, none⟩ (.int .u64 ((v : Int) + 1))) := by
  have d1 : Below S w0 w' := h.low.trans (below_gr hg (Nat.le_refl _) (by have := h.slt.rlt; omega))
  have r1 := h.ver.of_block (hg.block _ h.ver.lt (by simp))
  have r2 := h.has.of_block (hg.block _ h.has.lt (by simp))
  refine ⟨(hs.setNew (by omega) (by omega) _).setNew (by omega) (by omega) _, (((r1.setOther (by simp) _).set T (.int .u64 ((v : Int) + 1)))).congr fun j hj => ?_, ((r2.set T (.bool f)).congr fun j hj => ?_).setOther (by simp) _, (d1.setCell (by simp) _).setCell (by simp) _, fun j hj => ?_⟩
  · by_cases c : j = T
    · subst c; rw [slSet_same]; simp
    · rw [slSet_ne _ _ c]; simp [c]
  · by_cases c : j = T
    · subst c; rw [slSet_same]; simp
    · rw [slSet_ne _ _ c]; simp [c]
  · by_cases c : j = T
    · subst c; rw [slSet_same]; have := h.few j hj; simp only; omega
    · rw [slSet_ne _ _ c]; have := h.few j hj; omega

set_option maxHeartbeats 8000000 in
set_option maxRecDepth 100000 in
theorem slotVersions_walk (a1 : Option Addr) (len1 cap1 : Nat) (zs : List Int) (w : World) (h1 : IsRow .i64 w a1 len1 cap1 zs) :
    Calls Try.prog 3 #[.slice a1 len1 cap1] w fun r w' => r = .returned (.bool true) ∧ Below w.heap.size w w' := by
  obtain ⟨S, hS⟩ : ∃ S, w.heap.size = S := ⟨_, rfl⟩
  have hl := h1.len_le
  have H1 : Aside (IsRow .i64 w a1 len1 cap1 zs) := h1
  have nw := slNew_in 2 w S hS (by omega) (by omega)
  rw [hS]
  have HS : Hid _ := hS
  clear h1 hS
  go_enter Try.func3, Try.ntmps3
  go_wp2_with fail
  refine nw.mono ?_
  rintro r w1 ⟨rfl, s1, b1, z1⟩
  obtain ⟨w3, hw3⟩ : ∃ W, (w1.alloc (.cells #[.int .u64 0, .int .u64 0] 28)).alloc (.cells #[.bool false, .bool false] 29) = W := ⟨_, rfl⟩
  have R0 : Aside (Vers w S 0 (fun _ => Pl.zero) w3) := by
    rw [← hw3]
    have r1 := (World.rowIs_alloc w1 #[.int .u64 0, .int .u64 0] 28 (fun _ => .int .u64 0) (fun i hi => by have : i < 2 := hi; rcases (by omega : i = 0 ∨ i = 1) with rfl | rfl <;> rfl)).alloc (.cells #[.bool false, .bool false] 29)
    have r2 := World.rowIs_alloc (w1.alloc (.cells #[.int .u64 0, .int .u64 0] 28)) #[.bool false, .bool false] 29 (fun _ => .bool false) (fun i hi => by have : i < 2 := hi; rcases (by omega : i = 0 ∨ i = 1) with rfl | rfl <;> rfl)
    rw [show (w1.alloc (.cells #[.int .u64 0, .int .u64 0] 28)).heap.size = S + 3 by simp [z1]] at r2
    rw [z1] at r1
    exact ⟨(s1.alloc _).alloc _, r1, r2, (b1.alloc (by omega) _).alloc (by simp; omega) _, fun j hj => Nat.le_refl _⟩
  have HW3 : Hid _ := hw3
  clear nw s1 b1 hw3
  go_wp2_with fail
  rw [HW3.out]
  clear z1
  go_loopg [7] 61 (fun kx s7 wx => ∃ (i : Nat) (g : Nat → Pl), s7 = .int .i64 i ∧ i ≤ 60 ∧ 61 - i ≤ kx ∧ Aside (Vers w S i g wx))
  case atStart => exact ⟨0, _, rfl, by omega, by omega, R0⟩
  case round =>
    clear R0
    obtain ⟨i, g, rfl, hi, hix, R⟩ := hrel
    obtain ⟨wo, hwo⟩ : ∃ x : World, x = wr := ⟨_, rfl⟩
    subst hwo
    have sz := R.out.low.size
    rw [HS.out] at sz
    by_cases hlt : i < len1 ∧ i < 60
    · obtain ⟨hl1, hl2⟩ := hlt
      have hz1 : (i : Int) < (len1 : Int) := by omega
      have hz2 : (i : Int) < 60 := by omega
      have hz3 : decide ((i : Int) < (len1 : Int)) = true := decide_eq_true hz1
      obtain ⟨b, off, ha, hb, hc, _⟩ := H1.out.at hl1
      have hc2 := (R.out.low.cell (p := ⟨b, off + i, none⟩) (by show b < S; rw [HS.out] at hb; exact hb)).trans hc
      obtain ⟨z, hzz⟩ : ∃ z, zs.getD i 0 = z := ⟨_, rfl⟩
      rw [hzz] at hc2
      obtain ⟨T, hT, tN⟩ : ∃ X : Nat, bits .and .i64 z 1 = (X : Int) ∧ X < 2 := by
        have := mask_i64 z 1 1 2 (by omega) rfl rfl
        exact ⟨(z % 2).toNat, by rw [this]; omega, by omega⟩
      obtain ⟨Y, hY, Y2⟩ : ∃ X : Nat, bits .and .i64 (z / 2) 1 = (X : Int) ∧ X < 2 := by
        have := mask_i64 (z / 2) 1 1 2 (by omega) rfl rfl
        exact ⟨(z / 2 % 2).toNat, by rw [this]; omega, by omega⟩
      obtain ⟨k, d, v, f, hg⟩ : ∃ k d v f, g T = ⟨(k, d), v, f⟩ := ⟨_, _, _, _, rfl⟩
      have vi : v ≤ i := by have := R.out.few T tN; rw [hg] at this; exact this
      have vc := R.out.ver.cell tN
      have hcc := R.out.has.cell tN
      simp only [hg] at vc hcc
      have HG : Hid (g T = ⟨(k, d), v, f⟩) := hg
      have tz : (T : Int) < 2 := by omega
      have t0 : (0 : Int) ≤ (T : Int) := by omega
      have tt : ((T : Int)).toNat = T := by omega
      have wv : IntKind.u64.wrap ((v : Int) + 1) = (v : Int) + 1 := by rw [IntKind.wrap_u64, Int.emod_eq_of_lt (by omega) (by omega)]
      have mx := mixed
      have ne1 : ¬ S + 2 = S + 3 := by omega
      have ne2 : ¬ S + 3 = S + 2 := by omega
      subst ha
      clear hc hzz hb hg
      go_upto_if 46 with fail
      clear hc2 hT hY
      go_cut [9, 10] (fun s9 s10 wx => ∃ g', Vers w S (i + 1) g' wx)
      case first =>
        by_cases y0 : Y = 0
        · subst y0
          have KC : Aside (∀ W : World, W.heap[S + 3]? = wo.heap[S + 3]? → W.cell? ⟨S + 3, T, none⟩ = some (.bool f)) := fun W hW => (World.cell?_of_block (a := ⟨S + 3, T, none⟩) hW).trans hcc
          have c0 : wo.drew.heap[S + 3]? = wo.heap[S + 3]? := rfl
          cases f with
          | false =>
            have SW : Aside (Calls Try.prog 8 #[.pointer (some ⟨S + 1, 0, none⟩), .int .i64 T, .agg #[.int .u64 0, .int .i64 i]] wo.drew fun e w' => e = .returned (.int .i64 0) ∧ Slt w' (S + 1) S 2 (slSet g T ⟨(0, i), v + 1, true⟩) ∧ wo.drew.grownBy w' (some S)) :=
              slPut_ok wo.drew (S + 1) S 2 g T 0 i v R.out.slt.drew tN (by rw [HG.out]) (by rw [HG.out]) (by omega)
            go_upto_region 11 with fail
            go_region_held3 (fun W => W.cell? ⟨S + 3, T, none⟩ = some (.bool false)) (first | with_reducible exact KC.out _ c0 | with_reducible exact KC.out _ c8)
              ((go_at_call 8; (with_reducible refine Calls.mono SW.out ?_); rintro r w8 ⟨rfl, s8, g8⟩; have c8 : w8.heap[S + 3]? = wo.heap[S + 3]? := (g8.block (S + 3) R.out.has.lt (by simp))))
            have R8 : Aside (Vers w S (i + 1) (slSet g T ⟨(0, i), v + 1, true⟩) ((w8.setCell ⟨S + 3, T, none⟩ (.bool true)).setCell ⟨S + 2, T, none⟩ (.int .u64 ((v : Int) + 1)))) :=
              R.out.turn tN (by rw [HG.out]) s8 (gr_trans (gr_below (Below.refl _ _).drew _) g8)
            have y1 := KC.out _ c8
            have y2 : w8.frozen? ⟨S + 3, T, none⟩ = false := (World.frozen?_of_block (a := ⟨S + 3, T, none⟩) c8).trans (R.out.has.frozen T)
            have d8 : w8.heap[S + 2]? = wo.heap[S + 2]? := g8.block (S + 2) R.out.ver.lt (by simp)
            have y3 : w8.cell? ⟨S + 2, T, none⟩ = some (.int .u64 v) := (World.cell?_of_block (a := ⟨S + 2, T, none⟩) d8).trans vc
            have y4 : w8.frozen? ⟨S + 2, T, none⟩ = false := (World.frozen?_of_block (a := ⟨S + 2, T, none⟩) d8).trans (R.out.ver.frozen T)
            clear s8 g8 c8 d8 SW KC hcc vc
            go_wp2_with fail
            go_meet
            exact ⟨_, R8.out⟩
          | true =>
            have SW : Aside (Calls Try.prog 8 #[.pointer (some ⟨S + 1, 0, none⟩), .int .i64 T, .agg #[.int .u64 0, .int .i64 i]] wo.drew fun e w' => e = .returned (.int .i64 7) ∧ Below wo.drew.heap.size wo.drew w') :=
              slPut_full wo.drew (S + 1) S 2 g T 0 i R.out.slt.drew tN (by rw [HG.out])
            go_upto_region 11 with fail
            go_region_held3 (fun W => W.cell? ⟨S + 3, T, none⟩ = some (.bool true)) (first | with_reducible exact KC.out _ c0 | with_reducible exact KC.out _ c8)
              ((go_at_call 8; (with_reducible refine Calls.mono SW.out ?_); rintro r w8 ⟨rfl, b8⟩; have c8 : w8.heap[S + 3]? = wo.heap[S + 3]? := (b8.block (S + 3) R.out.has.lt)))
            have R8 : Aside (Vers w S (i + 1) g w8) := (R.out.on ((Below.refl _ _).drew.trans b8)).up
            have y1 := KC.out _ c8
            clear b8 c8 SW KC hcc vc
            go_wp2_with fail
            go_meet
            exact ⟨_, R8.out⟩
        · obtain rfl : Y = 1 := by omega
          cases f with
          | false =>
            have p1 := slTake_no wo (S + 1) S 2 g T v R.out.slt tN (.inl (by rw [HG.out]))
            go_wp2_with fail
            refine p1.mono ?_
            rintro r w8 ⟨rfl, b8⟩
            have R7 := (R.out.on b8).up
            have R8 : Aside (Vers w S (i + 1) g (w8.alloc (.cells #[.int .u64 0, .int .i64 0] 33))) := R7.on ((Below.refl _ _).alloc (Nat.le_refl _) _)
            have y1 : w8.cell? ⟨S + 3, T, none⟩ = some (.bool false) := by have := R7.has.cell tN; simp only [HG.out] at this; exact this
            have l3 := R7.has.lt
            clear b8 R7 hcc vc p1
            go_wp2_with fail
            go_meet
            exact ⟨_, R8.out⟩
          | true =>
            have p1 := slTake_ok wo (S + 1) S 2 g T k d v R.out.slt tN HG.out (by omega)
            go_wp2_with fail
            refine p1.mono ?_
            rintro r w8 ⟨rfl, s8, g8⟩
            have R7 := R.out.turn tN (by rw [HG.out]) s8 g8
            have R8 : Aside (Vers w S (i + 1) (slSet g T ⟨(0, 0), v + 1, false⟩) (((w8.setCell ⟨S + 3, T, none⟩ (.bool false)).setCell ⟨S + 2, T, none⟩ (.int .u64 ((v : Int) + 1))).alloc (.cells #[.int .u64 k, .int .i64 d] 33))) := R7.on ((Below.refl _ _).alloc (Nat.le_refl _) _)
            have c8 : w8.heap[S + 3]? = wo.heap[S + 3]? := g8.block (S + 3) R.out.has.lt (by simp)
            have d8 : w8.heap[S + 2]? = wo.heap[S + 2]? := g8.block (S + 2) R.out.ver.lt (by simp)
            have y1 : w8.cell? ⟨S + 3, T, none⟩ = some (.bool true) := (World.cell?_of_block (a := ⟨S + 3, T, none⟩) c8).trans hcc
            have y2 : w8.frozen? ⟨S + 3, T, none⟩ = false := (World.frozen?_of_block (a := ⟨S + 3, T, none⟩) c8).trans (R.out.has.frozen T)
            have y3 : w8.cell? ⟨S + 2, T, none⟩ = some (.int .u64 v) := (World.cell?_of_block (a := ⟨S + 2, T, none⟩) d8).trans vc
            have y4 : w8.frozen? ⟨S + 2, T, none⟩ = false := (World.frozen?_of_block (a := ⟨S + 2, T, none⟩) d8).trans (R.out.ver.frozen T)
            have l3 : S + 3 < w8.heap.size := Nat.lt_of_lt_of_le R.out.has.lt g8.size
            have l2 : S + 2 < w8.heap.size := by omega
            clear s8 g8 c8 d8 R7 hcc vc p1
            go_wp2_with fail
            go_meet
            exact ⟨_, R8.out⟩
      case rest =>
        obtain ⟨g', RC0⟩ := hcut
        have RC : Aside (Vers w S (i + 1) g' wc) := RC0
        clear RC0 R vc hcc HG
        go_wp2_with fail
        go_loopg [11] 3 (fun kx s11 wx => ∃ (j : Nat), s11 = .int .i64 j ∧ j ≤ 2 ∧ 3 - j ≤ kx ∧ Aside (Vers w S (i + 1) g' wx))
        case atStart => exact ⟨0, rfl, by omega, by omega, RC⟩
        case round =>
          obtain ⟨j, rfl, hj, hjx, RD⟩ := hrel
          by_cases jl : j < 2
          · have jz : (j : Int) < 2 := by omega
            obtain ⟨k', d', v', f', hg'⟩ : ∃ k d v f, g' j = ⟨(k, d), v, f⟩ := ⟨_, _, _, _, rfl⟩
            have p1 := slGet_in wr (S + 1) S 2 g' j k' d' v' f' RD.out.slt jl hg'
            go_wp2_with fail
            refine p1.mono ?_
            rintro r w8 ⟨rfl, b8⟩
            have R7 := RD.out.on b8
            have R8 : Aside (Vers w S (i + 1) g' (w8.alloc (.cells #[.int .u64 k', .int .i64 d'] 33))) := R7.on ((Below.refl _ _).alloc (Nat.le_refl _) _)
            have y1 := R7.has.cell jl
            have y2 := R7.ver.cell jl
            simp only [hg'] at y1 y2
            have l3 := R7.has.lt
            have l2 := R7.ver.lt
            clear b8 R7 p1 hg'
            cases f' with
            | false =>
              go_wp2
              go_roundg (3 - (j + 1))
              case measure => omega
              case rel => exact ⟨j + 1, by go_num, by omega, Nat.le_refl _, R8⟩
            | true =>
              go_wp2
              go_roundg (3 - (j + 1))
              case measure => omega
              case rel => exact ⟨j + 1, by go_num, by omega, Nat.le_refl _, R8⟩
          · have jz : ¬ (j : Int) < 2 := by omega
            go_wp2
            go_roundg (61 - (i + 1))
            case measure => omega
            case rel => exact ⟨i + 1, g', by go_num, by omega, Nat.le_refl _, RD⟩
    · have aw := slAwake_any wo
      by_cases c1 : i < len1
      · have z1 : (i : Int) < (len1 : Int) := by omega
        have z2 : ¬ (i : Int) < 60 := by omega
        have z3 : decide ((i : Int) < (len1 : Int)) = true := decide_eq_true z1
        go_wp2_with fail
        refine aw.mono ?_
        rintro r w4 ⟨rfl, b4⟩
        have D4 : Aside (Below S w w4) := R.out.low.trans (b4.mono sz)
        clear b4 aw
        go_wp2
        go_ret
        exact ⟨rfl, D4.out⟩
      · have z1 : ¬ (i : Int) < (len1 : Int) := by omega
        have z3 : decide ((i : Int) < (len1 : Int)) = false := decide_eq_false z1
        go_wp2_with fail
        refine aw.mono ?_
        rintro r w4 ⟨rfl, b4⟩
        have D4 : Aside (Below S w w4) := R.out.low.trans (b4.mono sz)
        clear b4 aw
        go_wp2
        go_ret
        exact ⟨rfl, D4.out⟩
end Go.Proofs.Ytfecobeiibdpcaa
