/- The walk of 'SlotHelps'. -/
import Derived.Test.YtfecobeiibdpcaaSltA
import Derived.Test.YtfecobeiibdpcaaMask
import Derived.Test.YtfecobeiibdpcaaRowAt
import Derived.Deep.DeepCutAuto
namespace Go.Proofs.Ytfecobeiibdpcaa
open Go.RowKit Go.Lib Go.Sort
set_option linter.unusedVariables false

theorem slInfoU : (Try.prog.info? 27).map (fun i => (i.zero, i.size, i.bytes)) = some (some (.int .u64 0), 1, 8) := by kernel_rfl
theorem slInfoB : (Try.prog.info? 4).map (fun i => (i.zero, i.size, i.bytes)) = some (some (.bool false), 1, 1) := by kernel_rfl
/-- What holds between who announce, look and take. -/
structure Help (w0 : World) (S N put taken : Nat) (e : Ent) (v : Nat) (f : Bool) (V : Nat → Int) (H : Nat → Bool) (wr : World) : Prop where
  slt : Slt wr (S + 1) S 1 (fun _ => ⟨e, v, f⟩)
  ver : wr.rowIs (S + 2) 27 N (fun j => .int .u64 (V j))
  lok : wr.rowIs (S + 3) 4 N (fun j => .bool (H j))
  low : Below S w0 wr
  num : v = put + taken
  has : f = true → put = taken + 1 ∧ e.2 = put
  non : f = false → put = taken
variable {w0 : World} {S N put taken : Nat} {e : Ent} {v : Nat} {f : Bool} {V : Nat → Int} {H : Nat → Bool} {wr w' : World}
theorem Help.on (h : Help w0 S N put taken e v f V H wr) (hv : Below wr.heap.size wr w') : Help w0 S N put taken e v f V H w' :=
  ⟨h.slt.below hv, h.ver.of_block (hv.block _ h.ver.lt), h.lok.of_block (hv.block _ h.lok.lt), h.low.trans (hv.mono (by have := h.slt.rlt; omega)), h.num, h.has, h.non⟩
theorem Help.see (h : Help w0 S N put taken e v f V H wr) (t : Nat) (x : Int) : Help w0 S N put taken e v f (fun j => if j = t then x else V j) H (wr.setCell ⟨S + 2, t, none⟩ (.int .u64 x)) :=
  ⟨h.slt.setNew (by omega) (by omega) _, (h.ver.set t (.int .u64 x)).congr fun j hj => by by_cases c : j = t <;> simp [c], h.lok.setOther (by simp) _, h.low.setCell (by simp) _, h.num, h.has, h.non⟩
theorem Help.look (h : Help w0 S N put taken e v f V H wr) (t : Nat) (x : Bool) : Help w0 S N put taken e v f V (fun j => if j = t then x else H j) (wr.setCell ⟨S + 3, t, none⟩ (.bool x)) :=
  ⟨h.slt.setNew (by omega) (by omega) _, h.ver.setOther (by simp) _, (h.lok.set t (.bool x)).congr fun j hj => by by_cases c : j = t <;> simp [c], h.low.setCell (by simp) _, h.num, h.has, h.non⟩
theorem Help.turn {put' taken' v' : Nat} {e' : Ent} {f' : Bool} {g : Nat → Pl} (h : Help w0 S N put taken e v f V H wr) (hs : Slt w' (S + 1) S 1 (slSet g 0 ⟨e', v', f'⟩)) (hg : wr.grownBy w' (some S)) (h1 : v' = put' + taken') (h2 : f' = true → put' = taken' + 1 ∧ e'.2 = put') (h3 : f' = false → put' = taken') :
    Help w0 S N put' taken' e' v' f' V H w' :=
  ⟨hs.congr fun i hi => by rw [show i = 0 by omega, slSet_same], h.ver.of_block (hg.block _ h.ver.lt (by simp)), h.lok.of_block (hg.block _ h.lok.lt (by simp)), h.low.trans (below_gr hg (Nat.le_refl _) (by have := h.slt.rlt; omega)), h1, h2, h3⟩

set_option maxHeartbeats 8000000 in
set_option maxRecDepth 100000 in
theorem slotHelps_walk (n0 : Int) (a1 : Option Addr) (len1 cap1 : Nat) (zs : List Int) (w : World) (h0 : (Lit.int .i64 n0).wf = true) (h1 : IsRow .i64 w a1 len1 cap1 zs) :
    Calls Try.prog 6 #[.int .i64 n0, .slice a1 len1 cap1] w fun r w' => r = .returned (.bool true) ∧ Below w.heap.size w w' := by
  obtain ⟨S, hS⟩ : ∃ S, w.heap.size = S := ⟨_, rfl⟩
  have hl := h1.len_le
  have H1 : Aside (IsRow .i64 w a1 len1 cap1 zs) := h1
  obtain ⟨N1, hN1, N18⟩ : ∃ N : Nat, bits .and .i64 (Int.tmod n0 7) 7 = (N : Int) ∧ N < 8 := by
    have := mask_i64 (Int.tmod n0 7) 3 7 8 (by omega) rfl rfl
    exact ⟨((Int.tmod n0 7) % 8).toNat, by rw [this]; omega, by omega⟩
  obtain ⟨N, hN2, hN3⟩ : ∃ N : Nat, (N1 : Int) + 1 = (N : Int) ∧ N1 + 1 = N := ⟨N1 + 1, by omega, rfl⟩
  have N0 : 0 < N := by omega
  have N8 : N ≤ 8 := by omega
  have nw := slNew_in 1 w S hS (by omega) (by omega)
  have hmk := run_make_row' (P := Try.prog) 53 27 (.int .u64 0) 8 Try.underlying53 slInfoU rfl .i64 .i64 N (by omega) (by omega)
  have hmb := run_make_row' (P := Try.prog) 54 4 (.bool false) 1 Try.underlying54 slInfoB rfl .i64 .i64 N (by omega) (by omega)
  have n1 : ¬ (N : Int) < 1 := by omega
  rw [hS]
  have HS : Hid _ := hS
  clear h0 h1 hS hN3
  have hN2' : IntKind.i64.wrap ((N1 : Int) + 1) = (N : Int) := by rw [IntKind.wrap_i64]; omega
  go_enter Try.func6, Try.ntmps6
  go_wp2_with fail
  refine nw.mono ?_
  rintro r w1 ⟨rfl, s1, b1, z1⟩
  have r1 := (World.rowIs_made w1 (.int .u64 0) N 27).alloc (.cells (madeCells #[.bool false] N) 4)
  have r2 := World.rowIs_made (w1.alloc (.cells (madeCells #[.int .u64 0] N) 27)) (.bool false) N 4
  rw [show (w1.alloc (.cells (madeCells #[.int .u64 0] N) 27)).heap.size = S + 3 by simp [z1]] at r2
  rw [z1] at r1
  obtain ⟨w3, hw3⟩ : ∃ W, (w1.alloc (.cells (madeCells #[.int .u64 0] N) 27)).alloc (.cells (madeCells #[.bool false] N) 4) = W := ⟨_, rfl⟩
  have R0 : Aside (Help w S N 0 0 (0, 0) 0 false (fun _ => 0) (fun _ => false) w3) := by
    rw [← hw3]
    exact ⟨(s1.alloc _).alloc _, r1, r2, (b1.alloc (by omega) _).alloc (by simp; omega) _, rfl, fun h => (by cases h), fun _ => rfl⟩
  have HW3 : Hid _ := hw3
  clear nw s1 b1 r1 r2 hw3
  go_wp2_with fail
  rw [HW3.out]
  clear hmk hmb hN1 hN2 hN2' z1
  go_loopg [9, 10, 11] 81 (fun kx s9 s10 s11 wx => ∃ (i put taken : Nat) (e : Ent) (v : Nat) (f : Bool) (V : Nat → Int) (H : Nat → Bool), s11 = .int .i64 i ∧ s9 = .int .i64 put ∧ s10 = .int .i64 taken ∧ i ≤ 80 ∧ put ≤ i ∧ taken ≤ i ∧ 81 - i ≤ kx ∧ Aside (Help w S N put taken e v f V H wx))
  case atStart => exact ⟨0, 0, 0, _, _, _, _, _, rfl, rfl, rfl, by omega, by omega, by omega, by omega, R0⟩
  case round =>
    clear R0
    obtain ⟨i, put, taken, e, v, f, V, H, rfl, rfl, rfl, hi, hpi, hti, hix, R⟩ := hrel
    have sz := R.out.low.size
    rw [HS.out] at sz
    have NUM : Hid (v = put + taken) := R.out.num
    have v160 : v ≤ 160 := by have := NUM.out; omega
    by_cases hlt : i < len1 ∧ i < 80
    · obtain ⟨hl1, hl2⟩ := hlt
      have hz1 : (i : Int) < (len1 : Int) := by omega
      have hz2 : (i : Int) < 80 := by omega
      have hz3 : decide ((i : Int) < (len1 : Int)) = true := decide_eq_true hz1
      obtain ⟨b, off, ha, hb, hc, _⟩ := H1.out.at hl1
      have hc2 := (R.out.low.cell (p := ⟨b, off + i, none⟩) (by show b < S; rw [HS.out] at hb; exact hb)).trans hc
      obtain ⟨z, hzz⟩ : ∃ z, zs.getD i 0 = z := ⟨_, rfl⟩
      rw [hzz] at hc2
      obtain ⟨X, hX, X1⟩ : ∃ X : Nat, bits .and .i64 z 255 = (X : Int) ∧ X < 256 := by
        have := mask_i64 z 8 255 256 (by omega) rfl rfl
        exact ⟨(z % 256).toNat, by rw [this]; omega, by omega⟩
      obtain ⟨N9, hN9⟩ : ∃ M : Nat, N + 1 = M := ⟨_, rfl⟩
      have wN9 : IntKind.i64.wrap ((N : Int) + 1) = (N9 : Int) := by rw [IntKind.wrap_i64]; omega
      obtain ⟨T, hT⟩ : ∃ T, X % N9 = T := ⟨_, rfl⟩
      have tN : T < N + 1 := by rw [← hT, hN9]; exact Nat.mod_lt _ (by omega)
      have ww4 : (X : Int) % (N9 : Int) = (T : Int) := by rw [← hT]; rfl
      have ww3 : Int.tmod (X : Int) (N9 : Int) = (T : Int) := by rw [← hT]; rfl
      have ww6 : ¬ (N9 : Int) = 0 := by omega
      have ww7 : ((N9 : Int) == 0) = false := by simp; omega
      subst ha
      clear hc hzz hT hb
      have s0 := R.out.slt
      obtain ⟨k, d⟩ := e
      by_cases tn : T = N
      · subst tn
        have te : ((T : Int) == (T : Int)) = true := by simp
        have wp : IntKind.i64.wrap ((put : Int) + 1) = (put : Int) + 1 := by rw [IntKind.wrap_i64]; omega
        cases f with
        | false =>
          have pt := R.out.non rfl
          have p1 := slPut_ok wr (S + 1) S 1 _ 0 1 ((put : Int) + 1) v s0 (by omega) rfl rfl (by omega)
          have pe : ((put : Int) == (taken : Int)) = true := by simp; omega
          have pe2 : (put : Int) = (taken : Int) := by omega
          have PT : Hid (put = taken) := pt
          have PE : Hid _ := pe2
          clear pe2 pt
          go_wp2_with fail
          refine p1.mono ?_
          rintro r w2 ⟨rfl, s2, g2⟩
          have R2 : Aside (Help w S T (put + 1) taken (1, (put : Int) + 1) (v + 1) true V H w2) := R.out.turn s2 g2 (by have := NUM.out; omega) (fun _ => ⟨by have := PT.out; omega, by simp⟩) (fun h => by cases h)
          clear p1 s2 g2 s0
          go_wp2
          go_roundg (81 - (i + 1))
          case measure => omega
          case rel => exact ⟨i + 1, put + 1, taken, _, _, _, _, _, by go_num, by go_num, rfl, by omega, by omega, by omega, Nat.le_refl _, R2⟩
        | true =>
          obtain ⟨pt, _⟩ := R.out.has rfl
          have p1 := slPut_full wr (S + 1) S 1 _ 0 1 ((put : Int) + 1) s0 (by omega) rfl
          have pe : ((put : Int) == (taken : Int)) = false := by simp; omega
          have pe2 : ¬ (put : Int) = (taken : Int) := by omega
          clear pt
          go_wp2_with fail
          refine p1.mono ?_
          rintro r w2 ⟨rfl, b2⟩
          have R2 : Aside (Help w S T put taken (k, d) v true V H w2) := R.out.on b2
          clear p1 b2 s0
          go_wp2
          go_roundg (81 - (i + 1))
          case measure => omega
          case rel => exact ⟨i + 1, put, taken, _, _, _, _, _, by go_num, rfl, rfl, by omega, by omega, by omega, Nat.le_refl _, R2⟩
      · have tl : T < N := by omega
        have te : ((T : Int) == (N : Int)) = false := by simp; omega
        have te2 : ¬ (T : Int) = (N : Int) := by omega
        have ww8 : (T : Int) < (N : Int) := by omega
        have lc := R.out.lok.cell tl
        have lf := R.out.lok.frozen T
        have vc := R.out.ver.cell tl
        have vf := R.out.ver.frozen T
        have ne1 : ¬ S + 2 = S + 3 := by omega
        have ne2 : ¬ S + 3 = S + 2 := by omega
        clear tn
        cases hH : H T with
        | false =>
          simp only [hH] at lc
          have p1 := slGet_in wr (S + 1) S 1 _ 0 k d v f s0 (by omega) rfl
          go_wp2_with fail
          refine p1.mono ?_
          rintro r w2 ⟨rfl, b2⟩
          have R2 := R.out.on b2
          have lc2 := R2.lok.cell tl
          have lf2 := R2.lok.frozen T
          have vc2 := R2.ver.cell tl
          have vf2 := R2.ver.frozen T
          have l2 := R2.lok.lt
          have l3 := R2.ver.lt
          have R3 : Aside (Help w S N put taken (k, d) v f (fun j => if j = T then (v : Int) else V j) (fun j => if j = T then f else H j) (((w2.setCell ⟨S + 2, T, none⟩ (.int .u64 v)).setCell ⟨S + 3, T, none⟩ (.bool f)).alloc (.cells #[.int .u64 k, .int .i64 d] 33))) :=
            ((R2.see T v).look T f).on ((Below.refl _ _).alloc (Nat.le_refl _) _)
          clear p1 b2 R2 lc lf vc vf
          cases f with
          | false =>
            have pt := R.out.non rfl
            have q1 : ¬ (taken : Int) < (put : Int) := by omega
            have q2 : decide ((taken : Int) < (put : Int)) = false := decide_eq_false q1
            clear pt s0
            go_wp2
            go_roundg (81 - (i + 1))
            case measure => omega
            case rel => exact ⟨i + 1, put, taken, _, _, _, _, _, by go_num, rfl, rfl, by omega, by omega, by omega, Nat.le_refl _, R3⟩
          | true =>
            obtain ⟨pt, dp⟩ := R.out.has rfl
            simp only at dp
            subst dp
            have q1 : (taken : Int) < (put : Int) := by omega
            have q2 : decide ((taken : Int) < (put : Int)) = true := decide_eq_true q1
            clear pt s0
            go_wp2
            go_roundg (81 - (i + 1))
            case measure => omega
            case rel => exact ⟨i + 1, put, taken, _, _, _, _, _, by go_num, rfl, rfl, by omega, by omega, by omega, Nat.le_refl _, R3⟩
        | true =>
          simp only [hH] at lc
          obtain ⟨v1, hv1⟩ : ∃ W, wr.setCell ⟨S + 3, T, none⟩ (.bool false) = W := ⟨_, rfl⟩
          have R1 : Help w S N put taken (k, d) v f V (fun j => if j = T then false else H j) v1 := by rw [← hv1]; exact R.out.look T false
          have HV1 : Hid _ := hv1
          have s1 := R1.slt
          have vc1 := R1.ver.cell tl
          obtain ⟨VT, hVT⟩ : ∃ x, V T = x := ⟨_, rfl⟩
          rw [hVT] at vc1
          clear vc vf hv1 hVT
          by_cases ok : f = true ∧ (v : Int) = VT
          · obtain ⟨rfl, rfl⟩ := ok
            obtain ⟨pt, dp⟩ := R1.has rfl
            simp only at dp
            subst dp
            have p1 := slTake_ok v1 (S + 1) S 1 _ 0 k put v s1 (by omega) rfl (by omega)
            have wt : IntKind.i64.wrap ((taken : Int) + 1) = (put : Int) := by rw [IntKind.wrap_i64]; omega
            have RA : Aside _ := R1
            have PT : Hid (put = taken + 1) := pt
            clear pt s1 R1 s0
            go_upto_region 15 with fail
            rw [HV1.out]
            go_wp2_with fail
            refine p1.mono ?_
            rintro r w2 ⟨rfl, s2, g2⟩
            have R2 : Aside (Help w S N put put (0, 0) (v + 1) false V (fun j => if j = T then false else H j) (w2.alloc (.cells #[.int .u64 k, .int .i64 put] 33))) := (RA.out.turn s2 g2 (by have := PT.out; have := NUM.out; omega) (fun h => by cases h) (fun _ => rfl)).on ((Below.refl _ _).alloc (Nat.le_refl _) _)
            clear p1 s2 g2 RA lc lf vc1
            go_wp2
            go_roundg (81 - (i + 1))
            case measure => omega
            case rel => exact ⟨i + 1, put, put, _, _, _, _, _, by go_num, rfl, rfl, by omega, by omega, by omega, Nat.le_refl _, R2⟩
          · have p1 := slTake_no v1 (S + 1) S 1 _ 0 VT s1 (by omega) (by
              by_cases c : f = true
              · exact .inr fun e => ok ⟨c, e⟩
              · exact .inl (by simpa using c))
            have RA : Aside _ := R1
            clear ok s1 R1 s0
            go_upto_region 15 with fail
            rw [HV1.out]
            go_wp2_with fail
            refine p1.mono ?_
            rintro r w2 ⟨rfl, b2⟩
            have R2 : Aside (Help w S N put taken (k, d) v f V (fun j => if j = T then false else H j) (w2.alloc (.cells #[.int .u64 0, .int .i64 0] 33))) := (RA.out.on b2).on ((Below.refl _ _).alloc (Nat.le_refl _) _)
            clear p1 b2 RA lc lf vc1
            go_wp2
            go_roundg (81 - (i + 1))
            case measure => omega
            case rel => exact ⟨i + 1, put, taken, _, _, _, _, _, by go_num, rfl, rfl, by omega, by omega, by omega, Nat.le_refl _, R2⟩
    · have q1 : (taken : Int) ≤ (put : Int) := by
        cases f with
        | false => have := R.out.non rfl; omega
        | true => have := (R.out.has rfl).1; omega
      have q2 : (put : Int) ≤ (taken : Int) + 1 := by
        cases f with
        | false => have := R.out.non rfl; omega
        | true => have := (R.out.has rfl).1; omega
      have q3 : decide ((taken : Int) ≤ (put : Int)) = true := decide_eq_true q1
      have q4 : decide ((put : Int) ≤ (taken : Int) + 1) = true := decide_eq_true q2
      have wt : IntKind.i64.wrap ((taken : Int) + 1) = (taken : Int) + 1 := by rw [IntKind.wrap_i64]; omega
      have aw := slAwake_any wr
      by_cases c1 : i < len1
      · have z1 : (i : Int) < (len1 : Int) := by omega
        have z2 : ¬ (i : Int) < 80 := by omega
        have z3 : decide ((i : Int) < (len1 : Int)) = true := decide_eq_true z1
        go_wp2_with fail
        refine aw.mono ?_
        rintro r w4 ⟨rfl, b4⟩
        have D4 : Aside (Below S w w4) := R.out.low.trans (b4.mono sz)
        clear b4 aw
        go_wp2
        go_ret
        exact ⟨rfl, D4.out⟩
      · have z1 : ¬ (i : Int) < (len1 : Int) := by omega
        have z3 : decide ((i : Int) < (len1 : Int)) = false := decide_eq_false z1
        go_wp2_with fail
        refine aw.mono ?_
        rintro r w4 ⟨rfl, b4⟩
        have D4 : Aside (Below S w w4) := R.out.low.trans (b4.mono sz)
        clear b4 aw
        go_wp2
        go_ret
        exact ⟨rfl, D4.out⟩
end Go.Proofs.Ytfecobeiibdpcaa
