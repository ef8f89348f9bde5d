/- grid.Ahead: contract. -/
import Derived.Test.YtgclepkjeepanaaGrN
import Derived.Test.YtgclepkjeepanaaGrM
import Derived.Deep.OwnRows
import Derived.WalkSmall
import Derived.Deep.CutBlock
import Derived.Deep.DeepCutAuto
namespace Go.Proofs.Ytgclepkjeepanaa
open Go.RowKit Go.Lib Go.WideMaps Go.Maps Go.Deep
set_option linter.unusedVariables false

theorem infoU64 : (Try.prog.info? 22).map (fun i => (i.zero, i.size, i.bytes)) = some (some (.int .u64 0), 1, 8) := by kernel_rfl
/-- A slice that holds so many numbers. -/
def Ticks (w : World) (a : Option Addr) (n : Nat) (g : Nat → Int) : Prop := ∀ j, j < n → ∃ b, a = some ⟨b, 0, none⟩ ∧ b < w.heap.size ∧ w.cell? ⟨b, j, none⟩ = some (.int .u64 (g j))
theorem Ticks.below {w w' : World} {a : Option Addr} {n : Nat} {g : Nat → Int} (h : Ticks w a n g) (hw : Below w.heap.size w w') : Ticks w' a n g := fun j hj => by
  obtain ⟨b, h1, h2, h3⟩ := h j hj
  exact ⟨b, h1, Nat.lt_of_lt_of_le h2 hw.size, (hw.cell (p := ⟨b, j, none⟩) h2).trans h3⟩
/-- The least of three. -/
theorem min3 (s : TypeId) (us : Array TypeId) (a b c K : Int) (h : min a (min b c) = K) (w : World) : (Builtin.min_ us s #[.int .u64 a, .int .u64 b, .int .u64 c]).run Try.prog w = .ok (.int .u64 K) w := by
  have e : (if c < (if b < a then b else a) then c else (if b < a then b else a)) = K := by
    by_cases h1 : b < a
    · rw [if_pos h1]; split <;> omega
    · rw [if_neg h1]; split <;> omega
  rw [← e]
  rfl
/-- What Ahead answers. -/
def AheadIs (w : World) (f p n k : Int) (e : Ending) (w' : World) : Prop := ∃ a c, e = .returned (.slice a (aN f p n k) c) ∧ Ticks w' a (aN f p n k) (fun j => gI f p n (j + 1)) ∧ Below w.heap.size w w'
set_option maxHeartbeats 4000000 in
theorem ahead_any (f p d r m n k : Int) (w : World) (hf : IsT f) (hp : IsT p) (hn : IsT n) (k1 : -9223372036854775808 ≤ k) (k2 : k ≤ 9223372036854775807) :
    Calls Try.prog 8 #[.agg #[.int .u64 f, .int .u64 p, .int .u64 d, .int .u64 r, .int .u64 m], .int .u64 n, .int .i64 k] w fun e w' => AheadIs w f p n k e w' := by
  obtain ⟨q1, q2, q3, q4⟩ := aN_is hf hp hn k
  have c1 : ∀ w, Calls Try.prog 15 #[.int .u64 f, .int .u64 p, .int .u64 n, .int .u64 18446744073709551615] w fun e w' => e = .returned (.int .u64 (missT f p n lastTick)) ∧ w' = w := fun w => missed_any f p n lastTick w hf hp hn lastTick_is
  have c2 := fun w => of_any k w k1 k2
  unfold AheadIs
  obtain ⟨K, hK⟩ : ∃ K, aN f p n k = K := ⟨_, rfl⟩
  rw [hK] at q1 q2 q3 q4 ⊢
  have HK : Hid _ := hK
  generalize missT f p n lastTick = M at *
  generalize ofT k = A at *
  have hmin := min3 22 #[22, 22, 22] A 100 M K (by omega)
  have hmk := run_make_row' (P := Try.prog) 28 22 (.int .u64 0) 8 Try.underlying28 infoU64 rfl .u64 .u64 K (by omega) (by omega)
  have K1 : K ≤ 100 := by omega
  obtain ⟨S, hS⟩ : ∃ S, w.heap.size = S := ⟨_, rfl⟩
  obtain ⟨u1, hu1⟩ : ∃ u, w.alloc (.cells #[.int .u64 f, .int .u64 p, .int .u64 d, .int .u64 r, .int .u64 m] 24) = u := ⟨_, rfl⟩
  obtain ⟨u2, hu2⟩ : ∃ u, u1.alloc (.cells (madeCells #[.int .u64 0] K) 22) = u := ⟨_, rfl⟩
  have s1 : u1.heap.size = S + 1 := by rw [← hu1, alloc_sz, hS]
  have b1 : Below S w u1 := by rw [← hu1, ← hS]; exact bel1 _ _
  have b2 : Below u1.heap.size u1 u2 := by rw [← hu2]; exact bel1 _ _
  have x1 : JBox u1 S f p d r m := by rw [← hu1, ← hS]; exact JBox.new _ _ _ _ _ _
  have x2 : JBox u2 S f p d r m := x1.below b2
  have rw0 : u2.rowIs (S + 1) 22 K (fun j => .int .u64 0) := by rw [← hu2, ← s1]; exact World.rowIs_made u1 (.int .u64 0) K 22
  have bv : Below S w u2 := b1.trans (b2.mono (by omega))
  obtain ⟨z0, z1, -⟩ := x1.cell
  have HX : Hid _ := And.intro x2 (And.intro rw0 bv)
  have HU1 : Hid _ := hu1
  have HU2 : Hid _ := hu2
  clear hu1 hu2 b1 b2 x1 x2 rw0 bv q1 q2 q3 q4 hK k1 k2
  go_enter Try.func8, Try.ntmps8
  go_wp2_with fail
  rw [HU1.out]
  refine (c1 _).mono ?_
  rintro e w1 ⟨rfl, rfl⟩
  go_wp2_with fail
  refine (c2 _).mono ?_
  rintro e w2 ⟨rfl, rfl⟩
  go_wp2_with fail
  rw [HU2.out]
  clear hmin hmk c1 c2 z0 z1 s1
  go_loopw [1, 23] (fun s1 s23 wr => ∃ I : Nat, I ≤ K ∧ s1 = .int .u64 (gI f p n I) ∧ s23 = .int .i64 I ∧ JBox wr S f p d r m ∧ wr.rowIs (S + 1) 22 K (fun j => .int .u64 (if j < I then gI f p n (j + 1) else 0)) ∧ Below S w wr) (fun _ i _ => K - (intOf i).toNat)
  case atStart =>
    obtain ⟨x2, rw0, bv⟩ := HX.out
    exact ⟨0, by omega, rfl, rfl, x2, rw0.congr (fun j _ => by simp), bv⟩
  case round =>
    obtain ⟨I, hI, rfl, rfl, hj, hr, hb⟩ := hrel
    by_cases h : I < K
    · have h' : (I : Int) < (K : Int) := by omega
      obtain ⟨j0, j1, -⟩ := hj.cell
      have fz := hr.frozen I
      have cc := hr.cell h
      simp only [if_neg (Nat.lt_irrefl I)] at cc
      have G := grid_any f p (gI f p n I) wr hf hp (gI_is hf hp hn I)
      have HG : Hid (gI f p n (I + 1) = gridV f p (gI f p n I)) := rfl
      obtain ⟨V, hV⟩ : ∃ V, gridV f p (gI f p n I) = V := ⟨_, rfl⟩
      rw [hV] at G HG
      have NX : Aside (JBox (wr.setCell ⟨S + 1, I, none⟩ (.int .u64 V)) S f p d r m ∧ (wr.setCell ⟨S + 1, I, none⟩ (.int .u64 V)).rowIs (S + 1) 22 K (fun j => .int .u64 (if j < I + 1 then gI f p n (j + 1) else 0)) ∧ Below S w (wr.setCell ⟨S + 1, I, none⟩ (.int .u64 V))) := by
        refine ⟨hj.other (by omega) _, (hr.set I _).congr (fun j _ => ?_), hb.setCell (by show S ≤ S + 1; omega) _⟩
        by_cases c : j = I
        · subst c
          simp [HG.out]
        · by_cases c2 : j < I
          · simp [c, c2, show j < I + 1 by omega]
          · simp [c, c2, show ¬ j < I + 1 by omega]
      clear hV hj hr hb
      generalize gI f p n I = N at *
      generalize gridOk f p N = O at *
      go_wp2_with fail
      refine G.mono ?_
      rintro e w3 ⟨rfl, rfl⟩
      clear G
      go_wp2_with fail
      go_roundw
      case rel => exact ⟨I + 1, by omega, by rw [HG.out], by go_num, NX.out⟩
      case measure => simp [intOf]; omega
    · obtain rfl : I = K := by omega
      have TK : Aside (Ticks wr (some ⟨S + 1, 0, none⟩) I (fun j => gI f p n (j + 1))) := fun j hj => by
        have := hr.cell hj
        simp only [if_pos hj] at this
        exact ⟨S + 1, rfl, hr.lt, this⟩
      have BB : Aside (Below S w wr) := hb
      clear hj hr hb
      go_wp2_with fail
      go_ret
      exact ⟨_, _, rfl, TK.out, by first | exact BB.out | (rw [hS]; exact BB.out)⟩
end Go.Proofs.Ytgclepkjeepanaa
