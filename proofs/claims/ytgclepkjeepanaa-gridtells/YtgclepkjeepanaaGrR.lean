/- The document's Ahead: contract. -/
import Derived.Test.YtgclepkjeepanaaGrH
import Derived.Maps.Own
import Derived.Maps.AppendAt
import Derived.OwnWalk
import Derived.Laws.OwnMore
namespace Go.Proofs.Ytgclepkjeepanaa
open Go.RowKit Go.Lib Go.WideMaps Go.Maps Go.Deep
set_option linter.unusedVariables false

/-- The first so many, as cells. -/
def gL (f p n : Int) (i : Nat) : List Value := (List.range i).map (fun j => Value.int .u64 (gI f p n (j + 1)))
theorem gL_up (f p n : Int) (i : Nat) : gL f p n (i + 1) = gL f p n i ++ [Value.int .u64 (gI f p n (i + 1))] := by
  unfold gL
  rw [List.range_succ, List.map_append]
  rfl
theorem gL_ticks {w : World} {base I : Nat} {v : Value} {f p n : Int} (h : w.ownsRow base 22 1 v I (gL f p n I)) : ∃ a c, v = .slice a I c ∧ Ticks w a I (fun j => gI f p n (j + 1)) := by
  have own := h
  rcases h.2 with ⟨rfl, rfl⟩ | ⟨g, cap, cur, rfl, _, hg, _⟩
  · exact ⟨none, 0, rfl, fun j hj => by omega⟩
  · refine ⟨some ⟨g, 0, none⟩, cap, rfl, fun j hj => ⟨g, rfl, lt_of_block hg, ?_⟩⟩
    rw [World.ownsRow.cellAt own j (by omega)]
    unfold gL
    rw [List.getElem?_map, List.getElem?_range hj]
    rfl
set_option maxHeartbeats 4000000 in
theorem refAhead_any (f p d r m n k : Int) (w : World) (hf : IsT f) (hp : IsT p) (hn : IsT n) (k1 : -9223372036854775808 ≤ k) (k2 : k ≤ 9223372036854775807) :
    Calls Try.prog 12 #[.agg #[.int .u64 f, .int .u64 p, .int .u64 d, .int .u64 r, .int .u64 m], .int .u64 n, .int .i64 k] w fun e w' => AheadIs w f p n k e w' := by
  have q := aN_is hf hp hn k
  have left := fun i => gI_left hf hp hn i
  have k0 : (0 < k → ofT k = k) ∧ (¬ 0 < k → ofT k = 0) := by unfold ofT; split <;> omega
  unfold AheadIs
  obtain ⟨K, hK⟩ : ∃ K, aN f p n k = K := ⟨_, rfl⟩
  rw [hK] at q ⊢
  have go : ∀ I : Nat, I ≤ K → ((I : Int) < k ∧ (I : Int) < 100 ∧ gridOk f p (gI f p n I) = true ↔ I < K) := fun I hI => by
    obtain ⟨q1, q2, q3, q4⟩ := q
    obtain ⟨_, l2⟩ := left I (by omega)
    rw [← l2]
    generalize missT f p n lastTick = M at *
    by_cases c : 0 < k
    · rw [k0.1 c] at *; omega
    · rw [k0.2 c] at *; omega
  have GO : Aside _ := go
  have K1 : K ≤ 100 := by omega
  obtain ⟨i0, hi, hz0, hz1, hz2⟩ := info_parts infoU64
  obtain ⟨S, hS⟩ : ∃ S, w.heap.size = S := ⟨_, rfl⟩
  obtain ⟨u1, hu1⟩ : ∃ u, w.alloc (.cells #[.int .u64 f, .int .u64 p, .int .u64 d, .int .u64 r, .int .u64 m] 24) = u := ⟨_, rfl⟩
  have s1 : u1.heap.size = S + 1 := by rw [← hu1, alloc_sz, hS]
  have b1 : Below S w u1 := by rw [← hu1, ← hS]; exact bel1 _ _
  have x1 : JBox u1 S f p d r m := by rw [← hu1, ← hS]; exact JBox.new _ _ _ _ _ _
  have HX : Hid _ := And.intro x1 (And.intro b1 s1)
  have HU1 : Hid _ := hu1
  clear hu1 b1 x1 s1 q left k0 go hK
  go_enter Try.func12, Try.ntmps12
  go_wp2_with fail
  rw [HU1.out]
  clear HU1
  go_loopw [1, 7, 8] (fun s1 s7 s8 wr => ∃ I : Nat, I ≤ K ∧ s1 = .int .u64 (gI f p n I) ∧ s8 = .int .i64 I ∧ wr.ownsRow (S + 1) 22 1 s7 I (gL f p n I) ∧ JBox wr S f p d r m ∧ Below S w wr ∧ S + 1 ≤ wr.heap.size) (fun _ _ i _ => K - (intOf i).toNat)
  case atStart =>
    obtain ⟨x1, b1, s1⟩ := HX.out
    exact ⟨0, by omega, rfl, rfl, World.ownsRow_nil _ _ _ _, x1, b1, by omega⟩
  case round =>
    obtain ⟨I, hI, rfl, rfl, hown, hj, hb, hsz⟩ := hrel
    obtain ⟨j0, j1, -⟩ := hj.cell
    have G := refGrid_any f p (gI f p n I) wr hf hp (gI_is hf hp hn I)
    have go := GO.out I hI
    have HG : Hid (gI f p n (I + 1) = gridV f p (gI f p n I)) := rfl
    obtain ⟨V, hV⟩ : ∃ V, gridV f p (gI f p n I) = V := ⟨_, rfl⟩
    rw [hV] at G HG
    obtain ⟨O, hO⟩ : ∃ O, gridOk f p (gI f p n I) = O := ⟨_, rfl⟩
    rw [hO] at G go
    clear hV hO
    by_cases h : I < K
    · obtain ⟨h1, h2, rfl⟩ := go.2 h
      clear go
      generalize gI f p n I = N at *
      go_wp2_with fail
      refine G.mono ?_
      rintro e w3 ⟨rfl, rfl⟩
      clear G
      go_wp2_with (at_builtin; refine wpList_append_own _ rfl _ _ 28 rfl (S + 1) 22 i0 (.int .u64 0) 1 8 Try.underlying28 hi hz0 hz1 hz2 rfl (by decide) _ _ _ rfl (hown.alloc _) ⟨w3.heap.size, 0, none⟩ 1 1 [.int .u64 V] rfl rfl (cell_one_new _ _ _) (ints_oneCell .u64 [V]) (by unfold maxLen; omega) (by omega) (by simp; omega) ?_; intro v' w2 hown2 hgrow2 hnil2; have B2 : Aside (Below (S + 1) w3 w2) := (((Below.refl _ _).alloc hsz _).grown hgrow2 (by simp; omega) (fun k hk => (hown.lt k hk).1)); clear hgrow2 hnil2)
      have NX : Aside (w2.ownsRow (S + 1) 22 1 v' (I + 1) (gL f p n (I + 1)) ∧ JBox w2 S f p d r m ∧ Below S w w2 ∧ S + 1 ≤ w2.heap.size) := by
        refine ⟨?_, (B2.out.block S (by omega)).trans hj, hb.trans (B2.out.mono (by omega)), by have := B2.out.size; omega⟩
        rw [gL_up, HG.out]
        simpa using hown2
      clear hown hown2 hj hb B2 hsz
      go_wp2_with fail
      go_roundw
      case rel => exact ⟨I + 1, by omega, by rw [HG.out], by go_num, NX.out⟩
      case measure => simp [intOf]; omega
    · obtain rfl : I = K := by omega
      have TK := gL_ticks hown
      obtain ⟨a, c, rfl, tk⟩ := TK
      have TA : Aside _ := tk
      have BB : Aside (Below S w wr) := hb
      clear hj hown tk hb hsz
      have hcs : ¬ (I : Int) < k ∨ ((I : Int) < k ∧ ¬ (I : Int) < 100) ∨ ((I : Int) < k ∧ (I : Int) < 100 ∧ O = false) := by
        cases O
        · by_cases c1 : (I : Int) < k
          · by_cases c2 : (I : Int) < 100
            · exact .inr (.inr ⟨c1, c2, rfl⟩)
            · exact .inr (.inl ⟨c1, c2⟩)
          · exact .inl c1
        · simp only [and_true] at go; omega
      clear go h
      generalize gI f p n I = N at *
      rcases hcs with c1 | ⟨c1, c2⟩ | ⟨c1, c2, rfl⟩
      · go_wp2_with fail
        go_ret
        first | exact ⟨_, _, rfl, TA.out, by first | exact BB.out | (rw [hS]; exact BB.out)⟩ | exact ⟨_, ⟨_, rfl⟩, TA.out, by first | exact BB.out | (rw [hS]; exact BB.out)⟩
      · go_wp2_with fail
        go_ret
        first | exact ⟨_, _, rfl, TA.out, by first | exact BB.out | (rw [hS]; exact BB.out)⟩ | exact ⟨_, ⟨_, rfl⟩, TA.out, by first | exact BB.out | (rw [hS]; exact BB.out)⟩
      · go_wp2_with fail
        refine G.mono ?_
        rintro e w3 ⟨rfl, rfl⟩
        clear G
        go_wp2_with fail
        go_ret
        first | exact ⟨_, _, rfl, TA.out, by first | exact BB.out | (rw [hS]; exact BB.out)⟩ | exact ⟨_, ⟨_, rfl⟩, TA.out, by first | exact BB.out | (rw [hS]; exact BB.out)⟩
end Go.Proofs.Ytgclepkjeepanaa
