/- Contract: Behind. -/
import Derived.Test.YtpcmdbpgplcnnaaBnG
namespace Go.Proofs.Ytpcmdbpgplcnnaa
open Go.RowKit Go.Lib Go.WideMaps Go.Maps
set_option linter.unusedVariables false
set_option maxRecDepth 10000

section
variable {w w' : World} {a : Option Addr} {cap : Nat} {d : List EvR}
/-- What Behind has behind so many events. -/
structure BehAt (V w : World) (X M : Nat) (d : List EvR) (I : Nat) (K : List (Int × Int)) (g c : Int) : Prop where
  m : MapI V M K I
  b : Below X w V
  x : X ≤ M
  e : behB [] 0 0 d = behB K g c (d.drop I)
  g0 : 0 ≤ g
  g1 : g ≤ I
  c0 : 0 ≤ c
  c1 : c ≤ I
  v : ∀ y z, kget y K = some z → 0 ≤ z ∧ z ≤ c
theorem kdel_v {K : List (Int × Int)} {c : Int} (x : Int) (h : ∀ y z, kget y K = some z → 0 ≤ z ∧ z ≤ c) : ∀ y z, kget y (kdel x K) = some z → 0 ≤ z ∧ z ≤ c := fun y z hz => by
  rw [kget_del] at hz
  split at hz
  · cases hz
  · exact h y z hz
set_option maxHeartbeats 16000000 in
set_option maxRecDepth 100000 in
theorem behind_any (h : IsG rE w a cap d) (hd : d.length ≤ 10000) (ok : ∀ x ∈ d, x.fits) : Calls Try.prog 11 #[.slice a d.length cap] w fun r w' => r = .returned (.int .i64 (behB [] 0 0 d)) ∧ Below w.heap.size w w' := by
  have HG : Aside (IsG rE w a cap d) := h
  have OK : Aside (∀ x ∈ d, x.fits) := ok
  have HD : Aside (d.length ≤ 10000) := hd
  have mm := makeI
  obtain ⟨X, hX⟩ : ∃ X, w.heap.size = X := ⟨_, rfl⟩
  have HX : Aside _ := hX
  obtain ⟨u1, hu1⟩ : ∃ u, w.alloc (.map #[] 0) = u := ⟨_, rfl⟩
  have HU : Aside _ := hu1
  have B0 : Aside (BehAt u1 w X X d 0 [] 0 0) := by
    refine ⟨?_, ?_, Nat.le_refl _, rfl, by omega, by omega, by omega, by omega, fun y z h => by cases h⟩
    · rw [← hu1, ← hX]; exact MapI.made w
    · rw [← hu1, ← hX]; exact bel1 _ _
  clear hX h ok hu1
  go_enter Try.func11, Try.ntmps11
  go_wp2_with fail
  go_step3
  go_wp2_with fail
  go_step3
  go_wp2_with fail
  rw [HU.out, HX.out]
  go_loopg [3, 4, 13] d.length (fun kx s3 s4 s13 wr => ∃ (I : Nat) (g c : Int) (K : List (Int × Int)), s3 = .int .i64 g ∧ s4 = .int .i64 c ∧ s13 = .int .i64 I ∧ I ≤ d.length ∧ d.length - I ≤ kx ∧ Aside (BehAt wr w X X d I K g c))
  case atStart => exact ⟨0, 0, 0, [], rfl, rfl, rfl, by omega, by omega, B0⟩
  case round =>
    clear B0
    obtain ⟨I, g, c, K, rfl, rfl, rfl, hI, hkx, BA⟩ := hrel
    have hXs : Aside (X ≤ wr.heap.size) := by have := BA.out.b.size; have := HX.out; show _ ≤ _; omega
    have Hr : IsG rE wr a cap d := HG.out.below (by rw [HX.out]; exact BA.out.b)
    by_cases hlt : I < d.length
    · have hlI : (I : Int) < (d.length : Int) := by omega
      obtain ⟨x, hx⟩ : ∃ x, d[I]? = some x := ⟨_, List.getElem?_eq_getElem hlt⟩
      have HHX : Aside (d[I]? = some x) := hx
      have xok : Aside x.fits := OK.out _ (mem_at hx)
      have DA : Aside (d.drop I = x :: d.drop (I + 1)) := drop_at hx
      obtain ⟨b, off, rfl, hb, e0, e1, e2, e3, e4, e5⟩ := evAt Hr hx
      obtain ⟨Y, hY⟩ : ∃ Y, wr.heap.size = Y := ⟨_, rfl⟩
      obtain ⟨u2, hu2⟩ : ∃ u, wr.alloc (.cells #[.int .i64 x.k, .int .i64 x.t, .int .i64 x.i, .int .u64 x.y, .int .u64 x.c, .int .u64 x.n] 25) = u := ⟨_, rfl⟩
      have b2 : Below wr.heap.size wr u2 := by rw [← hu2]; exact bel1 _ _
      have E2 : EBx u2 Y x := by rw [← hu2, ← hY]; exact EBx.made wr x
      have M2 : Aside (MapI u2 X K I) := BA.out.m.below b2
      have G2 : Aside (Below X w u2) := BA.out.b.trans (b2.mono hXs.out)
      have GS2 : Aside (X ≤ u2.heap.size) := by have := b2.size; have := hXs.out; show _ ≤ _; omega
      have YM : Aside (Y ≠ X) := by have := BA.out.m.lt; show _ ≠ _; omega
      obtain ⟨_, d0, d1, d2, d3, d4, d5⟩ := id E2
      have HY : Aside _ := hY
      have HU2 : Aside _ := hu2
      have H10 : I ≤ 10000 := by have := HD.out; omega
      have g0 := BA.out.g0
      have g1 := BA.out.g1
      have c0 := BA.out.c0
      have c1 := BA.out.c1
      clear hY hu2 b2 Hr hx
      go_upto_region 6 with fail
      rw [HU2.out, HY.out]
      clear e0 e1 e2 e3 e4 e5 hb
      by_cases k10 : x.k = 10
      · have NX : Aside (BehAt u2 w X X d (I + 1) K g c) := by
          refine ⟨M2.out.wide (by omega), G2.out, Nat.le_refl _, ?_, g0, by omega, c0, by omega, BA.out.v⟩
          rw [BA.out.e, DA.out]; show (if _ then _ else _) = _; rw [if_pos (.inl k10)]
        go_wp2_with fail
        go_roundg (d.length - (I + 1))
        case measure => omega
        case rel => exact ⟨I + 1, g, c, K, rfl, rfl, by go_num, by omega, Nat.le_refl _, NX⟩
      · by_cases k8 : x.k = 8
        · have NX : Aside (BehAt u2 w X X d (I + 1) K g c) := by
            refine ⟨M2.out.wide (by omega), G2.out, Nat.le_refl _, ?_, g0, by omega, c0, by omega, BA.out.v⟩
            rw [BA.out.e, DA.out]; show (if _ then _ else _) = _; rw [if_pos (.inr (.inl k8))]
          go_wp2_with fail
          go_roundg (d.length - (I + 1))
          case measure => omega
          case rel => exact ⟨I + 1, g, c, K, rfl, rfl, by go_num, by omega, Nat.le_refl _, NX⟩
        · by_cases k9 : x.k = 9
          · have NX : Aside (BehAt u2 w X X d (I + 1) K g c) := by
              refine ⟨M2.out.wide (by omega), G2.out, Nat.le_refl _, ?_, g0, by omega, c0, by omega, BA.out.v⟩
              rw [BA.out.e, DA.out]; show (if _ then _ else _) = _; rw [if_pos (.inr (.inr k9))]
            go_wp2_with fail
            go_roundg (d.length - (I + 1))
            case measure => omega
            case rel => exact ⟨I + 1, g, c, K, rfl, rfl, by go_num, by omega, Nat.le_refl _, NX⟩
          · have n8 : ¬ (x.k = 10 ∨ x.k = 8 ∨ x.k = 9) := by omega
            have N8 : Aside _ := n8
            by_cases k2 : x.k = 2
            · obtain ⟨v2, hr2, M3, g3⟩ := M2.out.put (by omega) xok.out.1 c
              have NX : Aside (BehAt v2 w X X d (I + 1) (kput x.i c K) g c) := by
                refine ⟨M3, G2.out.grown g3 GS2.out (fun k hk => by injection hk with hk; omega), Nat.le_refl _, ?_, g0, by omega, c0, by omega, fun y z hz => ?_⟩
                · rw [BA.out.e, DA.out]; show (if _ then _ else _) = _; rw [if_neg N8.out, if_pos k2]
                · rw [kget_put] at hz
                  split at hz
                  · injection hz with hz; omega
                  · exact BA.out.v y z hz
              clear g3 M3
              go_wp2_with fail
              go_roundg (d.length - (I + 1))
              case measure => omega
              case rel => exact ⟨I + 1, g, c, _, rfl, rfl, by go_num, by omega, Nat.le_refl _, NX⟩
            · obtain ⟨v2, hr2, M3, g3⟩ := M2.out.del xok.out.1
              have G3 : Aside (Below X w v2) := G2.out.grown g3 GS2.out (fun k hk => by injection hk with hk; omega)
              have M3 : Aside (MapI v2 X (kdel x.i K) I) := M3
              by_cases k3 : x.k = 3
              · have LK := M2.out.lookOk xok.out.1
                have EQ : Aside (behB [] 0 0 d = behB (kdel x.i K) (match kget x.i K with | some z => max g (c - z) | none => g) (c + 1) (d.drop (I + 1))) := by
                  show _ = _
                  rw [BA.out.e, DA.out]; show (if _ then _ else _) = _; rw [if_neg N8.out, if_neg k2, if_pos k3]; rfl
                cases hk : kget x.i K with
                | none =>
                  rw [hk] at LK EQ
                  have NX : Aside (BehAt v2 w X X d (I + 1) (kdel x.i K) g (c + 1)) := ⟨M3.out.wide (by omega), G3.out, Nat.le_refl _, EQ.out, g0, by omega, by omega, by omega, fun y z hz => by have := kdel_v x.i BA.out.v y z hz; omega⟩
                  clear g3 hk
                  go_wp2_with fail
                  go_roundg (d.length - (I + 1))
                  case measure => omega
                  case rel => exact ⟨I + 1, g, c + 1, _, rfl, by go_num, by go_num, by omega, Nat.le_refl _, NX⟩
                | some z =>
                  rw [hk] at LK EQ
                  have zv := BA.out.v _ _ hk
                  have z0 := zv.1
                  have z1 := zv.2
                  have NX : Aside (BehAt v2 w X X d (I + 1) (kdel x.i K) (max g (c - z)) (c + 1)) := ⟨M3.out.wide (by omega), G3.out, Nat.le_refl _, EQ.out, by omega, by omega, by omega, by omega, fun y z hz => by have := kdel_v x.i BA.out.v y z hz; omega⟩
                  clear g3 hk zv
                  go_wp2_with fail
                  all_goals
                  · go_roundg (d.length - (I + 1))
                    case measure => omega
                    case rel => exact ⟨I + 1, max g (c - z), c + 1, _, by first | rfl | go_num | (congr 1; omega), by go_num, by go_num, by omega, Nat.le_refl _, NX⟩
              · have NX : Aside (BehAt v2 w X X d (I + 1) (kdel x.i K) g c) := by
                  refine ⟨M3.out.wide (by omega), G3.out, Nat.le_refl _, ?_, g0, by omega, c0, by omega, kdel_v x.i BA.out.v⟩
                  rw [BA.out.e, DA.out]; show (if _ then _ else _) = _; rw [if_neg N8.out, if_neg k2, if_neg k3]
                clear g3
                go_wp2_with fail
                go_roundg (d.length - (I + 1))
                case measure => omega
                case rel => exact ⟨I + 1, g, c, _, rfl, rfl, by go_num, by omega, Nat.le_refl _, NX⟩
    · have e0 : I = d.length := by omega
      have hlI : ¬ (I : Int) < (d.length : Int) := by omega
      have FIN : Aside (behB [] 0 0 d = g) := by
        have := BA.out.e
        rw [e0, List.drop_length] at this
        exact this
      clear Hr
      go_wp2_with fail
      go_ret
      exact ⟨by rw [FIN.out]; rfl, by rw [HX.out]; exact BA.out.b⟩
end
end Go.Proofs.Ytpcmdbpgplcnnaa
