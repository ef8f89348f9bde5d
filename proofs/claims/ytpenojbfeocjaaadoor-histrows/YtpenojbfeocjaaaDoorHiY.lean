/- Contracts: hist.Ok. -/
import Derived.Test.YtpenojbfeocjaaaDoorHiX
namespace Go.Proofs.YtpenojbfeocjaaaDoor
open Go.RowKit Go.Lib Go.WideMaps Go.Maps
set_option linter.unusedVariables false
set_option maxRecDepth 10000

def RwR.fits (s : RwR) (e : EvR) : Bool := s.timely e && s.come e
/-- May these events be? -/
def okB : RwR → List EvR → Bool
  | _, [] => true
  | s, e :: l => s.fits e && okB (s.read e) l
def reads (s : RwR) (l : List EvR) : RwR := l.foldl RwR.read s
theorem reads_snoc (s : RwR) (l : List EvR) (e : EvR) : reads s (l ++ [e]) = (reads s l).read e := by simp [reads]
theorem mark_f (s : RwR) (e : EvR) : (s.mark e).f = s.f := by unfold RwR.mark; split <;> (try split) <;> (try split) <;> rfl
theorem turn_f (s : RwR) (e : EvR) : (s.turn e).f = upd s.f e.i (some e) := by unfold RwR.turn; split <;> rfl
theorem read_f (s : RwR) (e : EvR) : (s.read e).f = s.f ∨ (s.read e).f = upd s.f e.i (some e) := by
  unfold RwR.read
  split
  · right; rw [turn_f, mark_f, (s.tick_f e).1]
  · left; rw [mark_f, (s.tick_f e).1]
theorem reads_wf : ∀ (l : List EvR) (s : RwR), (∀ i x, s.f i = some x → wfU x.y) → (∀ e ∈ l, wfU e.y) → ∀ i x, (reads s l).f i = some x → wfU x.y
  | [], s, h, _ => h
  | e :: l, s, h, hl => by
    refine reads_wf l (s.read e) (fun i x hx => ?_) (fun y hy => hl y (List.mem_cons_of_mem _ hy))
    rcases read_f s e with q | q
    · rw [q] at hx; exact h i x hx
    · rw [q] at hx
      unfold upd at hx
      split at hx
      · injection hx with hx; rw [← hx]; exact hl e (by simp)
      · exact h i x hx
theorem ok_wfI {e : EvR} (h : e.ok) : wfI e.i := wfI_of h.2.2.1.1 h.2.2.1.2
theorem ok_wfU {e : EvR} (h : e.ok) : wfU e.y := wfU_of h.2.2.2.1
theorem fits_made {s : RwR} {e : EvR} (h : s.fits e = true) (k1 : e.k = 1) (hr : -4611686018427387904 ≤ s.made) : -4611686018427387904 ≤ e.i ∧ e.i ≤ 4611686018427387904 := by
  unfold RwR.fits RwR.come at h
  rw [if_pos k1] at h
  simp at h
  omega
theorem mem_at {α : Type} {d : List α} {i : Nat} {x : α} (hi : d[i]? = some x) : x ∈ d := List.mem_of_getElem? hi
theorem take_snoc {α : Type} {d : List α} {i : Nat} {x : α} (hi : d[i]? = some x) : d.take (i + 1) = d.take i ++ [x] := by
  obtain ⟨h, rfl⟩ := List.getElem?_eq_some_iff.1 hi
  exact List.take_succ_eq_append_getElem h
theorem drop_at {α : Type} {d : List α} {i : Nat} {x : α} (hi : d[i]? = some x) : d.drop i = x :: d.drop (i + 1) := by
  obtain ⟨h, rfl⟩ := List.getElem?_eq_some_iff.1 hi
  exact List.drop_eq_getElem_cons h
/-- What Ok answers. -/
def OkIs (z : Int) (d : List EvR) : Prop := z = if okB rw0 d = true then 0 else 3
set_option maxHeartbeats 8000000 in
set_option maxRecDepth 100000 in
theorem ok_any {t k c : Int} (hc : (1 ≤ t ∧ t ≤ 8) ∧ (0 ≤ k ∧ k ≤ 16) ∧ 1 ≤ c ∧ c ≤ 64) (a : Option Addr) (cap : Nat) (d : List EvR) (w : World) (h : IsG rE w a cap d) (hok : ∀ x ∈ d, x.ok) (h40 : d.length ≤ 10000) :
    Calls Tryd.prog 4 #[.agg #[.int .i64 t, .int .i64 k, .int .i64 c], .slice a d.length cap] w fun r w' => ∃ z : Int, r = .returned (.int .i64 z) ∧ OkIs z d ∧ Below w.heap.size w w' := by
  obtain ⟨X, hX⟩ : ∃ X, w.heap.size = X := ⟨_, rfl⟩
  obtain ⟨u1, hu1⟩ : ∃ u, w.alloc (.cells #[.int .i64 t, .int .i64 k, .int .i64 c] 23) = u := ⟨_, rfl⟩
  have B1 : Aside (Below w.heap.size w u1) := by show Below _ _ _; rw [← hu1]; exact bel1 _ _
  have d0 : u1.cell? ⟨X, 0, none⟩ = some (.int .i64 t) := by rw [← hu1, ← hX, cell_fresh]; rfl
  have d1 : u1.cell? ⟨X, 1, none⟩ = some (.int .i64 k) := by rw [← hu1, ← hX, cell_fresh]; rfl
  have d2 : u1.cell? ⟨X, 2, none⟩ = some (.int .i64 c) := by rw [← hu1, ← hX, cell_fresh]; rfl
  obtain ⟨⟨t1, t2⟩, ⟨k1, k2⟩, c1, c2⟩ := hc
  have P := mayBe_yes t1 t2 k1 k2 c1 c2 u1
  have H0 : Aside (IsG rE w a cap d) := h
  have OK : Aside (∀ x ∈ d, x.ok) := hok
  have L40 : Aside (d.length ≤ 10000) := h40
  have HX : Aside _ := hX
  have HU : Aside _ := hu1
  have hl := h.len
  have B2 := B1.out
  clear hX hu1 h hok t1 t2 k1 k2 c1 c2 h40 B2
  go_enter Tryd.func4, Tryd.ntmps4
  go_upto_region 1 with fail
  rw [HU.out, HX.out]
  go_wp2_with fail
  refine P.mono ?_
  rintro r w2 ⟨rfl, b2⟩
  have G2 : Aside (Below X w w2) := by show Below _ _ _; rw [← HX.out]; exact B1.out.trans (b2.mono B1.out.size)
  have S2 : Aside (X ≤ w2.heap.size) := by have := G2.out.size; show _ ≤ _; have := HX.out; omega
  clear b2 P d0 d1 d2 B1
  go_wp2_with fail
  refine (newRow_any w2).mono ?_
  rintro r w3 ⟨R, L, M, rfl, I3, b3, zR, zL, zM⟩
  have G3 : Aside (Below X w w3) := G2.out.trans (b3.mono S2.out)
  have Z : Aside (X ≤ R ∧ X ≤ L ∧ X ≤ M) := ⟨by have := S2.out; omega, by have := S2.out; omega, by have := S2.out; omega⟩
  have I3 : Aside (RowI w3 R L M rw0 0) := I3
  clear b3 zR zL zM G2 S2
  go_wp2_with fail
  go_loopg [14] d.length (fun kx s14 wr => ∃ I : Nat, s14 = .int .i64 I ∧ I ≤ d.length ∧ d.length - I ≤ kx ∧ Aside (RowI wr R L M (reads rw0 (d.take I)) (3 * I)) ∧ Aside (Below X w wr) ∧ Aside (okB rw0 d = okB (reads rw0 (d.take I)) (d.drop I)))
  case atStart => exact ⟨0, rfl, by omega, by omega, I3, G3, rfl⟩
  case round =>
    obtain ⟨I, rfl, hI, hkx, IR, G, OB⟩ := hrel
    have hXs : Aside (X ≤ wr.heap.size) := by have := G.out.size; have := HX.out; show _ ≤ _; omega
    by_cases hlt : I < d.length
    · have hz : (I : Int) < (d.length : Int) := by omega
      obtain ⟨x, hx⟩ : ∃ x, d[I]? = some x := ⟨_, List.getElem?_eq_getElem hlt⟩
      have Hr : IsG rE wr a cap d := H0.out.below (by rw [HX.out]; exact G.out)
      obtain ⟨b, off, rfl, hb, e0, e1, e2, e3, e4, e5⟩ := evAt Hr hx
      have HHX : Aside _ := hx
      have xok : Aside x.ok := OK.out _ (mem_at hx)
      obtain ⟨Y, hY⟩ : ∃ Y, wr.heap.size = Y := ⟨_, rfl⟩
      obtain ⟨u2, hu2⟩ : ∃ u, wr.alloc (.cells #[.int .i64 x.k, .int .i64 x.t, .int .i64 x.i, .int .u64 x.y, .int .u64 x.c, .int .u64 x.n] 27) = u := ⟨_, rfl⟩
      have b2 : Below wr.heap.size wr u2 := by rw [← hu2]; exact bel1 _ _
      have E2 : EBx u2 Y x := by rw [← hu2, ← hY]; exact EBx.made wr x
      obtain ⟨s, hs⟩ : ∃ s, reads rw0 (d.take I) = s := ⟨_, rfl⟩
      have HS : Aside _ := hs
      have WF : Aside (∀ i x, s.f i = some x → wfU x.y) := by
        show ∀ i x, _
        rw [← hs]
        exact reads_wf _ _ (fun i x h => by cases h) (fun e he => ok_wfU (OK.out e (List.mem_of_mem_take he)))
      rw [hs] at IR OB
      have I2 : RowI u2 R L M s (3 * I) := IR.out.below b2
      have G2 : Aside (Below X w u2) := G.out.trans (b2.mono hXs.out)
      have P : Calls Tryd.prog 11 #[.pointer (some ⟨R, 0, none⟩), .agg #[.int .i64 x.k, .int .i64 x.t, .int .i64 x.i, .int .u64 x.y, .int .u64 x.c, .int .u64 x.n]] u2 fun r w' => r = .returned (.bool (s.timely x)) ∧ Below u2.heap.size u2 w' := timely_any I2 x
      obtain ⟨_, d0, d1, d2, d3, d4, d5⟩ := id E2
      have HY : Aside _ := hY
      have HU2 : Aside _ := hu2
      have GS2 : Aside (X ≤ u2.heap.size) := by have := b2.size; have := hXs.out; show _ ≤ _; omega
      clear hY hu2 b2 Hr hx IR G hs
      obtain ⟨V, hV⟩ : ∃ v, s.timely x = v := ⟨_, rfl⟩
      have HV : Aside _ := hV
      rw [hV] at P
      clear hV
      go_upto_region 7 with fail
      rw [HU2.out, HY.out]
      clear e0 e1 e2 e3 e4 e5 hb
      go_wp2_with fail
      refine P.mono ?_
      rintro r w3 ⟨rfl, b3⟩
      have E3 : EBx w3 Y x := E2.below b3
      have I3 : RowI w3 R L M s (3 * I) := I2.below b3
      have G3 : Aside (Below X w w3) := G2.out.trans (b3.mono GS2.out)
      have GS3 : Aside (X ≤ w3.heap.size) := by have := b3.size; have := GS2.out; show _ ≤ _; omega
      clear d0 d1 d2 d3 d4 d5 P b3 E2 I2 G2 GS2
      obtain ⟨_, d0, d1, d2, d3, d4, d5⟩ := id E3
      cases V with
      | false =>
        have FIN : Aside (OkIs 3 d) := by
          show (3 : Int) = if okB rw0 d = true then 0 else 3
          rw [OB.out, drop_at HHX.out]
          simp [okB, RwR.fits, HV.out]
        go_wp2_with fail
        go_ret
        exact ⟨3, rfl, FIN.out, by rw [HX.out]; exact G3.out⟩
      | true =>
        have P : Calls Tryd.prog 12 #[.pointer (some ⟨R, 0, none⟩), .agg #[.int .i64 x.k, .int .i64 x.t, .int .i64 x.i, .int .u64 x.y, .int .u64 x.c, .int .u64 x.n]] w3 fun r w' => r = .returned (.bool (s.come x)) ∧ Below w3.heap.size w3 w' := come_any I3 x (ok_wfI xok.out) (ok_wfU xok.out)
        obtain ⟨V2, hV2⟩ : ∃ v, s.come x = v := ⟨_, rfl⟩
        have HV2 : Aside _ := hV2
        rw [hV2] at P
        clear hV2
        go_wp2_with fail
        refine P.mono ?_
        rintro r w4 ⟨rfl, b4⟩
        have E4 : EBx w4 Y x := E3.below b4
        have I4 : RowI w4 R L M s (3 * I) := I3.below b4
        have G4 : Aside (Below X w w4) := G3.out.trans (b4.mono GS3.out)
        have GS4 : Aside (X ≤ w4.heap.size) := by have := b4.size; have := GS3.out; show _ ≤ _; omega
        clear d0 d1 d2 d3 d4 d5 P b4 E3 I3 G3 GS3
        obtain ⟨_, d0, d1, d2, d3, d4, d5⟩ := id E4
        cases V2 with
        | false =>
          have FIN : Aside (OkIs 3 d) := by
            show (3 : Int) = if okB rw0 d = true then 0 else 3
            rw [OB.out, drop_at HHX.out]
            simp [okB, RwR.fits, HV.out, HV2.out]
          go_wp2_with fail
          go_ret
          exact ⟨3, rfl, FIN.out, by rw [HX.out]; exact G4.out⟩
        | true =>
          have FT : Aside (s.fits x = true) := by show _ = _; unfold RwR.fits; rw [HV.out, HV2.out]; rfl
          have P : Calls Tryd.prog 13 #[.pointer (some ⟨R, 0, none⟩), .agg #[.int .i64 x.k, .int .i64 x.t, .int .i64 x.i, .int .u64 x.y, .int .u64 x.c, .int .u64 x.n]] w4 fun r w' => r = .returned (.tuple #[]) ∧ ReadIs w4 w' X R L M (3 * I) (s.read x) := read_any I4 (by have := L40.out; omega) x (ok_wfI xok.out) (ok_wfU xok.out) WF.out (fun k1 => fits_made FT.out k1 I4.rg.1) (N := X) ⟨GS4.out, Z.out⟩
          go_wp2_with fail
          refine P.mono ?_
          rintro r w5 ⟨rfl, I5, b5⟩
          have NI : Aside (RowI w5 R L M (reads rw0 (d.take (I + 1))) (3 * (I + 1))) := by
            show RowI _ _ _ _ _ _
            rw [take_snoc HHX.out, reads_snoc, HS.out]
            exact I5.wide (by omega)
          have NG : Aside (Below X w w5) := G4.out.trans b5
          have NO : Aside (okB rw0 d = okB (reads rw0 (d.take (I + 1))) (d.drop (I + 1))) := by
            show _ = _
            rw [OB.out, drop_at HHX.out, take_snoc HHX.out, reads_snoc, HS.out]
            show (s.fits x && okB (s.read x) _) = _
            rw [FT.out]; rfl
          clear d0 d1 d2 d3 d4 d5 P I5 b5 E4 I4 G4
          go_wp2_with fail
          go_roundg (d.length - (I + 1))
          case measure => omega
          case rel => exact ⟨I + 1, by go_num, by omega, Nat.le_refl _, NI, NG, NO⟩
    · have e0 : I = d.length := by omega
      have hz : ¬ (I : Int) < (d.length : Int) := by omega
      have FIN : Aside (OkIs 0 d) := by
        show (0 : Int) = if okB rw0 d = true then 0 else 3
        rw [OB.out, e0, List.drop_length]
        simp [okB]
      go_wp2_with fail
      go_ret
      exact ⟨0, rfl, FIN.out, by rw [HX.out]; exact G.out⟩
end Go.Proofs.YtpenojbfeocjaaaDoor
