/- wheel: Next. -/
import Derived.Test.YtbopobgnmkhabaaDoorWhX
namespace Go.Proofs.YtbopobgnmkhabaaDoor
open Go.RowKit Go.Lib Go.Sort Go.WideMaps Go.Maps
set_option linter.unusedVariables false

/-- What Next tells. -/
def nextV : List Ent → Value
  | [] => .tuple #[.int .u64 0, .bool false]
  | x :: _ => .tuple #[.int .u64 x.1, .bool true]
theorem srt_head {x : Ent} {T : List Ent} (h : Srt (x :: T)) {y : Ent} (hy : y ∈ x :: T) : x.1 ≤ y.1 := by
  rcases List.mem_cons.1 hy with rfl | hy
  · exact Int.le_refl _
  · have := (List.pairwise_cons.1 h).1 y hy
    unfold ltE at this
    by_cases e : y.1 = x.1
    · omega
    · rw [if_neg e] at this
      simp only [decide_eq_false_iff_not] at this
      omega
section
variable {now : Nat} {u : Nat → Nat} {c : Nat → Nat → List Ent} {far : List Ent} {T : List Ent}
theorem WhL.empty (h : WhL now u c far (fun x => x ∈ T)) {l s : Nat} (hl : l < 4) (hs : s < 64) (hb : (u l).testBit s = false) : c l s = [] := by
  have := h.used l s hl hs
  rw [hb] at this
  cases e : c l s with
  | nil => rfl
  | cons a b => rw [e] at this; cases this
theorem plc_slot (now e : Nat) : (plc now e).2 < 64 := by
  unfold plc slt
  exact Nat.mod_lt _ (by decide)
/-- The least one stands in the first slot of the first level that has something. -/
theorem WhL.first (h : WhL now u c far (fun x => x ∈ T)) (hT : TOk T) (hn : now < B64) {l : Nat} (hl : l < 4) (hub : u l < B64) (hu : u l ≠ 0) (h0 : ∀ k, k < l → u k = 0) :
    ∃ y d, c l (ctz 64 (u l)) = y :: d ∧ nextV T = .tuple #[.int .u64 (minE d y).1, .bool true] := by
  obtain ⟨q1, q2, q3, -⟩ := ctz_spec (u l) hub hu
  generalize ctz 64 (u l) = q at *
  cases e : c l q with
  | nil =>
    have := h.used l q hl q1
    rw [q2, e] at this
    cases this
  | cons y d =>
    refine ⟨y, d, rfl, ?_⟩
    have hm : minE d y ∈ c l q := by
      rw [e]
      rcases minE_mem d y with h1 | h1
      · rw [h1]; exact List.mem_cons_self
      · exact List.mem_cons_of_mem _ h1
    obtain ⟨mT, mp⟩ := (h.slotM l q hl q1 _).1 hm
    cases hTe : T with
    | nil => rw [hTe] at mT; cases mT
    | cons x T' =>
      have hx : x ∈ T := by rw [hTe]; exact List.mem_cons_self
      have hle : x.1 ≤ (minE d y).1 := srt_head (by rw [← hTe]; exact hT.srt) (by rw [← hTe]; exact mT)
      obtain ⟨dx, ex, bx⟩ := h.rng x hx
      obtain ⟨dm, em, bm⟩ := h.rng _ mT
      have exn : x.1.toNat = dx := by omega
      have emn : (minE d y).1.toNat = dm := by omega
      rw [emn] at mp
      have ahead : ¬ ((plc now dm).1 < (plc now dx).1 ∨ (plc now dm).1 = (plc now dx).1 ∧ (plc now dm).2 < (plc now dx).2) := fun ha => by
        have := plc_ahead hn bm bx ha
        omega
      rw [mp] at ahead
      have hl4 : (plc now dx).1 < 4 := by
        apply Classical.byContradiction; intro hc; exact ahead (.inl (by show l < _; omega))
      have hxc : x ∈ c (plc now dx).1 (plc now dx).2 := (h.slotM _ _ hl4 (plc_slot now dx) x).2 ⟨hx, by rw [exn]⟩
      have hlx : (plc now dx).1 = l := by
        apply Classical.byContradiction; intro hc
        have hlt : (plc now dx).1 < l := by
          apply Classical.byContradiction; intro hc2; exact ahead (.inl (by show l < _; omega))
        rw [h.empty hl4 (plc_slot now dx) (by rw [h0 _ hlt]; simp)] at hxc
        cases hxc
      have hsx : (plc now dx).2 = q := by
        apply Classical.byContradiction; intro hc
        have hlt : (plc now dx).2 < q := by
          apply Classical.byContradiction; intro hc2; exact ahead (.inr ⟨hlx.symm, by show q < _; omega⟩)
        have hb := q3 _ hlt
        rw [hlx] at hxc
        rw [h.empty hl (plc_slot now dx) hb] at hxc
        cases hxc
      rw [hlx, hsx, e] at hxc
      have hmin : ltE x (minE d y) = false := by
        rcases List.mem_cons.1 hxc with h1 | h1
        · rw [h1]; exact (minE_le d y).1
        · exact (minE_le d y).2 x h1
      have hge : (minE d y).1 ≤ x.1 := by
        unfold ltE at hmin
        by_cases e1 : x.1 = (minE d y).1
        · omega
        · rw [if_neg e1] at hmin
          simp only [decide_eq_false_iff_not] at hmin
          omega
      show (Value.tuple #[.int .u64 x.1, .bool true]) = _
      rw [show x.1 = (minE d y).1 by omega]
/-- If no level has anything the far list has all. -/
theorem WhL.onlyFar (h : WhL now u c far (fun x => x ∈ T)) (hT : TOk T) (h0 : ∀ k, k < 4 → u k = 0) : far = T := by
  have hall : ∀ x, x ∈ far ↔ x ∈ T := fun x => by
    rw [h.farM x]
    constructor
    · exact fun hx => hx.1
    · intro hx
      refine ⟨hx, Classical.byContradiction fun hc => ?_⟩
      have hl4 : (plc now x.1.toNat).1 < 4 := by omega
      have hxc := (h.slotM _ _ hl4 (plc_slot now _) x).2 ⟨hx, rfl⟩
      rw [h.empty hl4 (plc_slot now _) (by rw [h0 _ hl4]; simp)] at hxc
      cases hxc
  have p := perm_of_mem h.farN (nodup_of_ids hT.ids) hall
  rw [sortE_of h.farS p]
  exact sortE_id hT.srt
end
set_option maxHeartbeats 4000000 in
set_option maxRecDepth 100000 in
theorem next_any {w : World} {F : Nat → Prop} {B base now : Nat} {T : List Ent} (h : Whl w F B base now T) (hT : TabW w) :
    Calls Tryd.prog 29 #[.pointer (some ⟨B, 0, none⟩)] w fun e w' => e = .returned (nextV T) ∧ Below w.heap.size w w' := by
  obtain ⟨M, hd, u, c, far, f, h1, h2, h3, h4, h5⟩ := h
  have LE : Aside (∀ l, l < 4 → u l ≠ 0 → (∀ k, k < l → u k = 0) → Calls Tryd.prog 45 #[.pointer (some ⟨B, 2 + l * 65, none⟩)] w fun e w' => ∃ z, e = .returned (.int .u64 z) ∧ nextV T = .tuple #[.int .u64 z, .bool true] ∧ Below w.heap.size w w') := fun l hl hu hk => by
    obtain ⟨y, d, e1, e2⟩ := h2.first h4 h1.nb hl (h1.ub l hl) hu hk
    have q64 := (ctz_spec (u l) (h1.ub l hl) hu).1
    have o := h1.slot l _ hl q64
    have hlen : (c l (ctz 64 (u l))).length ≤ 1000 := len_le (h2.slotN l _ hl q64) (fun x hx => ((h2.slotM l _ hl q64 x).1 hx).1) h4.len
    rw [e1] at o hlen
    refine Calls.mono (least_any B (2 + l * 65) _ (u l) hd y d base w h1.head (by omega) (h1.hu l hl) (h1.ub l hl) hu rfl o (by simp at hlen; omega) hT) ?_
    rintro e w' ⟨rfl, q⟩
    exact ⟨_, rfl, e2, q⟩
  have CU : Aside (∀ l, l < 4 → w.cell? ⟨B, 2 + l * 65, none⟩ = some (.int .u64 (u l : Int))) := fun l hl => by
    have := h1.head.cell (k := 2 + l * 65) (by omega)
    rw [h1.hu l hl] at this
    exact this
  have cF := h1.head.cell (k := 262) (by omega)
  have OF : Aside (OwnF w base (hd 262) far) := h1.far
  have FT : Aside ((∀ k, k < 4 → u k = 0) → far = T) := fun h0 => h2.onlyFar h4 h0
  clear h1 h2 h3 h4 h5 hT
  go_enter Tryd.func29, Tryd.ntmps29
  go_wp2_with fail
  go_loopg [4, 5, 6] 4 (fun kx s4 s5 s6 wr => ∃ (l : Nat), s6 = .int .i64 l ∧ l ≤ 4 ∧ 4 - l ≤ kx ∧ Aside (∀ k, k < l → u k = 0) ∧ wr = w)
  case atStart => exact ⟨0, rfl, by omega, by omega, fun k hk => absurd hk (by omega), rfl⟩
  case round =>
    obtain ⟨l, rfl, hl, hkx, Z, rfl⟩ := hrel
    by_cases hlt : l < 4
    · have hz : (l : Int) < 4 := by omega
      have cu := CU.out l hlt
      by_cases hu : u l = 0
      · rw [hu] at cu
        have Z2 : Aside (∀ k, k < l + 1 → u k = 0) := fun k hk => by
          by_cases e : k = l
          · rw [e]; exact hu
          · exact Z.out k (by omega)
        clear Z hu
        go_wp2_with fail
        go_roundg (4 - (l + 1))
        case measure => omega
        case rel => exact ⟨l + 1, by go_num, by omega, Nat.le_refl _, Z2, rfl⟩
      · have hu2 : ¬ ((u l : Nat) : Int) = 0 := by omega
        have LC := LE.out l hlt hu Z.out
        have LC2 : Aside (Calls Tryd.prog 45 #[.pointer (some ⟨B, 2 + l * 65, none⟩)] wr fun e w' => ∃ z, e = .returned (.int .u64 z) ∧ nextV T = .tuple #[.int .u64 z, .bool true] ∧ Below wr.heap.size wr w') := LC
        clear LC
        go_wp2_with fail
        refine LC2.out.mono ?_
        rintro e w2 ⟨z, rfl, hz2, bel⟩
        go_wp2_with fail
        refine bodyPost_ret (v := .tuple #[.int .u64 z, .bool true]) (by simp [results, Tryd.results29, go_sem]) rfl ⟨by rw [hz2], bel⟩
    · have e0 : l = 4 := by omega
      subst e0
      have hft := FT.out Z.out
      obtain ⟨fa, fc, ef, -, -, -, fL⟩ := OF.out.isL
      rw [ef] at cF
      cases hTe : T with
      | nil =>
        rw [hft, hTe] at cF
        go_wp2_with fail
        refine bodyPost_ret (v := .tuple #[.int .u64 0, .bool false]) (by simp [results, Tryd.results29, go_sem]) rfl ⟨by rw [hTe]; rfl, Below.refl _ _⟩
      | cons x T' =>
        rw [hft, hTe] at cF fL
        obtain ⟨b, off, ha, hb, y1, y2⟩ := fL.elem 0 x rfl
        subst ha
        obtain ⟨n, hn⟩ : ∃ n, (x :: T').length = n := ⟨_, rfl⟩
        rw [hn] at cF
        have hn1 : 0 < n := by rw [← hn]; simp
        have hn2 : (0 : Int) < (n : Int) := by omega
        have y1' : wr.cell? ⟨b, off, none⟩ = some (.int .u64 x.1) := by simpa using y1
        clear hn y1 y2 fL hft ef
        go_wp2_with fail
        refine bodyPost_ret (v := .tuple #[.int .u64 x.1, .bool true]) (by simp [results, Tryd.results29, go_sem]) rfl ⟨by rw [hTe]; rfl, Below.refl _ _⟩
end Go.Proofs.YtbopobgnmkhabaaDoor
