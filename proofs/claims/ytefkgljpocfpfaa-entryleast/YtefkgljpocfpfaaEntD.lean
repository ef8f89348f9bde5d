/- slices.IndexFunc at entries; entry.Drop. -/
import Derived.Test.YtefkgljpocfpfaaEntPut
import Derived.Test.YtefkgljpocfpfaaEntAwake
namespace Go.Proofs.Ytefkgljpocfpfaa
open Go.RowKit Go.Lib Go.Sort
set_option linter.unusedVariables false

/-- Where the first stands of which p is true; -1 if there is none. -/
def FirstIs (d : List Ent) (p : Ent → Bool) (z : Int) : Prop := (z = -1 ∧ ∀ i (hi : i < d.length), p d[i] = false) ∨ ∃ k : Nat, ∃ hk : k < d.length, z = k ∧ p d[k] = true ∧ ∀ i (hi : i < k), p (d[i]'(by omega)) = false

set_option maxHeartbeats 2000000 in
set_option maxRecDepth 100000 in
theorem indexFunc_any (a : Option Addr) (cap : Nat) (d : List Ent) (g : Nat) (cb : Array Value) (p : Ent → Bool) (w : World) (h : IsL w a cap d)
    (eg : ∀ args w, (callFunc g args).run Try.prog w = .ok (.enter g args) w)
    (hg : ∀ (x : Ent) (W : World), Grown w W → Calls Try.prog g (#[.agg #[.int .u64 x.1, .int .i64 x.2]] ++ cb) W fun e w' => e = .returned (.bool (p x)) ∧ Grown W w') :
    Calls Try.prog 35 #[.slice a d.length cap, .func (.func g) #[] cb] w fun r w' => ∃ z : Int, r = .returned (.int .i64 z) ∧ FirstIs d p z ∧ Grown w w' := by
  have hl := h.len
  have H : Aside (IsL w a cap d) := h
  have HG : Aside (∀ (x : Ent) (W : World), Grown w W → Calls Try.prog g (#[.agg #[.int .u64 x.1, .int .i64 x.2]] ++ cb) W fun e w' => e = .returned (.bool (p x)) ∧ Grown W w') := hg
  clear h hg
  go_enter Try.func35, Try.ntmps35
  go_wp2
  go_loopg [8] d.length (fun kx s8 wr => ∃ k : Nat, s8 = .int .i64 k ∧ k ≤ d.length ∧ d.length - k ≤ kx ∧ Aside (Grown w wr) ∧ Aside (∀ i (hi : i < d.length), i < k → p d[i] = false))
  case atStart => exact ⟨0, rfl, by omega, by omega, Grown.refl w, (fun i _ h => absurd h (by omega) : ∀ i (hi : i < d.length), i < 0 → p d[i] = false)⟩
  case round =>
    obtain ⟨k, rfl, hk, hkx, G, A⟩ := hrel
    by_cases hlt : k < d.length
    · have hz : (k : Int) < (d.length : Int) := by omega
      obtain ⟨b, off, ha, hc⟩ := H.out.at hlt
      subst ha
      have c1 := (hc wr G.out 0 #[]).1
      have c2 := (hc wr G.out 0 #[]).2
      simp only [grow_empty, show wr.drewN 0 = wr from rfl] at c1 c2
      clear hc
      obtain ⟨x, hx⟩ : ∃ x, d[k] = x := ⟨_, rfl⟩
      rw [hx] at c1 c2
      have HX : Hid _ := hx
      clear hx
      obtain ⟨B, hB⟩ : ∃ B, p x = B := ⟨_, rfl⟩
      have HB : Hid _ := hB
      have pc := HG.out x wr G.out
      rw [hB] at pc
      clear hB
      go_wp2_with fail
      refine pc.mono ?_
      rintro r w1 ⟨rfl, g1⟩
      have G2 : Aside (Grown w w1) := G.out.trans g1
      clear g1 G c1 c2 pc
      cases B with
      | true =>
        go_wp2
        go_ret
        refine ⟨k, rfl, .inr ⟨k, hlt, rfl, ?_, fun i hi => A.out i (by omega) hi⟩, G2.out⟩
        rw [HX.out]; exact HB.out
      | false =>
        go_wp2
        go_roundg (d.length - (k + 1))
        case measure => omega
        case rel =>
          refine ⟨k + 1, by go_num, by omega, Nat.le_refl _, G2, (fun i hi hik => ?_ : ∀ i (hi : i < d.length), i < k + 1 → p d[i] = false)⟩
          by_cases e : i = k
          · subst e; rw [HX.out]; exact HB.out
          · exact A.out i hi (by omega)
    · have hz : ¬ (k : Int) < (d.length : Int) := by omega
      go_wp2
      go_ret
      exact ⟨-1, rfl, .inl ⟨rfl, fun i hi => A.out i hi (by omega)⟩, G.out⟩

set_option maxHeartbeats 400000 in
theorem dropFn_any (S : Nat) (id : Int) (x : Ent) (W : World) (hS : S < W.heap.size) (c0 : W.cell? ⟨S, 0, none⟩ = some (.int .i64 id)) :
    Calls Try.prog 36 #[.agg #[.int .u64 x.1, .int .i64 x.2], .pointer (some ⟨S, 0, none⟩)] W fun e w' => e = .returned (.bool (decide (x.2 = id))) ∧ Grown W w' := by
  have e : decide (x.2 = id) = (x.2 == id) := by by_cases h : x.2 = id <;> simp [h]
  rw [e]
  have c1 : (W.alloc (.cells #[.int .u64 x.1, .int .i64 x.2] 31)).cell? ⟨S, 0, none⟩ = some (.int .i64 id) := (cell_old W _ 0 hS).trans c0
  have hS2 : ¬ S = W.heap.size := by omega
  go_enter Try.func36, Try.ntmps36
  go_wp2
  go_ret
  exact ⟨rfl, (Grown.refl W).alloc _⟩

/-- A list and whether it was changed. -/
def Dropped (w : World) (d : List Ent) (id : Int) (r : Ending) (w' : World) : Prop := ∃ a cap, r = .returned (.tuple #[.slice a (dropL d id).length cap, .bool (hasL d id)]) ∧ IsL w' a cap (dropL d id) ∧ Below w.heap.size w w'

/-- The two parts that Drop joins. -/
theorem drop_lists {w2 : World} {a p1 : Option Addr} {cap k : Nat} {d : List Ent} (L : IsL w2 a cap d) (hk : k < d.length) (hp : (if cap = k + 1 then a else a.map (·.add ((k + 1) * 2))) = p1) :
    IsLL (w2.alloc (.cells #[.slice a k cap, .slice p1 (d.length - (k + 1)) (cap - (k + 1))] 22)).drew (some ⟨w2.heap.size, 0, none⟩) [d.take k, d.drop (k + 1)] ∧
    Below w2.heap.size w2 (w2.alloc (.cells #[.slice a k cap, .slice p1 (d.length - (k + 1)) (cap - (k + 1))] 22)).drew := by
  have b2 : Below w2.heap.size w2 (w2.alloc (.cells #[.slice a k cap, .slice p1 (d.length - (k + 1)) (cap - (k + 1))] 22)).drew := ((Below.refl _ _).alloc (Nat.le_refl _) _).drew
  refine ⟨IsLL.of_block (cs := #[.slice a k cap, .slice p1 (d.length - (k + 1)) (cap - (k + 1))]) (T := 22) (fr := (0, 0)) (heap_alloc_new w2 _) (by simp) (fun i x hx => ?_), b2⟩
  have hi : i < 2 := by simpa using (List.getElem?_eq_some_iff.1 hx).1
  have : i = 0 ∨ i = 1 := by omega
  rcases this with rfl | rfl
  · simp at hx
    subst hx
    exact ⟨a, cap, by simp [List.length_take, Nat.min_eq_left (Nat.le_of_lt hk)], (L.take k).below b2⟩
  · simp at hx
    subst hx
    have := (L.drop (k + 1) hk).below b2
    rw [hp] at this
    exact ⟨p1, cap - (k + 1), by simp [List.length_drop], this⟩

set_option maxHeartbeats 4000000 in
set_option maxRecDepth 100000 in
theorem drop_any (a : Option Addr) (cap : Nat) (d : List Ent) (id : Int) (w : World) (h : IsL w a cap d) (hd : d.length ≤ 100000) :
    Calls Try.prog 17 #[.slice a d.length cap, .int .i64 id] w (Dropped w d id) := by
  have hl := h.len
  have hcap := h.le
  have hbig := h.big
  unfold maxLen at hbig
  have H : Aside (IsL w a cap d) := h
  have mx := mixed
  obtain ⟨S, hS⟩ : ∃ S, w.heap.size = S := ⟨_, rfl⟩
  obtain ⟨u, hu⟩ : ∃ u, w.alloc (.cells #[.int .i64 id] 3) = u := ⟨_, rfl⟩
  have gu : Grown w u := by rw [← hu]; exact (Grown.refl w).alloc _
  have zu : u.heap.size = S + 1 := by rw [← hu, ← hS]; simp
  have cu : u.cell? ⟨S, 0, none⟩ = some (.int .i64 id) := by rw [← hu, ← hS, cell_new]; rfl
  have ix := indexFunc_any a cap d 36 #[.pointer (some ⟨S, 0, none⟩)] (fun x => decide (x.2 = id)) u (h.below gu.below) (enters_of Try.func36 (by kernel_rfl) rfl)
    (fun x W hW => dropFn_any S id x W (by have := hW.below.size; omega) ((hW.cells _ _ (by omega)).trans cu))
  have HU : Aside _ := hu
  have GU : Aside (Grown w u) := gu
  clear hu gu h cu zu
  go_enter Try.func17, Try.ntmps17
  go_wp2_with fail
  rw [HU.out]
  refine ix.mono ?_
  rintro r w1 ⟨z, rfl, fi, g1⟩
  have G1 : Aside (Grown w w1) := GU.out.trans g1
  have L1 : Aside (IsL w1 a cap d) := H.out.below (GU.out.trans g1).below
  clear g1 ix
  rcases fi with ⟨rfl, hno⟩ | ⟨k, hk, rfl, hyes, hno⟩
  · have hh : hasL d id = false := hasL_none fun i hi => by simpa using hno i hi
    have he := dropL_none hh
    have HH : Hid _ := hh
    have HE : Hid _ := he
    clear hh he hno
    go_wp2_with fail
    refine (clone_any a cap d w1 L1.out (by omega)).mono ?_
    rintro r w2 ⟨x, xc, rfl, o2, b2⟩
    obtain ⟨x', xc', ex, l2⟩ := o2.isL
    cases ex
    have D2 : Aside (Below w.heap.size w w2) := Below.trans G1.out.below (Below.mono b2 G1.out.below.size)
    have L2 : Aside (IsL w2 x xc d) := l2
    clear o2 b2 l2 L1 G1
    go_wp2
    go_ret2
    exact ⟨x, xc, by rw [HH.out, HE.out]; rfl, by rw [HE.out]; exact L2.out, D2.out⟩
  · have hh : hasL d id = true := hasL_at k hk (by simpa using hyes)
    have he := dropL_at d id k hk (by simpa using hyes) (fun i hi => by simpa using hno i hi)
    have HH : Hid _ := hh
    clear hh hyes hno
    have k0 : ¬ (k : Int) < 0 := by omega
    have k1 : (k : Int) ≤ (cap : Int) := by omega
    have k2 : (k : Int) + 1 ≤ (d.length : Int) := by omega
    have k3 : (0 : Int) ≤ (k : Int) + 1 := by omega
    have k4 : (0 : Int) ≤ (k : Int) := by omega
    have k5 : ((k : Int) + 1).toNat = k + 1 := by omega
    have wk : IntKind.i64.wrap ((k : Int) + 1) = (k : Int) + 1 := by rw [IntKind.wrap_i64]; omega
    obtain ⟨p1, hp1⟩ : ∃ p1, (if cap = k + 1 then a else a.map (·.add ((k + 1) * 2))) = p1 := ⟨_, rfl⟩
    obtain ⟨q1, q2⟩ := drop_lists L1.out hk hp1
    have con := concat_any _ 2 _ _ q1 (by simp; omega)
    have fl : [d.take k, d.drop (k + 1)].flatten = dropL d id := by rw [← he]; simp
    rw [fl] at con
    have D1 : Aside (Below w.heap.size w (w1.alloc (.cells #[.slice a k cap, .slice p1 (d.length - (k + 1)) (cap - (k + 1))] 22)).drew) := G1.out.below.trans (q2.mono G1.out.below.size)
    clear q1 q2 fl he G1 L1
    simp only [List.length_cons, List.length_nil] at con
    go_wp2_with fail
    go_region_held3 (fun _ => True) (trivial) ((go_at_call 32; refine con.mono ?_; rintro r w3 ⟨x, xc, rfl, o3, b3⟩))
    have D3 : Aside (Below w.heap.size w w3) := Below.trans D1.out (Below.mono b3 D1.out.size)
    obtain ⟨x', xc', ex, l3⟩ := o3.isL
    cases ex
    have L3 : Aside (IsL w3 x xc (dropL d id)) := l3
    clear b3 o3 l3 D1 con
    go_wp2
    go_ret2
    exact ⟨x, xc, by rw [HH.out]; rfl, L3.out, D3.out⟩
end Go.Proofs.Ytefkgljpocfpfaa
