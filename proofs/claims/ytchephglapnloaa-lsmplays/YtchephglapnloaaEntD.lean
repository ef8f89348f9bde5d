/- slices.IndexFunc at entries; entry.Drop. -/
import Derived.Test.YtchephglapnloaaEntPut
import Derived.Test.YtchephglapnloaaEntR
namespace Go.Proofs.Ytchephglapnloaa
open Go.RowKit Go.Lib Go.Sort
set_option linter.unusedVariables false

/-- Where the first stands of which p is true; -1 if there is none. -/
def FirstIs (d : List Ent) (p : Ent → Bool) (z : Int) : Prop := (z = -1 ∧ ∀ i (hi : i < d.length), p d[i] = false) ∨ ∃ k : Nat, ∃ hk : k < d.length, z = k ∧ p d[k] = true ∧ ∀ i (hi : i < k), p (d[i]'(by omega)) = false

set_option maxHeartbeats 2000000 in
set_option maxRecDepth 100000 in
theorem indexFunc_any (a : Option Addr) (cap : Nat) (d : List Ent) (g : Nat) (cb : Array Value) (p : Ent → Bool) (w : World) (h : IsL w a cap d)
    (eg : ∀ args w, (callFunc g args).run Try.prog w = .ok (.enter g args) w)
    (hg : ∀ (x : Ent) (W : World), Grown w W → Calls Try.prog g (#[.agg #[.int .u64 x.1, .int .i64 x.2]] ++ cb) W fun e w' => e = .returned (.bool (p x)) ∧ Grown W w') :
    Calls Try.prog 60 #[.slice a d.length cap, .func (.func g) #[] cb] w fun r w' => ∃ z : Int, r = .returned (.int .i64 z) ∧ FirstIs d p z ∧ Grown w w' := by
  have hl := h.len
  have H : Aside (IsL w a cap d) := h
  have HG : Aside (∀ (x : Ent) (W : World), Grown w W → Calls Try.prog g (#[.agg #[.int .u64 x.1, .int .i64 x.2]] ++ cb) W fun e w' => e = .returned (.bool (p x)) ∧ Grown W w') := hg
  clear h hg
  go_enter Try.func60, Try.ntmps60
  go_wp2
  go_loopg [8] d.length (fun kx s8 wr => ∃ k : Nat, s8 = .int .i64 k ∧ k ≤ d.length ∧ d.length - k ≤ kx ∧ Aside (Grown w wr) ∧ Aside (∀ i (hi : i < d.length), i < k → p d[i] = false))
  case atStart => exact ⟨0, rfl, by omega, by omega, Grown.refl w, (fun i _ h => absurd h (by omega) : ∀ i (hi : i < d.length), i < 0 → p d[i] = false)⟩
  case round =>
    obtain ⟨k, rfl, hk, hkx, G, A⟩ := hrel
    by_cases hlt : k < d.length
    · have hz : (k : Int) < (d.length : Int) := by omega
      obtain ⟨b, off, ha, hc⟩ := H.out.at hlt
      subst ha
      have c1 := (hc wr G.out 0 #[]).1
      have c2 := (hc wr G.out 0 #[]).2
      simp only [grow_empty, show wr.drewN 0 = wr from rfl] at c1 c2
      clear hc
      obtain ⟨x, hx⟩ : ∃ x, d[k] = x := ⟨_, rfl⟩
      rw [hx] at c1 c2
      have HX : Hid _ := hx
      clear hx
      obtain ⟨B, hB⟩ : ∃ B, p x = B := ⟨_, rfl⟩
      have HB : Hid _ := hB
      have pc := HG.out x wr G.out
      rw [hB] at pc
      clear hB
      go_wp2_with fail
      refine pc.mono ?_
      rintro r w1 ⟨rfl, g1⟩
      have G2 : Aside (Grown w w1) := G.out.trans g1
      clear g1 G c1 c2 pc
      cases B with
      | true =>
        go_wp2
        go_ret
        refine ⟨k, rfl, .inr ⟨k, hlt, rfl, ?_, fun i hi => A.out i (by omega) hi⟩, G2.out⟩
        rw [HX.out]; exact HB.out
      | false =>
        go_wp2
        go_roundg (d.length - (k + 1))
        case measure => omega
        case rel =>
          refine ⟨k + 1, by go_num, by omega, Nat.le_refl _, G2, (fun i hi hik => ?_ : ∀ i (hi : i < d.length), i < k + 1 → p d[i] = false)⟩
          by_cases e : i = k
          · subst e; rw [HX.out]; exact HB.out
          · exact A.out i hi (by omega)
    · have hz : ¬ (k : Int) < (d.length : Int) := by omega
      go_wp2
      go_ret
      exact ⟨-1, rfl, .inl ⟨rfl, fun i hi => A.out i hi (by omega)⟩, G.out⟩

/-- A list and whether it was changed. -/
def Dropped (w : World) (d : List Ent) (id : Int) (r : Ending) (w' : World) : Prop := ∃ a cap, r = .returned (.tuple #[.slice a (dropL d id).length cap, .bool (hasL d id)]) ∧ IsL w' a cap (dropL d id) ∧ Below w.heap.size w w'

/-- The two parts that Drop joins. -/
theorem drop_lists {w2 : World} {a p1 : Option Addr} {cap k : Nat} {d : List Ent} (L : IsL w2 a cap d) (hk : k < d.length) (hp : (if cap = k + 1 then a else a.map (·.add ((k + 1) * 2))) = p1) :
    IsLL (w2.alloc (.cells #[.slice a k cap, .slice p1 (d.length - (k + 1)) (cap - (k + 1))] 29)).drew (some ⟨w2.heap.size, 0, none⟩) [d.take k, d.drop (k + 1)] ∧
    Below w2.heap.size w2 (w2.alloc (.cells #[.slice a k cap, .slice p1 (d.length - (k + 1)) (cap - (k + 1))] 29)).drew := by
  have b2 : Below w2.heap.size w2 (w2.alloc (.cells #[.slice a k cap, .slice p1 (d.length - (k + 1)) (cap - (k + 1))] 29)).drew := ((Below.refl _ _).alloc (Nat.le_refl _) _).drew
  refine ⟨IsLL.of_block (cs := #[.slice a k cap, .slice p1 (d.length - (k + 1)) (cap - (k + 1))]) (T := 29) (fr := (0, 0)) (heap_alloc_new w2 _) (by simp) (fun i x hx => ?_), b2⟩
  have hi : i < 2 := by simpa using (List.getElem?_eq_some_iff.1 hx).1
  have : i = 0 ∨ i = 1 := by omega
  rcases this with rfl | rfl
  · simp at hx
    subst hx
    exact ⟨a, cap, by simp [List.length_take, Nat.min_eq_left (Nat.le_of_lt hk)], (L.take k).below b2⟩
  · simp at hx
    subst hx
    have := (L.drop (k + 1) hk).below b2
    rw [hp] at this
    exact ⟨p1, cap - (k + 1), by simp [List.length_drop], this⟩

end Go.Proofs.Ytchephglapnloaa
