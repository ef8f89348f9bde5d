/- lsm: has, Drop. -/
import Derived.Test.YtchephglapnloaaLsmQ
import Derived.Test.YtchephglapnloaaEntD
import Derived.Test.YtchephglapnloaaBlkS
namespace Go.Proofs.Ytchephglapnloaa
open Go.RowKit Go.Lib Go.Sort
set_option linter.unusedVariables false

/-- An ID dropped. -/
def dropLs (ls : List (List Ent)) (id : Int) : List (List Ent) := if firstB ls id < ls.length then dropB ls id (firstB ls id) else ls
theorem dropLs_fall {ls : List (List Ent)} (h : Fall ls) (id : Int) : Fall (dropLs ls id) := by
  unfold dropLs
  split
  · exact dropB_fall h id _
  · exact h
theorem dropLs_len {ls : List (List Ent)} (id : Int) : (dropLs ls id).flatten.length ≤ ls.flatten.length := by
  unfold dropLs
  split
  · exact dropB_len id ‹_›
  · exact Nat.le_refl _
theorem dropLs_perm {ls : List (List Ent)} {id : Int} (hd : (ls.flatten.map Prod.snd).Nodup) : (dropLs ls id).flatten.Perm (outL id ls.flatten) := by
  unfold dropLs
  split
  · next c => exact dropB_out c hd (firstB_hasL c)
  · next c =>
    have : hasL ls.flatten id = false := by
      cases e : hasL ls.flatten id with
      | false => rfl
      | true => exact absurd (firstB_has.2 e) c
    unfold outL
    rw [List.filter_eq_self.2]
    intro x hx
    have := hasL_false.1 this x hx
    simp [this]
theorem keep_out (id : Int) (d : List Ent) : keepL (fun o => decide (o = id)) d = outL id d := rfl
theorem outL_srt {d : List Ent} (h : Srt d) (id : Int) : sortE (outL id d) = outL id d := sortE_id (h.filter _)

set_option maxHeartbeats 400000 in
theorem hasFn_any (S : Nat) (id : Int) (x : Ent) (W : World) (hS : S < W.heap.size) (c0 : W.cell? ⟨S, 0, none⟩ = some (.int .i64 id)) :
    Calls Try.prog 49 #[.agg #[.int .u64 x.1, .int .i64 x.2], .pointer (some ⟨S, 0, none⟩)] W fun e w' => e = .returned (.bool (decide (x.2 = id))) ∧ Grown W w' := by
  have e : decide (x.2 = id) = (x.2 == id) := by by_cases h : x.2 = id <;> simp [h]
  rw [e]
  have c1 : (W.alloc (.cells #[.int .u64 x.1, .int .i64 x.2] 28)).cell? ⟨S, 0, none⟩ = some (.int .i64 id) := (cell_old W _ 0 hS).trans c0
  have hS2 : ¬ S = W.heap.size := by omega
  go_enter Try.func49, Try.ntmps49
  go_wp2
  go_ret
  exact ⟨rfl, (Grown.refl W).alloc _⟩

set_option maxHeartbeats 400000 in
theorem contains_any (S : Nat) (id : Int) (a : Option Addr) (cap : Nat) (d : List Ent) (w : World) (h : IsL w a cap d) (hS : S < w.heap.size) (c0 : w.cell? ⟨S, 0, none⟩ = some (.int .i64 id)) :
    Calls Try.prog 48 #[.slice a d.length cap, .func (.func 49) #[] #[.pointer (some ⟨S, 0, none⟩)]] w fun e w' => e = .returned (.bool (hasL d id)) ∧ Grown w w' := by
  have ix := indexFunc_any a cap d 49 #[.pointer (some ⟨S, 0, none⟩)] (fun x => decide (x.2 = id)) w h (enters_of Try.func49 (by kernel_rfl) rfl)
    (fun x W hW => hasFn_any S id x W (by have := hW.below.size; omega) ((hW.below.cell (p := ⟨S, 0, none⟩) hS).trans c0))
  clear h c0
  go_enter Try.func48, Try.ntmps48
  go_wp2_with fail
  refine ix.mono ?_
  rintro r w1 ⟨z, rfl, fi, g1⟩
  have G1 : Aside (Grown w w1) := g1
  clear g1 ix
  rcases fi with ⟨rfl, hno⟩ | ⟨k, hk, rfl, hyes, hno⟩
  · have hh : hasL d id = false := hasL_none fun i hi => by simpa using hno i hi
    have HH : Hid _ := hh
    clear hno hh
    go_wp2
    go_ret
    exact ⟨by rw [HH.out]; rfl, G1.out⟩
  · have hh : hasL d id = true := hasL_at k hk (by simpa using hyes)
    have HH : Hid _ := hh
    have k0 : (0 : Int) ≤ (k : Int) := by omega
    clear hno hyes hh
    go_wp2
    go_ret
    exact ⟨by rw [HH.out]; rfl, G1.out⟩

set_option maxHeartbeats 400000 in
theorem lhas_any (i id : Int) (a : Option Addr) (cap : Nat) (d : List Ent) (w : World) (h : IsL w a cap d) :
    Calls Try.prog 29 #[.agg #[.int .i64 i, .slice a d.length cap], .int .i64 id] w fun e w' => e = .returned (.bool (hasL d id)) ∧ Below w.heap.size w w' := by
  obtain ⟨S, hS⟩ : ∃ S, w.heap.size = S := ⟨_, rfl⟩
  obtain ⟨n, hn⟩ : ∃ n, d.length = n := ⟨_, rfl⟩
  obtain ⟨u, hu⟩ : ∃ u, (w.alloc (.cells #[.int .i64 i, .slice a n cap] 62)).alloc (.cells #[.int .i64 id] 3) = u := ⟨_, rfl⟩
  have HU : Hid _ := hu
  have b0 : Below w.heap.size w u := by rw [← hu]; exact ((Below.refl _ _).alloc (Nat.le_refl _) _).alloc (by simp) _
  have su : u.heap.size = S + 2 := by rw [← hu, ← hS]; simp
  have c0 : u.cell? ⟨S + 1, 0, none⟩ = some (.int .i64 id) := by
    have := cell_new (w.alloc (.cells #[.int .i64 i, .slice a n cap] 62)) #[.int .i64 id] 3 0
    rw [hu] at this
    simpa [hS] using this
  have ct := contains_any (S + 1) id a cap d u (h.below b0) (by omega) c0
  rw [hn] at ct ⊢
  have B0 : Aside (Below w.heap.size w u) := b0
  obtain ⟨Y, hY⟩ : ∃ Y, hasL d id = Y := ⟨_, rfl⟩
  rw [hY] at ct ⊢
  have hmf : ∀ (fn : Fn) (first cap : Array Value) (w : World), (Instr.makeFunc fn first cap).run Try.prog w = .ok (.func fn first cap) w := fun _ _ _ _ => rfl
  clear hu b0 su c0 h hn hY
  go_enter Try.func29, Try.ntmps29
  go_wp2_with fail
  rw [HU.out]
  refine ct.mono ?_
  rintro r w1 ⟨rfl, g1⟩
  have B1 : Aside (Below w.heap.size w w1) := B0.out.trans (g1.below.mono B0.out.size)
  clear g1 ct
  go_wp2
  go_ret
  exact ⟨rfl, B1.out⟩

set_option maxHeartbeats 400000 in
theorem drop1_any (S : Nat) (id i : Int) (a : Option Addr) (cap : Nat) (d : List Ent) (W : World) (h : IsL W a cap d) (hS : S < W.heap.size) (c0 : W.cell? ⟨S, 0, none⟩ = some (.int .i64 id)) :
    Calls Try.prog 28 #[.agg #[.int .i64 i, .slice a d.length cap], .pointer (some ⟨S, 0, none⟩)] W fun e w' => e = .returned (.bool (hasL d id)) ∧ Below W.heap.size W w' := by
  obtain ⟨R, hR⟩ : ∃ R, W.heap.size = R := ⟨_, rfl⟩
  obtain ⟨n, hn⟩ : ∃ n, d.length = n := ⟨_, rfl⟩
  obtain ⟨u, hu⟩ : ∃ u, W.alloc (.cells #[.int .i64 i, .slice a n cap] 62) = u := ⟨_, rfl⟩
  have HU : Hid _ := hu
  have b0 : Below W.heap.size W u := by rw [← hu]; exact (Below.refl _ _).alloc (Nat.le_refl _) _
  have hs := lhas_any i id a cap d u (h.below b0)
  rw [hn] at hs ⊢
  have B0 : Aside (Below W.heap.size W u) := b0
  have sS : S < R := by omega
  obtain ⟨Y, hY⟩ : ∃ Y, hasL d id = Y := ⟨_, rfl⟩
  rw [hY] at hs ⊢
  clear hu b0 h hn hY
  go_enter Try.func28, Try.ntmps28
  go_wp2_with fail
  rw [HU.out]
  refine hs.mono ?_
  rintro r w1 ⟨rfl, g1⟩
  have B1 : Aside (Below W.heap.size W w1) := B0.out.trans (g1.mono B0.out.size)
  clear g1 hs
  go_wp2
  go_ret
  exact ⟨rfl, B1.out⟩

set_option maxHeartbeats 400000 in
theorem drop2_any (S : Nat) (id o : Int) (W : World) (c0 : W.cell? ⟨S, 0, none⟩ = some (.int .i64 id)) :
    Calls Try.prog 31 #[.int .i64 o, .pointer (some ⟨S, 0, none⟩)] W fun e w' => e = .returned (.bool (decide (o = id))) ∧ Below W.heap.size W w' := by
  have e : decide (o = id) = (o == id) := by by_cases h : o = id <;> simp [h]
  rw [e]
  go_enter Try.func31, Try.ntmps31
  go_wp2
  go_ret
  exact ⟨rfl, Below.refl _ _⟩

/-- Where the blocks of a slice lie. -/
def BlAt (w : World) (a : Option Addr) (ls : List (List Ent)) : Prop := ∀ (i : Nat) (hi : i < ls.length), ∃ g p q, a = some ⟨g, 0, none⟩ ∧ g < w.heap.size ∧ ∀ W, Below w.heap.size w W → W.cell? ⟨g, i * 2, none⟩ = some (.int .i64 (lv ls[i])) ∧ W.cell? ⟨g, i * 2 + 1, none⟩ = some (.slice p ls[i].length q) ∧ IsL W p q ls[i]

set_option maxHeartbeats 2000000 in
set_option maxRecDepth 100000 in
theorem indexB_any (S : Nat) (id : Int) (a : Option Addr) (cap : Nat) (ls : List (List Ent)) (w : World) (h : BlAt w a ls) (hl : ls.length ≤ 10000) (hS : S < w.heap.size) (c0 : w.cell? ⟨S, 0, none⟩ = some (.int .i64 id)) :
    Calls Try.prog 27 #[.slice a ls.length cap, .func (.func 28) #[] #[.pointer (some ⟨S, 0, none⟩)]] w fun r w' => ∃ z : Int, r = .returned (.int .i64 z) ∧ ((z = -1 ∧ firstB ls id = ls.length) ∨ (firstB ls id < ls.length ∧ z = (firstB ls id : Nat))) ∧ Below w.heap.size w w' := by
  have H : Aside (BlAt w a ls) := h
  have EG := enters_of Try.func28 (by kernel_rfl) rfl
  obtain ⟨n, hn⟩ : ∃ n, ls.length = n := ⟨_, rfl⟩
  have HN : Hid _ := hn
  rw [hn] at hl ⊢
  have CS : Aside (∀ W, Below w.heap.size w W → S < W.heap.size ∧ W.cell? ⟨S, 0, none⟩ = some (.int .i64 id)) := fun W hW => ⟨by have := hW.size; omega, (hW.cell (p := ⟨S, 0, none⟩) hS).trans c0⟩
  clear h c0 hn
  go_enter Try.func27, Try.ntmps27
  go_wp2
  go_loopg [8] n (fun kx s8 wr => ∃ k : Nat, s8 = .int .i64 k ∧ k ≤ n ∧ n - k ≤ kx ∧ Aside (Below w.heap.size w wr) ∧ Aside (∀ i (hi : i < ls.length), i < k → hasL ls[i] id = false))
  case atStart => exact ⟨0, rfl, by omega, by omega, Below.refl _ _, (fun i _ h => absurd h (by omega) : ∀ i (hi : i < ls.length), i < 0 → hasL ls[i] id = false)⟩
  case round =>
    obtain ⟨k, rfl, hk, hkx, D, A⟩ := hrel
    by_cases hlt : k < n
    · have hz : (k : Int) < (n : Int) := by omega
      have hkl : k < ls.length := by rw [HN.out]; exact hlt
      obtain ⟨g, p, q, ha, hg, hcs⟩ := H.out k hkl
      obtain ⟨c0, c1, L⟩ := hcs wr D.out
      obtain ⟨d, hd⟩ : ∃ d, ls[k] = d := ⟨_, rfl⟩
      have HD : Hid _ := hd
      rw [hd] at c0 c1 L
      obtain ⟨Y, hY⟩ : ∃ Y, hasL d id = Y := ⟨_, rfl⟩
      have HY : Hid _ := hY
      have pc := drop1_any S id (lv d) p q d wr L (CS.out wr D.out).1 (CS.out wr D.out).2
      obtain ⟨m, hm⟩ : ∃ m, lv d = m := ⟨_, rfl⟩
      obtain ⟨kl, hkl2⟩ : ∃ m, d.length = m := ⟨_, rfl⟩
      rw [hm] at c0 pc
      rw [hkl2] at c1 pc
      rw [hY] at pc
      have HA : Hid _ := ha
      have hs := D.out.size
      clear hY hm hkl2 hd L hcs
      subst ha
      go_wp2_with fail
      refine pc.mono ?_
      rintro r w1 ⟨rfl, g1⟩
      have D2 : Aside (Below w.heap.size w w1) := D.out.trans (g1.mono hs)
      clear g1 D c0 c1 pc
      cases Y with
      | true =>
        have fb := firstB_at hkl (by rw [HD.out]; exact HY.out) (fun i hi => A.out i (by omega) hi)
        have FB : Hid _ := fb
        clear fb
        go_wp2
        go_ret
        refine ⟨k, rfl, .inr ⟨by rw [FB.out]; exact hlt, by rw [FB.out]⟩, D2.out⟩
      | false =>
        go_wp2
        go_roundg (n - (k + 1))
        case measure => omega
        case rel =>
          refine ⟨k + 1, by go_num, by omega, Nat.le_refl _, D2, (fun i hi hik => ?_ : ∀ i (hi : i < ls.length), i < k + 1 → hasL ls[i] id = false)⟩
          by_cases e : i = k
          · subst e; rw [HD.out]; exact HY.out
          · exact A.out i hi (by omega)
    · have hz : ¬ (k : Int) < (n : Int) := by omega
      have fb := firstB_none (ls := ls) (id := id) (fun d hd => by
        obtain ⟨i, hi, rfl⟩ := List.getElem_of_mem hd
        exact A.out i hi (by have := HN.out; omega))
      rw [HN.out] at fb
      have FB : Hid _ := fb
      clear fb
      go_wp2
      go_ret
      exact ⟨-1, rfl, .inl ⟨rfl, FB.out⟩, D.out⟩
end Go.Proofs.Ytchephglapnloaa
