/- The document's Has, Without. -/
import Derived.Test.YtchephglapnloaaLsmG
namespace Go.Proofs.Ytchephglapnloaa
open Go.RowKit Go.Lib Go.Sort
set_option linter.unusedVariables false

set_option maxHeartbeats 2000000 in
set_option maxRecDepth 100000 in
theorem refHas_any (a : Option Addr) (cap : Nat) (d : List Ent) (id : Int) (w : World) (h : IsL w a cap d) :
    Calls Try.prog 36 #[.slice a d.length cap, .int .i64 id] w fun r w' => r = .returned (.bool (hasL d id)) ∧ w' = w := by
  have hl := h.len
  have H : Aside (IsL w a cap d) := h
  obtain ⟨n, hn⟩ : ∃ n, d.length = n := ⟨_, rfl⟩
  have HN : Hid _ := hn
  rw [hn] at hl ⊢
  clear h hn
  go_enter Try.func36, Try.ntmps36
  go_wp2
  go_loopg [5] n (fun kx s5 wr => ∃ k : Nat, s5 = .int .i64 k ∧ k ≤ n ∧ n - k ≤ kx ∧ wr = w ∧ Aside (∀ i (hi : i < d.length), i < k → d[i].2 ≠ id))
  case atStart => exact ⟨0, rfl, by omega, by omega, rfl, (fun i _ h => absurd h (by omega) : ∀ i (hi : i < d.length), i < 0 → d[i].2 ≠ id)⟩
  case round =>
    obtain ⟨k, rfl, hk, hkx, rfl, A⟩ := hrel
    by_cases hlt : k < n
    · have hz : (k : Int) < (n : Int) := by omega
      have hkl : k < d.length := by rw [HN.out]; exact hlt
      obtain ⟨b, off, ha, hb, c0, c1⟩ := H.out.elem k d[k] (List.getElem?_eq_getElem hkl)
      obtain ⟨x, hx⟩ : ∃ x, d[k] = x := ⟨_, rfl⟩
      rw [hx] at c1
      have HX : Hid _ := hx
      subst ha
      clear c0 hx
      by_cases e : x.2 = id
      · have q1 : (x.2 == id) = true := by simp [e]
        have hh : hasL d id = true := hasL_at k hkl (by rw [HX.out]; exact e)
        have HH : Hid _ := hh
        clear hh e
        go_wp2
        go_ret
        exact ⟨by rw [HH.out]; rfl, rfl⟩
      · have q1 : (x.2 == id) = false := by simp [e]
        have A2 : Aside (∀ i (hi : i < d.length), i < k + 1 → d[i].2 ≠ id) := fun i hi hik => by
          by_cases c : i = k
          · subst c; rw [HX.out]; exact e
          · exact A.out i hi (by omega)
        clear e
        go_wp2
        go_roundg (n - (k + 1))
        case measure => omega
        case rel => exact ⟨k + 1, by go_num, by omega, Nat.le_refl _, rfl, A2⟩
    · have hz : ¬ (k : Int) < (n : Int) := by omega
      have hh : hasL d id = false := hasL_none fun i hi => A.out i hi (by have := HN.out; omega)
      have HH : Hid _ := hh
      clear hh
      go_wp2
      go_ret
      exact ⟨by rw [HH.out]; rfl, rfl⟩

theorem out_take {id : Int} {d : List Ent} {k : Nat} (h : k < d.length) : outL id (d.take (k + 1)) = outL id (d.take k) ++ (if d[k].2 = id then [] else [d[k]]) := by
  unfold outL
  rw [List.take_succ_eq_append_getElem h, List.filter_append]
  by_cases e : d[k].2 = id <;> simp [e]

set_option maxHeartbeats 4000000 in
set_option maxRecDepth 100000 in
theorem refWithout_any (a : Option Addr) (cap : Nat) (d : List Ent) (id : Int) (w : World) (h : IsL w a cap d) (hd : d.length ≤ 10000) :
    Calls Try.prog 37 #[.slice a d.length cap, .int .i64 id] w (Made w (outL id d)) := by
  have H : Aside (IsL w a cap d) := h
  obtain ⟨n, hn⟩ : ∃ n, d.length = n := ⟨_, rfl⟩
  have HN : Hid _ := hn
  rw [hn] at hd ⊢
  clear h hn
  go_enter Try.func37, Try.ntmps37
  go_wp2
  go_loopg [5, 6] n (fun kx s5 s6 wr => ∃ (k m : Nat) (r : Option Addr) (t : Nat), s6 = .int .i64 k ∧ s5 = .slice r m t ∧ Hid ((outL id (d.take k)).length = m) ∧ k ≤ n ∧ n - k ≤ kx ∧ Aside (OwnE wr w.heap.size (.slice r m t) (outL id (d.take k))) ∧ Aside (Below w.heap.size w wr))
  case atStart => exact ⟨0, 0, none, 0, rfl, rfl, rfl, by omega, by omega, OwnE.nil _ _, Below.refl _ _⟩
  case round =>
    obtain ⟨k, z, r, t, rfl, rfl, HZ, hk, hkx, O, B⟩ := hrel
    have zle : z ≤ n := by have h1 := HZ.out; have h2 := outL_len id (d.take k); rw [List.length_take, HN.out] at h2; omega
    have sz := B.out.size
    by_cases hlt : k < n
    · have hz : (k : Int) < (n : Int) := by omega
      have hkl : k < d.length := by rw [HN.out]; exact hlt
      obtain ⟨b, off, ha, hb, c0, c1⟩ := (H.out.below B.out).elem k d[k] (List.getElem?_eq_getElem hkl)
      have e1 := out_take (id := id) hkl
      obtain ⟨x, hx⟩ : ∃ x, d[k] = x := ⟨_, rfl⟩
      rw [hx] at c0 c1 e1
      have E1 : Aside (outL id (d.take (k + 1)) = outL id (d.take k) ++ (if x.2 = id then [] else [x])) := e1
      subst ha
      clear hx e1
      by_cases e : x.2 = id
      · have q1 : (x.2 == id) = true := by simp [e]
        have E2 : Hid (outL id (d.take (k + 1)) = outL id (d.take k)) := by show _ = _; have := E1.out; rw [if_pos e, List.append_nil] at this; exact this
        have O2 : Aside (OwnE wr w.heap.size (.slice r z t) (outL id (d.take (k + 1)))) := by rw [E2.out]; exact O.out
        clear E1
        go_wp2
        go_roundg (n - (k + 1))
        case measure => omega
        case rel => exact ⟨k + 1, z, r, t, by go_num, rfl, by rw [E2.out]; exact HZ, by omega, Nat.le_refl _, O2, B⟩
      · have q1 : (x.2 == id) = false := by simp [e]
        have q2 : ¬ x.2 = id := e
        have E2 : Hid (outL id (d.take (k + 1)) = outL id (d.take k) ++ [x]) := by show _ = _; have := E1.out; rw [if_neg e] at this; exact this
        obtain ⟨r', t', w2, hr, o2, b2⟩ := app_one x O.out HZ.out (by omega) (by omega)
        have B2 : Aside (Below w.heap.size w w2) := B.out.trans b2
        have O2 : Aside (OwnE w2 w.heap.size (.slice r' (z + 1) t') (outL id (d.take (k + 1)))) := by rw [E2.out]; exact o2
        have HZ2 : Hid ((outL id (d.take (k + 1))).length = z + 1) := by show _ = _; rw [E2.out, List.length_append, HZ.out]; rfl
        clear E1 o2 b2 O B
        go_wp2_with (at_builtin; refine Lib.wpList_append_run (World.alloc wr _) rfl _ _ 29 29 rfl _ _ rfl rfl _ w2 hr ?_)
        go_roundg (n - (k + 1))
        case measure => omega
        case rel => exact ⟨k + 1, z + 1, r', t', by go_num, rfl, HZ2, by omega, Nat.le_refl _, O2, B2⟩
    · have hz : ¬ (k : Int) < (n : Int) := by omega
      have e : d.take k = d := List.take_of_length_le (by rw [HN.out]; omega)
      rw [e] at HZ O
      go_wp2
      go_ret
      exact ⟨r, t, by rw [HZ.out]; rfl, by rw [HZ.out]; exact O.out, B.out⟩
end Go.Proofs.Ytchephglapnloaa
