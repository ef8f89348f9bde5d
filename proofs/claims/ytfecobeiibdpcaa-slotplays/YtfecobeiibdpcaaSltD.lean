/- slot: Drop, All; awake of layer 9. -/
import Derived.Test.YtfecobeiibdpcaaSltC
import Derived.Deep.LoopGhost
namespace Go.Proofs.Ytfecobeiibdpcaa
open Go.RowKit Go.Lib Go.Sort
set_option linter.unusedVariables false

/-- What the first k slots have. -/
def slAll (g : Nat → Pl) : Nat → List Ent
  | 0 => []
  | k + 1 => slAll g k ++ (if (g k).f then [(g k).e] else [])
theorem slAll_len (g : Nat → Pl) : ∀ k, (slAll g k).length ≤ k
  | 0 => Nat.le_refl _
  | k + 1 => by
    have := slAll_len g k
    unfold slAll
    rw [List.length_append]
    split <;> simp <;> omega
/-- Slot i has this ID. -/
def slHit (p : Pl) (id : Int) : Bool := p.f && (p.e.2 == id)

set_option maxHeartbeats 2000000 in
set_option maxRecDepth 100000 in
theorem slDrop_none (w : World) (B R n : Nat) (g : Nat → Pl) (id : Int) (h : Slt w B R n g) (hn : ∀ i, i < n → slHit (g i) id = false) :
    Calls Try.prog 13 #[.pointer (some ⟨B, 0, none⟩), .int .i64 id] w fun e w' => e = .returned (.bool false) ∧ w' = w := by
  have c0 := h.c0
  have bl := h.blt
  have H : Aside (Slt w B R n g) := h
  have HN : Aside (∀ i, i < n → slHit (g i) id = false) := hn
  have n8 := h.most
  clear h hn
  go_enter Try.func13, Try.ntmps13
  go_wp2
  go_loopg [12] n (fun kx s12 wr => ∃ k : Nat, s12 = .int .i64 k ∧ k ≤ n ∧ n - k ≤ kx ∧ wr = w)
  case atStart => exact ⟨0, rfl, by omega, by omega, rfl⟩
  case round =>
    obtain ⟨i, rfl, hk, hkx, rfl⟩ := hrel
    by_cases hlt : i < n
    · have hz : (i : Int) < (n : Int) := by omega
      obtain ⟨k, d, v, f, e'⟩ : ∃ k d v f, g i = ⟨(k, d), v, f⟩ := ⟨_, _, _, _, rfl⟩
      obtain ⟨q0, q1, q2, q3⟩ := H.out.cells hlt e'
      have hh := HN.out i hlt
      rw [e'] at hh
      cases f with
      | false =>
        clear hh
        go_wp2
        go_roundg (n - (i + 1))
        case measure => omega
        case rel => exact ⟨i + 1, by go_num, by omega, Nat.le_refl _, rfl⟩
      | true =>
        have hd : (d == id) = false := by simpa [slHit] using hh
        clear hh
        go_wp2
        go_roundg (n - (i + 1))
        case measure => omega
        case rel => exact ⟨i + 1, by go_num, by omega, Nat.le_refl _, rfl⟩
    · have hz : ¬ (i : Int) < (n : Int) := by omega
      go_wp2
      go_ret
      exact ⟨rfl, rfl⟩

set_option maxHeartbeats 2000000 in
set_option maxRecDepth 100000 in
theorem slDrop_hit (w : World) (B R n : Nat) (g : Nat → Pl) (j : Nat) (id : Int) (k : Int) (v : Nat) (h : Slt w B R n g) (hj : j < n) (hp : g j = ⟨(k, id), v, true⟩) (hm : v ≤ 1000000) (hn : ∀ i, i < j → slHit (g i) id = false) :
    Calls Try.prog 13 #[.pointer (some ⟨B, 0, none⟩), .int .i64 id] w fun e w' => e = .returned (.bool true) ∧ Slt w' B R n (slSet g j ⟨(0, 0), v + 1, false⟩) ∧ w.grownBy w' (some R) := by
  have c0 := h.c0
  have bl := h.blt
  have em := slEmpty_any w B R n g j h hj k id v true hp hm
  have H : Aside (Slt w B R n g) := h
  have HN : Aside (∀ i, i < j → slHit (g i) id = false) := hn
  have HP : Hid (g j = ⟨(k, id), v, true⟩) := hp
  have n8 := h.most
  clear h hn hp
  go_enter Try.func13, Try.ntmps13
  go_wp2
  go_loopg [12] n (fun kx s12 wr => ∃ i : Nat, s12 = .int .i64 i ∧ i ≤ j ∧ n - i ≤ kx ∧ wr = w)
  case atStart => exact ⟨0, rfl, by omega, by omega, rfl⟩
  case round =>
    obtain ⟨i, rfl, hk, hkx, rfl⟩ := hrel
    have hlt : i < n := by omega
    have hz : (i : Int) < (n : Int) := by omega
    by_cases hij : i = j
    · subst hij
      obtain ⟨q0, q1, q2, q3⟩ := H.out.cells hlt HP.out
      go_wp2_with fail
      refine em.mono ?_
      rintro e w2 ⟨rfl, s2, g2⟩
      have F : Aside _ := And.intro s2 g2
      clear s2 g2 em
      go_wp2
      go_ret
      exact ⟨rfl, F.out⟩
    · obtain ⟨k', d', v', f, e'⟩ : ∃ k d v f, g i = ⟨(k, d), v, f⟩ := ⟨_, _, _, _, rfl⟩
      obtain ⟨q0, q1, q2, q3⟩ := H.out.cells hlt e'
      have hh := HN.out i (by omega)
      rw [e'] at hh
      cases f with
      | false =>
        clear hh em
        go_wp2
        go_roundg (n - (i + 1))
        case measure => omega
        case rel => exact ⟨i + 1, by go_num, by omega, Nat.le_refl _, rfl⟩
      | true =>
        have hd : (d' == id) = false := by simpa [slHit] using hh
        clear hh em
        go_wp2
        go_roundg (n - (i + 1))
        case measure => omega
        case rel => exact ⟨i + 1, by go_num, by omega, Nat.le_refl _, rfl⟩

theorem slApp {w : World} {base k : Nat} {r : Option Addr} {t : Nat} {d : List Ent} (x : Ent) (h : OwnE w base (.slice r k t) d) (hl : d.length = k) (hk : k ≤ 100000) (hb : base ≤ w.heap.size) :
    ∃ r' t' w', (Builtin.append_ #[40, 40] 40 #[.slice r k t, .slice (some ⟨w.heap.size, 0, none⟩) 1 1]).run Try.prog (w.alloc (.cells #[.int .u64 x.1, .int .i64 x.2] 33)) = .ok (.slice r' (k + 1) t') w' ∧ OwnE w' base (.slice r' (k + 1) t') (d ++ [x]) ∧ Below base w w' := by
  have bv : Below w.heap.size w (w.alloc (.cells #[.int .u64 x.1, .int .i64 x.2] 33)) := (Below.refl _ _).alloc (Nat.le_refl _) _
  obtain ⟨v', w', hr, o, g⟩ := app_run (c := [x]) (h.below bv) (IsL.one w x) (by simp; omega) (Nat.le_trans hb bv.size) 40
  obtain ⟨r', t', e, _⟩ := o.isL
  have e2 : (d ++ [x]).length = k + 1 := by simp [hl]
  rw [e2] at e
  subst e
  exact ⟨r', t', w', hr, o, OwnE.grown (h.below bv) (bv.mono hb) g (Nat.le_trans hb bv.size)⟩

/-- What All tells. -/
def SlAllIs (w : World) (m : Nat) (d : List Ent) (r : Ending) (w' : World) : Prop := ∃ a cap, r = .returned (.slice a m cap) ∧ OwnE w' w.heap.size (.slice a m cap) d ∧ Below w.heap.size w w'

set_option maxHeartbeats 2000000 in
set_option maxRecDepth 100000 in
theorem slAll_any (w : World) (B R n : Nat) (g : Nat → Pl) (m : Nat) (h : Slt w B R n g) (hm : (slAll g n).length = m) :
    Calls Try.prog 12 #[.pointer (some ⟨B, 0, none⟩)] w (SlAllIs w m (slAll g n)) := by
  have c0 := h.c0
  have bl := h.blt
  have H : Aside (Slt w B R n g) := h
  have n8 := h.most
  have HM : Hid _ := hm
  clear h hm
  go_enter Try.func12, Try.ntmps12
  go_wp2
  go_loopg [3, 5, 11] n (fun kx s3 s5 s11 wr => ∃ (i z : Nat) (r : Option Addr) (t : Nat), s11 = .int .i64 i ∧ s3 = .slice r z t ∧ Hid ((slAll g i).length = z) ∧ i ≤ n ∧ n - i ≤ kx ∧ Aside (OwnE wr w.heap.size (.slice r z t) (slAll g i)) ∧ Aside (Below w.heap.size w wr))
  case atStart => exact ⟨0, 0, none, 0, rfl, rfl, rfl, by omega, by omega, OwnE.nil _ _, Below.refl _ _⟩
  case round =>
    obtain ⟨i, z, r, t, rfl, rfl, HZ, hk, hkx, O, D⟩ := hrel
    have zle : z ≤ 8 := by have h1 := HZ.out; have h2 := slAll_len g i; omega
    have sz := D.out.size
    by_cases hlt : i < n
    · have hz : (i : Int) < (n : Int) := by omega
      obtain ⟨k, d, v, f, e'⟩ : ∃ k d v f, g i = ⟨(k, d), v, f⟩ := ⟨_, _, _, _, rfl⟩
      have Hr := H.out.below D.out
      obtain ⟨q0, q1, q2, q3⟩ := Hr.cells hlt e'
      have rl := Hr.rlt
      have e1 : slAll g (i + 1) = slAll g i ++ (if f then [(k, d)] else []) := by show slAll g i ++ _ = _; rw [e']
      clear Hr e'
      obtain ⟨u, hu⟩ : ∃ u, wr.alloc (.cells #[.int .u64 k, .int .i64 d, .int .u64 v, .bool f] 62) = u := ⟨_, rfl⟩
      have bu : Below wr.heap.size wr u := by rw [← hu]; exact (Below.refl _ _).alloc (Nat.le_refl _) _
      cases f with
      | false =>
        have E2 : Hid (slAll g (i + 1) = slAll g i) := by show _ = _; rw [e1]; simp
        have O2 : Aside (OwnE (wr.alloc (.cells #[.int .u64 k, .int .i64 d, .int .u64 v, .bool false] 62)) w.heap.size (.slice r z t) (slAll g (i + 1))) := by rw [E2.out, hu]; exact O.out.below bu
        have D2 : Aside (Below w.heap.size w (wr.alloc (.cells #[.int .u64 k, .int .i64 d, .int .u64 v, .bool false] 62))) := by rw [hu]; exact D.out.trans (bu.mono sz)
        clear e1 hu bu O D
        go_wp2
        go_roundg (n - (i + 1))
        case measure => omega
        case rel => exact ⟨i + 1, z, r, t, by go_num, rfl, by rw [E2.out]; exact HZ, by omega, Nat.le_refl _, O2, D2⟩
      | true =>
        have E2 : Hid (slAll g (i + 1) = slAll g i ++ [(k, d)]) := by show _ = _; rw [e1]; simp
        obtain ⟨r', t', w2, hr, o2, b2⟩ := slApp (k, d) (O.out.below bu) HZ.out (by omega) (by have := bu.size; omega)
        have D2 : Aside (Below w.heap.size w w2) := (D.out.trans (bu.mono sz)).trans b2
        have O2 : Aside (OwnE w2 w.heap.size (.slice r' (z + 1) t') (slAll g (i + 1))) := by rw [E2.out]; exact o2
        have HZ2 : Hid ((slAll g (i + 1)).length = z + 1) := by show _ = _; rw [E2.out, List.length_append, HZ.out]; rfl
        have us : u.heap.size = wr.heap.size + 1 := by rw [← hu]; simp
        simp only at hr
        rw [us, ← hu] at hr
        clear us
        clear e1 o2 b2 O D hu bu
        go_wp2_with (at_builtin; refine Lib.wpList_append_run (World.alloc (World.alloc wr _) _) rfl _ _ 40 40 rfl _ _ rfl rfl _ w2 hr ?_)
        go_roundg (n - (i + 1))
        case measure => omega
        case rel => exact ⟨i + 1, z + 1, r', t', by go_num, rfl, HZ2, by omega, Nat.le_refl _, O2, D2⟩
    · have hz : ¬ (i : Int) < (n : Int) := by omega
      obtain rfl : i = n := by omega
      obtain rfl : z = m := by rw [← HZ.out]; exact HM.out
      go_wp2
      go_ret
      exact ⟨r, t, rfl, O.out, D.out⟩
end Go.Proofs.Ytfecobeiibdpcaa
