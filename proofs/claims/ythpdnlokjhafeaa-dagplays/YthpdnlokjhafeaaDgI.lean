/- dag.Kill. -/
import Derived.Test.YthpdnlokjhafeaaDgH
namespace Go.Proofs.Ythpdnlokjhafeaa
open Go.RowKit Go.Lib Go.WideMaps Go.Maps
set_option linter.unusedVariables false
variable {w w' u v : World} {X X' Y Z : Nat → Prop} {B N N' cap : Nat} {E E' : Rel} {p i id : Int} {a : Option Addr} {d : List Int}
/-- Who waits for id, by way of others too. -/
def Rch (E : Rel) (id j : Int) : Prop := ∀ P : Int → Prop, (∀ x, E id x → P x) → (∀ x y, P x → E x y → P y) → P j
theorem Rch.one (h : E id i) : Rch E id i := fun P h1 _ => h1 i h
theorem Rch.step (h : Rch E id p) (hE : E p i) : Rch E id i := fun P h1 h2 => h2 p i (h P h1 h2) hE
theorem Rch.lt (ho : ∀ p i, E p i → p < i) (h : Rch E id i) : id < i := h (fun x => id < x) (fun x hx => ho _ _ hx) (fun x y hx hy => by have := ho _ _ hy; omega)
/-- The only ones that wait. -/
theorem Dg.few (h : Dg w X B E N) : ∃ ks : List Int, ks.length ≤ N ∧ ∀ x p, E p x → x ∈ ks := by
  obtain ⟨M0, M, fp, f, l, D, I, hX⟩ := h
  obtain ⟨n, q, hn⟩ := D.mi false
  obtain ⟨ks, k1, k2, k3⟩ := q.keys
  refine ⟨ks, by omega, fun x p hp => (k3 x).2 ?_⟩
  cases hf : f false x with
  | none =>
    have := (I.ew p x).2 hp
    rw [D.non _ _ hf] at this
    simp at this
  | some v => rfl
/-- What stands while it goes on: G those that are gone, the first I of them done with. -/
structure KI (E : Rel) (id : Int) (G : List Int) (I : Nat) : Prop where
  nd : (id :: G).Nodup
  rch : ∀ x ∈ G, Rch E id x
  le : I ≤ G.length + 1
  dn : ∀ x ∈ (id :: G).take I, ∀ y, E x y → y ∈ id :: G
theorem KI.start (E : Rel) (id : Int) : KI E id [] 0 := ⟨by simp, by simp, by simp, by simp⟩
theorem KI.next {G : List Int} {I : Nat} (h : KI E id G I) (hI : I < G.length + 1) (hd : d.Nodup) (md : ∀ y, y ∈ d ↔ E ((id :: G).getD I 0) y ∧ y ∉ id :: G) : KI E id (G ++ d) (I + 1) := by
  have hx : (id :: G).getD I 0 ∈ id :: G := getD_mem (by simp; omega)
  refine ⟨?_, fun y hy => ?_, by simp; omega, fun y hy z hz => ?_⟩
  · rw [← List.cons_append]
    refine List.nodup_append.2 ⟨h.nd, hd, fun y hy z hz e => ?_⟩
    subst e
    exact ((md y).1 hz).2 hy
  · rcases List.mem_append.1 hy with hy | hy
    · exact h.rch y hy
    · have hE := ((md y).1 hy).1
      rcases List.mem_cons.1 hx with e | e
      · rw [e] at hE; exact Rch.one hE
      · exact (h.rch _ e).step hE
  · rw [← List.cons_append, List.take_append_of_le_length (by simp; omega)] at hy
    rw [← List.cons_append, List.mem_append]
    rcases (mem_take_up (d := id :: G) (by simp; omega) y).1 hy with hy | hy
    · exact .inl (h.dn y hy z hz)
    · by_cases c : z ∈ id :: G
      · exact .inl c
      · exact .inr ((md z).2 ⟨by rw [← hy]; exact hz, c⟩)
theorem KI.fin {G : List Int} {I : Nat} (h : KI E id G I) (hI : I = G.length + 1) (ho : ∀ p i, E p i → p < i) (j : Int) : j ∈ G ↔ Rch E id j := by
  refine ⟨h.rch j, fun hr => ?_⟩
  have hdn : ∀ x ∈ id :: G, ∀ y, E x y → y ∈ id :: G := by
    have := h.dn
    rw [List.take_of_length_le (by simp; omega)] at this
    exact this
  have := hr (fun x => x ∈ id :: G) (fun x hx => hdn id (by simp) x hx) (fun x y hx hy => hdn x hx y hy)
  rcases List.mem_cons.1 this with e | e
  · have := hr.lt ho; omega
  · exact e
set_option maxHeartbeats 4000000 in
theorem killG (h : Dg w X B E N) (hN : N < 100000) (hi : wfI id) : Calls Try.prog 14 #[.pointer (some ⟨B, 0, none⟩), .int .i64 id] w fun e w' => ∃ v' d X', e = .returned v' ∧ OwnI w' w.heap.size v' d ∧ Up d ∧ (∀ j, j ∈ d ↔ Rch E id j) ∧ Dg w' X' B (fun q j => E q j ∧ j ≠ id ∧ ¬ Rch E id j) N ∧ St X w X' w' ∧ Dis v' X' ∧ d.length ≤ N := by
  have ord := h.ord
  obtain ⟨ks, kl, km⟩ := h.few
  have few : ∀ G I, KI E id G I → G.length ≤ N := fun G I hk => by
    refine Nat.le_trans (nodup_le G ks (List.nodup_cons.1 hk.nd).2 (fun x hx => ?_)) kl
    have : ∃ p, E p x := hk.rch x hx (fun x => ∃ p, E p x) (fun x hx => ⟨_, hx⟩) (fun x y _ hy => ⟨_, hy⟩)
    obtain ⟨p, hp⟩ := this
    exact km x p hp
  have wfG : ∀ G I, KI E id G I → ∀ x ∈ id :: G, wfI x := fun G I hk x hx => by
    rcases List.mem_cons.1 hx with e | e
    · rw [e]; exact hi
    · have : ∃ p, E p x := hk.rch x e (fun x => ∃ p, E p x) (fun x hx => ⟨_, hx⟩) (fun x y _ hy => ⟨_, hy⟩)
      obtain ⟨p, hp⟩ := this
      obtain ⟨h1, h2, h3⟩ := ord _ _ hp
      exact wfI_of (by omega) (by omega)
  have hF := freeG h (by omega) hi
  obtain ⟨S, hS⟩ : ∃ S, w.heap.size = S := ⟨_, rfl⟩
  have FEW : Aside _ := few
  have WFG : Aside _ := wfG
  have ORD : Aside (∀ p i, E p i → p < i) := fun p i he => (ord p i he).2.1
  have ORD3 : Aside (∀ p i, E p i → wfI i) := fun p i he => by obtain ⟨h1, h2, h3⟩ := ord p i he; exact wfI_of (by omega) (by omega)
  clear few wfG ord km kl ks
  go_enter Try.func14, Try.ntmps14
  go_wp2_with fail
  refine hF.mono ?_
  rintro e w1 ⟨rfl, X1, D1, S1⟩
  have b2 : Below w1.heap.size w1 (w1.alloc (.cells #[.int .i64 id] 3)) := (Below.refl _ _).alloc (Nat.le_refl _) _
  have o2 := OwnI.one (base := S) w1 id (by have := S1.size; omega)
  have HS : Aside (Dg (w1.alloc (.cells #[.int .i64 id] 3)) X1 B (fun q j => E q j ∧ j ∉ [id]) N ∧ St X w X1 (w1.alloc (.cells #[.int .i64 id] 3)) ∧ OwnI (w1.alloc (.cells #[.int .i64 id] 3)) S (.slice (some ⟨w1.heap.size, 0, none⟩) 1 1) [id] ∧ Dis (.slice (some ⟨w1.heap.size, 0, none⟩) 1 1) X1 ∧ S ≤ (w1.alloc (.cells #[.int .i64 id] 3)).heap.size) :=
    ⟨(D1.below b2).congr (fun q j => by simp), S1.trans (St.below X1 b2), o2, fun k hk hx => by injection hk with hk; have := D1.lt hx; simp at hk; omega, by have := b2.size; have := S1.size; omega⟩
  clear hF h D1 S1 b2 o2
  go_wp2_with fail
  go_loopw [5, 6] (fun s5 s6 wr => ∃ (I : Nat) (G : List Int) (g cap : Nat) (X' : Nat → Prop), s6 = .int .i64 I ∧ s5 = .slice (some ⟨g, 0, none⟩) (G.length + 1) cap ∧ KI E id G I ∧ Dg wr X' B (fun q j => E q j ∧ j ∉ id :: G) N ∧ St X w X' wr ∧ OwnI wr S (.slice (some ⟨g, 0, none⟩) (G.length + 1) cap) (id :: G) ∧ Dis (.slice (some ⟨g, 0, none⟩) (G.length + 1) cap) X' ∧ S ≤ wr.heap.size) (fun _ i _ => N + 1 - (intOf i).toNat)
  case atStart =>
    obtain ⟨q1, q2, q3, q4, q5⟩ := HS.out
    exact ⟨0, [], _, 1, X1, rfl, rfl, KI.start E id, q1, q2, q3, q4, q5⟩
  case round =>
    obtain ⟨I, G, g, cap, X2, rfl, rfl, ki, D, S2, o, di, sz⟩ := hrel
    have lG := FEW.out G I ki
    obtain ⟨n, hn⟩ : ∃ n, G.length = n := ⟨_, rfl⟩
    rw [hn] at o di lG ⊢
    by_cases c : I < n + 1
    · obtain ⟨g', off', e', hc⟩ := OwnI.get o (by simp [hn]) c
      simp only [Option.some.injEq, Addr.mk.injEq, and_true] at e'
      obtain ⟨rfl, rfl⟩ := e'
      rw [Nat.zero_add] at hc
      obtain ⟨x, hx⟩ : ∃ x, (id :: G).getD I 0 = x := ⟨_, rfl⟩
      rw [hx] at hc
      have wx : wfI x := WFG.out G I ki x (by rw [← hx]; exact getD_mem (by simp; omega))
      have P := behindG D (by omega) x wx
      have HD : Aside (KI E id G I ∧ Dg wr X2 B (fun q j => E q j ∧ j ∉ id :: G) N ∧ St X w X2 wr ∧ OwnI wr S (.slice (some ⟨g, 0, none⟩) (n + 1) cap) (id :: G) ∧ Dis (.slice (some ⟨g, 0, none⟩) (n + 1) cap) X2 ∧ S ≤ wr.heap.size) := ⟨ki, D, S2, o, di, sz⟩
      have HX : Hid _ := hx
      have HN : Hid _ := hn
      clear ki D S2 o di sz HS hx hn
      go_wp2_with fail
      refine P.mono ?_
      rintro e w3 ⟨v3, d, rfl, o3, ud, md, ld, b3⟩
      obtain ⟨ki, D, S2, o, di, sz⟩ := HD.out
      obtain ⟨a3, cap3, rfl, q3⟩ := o3.isI
      obtain ⟨m, hm⟩ : ∃ m, d.length = m := ⟨_, rfl⟩
      rw [hm] at o3 ld ⊢
      have HS2 : Aside (Dg w3 X2 B (fun q j => E q j ∧ j ∉ id :: (G ++ d.take 0)) N ∧ St X w X2 w3 ∧ OwnI w3 S (.slice (some ⟨g, 0, none⟩) (n + 1) cap) (id :: (G ++ d.take 0)) ∧ Dis (.slice (some ⟨g, 0, none⟩) (n + 1) cap) X2 ∧ OwnI w3 S (.slice a3 m cap3) d ∧ Dis (.slice a3 m cap3) X2 ∧ (∀ k, Value.ownBlock (.slice a3 m cap3) = some k → g ≠ k) ∧ S ≤ w3.heap.size) := by
        simp only [List.take_zero, List.append_nil]
        refine ⟨D.below b3, S2.trans (St.below X2 b3), o.below b3, di, o3.low sz, D.dis o3, fun k hk e => ?_, by have := b3.size; omega⟩
        have := (o.rowLt rfl).2
        have := (o3.rowLt hk).1
        simp at *
        omega
      clear P HD D S2 o di sz o3 b3 q3
      go_wp2_with fail
      go_loopw [5, 27] (fun s5 s27 wi => ∃ (J : Nat) (g2 cap2 : Nat) (X' : Nat → Prop), J ≤ m ∧ s27 = .int .i64 J ∧ s5 = .slice (some ⟨g2, 0, none⟩) (n + J + 1) cap2 ∧ Dg wi X' B (fun q j => E q j ∧ j ∉ id :: (G ++ d.take J)) N ∧ St X w X' wi ∧ OwnI wi S (.slice (some ⟨g2, 0, none⟩) (n + J + 1) cap2) (id :: (G ++ d.take J)) ∧ Dis (.slice (some ⟨g2, 0, none⟩) (n + J + 1) cap2) X' ∧ OwnI wi S (.slice a3 m cap3) d ∧ Dis (.slice a3 m cap3) X' ∧ (∀ k, Value.ownBlock (.slice a3 m cap3) = some k → g2 ≠ k) ∧ S ≤ wi.heap.size) (fun _ i _ => m - (intOf i).toNat)
      case atStart => exact ⟨0, g, cap, X2, by omega, rfl, rfl, HS2.out⟩
      case round =>
        obtain ⟨J, g2, cap2, X3, hJ, rfl, rfl, D, S3, o, di, o3, d3, ne, sz⟩ := hrel
        by_cases c2 : J < m
        · obtain ⟨gg, oo, rfl, hc2⟩ := o3.get hm c2
          obtain ⟨y, hy⟩ : ∃ y, d.getD J 0 = y := ⟨_, rfl⟩
          rw [hy] at hc2
          have wy : wfI y := ORD3.out x y ((md y).1 (by rw [← hy]; exact getD_mem (by omega))).1
          have P2 := freeG D (by omega) wy
          have HD : Aside (Dg wr X3 B (fun q j => E q j ∧ j ∉ id :: (G ++ d.take J)) N ∧ St X w X3 wr ∧ OwnI wr S (.slice (some ⟨g2, 0, none⟩) (n + J + 1) cap2) (id :: (G ++ d.take J)) ∧ Dis (.slice (some ⟨g2, 0, none⟩) (n + J + 1) cap2) X3 ∧ OwnI wr S (.slice (some ⟨gg, oo, none⟩) m cap3) d ∧ Dis (.slice (some ⟨gg, oo, none⟩) m cap3) X3 ∧ (∀ k, Value.ownBlock (.slice (some ⟨gg, oo, none⟩) m cap3) = some k → g2 ≠ k) ∧ S ≤ wr.heap.size) := ⟨D, S3, o, di, o3, d3, ne, sz⟩
          have HY : Hid _ := hy
          clear D S3 o di o3 d3 ne sz hy HS2
          go_wp2_with fail
          refine P2.mono ?_
          rintro e w4 ⟨rfl, X4, D4, S4⟩
          obtain ⟨D, S3, o, di, o3, d3, ne, sz⟩ := HD.out
          have o4 := o.st di S4
          have di4 := di.st o S4
          have o34 := o3.st d3 S4
          have d34 := d3.st o3 S4
          have sz4 : S ≤ w4.heap.size := by have := S4.size; omega
          have hlen : (id :: (G ++ d.take J)).length = n + J + 1 := by simp [HN.out]; omega
          obtain ⟨v5, w5, hr5, o5, F5, n5⟩ := o4.push y (by rw [hlen]; omega) sz4
          have e5 : id :: (G ++ d.take J) ++ [y] = id :: (G ++ d.take (J + 1)) := by rw [take_up (by omega), HY.out]; simp
          rw [e5] at o5
          obtain ⟨g5, cap5, rfl⟩ := o5.addr (by simp)
          have l5 : (id :: (G ++ d.take (J + 1))).length = n + (J + 1) + 1 := by simp [HN.out]; omega
          rw [l5] at o5 hr5 n5
          have D5 : Dg w5 X4 B (fun q j => E q j ∧ j ∉ id :: (G ++ d.take (J + 1))) N := (D4.fr F5 (fun k hk hh => di4 k hh hk)).congr (fun q j => by
            rw [← e5, List.mem_append]
            constructor
            · rintro ⟨h1, h2⟩; exact ⟨⟨h1, fun hh => h2 (.inl hh)⟩, fun hh => h2 (.inr (by simp [hh]))⟩
            · rintro ⟨⟨h1, h2⟩, h3⟩
              refine ⟨h1, fun hh => ?_⟩
              rcases hh with hh | hh
              · exact h2 hh
              · exact h3 (by simpa using hh))
          have NX : Aside (Dg w5 X4 B (fun q j => E q j ∧ j ∉ id :: (G ++ d.take (J + 1))) N ∧ St X w X4 w5 ∧ OwnI w5 S (.slice (some ⟨g5, 0, none⟩) (n + (J + 1) + 1) cap5) (id :: (G ++ d.take (J + 1))) ∧ Dis (.slice (some ⟨g5, 0, none⟩) (n + (J + 1) + 1) cap5) X4 ∧ OwnI w5 S (.slice (some ⟨gg, oo, none⟩) m cap3) d ∧ Dis (.slice (some ⟨gg, oo, none⟩) m cap3) X4 ∧ (∀ k, Value.ownBlock (.slice (some ⟨gg, oo, none⟩) m cap3) = some k → g5 ≠ k) ∧ S ≤ w5.heap.size) := by
            refine ⟨D5, ⟨(S3.trans S4).fr.trans F5 (fun j hj => ?_), (S3.trans S4).new⟩, o5, fun k hk hx => ?_, o34.fr F5 (fun k hk hh => ne k hk (by injection hh)), d34, fun k hk he => ?_, by have := F5.size; omega⟩
            · have := (o4.rowLt hj).1; exact .inr (by omega)
            · rcases n5 k hk with e | e
              · exact di4 k e hx
              · have := D4.lt hx; omega
            · rcases n5 g5 rfl with e | e
              · injection e with e; exact ne k hk (Eq.trans e he)
              · have := (o34.rowLt hk).2; omega
          have HR : Aside _ := hr5
          clear P2 HD D4 S4 D S3 o di o3 d3 ne sz o4 di4 o34 d34 sz4 o5 F5 n5 D5 e5 l5 hlen hr5
          have hr5 := HR.out
          clear HR
          go_wp2_with (at_builtin; refine wpList_app _ rfl _ _ 24 rfl _ _ rfl rfl _ w5 hr5 ?_; clear hr5)
          go_roundw
          case rel => exact ⟨J + 1, g5, cap5, X4, by omega, by go_num, by first | rfl | simp, NX.out⟩
          case measure => simp [intOf]; omega
        · obtain rfl : J = m := by omega
          have hnx : KI E id (G ++ d) (I + 1) := ki.next (by have := HN.out; omega) ud.nodup (fun y => by rw [HX.out]; exact md y)
          rw [List.take_of_length_le (by omega)] at D o
          have NX : Aside (∃ (I' : Nat) (G' : List Int) (g' cap' : Nat) (X' : Nat → Prop), Value.int .i64 ((I : Int) + 1) = .int .i64 I' ∧ Value.slice (some ⟨g2, 0, none⟩) (n + J + 1) cap2 = .slice (some ⟨g', 0, none⟩) (G'.length + 1) cap' ∧ KI E id G' I' ∧ Dg wr X' B (fun q j => E q j ∧ j ∉ id :: G') N ∧ St X w X' wr ∧ OwnI wr S (.slice (some ⟨g', 0, none⟩) (G'.length + 1) cap') (id :: G') ∧ Dis (.slice (some ⟨g', 0, none⟩) (G'.length + 1) cap') X' ∧ S ≤ wr.heap.size) := by
            have e : (G ++ d).length = n + J := by simp [HN.out, hm]
            exact ⟨I + 1, G ++ d, g2, cap2, X3, by simp, by rw [e], hnx, D, S3, by rw [e]; exact o, by rw [e]; exact di, sz⟩
          clear D S3 o di o3 d3 ne sz hnx ki
          go_wp2_with fail
          go_roundw
          case rel => exact NX.out
          case measure => simp [intOf]; omega
    · obtain rfl : I = n + 1 := by have := ki.le; omega
      have hfin := ki.fin (by omega) ORD.out
      have q := o.isI
      obtain ⟨a', cap', e', q⟩ := q
      have hl : (id :: G).length = n + 1 := by simp [hn]
      rw [hl] at e'
      injection e' with e1 e2 e3
      subst e1 e3
      have q1 := q.drop 1 (by simp)
      have hr := rising_any q1 (by simp [hn]; omega)
      have hcap := q.le
      rw [hl] at hcap
      have hbig := q.big
      unfold maxLen at hbig
      simp only [List.drop_one, List.tail_cons, hn] at hr
      have nd : G.Nodup := (List.nodup_cons.1 ki.nd).2
      have HD : Aside (Dg wr X2 B (fun q j => E q j ∧ j ∉ id :: G) N ∧ St X w X2 wr ∧ S ≤ wr.heap.size) := ⟨D, S2, sz⟩
      clear ki D S2 o di sz HS q q1
      have fin : ∀ (v' : Value) (w' : World), OwnI w' wr.heap.size v' (sortI G) → Below wr.heap.size wr w' → ∃ v'' d X', Ending.returned v' = .returned v'' ∧ OwnI w' S v'' d ∧ Up d ∧ (∀ j, j ∈ d ↔ Rch E id j) ∧ Dg w' X' B (fun q j => E q j ∧ j ≠ id ∧ ¬ Rch E id j) N ∧ St X w X' w' ∧ Dis v'' X' ∧ d.length ≤ N := fun v' w' o' b' => by
        obtain ⟨D, S2, sz⟩ := HD.out
        refine ⟨v', sortI G, X2, rfl, o'.low sz, sortI_up nd, fun j => by rw [sortI_mem]; exact hfin j, (D.below b').congr (fun q j => ?_), S2.trans (St.below X2 b'), D.dis o', by rw [sortI_len]; omega⟩
        rw [List.mem_cons, ← hfin j]
        constructor
        · rintro ⟨h1, h2, h3⟩; exact ⟨h1, fun hh => hh.elim h2 h3⟩
        · rintro ⟨h1, h2⟩; exact ⟨h1, fun hh => h2 (.inl hh), fun hh => h2 (.inr hh)⟩
      have FIN : Aside _ := fin
      clear fin HD hfin
      by_cases c1 : cap = 1
      · subst c1
        obtain rfl : n = 0 := by omega
        rw [if_pos rfl] at hr
        go_wp2_with fail
        refine hr.mono ?_
        rintro e w4 ⟨v4, rfl, o4, b4⟩
        clear hr
        go_wp2_with fail
        go_ret
        first | exact FIN.out _ _ o4 b4 | (rw [hS]; exact FIN.out _ _ o4 b4)
      · rw [if_neg c1, Option.map_some, Addr.add_lit] at hr
        go_wp2_with fail
        refine hr.mono ?_
        rintro e w4 ⟨v4, rfl, o4, b4⟩
        clear hr
        go_wp2_with fail
        go_ret
        first | exact FIN.out _ _ o4 b4 | (rw [hS]; exact FIN.out _ _ o4 b4)
end Go.Proofs.Ythpdnlokjhafeaa
