/- shared: Add. -/
import Derived.Test.YtboccihcomaaoaaShrA
namespace Go.Proofs.Ytboccihcomaaoaa
open Go.RowKit Go.Lib Go.Sort
set_option linter.unusedVariables false

theorem mem_len {ls : List (List Ent)} {d : List Ent} (h : d ∈ ls) : d.length ≤ ls.flatten.length := by
  obtain ⟨i, hi, rfl⟩ := List.getElem_of_mem h
  have := (flat_split hi).length_eq
  rw [List.length_append] at this
  omega
theorem own_lt {T : TypeId} {w : World} {base k n : Nat} {v : Value} {vs : List Value} (h : w.ownsRow base T k v n vs) {S : Nat} (hS : w.heap.size ≤ S) : some S ≠ v.ownBlock := fun e => by
  have := World.ownsRow.lt h S e.symm
  omega
theorem below_own {T : TypeId} {w w' : World} {base k n : Nat} {v : Value} {vs : List Value} (h : w.ownsRow base T k v n vs) (hg : w.grownBy w' v.ownBlock) (hb : base ≤ w.heap.size) : Below base w w' :=
  ⟨hg.os, hg.tape, hg.output, hg.size, fun k hk => hg.block k (by omega) (fun e => by have := World.ownsRow.lt h k e.symm; omega)⟩

/-- A new block of the call's own, with letters. -/
def MadeO (w : World) (m n : Nat) (d : List Ent) (r : Ending) (w' : World) : Prop := ∃ a cap, r = .returned (.agg #[.int .i64 m, .slice a n cap]) ∧ OwnE w' w.heap.size (.slice a n cap) d ∧ Below w.heap.size w w'
theorem MadeB.o {w w' : World} {d : List Ent} {r : Ending} (h : MadeB w d r w') {n m : Nat} (hn : d.length = n) (hm : lv d = m) : MadeO w m n d r w' := by
  obtain ⟨a, cap, h1, h2, h3⟩ := h
  rw [hn] at h1 h2
  rw [show lvl n = m by rw [← hm, ← hn]; rfl] at h1
  exact ⟨a, cap, h1, h2, h3⟩

set_option maxHeartbeats 400000 in
theorem sadd_none (B : Nat) (a : Option Addr) (cap : Nat) (w : World) :
    Calls Try.prog 10 #[.pointer (some ⟨B, 0, none⟩), .slice a 0 cap] w fun r w' => r = .returned (.tuple #[]) ∧ w' = w := by
  go_enter Try.func10, Try.ntmps10
  go_wp2
  refine bodyPost_ret (results_none rfl _ _ _) rfl ?_
  exact ⟨by first | rfl | trivial, by first | rfl | trivial⟩

set_option maxHeartbeats 2000000 in
set_option maxRecDepth 100000 in
theorem sadd_some (B v : Nat) (ls : List (List Ent)) (a : Option Addr) (K cap : Nat) (l : List Ent) (w : World) (h : Shr w B v ls) (hL : IsL w a cap l) (hK : l.length = K) (h0 : 0 < K) (hlen : ls.length ≤ 9000) (hsum : ls.flatten.length + K ≤ 100000) (hs : ∀ d ∈ ls, Srt d) (hv : v ≤ 1000000) :
    Calls Try.prog 10 #[.pointer (some ⟨B, 0, none⟩), .slice a K cap] w fun r w' => r = .returned (.tuple #[]) ∧ Shr w' B (v + 1) (addS ls l) ∧ w.grownBy w' (some B) := by
  obtain ⟨n, hn⟩ : ∃ n, ls.length = n := ⟨_, rfl⟩
  have HN : Hid _ := hn
  have HK : Hid _ := hK
  have sn := snap_any B v n ls w h hn (by omega) (fun d hd => by have := mem_len hd; omega)
  have kz : ¬ (K : Int) = 0 := by omega
  have kz2 : ((K : Int) == 0) = false := by simp; omega
  have H : Aside (Shr w B v ls) := h
  have HL : Aside (IsL w a cap l) := hL
  have HSR : Aside (∀ d ∈ ls, Srt d) := hs
  have hBw : B < w.heap.size := h.lt
  have ea : addS ls l = laidS ls (sortE l) := by unfold addS; rw [if_neg (by omega)]
  have EA : Hid _ := ea
  have sl := sortE_len l
  have SL : Hid _ := sl
  obtain ⟨M, hM⟩ : ∃ M, lv (sortE l) = M := ⟨_, rfl⟩
  have HM : Hid _ := hM
  clear h hL hs hn hK ea sl hM
  go_enter Try.func10, Try.ntmps10
  go_wp2_with fail
  refine sn.mono ?_
  rintro r w1 ⟨a1, c1, rfl, l1, b1⟩
  obtain ⟨S, hS⟩ : ∃ S, w1.heap.size = S := ⟨_, rfl⟩
  obtain ⟨u, hu⟩ : ∃ u, w1.alloc (.cells #[.int .u64 v, .slice a1 n c1] 30) = u := ⟨_, rfl⟩
  have HU : Hid _ := hu
  have bu1 : Below w1.heap.size w1 u := by rw [← hu]; exact (Below.refl _ _).alloc (Nat.le_refl _) _
  have bu : Below w.heap.size w u := b1.trans (bu1.mono b1.size)
  have us : u.heap[S]? = some (.cells #[.int .u64 v, .slice a1 n c1] 30 (0, 0)) := by rw [← hu, ← hS]; exact heap_alloc_new w1 _
  have lu := l1.below bu1
  have hb0 : Below u.heap.size u u.drew := (Below.refl _ _).drew
  have LU : Aside (Bls u w.heap.size a1 n c1 ls) := lu
  have BU : Aside (Below w.heap.size w u) := bu
  have US : Aside (u.heap[S]? = some (.cells #[.int .u64 v, .slice a1 n c1] 30 (0, 0))) := us
  have apart : Aside (some S ≠ (Value.slice a1 n c1).ownBlock) := by
    obtain ⟨bs, _, h2, h3⟩ := l1
    have := own_lt (h3.row) (S := S) (by omega)
    exact this
  have OF : Aside (∀ W, Below u.heap.size u W → Calls Try.prog 28 #[.slice a K cap] W (MadeO W M K (sortE l))) := fun W hW => by
    have := of_any a cap l W (HL.out.below (BU.out.trans (hW.mono BU.out.size))) (by have := HK.out; omega)
    rw [HK.out] at this
    exact this.mono fun r w' hm => hm.o (by rw [SL.out]; exact HK.out) HM.out
  have KC : Aside (∀ W : World, W.heap[S]? = some (.cells #[.int .u64 v, .slice a1 n c1] 30 (0, 0)) → W.cell? ⟨S, 0, none⟩ = some (.int .u64 v) ∧ W.cell? ⟨S, 1, none⟩ = some (.slice a1 n c1)) := fun W hW => ⟨shr0 hW, shr1 hW⟩
  have e0 : u.drew.heap[S]? = some (.cells #[.int .u64 v, .slice a1 n c1] 30 (0, 0)) := us
  have us0 := us
  have nSB : some S ≠ some B := fun e => by injection e with e; have := b1.size; omega
  clear hu bu1 bu us lu l1 b1 sn
  go_wp2_with fail
  rw [HU.out]
  have mx := mixed
  go_region_held3 (fun W => W.cell? ⟨S, 0, none⟩ = some (.int .u64 v) ∧ W.cell? ⟨S, 1, none⟩ = some (.slice a1 n c1)) (first | with_reducible exact KC.out _ e0 | with_reducible exact KC.out _ e2 | with_reducible exact KC.out _ e3 | with_reducible exact KC.out _ e4)
    ((first
      | (go_at_call 21; (with_reducible refine Calls.mono sw ?_); rintro r w4 ⟨rfl, s4, g4⟩; have e4 : w4.heap[S]? = some (.cells #[.int .u64 v, .slice a1 n c1] 30 (0, 0)) := (g4.block S (lt_of_block e3) nSB).trans e3)
      | (go_at_call 30; (with_reducible refine Calls.mono ld ?_); rintro r w3 ⟨a3, n3, c3, rfl, l3, g3⟩; have e3 : w3.heap[S]? = some (.cells #[.int .u64 v, .slice a1 n c1] 30 (0, 0)) := (g3.block S (lt_of_block e2) apart.out).trans e2; have b3 : Below w.heap.size w w3 := BW2.out.trans (BR2.out w3 g3); have sw := swap_any B v ls (laidS ls (sortE l)) a3 n3 c3 w3 (H.out.below b3) hv l3.raw (laidS_srt _ _ HSR.out (sortE_srt l)) l3.len.1 (by have := l3.len.1; have := laidS_count ls (sortE l); have := HN.out; omega) (fun d hd => by have := mem_len hd; rw [laidS_len, SL.out, HK.out] at this; omega))
      | (go_at_call 28; (with_reducible refine Calls.mono (OF.out _ hb0) ?_); rintro r w2 ⟨a2, c2, rfl, o2, d2⟩; have b2 : Below u.heap.size u w2 := hb0.trans (d2.mono hb0.size); have e2 : w2.heap[S]? = some (.cells #[.int .u64 v, .slice a1 n c1] 30 (0, 0)) := (b2.block S (lt_of_block us0)).trans us0; have l2 := LU.out.below b2; have BW2 : Aside (Below w.heap.size w w2) := BU.out.trans (b2.mono BU.out.size); have BR2 : Aside (∀ W : World, w2.grownBy W (Value.slice a1 n c1).ownBlock → Below w.heap.size w2 W) := (fun W hg => (by obtain ⟨bs, _, h2, h3⟩ := l2; exact below_own h3.row hg BW2.out.size)); have ld := laid_any a1 n c1 w.heap.size ls (sortE l) a2 K M c2 w2 l2 (o2.low (Nat.le_trans BU.out.size hb0.size)) (by rw [SL.out]; exact HK.out) HM.out (by have := HN.out; omega) hsum BW2.out.size)))
  have S4 : Aside (Shr w4 B (v + 1) (addS ls l)) := by rw [EA.out]; exact s4
  have G4 : Aside (w.grownBy w4 (some B)) := grown_trans ⟨b3.os, b3.tape, b3.output, b3.size, fun k hk _ => b3.block k hk⟩ g4
  clear s4 g4 e4 e3 e2 sw ld b3 l3 g3 o2 d2 b2 l2
  go_wp2
  go_end0
  exact ⟨rfl, S4.out, G4.out⟩
end Go.Proofs.Ytboccihcomaaoaa
