/- shared: Len, First, All, Candidate. -/
import Derived.Test.YtboccihcomaaoaaShrS
namespace Go.Proofs.Ytboccihcomaaoaa
open Go.RowKit Go.Lib Go.Sort
set_option linter.unusedVariables false

theorem Shr.open {w : World} {B v : Nat} {ls : List (List Ent)} (h : Shr w B v ls) : ∃ (a : Option Addr) (cap : Nat), w.cell? ⟨B, 0, none⟩ = some (.int .u64 v) ∧ w.cell? ⟨B, 1, none⟩ = some (.slice a ls.length cap) ∧ ls.length ≤ cap ∧ cap ≤ maxLen ∧ B < w.heap.size ∧ IsBs w a ls := by
  obtain ⟨a, n, cap, hB, hr⟩ := h
  obtain ⟨h1, h2, h3⟩ := hr.len
  subst h1
  exact ⟨a, cap, shr0 hB, shr1 hB, h2, h3, lt_of_block hB, hr.isBs⟩

set_option maxHeartbeats 4000000 in
set_option maxRecDepth 100000 in
theorem slen_any (B v : Nat) (ls : List (List Ent)) (w : World) (h : Shr w B v ls) (hsum : ls.flatten.length ≤ 100000) :
    Calls Try.prog 14 #[.pointer (some ⟨B, 0, none⟩)] w fun r w' => r = .returned (.int .i64 ls.flatten.length) ∧ Below w.heap.size w w' := by
  obtain ⟨a, cap, _, cB, hc1, hc2, hB, IB⟩ := h.open
  unfold maxLen at hc2
  have H : Aside (IsBs w a ls) := IB
  obtain ⟨T, hT⟩ : ∃ T, ls.flatten.length = T := ⟨_, rfl⟩
  have HT : Hid _ := hT
  rw [hT] at hsum ⊢
  have hl : ls.length ≤ 9223372036854775807 := by omega
  clear IB h hT
  go_enter Try.func14, Try.ntmps14
  go_wp2
  go_loopg [3, 11] ls.length (fun kx s3 s11 wr => ∃ (k n : Nat), s11 = .int .i64 k ∧ s3 = .int .i64 n ∧ Hid ((ls.take k).flatten.length = n) ∧ n ≤ 100000 ∧ k ≤ ls.length ∧ ls.length - k ≤ kx ∧ Aside (Below w.heap.size w wr))
  case atStart => exact ⟨0, 0, rfl, rfl, rfl, by omega, by omega, by omega, Below.refl _ _⟩
  case round =>
    obtain ⟨k, z, rfl, rfl, HN, hz1, hk, hkx, D⟩ := hrel
    by_cases hlt : k < ls.length
    · have hz : (k : Int) < (ls.length : Int) := by omega
      obtain ⟨b, off, p, q, m, rfl, hb, c0, c1, L⟩ := (H.out.below D.out).elem k ls[k] (List.getElem?_eq_getElem hlt)
      have e1 := flat_take hlt
      have e2 := flat_take_le ls (k + 1)
      obtain ⟨d, hdk⟩ : ∃ d, ls[k] = d := ⟨_, rfl⟩
      rw [hdk] at e1 c1
      obtain ⟨n1, hn1⟩ : ∃ n, d.length = n := ⟨_, rfl⟩
      rw [hn1] at c1
      have e3 : (ls.take (k + 1)).flatten.length = z + n1 := by rw [e1, List.length_append, HN.out, hn1]
      have hz2 : z + n1 ≤ 100000 := by have := HT.out; omega
      have HN2 : Hid _ := e3
      have D2 : Aside (Below w.heap.size w (wr.alloc (.cells #[.int .i64 m, .slice p n1 q] 34))) := D.out.trans (((Below.refl _ _).alloc (Nat.le_refl _) _).mono D.out.size)
      clear e1 e2 e3 hdk L hn1
      go_wp2
      go_roundg (ls.length - (k + 1))
      case measure => omega
      case rel => exact ⟨k + 1, z + n1, by go_num, by go_num, HN2, hz2, by omega, Nat.le_refl _, D2⟩
    · have hz : ¬ (k : Int) < (ls.length : Int) := by omega
      have e : (ls.take k).flatten = ls.flatten := by rw [List.take_of_length_le (by omega)]
      rw [e] at HN
      go_wp2
      go_ret
      have e2 : T = z := by rw [← HT.out, HN.out]
      exact ⟨by rw [e2]; rfl, D.out⟩

set_option maxHeartbeats 400000 in
theorem sfirst_any (B v : Nat) (ls : List (List Ent)) (n : Int) (K : Nat) (w : World) (h : Shr w B v ls) (hsum : ls.flatten.length ≤ 100000) (hK : wth n ls.flatten.length = K) :
    Calls Try.prog 27 #[.pointer (some ⟨B, 0, none⟩), .int .i64 n] w (PivO w K ((sortE ls.flatten).take K)) := by
  obtain ⟨a, cap, _, cB, hc1, hc2, hB, IB⟩ := h.open
  have pv := pivotO_any a cap ls n w IB (by omega)
  rw [hK] at pv
  clear IB h hK
  go_enter Try.func27, Try.ntmps27
  go_wp2_with fail
  refine pv.mono ?_
  rintro r w1 ⟨x, y, rfl, o1, b1⟩
  have O1 : Aside (OwnE w1 w.heap.size (.slice x K y) ((sortE ls.flatten).take K)) := o1
  have B1 : Aside (Below w.heap.size w w1) := b1
  clear pv o1 b1
  go_wp2
  go_ret
  exact ⟨x, y, rfl, O1.out, B1.out⟩

set_option maxHeartbeats 400000 in
theorem sall_any (B v : Nat) (ls : List (List Ent)) (w : World) (h : Shr w B v ls) (hsum : ls.flatten.length ≤ 100000) :
    Calls Try.prog 12 #[.pointer (some ⟨B, 0, none⟩)] w (PivO w ls.flatten.length (sortE ls.flatten)) := by
  have ln := slen_any B v ls w h hsum
  obtain ⟨T, hT⟩ : ∃ T, ls.flatten.length = T := ⟨_, rfl⟩
  have fi : ∀ W, Below w.heap.size w W → Calls Try.prog 27 #[.pointer (some ⟨B, 0, none⟩), .int .i64 T] W (PivO W T (sortE ls.flatten)) := fun W hW => by
    have := sfirst_any B v ls T T W (h.below hW) hsum (by unfold wth; omega)
    rw [List.take_of_length_le (by rw [sortE_len]; omega)] at this
    exact this
  rw [hT] at ln ⊢
  clear h hT
  go_enter Try.func12, Try.ntmps12
  go_wp2_with fail
  refine ln.mono ?_
  rintro r w1 ⟨rfl, b1⟩
  have f1 := fi w1 b1
  have B1 : Aside (Below w.heap.size w w1) := b1
  clear ln b1 fi
  go_wp2_with fail
  refine f1.mono ?_
  rintro r w2 ⟨x, y, rfl, o2, b2⟩
  have O2 : Aside (OwnE w2 w.heap.size (.slice x T y) (sortE ls.flatten)) := o2.low B1.out.size
  have B2 : Aside (Below w.heap.size w w2) := B1.out.trans (b2.mono B1.out.size)
  clear f1 o2 b2
  go_wp2
  go_ret
  exact ⟨x, y, rfl, O2.out, B2.out⟩

/-- Of how many one is drawn. -/
def drawN (k : Int) (L : Nat) : Nat := min (min k.toNat L + 1) L
/-- What Candidate tells. -/
def CandIs (w : World) (x : Ent) (ok : Bool) (r : Ending) (w' : World) : Prop := r = .returned (.tuple #[.agg #[.int .u64 x.1, .int .i64 x.2], .bool ok]) ∧ Below w.heap.size w w'
theorem ent_set {w : World} {S : Nat} {x y : Value} {T : TypeId} (h : w.heap[S]? = some (.cells #[x, y] T (0, 0))) (x' y' : Value) : ((w.setCell ⟨S, 0, none⟩ x').setCell ⟨S, 1, none⟩ y').heap[S]? = some (.cells #[x', y'] T (0, 0)) := shr_set1 (shr_set0 h x') y'

set_option maxHeartbeats 1000000 in
theorem cand_any (B v : Nat) (ls : List (List Ent)) (k : Int) (dr : Nat) (w : World) (h : Shr w B v ls) (hsum : ls.flatten.length ≤ 100000) (hdr : dr < 18446744073709551616) (hp : 0 < ls.flatten.length) (x : Ent) (hx : (sortE ls.flatten)[dr % drawN k ls.flatten.length]? = some x) :
    Calls Try.prog 24 #[.pointer (some ⟨B, 0, none⟩), .int .i64 k, .int .u64 dr] w (CandIs w x true) := by
  obtain ⟨S, hS⟩ : ∃ S, w.heap.size = S := ⟨_, rfl⟩
  obtain ⟨u, hu⟩ : ∃ u, w.alloc (.cells #[.int .u64 0, .int .i64 0] 37) = u := ⟨_, rfl⟩
  have HU : Hid _ := hu
  have bu : Below w.heap.size w u := by rw [← hu]; exact (Below.refl _ _).alloc (Nat.le_refl _) _
  have us : u.heap.size = S + 1 := by rw [← hu, ← hS]; simp
  have uS : u.heap[S]? = some (.cells #[.int .u64 0, .int .i64 0] 37 (0, 0)) := by rw [← hu, ← hS]; exact heap_alloc_new w _
  have ln := slen_any B v ls u (h.below bu) hsum
  have FI : Aside (∀ (n : Int) (K : Nat) (W : World), Below u.heap.size u W → wth n ls.flatten.length = K → Calls Try.prog 27 #[.pointer (some ⟨B, 0, none⟩), .int .i64 n] W (PivO W K ((sortE ls.flatten).take K))) := fun n K W hW hK => sfirst_any B v ls n K W (h.below (bu.trans (hW.mono bu.size))) hsum hK
  have sl := sortE_len ls.flatten
  obtain ⟨s, hs⟩ : ∃ s, sortE ls.flatten = s := ⟨_, rfl⟩
  obtain ⟨T, hT⟩ : ∃ T, ls.flatten.length = T := ⟨_, rfl⟩
  rw [hs, hT] at FI hx
  rw [hs, hT] at sl
  rw [hT] at ln hsum hp
  obtain ⟨J, hJ⟩ : ∃ J, drawN k T = J := ⟨_, rfl⟩
  have hJ2 : wth (min (max k 0) (T : Int) + 1) T = J := by rw [← hJ]; unfold drawN wth; omega
  have fi : ∀ W, Below u.heap.size u W → Calls Try.prog 27 #[.pointer (some ⟨B, 0, none⟩), .int .i64 (min (max k 0) (T : Int) + 1)] W (PivO W J (s.take J)) := fun W hW => FI.out (min (max k 0) (T : Int) + 1) J W hW hJ2
  have j0 : 0 < J := by rw [← hJ]; unfold drawN; omega
  have jT : J ≤ T := by rw [← hJ]; unfold drawN; omega
  rw [hJ] at hx
  have dJ : dr % J < J := Nat.mod_lt _ j0
  obtain ⟨R, hR⟩ : ∃ R, dr % J = R := ⟨_, rfl⟩
  rw [hR] at hx dJ
  have hx2 : (s.take J)[R]? = some x := by rw [List.getElem?_take, if_pos dJ]; exact hx
  have w1 : IntKind.u64.wrap (J : Int) = (J : Int) := by rw [IntKind.wrap_u64, Int.emod_eq_of_lt (by omega) (by omega)]
  have w2 : Int.emod (dr : Int) (J : Int) = (R : Int) := by rw [← hR]; rfl
  have w3 : Int.tmod (dr : Int) (J : Int) = (R : Int) := by rw [← hR]; rfl
  have w4 : (dr : Int) % (J : Int) = (R : Int) := by rw [← hR]; rfl
  have w5 : IntKind.u64.wrap (R : Int) = (R : Int) := by rw [IntKind.wrap_u64, Int.emod_eq_of_lt (by omega) (by omega)]
  have w6 : ¬ (J : Int) = 0 := by omega
  have w7 : ((J : Int) == 0) = false := by simp; omega
  have w8 : (R : Int) < (J : Int) := by omega
  have w9 : IntKind.i64.wrap (min (max k 0) (T : Int) + 1) = (min (max k 0) (T : Int) + 1) := by rw [IntKind.wrap_i64]; omega
  have US : Aside (u.heap[S]? = some (.cells #[.int .u64 0, .int .i64 0] 37 (0, 0))) := uS
  have BU : Aside (Below w.heap.size w u) := bu
  have FI2 : Aside (∀ W, Below u.heap.size u W → Calls Try.prog 27 #[.pointer (some ⟨B, 0, none⟩), .int .i64 (min (max k 0) (T : Int) + 1)] W (PivO W J (s.take J))) := fi
  have HX : Hid _ := hx2
  clear fi FI hx hx2 h hu bu uS hs hT hR hJ hJ2 sl
  go_enter Try.func24, Try.ntmps24
  go_wp2_with fail
  rw [HU.out]
  refine ln.mono ?_
  rintro r w1_ ⟨rfl, b1⟩
  have f1 := FI2.out w1_ b1
  have B1 : Aside (Below u.heap.size u w1_) := b1
  clear ln b1
  go_wp2_with fail
  with_reducible refine Calls.mono f1 ?_
  rintro r w2_ ⟨fa, fc, rfl, o2, b2⟩
  have b2u : Below u.heap.size u w2_ := B1.out.trans (b2.mono B1.out.size)
  obtain ⟨b, off, rfl, hb, c0, c1⟩ := o2.is.elem R x HX.out
  have s2 : w2_.heap[S]? = some (.cells #[.int .u64 0, .int .i64 0] 37 (0, 0)) := (b2u.block S (by omega)).trans US.out
  have e0 := shr0 s2
  have e1 := shr1 s2
  have f0 := shrf s2 0
  have f1' := shrf s2 1
  have s3 := ent_set s2 (.int .u64 x.1) (.int .i64 x.2)
  have g3 : w2_.grownBy ((w2_.setCell ⟨S, 0, none⟩ (.int .u64 x.1)).setCell ⟨S, 1, none⟩ (.int .i64 x.2)) (some S) := grown_trans (grown_set w2_ S 0 _) (grown_set _ S 1 _)
  have b3 : Below w.heap.size w ((w2_.setCell ⟨S, 0, none⟩ (.int .u64 x.1)).setCell ⟨S, 1, none⟩ (.int .i64 x.2)) := (BU.out.trans (b2u.mono BU.out.size)).trans (below_of_grown g3 (by omega) (by have := b2u.size; omega))
  have y0 := shr0 s3
  have y1 := shr1 s3
  have B3 : Aside (Below w.heap.size w ((w2_.setCell ⟨S, 0, none⟩ (.int .u64 x.1)).setCell ⟨S, 1, none⟩ (.int .i64 x.2))) := b3
  clear o2 b2 b2u f1 s2 s3 g3 b3 B1 FI2 HX US BU
  go_wp2
  refine bodyPost_ret (v := .tuple #[.agg #[.int .u64 x.1, .int .i64 x.2], .bool true]) (by simp [results, Try.results24, go_sem, y0, y1]) rfl ⟨rfl, B3.out⟩

set_option maxHeartbeats 1000000 in
theorem cand_none (B v : Nat) (ls : List (List Ent)) (k : Int) (dr : Nat) (w : World) (h : Shr w B v ls) (hp : ls.flatten.length = 0) :
    Calls Try.prog 24 #[.pointer (some ⟨B, 0, none⟩), .int .i64 k, .int .u64 dr] w (CandIs w (0, 0) false) := by
  obtain ⟨S, hS⟩ : ∃ S, w.heap.size = S := ⟨_, rfl⟩
  obtain ⟨u, hu⟩ : ∃ u, w.alloc (.cells #[.int .u64 0, .int .i64 0] 37) = u := ⟨_, rfl⟩
  have HU : Hid _ := hu
  have bu : Below w.heap.size w u := by rw [← hu]; exact (Below.refl _ _).alloc (Nat.le_refl _) _
  have us : u.heap.size = S + 1 := by rw [← hu, ← hS]; simp
  have uS : u.heap[S]? = some (.cells #[.int .u64 0, .int .i64 0] 37 (0, 0)) := by rw [← hu, ← hS]; exact heap_alloc_new w _
  have ln := slen_any B v ls u (h.below bu) (by omega)
  obtain ⟨T, hT⟩ : ∃ T, ls.flatten.length = T := ⟨_, rfl⟩
  rw [hT] at ln hp
  have fi : ∀ W, Below u.heap.size u W → Calls Try.prog 27 #[.pointer (some ⟨B, 0, none⟩), .int .i64 (min (max k 0) (T : Int) + 1)] W (PivO W 0 ((sortE ls.flatten).take 0)) := fun W hW => sfirst_any B v ls (min (max k 0) (T : Int) + 1) 0 W (h.below (bu.trans (hW.mono bu.size))) (by omega) (by rw [hT]; unfold wth; omega)
  have w9 : IntKind.i64.wrap (min (max k 0) (T : Int) + 1) = (min (max k 0) (T : Int) + 1) := by rw [IntKind.wrap_i64]; omega
  have US : Aside (u.heap[S]? = some (.cells #[.int .u64 0, .int .i64 0] 37 (0, 0))) := uS
  have BU : Aside (Below w.heap.size w u) := bu
  have FI2 : Aside (∀ W, Below u.heap.size u W → Calls Try.prog 27 #[.pointer (some ⟨B, 0, none⟩), .int .i64 (min (max k 0) (T : Int) + 1)] W (PivO W 0 ((sortE ls.flatten).take 0))) := fi
  have HP : Hid _ := hp
  have hT1 : (T : Int) ≤ 5 := by omega
  have hT0 : (0 : Int) ≤ (T : Int) := by omega
  clear fi h hu bu uS hp hT
  go_enter Try.func24, Try.ntmps24
  go_wp2_with fail
  rw [HU.out]
  refine ln.mono ?_
  rintro r w1_ ⟨rfl, b1⟩
  have f1 := FI2.out w1_ b1
  have B1 : Aside (Below u.heap.size u w1_) := b1
  clear ln b1
  go_wp2_with fail
  with_reducible refine Calls.mono f1 ?_
  rintro r w2_ ⟨fa, fc, rfl, o2, b2⟩
  have b2u : Below u.heap.size u w2_ := B1.out.trans (b2.mono B1.out.size)
  have s2 : w2_.heap[S]? = some (.cells #[.int .u64 0, .int .i64 0] 37 (0, 0)) := (b2u.block S (by omega)).trans US.out
  have e0 := shr0 s2
  have e1 := shr1 s2
  have f0 := shrf s2 0
  have f1' := shrf s2 1
  have s3 := ent_set s2 (.int .u64 0) (.int .i64 0)
  have g3 : w2_.grownBy ((w2_.setCell ⟨S, 0, none⟩ (.int .u64 0)).setCell ⟨S, 1, none⟩ (.int .i64 0)) (some S) := grown_trans (grown_set w2_ S 0 _) (grown_set _ S 1 _)
  have b3 : Below w.heap.size w ((w2_.setCell ⟨S, 0, none⟩ (.int .u64 0)).setCell ⟨S, 1, none⟩ (.int .i64 0)) := (BU.out.trans (b2u.mono BU.out.size)).trans (below_of_grown g3 (by omega) (by have := b2u.size; omega))
  have y0 := shr0 s3
  have y1 := shr1 s3
  have B3 : Aside (Below w.heap.size w ((w2_.setCell ⟨S, 0, none⟩ (.int .u64 0)).setCell ⟨S, 1, none⟩ (.int .i64 0))) := b3
  clear o2 b2 b2u f1 s2 s3 g3 b3 B1 FI2 US BU
  go_wp2
  refine bodyPost_ret (v := .tuple #[.agg #[.int .u64 0, .int .i64 0], .bool false]) (by simp [results, Try.results24, go_sem, y0, y1]) rfl ⟨rfl, B3.out⟩

theorem drawN_lt {k : Int} {L : Nat} (h : 0 < L) (dr : Nat) : dr % drawN k L < L := by
  have h1 : 0 < drawN k L := by unfold drawN; omega
  have h2 := Nat.mod_lt dr h1
  have h3 : drawN k L ≤ L := by unfold drawN; omega
  omega
end Go.Proofs.Ytboccihcomaaoaa
