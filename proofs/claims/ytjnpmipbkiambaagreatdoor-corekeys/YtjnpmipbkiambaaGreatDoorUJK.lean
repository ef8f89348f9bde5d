import Derived.Test.YtjnpmipbkiambaaGreatDoorUJJ
namespace Go.Proofs.YtjnpmipbkiambaaGreatDoor.Qu
set_option maxRecDepth 100000
open Go.RowKit Go.Lib Go.Sort
set_option linter.unusedVariables false
def Shr (w : World) (B v : Nat) (ls : List (List Ent)) : Prop :=
 ∃ (a : Option Addr) (n cap : Nat), w.heap[B]? = some (.cells #[.int .u64 v, .slice a n cap] 250 (0, 0)) ∧ Bls w (B + 1) a n cap ls
theorem Shr.below {w w' : World} {B v : Nat} {ls : List (List Ent)} (h : Shr w B v ls) (hw : Below w.heap.size w w') : Shr w' B v ls := by
 obtain ⟨a, n, cap, h1, h2⟩ := h
 exact ⟨a, n, cap, (hw.block B (lt_of_block h1)).trans h1, h2.below hw⟩
theorem Shr.lt {w : World} {B v : Nat} {ls : List (List Ent)} (h : Shr w B v ls) : B < w.heap.size := by
 obtain ⟨a, n, cap, h1, h2⟩ := h
 exact lt_of_block h1
def ShrA (w : World) (B v : Nat) (ls : List (List Ent)) (a : Option Addr) : Prop :=
 ∃ (n cap : Nat), w.heap[B]? = some (.cells #[.int .u64 v, .slice a n cap] 250 (0, 0)) ∧ Bls w (B + 1) a n cap ls
theorem ShrA.s {w : World} {B v : Nat} {ls : List (List Ent)} {a : Option Addr} (h : ShrA w B v ls a) : Shr w B v ls := by
 obtain ⟨n, cap, h1, h2⟩ := h
 exact ⟨a, n, cap, h1, h2⟩
theorem ShrA.below {w w' : World} {B v : Nat} {ls : List (List Ent)} {a : Option Addr} (h : ShrA w B v ls a) (hw : Below w.heap.size w w') : ShrA w' B v ls a := by
 obtain ⟨n, cap, h1, h2⟩ := h
 exact ⟨n, cap, (hw.block B (lt_of_block h1)).trans h1, h2.below hw⟩
theorem Bls.new {w : World} {base n cap : Nat} {a : Option Addr} {ls : List (List Ent)} (h : Bls w base a n cap ls) (x : Addr) (hx : a = some x) : base ≤ x.block := by
 obtain ⟨bs, _, _, h3⟩ := h
 rcases h3.row.2 with ⟨e, _⟩ | ⟨g, c, cur, e, hb, _⟩
 ·injection e with e1; rw [hx] at e1; cases e1
 ·injection e with e1; rw [hx] at e1; injection e1 with e1; rw [e1]; exact hb
def ShrN (c : Nat) (w : World) (B v : Nat) (ls : List (List Ent)) : Prop := ∃ a, ShrA w B v ls a ∧ ∀ x : Addr, a = some x → c ≤ x.block
theorem ShrN.mono {c c' : Nat} {w : World} {B v : Nat} {ls : List (List Ent)} (h : ShrN c w B v ls) (hc : c' ≤ c) : ShrN c' w B v ls := by
 obtain ⟨a, h1, h2⟩ := h
 exact ⟨a, h1, fun x hx => Nat.le_trans hc (h2 x hx)⟩
theorem shr0 {w : World} {B : Nat} {x y : Value} {T : TypeId} (h : w.heap[B]? = some (.cells #[x, y] T (0, 0))) : w.cell? ⟨B, 0, none⟩ = some x := by rw [cell_of_row _ _ _ _ _ _ h]; rfl
theorem shr1 {w : World} {B : Nat} {x y : Value} {T : TypeId} (h : w.heap[B]? = some (.cells #[x, y] T (0, 0))) : w.cell? ⟨B, 1, none⟩ = some y := by rw [cell_of_row _ _ _ _ _ _ h]; rfl
theorem shrf {w : World} {B : Nat} {x y : Value} {T : TypeId} (h : w.heap[B]? = some (.cells #[x, y] T (0, 0))) (o : Nat) : w.frozen? ⟨B, o, none⟩ = false := by simp [World.frozen?, h]
theorem shr_set1 {w : World} {B : Nat} {x y : Value} {T : TypeId} (h : w.heap[B]? = some (.cells #[x, y] T (0, 0))) (u : Value) : (w.setCell ⟨B, 1, none⟩ u).heap[B]? = some (.cells #[x, u] T (0, 0)) := by
 rw [setCell_eq_setRow w B 1 _ T (0, 0) u h]
 exact setRow_heap w B _ _ T (0, 0) h
theorem shr_set0 {w : World} {B : Nat} {x y : Value} {T : TypeId} (h : w.heap[B]? = some (.cells #[x, y] T (0, 0))) (u : Value) : (w.setCell ⟨B, 0, none⟩ u).heap[B]? = some (.cells #[u, y] T (0, 0)) := by
 rw [setCell_eq_setRow w B 0 _ T (0, 0) u h]
 exact setRow_heap w B _ _ T (0, 0) h
theorem two_set_other {w : World} {S B : Nat} (h : B ≠ S) (x y : Value) (o : Nat) : ((w.setCell ⟨S, 0, none⟩ x).setCell ⟨S, 1, none⟩ y).cell? ⟨B, o, none⟩ = w.cell? ⟨B, o, none⟩ :=
 World.cell?_of_block (a := ⟨B, o, none⟩) ((Below.heap_setCell (w.setCell ⟨S, 0, none⟩ x) ⟨S, 1, none⟩ y B h).trans (Below.heap_setCell w ⟨S, 0, none⟩ x B h))
set_option maxHeartbeats 400000 in
theorem snew_any (w : World) : Calls Tryz.prog 100 #[] w fun r w' => r = .returned (.pointer (some ⟨w.heap.size, 0, none⟩)) ∧ w' = w.alloc (.cells #[.int .u64 0, .slice none 0 0] 250) := by
 go_enter Tryz.func100, Tryz.ntmps100
 go_wp2
 go_ret
 exact ⟨rfl, rfl⟩
def SnapIs (w : World) (v n : Nat) (ls : List (List Ent)) (r : Ending) (w' : World) : Prop := ∃ a cap, r = .returned (.agg #[.int .u64 v, .slice a n cap]) ∧ Bls w' w.heap.size a n cap ls ∧ Below w.heap.size w w'
set_option maxHeartbeats 2000000 in
set_option maxRecDepth 100000 in
theorem snap_any (B v n : Nat) (ls : List (List Ent)) (w : World) (h : Shr w B v ls) (hn : ls.length = n) (hl : n ≤ 100000) (hd : ∀ d ∈ ls, d.length ≤ 1000000) :
  Calls Tryz.prog 241 #[.pointer (some ⟨B, 0, none⟩)] w (SnapIs w v n ls) := by
 obtain ⟨a, n', cap, hB, hr⟩ := h
 obtain ⟨hn2, hc1, hc2⟩ := hr.len
 obtain rfl : n' = n := by omega
 obtain ⟨S, hS⟩ : ∃ S, w.heap.size = S := ⟨_, rfl⟩
 obtain ⟨u, hu⟩ : ∃ u, w.alloc (.cells #[.int .u64 0, .slice none 0 0] 317) = u := ⟨_, rfl⟩
 have bu : Below w.heap.size w u := by rw [← hu]; exact (Below.refl _ _).alloc (Nat.le_refl _) _
 have HU : Hid _ := hu
 have us : u.heap.size = S + 1 := by rw [← hu, ← hS]; simp
 have hBs : B < S := by rw [← hS]; exact lt_of_block hB
 have hBu := (bu.block B (lt_of_block hB)).trans hB
 have uS : u.heap[S]? = some (.cells #[.int .u64 0, .slice none 0 0] 317 (0, 0)) := by rw [← hu, ← hS]; exact heap_alloc_new w _
 have cp : ∀ W, Below u.heap.size u W → Calls Tryz.prog 301 #[.slice a n' cap] W (CopiedB W n' ls) := fun W hW => copied_any a n' cap ls W (hr.raw.below (bu.trans (hW.mono bu.size))) hn hl hd
 have CP : Aside (∀ W, Below u.heap.size u W → Calls Tryz.prog 301 #[.slice a n' cap] W (CopiedB W n' ls)) := cp
 have KC : Aside (∀ W, Below u.heap.size u W → W.cell? ⟨B, 0, none⟩ = some (.int .u64 v) ∧ W.cell? ⟨B, 1, none⟩ = some (.slice a n' cap) ∧ W.cell? ⟨S, 0, none⟩ = some (.int .u64 0) ∧ W.cell? ⟨S, 1, none⟩ = some (.slice none 0 0) ∧ W.frozen? ⟨S, 0, none⟩ = false ∧ W.frozen? ⟨S, 1, none⟩ = false) := fun W hW => by
  have h1 := (hW.block B (by omega)).trans hBu
  have h2 := (hW.block S (by omega)).trans uS
  exact ⟨shr0 h1, shr1 h1, shr0 h2, shr1 h2, shrf h2 0, shrf h2 1⟩
 have hb0 : Below u.heap.size u u := Below.refl _ _
 have hb1 : Below u.heap.size u u.drew := hb0.drew
 have BU : Aside (Below w.heap.size w u) := bu
 have US : Aside (u.heap[S]? = some (.cells #[.int .u64 0, .slice none 0 0] 317 (0, 0))) := uS
 have nBS : ¬ B = S := by omega
 have mx := mixed
 clear hr hB hu bu cp uS hBu
 go_enter Tryz.func241, Tryz.ntmps241
 go_wp2_with fail
 rw [HU.out]
 obtain ⟨j0, j1, i0, i1, f0, f1⟩ := KC.out u hb0
 go_region_held3 (fun v' => v'.cell? ⟨B, 0, none⟩ = some (.int .u64 v) ∧ v'.cell? ⟨B, 1, none⟩ = some (.slice a n' cap)) (first | exact ⟨(KC.out _ hb0).1, (KC.out _ hb0).2.1⟩ | exact ⟨(KC.out _ hb1).1, (KC.out _ hb1).2.1⟩ | exact ⟨(KC.out _ hb2).1, (KC.out _ hb2).2.1⟩ | exact ⟨(two_set_other nBS _ _ _).trans (KC.out _ hb2).1, (two_set_other nBS _ _ _).trans (KC.out _ hb2).2.1⟩)
  ((go_at_call 301; (with_reducible refine Calls.mono (CP.out _ hb1) ?_); rintro r w2 ⟨x, y, rfl, o2, d2⟩; have hb2 : Below u.heap.size u w2 := hb1.trans (d2.mono hb1.size); obtain ⟨q0, q1, q2, q3, q4, q5⟩ := KC.out _ hb2))
 have s2 : w2.heap[S]? = some (.cells #[.int .u64 0, .slice none 0 0] 317 (0, 0)) := (hb2.block S (by omega)).trans US.out
 have s3 := shr_set1 (shr_set0 s2 (.int .u64 v)) (.slice x n' y)
 have g3 : w2.grownBy ((w2.setCell ⟨S, 0, none⟩ (.int .u64 v)).setCell ⟨S, 1, none⟩ (.slice x n' y)) (some S) := grown_trans (grown_set w2 S 0 _) (grown_set _ S 1 _)
 have o3 := (o2.grown g3 (by show S < u.heap.size; omega)).low (b' := w.heap.size) (by show _ ≤ u.heap.size; omega)
 have b3 : Below w.heap.size w ((w2.setCell ⟨S, 0, none⟩ (.int .u64 v)).setCell ⟨S, 1, none⟩ (.slice x n' y)) := (BU.out.trans (hb2.mono BU.out.size)).trans (below_of_grown g3 (by omega) (by have := hb2.size; omega))
 obtain ⟨W, hW⟩ : ∃ W, (w2.setCell ⟨S, 0, none⟩ (.int .u64 v)).setCell ⟨S, 1, none⟩ (.slice x n' y) = W := ⟨_, rfl⟩
 rw [hW] at s3 o3 b3
 have O3 : Aside (Bls W w.heap.size x n' y ls) := o3
 have B3 : Aside (Below w.heap.size w W) := b3
 have HW : Hid _ := hW
 have e0 := shr0 s3
 have e1 := shr1 s3
 clear o3 b3 s2 s3 g3 hW q0 q1 q2 q3 q4 q5 o2 d2 hb2 hb0 hb1 i0 i1 f0 f1 j0 j1
 rw [HW.out]
 go_wp2
 refine bodyPost_ret (v := .agg #[.int .u64 v, .slice x n' y]) (by simp [results, Tryz.results241, go_sem, e0, e1]) rfl ⟨x, y, rfl, O3.out, B3.out⟩
theorem lvs_ok {ls : List (List Ent)} (h : ∀ d ∈ ls, Srt d) : (lvs ls).all okX = true := by
 induction ls with
 | nil => rfl
 | cons d r ih =>
  show (okX ((lv d : Int), d) && (lvs r).all okX) = true
  rw [Bool.and_eq_true]
  refine ⟨?_, ih fun x hx => h x (by simp [hx])⟩
  unfold okX
  rw [Bool.and_eq_true, decide_eq_true_iff, srtB_iff]
  exact ⟨rfl, h d (by simp)⟩
set_option maxHeartbeats 1000000 in
theorem swap_any (B v : Nat) (ls ks : List (List Ent)) (a : Option Addr) (n cap : Nat) (w : World) (h : Shr w B v ls) (hv : v ≤ 1000000) (hx : RawB w a (lvs ks)) (hs : ∀ d ∈ ks, Srt d) (hn : ks.length = n) (hl : n ≤ 100000) (hd : ∀ d ∈ ks, d.length ≤ 1000000) :
  Calls Tryz.prog 247 #[.pointer (some ⟨B, 0, none⟩), .int .u64 v, .slice a n cap] w fun r w' => r = .returned (.bool true) ∧ ShrN w.heap.size w' B (v + 1) ks ∧ w.grownBy w' (some B) := by
 have ok := allOk_any a cap (lvs ks) w hx (by rw [lvs_len]; omega) (fun x hx => by
  obtain ⟨d, hd', rfl⟩ := List.mem_map.1 hx
  exact hd d hd')
 rw [lvs_len, hn, lvs_ok hs] at ok
 obtain ⟨a0, n0, cap0, hB, hr⟩ := h
 have y0 := shr0 hB
 have cp : ∀ W, Below w.heap.size w W → Calls Tryz.prog 301 #[.slice a n cap] W (CopiedB W n ks) := fun W hW => copied_any a n cap ks W (hx.below hW) hn hl hd
 have HB : Aside (w.heap[B]? = some (.cells #[.int .u64 v, .slice a0 n0 cap0] 250 (0, 0))) := hB
 have CP : Aside (∀ W, Below w.heap.size w W → Calls Tryz.prog 301 #[.slice a n cap] W (CopiedB W n ks)) := cp
 have wv : IntKind.u64.wrap ((v : Int) + 1) = (v : Int) + 1 := by rw [IntKind.wrap_u64, Int.emod_eq_of_lt (by omega) (by omega)]
 clear hr hB hx hd hs hn cp
 go_enter Tryz.func247, Tryz.ntmps247
 go_wp2_with fail
 refine ok.mono ?_
 rintro r w1 ⟨rfl, b1⟩
 have B1 : Aside (Below w.heap.size w w1) := b1
 have cc := CP.out w1 b1
 clear ok b1
 go_wp2_with fail
 refine cc.mono ?_
 rintro r w2 ⟨x, y, rfl, o2, d2⟩
 have b2 : Below w.heap.size w w2 := B1.out.trans (d2.mono B1.out.size)
 have h2 := (b2.block B (lt_of_block HB.out)).trans HB.out
 have k0 := shr0 h2
 have k1 := shr1 h2
 have f0 := shrf h2 0
 have f1 := shrf h2 1
 have h3 := shr_set1 h2 (.slice x n y)
 have k30 := shr0 h3
 have f30 := shrf h3 0
 have h4 := shr_set0 h3 (.int .u64 ((v : Int) + 1))
 have g2 : w2.grownBy ((w2.setCell ⟨B, 1, none⟩ (.slice x n y)).setCell ⟨B, 0, none⟩ (.int .u64 ((v : Int) + 1))) (some B) := grown_trans (grown_set w2 B 1 _) (grown_set _ B 0 _)
 have BS : B < w1.heap.size := Nat.lt_of_lt_of_le (lt_of_block HB.out) B1.out.size
 have FIN : Aside (ShrN w.heap.size ((w2.setCell ⟨B, 1, none⟩ (.slice x n y)).setCell ⟨B, 0, none⟩ (.int .u64 ((v : Int) + 1))) B (v + 1) ks ∧ w.grownBy ((w2.setCell ⟨B, 1, none⟩ (.slice x n y)).setCell ⟨B, 0, none⟩ (.int .u64 ((v : Int) + 1))) (some B)) :=
  ⟨⟨x, ⟨n, y, h4, (o2.grown g2 BS).low (by omega)⟩, fun z hz => Nat.le_trans B1.out.size (o2.new z hz)⟩, grown_trans (grown_of_below b2 _) g2⟩
 clear h2 h3 h4 g2 o2 d2 b2 cc
 go_wp2
 go_ret
 exact ⟨rfl, FIN.out.1, FIN.out.2⟩
end Go.Proofs.YtjnpmipbkiambaaGreatDoor.Qu
namespace Go.Proofs.YtjnpmipbkiambaaGreatDoor.Qu
set_option maxRecDepth 100000
open Go.RowKit Go.Lib Go.Sort
set_option linter.unusedVariables false
theorem Shr.open {w : World} {B v : Nat} {ls : List (List Ent)} (h : Shr w B v ls) : ∃ (a : Option Addr) (cap : Nat), w.cell? ⟨B, 0, none⟩ = some (.int .u64 v) ∧ w.cell? ⟨B, 1, none⟩ = some (.slice a ls.length cap) ∧ ls.length ≤ cap ∧ cap ≤ maxLen ∧ B < w.heap.size ∧ IsBs w a ls := by
 obtain ⟨a, n, cap, hB, hr⟩ := h
 obtain ⟨h1, h2, h3⟩ := hr.len
 subst h1
 exact ⟨a, cap, shr0 hB, shr1 hB, h2, h3, lt_of_block hB, hr.isBs⟩
set_option maxHeartbeats 4000000 in
set_option maxRecDepth 100000 in
theorem slen_any (B v : Nat) (ls : List (List Ent)) (w : World) (h : Shr w B v ls) (hsum : ls.flatten.length ≤ 100000) :
  Calls Tryz.prog 187 #[.pointer (some ⟨B, 0, none⟩)] w fun r w' => r = .returned (.int .i64 ls.flatten.length) ∧ Below w.heap.size w w' := by
 obtain ⟨a, cap, _, cB, hc1, hc2, hB, IB⟩ := h.open
 unfold maxLen at hc2
 have H : Aside (IsBs w a ls) := IB
 obtain ⟨T, hT⟩ : ∃ T, ls.flatten.length = T := ⟨_, rfl⟩
 have HT : Hid _ := hT
 rw [hT] at hsum ⊢
 have hl : ls.length ≤ 9223372036854775807 := by omega
 clear IB h hT
 go_enter Tryz.func187, Tryz.ntmps187
 go_wp2
 go_loopg [3, 11] ls.length (fun kx s3 s11 wr => ∃ (k n : Nat), s11 = .int .i64 k ∧ s3 = .int .i64 n ∧ Hid ((ls.take k).flatten.length = n) ∧ n ≤ 100000 ∧ k ≤ ls.length ∧ ls.length - k ≤ kx ∧ Aside (Below w.heap.size w wr))
 case atStart => exact ⟨0, 0, rfl, rfl, rfl, by omega, by omega, by omega, Below.refl _ _⟩
 case round =>
  obtain ⟨k, z, rfl, rfl, HN, hz1, hk, hkx, D⟩ := hrel
  by_cases hlt : k < ls.length
  ·have hz : (k : Int) < (ls.length : Int) := by omega
   obtain ⟨b, off, p, q, m, rfl, hb, c0, c1, L⟩ := (H.out.below D.out).elem k ls[k] (List.getElem?_eq_getElem hlt)
   have e1 := flat_take hlt
   have e2 := flat_take_le ls (k + 1)
   obtain ⟨d, hdk⟩ : ∃ d, ls[k] = d := ⟨_, rfl⟩
   rw [hdk] at e1 c1
   obtain ⟨n1, hn1⟩ : ∃ n, d.length = n := ⟨_, rfl⟩
   rw [hn1] at c1
   have e3 : (ls.take (k + 1)).flatten.length = z + n1 := by rw [e1, List.length_append, HN.out, hn1]
   have hz2 : z + n1 ≤ 100000 := by have := HT.out; omega
   have HN2 : Hid _ := e3
   have D2 : Aside (Below w.heap.size w (wr.alloc (.cells #[.int .i64 m, .slice p n1 q] 278))) := D.out.trans (((Below.refl _ _).alloc (Nat.le_refl _) _).mono D.out.size)
   clear e1 e2 e3 hdk L hn1
   go_wp2
   go_roundg (ls.length - (k + 1))
   case measure => omega
   case rel => exact ⟨k + 1, z + n1, by go_num, by go_num, HN2, hz2, by omega, Nat.le_refl _, D2⟩
  ·have hz : ¬ (k : Int) < (ls.length : Int) := by omega
   have e : (ls.take k).flatten = ls.flatten := by rw [List.take_of_length_le (by omega)]
   rw [e] at HN
   go_wp2
   go_ret
   have e2 : T = z := by rw [← HT.out, HN.out]
   exact ⟨by rw [e2]; rfl, D.out⟩
set_option maxHeartbeats 400000 in
theorem sfirst_any (B v : Nat) (ls : List (List Ent)) (n : Int) (K : Nat) (w : World) (h : Shr w B v ls) (hsum : ls.flatten.length ≤ 100000) (hK : wth n ls.flatten.length = K) :
  Calls Tryz.prog 186 #[.pointer (some ⟨B, 0, none⟩), .int .i64 n] w (PivO w K ((sortE ls.flatten).take K)) := by
 obtain ⟨a, cap, _, cB, hc1, hc2, hB, IB⟩ := h.open
 have pv := pivotO_any a cap ls n w IB (by omega)
 rw [hK] at pv
 clear IB h hK
 go_enter Tryz.func186, Tryz.ntmps186
 go_wp2_with fail
 refine pv.mono ?_
 rintro r w1 ⟨x, y, rfl, o1, b1⟩
 have O1 : Aside (OwnE w1 w.heap.size (.slice x K y) ((sortE ls.flatten).take K)) := o1
 have B1 : Aside (Below w.heap.size w w1) := b1
 clear pv o1 b1
 go_wp2
 go_ret
 exact ⟨x, y, rfl, O1.out, B1.out⟩
set_option maxHeartbeats 400000 in
theorem sall_any (B v : Nat) (ls : List (List Ent)) (w : World) (h : Shr w B v ls) (hsum : ls.flatten.length ≤ 100000) :
  Calls Tryz.prog 121 #[.pointer (some ⟨B, 0, none⟩)] w (PivO w ls.flatten.length (sortE ls.flatten)) := by
 have ln := slen_any B v ls w h hsum
 obtain ⟨T, hT⟩ : ∃ T, ls.flatten.length = T := ⟨_, rfl⟩
 have fi : ∀ W, Below w.heap.size w W → Calls Tryz.prog 186 #[.pointer (some ⟨B, 0, none⟩), .int .i64 T] W (PivO W T (sortE ls.flatten)) := fun W hW => by
  have := sfirst_any B v ls T T W (h.below hW) hsum (by unfold wth; omega)
  rw [List.take_of_length_le (by rw [sortE_len]; omega)] at this
  exact this
 rw [hT] at ln ⊢
 clear h hT
 go_enter Tryz.func121, Tryz.ntmps121
 go_wp2_with fail
 refine ln.mono ?_
 rintro r w1 ⟨rfl, b1⟩
 have f1 := fi w1 b1
 have B1 : Aside (Below w.heap.size w w1) := b1
 clear ln b1 fi
 go_wp2_with fail
 refine f1.mono ?_
 rintro r w2 ⟨x, y, rfl, o2, b2⟩
 have O2 : Aside (OwnE w2 w.heap.size (.slice x T y) (sortE ls.flatten)) := o2.low B1.out.size
 have B2 : Aside (Below w.heap.size w w2) := B1.out.trans (b2.mono B1.out.size)
 clear f1 o2 b2
 go_wp2
 go_ret
 exact ⟨x, y, rfl, O2.out, B2.out⟩
def drawN (k : Int) (L : Nat) : Nat := min (min k.toNat L + 1) L
def CandIs (w : World) (x : Ent) (ok : Bool) (r : Ending) (w' : World) : Prop := r = .returned (.tuple #[.agg #[.int .u64 x.1, .int .i64 x.2], .bool ok]) ∧ Below w.heap.size w w'
theorem ent_set {w : World} {S : Nat} {x y : Value} {T : TypeId} (h : w.heap[S]? = some (.cells #[x, y] T (0, 0))) (x' y' : Value) : ((w.setCell ⟨S, 0, none⟩ x').setCell ⟨S, 1, none⟩ y').heap[S]? = some (.cells #[x', y'] T (0, 0)) := shr_set1 (shr_set0 h x') y'
set_option maxHeartbeats 1000000 in
theorem cand_any (B v : Nat) (ls : List (List Ent)) (k : Int) (dr : Nat) (w : World) (h : Shr w B v ls) (hsum : ls.flatten.length ≤ 100000) (hdr : dr < 18446744073709551616) (hp : 0 < ls.flatten.length) (x : Ent) (hx : (sortE ls.flatten)[dr % drawN k ls.flatten.length]? = some x) :
  Calls Tryz.prog 128 #[.pointer (some ⟨B, 0, none⟩), .int .i64 k, .int .u64 dr] w (CandIs w x true) := by
 obtain ⟨S, hS⟩ : ∃ S, w.heap.size = S := ⟨_, rfl⟩
 obtain ⟨u, hu⟩ : ∃ u, w.alloc (.cells #[.int .u64 0, .int .i64 0] 43) = u := ⟨_, rfl⟩
 have HU : Hid _ := hu
 have bu : Below w.heap.size w u := by rw [← hu]; exact (Below.refl _ _).alloc (Nat.le_refl _) _
 have us : u.heap.size = S + 1 := by rw [← hu, ← hS]; simp
 have uS : u.heap[S]? = some (.cells #[.int .u64 0, .int .i64 0] 43 (0, 0)) := by rw [← hu, ← hS]; exact heap_alloc_new w _
 have ln := slen_any B v ls u (h.below bu) hsum
 have FI : Aside (∀ (n : Int) (K : Nat) (W : World), Below u.heap.size u W → wth n ls.flatten.length = K → Calls Tryz.prog 186 #[.pointer (some ⟨B, 0, none⟩), .int .i64 n] W (PivO W K ((sortE ls.flatten).take K))) := fun n K W hW hK => sfirst_any B v ls n K W (h.below (bu.trans (hW.mono bu.size))) hsum hK
 have sl := sortE_len ls.flatten
 obtain ⟨s, hs⟩ : ∃ s, sortE ls.flatten = s := ⟨_, rfl⟩
 obtain ⟨T, hT⟩ : ∃ T, ls.flatten.length = T := ⟨_, rfl⟩
 rw [hs, hT] at FI hx
 rw [hs, hT] at sl
 rw [hT] at ln hsum hp
 obtain ⟨J, hJ⟩ : ∃ J, drawN k T = J := ⟨_, rfl⟩
 have hJ2 : wth (min (max k 0) (T : Int) + 1) T = J := by rw [← hJ]; unfold drawN wth; omega
 have fi : ∀ W, Below u.heap.size u W → Calls Tryz.prog 186 #[.pointer (some ⟨B, 0, none⟩), .int .i64 (min (max k 0) (T : Int) + 1)] W (PivO W J (s.take J)) := fun W hW => FI.out (min (max k 0) (T : Int) + 1) J W hW hJ2
 have j0 : 0 < J := by rw [← hJ]; unfold drawN; omega
 have jT : J ≤ T := by rw [← hJ]; unfold drawN; omega
 rw [hJ] at hx
 have dJ : dr % J < J := Nat.mod_lt _ j0
 obtain ⟨R, hR⟩ : ∃ R, dr % J = R := ⟨_, rfl⟩
 rw [hR] at hx dJ
 have hx2 : (s.take J)[R]? = some x := by rw [List.getElem?_take, if_pos dJ]; exact hx
 have w1 : IntKind.u64.wrap (J : Int) = (J : Int) := by rw [IntKind.wrap_u64, Int.emod_eq_of_lt (by omega) (by omega)]
 have w2 : Int.emod (dr : Int) (J : Int) = (R : Int) := by rw [← hR]; rfl
 have w3 : Int.tmod (dr : Int) (J : Int) = (R : Int) := by rw [← hR]; rfl
 have w4 : (dr : Int) % (J : Int) = (R : Int) := by rw [← hR]; rfl
 have w5 : IntKind.u64.wrap (R : Int) = (R : Int) := by rw [IntKind.wrap_u64, Int.emod_eq_of_lt (by omega) (by omega)]
 have w6 : ¬ (J : Int) = 0 := by omega
 have w7 : ((J : Int) == 0) = false := by simp; omega
 have w8 : (R : Int) < (J : Int) := by omega
 have w9 : IntKind.i64.wrap (min (max k 0) (T : Int) + 1) = (min (max k 0) (T : Int) + 1) := by rw [IntKind.wrap_i64]; omega
 have US : Aside (u.heap[S]? = some (.cells #[.int .u64 0, .int .i64 0] 43 (0, 0))) := uS
 have BU : Aside (Below w.heap.size w u) := bu
 have FI2 : Aside (∀ W, Below u.heap.size u W → Calls Tryz.prog 186 #[.pointer (some ⟨B, 0, none⟩), .int .i64 (min (max k 0) (T : Int) + 1)] W (PivO W J (s.take J))) := fi
 have HX : Hid _ := hx2
 clear fi FI hx hx2 h hu bu uS hs hT hR hJ hJ2 sl
 go_enter Tryz.func128, Tryz.ntmps128
 go_wp2_with fail
 rw [HU.out]
 refine ln.mono ?_
 rintro r w1_ ⟨rfl, b1⟩
 have f1 := FI2.out w1_ b1
 have B1 : Aside (Below u.heap.size u w1_) := b1
 clear ln b1
 go_wp2_with fail
 with_reducible refine Calls.mono f1 ?_
 rintro r w2_ ⟨fa, fc, rfl, o2, b2⟩
 have b2u : Below u.heap.size u w2_ := B1.out.trans (b2.mono B1.out.size)
 obtain ⟨b, off, rfl, hb, c0, c1⟩ := o2.is.elem R x HX.out
 have s2 : w2_.heap[S]? = some (.cells #[.int .u64 0, .int .i64 0] 43 (0, 0)) := (b2u.block S (by omega)).trans US.out
 have e0 := shr0 s2
 have e1 := shr1 s2
 have f0 := shrf s2 0
 have f1' := shrf s2 1
 have s3 := ent_set s2 (.int .u64 x.1) (.int .i64 x.2)
 have g3 : w2_.grownBy ((w2_.setCell ⟨S, 0, none⟩ (.int .u64 x.1)).setCell ⟨S, 1, none⟩ (.int .i64 x.2)) (some S) := grown_trans (grown_set w2_ S 0 _) (grown_set _ S 1 _)
 have b3 : Below w.heap.size w ((w2_.setCell ⟨S, 0, none⟩ (.int .u64 x.1)).setCell ⟨S, 1, none⟩ (.int .i64 x.2)) := (BU.out.trans (b2u.mono BU.out.size)).trans (below_of_grown g3 (by omega) (by have := b2u.size; omega))
 have y0 := shr0 s3
 have y1 := shr1 s3
 have B3 : Aside (Below w.heap.size w ((w2_.setCell ⟨S, 0, none⟩ (.int .u64 x.1)).setCell ⟨S, 1, none⟩ (.int .i64 x.2))) := b3
 clear o2 b2 b2u f1 s2 s3 g3 b3 B1 FI2 HX US BU
 go_wp2
 refine bodyPost_ret (v := .tuple #[.agg #[.int .u64 x.1, .int .i64 x.2], .bool true]) (by simp [results, Tryz.results128, go_sem, y0, y1]) rfl ⟨rfl, B3.out⟩
set_option maxHeartbeats 1000000 in
theorem cand_none (B v : Nat) (ls : List (List Ent)) (k : Int) (dr : Nat) (w : World) (h : Shr w B v ls) (hp : ls.flatten.length = 0) :
  Calls Tryz.prog 128 #[.pointer (some ⟨B, 0, none⟩), .int .i64 k, .int .u64 dr] w (CandIs w (0, 0) false) := by
 obtain ⟨S, hS⟩ : ∃ S, w.heap.size = S := ⟨_, rfl⟩
 obtain ⟨u, hu⟩ : ∃ u, w.alloc (.cells #[.int .u64 0, .int .i64 0] 43) = u := ⟨_, rfl⟩
 have HU : Hid _ := hu
 have bu : Below w.heap.size w u := by rw [← hu]; exact (Below.refl _ _).alloc (Nat.le_refl _) _
 have us : u.heap.size = S + 1 := by rw [← hu, ← hS]; simp
 have uS : u.heap[S]? = some (.cells #[.int .u64 0, .int .i64 0] 43 (0, 0)) := by rw [← hu, ← hS]; exact heap_alloc_new w _
 have ln := slen_any B v ls u (h.below bu) (by omega)
 obtain ⟨T, hT⟩ : ∃ T, ls.flatten.length = T := ⟨_, rfl⟩
 rw [hT] at ln hp
 have fi : ∀ W, Below u.heap.size u W → Calls Tryz.prog 186 #[.pointer (some ⟨B, 0, none⟩), .int .i64 (min (max k 0) (T : Int) + 1)] W (PivO W 0 ((sortE ls.flatten).take 0)) := fun W hW => sfirst_any B v ls (min (max k 0) (T : Int) + 1) 0 W (h.below (bu.trans (hW.mono bu.size))) (by omega) (by rw [hT]; unfold wth; omega)
 have w9 : IntKind.i64.wrap (min (max k 0) (T : Int) + 1) = (min (max k 0) (T : Int) + 1) := by rw [IntKind.wrap_i64]; omega
 have US : Aside (u.heap[S]? = some (.cells #[.int .u64 0, .int .i64 0] 43 (0, 0))) := uS
 have BU : Aside (Below w.heap.size w u) := bu
 have FI2 : Aside (∀ W, Below u.heap.size u W → Calls Tryz.prog 186 #[.pointer (some ⟨B, 0, none⟩), .int .i64 (min (max k 0) (T : Int) + 1)] W (PivO W 0 ((sortE ls.flatten).take 0))) := fi
 have HP : Hid _ := hp
 have hT1 : (T : Int) ≤ 5 := by omega
 have hT0 : (0 : Int) ≤ (T : Int) := by omega
 clear fi h hu bu uS hp hT
 go_enter Tryz.func128, Tryz.ntmps128
 go_wp2_with fail
 rw [HU.out]
 refine ln.mono ?_
 rintro r w1_ ⟨rfl, b1⟩
 have f1 := FI2.out w1_ b1
 have B1 : Aside (Below u.heap.size u w1_) := b1
 clear ln b1
 go_wp2_with fail
 with_reducible refine Calls.mono f1 ?_
 rintro r w2_ ⟨fa, fc, rfl, o2, b2⟩
 have b2u : Below u.heap.size u w2_ := B1.out.trans (b2.mono B1.out.size)
 have s2 : w2_.heap[S]? = some (.cells #[.int .u64 0, .int .i64 0] 43 (0, 0)) := (b2u.block S (by omega)).trans US.out
 have e0 := shr0 s2
 have e1 := shr1 s2
 have f0 := shrf s2 0
 have f1' := shrf s2 1
 have s3 := ent_set s2 (.int .u64 0) (.int .i64 0)
 have g3 : w2_.grownBy ((w2_.setCell ⟨S, 0, none⟩ (.int .u64 0)).setCell ⟨S, 1, none⟩ (.int .i64 0)) (some S) := grown_trans (grown_set w2_ S 0 _) (grown_set _ S 1 _)
 have b3 : Below w.heap.size w ((w2_.setCell ⟨S, 0, none⟩ (.int .u64 0)).setCell ⟨S, 1, none⟩ (.int .i64 0)) := (BU.out.trans (b2u.mono BU.out.size)).trans (below_of_grown g3 (by omega) (by have := b2u.size; omega))
 have y0 := shr0 s3
 have y1 := shr1 s3
 have B3 : Aside (Below w.heap.size w ((w2_.setCell ⟨S, 0, none⟩ (.int .u64 0)).setCell ⟨S, 1, none⟩ (.int .i64 0))) := b3
 clear o2 b2 b2u f1 s2 s3 g3 b3 B1 FI2 US BU
 go_wp2
 refine bodyPost_ret (v := .tuple #[.agg #[.int .u64 0, .int .i64 0], .bool false]) (by simp [results, Tryz.results128, go_sem, y0, y1]) rfl ⟨rfl, B3.out⟩
end Go.Proofs.YtjnpmipbkiambaaGreatDoor.Qu
