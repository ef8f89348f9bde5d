/- The walk of 'WheelPlays'. -/
import Derived.Test.YtbopobgnmkhabaaDoorWhRs
import Derived.Test.YtbopobgnmkhabaaDoorRecs
namespace Go.Proofs.YtbopobgnmkhabaaDoor
open Go.RowKit Go.Lib Go.Sort Go.WideMaps Go.Maps
set_option linter.unusedVariables false
variable {w0 w1 w w' : World} {Y F X : Nat → Prop} {A ba na B nb now : Nat} {T Ta Tb : List Ent}

theorem Half.box (h : Half w0 w1 w Y A ba na Ta B nb Tb) {S : Nat} (hS : S < w1.heap.size) (hY : ¬ Y S) (j : Nat) : w.cell? ⟨S, j, none⟩ = w1.cell? ⟨S, j, none⟩ := by
  obtain ⟨F, X, h⟩ := h
  exact h.cell (p := ⟨S, j, none⟩) hS hY
theorem Like.half (h : Like w0 w1 w Y A ba B now T) : Half w0 w1 w Y A ba now T B now T := h
theorem Like.bel (h : Like w0 w1 w Y A ba B now T) : Below w0.heap.size w0 w := by
  obtain ⟨F, X, h⟩ := h
  exact h.a.bel
theorem Like.tick0 (h : Like w0 w1 w Y A ba B now T) : w.cell? ⟨B, 0, none⟩ = some (.int .u64 (now : Int)) := by
  obtain ⟨F, X, h⟩ := h
  obtain ⟨a, cap, c0, -⟩ := h.r.open
  exact c0
theorem Like.rng (h : Like w0 w1 w Y A ba B now T) : now < B64 := by
  obtain ⟨F, X, h⟩ := h
  exact h.a.whl.rng.1
theorem Like.awake (h : Like w0 w1 w Y A ba B now T) : Calls Tryd.prog 14 #[] w fun e w' => e = .returned (.bool true) ∧ Below w0.heap.size w0 w' := by
  obtain ⟨F, X, h⟩ := h
  refine Calls.mono (awake_any w h.a.tabW (Nat.lt_of_lt_of_le h.a.pos h.a.bel.size)) ?_
  rintro e w' ⟨rfl, q⟩
  exact ⟨rfl, h.a.bel.trans (q.mono h.a.bel.size)⟩
/-- A new round: a block is laid. -/
theorem Like.round (h : Like w0 w1 w Y A ba B now T) (o : Obj) : ∃ Y', Like w0 (w.alloc o) (w.alloc o) Y' A ba B now T ∧ ¬ Y' w.heap.size := by
  obtain ⟨F, X, h⟩ := h
  have b : Below w.heap.size w (w.alloc o) := (Below.refl _ _).alloc (Nat.le_refl _) _
  refine ⟨fun k => F k ∨ X k, ⟨F, X, (h.below b).fresh⟩, fun hk => ?_⟩
  rcases hk with hk | hk
  · have := (h.a.low hk).2; omega
  · have := h.r.lt hk; omega
/-- The document's wheel is laid beside the program's. -/
theorem Like.start (h : Wst w0 w F A ba now []) : ∃ w1 Y, Like w0 w1 (w.alloc (.cells #[.int .u64 (now : Int), .slice none 0 0] 45)) Y A ba w.heap.size now [] := by
  have b : Below w.heap.size w (w.alloc (.cells #[.int .u64 (now : Int), .slice none 0 0] 45)) := (Below.refl _ _).alloc (Nat.le_refl _) _
  refine ⟨_, fun k => F k ∨ k = w.heap.size, F, fun k => k = w.heap.size, h.below b, ⟨none, 0, ?_, IsL.nil _, fun k => ?_⟩, fun k hk => ?_, fun k hk hF => ?_, Fr.refl _ _, fun k hk => .inl (.inl hk), fun k hk => .inl (.inr hk)⟩
  · rw [heap_alloc_new]; rfl
  · simp
  · rw [hk]; exact h.bel.size
  · have := (h.low hF).2; omega

set_option maxHeartbeats 16000000 in
set_option maxRecDepth 100000 in
theorem wheelPlays_walk (x : Int) (a : Option Addr) (len cap : Nat) (Z : Nat → Nat → Int) (w : World) (wx : (Lit.int .u64 x).wf = true) (h : IsRecs [.i64, .i64, .u64] w a len Z) (hN : TabW w ∧ 0 < w.heap.size) :
    Calls Tryd.prog 6 #[.int .u64 x, .slice a len cap] w fun r w' => r = .returned (.bool true) ∧ Below w.heap.size w w' := by
  obtain ⟨now, hnow, hnb⟩ : ∃ n : Nat, x = (n : Int) ∧ n < B64 := by
    simp [Lit.wf, IntKind.min, IntKind.max, IntKind.bits, IntKind.signed] at wx
    exact ⟨x.toNat, by omega, by unfold B64; omega⟩
  subst hnow
  have hl := h.len_le
  have HH : Aside (IsRecs [.i64, .i64, .u64] w a len Z) := h
  have NEW : Aside (Calls Tryd.prog 9 #[.int .u64 (now : Int)] w fun e w1 => ∃ A ba F, e = .returned (.pointer (some ⟨A, 0, none⟩)) ∧ Wst w w1 F A ba now []) := by
    refine Calls.mono (Wst.new now hnb (Below.refl w.heap.size w) hN.1 hN.2) ?_
    rintro e w' ⟨rfl, -, F, q⟩
    exact ⟨_, _, F, rfl, q⟩
  clear h hN wx hnb
  go_enter Tryd.func6, Tryd.ntmps6
  go_wp2_with fail
  refine NEW.out.mono ?_
  rintro e w1 ⟨A, ba, F, rfl, K0⟩
  obtain ⟨B, hB⟩ : ∃ B, w1.heap.size = B := ⟨_, rfl⟩
  obtain ⟨w2, hw2⟩ : ∃ w2, w1.alloc (.cells #[.int .u64 (now : Int), .slice none 0 0] 45) = w2 := ⟨_, rfl⟩
  have L0 : Aside (∃ wb Y, Like w wb w2 Y A ba B now []) := by
    rw [← hw2, ← hB]
    exact Like.start K0
  have HW2 : Hid _ := hw2
  clear NEW K0 hw2
  go_wp2_with fail
  rw [HW2.out]
  clear hB HW2
  go_loopg [7, 8, 9] 60 (fun kx s7 s8 s9 wr => ∃ (j now : Nat) (T : List Ent), s7 = .int .i64 j ∧ j ≤ 60 ∧ 60 - j ≤ kx ∧ Aside (∃ wb Y, Like w wb wr Y A ba B now T))
  case atStart => exact ⟨0, now, [], rfl, by omega, by omega, L0⟩
  case round =>
    clear L0
    obtain ⟨j, now, T, rfl, hj, hkx, L⟩ := hrel
    obtain ⟨wb, Yb, L0⟩ := L.out
    by_cases hgo : j < len ∧ j < 60
    · have l1 : (j : Int) < (len : Int) := by omega
      have l2 : (j : Int) < 60 := by omega
      have hj60 : j < 60 := hgo.2
      obtain ⟨b, off, ha, hbl, hc⟩ := HH.out.elem j hgo.1
      subst ha
      have hc0 := (L0.bel.cell (p := ⟨b, off + j * 3 + 0, none⟩) hbl).trans (hc 0 .i64 rfl).1
      have hc1 := (L0.bel.cell (p := ⟨b, off + j * 3 + 1, none⟩) hbl).trans (hc 1 .i64 rfl).1
      have hc2 := (L0.bel.cell (p := ⟨b, off + j * 3 + 2, none⟩) hbl).trans (hc 2 .u64 rfl).1
      have wi : wfI (Z j 1) := (hc 1 .i64 rfl).2
      have wn := (hc 2 .u64 rfl).2
      clear hc
      generalize Z j 0 = K at hc0
      generalize Z j 1 = i at hc1 wi
      obtain ⟨D, hD, hDb⟩ : ∃ n : Nat, Z j 2 = (n : Int) ∧ n < B64 := by
        simp [Lit.wf, IntKind.min, IntKind.max, IntKind.bits, IntKind.signed] at wn
        exact ⟨(Z j 2).toNat, by omega, by unfold B64; omega⟩
      rw [hD] at hc2
      simp only [Nat.add_zero] at hc0
      have WI : Hid (wfI i) := wi
      have HDB : Hid (D < B64) := hDb
      obtain ⟨Y, L1, hY⟩ := L0.round (.cells #[.int .i64 K, .int .i64 i, .int .u64 (D : Int)] 47)
      obtain ⟨u, hu⟩ : ∃ u, wr.alloc (.cells #[.int .i64 K, .int .i64 i, .int .u64 (D : Int)] 47) = u := ⟨_, rfl⟩
      obtain ⟨S, hS⟩ : ∃ S, wr.heap.size = S := ⟨_, rfl⟩
      have o0 : u.cell? ⟨S, 0, none⟩ = some (.int .i64 K) := by rw [← hu, ← hS]; simp
      have o1 : u.cell? ⟨S, 1, none⟩ = some (.int .i64 i) := by rw [← hu, ← hS]; simp
      have o2 : u.cell? ⟨S, 2, none⟩ = some (.int .u64 (D : Int)) := by rw [← hu, ← hS]; simp
      have hSu : S < u.heap.size := by rw [← hu, ← hS]; simp
      rw [hu] at L1
      rw [hS] at hY
      have LU : Aside (Like w u u Y A ba B now T) := L1
      have BX : Aside (∀ v na Ta nb Tb, Half w u v Y A ba na Ta B nb Tb → v.cell? ⟨S, 1, none⟩ = some (.int .i64 i) ∧ v.cell? ⟨S, 2, none⟩ = some (.int .u64 (D : Int))) := fun v na Ta nb Tb hv => ⟨(hv.box hSu hY 1).trans o1, (hv.box hSu hY 2).trans o2⟩
      have HU : Hid _ := hu
      clear L0 L1 hY hSu L wn hD wi hDb hu hbl hgo
      go_upto_block 2 with fail
      rw [HU.out]
      clear HU hS hc0 hc1 hc2
      by_cases K0 : K = 0
      · subst K0
        obtain ⟨R, hR⟩ : ∃ R, addR T i = R := ⟨_, rfl⟩
        obtain ⟨T2, hT2⟩ : ∃ T2, addT T i D = T2 := ⟨_, rfl⟩
        have LD : Like w u u.drew Y A ba B now T := LU.out.below ((Below.refl _ _).drew)
        have AA : Aside (Calls Tryd.prog 10 #[.pointer (some ⟨A, 0, none⟩), .int .i64 i, .int .u64 (D : Int)] u.drew fun e w' => e = .returned (.int .i64 R) ∧ Half w u w' Y A ba now T2 B now T) := by
          rw [← hR, ← hT2]
          exact LD.addA WI.out HDB.out
        have AR : Aside (∀ v, Half w u v Y A ba now T2 B now T → Calls Tryd.prog 16 #[.pointer (some ⟨B, 0, none⟩), .int .i64 i, .int .u64 (D : Int)] v fun e w' => e = .returned (.int .i64 R) ∧ Like w u w' Y A ba B now T2) := fun v hv => by
          rw [← hR, ← hT2]
          exact hv.addR LU.out.ok i D hT2.symm rfl
        have k0 : u.drew.cell? ⟨S, 1, none⟩ = some (.int .i64 i) ∧ u.drew.cell? ⟨S, 2, none⟩ = some (.int .u64 (D : Int)) := ⟨o1, o2⟩
        clear LD hR hT2
        go_upto_region 16 with fail
        go_region_held3 (fun v => v.cell? ⟨S, 1, none⟩ = some (.int .i64 i) ∧ v.cell? ⟨S, 2, none⟩ = some (.int .u64 (D : Int))) (first | with_reducible exact k0 | with_reducible exact k1 | with_reducible exact k2)
          ((first
            | (go_at_call 16; (with_reducible refine Calls.mono (AR.out _ H1) ?_); rintro e v2 ⟨rfl, L2⟩; have k2 := BX.out _ _ _ _ _ L2.half)
            | (go_at_call 10; (with_reducible refine Calls.mono AA.out ?_); rintro e v1 ⟨rfl, H1⟩; have k1 := BX.out _ _ _ _ _ H1)))
        have LV : Aside (Like w u v2 Y A ba B now T2) := L2
        have kv := k2.1
        clear AA AR k0 k1 k2 H1 L2
        have SM : Aside (Calls Tryd.prog 20 #[.pointer (some ⟨A, 0, none⟩), .pointer (some ⟨B, 0, none⟩), .int .i64 i] v2 fun e w' => e = .returned (.bool true) ∧ Below v2.heap.size v2 w') := same_any LV.out WI.out
        go_wp2_with fail
        refine SM.out.mono ?_
        rintro e v9 ⟨rfl, b9⟩
        have L9 : Aside (∃ wb Y, Like w wb v9 Y A ba B now T2) := ⟨_, _, LV.out.below b9⟩
        clear SM b9 LV
        go_wp2_with fail
        go_roundg (60 - (j + 1))
        case measure => omega
        case rel => exact ⟨j + 1, now, T2, by go_num, by omega, Nat.le_refl _, L9⟩
      · have f0 : (K == 0) = false := by simpa using K0
        by_cases K1 : K = 1
        · subst K1
          obtain ⟨R, hR⟩ : ∃ R, (dueOf T i).isSome = R := ⟨_, rfl⟩
          obtain ⟨T2, hT2⟩ : ∃ T2, canT T i = T2 := ⟨_, rfl⟩
          have LD : Like w u u.drew Y A ba B now T := LU.out.below ((Below.refl _ _).drew)
          have AA : Aside (Calls Tryd.prog 15 #[.pointer (some ⟨A, 0, none⟩), .int .i64 i] u.drew fun e w' => e = .returned (.bool R) ∧ Half w u w' Y A ba now T2 B now T) := by
            rw [← hR, ← hT2]
            exact LD.cancelA WI.out
          have AR : Aside (∀ v, Half w u v Y A ba now T2 B now T → Calls Tryd.prog 17 #[.pointer (some ⟨B, 0, none⟩), .int .i64 i] v fun e w' => e = .returned (.bool R) ∧ Like w u w' Y A ba B now T2) := fun v hv => by
            rw [← hR, ← hT2]
            exact hv.cancelR LU.out.ok i hT2.symm rfl
          have k0 : u.drew.cell? ⟨S, 1, none⟩ = some (.int .i64 i) ∧ u.drew.cell? ⟨S, 2, none⟩ = some (.int .u64 (D : Int)) := ⟨o1, o2⟩
          clear LD hR hT2
          go_upto_region 19 with fail
          go_region_held3 (fun v => v.cell? ⟨S, 1, none⟩ = some (.int .i64 i) ∧ v.cell? ⟨S, 2, none⟩ = some (.int .u64 (D : Int))) (first | with_reducible exact k0 | with_reducible exact k1 | with_reducible exact k2)
            ((first
              | (go_at_call 17; (with_reducible refine Calls.mono (AR.out _ H1) ?_); rintro e v2 ⟨rfl, L2⟩; have k2 := BX.out _ _ _ _ _ L2.half)
              | (go_at_call 15; (with_reducible refine Calls.mono AA.out ?_); rintro e v1 ⟨rfl, H1⟩; have k1 := BX.out _ _ _ _ _ H1)))
          have LV : Aside (Like w u v2 Y A ba B now T2) := L2
          have kv := k2.1
          clear AA AR k0 k1 k2 H1 L2
          have SM : Aside (Calls Tryd.prog 20 #[.pointer (some ⟨A, 0, none⟩), .pointer (some ⟨B, 0, none⟩), .int .i64 i] v2 fun e w' => e = .returned (.bool true) ∧ Below v2.heap.size v2 w') := same_any LV.out WI.out
          go_wp2_with fail
          refine SM.out.mono ?_
          rintro e v9 ⟨rfl, b9⟩
          have L9 : Aside (∃ wb Y, Like w wb v9 Y A ba B now T2) := ⟨_, _, LV.out.below b9⟩
          clear SM b9 LV
          go_wp2_with fail
          go_roundg (60 - (j + 1))
          case measure => omega
          case rel => exact ⟨j + 1, now, T2, by go_num, by omega, Nat.le_refl _, L9⟩
        · have f1 : (K == 1) = false := by simpa using K1
          by_cases K2 : K = 2
          · subst K2
            obtain ⟨tt, htt, htb⟩ : ∃ tt : Nat, IntKind.u64.wrap ((now : Int) + (D : Int)) = (tt : Int) ∧ tt < B64 := by
              rw [IntKind.wrap_u64]
              exact ⟨(((now : Int) + (D : Int)) % 18446744073709551616).toNat, by omega, by unfold B64; omega⟩
            have HTB : Hid _ := htb
            have cN := LU.out.tick0
            clear htb
            go_upto_region 12 with fail
            go_quiet (fail)
            have L2 : Aside (Like w u (u.drewN nq) Y A ba B now T) := LU.out.below (below_drewN u nq)
            clear cN htt o0 o2 o1
            generalize u.drewN nq = u2 at L2 ⊢
            obtain ⟨M, hM⟩ : ∃ M, max now tt = M := ⟨_, rfl⟩
            obtain ⟨d, hd⟩ : ∃ d, dueL M T = d := ⟨_, rfl⟩
            obtain ⟨n, hn⟩ : ∃ n, d.length = n := ⟨_, rfl⟩
            obtain ⟨T2, hT2⟩ : ∃ T2, restL M T = T2 := ⟨_, rfl⟩
            have AV : Aside (Calls Tryd.prog 11 #[.pointer (some ⟨A, 0, none⟩), .int .u64 (tt : Int)] u2 fun e w' => ∃ pa pc, e = .returned (.slice pa n pc) ∧ HalfV w u w' Y A ba M T2 B now T (.slice pa n pc) d) := by
              have := L2.out.advA (tt := tt) HTB.out
              rw [hM, hd, hT2, hn] at this
              exact this
            have AR : Aside (∀ v pa pc, HalfV w u v Y A ba M T2 B now T (.slice pa n pc) d → Calls Tryd.prog 19 #[.pointer (some ⟨B, 0, none⟩), .int .u64 (tt : Int)] v fun e w' => ∃ r t, e = .returned (.slice r n t) ∧ IsL w' pa pc d ∧ IsL w' r t d ∧ Like w u w' Y A ba B M T2) := fun v pa pc hv => by
              refine Calls.mono (hv.advR (v := .slice pa n pc) LU.out.ok tt (by rw [hM]; exact hd.symm) (by rw [hM]; exact hT2.symm) hM.symm) ?_
              rintro e w' ⟨r, t, rfl, -, i1, i2, q⟩
              rw [hM, hT2] at q
              exact ⟨r, t, rfl, i1, i2, q⟩
            have SA : Aside (∀ v pa pc r t, IsL v pa pc d → IsL v r t d → Calls Tryd.prog 18 #[.slice pa n pc, .slice r n t] v fun e w' => e = .returned (.bool true) ∧ Below v.heap.size v w') := fun v pa pc r t i1 i2 => by
              rw [← hn]
              refine Calls.mono (sameT_any pa r pc t d v i1 i2) ?_
              rintro e w' ⟨rfl, g⟩
              exact ⟨rfl, g.below⟩
            clear hM hd hn hT2
            go_wp2_with fail
            refine AV.out.mono ?_
            rintro e v1 ⟨pa, pc, rfl, H1⟩
            go_wp2_with fail
            refine (AR.out _ _ _ H1).mono ?_
            rintro e v2 ⟨r2, t2, rfl, i1, i2, L2⟩
            have LL : Aside (Like w u v2 Y A ba B M T2) := L2
            clear AV AR H1 L2
            go_wp2_with fail
            refine (SA.out _ _ _ _ _ i1 i2).mono ?_
            rintro e v3 ⟨rfl, b3⟩
            have LV : Aside (Like w u v3 Y A ba B M T2) := LL.out.below b3
            have kv := (BX.out _ _ _ _ _ LV.out.half).1
            clear SA i1 i2 b3 LL
            have SM : Aside (Calls Tryd.prog 20 #[.pointer (some ⟨A, 0, none⟩), .pointer (some ⟨B, 0, none⟩), .int .i64 i] v3 fun e w' => e = .returned (.bool true) ∧ Below v3.heap.size v3 w') := same_any LV.out WI.out
            go_wp2_with fail
            refine SM.out.mono ?_
            rintro e v9 ⟨rfl, b9⟩
            have L9 : Aside (∃ wb Y, Like w wb v9 Y A ba B M T2) := ⟨_, _, LV.out.below b9⟩
            clear SM b9 LV
            go_wp2_with fail
            go_roundg (60 - (j + 1))
            case measure => omega
            case rel => exact ⟨j + 1, M, T2, by go_num, by omega, Nat.le_refl _, L9⟩
          · have f2 : (K == 2) = false := by simpa using K2
            obtain ⟨M, hM⟩ : ∃ M, max now D = M := ⟨_, rfl⟩
            obtain ⟨d, hd⟩ : ∃ d, dueL M T = d := ⟨_, rfl⟩
            obtain ⟨n, hn⟩ : ∃ n, d.length = n := ⟨_, rfl⟩
            obtain ⟨T2, hT2⟩ : ∃ T2, restL M T = T2 := ⟨_, rfl⟩
            have AV : Aside (Calls Tryd.prog 11 #[.pointer (some ⟨A, 0, none⟩), .int .u64 (D : Int)] u fun e w' => ∃ pa pc, e = .returned (.slice pa n pc) ∧ HalfV w u w' Y A ba M T2 B now T (.slice pa n pc) d) := by
              have := LU.out.advA (tt := D) HDB.out
              rw [hM, hd, hT2, hn] at this
              exact this
            have AR : Aside (∀ v pa pc, HalfV w u v Y A ba M T2 B now T (.slice pa n pc) d → Calls Tryd.prog 19 #[.pointer (some ⟨B, 0, none⟩), .int .u64 (D : Int)] v fun e w' => ∃ r t, e = .returned (.slice r n t) ∧ IsL w' pa pc d ∧ IsL w' r t d ∧ Like w u w' Y A ba B M T2) := fun v pa pc hv => by
              refine Calls.mono (hv.advR (v := .slice pa n pc) LU.out.ok D (by rw [hM]; exact hd.symm) (by rw [hM]; exact hT2.symm) hM.symm) ?_
              rintro e w' ⟨r, t, rfl, -, i1, i2, q⟩
              rw [hM, hT2] at q
              exact ⟨r, t, rfl, i1, i2, q⟩
            have SA : Aside (∀ v pa pc r t, IsL v pa pc d → IsL v r t d → Calls Tryd.prog 18 #[.slice pa n pc, .slice r n t] v fun e w' => e = .returned (.bool true) ∧ Below v.heap.size v w') := fun v pa pc r t i1 i2 => by
              rw [← hn]
              refine Calls.mono (sameT_any pa r pc t d v i1 i2) ?_
              rintro e w' ⟨rfl, g⟩
              exact ⟨rfl, g.below⟩
            clear hM hd hn hT2
            go_wp2_with fail
            refine AV.out.mono ?_
            rintro e v1 ⟨pa, pc, rfl, H1⟩
            go_wp2_with fail
            refine (AR.out _ _ _ H1).mono ?_
            rintro e v2 ⟨r2, t2, rfl, i1, i2, L2⟩
            have LL : Aside (Like w u v2 Y A ba B M T2) := L2
            clear AV AR H1 L2
            go_wp2_with fail
            refine (SA.out _ _ _ _ _ i1 i2).mono ?_
            rintro e v3 ⟨rfl, b3⟩
            have LV : Aside (Like w u v3 Y A ba B M T2) := LL.out.below b3
            have kv := (BX.out _ _ _ _ _ LV.out.half).1
            clear SA i1 i2 b3 LL
            have SM : Aside (Calls Tryd.prog 20 #[.pointer (some ⟨A, 0, none⟩), .pointer (some ⟨B, 0, none⟩), .int .i64 i] v3 fun e w' => e = .returned (.bool true) ∧ Below v3.heap.size v3 w') := same_any LV.out WI.out
            go_wp2_with fail
            refine SM.out.mono ?_
            rintro e v9 ⟨rfl, b9⟩
            have L9 : Aside (∃ wb Y, Like w wb v9 Y A ba B M T2) := ⟨_, _, LV.out.below b9⟩
            clear SM b9 LV
            go_wp2_with fail
            go_roundg (60 - (j + 1))
            case measure => omega
            case rel => exact ⟨j + 1, M, T2, by go_num, by omega, Nat.le_refl _, L9⟩
    · have hcase : ((j : Int) < (len : Int) ∧ ¬ (j : Int) < 60) ∨ ¬ (j : Int) < (len : Int) := by omega
      have AW : Aside (Calls Tryd.prog 14 #[] wr fun e w' => e = .returned (.bool true) ∧ Below w.heap.size w w') := L0.awake
      clear L L0 hgo hj hkx
      rcases hcase with ⟨y1, y2⟩ | y1
      all_goals
        go_wp2_with fail
        refine AW.out.mono ?_
        rintro e w9 ⟨rfl, bel⟩
        go_wp2_with fail
        go_ret
        exact ⟨rfl, bel⟩
end Go.Proofs.YtbopobgnmkhabaaDoor
