import Derived.Test.YtjnpmipbkiambaaGreatDoorCoC
namespace Go.Proofs.YtjnpmipbkiambaaGreatDoor
open Go.RowKit Go.Lib Go.WideMaps Go.Maps
set_option maxRecDepth 100000
set_option linter.unusedVariables false
variable {w w' u : World} {L i : Nat} {D : CAd} {F F' : Nat → Nat → Prop} {g v : Value} {σ : CS} {x : Ta.TR}
def JbOk (f p d rr R : Int) : Prop := (p = 0 ∧ R = 0) ∨ (Ta.IsT f ∧ Ta.IsT p ∧ Ta.IsT d ∧ p > 0 ∧ Ta.Tk.okJ f p d = true ∧ R = rr)
theorem Co.makeC (C : Co w L D F g v σ) (hl : σ.T.length < 200) (prio f p d rr R m s : Int) (hm : Ta.mayB prio s = true) (hj : JbOk f p d rr R) :
  Calls Tryz.prog 109 #[pt D.Bt, .int .i64 prio, .slice none 0 0, .agg #[.int .u64 f, .int .u64 p, .int .u64 d, .int .u64 rr, .int .u64 m], .int .i64 s] w fun e w' => e = .returned (.tuple #[.int .i64 ((σ.T.length : Int) + 1), .int .i64 0]) ∧ Cox L D F w { σ with T := σ.T ++ [Ta.mkT prio f p d R m s] } w' := by
 rcases hj with ⟨rfl, rfl⟩ | ⟨h1, h2, h3, h4, h5, rfl⟩
 ·refine (Ta.makeT C.tab prio f d rr m s hm hl).mono ?_
  rintro e w' ⟨rfl, X', h, s⟩
  obtain ⟨C', G'⟩ := C.setTab h s
  exact ⟨rfl, _, _, _, C', G'⟩
 ·refine (Ta.makeP C.tab prio f p d _ m s hm hl h1 h2 h3 h4 h5).mono ?_
  rintro e w' ⟨rfl, X', h, s⟩
  obtain ⟨C', G'⟩ := C.setTab h s
  exact ⟨rfl, _, _, _, C', G'⟩
def mkS (σ : CS) (x : Ta.TR) : CS := tellS { σ with T := σ.T ++ [x] } 1 (-1) ((σ.T.length : Int) + 1) 0
theorem mq_job : ¬ Qu.MQ 104 := by unfold Qu.MQ; decide
set_option maxHeartbeats 2000000 in
theorem begin_by (C : Co w L D F g v σ) (t : Int) (hl : σ.T.length < 200) (he : σ.ev.length < 1000000) (prio f p d rr R m s : Int) (hm : Ta.mayB prio s = true) (hj : JbOk f p d rr R) {σ' : CS}
  (hf : ∀ F1 g1 v1 w1, Co w1 L D F1 g1 v1 (mkS σ (Ta.mkT prio f p d R m s)) → Calls Tryz.prog 110 #[pt D.B, .int .i64 t, .int .i64 ((σ.T.length : Int) + 1), .agg #[.int .i64 0, .int .i64 s]] w1 fun e w' => e = .returned (.tuple #[]) ∧ Cox L D F1 w1 σ' w') :
  Calls Tryz.prog 48 #[pt D.B, .int .i64 t, .int .i64 prio, .slice none 0 0, .agg #[.int .u64 f, .int .u64 p, .int .u64 d, .int .u64 rr, .int .u64 m], .int .i64 s] w fun e w' => e = .returned (.int .i64 ((σ.T.length : Int) + 1)) ∧ Cox L D F w σ' w' := by
 obtain ⟨K, hK⟩ : ∃ J, w.heap.size = J := ⟨_, rfl⟩
 obtain ⟨u, hu⟩ : ∃ z, w.alloc (.cells #[.int .u64 f, .int .u64 p, .int .u64 d, .int .u64 rr, .int .u64 m] 104) = z := ⟨_, rfl⟩
 have b0 : Below w.heap.size w u.drew := by rw [← hu]; exact (belA _ _).drew
 have BK : Bx u.drew F K #[.int .u64 f, .int .u64 p, .int .u64 d, .int .u64 rr, .int .u64 m] 104 := by rw [← hu, ← hK]; exact Bx.new C _ _
 have C0 := C.below b0
 have c3 : u.drew.cell? ⟨D.B, 3, none⟩ = some (pt D.Bt) := C0.c3
 have k0 : u.drew.cell? ⟨K, 0, none⟩ = some (.int .u64 f) := BK.cell 0
 have k1 : u.drew.cell? ⟨K, 1, none⟩ = some (.int .u64 p) := BK.cell 1
 have k2 : u.drew.cell? ⟨K, 2, none⟩ = some (.int .u64 d) := BK.cell 2
 have k3 : u.drew.cell? ⟨K, 3, none⟩ = some (.int .u64 rr) := BK.cell 3
 have k4 : u.drew.cell? ⟨K, 4, none⟩ = some (.int .u64 m) := BK.cell 4
 obtain ⟨N1, hN1⟩ : ∃ N1, (σ.T.length : Int) + 1 = N1 := ⟨_, rfl⟩
 have PC : Aside (Calls Tryz.prog 109 #[pt D.Bt, .int .i64 prio, .slice none 0 0, .agg #[.int .u64 f, .int .u64 p, .int .u64 d, .int .u64 rr, .int .u64 m], .int .i64 s] u.drew fun e w' => e = .returned (.tuple #[.int .i64 N1, .int .i64 0]) ∧ ∃ F', (∃ g' v', Co w' L D F' g' v' { σ with T := σ.T ++ [Ta.mkT prio f p d R m s] }) ∧ Gc L F u.drew F' w' ∧ w'.cell? ⟨D.B, 3, none⟩ = some (pt D.Bt) ∧ w'.cell? ⟨K, 0, none⟩ = some (.int .u64 f) ∧ w'.cell? ⟨K, 1, none⟩ = some (.int .u64 p) ∧ w'.cell? ⟨K, 2, none⟩ = some (.int .u64 d) ∧ w'.cell? ⟨K, 3, none⟩ = some (.int .u64 rr) ∧ w'.cell? ⟨K, 4, none⟩ = some (.int .u64 m)) := by
  have := C0.makeC hl prio f p d rr R m s hm hj
  rw [hN1] at this
  refine this.mono ?_
  rintro e w' ⟨rfl, F4, g4, v4, C4, G4⟩
  have B4 := BK.gc mq_job G4
  exact ⟨rfl, F4, ⟨g4, v4, C4⟩, G4, C4.c3, B4.cell 0, B4.cell 1, B4.cell 2, B4.cell 3, B4.cell 4⟩
 have X0 : Aside (Gc L F w F u.drew ∧ σ.ev.length < 1000000) := ⟨Gc.below F C.lw b0, he⟩
 have HF : Aside (∀ F1 g1 v1 w1, Co w1 L D F1 g1 v1 (mkS σ (Ta.mkT prio f p d R m s)) → Calls Tryz.prog 110 #[pt D.B, .int .i64 t, .int .i64 N1, .agg #[.int .i64 0, .int .i64 s]] w1 fun e w' => e = .returned (.tuple #[]) ∧ Cox L D F1 w1 σ' w') := by rw [← hN1]; exact hf
 rw [hN1]
 have HN1 : Aside _ := hN1
 have HU : Aside _ := hu
 have HK : Aside _ := hK
 clear C C0 hu hK BK b0 hl hm hj hf hN1 he
 go_enter Tryz.func48, Tryz.ntmps48
 go_upto_region 1 with fail
 rw [HU.out]
 try simp only [HK.out]
 go_region_held3 (fun w' => w'.cell? ⟨D.B, 3, none⟩ = some (pt D.Bt) ∧ w'.cell? ⟨K, 0, none⟩ = some (.int .u64 f) ∧ w'.cell? ⟨K, 1, none⟩ = some (.int .u64 p) ∧ w'.cell? ⟨K, 2, none⟩ = some (.int .u64 d) ∧ w'.cell? ⟨K, 3, none⟩ = some (.int .u64 rr) ∧ w'.cell? ⟨K, 4, none⟩ = some (.int .u64 m)) (first | with_reducible exact ⟨c3, k0, k1, k2, k3, k4⟩ | with_reducible exact ⟨d3, e0, e1, e2, e3, e4⟩) ((go_at_call 109; (with_reducible refine Calls.mono PC.out ?_); rintro e w1 ⟨rfl, F1, ⟨g1, v1, C1⟩, G1, d3, e0, e1, e2, e3, e4⟩))
 clear c3 k0 k1 k2 k3 k4 d3 e0 e1 e2 e3 e4
 have P := tellC C1 X0.out.2 1 (-1) N1 0
 have X1 : Aside (Gc L F w F1 w1) := X0.out.1.trans G1
 clear C1 G1
 go_wp2_with fail
 refine P.mono ?_
 rintro e w2 ⟨rfl, ⟨F2, g2, v2, C2, G2⟩, _⟩
 clear P
 have C2' : Co w2 L D F2 g2 v2 (mkS σ (Ta.mkT prio f p d R m s)) := by
  unfold mkS
  rw [HN1.out]
  exact C2
 have P := HF.out F2 g2 v2 w2 C2'
 have X2 : Aside (Gc L F w F2 w2) := X1.out.trans G2
 clear C2 C2' G2 X1
 go_wp2_with fail
 refine P.mono ?_
 rintro e w3 ⟨rfl, F3, g3, v3, C3, G3⟩
 have FIN : Aside (Cox L D F w σ' w3) := ⟨F3, g3, v3, C3, X2.out.trans G3⟩
 clear P C3 G3 X2
 go_wp2_with fail
 go_ret
 exact ⟨rfl, FIN.out⟩
theorem mkS_at (σ : CS) (x : Ta.TR) : (mkS σ x).T[σ.T.length]? = some x := by
 show (σ.T ++ [x])[σ.T.length]? = some x
 simp
theorem mayB_of {prio s : Int} (h0 : 0 ≤ prio) (h7 : prio ≤ 7) (hs : s = 1 ∨ s = 2 ∨ s = 6) : Ta.mayB prio s = true := by
 rcases hs with rfl | rfl | rfl <;> simp [Ta.mayB, h0, h7] <;> decide
theorem begin2 (C : Co w L D F g v σ) {t : Nat} (ht : t < σ.th) (hl : σ.T.length < 200) (he : σ.ev.length + 1 < 1000000) (hn : σ.qn ≤ 1000) (htk : σ.tk < 1000000) (prio f p d rr R m : Int) (h0 : 0 ≤ prio) (h7 : prio ≤ 7) (hj : JbOk f p d rr R) :
  Calls Tryz.prog 48 #[pt D.B, .int .i64 t, .int .i64 prio, .slice none 0 0, .agg #[.int .u64 f, .int .u64 p, .int .u64 d, .int .u64 rr, .int .u64 m], .int .i64 2] w fun e w' => e = .returned (.int .i64 ((σ.T.length : Int) + 1)) ∧ Cox L D F w (relS (mkS σ (Ta.mkT prio f p d R m 2)) t σ.T.length (Ta.mkT prio f p d R m 2)) w' := by
 refine begin_by C t hl (by omega) prio f p d rr R m 2 (mayB_of h0 h7 (.inr (.inl rfl))) hj (fun F1 g1 v1 w1 C1 => ?_)
 refine follow_02 D.B t ((σ.T.length : Int) + 1) w1 (fun w2 b2 => ?_)
 refine (relC (C1.below b2) (by show (σ.ev ++ [_]).length < _; simp; omega) hn htk ht (mkS_at σ _)).mono ?_
 rintro e w3 ⟨rfl, F3, g3, v3, C3, G3⟩
 exact ⟨rfl, F3, g3, v3, C3, (Gc.below F1 C1.lw b2).trans G3⟩
theorem threadC (C : Co w L D F g v σ) {t : Nat} (ht : t < σ.th) :
  Calls Tryz.prog 63 #[pt D.B, .int .i64 t] w fun e w' => e = .returned (.bool true) ∧ w' = w := by
 have c0 := C.c0
 have h1 : (t : Int) < (σ.th : Int) := by omega
 have h2 : (0 : Int) ≤ (t : Int) := by omega
 clear C ht
 go_enter Tryz.func63, Tryz.ntmps63
 go_wp2_with fail
 go_ret
 exact ⟨rfl, rfl⟩
theorem rightC (C : Co w L D F g v σ) {t : Nat} (ht : t < σ.th) (prio : Int) (h0 : 0 ≤ prio) (h7 : prio ≤ 7) :
  Calls Tryz.prog 44 #[pt D.B, .int .i64 t, .int .i64 prio, .slice none 0 0] w fun e w' => e = .returned (.bool true) ∧ w' = w := by
 have P := threadC C ht
 have Q := Ta.bodyOk_nil w
 clear C ht
 go_enter Tryz.func44, Tryz.ntmps44
 go_wp2_with fail
 refine P.mono ?_
 rintro e w1 ⟨rfl, rfl⟩
 clear P
 go_wp2_with fail
 refine Q.mono ?_
 rintro e w1 ⟨rfl, rfl⟩
 clear Q
 go_wp2_with fail
 go_ret
 exact ⟨rfl, rfl⟩
theorem refuseC (C : Co w L D F g v σ) (hc : σ.cl = false) (hl : σ.T.length < 200) :
  Calls Tryz.prog 43 #[pt D.B, .bool true] w fun e w' => e = .returned (.int .i64 0) ∧ w' = w := by
 have c9 := C.c9
 have c3 := C.c3
 have P := Ta.lenT C.tab
 rw [hc] at c9
 have hl' : ¬ (200 : Int) ≤ (σ.T.length : Int) := by omega
 obtain ⟨N, hN⟩ : ∃ N, σ.T.length = N := ⟨_, rfl⟩
 rw [hN] at P hl'
 clear C hc hl hN
 go_enter Tryz.func43, Tryz.ntmps43
 go_wp2_with fail
 refine P.mono ?_
 rintro e w1 ⟨rfl, rfl⟩
 clear P
 go_wp2_with fail
 go_ret
 exact ⟨rfl, rfl⟩
theorem areNil (B : Nat) (w : World) : Calls Tryz.prog 45 #[pt B, .slice none 0 0] w fun e w' => e = .returned (.bool true) ∧ w' = w := by
 go_enter Tryz.func45, Tryz.ntmps45
 go_wp2_with fail
 go_loopw [6, 9] (fun s6 s9 wr => s9 = .int .i64 0 ∧ wr = w) (fun s6 s9 _ => 0)
 case atStart => exact ⟨rfl, rfl⟩
 case round =>
  obtain ⟨rfl, rfl⟩ := hrel
  go_wp2_with fail
  go_ret
  exact ⟨rfl, rfl⟩
theorem indNil (w : World) (fn : Value) : Calls Tryz.prog 107 #[.slice none 0 0, fn] w fun e w' => e = .returned (.int .i64 (-1)) ∧ w' = w := by
 go_enter Tryz.func107, Tryz.ntmps107
 go_wp2_with fail
 go_loopw [8] (fun s7 wr => s7 = .int .i64 0 ∧ wr = w) (fun s7 _ => 0)
 case atStart => exact ⟨rfl, rfl⟩
 case round =>
  obtain ⟨rfl, rfl⟩ := hrel
  go_wp2_with fail
  go_ret
  exact ⟨rfl, rfl⟩
theorem contNil (w : World) (fn : Value) : Calls Tryz.prog 46 #[.slice none 0 0, fn] w fun e w' => e = .returned (.bool false) ∧ w' = w := by
 go_enter Tryz.func46, Tryz.ntmps46
 go_wp2_with fail
 refine (indNil w fn).mono ?_
 rintro e w1 ⟨rfl, rfl⟩
 go_wp2_with fail
 go_ret
 exact ⟨rfl, rfl⟩
theorem notNil (B : Nat) (w : World) : Calls Tryz.prog 50 #[pt B, .slice none 0 0] w fun e w' => e = .returned (.slice none 0 0) ∧ w' = w := by
 go_enter Tryz.func50, Tryz.ntmps50
 go_wp2_with fail
 go_loopw [5, 7, 10] (fun s5 s7 s10 wr => s5 = .slice none 0 0 ∧ s10 = .int .i64 0 ∧ wr = w) (fun s5 s7 s10 _ => 0)
 case atStart => exact ⟨rfl, rfl, rfl⟩
 case round =>
  obtain ⟨rfl, rfl, rfl⟩ := hrel
  go_wp2_with fail
  go_ret
  exact ⟨rfl, rfl⟩
end Go.Proofs.YtjnpmipbkiambaaGreatDoor
namespace Go.Proofs.YtjnpmipbkiambaaGreatDoor
open Go.RowKit Go.Lib Go.WideMaps Go.Maps
set_option maxRecDepth 100000
set_option linter.unusedVariables false
variable {w w' u : World} {L i : Nat} {D : CAd} {F F' : Nat → Nat → Prop} {g v : Value} {σ : CS} {x : Ta.TR}
def crS (σ : CS) : CS := { σ with o := σ.o + 1, m := max σ.m (σ.o + 1) }
def subS (σ : CS) (t : Nat) (prio : Int) : CS := relS (mkS (crS σ) (Ta.mkT prio 0 0 0 0 0 2)) t σ.T.length (Ta.mkT prio 0 0 0 0 0 2)
theorem jb0 (f d rr : Int) : JbOk f 0 d rr 0 := .inl ⟨rfl, rfl⟩
set_option maxHeartbeats 2000000 in
theorem subC (C : Co w L D F g v σ) {t : Nat} (ht : t < σ.th) (hc : σ.cl = false) (hl : σ.T.length < 200) (ho : σ.o < σ.n) (he : σ.ev.length + 1 < 1000000) (hn : σ.qn ≤ 1000) (htk : σ.tk < 1000000) (prio : Int) (h0 : 0 ≤ prio) (h7 : prio ≤ 7) :
  Calls Tryz.prog 10 #[pt D.B, .int .i64 t, .int .i64 prio, .slice none 0 0, .slice none 0 0] w fun e w' => e = .returned (.tuple #[.int .i64 ((σ.T.length : Int) + 1), .int .i64 0]) ∧ Cox L D F w (subS σ t prio) w' := by
 have P1 := rightC C ht prio h0 h7
 have P2 := areNil D.B w
 have P3 := refuseC C hc hl
 have c7 := C.c7
 have P4 := C.credC ho
 have HH : Aside (t < σ.th ∧ σ.T.length < 200 ∧ σ.ev.length + 1 < 1000000 ∧ σ.qn ≤ 1000 ∧ σ.tk < 1000000 ∧ 0 ≤ prio ∧ prio ≤ 7) := ⟨ht, hl, he, hn, htk, h0, h7⟩
 obtain ⟨N1, hN1⟩ : ∃ N1, (σ.T.length : Int) + 1 = N1 := ⟨_, rfl⟩
 have HN1 : Aside _ := hN1
 rw [hN1]
 clear C ht hl he hn htk h0 h7 hc ho hN1
 go_enter Tryz.func10, Tryz.ntmps10
 go_wp2_with fail
 refine P1.mono ?_
 rintro e w1 ⟨rfl, rfl⟩
 clear P1
 go_wp2_with fail
 refine P2.mono ?_
 rintro e w1 ⟨rfl, rfl⟩
 clear P2
 go_wp2_with fail
 refine P3.mono ?_
 rintro e w1 ⟨rfl, rfl⟩
 clear P3
 go_wp2_with fail
 refine (contNil _ _).mono ?_
 rintro e w1 ⟨rfl, rfl⟩
 go_wp2_with fail
 refine P4.mono ?_
 rintro e w2 ⟨rfl, F2, g2, v2, C2, G2⟩
 clear P4 c7
 have X2 : Aside (Gc L F w1 F2 w2) := G2
 have P5 := begin2 C2 (t := t) HH.out.1 HH.out.2.1 HH.out.2.2.1 HH.out.2.2.2.1 HH.out.2.2.2.2.1 prio 0 0 0 0 0 0 HH.out.2.2.2.2.2.1 HH.out.2.2.2.2.2.2 (jb0 0 0 0)
 rw [show (({ σ with o := σ.o + 1, m := max σ.m (σ.o + 1) } : CS).T.length : Int) + 1 = N1 from HN1.out] at P5
 clear C2 G2
 go_wp2_with fail
 refine (notNil D.B _).mono ?_
 rintro e w3 ⟨rfl, rfl⟩
 go_wp2_with fail
 refine P5.mono ?_
 rintro e w4 ⟨rfl, F4, g4, v4, C4, G4⟩
 have FIN : Aside (Cox L D F w1 (subS σ t prio) w4) := ⟨F4, g4, v4, C4, X2.out.trans G4⟩
 clear P5 C4 G4
 go_wp2_with fail
 go_ret2
 exact ⟨rfl, FIN.out⟩
theorem taskC (C : Co w L D F g v σ) (hi : σ.T[i]? = some x) (hs : x.s ≠ 0) :
  Calls Tryz.prog 64 #[pt D.B, .int .i64 ((i : Int) + 1)] w fun e w' => e = .returned (.bool true) ∧ Cox L D F w σ w' := by
 have P := statusC C hi
 obtain ⟨s, hs'⟩ : ∃ s, x.s = s := ⟨_, rfl⟩
 rw [hs'] at P hs
 have hb : (s != 0) = true := by simpa using hs
 clear C hi hs' hs
 go_enter Tryz.func64, Tryz.ntmps64
 go_wp2_with fail
 refine P.mono ?_
 rintro e w1 ⟨rfl, C1⟩
 have FIN : Aside _ := C1
 clear P C1
 go_wp2_with fail
 go_ret
 exact ⟨rfl, FIN.out⟩
theorem turn34 (C : Co w L D F g v σ) {t : Nat} (ht : t < σ.th) (hi : σ.T[i]? = some x) (hs : x.s = 3) (hp : 0 ≤ x.p) (hid : Da.wfI ((i : Int) + 1)) (hN : σ.N < 1000000) (hl : σ.ev.length + 300 < 1000000) (hT : σ.T.length ≤ 200) (hq : σ.qn + σ.T.countP isW ≤ 1000) (htk : σ.tk < 1000000) (hw : ∀ j, σ.E ((i : Int) + 1) j → (∀ q, σ.E q j → q = (i : Int) + 1) → Wt σ.T j) :
  Calls Tryz.prog 66 #[pt D.B, .int .i64 t, .int .i64 ((i : Int) + 1), .int .i64 4] w fun e w' => e = .returned (.tuple #[]) ∧ ∃ d, DoneL σ.E ((i : Int) + 1) d ∧ Cox L D F w (relL t d { endS (turnS σ i x 4) t ((i : Int) + 1) with E := fun q j => σ.E q j ∧ q ≠ (i : Int) + 1 }) w' := by
 refine (turn_byZ C t hi hs hp (by decide) (Z := fun τ => ∃ d, DoneL σ.E ((i : Int) + 1) d ∧ τ = relL t d { endS (turnS σ i x 4) t ((i : Int) + 1) with E := fun q j => σ.E q j ∧ q ≠ (i : Int) + 1 }) (fun F1 g1 v1 w1 C1 => ?_)).mono ?_
 ·refine follow_34 D.B t ((i : Int) + 1) w1 (fun w2 b2 => ?_)
  have hx : σ.T.countP isW = (σ.T.set i (turnX x 4)).countP isW := by
   have := Ta.cntP_set isW σ.T i x (turnX x 4) hi
   have e1 : isW x = false := by simp [isW, hs]
   have e2 : isW (turnX x 4) = false := by simp [isW, (turnX_key x 4).2.2.1]
   rw [e1, e2] at this
   simpa using this.symm
  refine (endC (C1.below b2) ht hid hN hl (by show (σ.T.set i _).length ≤ 200; simpa using hT) (by show σ.qn + (σ.T.set i _).countP isW ≤ 1000; rw [← hx]; exact hq) htk (fun j h1 h2 => ?_)).mono ?_
  ·obtain ⟨k, y, e1, e2, e3, e4⟩ := hw j h1 h2
   refine ⟨k, y, e1, ?_, e3, e4⟩
   show (σ.T.set i _)[k]? = some y
   rw [List.getElem?_set_ne (fun e => ?_)]
   ·exact e2
   ·rw [← e, hi] at e2
    injection e2 with e2
    rw [e2] at hs
    omega
  ·rintro e w3 ⟨rfl, d, dl, F3, g3, v3, C3, G3⟩
   exact ⟨rfl, _, ⟨d, dl, rfl⟩, F3, g3, v3, C3, (Gc.below F1 C1.lw b2).trans G3⟩
 ·rintro e w' ⟨rfl, τ, ⟨d, dl, rfl⟩, X⟩
  exact ⟨rfl, d, dl, X⟩
set_option maxHeartbeats 2000000 in
theorem claimC (C : Co w L D F g v σ) {t : Nat} (ht : t < σ.th) (hi : σ.T[i]? = some x) (hs : x.s = 2) (hp : 0 ≤ x.p) (hl : σ.ev.length < 1000000) (hn : σ.qn ≤ 1000) (htk : σ.tk < 1000000) :
  Calls Tryz.prog 14 #[pt D.B, .int .i64 t, .agg #[.int .u64 x.key, .int .i64 ((i : Int) + 1)]] w fun e w' => e = .returned (.int .i64 0) ∧ Cox L D F w (handS (turnS σ i x 3) t i (turnX x 3)) w' := by
 obtain ⟨K, hK⟩ : ∃ J, w.heap.size = J := ⟨_, rfl⟩
 obtain ⟨KY, hKY⟩ : ∃ J, x.key = J := ⟨_, rfl⟩
 obtain ⟨I1, hI1⟩ : ∃ J, (i : Int) + 1 = J := ⟨_, rfl⟩
 obtain ⟨u, hu⟩ : ∃ z, w.alloc (.cells #[.int .u64 KY, .int .i64 I1] 43) = z := ⟨_, rfl⟩
 have b0 : Below w.heap.size w u := by rw [← hu]; exact belA _ _
 have BK : Bx u F K #[.int .u64 KY, .int .i64 I1] 43 := by rw [← hu, ← hK]; exact Bx.new C _ _
 have C0 := C.below b0
 have P1 := threadC C0 ht
 have P2 := taskC C0 hi (by omega)
 rw [hI1] at P2
 have k1 : u.cell? ⟨K, 1, none⟩ = some (.int .i64 I1) := BK.cell 1
 have HH : Aside (t < σ.th ∧ σ.T[i]? = some x ∧ x.s = 2 ∧ 0 ≤ x.p ∧ σ.ev.length < 1000000 ∧ σ.qn ≤ 1000 ∧ σ.tk < 1000000 ∧ x.key = KY ∧ (i : Int) + 1 = I1) := ⟨ht, hi, hs, hp, hl, hn, htk, hKY, hI1⟩
 have X0 : Aside (Gc L F w F u ∧ Bx u F K #[.int .u64 KY, .int .i64 I1] 43) := ⟨Gc.below F C.lw b0, BK⟩
 have HU : Aside _ := hu
 have HK : Aside _ := hK
 rw [hKY, hI1]
 clear C C0 ht hi hs hp hl hn htk hKY hI1 hu hK BK b0
 go_enter Tryz.func14, Tryz.ntmps14
 go_upto_region 1 with fail
 rw [HU.out]
 try simp only [HK.out]
 go_wp2_with fail
 refine P1.mono ?_
 rintro e w1 ⟨rfl, rfl⟩
 clear P1
 go_wp2_with fail
 refine P2.mono ?_
 rintro e w2 ⟨rfl, F2, g2, v2, C2, G2⟩
 clear P2 k1
 have B2 := X0.out.2.gc mq_ent G2
 have X2 : Aside (Gc L F w F2 w2.drew ∧ Bx w2.drew F2 K #[.int .u64 KY, .int .i64 I1] 43) := ⟨(X0.out.1.trans G2).trans (Gc.below F2 C2.lw (Below.refl _ _).drew), B2⟩
 have k0 : w2.drew.cell? ⟨K, 0, none⟩ = some (.int .u64 KY) := B2.cell 0
 have k1 : w2.drew.cell? ⟨K, 1, none⟩ = some (.int .i64 I1) := B2.cell 1
 have PS : Aside (Calls Tryz.prog 20 #[pt D.B, .int .i64 I1] w2.drew fun e w' => e = .returned (.int .i64 2) ∧ ∃ F', (∃ g' v', Co w' L D F' g' v' σ) ∧ Gc L F w F' w' ∧ Bx w' F' K #[.int .u64 KY, .int .i64 I1] 43 ∧ w'.cell? ⟨K, 0, none⟩ = some (.int .u64 KY) ∧ w'.cell? ⟨K, 1, none⟩ = some (.int .i64 I1)) := by
  have := statusC C2.drew HH.out.2.1
  rw [HH.out.2.2.1, HH.out.2.2.2.2.2.2.2.2] at this
  refine this.mono ?_
  rintro e w' ⟨rfl, F4, g4, v4, C4, G4⟩
  have B4 := X2.out.2.gc mq_ent G4
  exact ⟨rfl, F4, ⟨g4, v4, C4⟩, X2.out.1.trans G4, B4, B4.cell 0, B4.cell 1⟩
 have PE : Aside (∀ (W : World) F3 g3 v3, Co W L D F3 g3 v3 σ → Gc L F w F3 W → Bx W F3 K #[.int .u64 KY, .int .i64 I1] 43 → Calls Tryz.prog 65 #[pt D.B, .int .i64 I1] W fun e w' => e = .returned (.agg #[.int .u64 KY, .int .i64 I1]) ∧ ∃ F', (∃ g' v', Co w' L D F' g' v' σ) ∧ Gc L F w F' w' ∧ Bx w' F' K #[.int .u64 KY, .int .i64 I1] 43 ∧ w'.cell? ⟨K, 0, none⟩ = some (.int .u64 KY) ∧ w'.cell? ⟨K, 1, none⟩ = some (.int .i64 I1)) := by
  intro W F3 g3 v3 C3 G3 B3
  have := entryC C3 HH.out.2.1
  rw [HH.out.2.2.2.2.2.2.2.1, HH.out.2.2.2.2.2.2.2.2] at this
  refine this.mono ?_
  rintro e w' ⟨rfl, F4, g4, v4, C4, G4⟩
  have B4 := B3.gc mq_ent G4
  exact ⟨rfl, F4, ⟨g4, v4, C4⟩, G3.trans G4, B4, B4.cell 0, B4.cell 1⟩
 clear C2 G2 B2
 go_upto_region 3 with fail
 go_region_held3 (fun w' => w'.cell? ⟨K, 0, none⟩ = some (.int .u64 KY) ∧ w'.cell? ⟨K, 1, none⟩ = some (.int .i64 I1)) (first | with_reducible exact ⟨k0, k1⟩ | with_reducible exact ⟨e0, e1⟩ | with_reducible exact ⟨f0, f1⟩) ((first | (go_at_call 65; (with_reducible refine Calls.mono (PE.out w3 F3 g3 v3 C3 G3 B3) ?_); rintro e w4 ⟨rfl, F4, ⟨g4, v4, C4⟩, G4, B4, f0, f1⟩) | (go_at_call 20; (with_reducible refine Calls.mono PS.out ?_); rintro e w3 ⟨rfl, F3, ⟨g3, v3, C3⟩, G3, B3, e0, e1⟩)))
 have P := turn23 C4 HH.out.2.2.2.2.1 HH.out.2.2.2.2.2.1 HH.out.2.2.2.2.2.2.1 t HH.out.2.1 HH.out.2.2.1 HH.out.2.2.2.1
 rw [HH.out.2.2.2.2.2.2.2.2] at P
 have X4 : Aside (Gc L F w F4 w4) := G4
 have flt := lt_of_block B4.1
 clear C3 G3 B3 C4 G4 B4 k0 k1 e0 e1 f0
 go_wp2_with fail
 refine P.mono ?_
 rintro e w5 ⟨rfl, F5, g5, v5, C5, G5⟩
 have FIN : Aside (Cox L D F w (handS (turnS σ i x 3) t i (turnX x 3)) w5) := ⟨F5, g5, v5, C5, X4.out.trans G5⟩
 clear P C5 G5 X4 f1 flt
 go_wp2_with fail
 go_ret
 exact ⟨rfl, FIN.out⟩
end Go.Proofs.YtjnpmipbkiambaaGreatDoor
namespace Go.Proofs.YtjnpmipbkiambaaGreatDoor
open Go.RowKit Go.Lib Go.WideMaps Go.Maps
set_option maxRecDepth 100000
set_option linter.unusedVariables false
variable {w w' u : World} {L i : Nat} {D : CAd} {F F' : Nat → Nat → Prop} {g v : Value} {σ : CS} {x : Ta.TR}
set_option maxHeartbeats 2000000 in
theorem finC (C : Co w L D F g v σ) {t : Nat} (ht : t < σ.th) (hi : σ.T[i]? = some x) (hs : x.s = 3) (hp : x.p = 0) (hid : Da.wfI ((i : Int) + 1)) (hN : σ.N < 1000000) (hl : σ.ev.length + 300 < 1000000) (hT : σ.T.length ≤ 200) (hq : σ.qn + σ.T.countP isW ≤ 1000) (htk : σ.tk < 1000000) (hw : ∀ j, σ.E ((i : Int) + 1) j → (∀ q, σ.E q j → q = (i : Int) + 1) → Wt σ.T j) :
  Calls Tryz.prog 15 #[pt D.B, .int .i64 t, .int .i64 ((i : Int) + 1), .bool true] w fun e w' => e = .returned (.int .i64 0) ∧ ∃ d, DoneL σ.E ((i : Int) + 1) d ∧ Cox L D F w (relL t d { endS (turnS σ i x 4) t ((i : Int) + 1) with E := fun q j => σ.E q j ∧ q ≠ (i : Int) + 1 }) w' := by
 have P1 := threadC C ht
 have P2 := taskC C hi (by omega)
 have P6 : Aside (∀ (W : World) F3 g3 v3, Co W L D F3 g3 v3 σ → Calls Tryz.prog 66 #[pt D.B, .int .i64 t, .int .i64 ((i : Int) + 1), .int .i64 4] W fun e w' => e = .returned (.tuple #[]) ∧ ∃ d, DoneL σ.E ((i : Int) + 1) d ∧ Cox L D F3 W (relL t d { endS (turnS σ i x 4) t ((i : Int) + 1) with E := fun q j => σ.E q j ∧ q ≠ (i : Int) + 1 }) w') := fun W F3 g3 v3 C3 => turn34 C3 ht hi hs (by omega) hid hN hl hT hq htk hw
 have HH : Aside (σ.T[i]? = some x ∧ x.s = 3 ∧ x.p = 0) := ⟨hi, hs, hp⟩
 clear C ht hi hs hp hid hN hl hT hq htk hw
 go_enter Tryz.func15, Tryz.ntmps15
 go_wp2_with fail
 refine P1.mono ?_
 rintro e w1 ⟨rfl, rfl⟩
 clear P1
 go_wp2_with fail
 refine P2.mono ?_
 rintro e w2 ⟨rfl, F2, g2, v2, C2, G2⟩
 clear P2
 have P := statusC C2 HH.out.1
 rw [HH.out.2.1] at P
 have X2 : Aside (Gc L F w1 F2 w2) := G2
 clear C2 G2
 go_wp2_with fail
 refine P.mono ?_
 rintro e w3 ⟨rfl, F3, g3, v3, C3, G3⟩
 clear P
 have C3d := C3.drew
 have X3 : Aside (Gc L F w1 F3 w3.drew ∧ Co w3.drew L D F3 g3 v3 σ) := ⟨(X2.out.trans G3).trans (Gc.below F3 C3.lw (Below.refl _ _).drew), C3d⟩
 have c3 : w3.drew.cell? ⟨D.B, 3, none⟩ = some (pt D.Bt) := C3d.c3
 have c5 : w3.drew.cell? ⟨D.B, 5, none⟩ = some (pt D.Bw) := C3d.c5
 have NW : Aside (Calls Tryz.prog 52 #[pt D.Bw] w3.drew fun e w' => e = .returned (.int .u64 σ.now) ∧ w' = w3.drew) := Wl.now_any C3d.whl
 have AG : Aside (Calls Tryz.prog 67 #[pt D.Bt, .int .i64 ((i : Int) + 1), .int .u64 σ.now] w3.drew fun e w' => e = .returned (.tuple #[.int .u64 0, .bool false]) ∧ Below w3.drew.heap.size w3.drew w' ∧ w'.cell? ⟨D.B, 3, none⟩ = some (pt D.Bt) ∧ w'.cell? ⟨D.B, 5, none⟩ = some (pt D.Bw)) := by
  refine (Ta.againZ C3d.tab HH.out.1 σ.now HH.out.2.2).mono ?_
  rintro e w' ⟨rfl, b⟩
  exact ⟨rfl, b, (C3d.below b).c3, (C3d.below b).c5⟩
 clear C3 C3d G3 X2
 go_upto_region 5 with fail
 go_region_held3 (fun w' => w'.cell? ⟨D.B, 3, none⟩ = some (pt D.Bt) ∧ w'.cell? ⟨D.B, 5, none⟩ = some (pt D.Bw)) (first | with_reducible exact ⟨c3, c5⟩ | with_reducible exact ⟨d3, d5⟩) ((first | (go_at_call 52; (with_reducible refine Calls.mono NW.out ?_); rintro e v2 ⟨rfl, rfl⟩) | (go_at_call 67; (with_reducible refine Calls.mono AG.out ?_); rintro e w4 ⟨rfl, b4, d3, d5⟩)))
 have C4 := X3.out.2.below b4
 have P := P6.out w4 F3 g3 v3 C4
 have X4 : Aside (Gc L F w1 F3 w4) := X3.out.1.trans (Gc.below F3 X3.out.2.lw b4)
 clear C4 b4 c3 c5 d3 d5
 go_wp2_with fail
 refine P.mono ?_
 rintro e w5 ⟨rfl, d, dl, F5, g5, v5, C5, G5⟩
 have FIN : Aside (∃ d, DoneL σ.E ((i : Int) + 1) d ∧ Cox L D F w1 (relL t d { endS (turnS σ i x 4) t ((i : Int) + 1) with E := fun q j => σ.E q j ∧ q ≠ (i : Int) + 1 }) w5) := ⟨d, dl, F5, g5, v5, C5, X4.out.trans G5⟩
 clear P C5 G5 X4 dl
 go_wp2_with fail
 go_ret
 exact ⟨rfl, FIN.out⟩
end Go.Proofs.YtjnpmipbkiambaaGreatDoor
namespace Go.Proofs.YtjnpmipbkiambaaGreatDoor
open Go.RowKit Go.Lib Go.WideMaps Go.Maps
set_option maxRecDepth 100000
set_option linter.unusedVariables false
variable {w w' u : World} {L i : Nat} {D : CAd} {F F' : Nat → Nat → Prop} {g v : Value} {σ : CS} {x : Ta.TR}
theorem chooseC (a b z : Int × Int) (t : Int) (hz : z = if a.1 ≤ t then a else b) (w : World) :
  Calls Tryz.prog 61 #[.agg #[.int .u64 a.1, .int .i64 a.2], .agg #[.int .u64 b.1, .int .i64 b.2], .int .u64 t] w fun e w' => e = .returned (.agg #[.int .u64 z.1, .int .i64 z.2]) ∧ Below w.heap.size w w' := by
 refine (Ag.choose_any a b t w).mono ?_
 rintro e w' ⟨rfl, h⟩
 subst hz
 by_cases c : a.1 ≤ t
 ·rw [if_pos c, if_pos c]; exact ⟨rfl, h⟩
 ·rw [if_neg c, if_neg c]; exact ⟨rfl, h⟩
set_option maxHeartbeats 4000000 in
theorem lookC (C : Co w L D F g v σ) {t dr : Nat} (ht : t < σ.th) (hdr : dr < 18446744073709551616) (hn : σ.qn ≤ 1000) (hl : σ.ev.length < 1000000) {x y z : Qu.Ent} (hx : Qu.relaxQ σ.q σ.th σ.k t dr = (x, true)) (hy : Qu.unl (Qu.leastQ σ.q σ.th) = y) (hz : z = if y.1 ≤ (σ.tk : Int) then y else x) :
  Calls Tryz.prog 13 #[pt D.B, .int .i64 t, .int .u64 dr] w fun e w' => e = .returned (.tuple #[.agg #[.int .u64 z.1, .int .i64 z.2], .bool true]) ∧ Cox L D F w (tellS σ 10 t z.2 z.1) w' := by
 obtain ⟨K, hK⟩ : ∃ J, w.heap.size = J := ⟨_, rfl⟩
 obtain ⟨u, hu⟩ : ∃ q, w.alloc (.cells #[.int .u64 0, .int .i64 0] 43) = q := ⟨_, rfl⟩
 have b0 : Below w.heap.size w u := by rw [← hu]; exact belA _ _
 have hB : u.heap[K]? = some (.cells #[.int .u64 0, .int .i64 0] 43 (0, 0)) := by rw [← hu, ← hK]; exact heap_alloc_new w _
 have C0 := C.below b0
 have c4 := C0.c4
 have P := Qu.relaxed_in u L D.A σ.th σ.k σ.qn σ.q t dr C0.que C0.qok hn C0.k16 ht C0.th8 hdr
 rw [hx] at P
 have HC : Aside (Co w L D F g v σ ∧ w.heap.size = K ∧ σ.qn ≤ 1000 ∧ σ.ev.length < 1000000) := ⟨C, hK, hn, hl⟩
 have X0 : Aside (Below w.heap.size w u ∧ u.heap[K]? = some (.cells #[.int .u64 0, .int .i64 0] 43 (0, 0))) := ⟨b0, hB⟩
 have HY : Aside (Qu.unl (Qu.leastQ σ.q σ.th) = y) := hy
 obtain ⟨x1, x2⟩ := x
 obtain ⟨y1, y2⟩ := y
 obtain ⟨z1, z2⟩ := z
 have CH : Aside (∀ W, Calls Tryz.prog 61 #[.agg #[.int .u64 y1, .int .i64 y2], .agg #[.int .u64 x1, .int .i64 x2], .int .u64 σ.tk] W fun e w' => e = .returned (.agg #[.int .u64 z1, .int .i64 z2]) ∧ Below W.heap.size W w') := fun W => chooseC (y1, y2) (x1, x2) (z1, z2) σ.tk hz W
 have HU : Aside _ := hu
 clear C C0 hx hy hz hu hB b0 hn hl
 go_enter Tryz.func13, Tryz.ntmps13
 go_upto_region 1 with fail
 rw [HU.out]
 go_wp2_with fail
 refine Calls.mono P ?_
 rintro e w1 ⟨rfl, b1⟩
 clear P c4
 obtain ⟨K8, hK8⟩ : ∃ J, w1.heap.size = J := ⟨_, rfl⟩
 obtain ⟨u1, hu1⟩ : ∃ q, w1.alloc (.cells #[.int .u64 x1, .int .i64 x2] 43) = q := ⟨_, rfl⟩
 have b2 : Below w1.heap.size w1 u1 := by rw [← hu1]; exact belA _ _
 have h8 : u1.heap[K8]? = some (.cells #[.int .u64 x1, .int .i64 x2] 43 (0, 0)) := by rw [← hu1, ← hK8]; exact heap_alloc_new w1 _
 have X1 : Aside (Below w.heap.size w u1 ∧ u1.heap[K]? = some (.cells #[.int .u64 0, .int .i64 0] 43 (0, 0)) ∧ u1.heap[K8]? = some (.cells #[.int .u64 x1, .int .i64 x2] 43 (0, 0))) := ⟨belT X0.out.1 (belT b1 b2), ((belT b1 b2).block K (lt_of_block X0.out.2)).trans X0.out.2, h8⟩
 have C1 := HC.out.1.below X1.out.1
 have c4 := C1.c4
 have P := Qu.qleast_any u1 L D.A σ.th σ.k σ.qn σ.q C1.que C1.qok HC.out.2.2.1 C1.k16 C1.th1 C1.th8
 rw [HY.out] at P
 obtain ⟨fl, hfl⟩ : ∃ b, Qu.unb (Qu.leastQ σ.q σ.th) = b := ⟨_, rfl⟩
 rw [hfl] at P
 have HU1 : Aside _ := hu1
 have HK8 : Aside _ := hK8
 clear hu1 hK8 b1 b2 h8 C1 hfl
 go_upto_region 4 with fail
 rw [HU1.out]
 simp only [HK8.out]
 go_wp2_with fail
 refine Calls.mono P ?_
 rintro e w2 ⟨rfl, b3⟩
 clear P c4
 obtain ⟨K10, hK10⟩ : ∃ J, w2.heap.size = J := ⟨_, rfl⟩
 obtain ⟨u2, hu2⟩ : ∃ q, w2.alloc (.cells #[.int .u64 y1, .int .i64 y2] 43) = q := ⟨_, rfl⟩
 have b4 : Below w2.heap.size w2 u2 := by rw [← hu2]; exact belA _ _
 have h10 : u2.heap[K10]? = some (.cells #[.int .u64 y1, .int .i64 y2] 43 (0, 0)) := by rw [← hu2, ← hK10]; exact heap_alloc_new w2 _
 have X2 : Aside (Below w.heap.size w u2.drew ∧ u2.drew.heap[K]? = some (.cells #[.int .u64 0, .int .i64 0] 43 (0, 0)) ∧ u2.drew.heap[K8]? = some (.cells #[.int .u64 x1, .int .i64 x2] 43 (0, 0)) ∧ u2.drew.heap[K10]? = some (.cells #[.int .u64 y1, .int .i64 y2] 43 (0, 0))) := ⟨(belT X1.out.1 (belT b3 b4)).drew, ((belT b3 b4).block K (lt_of_block X1.out.2.1)).trans X1.out.2.1, ((belT b3 b4).block K8 (lt_of_block X1.out.2.2)).trans X1.out.2.2, h10⟩
 have C2 := HC.out.1.below X2.out.1
 have c8 : u2.drew.cell? ⟨D.B, 8, none⟩ = some (.int .u64 σ.tk) := C2.c8
 obtain ⟨x0, xx1⟩ := bx2 X2.out.2.2.1
 obtain ⟨y0, yy1⟩ := bx2 X2.out.2.2.2
 have KP : Aside (∀ W : World, Below u2.heap.size u2 W → W.cell? ⟨D.B, 8, none⟩ = some (.int .u64 σ.tk) ∧ W.cell? ⟨K8, 0, none⟩ = some (.int .u64 x1) ∧ W.cell? ⟨K8, 1, none⟩ = some (.int .i64 x2) ∧ W.cell? ⟨K10, 0, none⟩ = some (.int .u64 y1) ∧ W.cell? ⟨K10, 1, none⟩ = some (.int .i64 y2)) := by
  intro W b
  obtain ⟨p0, p1⟩ := bx2 ((b.block K8 (lt_of_block X2.out.2.2.1)).trans X2.out.2.2.1)
  obtain ⟨q0, q1⟩ := bx2 ((b.block K10 (lt_of_block X2.out.2.2.2)).trans X2.out.2.2.2)
  have b' : Below u2.drew.heap.size u2.drew W := ⟨b.os, b.tape, b.output, b.size, b.block⟩
  exact ⟨(C2.below b').c8, p0, p1, q0, q1⟩
 have hb0 : Below u2.heap.size u2 u2.drew := (Below.refl _ _).drew
 have hbA : Below u2.heap.size u2 (u2.alloc (.cells #[.int .u64 0, .int .i64 0] 43)).drew := ((Below.refl _ _).alloc (Nat.le_refl _) _).drew
 obtain ⟨a8, a0, a1, a2, a3⟩ := KP.out _ hbA
 have X2K : Aside (u2.heap[K]? = some (.cells #[.int .u64 0, .int .i64 0] 43 (0, 0)) ∧ Below w.heap.size w u2) := ⟨X2.out.2.1, ⟨X2.out.1.os, X2.out.1.tape, X2.out.1.output, X2.out.1.size, X2.out.1.block⟩⟩
 obtain ⟨N2, hN2⟩ : ∃ J, u2.heap.size = J := ⟨_, rfl⟩
 have hbx : (u2.alloc (.cells #[.int .u64 0, .int .i64 0] 43)).drew.heap[N2]? = some (.cells #[.int .u64 0, .int .i64 0] 43 (0, 0)) := by rw [← hN2]; exact heap_alloc_new u2 _
 have HBX : Aside _ := hbx
 have HN2 : Aside _ := hN2
 have HU2 : Aside _ := hu2
 have HK10 : Aside _ := hK10
 clear hu2 hK10 b3 b4 h10 C2 hbx
 go_upto_region 5 with fail
 rw [HU2.out]
 simp only [HK10.out]
 go_cut [12] from 34 to 40 (fun s12 wx => ∃ (T : Nat), s12 = .pointer (some ⟨T, 0, none⟩) ∧ Below u2.heap.size u2 wx ∧ wx.heap[T]? = some (.cells #[.int .u64 z1, .int .i64 z2] 43 (0, 0)) ∧ u2.heap.size ≤ T)
 case first =>
  go_region_held3 (fun w' => w'.cell? ⟨D.B, 8, none⟩ = some (.int .u64 σ.tk) ∧ w'.cell? ⟨K8, 0, none⟩ = some (.int .u64 x1) ∧ w'.cell? ⟨K8, 1, none⟩ = some (.int .i64 x2) ∧ w'.cell? ⟨K10, 0, none⟩ = some (.int .u64 y1) ∧ w'.cell? ⟨K10, 1, none⟩ = some (.int .i64 y2)) (first | with_reducible exact ⟨c8, x0, xx1, y0, yy1⟩ | with_reducible exact ⟨a8, a0, a1, a2, a3⟩ | with_reducible exact ⟨d8, p0, p1, q0, q1⟩ | with_reducible exact KP.out _ (h3.alloc h3.size _) | with_reducible exact KP.out _ ((h3.setCell (Nat.le_of_eq HN2.out) _).setCell (Nat.le_of_eq HN2.out) _)) ((go_at_call 61; first | ((with_reducible refine Calls.mono (CH.out u2.drew) ?_); rintro e w3 ⟨rfl, b5⟩; have h3 : Below u2.heap.size u2 w3 := belT hb0 b5; obtain ⟨d8, p0, p1, q0, q1⟩ := KP.out w3 h3) | ((with_reducible refine Calls.mono (CH.out (u2.alloc (.cells #[.int .u64 0, .int .i64 0] 43)).drew) ?_); rintro e w3 ⟨rfl, b5⟩; have h3 : Below u2.heap.size u2 w3 := belT hbA b5; obtain ⟨d8, p0, p1, q0, q1⟩ := KP.out w3 h3; have hb3 : w3.heap[N2]? = some (.cells #[.int .u64 0, .int .i64 0] 43 (0, 0)) := (b5.block N2 (lt_of_block HBX.out)).trans HBX.out; obtain ⟨m0, m1⟩ := bx2 hb3; have mlt := lt_of_block hb3; have mfz : ∀ o, w3.frozen? ⟨N2, o, none⟩ = false := (fun o => by simp [World.frozen?, hb3]))))
  all_goals go_wp2_with fail
  all_goals go_meet
  ·exact ⟨w3.heap.size, rfl, h3.alloc h3.size _, heap_alloc_new w3 _, h3.size⟩
  ·exact ⟨N2, rfl, (h3.setCell (Nat.le_of_eq HN2.out) _).setCell (Nat.le_of_eq HN2.out) _, set_at (set_at hb3 _) _, Nat.le_of_eq HN2.out⟩
 case rest =>
  obtain ⟨T, rfl, bw, hT, lT⟩ := hcut
  have XW : Aside (Below w.heap.size w wc) := belT X2K.out.2 bw
  have hKw : wc.heap[K]? = some (.cells #[.int .u64 0, .int .i64 0] 43 (0, 0)) := (bw.block K (lt_of_block X2K.out.1)).trans X2K.out.1
  have BT : Bx wc F T #[.int .u64 z1, .int .i64 z2] 43 := ⟨hT, fun p hp => by have := HC.out.1.fp.lt p T hp; have := X2K.out.2.size; omega⟩
  have BK : Bx wc F K #[.int .u64 0, .int .i64 0] 43 := ⟨hKw, fun p hp => by have := HC.out.1.fp.lt p K hp; have := HC.out.2.1; omega⟩
  have Cc := HC.out.1.below XW.out
  have P := tellC Cc HC.out.2.2.2 10 t z2 z1
  obtain ⟨t0, t1⟩ := bx2 hT
  have tlt := lt_of_block hT
  have BB : Aside (Bx wc F T #[.int .u64 z1, .int .i64 z2] 43 ∧ Bx wc F K #[.int .u64 0, .int .i64 0] 43) := ⟨BT, BK⟩
  clear bw hT lT hKw BT BK Cc c8 x0 xx1 y0 yy1 a8 a0 a1 a2 a3 hb0 hbA hN2
  go_wp2_with fail
  refine P.mono ?_
  rintro e w4 ⟨rfl, ⟨F4, g4, v4, C4, G4⟩, Q4⟩
  clear P t0 t1 tlt
  have B4 := BB.out.1.gc mq_ent G4
  have K4 := BB.out.2.gc mq_ent G4
  obtain ⟨t0, t1⟩ := bx2 B4.1
  have tlt := lt_of_block B4.1
  obtain ⟨k0, k1⟩ := bx2 K4.1
  have klt := lt_of_block K4.1
  have kfz : ∀ o, w4.frozen? ⟨K, o, none⟩ = false := (fun o => by simp [World.frozen?, K4.1])
  have E : Aside (((w4.setCell ⟨K, 0, none⟩ (.int .u64 z1)).setCell ⟨K, 1, none⟩ (.int .i64 z2)).heap[K]? = some (.cells #[.int .u64 z1, .int .i64 z2] 43 (0, 0))) := set_at (set_at K4.1 _) _
  have FIN : Aside (Cox L D F w (tellS σ 10 t z2 z1) ((w4.setCell ⟨K, 0, none⟩ (.int .u64 z1)).setCell ⟨K, 1, none⟩ (.int .i64 z2))) := by
   have G : Gc L F w F4 w4 := (Gc.below F HC.out.1.lw XW.out).trans G4
   have Q : Gq F w w4 := (Gq.below F XW.out).trans (Gc.below F HC.out.1.lw XW.out) Q4
   have f : Ta.Fr (fun k => k = K) w4 ((w4.setCell ⟨K, 0, none⟩ (.int .u64 z1)).setCell ⟨K, 1, none⟩ (.int .i64 z2)) := (Ta.Fr.setCell (fun k => k = K) w4 K 0 (.int .u64 z1) rfl).trans (Ta.Fr.setCell (fun k => k = K) _ K 1 (.int .i64 z2) rfl) (fun j hj => .inl hj)
   obtain ⟨C5, G5, _⟩ := HC.out.1.box C4 G Q rfl rfl rfl (Nat.le_of_eq HC.out.2.1) klt K4.2 f
   exact ⟨F4, g4, v4, C5, G5⟩
  clear C4 G4 Q4 B4 K4
  go_wp2_with fail
  have eb := fun j => cell_of_row _ _ j _ _ _ E.out
  have q0 := eb 0
  have q1 := eb 1
  refine bodyPost_ret (v := .tuple #[.agg #[.int .u64 z1, .int .i64 z2], .bool true]) (by simp [results, Tryz.results13, go_sem, q0, q1]) rfl ⟨rfl, ?_⟩
  exact FIN.out
theorem claimL (C : Co w L D F g v σ) {t : Nat} (ht : t < σ.th) (hi : σ.T[i]? = some x) (hs : x.s = 3) (k : Int) :
  Calls Tryz.prog 14 #[pt D.B, .int .i64 t, .agg #[.int .u64 k, .int .i64 ((i : Int) + 1)]] w fun e w' => e = .returned (.int .i64 8) ∧ Cox L D F w σ w' := by
 obtain ⟨K, hK⟩ : ∃ J, w.heap.size = J := ⟨_, rfl⟩
 obtain ⟨I1, hI1⟩ : ∃ J, (i : Int) + 1 = J := ⟨_, rfl⟩
 obtain ⟨u, hu⟩ : ∃ z, w.alloc (.cells #[.int .u64 k, .int .i64 I1] 43) = z := ⟨_, rfl⟩
 have b0 : Below w.heap.size w u := by rw [← hu]; exact belA _ _
 have BK : Bx u F K #[.int .u64 k, .int .i64 I1] 43 := by rw [← hu, ← hK]; exact Bx.new C _ _
 have C0 := C.below b0
 have P1 := threadC C0 ht
 have P2 := taskC C0 hi (by omega)
 rw [hI1] at P2
 have k1 : u.cell? ⟨K, 1, none⟩ = some (.int .i64 I1) := BK.cell 1
 have HH : Aside (σ.T[i]? = some x ∧ x.s = 3 ∧ (i : Int) + 1 = I1) := ⟨hi, hs, hI1⟩
 have X0 : Aside (Gc L F w F u ∧ Bx u F K #[.int .u64 k, .int .i64 I1] 43) := ⟨Gc.below F C.lw b0, BK⟩
 have HU : Aside _ := hu
 have HK : Aside _ := hK
 rw [hI1]
 clear C C0 ht hi hs hI1 hu hK BK b0
 go_enter Tryz.func14, Tryz.ntmps14
 go_upto_region 1 with fail
 rw [HU.out]
 try simp only [HK.out]
 go_wp2_with fail
 refine P1.mono ?_
 rintro e w1 ⟨rfl, rfl⟩
 clear P1
 go_wp2_with fail
 refine P2.mono ?_
 rintro e w2 ⟨rfl, F2, g2, v2, C2, G2⟩
 clear P2 k1
 have B2 := X0.out.2.gc mq_ent G2
 have X2 : Aside (Gc L F w F2 w2.drew ∧ Bx w2.drew F2 K #[.int .u64 k, .int .i64 I1] 43) := ⟨(X0.out.1.trans G2).trans (Gc.below F2 C2.lw (Below.refl _ _).drew), B2⟩
 have k0 : w2.drew.cell? ⟨K, 0, none⟩ = some (.int .u64 k) := B2.cell 0
 have k1 : w2.drew.cell? ⟨K, 1, none⟩ = some (.int .i64 I1) := B2.cell 1
 have PS : Aside (Calls Tryz.prog 20 #[pt D.B, .int .i64 I1] w2.drew fun e w' => e = .returned (.int .i64 3) ∧ Cox L D F w σ w' ∧ w'.cell? ⟨K, 0, none⟩ = some (.int .u64 k) ∧ w'.cell? ⟨K, 1, none⟩ = some (.int .i64 I1)) := by
  have := statusC C2.drew HH.out.1
  rw [HH.out.2.1, HH.out.2.2] at this
  refine this.mono ?_
  rintro e w' ⟨rfl, F4, g4, v4, C4, G4⟩
  have B4 := X2.out.2.gc mq_ent G4
  exact ⟨rfl, ⟨F4, g4, v4, C4, X2.out.1.trans G4⟩, B4.cell 0, B4.cell 1⟩
 clear C2 G2 B2
 go_upto_region 3 with fail
 refine wp_region_held_drew (S := (fun w' : World => w'.cell? ⟨K, 0, none⟩ = some (.int .u64 k) ∧ w'.cell? ⟨K, 1, none⟩ = some (.int .i64 I1))) (by kernel_rfl) (⟨k0, k1⟩) (fun hHeld => ?_)
 refine wpAnyH_take (i := 0) (oi := ⟨some 18,Op.move (.tmp 0),23,"core.go:350",#[],none⟩) (v := ?_) rfl (by kernel_rfl) (by kernel_rfl) (by kernel_rfl) (fun _ _ _ h => h) (Or.inl ⟨by rfl, ?_⟩) (by assumption) ?_
 rotate_left
 ·(intro w hSw; (try dsimp only at hSw); go_simp; try with_reducible rfl)
 simp only [Act.put, List.setIfInBounds_toArray, List.set_cons_zero, List.set_cons_succ]
 refine wpAnyH_take (i := 1) (oi := ⟨some 19,Op.fieldAddr 43 (.tmp 5) 1,0,"core.go:350",#[],none⟩) (v := ?_) rfl (by kernel_rfl) (by kernel_rfl) (by kernel_rfl) (fun _ _ _ h => h) (Or.inl ⟨by rfl, ?_⟩) (by assumption) ?_
 rotate_left
 ·(intro w hSw; (try dsimp only at hSw); go_simp; try with_reducible rfl)
 simp only [Act.put, List.setIfInBounds_toArray, List.set_cons_zero, List.set_cons_succ]
 refine wpAnyH_take (i := 2) (oi := ⟨some 20,Op.load 3 (.tmp 19),3,"core.go:350",#[⟨1,.data⟩],none⟩) (v := ?_) rfl (by kernel_rfl) (by kernel_rfl) (by kernel_rfl) (fun _ _ _ h => h) (Or.inl ⟨by rfl, ?_⟩) (by assumption) ?_
 rotate_left
 ·(intro w hSw; (try dsimp only at hSw); go_simp; try with_reducible rfl)
 simp only [Act.put, List.setIfInBounds_toArray, List.set_cons_zero, List.set_cons_succ]
 refine wpAnyH_ready (rs := [3]) (by kernel_rfl) (by simp) ?_
 refine AllReadyH.cons (o := { dst := some 21, op := Op.call { callee := Callee.value (Operand.func 20), args := #[Operand.tmp 18, Operand.tmp 20], argTypes := #[23, 3] }, type := 3, pos := "core.go:350", after := #[⟨0,.data⟩, ⟨2,.data⟩], guard := none }) rfl (fun Kt hKt => ?_) AllReadyH.nil
 go_simp
 (with_reducible refine Calls.mono PS.out ?_)
 rintro e w3 ⟨rfl, CX, e0, e1⟩
 go_wp2_with fail
 refine hKt.out _ _ (⟨e0, e1⟩) (fun hHeld => ?_)
 clear hKt Kt
 try simp only [Act.put, List.setIfInBounds_toArray, List.set_cons_zero, List.set_cons_succ]
 refine wpAnyH_take (i := 4) (oi := ⟨some 22,Op.binOp BinOp.neq 3 (.tmp 21) (Operand.const (Value.int IntKind.i64 2)) 3,4,"core.go:350",#[⟨3,.data⟩],none⟩) (v := ?_) rfl (by kernel_rfl) (by kernel_rfl) (by kernel_rfl) (fun _ _ _ h => h) (Or.inl ⟨by rfl, ?_⟩) (by assumption) ?_
 rotate_left
 ·(intro w hSw; (try dsimp only at hSw); go_simp; try with_reducible rfl)
 simp only [Act.put, List.setIfInBounds_toArray, List.set_cons_zero, List.set_cons_succ]
 refine wpAnyH_take (i := 5) (oi := ⟨some 23,Op.move (.tmp 22),4,"core.go:350",#[⟨4,.data⟩, ⟨3,.chain⟩],none⟩) (v := ?_) rfl (by kernel_rfl) (by kernel_rfl) (by kernel_rfl) (fun _ _ _ h => h) (Or.inl ⟨by rfl, ?_⟩) (by assumption) ?_
 rotate_left
 ·(intro w hSw; (try dsimp only at hSw); go_simp; try with_reducible rfl)
 simp only [Act.put, List.setIfInBounds_toArray, List.set_cons_zero, List.set_cons_succ]
 refine wpAnyH_take (i := 6) (oi := ⟨some 24,Op.move (.tmp 0),23,"core.go:350",#[⟨5,.guard⟩],some (5, false)⟩) (v := undef) rfl (by kernel_rfl) (by kernel_rfl) (by kernel_rfl) (fun _ _ _ h => h) (Or.inr ⟨by rfl, rfl⟩) (by assumption) ?_
 simp only [Act.put, List.setIfInBounds_toArray, List.set_cons_zero, List.set_cons_succ]
 refine wpAnyH_take (i := 7) (oi := ⟨some 25,Op.fieldAddr 43 (.tmp 5) 1,0,"core.go:350",#[⟨5,.guard⟩],some (5, false)⟩) (v := undef) rfl (by kernel_rfl) (by kernel_rfl) (by kernel_rfl) (fun _ _ _ h => h) (Or.inr ⟨by rfl, rfl⟩) (by assumption) ?_
 simp only [Act.put, List.setIfInBounds_toArray, List.set_cons_zero, List.set_cons_succ]
 refine wpAnyH_take (i := 8) (oi := ⟨some 26,Op.load 3 (.tmp 25),3,"core.go:350",#[⟨7,.data⟩, ⟨5,.guard⟩],some (5, false)⟩) (v := undef) rfl (by kernel_rfl) (by kernel_rfl) (by kernel_rfl) (fun _ _ _ h => h) (Or.inr ⟨by rfl, rfl⟩) (by assumption) ?_
 simp only [Act.put, List.setIfInBounds_toArray, List.set_cons_zero, List.set_cons_succ]
 refine wpAnyH_take (i := 10) (oi := ⟨some 28,Op.load 43 (.tmp 5),43,"core.go:350",#[⟨5,.guard⟩],some (5, false)⟩) (v := undef) rfl (by kernel_rfl) (by kernel_rfl) (by kernel_rfl) (fun _ _ _ h => h) (Or.inr ⟨by rfl, rfl⟩) (by assumption) ?_
 simp only [Act.put, List.setIfInBounds_toArray, List.set_cons_zero, List.set_cons_succ]
 refine wpAnyH_ready (rs := [9]) (by kernel_rfl) (by simp) ?_
 refine AllReadyH.cons (o := { dst := some 27, op := Op.call { callee := Callee.value (Operand.func 65), args := #[Operand.tmp 24, Operand.tmp 26], argTypes := #[23, 3] }, type := 43, pos := "core.go:350", after := #[⟨6,.data⟩, ⟨8,.data⟩, ⟨5,.chain⟩, ⟨5,.guard⟩], guard := some (5, false) }) rfl (fun Kt hKt => ?_) AllReadyH.nil
 go_simp
 refine hKt.out _ _ hHeld (fun hHeld => ?_)
 clear hKt Kt
 try simp only [Act.put, List.setIfInBounds_toArray, List.set_cons_zero, List.set_cons_succ]
 refine wpAnyH_take (i := 11) (oi := ⟨some 29,Op.binOp BinOp.neq 43 (.tmp 27) (.tmp 28) 43,4,"core.go:350",#[⟨9,.data⟩, ⟨10,.data⟩, ⟨5,.guard⟩],some (5, false)⟩) (v := undef) rfl (by kernel_rfl) (by kernel_rfl) (by kernel_rfl) (fun _ _ _ h => h) (Or.inr ⟨by rfl, rfl⟩) (by assumption) ?_
 simp only [Act.put, List.setIfInBounds_toArray, List.set_cons_zero, List.set_cons_succ]
 refine wpAnyH_take (i := 12) (oi := ⟨some 30,Op.pick (.tmp 23) (Operand.const (Value.bool true)) (.tmp 29),4,"core.go:350",#[⟨5,.data⟩, ⟨11,.data⟩],none⟩) (v := ?_) rfl (by kernel_rfl) (by kernel_rfl) (by kernel_rfl) (fun _ _ _ h => h) (Or.inl ⟨by rfl, ?_⟩) (by assumption) ?_
 rotate_left
 ·(intro w hSw; (try dsimp only at hSw); go_simp; try with_reducible rfl)
 simp only [Act.put, List.setIfInBounds_toArray, List.set_cons_zero, List.set_cons_succ]
 refine wpAnyH_done (by kernel_rfl) ?_ _
 have FIN : Aside _ := CX
 clear k0 k1 e0 e1 CX
 go_wp2_with fail
 go_ret
 exact ⟨rfl, FIN.out⟩
end Go.Proofs.YtjnpmipbkiambaaGreatDoor
