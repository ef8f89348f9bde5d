import Derived.Test.YtdboknkfhbhniaaGreatDoorCoP
namespace Go.Proofs.YtdboknkfhbhniaaGreatDoor
set_option maxHeartbeats 8000000
set_option maxRecDepth 100000
set_option linter.unusedVariables false
section
open Go.RowKit Go.Lib Go.WideMaps Go.Maps
variable {w w' u w0:World}{L i:Nat}{D:CAd}{F F' F0:Nat→Nat→Prop}{g v:Value}{σ:CS}{x:Ta.TR}
theorem seekL(C:Co w L D F g v σ)(x:WR){t:Nat}(ht:t<σ.th)(hn:σ.qn≤1000)(hf:(σ.q.g t).f=false)(dr k d:Int){σ':CS}(PL:∀w1 F1 g1 v1,Co w1 L D F1 g1 v1 (setS σ t)→Calls Tryz.prog 52 #[pt D.B,.int .i64 t,.int .u64 dr] w1 fun e w'=>e=.returned (.tuple #[.agg #[.int .u64 k,.int .i64 d],.bool true])∧Cox L D F1 w1 σ' w') :
  Calls Tryz.prog 116 #[pt D.B,wkV x,.int .i64 t,.int .u64 dr] w fun e w'=>e=.returned (.tuple #[wkV ⟨x.ph,k,d,x.pc,x.bad⟩,.int .i64 1])∧Cox L D F w σ' w':=by
 obtain⟨K,hK⟩:∃J,w.heap.size=J:=⟨_,rfl⟩
 have W0:=WB.new C x hK
 obtain⟨u,hu⟩:∃q,(w.alloc (.cells (wkA x) 59)).alloc (.cells (wkA wk0) 59)=q:=⟨_,rfl⟩
 have b0:Below w.heap.size w u:=by rw[←hu];exact belT (belA _ _) (belA _ _)
 rw[hu] at W0
 have P:=settleC (C.below b0) ht hn
 rw[hf] at P
 have HC:Aside (Gc L F w F u∧w.heap.size=K∧L≤w.heap.size∧WB w u F K x wk0):=⟨Gc.below F C.lw b0,hK,C.lw,W0⟩
 have HP:Aside _:=PL
 obtain⟨x0,x1,x2,x3,x4⟩:=x
 have HU:Aside _:=hu
 clear C W0 hu b0 hn hf ht PL
 go_enter Tryz.func116,Tryz.ntmps116
 go_upto_region 1 with fail
 rw[show(w.alloc (.cells #[.int .i64 x0,.int .u64 x1,.int .i64 x2,.int .i64 x3,.bool x4] 59)).alloc (.cells #[.int .i64 0,.int .u64 0,.int .i64 0,.int .i64 0,.bool false] 59)=u from HU.out]
 try simp only[hK]
 go_wp2_with fail
 refine P.mono ?_
 rintro e w1 ⟨rfl,F1,g1,v1,C1,G1⟩
 have W1:=HC.out.2.2.2.gc G1
 have X1:Aside (Gc L F w F1 w1∧WB w w1 F1 K ⟨x0,x1,x2,x3,x4⟩ wk0):=⟨HC.out.1.trans G1,W1⟩
 have P:=HP.out w1 F1 g1 v1 C1
 clear C1 G1 W1
 go_wp2_with fail
 refine P.mono ?_
 rintro e w2 ⟨rfl,F2,g2,v2,C2,G2⟩
 obtain⟨J,hJ⟩:∃J,w2.heap.size=J:=⟨_,rfl⟩
 obtain⟨u2,hu2⟩:∃q,w2.alloc (.cells #[.int .u64 k,.int .i64 d] 47)=q:=⟨_,rfl⟩
 have b2:Below w2.heap.size w2 u2:=by rw[←hu2];exact belA _ _
 have BJ:Bx u2 F2 J #[.int .u64 k,.int .i64 d] 47:=by rw[←hu2,←hJ];exact Bx.new C2 _ _
 have W2:=(X1.out.2.gc G2).bel b2
 have C3:=C2.below b2
 have G3:Gc L F w F2 u2:=(X1.out.1.trans G2).trans (Gc.below F2 C2.lw b2)
 obtain⟨a0,a1,a2,a3,a4⟩:=bx5 W2.a.1
 obtain⟨b0,b1,b2',b3,b4⟩:=bx5 W2.b.1
 have alt:=lt_of_block W2.a.1
 have blt:=lt_of_block W2.b.1
 have bfz:∀o,u2.frozen? ⟨K+1,o,none⟩=false:=(fun o=>by simp[World.frozen?,W2.b.1])
 have afz:∀o,u2.frozen? ⟨K,o,none⟩=false:=(fun o=>by simp[World.frozen?,W2.a.1])
 obtain⟨j0,j1⟩:=bx2 BJ.1
 have jlt:=lt_of_block BJ.1
 -- the entry is laid into the worker
 obtain⟨u3,hu3⟩:∃q,(u2.setCell ⟨K,1,none⟩ (.int .u64 k)).setCell ⟨K,2,none⟩ (.int .i64 d)=q:=⟨_,rfl⟩
 have hA3:u3.heap[K]?=some (.cells #[.int .i64 x0,.int .u64 k,.int .i64 d,.int .i64 x3,.bool x4] 59 (0,0)):=by rw[←hu3];exact set_at (set_at W2.a.1 _) _
 have f3:Ta.Fr (fun j=>j=K) u2 u3:=by
  rw[←hu3]
  exact(Ta.Fr.setCell (fun j=>j=K) u2 K 1 (.int .u64 k) rfl).trans (Ta.Fr.setCell (fun j=>j=K) _ K 2 (.int .i64 d) rfl) (fun j hj=>.inl hj)
 have hB3:u3.heap[K+1]?=some (.cells (wkA wk0) 59 (0,0)):=(f3.block (K+1) blt (by omega)).trans W2.b.1
 have f5:Ta.Fr (fun j=>j=K∨j=K+1) u2 (set5 u3 (K+1) (.int .i64 x0) (.int .u64 k) (.int .i64 d) (.int .i64 x3) (.bool x4)):=(f3.mono (fun j hj=>.inl hj)).trans (set5_fr u3 (K+1) _ _ _ _ _) (fun j hj=>.inl (.inr hj))
 have E:Aside ((set5 u3 (K+1) (.int .i64 x0) (.int .u64 k) (.int .i64 d) (.int .i64 x3) (.bool x4)).heap[K+1]?=some (.cells #[.int .i64 x0,.int .u64 k,.int .i64 d,.int .i64 x3,.bool x4] 59 (0,0))):=set5_at hB3 _ _ _ _ _
 have FIN:Aside (Cox L D F w σ' (set5 u3 (K+1) (.int .i64 x0) (.int .u64 k) (.int .i64 d) (.int .i64 x3) (.bool x4))):=C3.own G3 (fun j hj=>by
  rcases hj with rfl|rfl
  ·exact⟨by omega,W2.a.2,nq_of W2.a.1 qt_wk⟩
  ·exact⟨by omega,W2.b.2,nq_of W2.b.1 qt_wk⟩) HC.out.2.2.1 f5
 obtain⟨d0,d1,d2,d3,d4⟩:=bx5 hA3
 obtain⟨e0,e1,e2,e3,e4⟩:=bx5 hB3
 have dlt:=lt_of_block hA3
 have elt:=lt_of_block hB3
 have efz:∀o,u3.frozen? ⟨K+1,o,none⟩=false:=(fun o=>by simp[World.frozen?,hB3])
 have HU2:Aside _:=hu2
 have HJ:Aside _:=hJ
 have HU3:Aside _:=hu3
 clear P C2 G2 W2 C3 G3 BJ hu2 hJ hu3 b2 hA3 hB3 f3 f5
 go_upto_region 4 with fail
 rw[HU2.out]
 try simp only[HJ.out]
 go_upto_region 7 with fail
 rw[HU3.out]
 go_wp2_with fail
 have eb:=fun j=>cell_of_row _ _ j _ _ _ E.out
 have q0:=eb 0
 have q1:=eb 1
 have q2:=eb 2
 have q3:=eb 3
 have q4:=eb 4
 unfold set5 at q0 q1 q2 q3 q4
 refine bodyPost_ret (v:=.tuple #[.agg #[.int .i64 x0,.int .u64 k,.int .i64 d,.int .i64 x3,.bool x4],.int .i64 1]) (by simp[results,Tryz.results116,go_sem,q0,q1,q2,q3,q4]) rfl ⟨rfl,?_⟩
 exact FIN.out
end
section
open Go.RowKit Go.Lib
variable {σ:CS}{i tk k:Nat}{x:Ta.TR}
def lk(σ:CS)(k:Nat)(x:Ta.TR):CS:=tellS σ 10 ((0:Nat):Int) ((k:Int)+1) x.key
def clm(σ:CS)(k:Nat)(x:Ta.TR):CS:=handS (turnS (lk σ k x) k x 3) 0 k (turnX x 3)
def fin(σ:CS)(k:Nat)(x:Ta.TR):CS:=relL 0 [] {endS (turnS (clm σ k x) k (turnX x 3) 4) ((0:Nat):Int) ((k:Int)+1) with E:=fun q j=>(clm σ k x).E q j∧q≠(k:Int)+1}
end
section
open Go.RowKit Go.Lib Go.WideMaps Go.Maps
structure FI(σ:CS)(n j:Nat):Prop where
 th:σ.th=2
 cn:σ.n=n
 cl:σ.cl=false
 N:σ.N=0
 E:σ.E=fun _ _=>False
 len:σ.T.length=j
 o:σ.o=j
 qn:σ.qn≤j
 ev:σ.ev.length≤2*j
 tk:σ.tk=0
 now:σ.now=0
 st:∀x∈σ.T,0≤x.p∧(x.s=1∨x.s=2)
variable {σ:CS}{n j k d:Nat}{x:Ta.TR}
end
end Go.Proofs.YtdboknkfhbhniaaGreatDoor
