import Derived.Test.YtdboknkfhbhniaaGreatDoorWkF
namespace Go.Proofs.YtdboknkfhbhniaaGreatDoor
set_option maxHeartbeats 8000000
set_option maxRecDepth 100000
set_option linter.unusedVariables false
open Go.RowKit Go.Lib Go.WideMaps Go.Maps
variable {w w' u w0:World}{L i:Nat}{D:CAd}{F F' F0:Nat→Nat→Prop}{g v:Value}{σ σ':CS}
theorem touch0(C:Co w L D F g v σ)(x y:WR)(t dr f:Int)(hp:x.ph=0)(PS:∀w1 F1 g1 v1,Co w1 L D F1 g1 v1 σ→Calls Tryz.prog 116 #[pt D.B,wkV x,.int .i64 t,.int .u64 dr] w1 fun e w'=>e=.returned (.tuple #[wkV y,.int .i64 f])∧Cox L D F1 w1 σ' w') :
  Calls Tryz.prog 66 #[pt D.B,wkV x,.int .i64 t,.int .u64 dr] w fun e w'=>e=.returned (.tuple #[wkV y,.int .i64 f])∧Cox L D F w σ' w':=by
 obtain⟨K,hK⟩:∃J,w.heap.size=J:=⟨_,rfl⟩
 have W0:=WB.new C x hK
 obtain⟨u,hu⟩:∃q,(w.alloc (.cells (wkA x) 59)).alloc (.cells (wkA wk0) 59)=q:=⟨_,rfl⟩
 have b0:Below w.heap.size w u:=by rw[←hu];exact belT (belA _ _) (belA _ _)
 rw[hu] at W0
 have P:=PS u F g v (C.below b0)
 have HC:Aside (Gc L F w F u∧w.heap.size=K∧L≤w.heap.size∧WB w u F K x wk0):=⟨Gc.below F C.lw b0,hK,C.lw,W0⟩
 obtain⟨x0,x1,x2,x3,x4⟩:=x
 obtain⟨y0,y1,y2,y3,y4⟩:=y
 obtain rfl:x0=0:=hp
 obtain⟨a0,a1,a2,a3,a4⟩:=bx5 W0.a.1
 have alt:=lt_of_block W0.a.1
 have HU:Aside _:=hu
 clear C W0 hu b0 PS
 go_enter Tryz.func66,Tryz.ntmps66
 go_upto_region 1 with fail
 rw[show(w.alloc (.cells #[.int .i64 0,.int .u64 x1,.int .i64 x2,.int .i64 x3,.bool x4] 59)).alloc (.cells #[.int .i64 0,.int .u64 0,.int .i64 0,.int .i64 0,.bool false] 59)=u from HU.out]
 try simp only[hK]
 go_wp2_with fail
 refine P.mono ?_
 rintro e w1 ⟨rfl,F1,g1,v1,C1,G1⟩
 clear a0 a1 a2 a3 a4 alt
 have W1:=HC.out.2.2.2.gc G1
 obtain⟨b0,b1,b2,b3,b4⟩:=bx5 W1.b.1
 have blt:=lt_of_block W1.b.1
 have bfz:∀o,w1.frozen? ⟨K+1,o,none⟩=false:=(fun o=>by simp[World.frozen?,W1.b.1])
 have FF:=W1.fin (y:=⟨y0,y1,y2,y3,y4⟩) C1 (HC.out.1.trans G1) hK HC.out.2.2.1
 have E:Aside _:=FF.1
 have FIN:Aside _:=FF.2
 clear P C1 G1 W1 FF
 go_wp2_with fail
 have eb:=fun j=>cell_of_row _ _ j _ _ _ E.out
 have q0:=eb 0
 have q1:=eb 1
 have q2:=eb 2
 have q3:=eb 3
 have q4:=eb 4
 unfold set5 at q0 q1 q2 q3 q4
 refine bodyPost_ret (v:=.tuple #[.agg #[.int .i64 y0,.int .u64 y1,.int .i64 y2,.int .i64 y3,.bool y4],.int .i64 f]) (by simp[results,Tryz.results66,go_sem,q0,q1,q2,q3,q4]) rfl ⟨rfl,?_⟩
 exact FIN.out
theorem touch1(C:Co w L D F g v σ)(x y:WR)(t dr f:Int)(hp:x.ph=1)(PS:∀w1 F1 g1 v1,Co w1 L D F1 g1 v1 σ→Calls Tryz.prog 117 #[pt D.B,wkV x,.int .i64 t] w1 fun e w'=>e=.returned (.tuple #[wkV y,.int .i64 f])∧Cox L D F1 w1 σ' w') :
  Calls Tryz.prog 66 #[pt D.B,wkV x,.int .i64 t,.int .u64 dr] w fun e w'=>e=.returned (.tuple #[wkV y,.int .i64 f])∧Cox L D F w σ' w':=by
 obtain⟨K,hK⟩:∃J,w.heap.size=J:=⟨_,rfl⟩
 have W0:=WB.new C x hK
 obtain⟨u,hu⟩:∃q,(w.alloc (.cells (wkA x) 59)).alloc (.cells (wkA wk0) 59)=q:=⟨_,rfl⟩
 have b0:Below w.heap.size w u:=by rw[←hu];exact belT (belA _ _) (belA _ _)
 rw[hu] at W0
 have P:=PS u F g v (C.below b0)
 have HC:Aside (Gc L F w F u∧w.heap.size=K∧L≤w.heap.size∧WB w u F K x wk0):=⟨Gc.below F C.lw b0,hK,C.lw,W0⟩
 obtain⟨x0,x1,x2,x3,x4⟩:=x
 obtain⟨y0,y1,y2,y3,y4⟩:=y
 obtain rfl:x0=1:=hp
 obtain⟨a0,a1,a2,a3,a4⟩:=bx5 W0.a.1
 have alt:=lt_of_block W0.a.1
 have HU:Aside _:=hu
 clear C W0 hu b0 PS
 go_enter Tryz.func66,Tryz.ntmps66
 go_upto_region 1 with fail
 rw[show(w.alloc (.cells #[.int .i64 1,.int .u64 x1,.int .i64 x2,.int .i64 x3,.bool x4] 59)).alloc (.cells #[.int .i64 0,.int .u64 0,.int .i64 0,.int .i64 0,.bool false] 59)=u from HU.out]
 try simp only[hK]
 go_wp2_with fail
 refine P.mono ?_
 rintro e w1 ⟨rfl,F1,g1,v1,C1,G1⟩
 clear a0 a1 a2 a3 a4 alt
 have W1:=HC.out.2.2.2.gc G1
 obtain⟨b0,b1,b2,b3,b4⟩:=bx5 W1.b.1
 have blt:=lt_of_block W1.b.1
 have bfz:∀o,w1.frozen? ⟨K+1,o,none⟩=false:=(fun o=>by simp[World.frozen?,W1.b.1])
 have FF:=W1.fin (y:=⟨y0,y1,y2,y3,y4⟩) C1 (HC.out.1.trans G1) hK HC.out.2.2.1
 have E:Aside _:=FF.1
 have FIN:Aside _:=FF.2
 clear P C1 G1 W1 FF
 go_wp2_with fail
 have eb:=fun j=>cell_of_row _ _ j _ _ _ E.out
 have q0:=eb 0
 have q1:=eb 1
 have q2:=eb 2
 have q3:=eb 3
 have q4:=eb 4
 unfold set5 at q0 q1 q2 q3 q4
 refine bodyPost_ret (v:=.tuple #[.agg #[.int .i64 y0,.int .u64 y1,.int .i64 y2,.int .i64 y3,.bool y4],.int .i64 f]) (by simp[results,Tryz.results66,go_sem,q0,q1,q2,q3,q4]) rfl ⟨rfl,?_⟩
 exact FIN.out
theorem touch2(C:Co w L D F g v σ)(x y:WR)(t dr f:Int)(hp:x.ph=2)(PS:∀w1 F1 g1 v1,Co w1 L D F1 g1 v1 σ→Calls Tryz.prog 118 #[pt D.B,wkV x,.int .i64 t] w1 fun e w'=>e=.returned (.tuple #[wkV y,.int .i64 f])∧Cox L D F1 w1 σ' w') :
  Calls Tryz.prog 66 #[pt D.B,wkV x,.int .i64 t,.int .u64 dr] w fun e w'=>e=.returned (.tuple #[wkV y,.int .i64 f])∧Cox L D F w σ' w':=by
 obtain⟨K,hK⟩:∃J,w.heap.size=J:=⟨_,rfl⟩
 have W0:=WB.new C x hK
 obtain⟨u,hu⟩:∃q,(w.alloc (.cells (wkA x) 59)).alloc (.cells (wkA wk0) 59)=q:=⟨_,rfl⟩
 have b0:Below w.heap.size w u:=by rw[←hu];exact belT (belA _ _) (belA _ _)
 rw[hu] at W0
 have P:=PS u F g v (C.below b0)
 have HC:Aside (Gc L F w F u∧w.heap.size=K∧L≤w.heap.size∧WB w u F K x wk0):=⟨Gc.below F C.lw b0,hK,C.lw,W0⟩
 obtain⟨x0,x1,x2,x3,x4⟩:=x
 obtain⟨y0,y1,y2,y3,y4⟩:=y
 obtain rfl:x0=2:=hp
 obtain⟨a0,a1,a2,a3,a4⟩:=bx5 W0.a.1
 have alt:=lt_of_block W0.a.1
 have HU:Aside _:=hu
 clear C W0 hu b0 PS
 go_enter Tryz.func66,Tryz.ntmps66
 go_upto_region 1 with fail
 rw[show(w.alloc (.cells #[.int .i64 2,.int .u64 x1,.int .i64 x2,.int .i64 x3,.bool x4] 59)).alloc (.cells #[.int .i64 0,.int .u64 0,.int .i64 0,.int .i64 0,.bool false] 59)=u from HU.out]
 try simp only[hK]
 go_wp2_with fail
 refine P.mono ?_
 rintro e w1 ⟨rfl,F1,g1,v1,C1,G1⟩
 clear a0 a1 a2 a3 a4 alt
 have W1:=HC.out.2.2.2.gc G1
 obtain⟨b0,b1,b2,b3,b4⟩:=bx5 W1.b.1
 have blt:=lt_of_block W1.b.1
 have bfz:∀o,w1.frozen? ⟨K+1,o,none⟩=false:=(fun o=>by simp[World.frozen?,W1.b.1])
 have FF:=W1.fin (y:=⟨y0,y1,y2,y3,y4⟩) C1 (HC.out.1.trans G1) hK HC.out.2.2.1
 have E:Aside _:=FF.1
 have FIN:Aside _:=FF.2
 clear P C1 G1 W1 FF
 go_wp2_with fail
 have eb:=fun j=>cell_of_row _ _ j _ _ _ E.out
 have q0:=eb 0
 have q1:=eb 1
 have q2:=eb 2
 have q3:=eb 3
 have q4:=eb 4
 unfold set5 at q0 q1 q2 q3 q4
 refine bodyPost_ret (v:=.tuple #[.agg #[.int .i64 y0,.int .u64 y1,.int .i64 y2,.int .i64 y3,.bool y4],.int .i64 f]) (by simp[results,Tryz.results66,go_sem,q0,q1,q2,q3,q4]) rfl ⟨rfl,?_⟩
 exact FIN.out
end Go.Proofs.YtdboknkfhbhniaaGreatDoor
