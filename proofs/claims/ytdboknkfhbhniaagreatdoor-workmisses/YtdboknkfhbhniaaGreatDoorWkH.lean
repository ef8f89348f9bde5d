import Derived.Test.YtdboknkfhbhniaaGreatDoorWkG
import Derived.Test.YtdboknkfhbhniaaGreatDoorWkL
open Nat(le_of_eq le_succ_of_le)
namespace Go.Proofs.YtdboknkfhbhniaaGreatDoor
set_option maxHeartbeats 8000000
set_option maxRecDepth 100000
set_option linter.unusedVariables false
open Go.RowKit Go.Lib Go.WideMaps Go.Maps
section
variable {w w' u w0:World}{L i:Nat}{D:CAd}{F F' F0:Nat→Nat→Prop}{g v:Value}{σ σ':CS}
theorem Wk.Stp.alloc{M:Nat}(h:Wk.Stp w M)(o:Obj):Wk.Stp (w.alloc o) M:=by
 obtain⟨D,a,b,c⟩:=h
 exact⟨D,a.alloc o,b,c⟩
theorem stepC(C:Co w L D F g v σ)(x y:WR){t:Nat}(ht:t<σ.th)(dr f did ph:Int){j:Nat}(hj:j∈Wk.placesC)(hc:Wk.chAt j=(x.ph,f))(hv:Wk.fnAt j=(did,ph))(PT:∀w1 F1 g1 v1,Co w1 L D F1 g1 v1 σ→Calls Tryz.prog 66 #[pt D.B,wkV x,.int .i64 t,.int .u64 dr] w1 fun e w'=>e=.returned (.tuple #[wkV y,.int .i64 f])∧Cox L D F1 w1 σ' w') :
  Calls Tryz.prog 18 #[pt D.B,wkV x,.int .i64 t,.int .u64 dr] w fun e w'=>e=.returned (.tuple #[wkV ⟨ph,y.key,y.id,y.pc,y.bad⟩,.int .i64 did])∧Cox L D F w σ' w':=by
 obtain⟨K,hK⟩:∃J,w.heap.size=J:=⟨_,rfl⟩
 have W0:=WB.new C x hK
 obtain⟨u,hu⟩:∃q,(w.alloc (.cells (wkA x) 59)).alloc (.cells (wkA wk0) 59)=q:=⟨_,rfl⟩
 have b0:Below w.heap.size w u:=by rw[←hu];exact belT (belA _ _) (belA _ _)
 rw[hu] at W0
 have P:=wHasC (C.below b0) ht
 have HC:Aside (Gc L F w F u∧w.heap.size=K∧L≤w.heap.size∧WB w u F K x wk0∧Co u L D F g v σ):=⟨Gc.below F C.lw b0,hK,C.lw,W0,C.below b0⟩
 have HT:Aside _:=PT
 obtain⟨x0,x1,x2,x3,x4⟩:=x
 obtain⟨y0,y1,y2,y3,y4⟩:=y
 have LK:Aside (∀(W:World)(M:Nat),Wk.Stp W M→(Instr.lookup 132 (.map (some M)) (.agg #[.int .i64 x0,.int .i64 f]) true).run Tryz.prog W=.ok (.tuple #[.agg #[.int .i64 did,.int .i64 ph],.bool true]) W):=fun W M st=>by
  have:=st.look hj
  unfold Wk.vAt at this
  rw[hc,hv] at this
  exact this
 have HU:Aside _:=hu
 clear C W0 hu b0 PT ht hj hc hv
 go_enter Tryz.func18,Tryz.ntmps18
 go_upto_region 1 with fail
 rw[show(w.alloc (.cells #[.int .i64 x0,.int .u64 x1,.int .i64 x2,.int .i64 x3,.bool x4] 59)).alloc (.cells #[.int .i64 0,.int .u64 0,.int .i64 0,.int .i64 0,.bool false] 59)=u from HU.out]
 try simp only[hK]
 go_wp2_with fail
 refine P.mono ?_
 rintro e w1 ⟨rfl,b1⟩
 have C1:=HC.out.2.2.2.2.below b1
 have W1:=HC.out.2.2.2.1.bel b1
 have X1:Aside (Gc L F w F w1∧WB w w1 F K ⟨x0,x1,x2,x3,x4⟩ wk0):=⟨HC.out.1.trans (Gc.below F HC.out.2.2.2.2.lw b1),W1⟩
 obtain⟨a0,a1,a2,a3,a4⟩:=bx5 W1.a.1
 have alt:=lt_of_block W1.a.1
 have P:=HT.out w1 F g v C1
 clear C1 W1 b1
 go_wp2_with fail
 refine P.mono ?_
 rintro e w2 ⟨rfl,F2,g2,v2,C2,G2⟩
 clear P a0 a1 a2 a3 a4 alt
 obtain⟨J,hJ⟩:∃J,w2.heap.size=J:=⟨_,rfl⟩
 obtain⟨u2,hu2⟩:∃q,w2.alloc (.cells #[.int .i64 y0,.int .u64 y1,.int .i64 y2,.int .i64 y3,.bool y4] 59)=q:=⟨_,rfl⟩
 have b2:Below w2.heap.size w2 u2:=by rw[←hu2];exact belA _ _
 have BJ:Bx u2 F2 J #[.int .i64 y0,.int .u64 y1,.int .i64 y2,.int .i64 y3,.bool y4] 59:=by rw[←hu2,←hJ];exact Bx.new C2 _ _
 have W2:=(X1.out.2.gc G2).bel b2
 have X2:Aside (Co u2 L D F2 g2 v2 σ'∧Gc L F w F2 u2∧WB w u2 F2 K ⟨x0,x1,x2,x3,x4⟩ wk0∧Bx u2 F2 J #[.int .i64 y0,.int .u64 y1,.int .i64 y2,.int .i64 y3,.bool y4] 59∧w.heap.size≤J∧K+1<J):=⟨C2.below b2,(X1.out.1.trans G2).trans (Gc.below F2 C2.lw b2),W2,BJ,by rw[←hJ];exact(X1.out.1.trans G2).size,by rw[←hJ];exact lt_of_block (X1.out.2.gc G2).b.1⟩
 have KP:Aside (∀W,Below u2.heap.size u2 W→W.cell? ⟨K,0,none⟩=some (.int .i64 x0)):=fun W b=>(bx5 (X2.out.2.2.1.a.below b).1).1
 have k0:u2.drew.cell? ⟨K,0,none⟩=some (.int .i64 x0):=KP.out _ (Below.refl _ _).drew
 have kA:=KP.out (u2.alloc (.cells #[.int .i64 0,.int .i64 0] 130)).drew (belA _ _).drew
 have HU2:Aside _:=hu2
 have HJ:Aside _:=hJ
 obtain⟨N2,hN2⟩:∃N2,u2.heap.size=N2:=⟨_,rfl⟩
 have hbx:(u2.alloc (.cells #[.int .i64 0,.int .i64 0] 130)).drew.heap[N2]?=some (.cells #[.int .i64 0,.int .i64 0] 130 (0,0)):=by rw[←hN2];exact heap_alloc_new u2 _
 have HBX:Aside _:=hbx
 have HN2:Aside _:=hN2
 have LD:=fun W=>Wk.leads_any W
 clear C2 G2 W2 BJ hu2 hJ b2 hbx
 go_upto_region 4 with fail
 rw[HU2.out]
 try simp only[HJ.out]
 go_cut [12,13] (fun s12 s13 wx=>∃(M:Nat),s12=.pointer (some ⟨M,0,none⟩)∧s13=.bool true∧Below u2.heap.size u2 wx∧wx.heap[M]?=some (.cells #[.int .i64 did,.int .i64 ph] 130 (0,0))∧u2.heap.size≤M)
 case first=>
  go_region_held3 (fun W=>W.cell? ⟨K,0,none⟩=some (.int .i64 x0)) (first|with_reducible exact k0|with_reducible exact kA|with_reducible exact k3|with_reducible exact KP.out _ (h3.alloc h3.size _)|with_reducible exact KP.out _ ((h3.setCell (le_of_eq HN2.out) _).setCell (le_of_eq HN2.out) _)|with_reducible exact KP.out _ (((h3.alloc h3.size _).setCell h3.size _).setCell h3.size _)) ((go_at_call 67;first|((with_reducible refine Calls.mono (LD u2.drew) ?_);rintro e w3 ⟨rfl,b5,st⟩;have h3:Below u2.heap.size u2 w3:=belT (Below.refl _ _).drew b5;have k3:=KP.out w3 h3;have lk:=LK.out w3 N2 (by rw[←HN2.out];exact st);have lk2:=LK.out (w3.alloc (.cells #[.int .i64 0,.int .i64 0] 130)) N2 (by rw[←HN2.out];exact st.alloc _))|((with_reducible refine Calls.mono (LD (u2.alloc (.cells #[.int .i64 0,.int .i64 0] 130)).drew) ?_);rintro e w3 ⟨rfl,b5,st⟩;have h3:Below u2.heap.size u2 w3:=belT (belA u2 (.cells #[.int .i64 0,.int .i64 0] 130)).drew b5;have k3:=KP.out w3 h3;have lk:=LK.out w3 (N2+1) (by rw[show N2+1=(u2.alloc (.cells #[.int .i64 0,.int .i64 0] 130)).drew.heap.size by simp[HN2.out]];exact st);have hb3:w3.heap[N2]?=some (.cells #[.int .i64 0,.int .i64 0] 130 (0,0)):=(b5.block N2 (lt_of_block HBX.out)).trans HBX.out;obtain⟨m0,m1⟩:=bx2 hb3;have mlt:=lt_of_block hb3;have mfz:∀o,w3.frozen? ⟨N2,o,none⟩=false:=(fun o=>by simp[World.frozen?,hb3]))))
  all_goals go_wp2_with fail
  all_goals go_meet
  all_goals first
   | exact⟨w3.heap.size,rfl,rfl,h3.alloc h3.size _,heap_alloc_new w3 _,h3.size⟩
   | exact⟨N2,rfl,rfl,(h3.setCell (le_of_eq HN2.out) _).setCell (le_of_eq HN2.out) _,set_at (set_at hb3 _) _,le_of_eq HN2.out⟩
 case rest=>
  obtain⟨M,rfl,rfl,bw,hM,lM⟩:=hcut
  have Cc:=X2.out.1.below bw
  have Gc':Gc L F w F2 wc:=X2.out.2.1.trans (Gc.below F2 X2.out.1.lw bw)
  have Wc:=X2.out.2.2.1.bel bw
  have BJ:=X2.out.2.2.2.1.below bw
  have BM:Bx wc F2 M #[.int .i64 did,.int .i64 ph] 130:=⟨hM,fun p hp=>by have:=X2.out.1.fp.lt p M hp;omega⟩
  obtain⟨m0,m1⟩:=bx2 hM
  have mlt:=lt_of_block hM
  obtain⟨j0,j1,j2,j3,j4⟩:=bx5 BJ.1
  have jlt:=lt_of_block BJ.1
  have jfz:∀o,wc.frozen? ⟨J,o,none⟩=false:=(fun o=>by simp[World.frozen?,BJ.1])
  have ne1:J≠K+1:=by have:=X2.out.2.2.2.2.2;omega
  obtain⟨u4,hu4⟩:∃q,wc.setCell ⟨J,0,none⟩ (.int .i64 ph)=q:=⟨_,rfl⟩
  have hJ4:u4.heap[J]?=some (.cells #[.int .i64 ph,.int .u64 y1,.int .i64 y2,.int .i64 y3,.bool y4] 59 (0,0)):=by rw[←hu4];exact set_at BJ.1 _
  have f4:Ta.Fr (fun k=>k=J) wc u4:=by rw[←hu4];exact Ta.Fr.setCell (fun k=>k=J) wc J 0 _ rfl
  have hB4:u4.heap[K+1]?=some (.cells (wkA wk0) 59 (0,0)):=(f4.block (K+1) (lt_of_block Wc.b.1) (fun e=>ne1 e.symm)).trans Wc.b.1
  have neM:M≠J:=fun e=>by
   subst e
   have:=BJ.1.symm.trans hM
   simp at this
  have hM4:u4.heap[M]?=some (.cells #[.int .i64 did,.int .i64 ph] 130 (0,0)):=(f4.block M mlt neM).trans hM
  have neM1:M≠K+1:=fun e=>by
   subst e
   have:=Wc.b.1.symm.trans hM
   simp at this
  have f5:Ta.Fr (fun k=>k=J∨k=K+1) wc (set5 u4 (K+1) (.int .i64 ph) (.int .u64 y1) (.int .i64 y2) (.int .i64 y3) (.bool y4)):=(f4.mono (fun j hj=>.inl hj)).trans (set5_fr u4 (K+1) _ _ _ _ _) (fun j hj=>.inl (.inr hj))
  have E:Aside ((set5 u4 (K+1) (.int .i64 ph) (.int .u64 y1) (.int .i64 y2) (.int .i64 y3) (.bool y4)).heap[K+1]?=some (.cells #[.int .i64 ph,.int .u64 y1,.int .i64 y2,.int .i64 y3,.bool y4] 59 (0,0))):=set5_at hB4 _ _ _ _ _
  have FIN:Aside (Cox L D F w σ' (set5 u4 (K+1) (.int .i64 ph) (.int .u64 y1) (.int .i64 y2) (.int .i64 y3) (.bool y4)).drew):=Cc.own Gc' (fun k hk=>by
   rcases hk with rfl|rfl
   ·exact⟨X2.out.2.2.2.2.1,BJ.2,nq_of BJ.1 qt_wk⟩
   ·exact⟨by have:=HC.out.2.1;omega,Wc.b.2,nq_of Wc.b.1 qt_wk⟩) HC.out.2.2.1 ⟨f5.os,f5.tape,f5.output,f5.size,f5.block⟩
  have f5':=set5_fr u4 (K+1) (.int .i64 ph) (.int .u64 y1) (.int .i64 y2) (.int .i64 y3) (.bool y4)
  have hM5:=(f5'.block M (lt_of_block hM4) neM1).trans hM4
  have hJ5:=(f5'.block J (lt_of_block hJ4) ne1).trans hJ4
  have SA:=And.intro (bx2 hM4).1 (bx5 hJ4)
  have SB:=And.intro (bx2 hM5).1 (bx5 hJ5)
  have HSA:Aside _:=SA
  have HSB:Aside _:=SB
  obtain⟨e0,e1,e2,e3,e4⟩:=bx5 hB4
  have elt:=lt_of_block hB4
  have efz:∀o,u4.frozen? ⟨K+1,o,none⟩=false:=(fun o=>by simp[World.frozen?,hB4])
  have HU4:Aside _:=hu4
  clear Cc Gc' Wc BJ BM hM lM bw hu4 hJ4 f4 hB4 hM4 f5 f5' hM5 hJ5 SA SB neM neM1 ne1
  go_upto_region 8 with fail
  rw[HU4.out]
  clear m0 m1 j0 j1 j2 j3 j4
  have SA:=HSA.out
  have SB:=HSB.out
  unfold set5 at SB
  obtain⟨sa0,sa1,sa2,sa3,sa4,sa5⟩:=SA
  obtain⟨sb0,sb1,sb2,sb3,sb4,sb5⟩:=SB
  go_region
  all_goals
   go_wp2_with fail
   have eb:=fun j=>cell_of_row _ _ j _ _ _ E.out
   have q0:=eb 0
   have q1:=eb 1
   have q2:=eb 2
   have q3:=eb 3
   have q4:=eb 4
   unfold set5 at q0 q1 q2 q3 q4
   refine bodyPost_ret (v:=.tuple #[.agg #[.int .i64 ph,.int .u64 y1,.int .i64 y2,.int .i64 y3,.bool y4],.int .i64 did]) (by simp[results,Tryz.results18,go_sem,q0,q1,q2,q3,q4]) rfl ⟨rfl,?_⟩
   exact FIN.out
end
section
variable {w w' u w0:World}{L i:Nat}{D:CAd}{F F' F0:Nat→Nat→Prop}{g v:Value}{σ σ':CS}
theorem infoRS:∃i,Tryz.prog.info? 394=some i∧i.zero=some (.agg #[.bool false,.int .u64 0,.int .i64 0,.int .u64 0])∧i.size=4∧i.bytes=32:=by
 have h:(Tryz.prog.info? 394).map (fun i=>(i.zero,i.size,i.bytes))=some (some (.agg #[.bool false,.int .u64 0,.int .i64 0,.int .u64 0]),4,32):=by kernel_rfl
 obtain⟨i,h1,h2⟩:=Option.map_eq_some_iff.1 h
 simp at h2
 exact⟨i,h1,h2.1,h2.2.1,h2.2.2⟩
theorem makeRS(w:World)(n:Nat)(hn:n≤8) :
  ∃cs:Array Value,(Instr.makeSlice 270 (.int .i64 (n:Int)) (.int .i64 (n:Int))).run Tryz.prog w=.ok (.slice (some ⟨w.heap.size,0,none⟩) n n) (w.alloc (.cells cs 394)):=by
 obtain⟨i,hi,hz,hs,hby⟩:=infoRS
 have hm:=run_make (P:=Tryz.prog) w 270 394 i _ Tryz.underlying270 hi hz .i64 .i64 n n (by omega) (Int.le_refl _) (by rw[hby];omega) (by omega)
 simp only[Int.toNat_natCast,hs] at hm
 exact⟨_,hm⟩
theorem rnew10(T K:Nat)(w:World)(h1:1≤T)(h8:T≤8)(hK:K≤16) :
  Calls Tryz.prog 114 #[.int .i64 T,.int .i64 K] w fun e w'=>∃B,e=.returned (pt B)∧Below w.heap.size w w':=by
 have d1:decide ((T:Int)<1)=false:=decide_eq_false (by omega)
 have d2:decide (8<(T:Int))=false:=decide_eq_false (by omega)
 have d3:decide ((K:Int)<0)=false:=decide_eq_false (by omega)
 have d4:decide (16<(K:Int))=false:=decide_eq_false (by omega)
 have e1:¬(T:Int)<1:=by omega
 have e2:¬8<(T:Int):=by omega
 have e3:¬(K:Int)<0:=by omega
 have e4:¬16<(K:Int):=by omega
 obtain⟨c1,m1⟩:=makeRS w.drew T h8
 obtain⟨wS,hS⟩:∃q,w.drew.alloc (.cells c1 394)=q:=⟨_,rfl⟩
 rw[hS] at m1
 have bS:Below w.heap.size w wS:=by rw[←hS];exact belT (Below.refl _ _).drew (belA w.drew _)
 obtain⟨c2,m2,_⟩:=makeEs wS T h8
 obtain⟨wL,hL⟩:∃q,wS.alloc (.cells c2 34)=q:=⟨_,rfl⟩
 rw[hL] at m2
 have bL:Below w.heap.size w wL:=by rw[←hL];exact belT bS (belA _ _)
 obtain⟨c3,m3,_⟩:=makeEs w.drew T h8
 obtain⟨xL,hxL⟩:∃q,w.drew.alloc (.cells c3 34)=q:=⟨_,rfl⟩
 rw[hxL] at m3
 have cL:Below w.heap.size w xL:=by rw[←hxL];exact belT (Below.refl _ _).drew (belA w.drew _)
 obtain⟨c4,m4⟩:=makeRS xL T h8
 obtain⟨xS,hxS⟩:∃q,xL.alloc (.cells c4 394)=q:=⟨_,rfl⟩
 rw[hxS] at m4
 have cS:Below w.heap.size w xS:=by rw[←hxS];exact belT cL (belA _ _)
 have mx:=mixedC
 have FB:Aside (Below w.heap.size w wL∧Below w.heap.size w xS):=⟨bL,cS⟩
 clear hS bS hL bL hxL cL hxS cS
 go_enter Tryz.func114,Tryz.ntmps114
 go_wp2_with fail
 go_region
 ·go_wp2
  go_ret
  exact⟨_,rfl,belT FB.out.1 (belA _ _)⟩
 ·go_wp2
  go_ret
  exact⟨_,rfl,belT FB.out.2 (belA _ _)⟩
theorem confOkC(a b c:Nat)(w:World)(h1:1≤a)(h8:a≤8)(hK:b≤16)(c1:1≤c)(c64:c≤64) :
  Calls Tryz.prog 113 #[.agg #[.int .i64 a,.int .i64 b,.int .i64 c]] w fun e w'=>e=.returned (.bool true)∧Below w.heap.size w w':=by
 have e1:(a:Int)≥1:=by omega
 have e2:(a:Int)≤8:=by omega
 have e3:(b:Int)≥0:=by omega
 have e4:(b:Int)≤16:=by omega
 have e5:(c:Int)≥1:=by omega
 have e6:(c:Int)≤64:=by omega
 go_enter Tryz.func113,Tryz.ntmps113
 go_wp2
 go_ret
 exact⟨rfl,belA _ _⟩
end
section
variable {w w' u w0:World}{L i:Nat}{D:CAd}{F F' F0:Nat→Nat→Prop}{g v:Value}{σ σ':CS}
theorem bx3{w:World}{K:Nat}{a0 a1 a2:Value}{U:TypeId}(h:w.heap[K]?=some (.cells #[a0,a1,a2] U (0,0))):w.cell? ⟨K,0,none⟩=some a0∧w.cell? ⟨K,1,none⟩=some a1∧w.cell? ⟨K,2,none⟩=some a2:=
 ⟨by rw[cell_of_row _ _ _ _ _ _ h];rfl,by rw[cell_of_row _ _ _ _ _ _ h];rfl,by rw[cell_of_row _ _ _ _ _ _ h];rfl⟩
theorem rnew18(a b c:Nat)(w:World)(h1:1≤a)(h8:a≤8)(hK:b≤16)(c1:1≤c)(c64:c≤64) :
  Calls Tryz.prog 64 #[.agg #[.int .i64 a,.int .i64 b,.int .i64 c]] w fun e w'=>(∃B,e=.returned (pt B))∧Below w.heap.size w w':=by
 obtain⟨K,hK0⟩:∃J,w.heap.size=J:=⟨_,rfl⟩
 obtain⟨u,hu⟩:∃q,w.alloc (.cells #[.int .i64 a,.int .i64 b,.int .i64 c] 28)=q:=⟨_,rfl⟩
 have b0:Below w.heap.size w u:=by rw[←hu];exact belA _ _
 have hk:u.heap[K]?=some (.cells #[.int .i64 a,.int .i64 b,.int .i64 c] 28 (0,0)):=by rw[←hu,←hK0];exact heap_alloc_new w _
 have P:=confOkC a b c u h1 h8 hK c1 c64
 have HP:Aside (∀W,Calls Tryz.prog 114 #[.int .i64 a,.int .i64 b] W fun e w'=>∃B,e=.returned (pt B)∧Below W.heap.size W w'):=fun W=>rnew10 a b W h1 h8 hK
 have HB:Aside (Below w.heap.size w u∧u.heap[K]?=some (.cells #[.int .i64 a,.int .i64 b,.int .i64 c] 28 (0,0))):=⟨b0,hk⟩
 obtain⟨k0,k1,k2⟩:=bx3 hk
 have klt:=lt_of_block hk
 have HU:Aside _:=hu
 clear hu b0 hk h1 h8 hK c1 c64
 go_enter Tryz.func64,Tryz.ntmps64
 go_upto_region 1 with fail
 rw[HU.out]
 try simp only[hK0]
 go_wp2_with fail
 refine P.mono ?_
 rintro e w1 ⟨rfl,b1⟩
 have hk1:w1.drew.heap[K]?=some (.cells #[.int .i64 a,.int .i64 b,.int .i64 c] 28 (0,0)):=(b1.block K (lt_of_block HB.out.2)).trans HB.out.2
 have HK1:Aside _:=hk1
 have X1:Aside (Below w.heap.size w w1.drew):=(belT HB.out.1 b1).drew
 have SA:=bx3 hk1
 have P:=HP.out w1.drew
 clear P k0 k1 k2 klt b1 hk1
 go_upto_region 3 with fail
 go_region_held3 (fun W=>W.cell? ⟨K,0,none⟩=some (.int .i64 a)∧W.cell? ⟨K,1,none⟩=some (.int .i64 b)∧W.cell? ⟨K,2,none⟩=some (.int .i64 c)) (first|with_reducible exact SA|with_reducible exact SB|with_reducible exact bx3 (((belA w2 _).block K (lt_of_block hk2)).trans hk2)) ((go_at_call 114;(with_reducible refine Calls.mono (HP.out _) ?_);rintro e w2 ⟨B2,rfl,b2⟩;have hk2:=(b2.block K (lt_of_block HK1.out)).trans HK1.out;have SB:=bx3 hk2))
 have FIN:Aside (Below w.heap.size w w2):=belT X1.out b2
 clear SA SB b2 hk2
 go_wp2_with fail
 go_ret
 exact⟨⟨_,rfl⟩,belT FIN.out (belA _ _)⟩
theorem newW(th k n:Nat)(w:World)(t1:1≤th)(t8:th≤8)(k16:k≤16)(n1:1≤n)(n64:n≤64) :
  Calls Tryz.prog 17 #[.agg #[.int .i64 th,.int .i64 k,.int .i64 n]] w fun e w'=>∃X,e=.returned (pt X)∧∃L D F R,w.heap.size≤L∧Co w' L D F (.slice none 0 0) (.slice none 0 0) (newS th k n)∧Bx w' F X #[pt D.B,pt R,.int .u64 0,.int .i64 0] 57∧w.heap.size≤X∧Below w.heap.size w w':=by
 obtain⟨K,hK⟩:∃J,w.heap.size=J:=⟨_,rfl⟩
 obtain⟨u,hu⟩:∃q,w.alloc (.cells #[.int .i64 th,.int .i64 k,.int .i64 n] 28)=q:=⟨_,rfl⟩
 have b0:Below w.heap.size w u:=by rw[←hu];exact belA _ _
 have hk:u.heap[K]?=some (.cells #[.int .i64 th,.int .i64 k,.int .i64 n] 28 (0,0)):=by rw[←hu,←hK];exact heap_alloc_new w _
 have P:=newC th k n u t1 t8 k16 n1 n64
 have HB:Aside (Below w.heap.size w u∧u.heap[K]?=some (.cells #[.int .i64 th,.int .i64 k,.int .i64 n] 28 (0,0))∧w.heap.size=K):=⟨b0,hk,hK⟩
 have HP:Aside (∀W,Calls Tryz.prog 64 #[.agg #[.int .i64 th,.int .i64 k,.int .i64 n]] W fun e w'=>(∃B,e=.returned (pt B))∧Below W.heap.size W w'):=fun W=>rnew18 th k n W t1 t8 k16 n1 n64
 obtain⟨k0,k1,k2⟩:=bx3 hk
 have klt:=lt_of_block hk
 have HU:Aside _:=hu
 clear hu b0 hk t1 t8 k16 n1 n64
 go_enter Tryz.func17,Tryz.ntmps17
 go_upto_region 1 with fail
 rw[HU.out]
 try simp only[hK]
 go_wp2_with fail
 refine P.mono ?_
 rintro e w1 ⟨D,F,rfl,C1,b1⟩
 clear k0 k1 k2 klt P
 have hk1:w1.heap[K]?=some (.cells #[.int .i64 th,.int .i64 k,.int .i64 n] 28 (0,0)):=(b1.block K (lt_of_block HB.out.2.1)).trans HB.out.2.1
 obtain⟨k0,k1,k2⟩:=bx3 hk1
 have klt:=lt_of_block hk1
 have X1:Aside (Co w1 (u.heap.size+1) D F (.slice none 0 0) (.slice none 0 0) (newS th k n)∧Below w.heap.size w w1∧w.heap.size≤u.heap.size+1):=⟨C1,belT HB.out.1 b1,le_succ_of_le HB.out.1.size⟩
 have P:=HP.out w1
 clear C1 b1 hk1
 go_wp2_with fail
 refine P.mono ?_
 rintro e w2 ⟨⟨R,rfl⟩,b2⟩
 clear P k0 k1 k2 klt
 have FIN:Aside (Co (w2.alloc (.cells #[pt D.B,pt R,.int .u64 0,.int .i64 0] 57)) (u.heap.size+1) D F (.slice none 0 0) (.slice none 0 0) (newS th k n)∧Bx (w2.alloc (.cells #[pt D.B,pt R,.int .u64 0,.int .i64 0] 57)) F w2.heap.size #[pt D.B,pt R,.int .u64 0,.int .i64 0] 57∧w.heap.size≤w2.heap.size∧Below w.heap.size w (w2.alloc (.cells #[pt D.B,pt R,.int .u64 0,.int .i64 0] 57))):=by
  have C2:=X1.out.1.below b2
  exact⟨C2.below (belA _ _),Bx.new C2 _ _,(belT X1.out.2.1 b2).size,belT (belT X1.out.2.1 b2) (belA _ _)⟩
 clear b2
 go_wp2_with fail
 go_ret
 exact⟨_,rfl,_,D,F,R,X1.out.2.2,FIN.out.1,FIN.out.2.1,FIN.out.2.2.1,FIN.out.2.2.2⟩
end
section
variable {w w' u w0:World}{L i:Nat}{D:CAd}{F F' F0:Nat→Nat→Prop}{g v:Value}{σ σ':CS}
theorem settle_other(K:Nat)(s:Qu.QSt){t t':Nat}(h:t'≠t):(Qu.settleQ K s t).g t'=s.g t':=by
 unfold Qu.settleQ
 split
 ·split
  ·exact Qu.slSet_ne _ _ h
  ·exact Qu.slSet_ne _ _ h
 ·rfl
theorem put_other(K:Nat)(s:Qu.QSt){t t':Nat}(h:t'≠t)(e:Qu.Ent):(Qu.putQ K s t e).g t'=s.g t':=by
 unfold Qu.putQ
 show Qu.slSet (Qu.settleQ K s t).g t _ t'=_
 rw[Qu.slSet_ne _ _ h]
 exact settle_other K s h
theorem put_same(K:Nat)(s:Qu.QSt)(t:Nat)(e:Qu.Ent):((Qu.putQ K s t e).g t).f=true:=by
 unfold Qu.putQ
 show(Qu.slSet (Qu.settleQ K s t).g t _ t).f=true
 rw[Qu.slSet_same]
theorem QI.idle(h:QI σ){t:Nat}(ht:t<σ.th)(hne:∀e,¬Rdy σ.T e):(σ.q.g t).f=false:=by
 obtain⟨sl,ow,sh,V,nd,al⟩:=h
 rw[V.f ht]
 cases hs:sl t with
 | nil=>rfl
 | cons e l=>
  have hm:e∈Qu.allV σ.th sl ow sh:=by
   unfold Qu.allV
   refine List.mem_append_left _ ?_
   exact List.mem_flatMap.2 ⟨t,List.mem_range.2 ht,by rw[hs];simp⟩
  exact absurd ((al e).1 hm) (hne e)
structure One(σ:CS)(th:Nat)(s ky:Int)(a:Nat):Prop where
 th:σ.th=th
 cl:σ.cl=false
 N:σ.N=0
 E:σ.E=fun _ _=>False
 at':∃x,σ.T=[x]∧x.s=s∧x.key=ky∧x.p=0∧x.oa=none∧x.on=0∧x.oc=0
 qi:QI σ
 qn:σ.qn≤a
 ev:σ.ev.length≤a
 tk:σ.tk≤a
theorem One.set{th a t:Nat}{s ky:Int}(h:One σ th s ky a)(ht:t<th):One (setS σ t) th s ky (a+1):=
 ⟨h.th,h.cl,h.N,h.E,h.at',h.qi.settle (by rw[h.th];exact ht),Nat.succ_le_succ h.qn,le_succ_of_le h.ev,le_succ_of_le h.tk⟩
theorem One.tell{th a:Nat}{s ky:Int}(h:One σ th s ky a)(kd t id k:Int):One (tellS σ kd t id k) th s ky (a+1):=
 ⟨h.th,h.cl,h.N,h.E,h.at',h.qi.same rfl rfl (fun e=>Iff.rfl),le_succ_of_le h.qn,by
  show(σ.ev++[_]).length≤a+1
  have:=h.ev
  simp
  exact this,le_succ_of_le h.tk⟩
theorem One.rdy{th a:Nat}{ky:Int}(h:One σ th 2 ky a):Rdy σ.T (ky,1)∧∀e,Rdy σ.T e→e=(ky,1):=by
 obtain⟨x,hT,hs,hk,_⟩:=h.at'
 rw[hT]
 refine⟨⟨0,x,rfl,hs,by rw[hk];rfl⟩,?_⟩
 rintro e ⟨k,y,hy,_,rfl⟩
 cases k with
 | zero=>
  simp at hy
  subst hy
  rw[hk]
  rfl
 | succ k=>simp at hy
theorem One.none{th a:Nat}{s ky:Int}(h:One σ th s ky a)(hs:s≠2):∀e,¬Rdy σ.T e:=by
 obtain⟨x,hT,hs',_⟩:=h.at'
 rw[hT]
 rintro e ⟨k,y,hy,h2,rfl⟩
 cases k with
 | zero=>simp at hy;subst hy;omega
 | succ k=>simp at hy
theorem One.sub{th k n t:Nat}(ht:t<th)(prio:Int):∃ky,One (subS (newS th k n) t prio) th 2 ky 2:=by
 refine⟨_,⟨rfl,rfl,rfl,rfl,⟨_,sub_T (newS th k n) t prio,rfl,rfl,rfl,rfl,rfl,rfl⟩,(QI.new th k n).sub ht prio,by show 0+1≤2;omega,?_,Nat.zero_le _⟩⟩
 show(([]++[_])++[_]:List EvR).length≤2
 simp
end
section
variable {w w' u w0:World}{L i:Nat}{D:CAd}{F F' F0:Nat→Nat→Prop}{g v:Value}{σ σ':CS}{th a t dr:Nat}{s ky:Int}
theorem oneSettle(C:Co w L D F g v σ)(h:One σ th s ky a)(ht:t<th)(ha:a≤900)(hf:(σ.q.g t).f=true) :
  Calls Tryz.prog 18 #[pt D.B,wkV wk0,.int .i64 t,.int .u64 dr] w fun e w'=>e=.returned (.tuple #[wkV wk0,.int .i64 1])∧Cox L D F w (setS σ t) w':=by
 have ht':t<σ.th:=by rw[h.th];exact ht
 exact stepC C wk0 wk0 ht' dr 2 1 0 (j:=6) (by decide) rfl rfl (fun w1 F1 g1 v1 C1=>touch0 C1 wk0 wk0 t dr 2 rfl (fun w2 F2 g2 v2 C2=>seekS C2 wk0 ht' (by have:=h.qn;omega) hf dr))
def lkS(σ:CS)(t:Nat)(ky:Int):CS:=tellS (setS σ t) 10 t 1 ky
theorem oneLook(C:Co w L D F g v σ)(h:One σ th 2 ky a)(ht:t<th)(ha:a≤900)(hdr:dr<18446744073709551616)(hf:(σ.q.g t).f=false) :
  Calls Tryz.prog 18 #[pt D.B,wkV wk0,.int .i64 t,.int .u64 dr] w fun e w'=>e=.returned (.tuple #[wkV ⟨1,ky,1,0,false⟩,.int .i64 2])∧Cox L D F w (lkS σ t ky) w':=by
 have ht':t<σ.th:=by rw[h.th];exact ht
 have h1:=h.set ht
 refine stepC C wk0 ⟨0,ky,1,0,false⟩ ht' dr 1 2 1 (j:=9) (by decide) rfl rfl (fun w1 F1 g1 v1 C1=>touch0 C1 wk0 ⟨0,ky,1,0,false⟩ t dr 1 rfl (fun w2 F2 g2 v2 C2=>seekL C2 wk0 ht' (by have:=h.qn;omega) hf dr ky 1 (fun w3 F3 g3 v3 C3=>?_)))
 obtain⟨x,y,z,hx,hy,hz,hr⟩:=h1.qi.look C3.qok (t:=t) (show t<σ.th from ht') dr ⟨_,h1.rdy.1⟩ ((setS σ t).tk:Int)
 have ez:=h1.rdy.2 _ hr
 have P:=lookC C3 (t:=t) (dr:=dr) (show t<σ.th from ht') hdr (by have:=h1.qn;omega) (by have:=h1.ev;omega) hx hy hz
 rw[ez] at P
 exact P
theorem oneNone(C:Co w L D F g v σ)(h:One σ th s ky a)(hs:s≠2)(ht:t<th)(ha:a≤900)(hdr:dr<18446744073709551616) :
  Calls Tryz.prog 18 #[pt D.B,wkV wk0,.int .i64 t,.int .u64 dr] w fun e w'=>e=.returned (.tuple #[wkV wk0,.int .i64 0])∧Cox L D F w (setS σ t) w':=by
 have ht':t<σ.th:=by rw[h.th];exact ht
 have h1:=h.set ht
 have hf:(σ.q.g t).f=false:=h.qi.idle ht' (h.none hs)
 refine stepC C wk0 wk0 ht' dr 0 0 0 (j:=3) (by decide) rfl rfl (fun w1 F1 g1 v1 C1=>touch0 C1 wk0 wk0 t dr 0 rfl (fun w2 F2 g2 v2 C2=>seekN C2 wk0 ht' (by have:=h.qn;omega) hf dr 0 0 (fun w3 F3 g3 v3 C3=>?_)))
 exact lookN C3 (t:=t) (dr:=dr) (show t<σ.th from ht') hdr (by have:=h1.qn;omega) (h1.qi.none C3.qok (show t<σ.th from ht') dr (h1.none hs))
def clS(σ:CS)(t:Nat)(x:Ta.TR):CS:=handS (turnS σ 0 x 3) t 0 (turnX x 3)
theorem oneClaim(C:Co w L D F g v σ)(h:One σ th 2 ky a)(ht:t<th)(ha:a≤900) :
  ∃x,σ.T=[x]∧Calls Tryz.prog 18 #[pt D.B,wkV ⟨1,ky,1,0,false⟩,.int .i64 t,.int .u64 dr] w fun e w'=>e=.returned (.tuple #[wkV ⟨2,ky,1,0,false⟩,.int .i64 3])∧Cox L D F w (clS σ t x) w':=by
 have ht':t<σ.th:=by rw[h.th];exact ht
 obtain⟨x,hT,hs,hk,hp,_⟩:=h.at'
 refine⟨x,hT,?_⟩
 refine stepC C ⟨1,ky,1,0,false⟩ ⟨1,ky,1,0,false⟩ ht' dr 1 3 2 (j:=15) (by decide) rfl rfl (fun w1 F1 g1 v1 C1=>touch1 C1 ⟨1,ky,1,0,false⟩ ⟨1,ky,1,0,false⟩ t dr 1 rfl (fun w2 F2 g2 v2 C2=>wclaimO C2 ⟨1,ky,1,0,false⟩ t (fun w3 F3 g3 v3 C3=>?_)))
 have P:=claimC C3 (t:=t) (i:=0) (x:=x) ht' (by rw[hT];rfl) hs (by omega) (by have:=h.ev;omega) (by have:=h.qn;omega) (by have:=h.tk;omega)
 rw[hk] at P
 exact P
theorem One.claim(h:One σ th 2 ky a){x:Ta.TR}(hT:σ.T=[x])(t:Nat):One (clS σ t x) th 3 ky (a+1):=by
 obtain⟨y,hT',hs,hk,hp,h1,h2,h3⟩:=h.at'
 obtain rfl:y=x:=by rw[hT] at hT';simpa using hT'.symm
 have e:turnX y 3=Ta.turnT y 3:=by unfold turnX;rw[if_neg (by omega)]
 have k3:=turnX_key y 3
 refine⟨h.th,h.cl,h.N,h.E,⟨turnX y 3,?_,k3.2.2.1,k3.1.trans hk,k3.2.2.2.trans hp,?_,?_,?_⟩,h.qi.hand (by rw[hT];rfl) t,Nat.succ_le_succ h.qn,?_,Nat.succ_le_succ h.tk⟩
 ·show σ.T.set 0 (turnX y 3)=_
  rw[hT];rfl
 ·rw[e];exact h1
 ·rw[e];exact h2
 ·rw[e];exact h3
 ·show(σ.ev++[_]).length≤a+1
  have:=h.ev
  simp
  exact this
theorem oneMiss(C:Co w L D F g v σ)(h:One σ th s ky a)(h0:s≠0)(h2:s≠2)(ht:t<th)(k:Int) :
  Calls Tryz.prog 18 #[pt D.B,wkV ⟨1,k,1,0,false⟩,.int .i64 t,.int .u64 dr] w fun e w'=>e=.returned (.tuple #[wkV wk0,.int .i64 4])∧Cox L D F w σ w':=by
 have ht':t<σ.th:=by rw[h.th];exact ht
 obtain⟨x,hT,hs,_⟩:=h.at'
 refine stepC C ⟨1,k,1,0,false⟩ wk0 ht' dr 0 4 0 (j:=12) (by decide) rfl rfl (fun w1 F1 g1 v1 C1=>touch1 C1 ⟨1,k,1,0,false⟩ wk0 t dr 0 rfl (fun w2 F2 g2 v2 C2=>wclaimN C2 ⟨1,k,1,0,false⟩ t 8 (by decide) (fun w3 F3 g3 v3 C3=>?_)))
 exact claimG C3 (t:=t) (i:=0) (x:=x) ht' (by rw[hT];rfl) hs h0 h2 k
def fiS(σ:CS)(t:Nat)(x:Ta.TR):CS:={endS (turnS σ 0 x 4) t 1 with E:=fun q j=>σ.E q j∧q≠1}
theorem oneFin(C:Co w L D F g v σ)(h:One σ th 3 ky a)(ht:t<th)(ha:a≤900) :
  ∃x,σ.T=[x]∧Calls Tryz.prog 18 #[pt D.B,wkV ⟨2,ky,1,0,false⟩,.int .i64 t,.int .u64 dr] w fun e w'=>e=.returned (.tuple #[wkV wk0,.int .i64 6])∧Cox L D F w (fiS σ t x) w':=by
 have ht':t<σ.th:=by rw[h.th];exact ht
 obtain⟨x,hT,hs,hk,hp,h1,h2,h3⟩:=h.at'
 have h0:σ.T[0]?=some x:=by rw[hT];rfl
 refine⟨x,hT,?_⟩
 refine stepC C ⟨2,ky,1,0,false⟩ wk0 ht' dr 0 6 0 (j:=21) (by decide) rfl rfl (fun w1 F1 g1 v1 C1=>touch2 C1 ⟨2,ky,1,0,false⟩ wk0 t dr 0 rfl (fun w2 F2 g2 v2 C2=>runE (i:=0) C2 2 ky t 0 h0 h1 h2 h3 (fun w3 F3 g3 v3 C3=>?_)))
 have P:=finC C3 (t:=t) (i:=0) (x:=x) ht' h0 hs hp (wf_of (by omega) (by omega)) (by rw[h.N];omega) (by have:=h.ev;omega) (by rw[hT];simp) (by
  have q1:=h.qn
  have q2:=Ta.cntP_le isW σ.T
  have q3:σ.T.length=1:=by rw[hT];rfl
  omega) (by have:=h.tk;omega) (fun j hj=>by rw[h.E] at hj;exact hj.elim)
 refine P.mono ?_
 rintro e w' ⟨rfl,d,dl,X⟩
 rw[h.E] at dl
 obtain rfl:=done_nil dl
 exact⟨rfl,X⟩
theorem One.fin(h:One σ th 3 ky a){x:Ta.TR}(hT:σ.T=[x])(t:Nat):One (fiS σ t x) th 4 ky (a+1):=by
 obtain⟨y,hT',hs,hk,hp,h1,h2,h3⟩:=h.at'
 obtain rfl:y=x:=by rw[hT] at hT';simpa using hT'.symm
 have e:turnX y 4=Ta.turnT y 4:=by unfold turnX;rw[if_neg (by omega)]
 have k3:=turnX_key y 4
 refine⟨h.th,h.cl,h.N,?_,⟨turnX y 4,?_,k3.2.2.1,k3.1.trans hk,k3.2.2.2.trans hp,?_,?_,?_⟩,h.qi.same rfl rfl (fun e=>?_),le_succ_of_le h.qn,?_,le_succ_of_le h.tk⟩
 ·funext q j
  show(σ.E q j∧q≠1)=False
  rw[h.E]
  simp
 ·show σ.T.set 0 (turnX y 4)=_
  rw[hT];rfl
 ·rw[e];exact h1
 ·rw[e];exact h2
 ·rw[e];exact h3
 ·show Rdy (σ.T.set 0 (turnX y 4)) e↔_
  exact rdy_set (by rw[hT];rfl) (by omega) (by rw[k3.2.2.1];decide) e
 ·show(σ.ev++[_]).length≤a+1
  have:=h.ev
  simp
  exact this
end
section
variable {w w' u w0:World}{L i:Nat}{D:CAd}{F F' F0:Nat→Nat→Prop}{g v:Value}{σ σ':CS}{th a t dr:Nat}{s ky:Int}
theorem asd{p:Prop}(h:p):Aside p:=h
theorem mq_w18:¬Qu.MQ 57:=by unfold Qu.MQ;decide
def Sst(ky:Int)(k:Nat)(σ:CS)(x:WR):Prop:=match k with
 | 0=>One σ 1 2 ky 2∧x=wk0∧(σ.q.g 0).f=true
 | 1=>One σ 1 2 ky 3∧x=wk0∧(σ.q.g 0).f=false
 | 2=>One σ 1 2 ky 5∧x=⟨1,ky,1,0,false⟩
 | 3=>One σ 1 3 ky 6∧x=⟨2,ky,1,0,false⟩
 | 4=>One σ 1 4 ky 7∧x=wk0
 | _=>One σ 1 4 ky 8∧x=wk0
def didL:List Int:=[1,2,3,6,0]
theorem aw_step(C:Co w L D F g v σ){x:WR}{k:Nat}(hk:k<5)(h:Sst ky k σ x) :
  Calls Tryz.prog 18 #[pt D.B,wkV x,.int .i64 0,.int .u64 0] w fun e w'=>∃y0 y1 y2 y3 y4,e=.returned (.tuple #[wkV ⟨y0,y1,y2,y3,y4⟩,.int .i64 (didL.getD k 0)])∧∃σ',Sst ky (k+1) σ' ⟨y0,y1,y2,y3,y4⟩∧Cox L D F w σ' w':=by
 have hk':k=0∨k=1∨k=2∨k=3∨k=4:=by omega
 rcases hk' with rfl|rfl|rfl|rfl|rfl
 ·obtain⟨o,rfl,hf⟩:=h
  refine(oneSettle (t:=0) (dr:=0) C o (by omega) (by omega) hf).mono ?_
  rintro e w' ⟨rfl,X⟩
  exact⟨_,_,_,_,_,rfl,_,⟨o.set (by omega),rfl,Qu.settle_f _ _ _⟩,X⟩
 ·obtain⟨o,rfl,hf⟩:=h
  refine(oneLook (t:=0) (dr:=0) C o (by omega) (by omega) (by omega) hf).mono ?_
  rintro e w' ⟨rfl,X⟩
  exact⟨_,_,_,_,_,rfl,_,⟨(o.set (by omega)).tell _ _ _ _,rfl⟩,X⟩
 ·obtain⟨o,rfl⟩:=h
  obtain⟨x,hT,P⟩:=oneClaim (t:=0) (dr:=0) C o (by omega) (by omega)
  refine P.mono ?_
  rintro e w' ⟨rfl,X⟩
  exact⟨_,_,_,_,_,rfl,_,⟨o.claim hT 0,rfl⟩,X⟩
 ·obtain⟨o,rfl⟩:=h
  obtain⟨x,hT,P⟩:=oneFin (t:=0) (dr:=0) C o (by omega) (by omega)
  refine P.mono ?_
  rintro e w' ⟨rfl,X⟩
  exact⟨_,_,_,_,_,rfl,_,⟨o.fin hT 0,rfl⟩,X⟩
 ·obtain⟨o,rfl⟩:=h
  refine(oneNone (t:=0) (dr:=0) C o (by omega) (by omega) (by omega) (by omega)).mono ?_
  rintro e w' ⟨rfl,X⟩
  exact⟨_,_,_,_,_,rfl,_,⟨o.set (by omega),rfl⟩,X⟩
theorem aw_stepE(C:Co w L D F g v σ){y0 y1 y2 y3:Int}{y4:Bool}{k:Nat}(hk:k<5)(h:Sst ky k σ ⟨y0,y1,y2,y3,y4⟩){dd:Int}(hd:didL.getD k 0=dd) :
  Calls Tryz.prog 18 #[pt D.B,.agg #[.int .i64 y0,.int .u64 y1,.int .i64 y2,.int .i64 y3,.bool y4],.int .i64 0,.int .u64 0] w fun e w'=>∃z0 z1 z2 z3 z4,e=.returned (.tuple #[.agg #[.int .i64 z0,.int .u64 z1,.int .i64 z2,.int .i64 z3,.bool z4],.int .i64 dd])∧∃σ',Sst ky (k+1) σ' ⟨z0,z1,z2,z3,z4⟩∧Cox L D F w σ' w':=by
 subst hd
 have P:=aw_step C hk h
 unfold wkV at P
 dsimp only at P
 exact P
theorem idleC(x:WR)(w:World):Calls Tryz.prog 69 #[wkV x] w fun e w'=>e=.returned (.bool (x.ph==0))∧Below w.heap.size w w':=by
 obtain⟨x0,x1,x2,x3,x4⟩:=x
 go_enter Tryz.func69,Tryz.ntmps69
 go_wp2
 go_ret
 exact⟨rfl,belA _ _⟩
end
section
variable {w w' u w0 w1:World}{L i:Nat}{D:CAd}{F F' F0 F1:Nat→Nat→Prop}{g v g' v':Value}{σ σ':CS}{th a t dr X R A B:Nat}{s ky:Int}{x y z:WR}
theorem One.cancel(h:One σ th 2 ky a){q:Ta.TR}(hT:σ.T=[q]):One (canX (dropE σ 1) 0 q) th 6 ky (a+1):=by
 obtain⟨y,hT',hs,hk,hp,h1,h2,h3⟩:=h.at'
 obtain rfl:y=q:=by rw[hT] at hT';simpa using hT'.symm
 have e:turnX y 6=Ta.turnT y 6:=by unfold turnX;rw[if_neg (by omega)]
 have k3:=turnX_key y 6
 have sm:=canX_sam (dropE σ 1) 0 y
 obtain⟨o1,o2,o3⟩:=canX_o (dropE σ 1) 0 y
 have eT:(canX (dropE σ 1) 0 y).T=σ.T.set 0 (turnX y 6):=canX_T _ _ _
 refine⟨sm.th.trans h.th,sm.cl.trans h.cl,sm.N.trans h.N,sm.E.trans ?_,⟨turnX y 6,?_,k3.2.2.1,k3.1.trans hk,k3.2.2.2.trans hp,?_,?_,?_⟩,?_,?_,?_,?_⟩
 ·funext p j
  show(σ.E p j∧_)=False
  rw[h.E]
  simp
 ·rw[eT,hT];rfl
 ·rw[e];exact h1
 ·rw[e];exact h2
 ·rw[e];exact h3
 ·have hx:canX (dropE σ 1) 0 y=wdrS (turnS (dropE σ 1) 0 y 6) 1:=by unfold canX;rw[if_neg (by omega)];rfl
  rw[hx]
  exact h.qi.take (id:=((0:Nat):Int)+1) rfl rfl (fun e=>rdy_out (show σ.T[0]?=some y by rw[hT];rfl) (by rw[k3.2.2.1];decide) e)
 ·have o2:(canX (dropE σ 1) 0 y).qn≤σ.qn+1:=o2
  have:=h.qn
  omega
 ·have o3:(canX (dropE σ 1) 0 y).ev.length=σ.ev.length+1:=o3
  have:=h.ev
  omega
 ·rw[sm.tk]
  exact le_succ_of_le h.tk
theorem oneCan(C:Co w L D F g v σ)(h:One σ th 2 ky a)(ha:a≤900) :
  Calls Tryz.prog 19 #[pt D.B,.int .i64 1] w fun e w'=>e=.returned (.int .i64 0)∧∃σ',One σ' th 6 ky (a+1)∧Cox L D F w σ' w':=by
 obtain⟨q,hT,hs,hk,hp,_⟩:=h.at'
 have hE:∀j,¬Da.Rch σ.E (((0:Nat):Int)+1) j:=fun j hj=>by
  rw[h.E] at hj
  exact hj (fun _=>False) (fun _ h=>h) (fun _ _ h _=>h)
 have P:=cancelW C (i:=0) (x:=q) (by rw[hT];rfl) (.inr hs) (by omega) (by rw[h.N];omega) (fun j hj=>(hE j hj).elim) (by have:=h.ev;omega) (by rw[hT];show 1≤200;omega) (by
  have h1:=h.qn
  have h2:=Ta.cntP_le isC σ.T
  have h3:σ.T.length=1:=by rw[hT];rfl
  omega)
 refine P.mono ?_
 rintro e w' ⟨rfl,d,kl,X⟩
 rw[h.E] at kl
 obtain rfl:=kill_nil kl
 refine⟨rfl,_,h.cancel hT,?_⟩
 have e1:canL [((0:Nat):Int)+1] (dropE σ (((0:Nat):Int)+1))=canX (dropE σ 1) 0 q:=canStep_at _ 0 q (by show σ.T[0]?=_;rw[hT];rfl)
 rw[e1] at X
 exact X
structure WS(L:Nat)(D:CAd)(F1:Nat→Nat→Prop)(w1:World)(X R A B:Nat)(w:World)(F:Nat→Nat→Prop)(g v:Value)(σ:CS)(x y:WR):Prop where
 c:Co w L D F g v σ
 gc:Gc L F1 w1 F w
 k:Bx w F X #[pt D.B,pt R,.int .u64 0,.int .i64 0] 57
 a:Bx w F A (wkA x) 59
 b:Bx w F B (wkA y) 59
 lA:w1.heap.size≤A
 AB:A<B
 lL:L≤w1.heap.size
def set5w(w:World)(K:Nat)(z:WR):World:=set5 w K (.int .i64 z.ph) (.int .u64 z.key) (.int .i64 z.id) (.int .i64 z.pc) (.bool z.bad)
theorem WS.go(h:WS L D F1 w1 X R A B w F g v σ x y)(C:Co w' L D F' g' v' σ')(G:Gc L F w F' w'):WS L D F1 w1 X R A B w' F' g' v' σ' x y:=
 ⟨C,h.gc.trans G,h.k.gc mq_w18 G,h.a.gc mq_wk G,h.b.gc mq_wk G,h.lA,h.AB,h.lL⟩
theorem WS.below(h:WS L D F1 w1 X R A B w F g v σ x y)(b:Below w.heap.size w w'):WS L D F1 w1 X R A B w' F g v σ x y:=
 ⟨h.c.below b,h.gc.trans (Gc.below F h.c.lw b),h.k.below b,h.a.below b,h.b.below b,h.lA,h.AB,h.lL⟩
theorem WS.ne(h:WS L D F1 w1 X R A B w F g v σ x y):X≠A∧X≠B:=
 ⟨fun e=>by {subst e;have:=h.k.1.symm.trans h.a.1;simp at this},fun e=>by {subst e;have:=h.k.1.symm.trans h.b.1;simp at this}⟩
theorem WS.setA(h:WS L D F1 w1 X R A B w F g v σ x y)(z:WR):WS L D F1 w1 X R A B (set5w w A z) F g v σ z y:=by
 have fw:=set5_fr w A (.int .i64 z.ph) (.int .u64 z.key) (.int .i64 z.id) (.int .i64 z.pc) (.bool z.bad)
 have hb:=h.AB
 exact⟨h.c.frX fw (fun k hk=>by {subst hk;exact⟨h.a.2,nq_of h.a.1 qt_wk⟩}),h.gc.ownX (fun k hk=>by {subst hk;exact h.lA}) h.lL fw,⟨(fw.block X (lt_of_block h.k.1) h.ne.1).trans h.k.1,h.k.2⟩,⟨set5_at h.a.1 _ _ _ _ _,h.a.2⟩,⟨(fw.block B (lt_of_block h.b.1) (by omega)).trans h.b.1,h.b.2⟩,h.lA,h.AB,h.lL⟩
theorem WS.setB(h:WS L D F1 w1 X R A B w F g v σ x y)(z:WR):WS L D F1 w1 X R A B (set5w w B z) F g v σ x z:=by
 have fw:=set5_fr w B (.int .i64 z.ph) (.int .u64 z.key) (.int .i64 z.id) (.int .i64 z.pc) (.bool z.bad)
 have hb:=h.AB
 have ha:=h.lA
 exact⟨h.c.frX fw (fun k hk=>by {subst hk;exact⟨h.b.2,nq_of h.b.1 qt_wk⟩}),h.gc.ownX (fun k hk=>by {subst hk;omega}) h.lL fw,⟨(fw.block X (lt_of_block h.k.1) h.ne.2).trans h.k.1,h.k.2⟩,⟨(fw.block A (lt_of_block h.a.1) (by omega)).trans h.a.1,h.a.2⟩,⟨set5_at h.b.1 _ _ _ _ _,h.b.2⟩,h.lA,h.AB,h.lL⟩
theorem lookE(C:Co w L D F g v σ)(h:One σ 2 2 ky a){t:Nat}(ht:t<2)(ha:a≤900){dr:Nat}(hdr:dr<18446744073709551616)(hf:(σ.q.g t).f=false) :
  Calls Tryz.prog 18 #[pt D.B,.agg #[.int .i64 0,.int .u64 0,.int .i64 0,.int .i64 0,.bool false],.int .i64 t,.int .u64 dr] w fun e w'=>e=.returned (.tuple #[.agg #[.int .i64 1,.int .u64 ky,.int .i64 1,.int .i64 0,.bool false],.int .i64 2])∧∃σ',One σ' 2 2 ky (a+2)∧(∀t',t'≠t→(σ'.q.g t').f=(σ.q.g t').f)∧Cox L D F w σ' w':=by
 refine Calls.mono (oneLook C h ht ha hdr hf) ?_
 rintro e w' ⟨rfl,Y⟩
 refine⟨rfl,lkS σ t ky,(h.set ht).tell _ _ _ _,fun t' ht'=>?_,Y⟩
 show((Qu.settleQ σ.k σ.q t).g t').f=_
 rw[settle_other _ _ ht']
theorem claimE(C:Co w L D F g v σ)(h:One σ 2 2 ky a){t:Nat}(ht:t<2)(ha:a≤900){dr:Nat} :
  Calls Tryz.prog 18 #[pt D.B,.agg #[.int .i64 1,.int .u64 ky,.int .i64 1,.int .i64 0,.bool false],.int .i64 t,.int .u64 dr] w fun e w'=>e=.returned (.tuple #[.agg #[.int .i64 2,.int .u64 ky,.int .i64 1,.int .i64 0,.bool false],.int .i64 3])∧∃σ',One σ' 2 3 ky (a+1)∧Cox L D F w σ' w':=by
 obtain⟨q,hT,P⟩:=oneClaim (dr:=dr) C h ht ha
 refine Calls.mono P ?_
 rintro e w' ⟨rfl,Y⟩
 exact⟨rfl,_,h.claim hT t,Y⟩
theorem WS.two(C:Co w L D F g v σ)(G:Gc L F1 w1 F w)(K:Bx w F X #[pt D.B,pt R,.int .u64 0,.int .i64 0] 57)(hL:L≤w1.heap.size){A B:Nat}(hA:w.heap.size=A)(hB:A+1=B):WS L D F1 w1 X R A B ((w.alloc (.cells #[.int .i64 0,.int .u64 0,.int .i64 0,.int .i64 0,.bool false] 59)).alloc (.cells #[.int .i64 0,.int .u64 0,.int .i64 0,.int .i64 0,.bool false] 59)) F g v σ wk0 wk0:=by
 have W:=WB.new C wk0 hA
 have b:Below w.heap.size w ((w.alloc (.cells (wkA wk0) 59)).alloc (.cells (wkA wk0) 59)):=belT (belA _ _) (belA _ _)
 subst hB
 exact⟨C.below b,G.trans (Gc.below F C.lw b),K.below b,W.a,W.b,by rw[←hA];exact G.size,Nat.lt_succ_self _,hL⟩
theorem bel_set5(w:World)(N:Nat)(a0 a1 a2 a3 a4:Value):Below N w (set5 w N a0 a1 a2 a3 a4):=by
 have h0:Below N w w:=Below.refl _ _
 have h1:Below N w (w.setCell ⟨N,0,none⟩ a0):=h0.setCell (Nat.le_refl N) _
 have h2:Below N w ((w.setCell ⟨N,0,none⟩ a0).setCell ⟨N,1,none⟩ a1):=h1.setCell (Nat.le_refl N) _
 have h3:Below N w (((w.setCell ⟨N,0,none⟩ a0).setCell ⟨N,1,none⟩ a1).setCell ⟨N,2,none⟩ a2):=h2.setCell (Nat.le_refl N) _
 have h4:Below N w ((((w.setCell ⟨N,0,none⟩ a0).setCell ⟨N,1,none⟩ a1).setCell ⟨N,2,none⟩ a2).setCell ⟨N,3,none⟩ a3):=h3.setCell (Nat.le_refl N) _
 have h5:Below N w (((((w.setCell ⟨N,0,none⟩ a0).setCell ⟨N,1,none⟩ a1).setCell ⟨N,2,none⟩ a2).setCell ⟨N,3,none⟩ a3).setCell ⟨N,4,none⟩ a4):=h4.setCell (Nat.le_refl N) _
 exact h5
end
section
variable {w w' u w0:World}{L i:Nat}{D:CAd}{F F' F0:Nat→Nat→Prop}{g v:Value}{σ σ':CS}{th a t dr:Nat}{s ky:Int}
theorem did_up{k:Nat}(h:k<5):didL.take (k+1)=didL.take k++[didL.getD k 0]:=Da.take_up h
theorem awake19C(w:World):Calls Tryz.prog 20 #[] w fun e w'=>e=.returned (.bool true)∧Below w.heap.size w w':=by
 have P:Calls Tryz.prog 17 #[.agg #[.int .i64 1,.int .i64 0,.int .i64 2]] w fun e w'=>∃X,e=.returned (pt X)∧∃L D F R,w.heap.size≤L∧Co w' L D F (.slice none 0 0) (.slice none 0 0) (newS 1 0 2)∧Bx w' F X #[pt D.B,pt R,.int .u64 0,.int .i64 0] 57∧w.heap.size≤X∧Below w.heap.size w w':=newW 1 0 2 w (by omega) (by omega) (by omega) (by omega) (by omega)
 go_enter Tryz.func20,Tryz.ntmps20
 go_wp2_with fail
 refine P.mono ?_
 rintro e w1 ⟨X,rfl,L,D,F1,R,hL,C1,BX,hX,b1⟩
 have B1:Aside (Below w.heap.size w w1∧w.heap.size≤L∧w.heap.size≤X∧L≤w1.heap.size):=⟨b1,hL,hX,C1.lw⟩
 have x0:w1.cell? ⟨X,0,none⟩=some (pt D.B):=BX.cell 0
 have P:Calls Tryz.prog 14 #[pt D.B,.int .i64 0,.int .i64 0,.slice none 0 0,.slice none 0 0] w1 fun e w'=>e=.returned (.tuple #[.int .i64 1,.int .i64 0])∧Cox L D F1 w1 (subS (newS 1 0 2) 0 0) w':=subC C1 (t:=0) (show 0<1 by omega) rfl (show 0<200 by omega) (show 0<2 by omega) (show 0+1<1000000 by omega) (show 0≤1000 by omega) (show 0<1000000 by omega) 0 (by omega) (by omega)
 have xlt:=lt_of_block BX.1
 have HB:Aside (Bx w1 F1 X #[pt D.B,pt R,.int .u64 0,.int .i64 0] 57):=BX
 clear b1 hL hX C1 BX
 go_wp2_with fail
 refine P.mono ?_
 rintro e w2 ⟨rfl,F2,g2,v2,C2,G2⟩
 clear P x0 xlt
 obtain⟨ky,o⟩:=One.sub (th:=1) (k:=0) (n:=2) (t:=0) (by omega) 0
 obtain⟨W,hW⟩:∃J,w2.heap.size=J:=⟨_,rfl⟩
 obtain⟨u2,hu2⟩:∃q,w2.alloc (.cells #[.int .i64 0,.int .u64 0,.int .i64 0,.int .i64 0,.bool false] 59)=q:=⟨_,rfl⟩
 have b2:Below w2.heap.size w2 u2:=by rw[←hu2];exact belA _ _
 have BW:Bx u2 F2 W (wkA wk0) 59:=by rw[←hu2,←hW];exact Bx.new C2 (wkA wk0) 59
 have hf0:((subS (newS 1 0 2) 0 0).q.g 0).f=true:=put_same _ _ _ _
 have SC:Aside (Co u2 L D F2 g2 v2 (subS (newS 1 0 2) 0 0)):=C2.below b2
 have SG:Aside (Gc L F1 w1 F2 u2):=G2.trans (Gc.below F2 C2.lw b2)
 have SX:Aside (Bx u2 F2 X #[pt D.B,pt R,.int .u64 0,.int .i64 0] 57):=(HB.out.gc mq_w18 G2).below b2
 have SB:Aside (Bx u2 F2 W (wkA wk0) 59):=BW
 have SS:Aside (Sst ky 0 (subS (newS 1 0 2) 0 0) wk0):=(⟨o,rfl,hf0⟩:One (subS (newS 1 0 2) 0 0) 1 2 ky 2∧wk0=wk0∧((subS (newS 1 0 2) 0 0).q.g 0).f=true)
 have SD:Aside (Owb w1.heap.size u2 F2 (.slice none 0 0) (didL.take 0)):=Owb.nil _ _ _
 have SW:Aside (w1.heap.size≤W):=by show _≤W;rw[←hW];exact G2.size
 have HU2:Aside _:=hu2
 have HWW:Aside _:=hW
 clear C2 G2 b2 BW hf0 o hu2 hW
 go_upto_region 8 with fail
 rw[HU2.out]
 try simp only[HWW.out]
 go_wp2_with fail
 go_loopg [5,6,7] 5 (fun kx s5 s6 s7 wr=>∃(k:Nat)(vf:Value),s6=.int .i64 k∧vf=s5∧k≤5∧5-k≤kx∧∃(σ:CS)(y0 y1 y2 y3:Int)(y4:Bool)(Fr:Nat→Nat→Prop)(gr vr:Value),Aside (Co wr L D Fr gr vr σ)∧Aside (Gc L F1 w1 Fr wr)∧Aside (Bx wr Fr X #[pt D.B,pt R,.int .u64 0,.int .i64 0] 57)∧Aside (Bx wr Fr W #[.int .i64 y0,.int .u64 y1,.int .i64 y2,.int .i64 y3,.bool y4] 59)∧Aside (Sst ky k σ ⟨y0,y1,y2,y3,y4⟩)∧Aside (Owb w1.heap.size wr Fr vf (didL.take k)))
 case atStart=>exact⟨0,_,rfl,rfl,by omega,by omega,_,0,0,0,0,false,_,_,_,SC,SG,SX,SB,SS,SD⟩
 case round=>
  obtain⟨k,s5,rfl,rfl,hk,hkx,σ,y0,y1,y2,y3,y4,Fr,gr,vr,Cr,Gr,Xr,Br,Sr,Dr⟩:=hrel
  by_cases c:k<5
  ·have hlt:(k:Int)<5:=by omega
   obtain⟨a0,a1,a2,a3,a4⟩:=bx5 Br.out.1
   obtain⟨ad0,ad1,ad2,ad3,ad4⟩:=bx5 (w:=wr.drew) Br.out.1
   have alt:=lt_of_block Br.out.1
   have x0:wr.drew.cell? ⟨X,0,none⟩=some (pt D.B):=(Xr.out.cell 0:wr.cell? ⟨X,0,none⟩=some (pt D.B))
   obtain⟨dd,hdd⟩:∃dd,didL.getD k 0=dd:=⟨_,rfl⟩
   have PP:=asd (aw_stepE Cr.out.drew c Sr.out hdd)
   have HDD:Aside (didL.getD k 0=dd):=hdd
   clear hdd
   go_wp2_with fail
   refine wp_region_held_drew (S:=(fun V:World=>V.cell? ⟨X,0,none⟩=some (pt D.B))) (by kernel_rfl) (x0) (fun hHeld=>?_)
   refine wpAnyH_take (i:=0) (oi:=⟨some 28,Op.move (.tmp 1),53,"law.go:24",#[],none⟩) (v:=?_) rfl (by kernel_rfl) (by kernel_rfl) (by kernel_rfl) (fun _ _ _ h=>h) (Or.inl ⟨by rfl,?_⟩) (by assumption) ?_
   rotate_left
   ·intro w z;(try dsimp only at z);go_simp;try with_reducible rfl
   simp only[Act.put,sA,sB,sC]
   refine wpAnyH_take (i:=1) (oi:=⟨some 29,Op.nilCheck (.tmp 28),0,"law.go:24",#[⟨0,.data⟩],none⟩) (v:=?_) rfl (by kernel_rfl) (by kernel_rfl) (by kernel_rfl) (fun _ _ _ h=>h) (Or.inl ⟨by rfl,?_⟩) (by assumption) ?_
   rotate_left
   ·intro w z;(try dsimp only at z);go_simp;try with_reducible rfl
   simp only[Act.put,sA,sB,sC]
   refine wpAnyH_take (i:=2) (oi:=⟨some 30,Op.fieldAddr 57 (.tmp 29) 0,0,"law.go:24",#[⟨1,.data⟩],none⟩) (v:=?_) rfl (by kernel_rfl) (by kernel_rfl) (by kernel_rfl) (fun _ _ _ h=>h) (Or.inl ⟨by rfl,?_⟩) (by assumption) ?_
   rotate_left
   ·intro w z;(try dsimp only at z);go_simp;try with_reducible rfl
   simp only[Act.put,sA,sB,sC]
   refine wpAnyH_take (i:=3) (oi:=⟨some 31,Op.load 23 (.tmp 30),23,"law.go:24",#[⟨2,.data⟩],none⟩) (v:=?_) rfl (by kernel_rfl) (by kernel_rfl) (by kernel_rfl) (fun _ _ _ h=>h) (Or.inl ⟨by rfl,?_⟩) (by assumption) ?_
   rotate_left
   ·intro w z;(try dsimp only at z);go_simp;try with_reducible rfl
   simp only[Act.put,sA,sB,sC]
   refine wpAnyH_ready (rs:=[4]) (by kernel_rfl) (by simp) ?_
   refine AllReadyH.cons (o:=⟨some 32,Op.load 59 (.tmp 4),59,"law.go:24",#[],none⟩) rfl (fun Kt hKt=>?_) AllReadyH.nil
   go_simp
   refine hKt.out _ _ (x0) (fun hHeld=>?_)
   clear hKt Kt
   try simp only[Act.put,sA,sB,sC]
   refine wpAnyH_ready (rs:=[5]) (by kernel_rfl) (by simp) ?_
   refine AllReadyH.cons (o:={dst:=some 33,op:=Op.call {callee:=Callee.value (Operand.func 18),args:=#[Operand.tmp 31,Operand.tmp 32,Operand.const (Value.int IntKind.i64 0),Operand.const (Value.int IntKind.u64 0)],argTypes:=#[23,59,3,31]},type:=60,pos:= "law.go:24",after:=#[⟨3,.data⟩,⟨4,.data⟩],guard:=none}) rfl (fun Kt hKt=>?_) AllReadyH.nil
   go_simp
   (with_reducible refine Calls.mono PP.out ?_)
   rintro e w3 ⟨z0,z1,z2,z3,z4,rfl,σ',st,F3,g3,v3,C3,G3⟩
   have G3':Gc L Fr wr F3 w3:=(Gc.below Fr Cr.out.lw (Below.refl _ _).drew).trans G3
   have X3:=Xr.out.gc mq_w18 G3'
   have B3:=Br.out.gc mq_wk G3'
   have x3:w3.cell? ⟨X,0,none⟩=some (pt D.B):=X3.cell 0
   obtain⟨b0,b1,b2,b3,b4⟩:=bx5 B3.1
   have blt:=lt_of_block B3.1
   have bfz:∀o,w3.frozen? ⟨W,o,none⟩=false:=(fun o=>by simp[World.frozen?,B3.1])
   have fw:=set5_fr w3 W (.int .i64 z0) (.int .u64 z1) (.int .i64 z2) (.int .i64 z3) (.bool z4)
   have hne:X≠W:=fun e=>by {subst e;have:=X3.1.symm.trans B3.1;simp at this}
   have hx5:=(fw.block X (lt_of_block X3.1) hne).trans X3.1
   have x5:(set5 w3 W (.int .i64 z0) (.int .u64 z1) (.int .i64 z2) (.int .i64 z3) (.bool z4)).cell? ⟨X,0,none⟩=some (pt D.B):=by {rw[cell_of_row _ _ _ _ _ _ hx5];rfl}
   unfold set5 at x5
   have hb5:=set5_at B3.1 (.int .i64 z0) (.int .u64 z1) (.int .i64 z2) (.int .i64 z3) (.bool z4)
   obtain⟨u5,hu5⟩:∃q,set5 w3 W (.int .i64 z0) (.int .u64 z1) (.int .i64 z2) (.int .i64 z3) (.bool z4)=q:=⟨_,rfl⟩
   have G5:Gc L F1 w1 F3 w3:=Gr.out.trans G3'
   have C5:=C3.frX fw (fun k hk=>by {subst hk;exact⟨B3.2,nq_of B3.1 qt_wk⟩})
   have G6:=G5.ownX (fun k hk=>by {subst hk;exact SW.out}) B1.out.2.2.2 fw
   have D3:=Dr.out.gc G3'
   have D5:Owb w1.heap.size (set5 w3 W (.int .i64 z0) (.int .u64 z1) (.int .i64 z2) (.int .i64 z3) (.bool z4)) F3 s5 (didL.take k):=⟨D3.1.of_block fun j hj=>fw.block j (D3.1.rowLt hj).2 (fun e=>by {subst e;obtain⟨cs,hc⟩:=D3.1.rowT hj;have:=hc.symm.trans B3.1;simp at this}),D3.2⟩
   have BX5:Bx (set5 w3 W (.int .i64 z0) (.int .u64 z1) (.int .i64 z2) (.int .i64 z3) (.bool z4)) F3 X #[pt D.B,pt R,.int .u64 0,.int .i64 0] 57:=⟨hx5,X3.2⟩
   have BW5:Bx (set5 w3 W (.int .i64 z0) (.int .u64 z1) (.int .i64 z2) (.int .i64 z3) (.bool z4)) F3 W #[.int .i64 z0,.int .u64 z1,.int .i64 z2,.int .i64 z3,.bool z4] 59:=⟨hb5,B3.2⟩
   rw[hu5] at C5 G6 D5 BX5 BW5
   have HU5:Aside ((((((w3.setCell ⟨W,0,none⟩ (.int .i64 z0)).setCell ⟨W,1,none⟩ (.int .u64 z1)).setCell ⟨W,2,none⟩ (.int .i64 z2)).setCell ⟨W,3,none⟩ (.int .i64 z3)).setCell ⟨W,4,none⟩ (.bool z4))=u5):=hu5
   have HC5:Aside (Co u5 L D F3 g3 v3 σ'):=C5
   have HG5:Aside (Gc L F1 w1 F3 u5):=G6
   have HD5:Aside (Owb w1.heap.size u5 F3 s5 (didL.take k)):=D5
   have HX5:Aside (Bx u5 F3 X #[pt D.B,pt R,.int .u64 0,.int .i64 0] 57):=BX5
   have HB5:Aside (Bx u5 F3 W #[.int .i64 z0,.int .u64 z1,.int .i64 z2,.int .i64 z3,.bool z4] 59):=BW5
   have HST:Aside (Sst ky (k+1) σ' ⟨z0,z1,z2,z3,z4⟩):=st
   clear C5 G6 D5 D3 BX5 BW5 hu5 G5 hb5 hx5 fw hne X3 B3 G3' G3 C3 st
   go_wp2_with fail
   refine hKt.out _ _ (x3) (fun hHeld=>?_)
   clear hKt Kt
   try simp only[Act.put,sA,sB,sC]
   refine wpAnyH_take (i:=6) (oi:=⟨some 27,Op.move (.tmp 33),60,"law.go:24",#[⟨5,.data⟩],none⟩) (v:=?_) rfl (by kernel_rfl) (by kernel_rfl) (by kernel_rfl) (fun _ _ _ h=>h) (Or.inl ⟨by rfl,?_⟩) (by assumption) ?_
   rotate_left
   ·intro w z;(try dsimp only at z);go_simp;try with_reducible rfl
   simp only[Act.put,sA,sB,sC]
   refine wpAnyH_take (i:=7) (oi:=⟨some 34,Op.extract (.tmp 27) 0,59,"law.go:24",#[⟨6,.data⟩],none⟩) (v:=?_) rfl (by kernel_rfl) (by kernel_rfl) (by kernel_rfl) (fun _ _ _ h=>h) (Or.inl ⟨by rfl,?_⟩) (by assumption) ?_
   rotate_left
   ·intro w z;(try dsimp only at z);go_simp;try with_reducible rfl
   simp only[Act.put,sA,sB,sC]
   refine wpAnyH_take (i:=8) (oi:=⟨some 35,Op.extract (.tmp 27) 1,3,"law.go:24",#[⟨6,.data⟩,{on:=9,ground:=Ground.gcOnly Departure.lateStores}],none⟩) (v:=?_) rfl (by kernel_rfl) (by kernel_rfl) (by kernel_rfl) (fun _ _ _ h=>h) (Or.inl ⟨by rfl,?_⟩) (by assumption) ?_
   rotate_left
   ·intro w z;(try dsimp only at z);go_simp;try with_reducible rfl
   simp only[Act.put,sA,sB,sC]
   refine wpAnyH_ready (rs:=[9]) (by kernel_rfl) (by simp) ?_
   refine AllReadyH.cons (o:=⟨none,Op.store 59 (.tmp 4) (.tmp 34),0,"law.go:24",#[⟨7,.data⟩,⟨5,.chain⟩,⟨0,.phase⟩,⟨1,.phase⟩,⟨2,.phase⟩,⟨3,.phase⟩,⟨4,.phase⟩,⟨5,.phase⟩,⟨6,.phase⟩,⟨7,.phase⟩,{on:=8,ground:=Ground.textOnly Departure.lateStores}],none⟩) rfl (fun Kt hKt=>?_) AllReadyH.nil
   go_simp
   refine hKt.out _ _ (x5) (fun hHeld=>?_)
   clear hKt Kt
   try simp only[Act.put,sA,sB,sC]
   refine wpAnyH_take (i:=10) (oi:=⟨some 7,Op.assign (.tmp 35),3,"law.go:24",#[⟨8,.data⟩,⟨9,.chain⟩,⟨0,.phase⟩,⟨1,.phase⟩,⟨2,.phase⟩,⟨3,.phase⟩,⟨4,.phase⟩,⟨5,.phase⟩,⟨6,.phase⟩,⟨7,.phase⟩,⟨8,.phase⟩,⟨9,.phase⟩],none⟩) (v:=?_) rfl (by kernel_rfl) (by kernel_rfl) (by kernel_rfl) (fun _ _ _ h=>h) (Or.inl ⟨by rfl,?_⟩) (by assumption) ?_
   rotate_left
   ·intro w z;(try dsimp only at z);go_simp;try with_reducible rfl
   simp only[Act.put,sA,sB,sC]
   refine wpAnyH_done (by kernel_rfl) ?_ _
   clear x0 x3 x5 a0 a1 a2 a3 a4 ad0 ad1 ad2 ad3 ad4 alt b0 b1 b2 b3 b4 blt bfz
   rw[HU5.out]
   have hlen:(didL.take k).length<1000000:=by rw[List.length_take];have:didL.length=5:=rfl;omega
   obtain⟨v6,w6,hr6,o6,C6,G6,f6,n6⟩:=HD5.out.push HC5.out HG5.out (Nat.le_refl _) HG5.out.size B1.out.2.2.2 dd hlen
   have BX6:Bx w6 F3 X #[pt D.B,pt R,.int .u64 0,.int .i64 0] 57:=⟨(f6.block X (lt_of_block HX5.out.1) (fun e=>by
    obtain⟨cs,hc⟩:=HD5.out.1.rowT e
    have:=hc.symm.trans HX5.out.1
    simp at this)).trans HX5.out.1,HX5.out.2⟩
   have BW6:Bx w6 F3 W #[.int .i64 z0,.int .u64 z1,.int .i64 z2,.int .i64 z3,.bool z4] 59:=⟨(f6.block W (lt_of_block HB5.out.1) (fun e=>by
    obtain⟨cs,hc⟩:=HD5.out.1.rowT e
    have:=hc.symm.trans HB5.out.1
    simp at this)).trans HB5.out.1,HB5.out.2⟩
   have NX:Aside (Co w6 L D F3 g3 v3 σ'∧Gc L F1 w1 F3 w6∧Bx w6 F3 X #[pt D.B,pt R,.int .u64 0,.int .i64 0] 57∧Bx w6 F3 W #[.int .i64 z0,.int .u64 z1,.int .i64 z2,.int .i64 z3,.bool z4] 59∧Owb w1.heap.size w6 F3 v6 (didL.take (k+1))):=⟨C6,G6,BX6,BW6,by rw[did_up c,HDD.out];exact o6⟩
   clear hlen o6 C6 G6 f6 n6 BX6 BW6
   go_wp2_with (at_builtin;refine Da.wpList_app _ rfl _ _ 43 rfl _ _ rfl rfl v6 w6 hr6 ?_;clear hr6)
   go_roundg (5-(k+1))
   case measure=>omega
   case rel=>exact⟨k+1,_,by go_num,rfl,by omega,Nat.le_refl _,σ',z0,z1,z2,z3,z4,F3,g3,v3,NX.out.1,NX.out.2.1,NX.out.2.2.1,NX.out.2.2.2.1,HST,NX.out.2.2.2.2⟩
  ·obtain rfl:k=5:=by omega
   have Dx:Owb w1.heap.size wr Fr s5 didL:=Dr.out
   obtain⟨a5,cap5,e5,I5⟩:=Dx.1.isI
   have e5':s5=.slice a5 5 cap5:=e5
   subst e5'
   have so:One σ 1 4 ky 8∧(⟨y0,y1,y2,y3,y4⟩:WR)=wk0:=Sr.out
   obtain⟨o5,ex⟩:=so
   unfold wk0 at ex
   injection ex with q0 q1 q2 q3 q4
   subst q0 q1 q2 q3 q4
   obtain⟨N,hN⟩:∃N,wr.heap.size=N:=⟨_,rfl⟩
   obtain⟨u6,hu6⟩:∃q,wr.alloc (.cells #[.int .i64 1,.int .i64 2,.int .i64 3,.int .i64 6,.int .i64 0] 3)=q:=⟨_,rfl⟩
   have b6:Below wr.heap.size wr u6:=by rw[←hu6];exact belA _ _
   have lit:Da.OwnI u6 0 (.slice (some ⟨N,0,none⟩) 5 5) didL:=by rw[←hu6,←hN];exact Da.OwnI.lit wr didL (Nat.zero_le _) (by decide)
   have P:Calls Tryz.prog 30 #[.slice a5 5 cap5,.slice (some ⟨N,0,none⟩) 5 5] u6 fun e w'=>e=.returned (.bool true)∧Below u6.heap.size u6 w':=by
    have q:=Da.same_any (I5.below b6) lit.isIv
    rw[show(didL==didL)=true by decide] at q
    exact q
   have C6:Aside (Co u6 L D Fr gr vr σ):=Cr.out.below b6
   have X6:Aside (Bx u6 Fr X #[pt D.B,pt R,.int .u64 0,.int .i64 0] 57):=Xr.out.below b6
   have W6:Aside (Bx u6 Fr W (wkA wk0) 59):=Br.out.below b6
   have FIN:Aside (Below w.heap.size w u6):=B1.out.1.trans (((Gr.out.trans (Gc.below Fr Cr.out.lw b6)).low).mono B1.out.2.1)
   have HU6:Aside _:=hu6
   have HN:Aside _:=hN
   clear hu6 hN b6 lit I5 e5 Dx
   have hlt:¬((5:Nat):Int)<5:=by omega
   go_wp2_with fail
   rw[HU6.out]
   try simp only[HN.out]
   refine P.mono ?_
   rintro e w7 ⟨rfl,b7⟩
   have C7:=C6.out.below b7
   have X7:=X6.out.below b7
   have W7:Aside (Bx w7 Fr W (wkA wk0) 59):=W6.out.below b7
   have FIN7:Aside (Below w.heap.size w w7):=belT FIN.out b7
   have x0:w7.cell? ⟨X,0,none⟩=some (pt D.B):=X7.cell 0
   have xlt:=lt_of_block X7.1
   obtain⟨xx,hT,hs,_⟩:=o5.at'
   have P:Calls Tryz.prog 12 #[pt D.B,.int .i64 1] w7 fun e w'=>e=.returned (.int .i64 4)∧Cox L D Fr w7 σ w':=by
    have q:=statusC C7 (i:=0) (x:=xx) (by rw[hT];rfl)
    rw[hs] at q
    exact q
   clear C7 X7 b7
   go_wp2_with fail
   refine P.mono ?_
   rintro e w8 ⟨rfl,F8,g8,v8,C8,G8⟩
   have W8:=W7.out.gc mq_wk G8
   obtain⟨c0,c1,c2,c3,c4⟩:=bx5 W8.1
   have clt:=lt_of_block W8.1
   have FIN8:Aside (Below w.heap.size w w8):=FIN7.out.trans (G8.low.mono B1.out.2.1)
   have P:Calls Tryz.prog 69 #[.agg #[.int .i64 0,.int .u64 0,.int .i64 0,.int .i64 0,.bool false]] w8 fun e w'=>e=.returned (.bool true)∧Below w8.heap.size w8 w':=idleC wk0 w8
   clear x0 xlt C8 G8 W8
   go_wp2_with fail
   refine P.mono ?_
   rintro e w9 ⟨rfl,b9⟩
   have FIN9:Aside (Below w.heap.size w w9):=belT FIN8.out b9
   clear b9
   go_wp2_with fail
   go_ret
   exact⟨rfl,FIN9.out⟩
end
end Go.Proofs.YtdboknkfhbhniaaGreatDoor
