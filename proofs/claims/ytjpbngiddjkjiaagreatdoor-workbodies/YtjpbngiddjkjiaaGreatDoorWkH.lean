import Derived.Test.YtjpbngiddjkjiaaGreatDoorOpE
import Derived.Test.YtjpbngiddjkjiaaGreatDoorWkL
import Derived.Test.YtjpbngiddjkjiaaGreatDoorCoDe
open Go.Proofs.Tryz
open List(getElem?_set_ne getElem?_set_self)
open Nat(le_of_eq le_succ_of_le le_trans succ_le_succ)
namespace Go.Proofs.YtjpbngiddjkjiaaGreatDoor
set_option linter.unusedSimpArgs false
set_option maxHeartbeats 8000000
set_option maxRecDepth 100000
set_option linter.unusedVariables false
open Go.RowKit Go.Lib Go.WideMaps Go.Maps
section
variable {w w' u w0:World}{L i:Nat}{D:CAd}{F F' F0:Nat->Nat->Prop}{g v:Value}{σ σ':CS}
theorem Wk.Stp.alloc{M:Nat}(h:Wk.Stp w M)(o:Obj):Wk.Stp (w.alloc o) M:=by
 obtain⟨D,a,b,c⟩:=h;exact⟨D,a.alloc o,b,c⟩
theorem stepB(C:Co w L D F g v σ)(x y:WR){t:Nat}(ht:t<σ.th)(dr f did ph:Int){j:Nat}(hj:j∈Wk.placesC)(hc:Wk.chAt j=(x.ph,f))(hv:Wk.fnAt j=(did,ph))(PT:∀w1,Below w.heap.size w w1->Co w1 L D F g v σ->Calls prog 26 #[pt D.B,wkV x,.int .i64 t,.int .u64 dr] w1 fun e w'=>e=.returned (.tuple #[wkV y,.int .i64 f])/\Cox L D F w1 σ' w') :
  Calls prog 8 #[pt D.B,wkV x,.int .i64 t,.int .u64 dr] w fun e w'=>e=.returned (.tuple #[wkV ⟨ph,y.key,y.id,y.pc,y.bad⟩,.int .i64 did])/\Cox L D F w σ' w':=by
 obtain⟨K,hK⟩:∃J,w.heap.size=J:=⟨_,rfl⟩;have W0:=WB.new C x hK;obtain⟨u,hu⟩:∃q,(w.alloc (.cells (wkA x) 40)).alloc (.cells (wkA wk0) 40)=q:=⟨_,rfl⟩;have b0:Below w.heap.size w u:=by rw[<-hu];exact belT (belA _ _) (belA _ _)
 rw[hu] at W0;have P:=wHasC (C.below b0) ht;have HC:Aside (Gc L F w F u/\w.heap.size=K/\L<=w.heap.size/\WB w u F K x wk0/\Co u L D F g v σ):=⟨Gc.below F C.lw b0,hK,C.lw,W0,C.below b0⟩;have HT:Aside _:=PT;have HB0:Aside (Below w.heap.size w u):=b0;obtain⟨x0,x1,x2,x3,x4⟩:=x;obtain⟨y0,y1,y2,y3,y4⟩:=y
 have LK:Aside (∀(W:World)(M:Nat),Wk.Stp W M->(Instr.lookup 76 (.map (some M)) (.agg #[.int .i64 x0,.int .i64 f]) true).run prog W=.ok (.tuple #[.agg #[.int .i64 did,.int .i64 ph],.bool true]) W):=fun W M st=>by
  have:=st.look hj;unfold Wk.vAt at this;rw[hc,hv] at this;exact this
 have HU:Aside _:=hu;clear C W0 hu b0 PT ht hj hc hv;go_enter func8,ntmps8
 go_upto_region 1 with fail
 rw[show(w.alloc (.cells #[.int .i64 x0,.int .u64 x1,.int .i64 x2,.int .i64 x3,.bool x4] 40)).alloc (.cells #[.int .i64 0,.int .u64 0,.int .i64 0,.int .i64 0,.bool false] 40)=u from HU.out];try simp only[hK]
 go_wp2_with fail
 refine P.mono ?_;rintro e w1 ⟨rfl,b1⟩;have C1:=HC.out.2.2.2.2.below b1;have W1:=HC.out.2.2.2.1.bel b1;have X1:Aside (Gc L F w F w1/\WB w w1 F K ⟨x0,x1,x2,x3,x4⟩ wk0):=⟨HC.out.1.trans (Gc.below F HC.out.2.2.2.2.lw b1),W1⟩;obtain⟨a0,a1,a2,a3,a4⟩:=bx5 W1.a.1;have alt:=lt_of_block W1.a.1;have P:=HT.out w1 (HB0.out.trans (b1.mono HB0.out.size)) C1;clear C1 W1 b1
 go_wp2_with fail
 refine P.mono ?_;rintro e w2 ⟨rfl,F2,g2,v2,C2,G2⟩;clear P a0 a1 a2 a3 a4 alt;obtain⟨J,hJ⟩:∃J,w2.heap.size=J:=⟨_,rfl⟩;obtain⟨u2,hu2⟩:∃q,w2.alloc (.cells #[.int .i64 y0,.int .u64 y1,.int .i64 y2,.int .i64 y3,.bool y4] 40)=q:=⟨_,rfl⟩;have b2:Below w2.heap.size w2 u2:=by rw[<-hu2];exact belA _ _
 have BJ:Bx u2 F2 J #[.int .i64 y0,.int .u64 y1,.int .i64 y2,.int .i64 y3,.bool y4] 40:=by rw[<-hu2,<-hJ];exact Bx.new C2 _ _
 have W2:=(X1.out.2.gc G2).bel b2;have X2:Aside (Co u2 L D F2 g2 v2 σ'/\Gc L F w F2 u2/\WB w u2 F2 K ⟨x0,x1,x2,x3,x4⟩ wk0/\Bx u2 F2 J #[.int .i64 y0,.int .u64 y1,.int .i64 y2,.int .i64 y3,.bool y4] 40/\w.heap.size<=J/\K+1<J):=⟨C2.below b2,(X1.out.1.trans G2).trans (Gc.below F2 C2.lw b2),W2,BJ,by rw[<-hJ];exact(X1.out.1.trans G2).size,by rw[<-hJ];exact lt_of_block (X1.out.2.gc G2).b.1⟩;have KP:Aside (∀W,Below u2.heap.size u2 W->W.cell? ⟨K,0,none⟩=some (.int .i64 x0)):=fun W b=>(bx5 (X2.out.2.2.1.a.below b).1).1;have k0:u2.drew.cell? ⟨K,0,none⟩=some (.int .i64 x0):=KP.out _ (Below.refl _ _).drew;have kA:=KP.out (u2.alloc (.cells #[.int .i64 0,.int .i64 0] 74)).drew (belA _ _).drew;have HU2:Aside _:=hu2;have HJ:Aside _:=hJ;obtain⟨N2,hN2⟩:∃N2,u2.heap.size=N2:=⟨_,rfl⟩;have hbx:(u2.alloc (.cells #[.int .i64 0,.int .i64 0] 74)).drew.heap[N2]?=some (.cells #[.int .i64 0,.int .i64 0] 74 (0,0)):=by rw[<-hN2];exact heap_alloc_new u2 _
 have HBX:Aside _:=hbx;have HN2:Aside _:=hN2;have LD:=fun W=>Wk.leads_any W;clear C2 G2 W2 BJ hu2 hJ b2 hbx;go_upto_region 4 with fail
 rw[HU2.out];try simp only[HJ.out]
 go_cut [12,13] (fun s12 s13 wx=>∃(M:Nat),s12=.pointer (some ⟨M,0,none⟩)/\s13=.bool true/\Below u2.heap.size u2 wx/\wx.heap[M]?=some (.cells #[.int .i64 did,.int .i64 ph] 74 (0,0))/\u2.heap.size<=M)
 case first=>
  go_region_held3 (fun W=>W.cell? ⟨K,0,none⟩=some (.int .i64 x0)) (first|with_reducible exact k0|with_reducible exact kA|with_reducible exact k3|with_reducible exact KP.out _ (h3.alloc h3.size _)|with_reducible exact KP.out _ ((h3.setCell (le_of_eq HN2.out) _).setCell (le_of_eq HN2.out) _)|with_reducible exact KP.out _ (((h3.alloc h3.size _).setCell h3.size _).setCell h3.size _)) ((go_at_call 27;first|((with_reducible refine Calls.mono (LD u2.drew) ?_);rintro e w3 ⟨rfl,b5,st⟩;have h3:Below u2.heap.size u2 w3:=belT (Below.refl _ _).drew b5;have k3:=KP.out w3 h3;have lk:=LK.out w3 N2 (by rw[<-HN2.out];exact st);have lk2:=LK.out (w3.alloc (.cells #[.int .i64 0,.int .i64 0] 74)) N2 (by rw[<-HN2.out];exact st.alloc _))|((with_reducible refine Calls.mono (LD (u2.alloc (.cells #[.int .i64 0,.int .i64 0] 74)).drew) ?_);rintro e w3 ⟨rfl,b5,st⟩;have h3:Below u2.heap.size u2 w3:=belT (belA u2 (.cells #[.int .i64 0,.int .i64 0] 74)).drew b5;have k3:=KP.out w3 h3;have lk:=LK.out w3 (N2+1) (by rw[show N2+1=(u2.alloc (.cells #[.int .i64 0,.int .i64 0] 74)).drew.heap.size by simp[HN2.out]];exact st);have hb3:w3.heap[N2]?=some (.cells #[.int .i64 0,.int .i64 0] 74 (0,0)):=(b5.block N2 (lt_of_block HBX.out)).trans HBX.out;obtain⟨m0,m1⟩:=bx2 hb3;have mlt:=lt_of_block hb3;have mfz:∀o,w3.frozen? ⟨N2,o,none⟩=false:=(fun o=>by simp[World.frozen?,hb3]))))
  all_goals go_wp2_with fail
  all_goals go_meet
  all_goals first
   | exact⟨w3.heap.size,rfl,rfl,h3.alloc h3.size _,heap_alloc_new w3 _,h3.size⟩
   | exact⟨N2,rfl,rfl,(h3.setCell (le_of_eq HN2.out) _).setCell (le_of_eq HN2.out) _,set_at (set_at hb3 _) _,le_of_eq HN2.out⟩
 case rest=>
  obtain⟨M,rfl,rfl,bw,hM,lM⟩:=hcut;have Cc:=X2.out.1.below bw;have Gc':Gc L F w F2 wc:=X2.out.2.1.trans (Gc.below F2 X2.out.1.lw bw);have Wc:=X2.out.2.2.1.bel bw;have BJ:=X2.out.2.2.2.1.below bw;have BM:Bx wc F2 M #[.int .i64 did,.int .i64 ph] 74:=⟨hM,fun p hp=>by have:=X2.out.1.fp.lt p M hp;omega⟩;obtain⟨m0,m1⟩:=bx2 hM;have mlt:=lt_of_block hM;obtain⟨j0,j1,j2,j3,j4⟩:=bx5 BJ.1;have jlt:=lt_of_block BJ.1;have jfz:∀o,wc.frozen? ⟨J,o,none⟩=false:=(fun o=>by simp[World.frozen?,BJ.1]);have ne1:J≠K+1:=by have:=X2.out.2.2.2.2.2;omega
  obtain⟨u4,hu4⟩:∃q,wc.setCell ⟨J,0,none⟩ (.int .i64 ph)=q:=⟨_,rfl⟩;have hJ4:u4.heap[J]?=some (.cells #[.int .i64 ph,.int .u64 y1,.int .i64 y2,.int .i64 y3,.bool y4] 40 (0,0)):=by rw[<-hu4];exact set_at BJ.1 _
  have f4:Ta.Fr (fun k=>k=J) wc u4:=by rw[<-hu4];exact Ta.Fr.setCell (fun k=>k=J) wc J 0 _ rfl
  have hB4:u4.heap[K+1]?=some (.cells (wkA wk0) 40 (0,0)):=(f4.block (K+1) (lt_of_block Wc.b.1) (fun e=>ne1 e.symm)).trans Wc.b.1
  have neM:M≠J:=fun e=>by
   subst e;have:=BJ.1.symm.trans hM;simp at this
  have hM4:u4.heap[M]?=some (.cells #[.int .i64 did,.int .i64 ph] 74 (0,0)):=(f4.block M mlt neM).trans hM
  have neM1:M≠K+1:=fun e=>by
   subst e;have:=Wc.b.1.symm.trans hM;simp at this
  have f5:Ta.Fr (fun k=>k=J\/k=K+1) wc (set5 u4 (K+1) (.int .i64 ph) (.int .u64 y1) (.int .i64 y2) (.int .i64 y3) (.bool y4)):=(f4.mono (fun j hj=>.inl hj)).trans (set5_fr u4 (K+1) _ _ _ _ _) (fun j hj=>.inl (.inr hj));have E:Aside ((set5 u4 (K+1) (.int .i64 ph) (.int .u64 y1) (.int .i64 y2) (.int .i64 y3) (.bool y4)).heap[K+1]?=some (.cells #[.int .i64 ph,.int .u64 y1,.int .i64 y2,.int .i64 y3,.bool y4] 40 (0,0))):=set5_at hB4 _ _ _ _ _
  have FIN:Aside (Cox L D F w σ' (set5 u4 (K+1) (.int .i64 ph) (.int .u64 y1) (.int .i64 y2) (.int .i64 y3) (.bool y4)).drew):=Cc.own Gc' (fun k hk=>by
   rcases hk with rfl|rfl
   ·exact⟨X2.out.2.2.2.2.1,BJ.2,nq_of BJ.1 qt_wk⟩
   ·exact⟨by have:=HC.out.2.1;omega,Wc.b.2,nq_of Wc.b.1 qt_wk⟩) HC.out.2.2.1 ⟨f5.os,f5.tape,f5.output,f5.size,f5.block⟩
  have f5':=set5_fr u4 (K+1) (.int .i64 ph) (.int .u64 y1) (.int .i64 y2) (.int .i64 y3) (.bool y4);have hM5:=(f5'.block M (lt_of_block hM4) neM1).trans hM4;have hJ5:=(f5'.block J (lt_of_block hJ4) ne1).trans hJ4;have SA:=And.intro (bx2 hM4).1 (bx5 hJ4);have SB:=And.intro (bx2 hM5).1 (bx5 hJ5);have HSA:Aside _:=SA;have HSB:Aside _:=SB;obtain⟨e0,e1,e2,e3,e4⟩:=bx5 hB4;have elt:=lt_of_block hB4;have efz:∀o,u4.frozen? ⟨K+1,o,none⟩=false:=(fun o=>by simp[World.frozen?,hB4]);have HU4:Aside _:=hu4;clear Cc Gc' Wc BJ BM hM lM bw hu4 hJ4 f4 hB4 hM4 f5 f5' hM5 hJ5 SA SB neM neM1 ne1;go_upto_region 8 with fail
  rw[HU4.out];clear m0 m1 j0 j1 j2 j3 j4;have SA:=HSA.out;have SB:=HSB.out;unfold set5 at SB;obtain⟨sa0,sa1,sa2,sa3,sa4,sa5⟩:=SA;obtain⟨sb0,sb1,sb2,sb3,sb4,sb5⟩:=SB
  go_region
  all_goals
   go_wp2_with fail
   have eb:=fun j=>cell_of_row _ _ j _ _ _ E.out;have q0:=eb 0;have q1:=eb 1;have q2:=eb 2;have q3:=eb 3;have q4:=eb 4;unfold set5 at q0 q1 q2 q3 q4;refine bodyPost_ret (v:=.tuple #[.agg #[.int .i64 ph,.int .u64 y1,.int .i64 y2,.int .i64 y3,.bool y4],.int .i64 did]) (by simp[results,results8,go_sem,q0,q1,q2,q3,q4]) rfl ⟨rfl,?_⟩;exact FIN.out
theorem stepC(C:Co w L D F g v σ)(x y:WR){t:Nat}(ht:t<σ.th)(dr f did ph:Int){j:Nat}(hj:j∈Wk.placesC)(hc:Wk.chAt j=(x.ph,f))(hv:Wk.fnAt j=(did,ph))(PT:∀w1 F1 g1 v1,Co w1 L D F1 g1 v1 σ->Calls prog 26 #[pt D.B,wkV x,.int .i64 t,.int .u64 dr] w1 fun e w'=>e=.returned (.tuple #[wkV y,.int .i64 f])/\Cox L D F1 w1 σ' w') :
  Calls prog 8 #[pt D.B,wkV x,.int .i64 t,.int .u64 dr] w fun e w'=>e=.returned (.tuple #[wkV ⟨ph,y.key,y.id,y.pc,y.bad⟩,.int .i64 did])/\Cox L D F w σ' w':=stepB C x y ht dr f did ph hj hc hv (fun w1 _ C1=>PT w1 F g v C1)
end
section
variable {w w' u w0:World}{L i:Nat}{D:CAd}{F F' F0:Nat->Nat->Prop}{g v:Value}{σ σ':CS}
theorem opSub(C:Co w L D F g v σ)(t a b:Int)(PS:∀w1,Co w1 L D F g v σ->Calls prog 7 #[pt D.B,.int .i64 t,.int .i64 a,.slice none 0 0,.slice none 0 0] w1 fun e w'=>(∃x y,e=.returned (.tuple #[x,y]))/\Cox L D F w1 σ' w') :
  Calls prog 84 #[pt D.B,.int .i64 t,.agg #[.int .i64 2,.int .i64 a,.int .i64 b]] w fun e w'=>e=.returned (.bool false)/\Cox L D F w σ' w':=by
 obtain⟨K,hK⟩:∃J,w.heap.size=J:=⟨_,rfl⟩;obtain⟨u,hu⟩:∃q,w.alloc (.cells #[.int .i64 2,.int .i64 a,.int .i64 b] 45)=q:=⟨_,rfl⟩;have b0:Below w.heap.size w u:=by rw[<-hu];exact belA _ _
 have BK:Bx u F K #[.int .i64 2,.int .i64 a,.int .i64 b] 45:=by rw[<-hu,<-hK];exact Bx.new C _ _
 have C0:Aside (Co u L D F g v σ):=C.below b0;have X0:Aside (Gc L F w F u):=Gc.below F C.lw b0;have HU:Aside _:=hu;have HK:Aside _:=hK;have HB:Aside (Bx u F K #[.int .i64 2,.int .i64 a,.int .i64 b] 45):=BK;have P:=PS u C0.out;have k0:u.cell? ⟨K,0,none⟩=some (.int .i64 2):=BK.cell 0;have k1:u.cell? ⟨K,1,none⟩=some (.int .i64 a):=BK.cell 1;clear C hu hK b0 BK PS;go_enter func84,ntmps84
 go_upto_region 1 with fail
 rw[HU.out,HK.out]
 go_wp2_with fail
 refine P.mono ?_;rintro e w2 ⟨⟨x,y,rfl⟩,F2,g2,v2,C2,G2⟩;have B2:Bx w2 F2 K _ _:=Bx.gc (w:=u) HB.out mq_op G2;have FIN:Aside (Cox L D F w σ' w2):=⟨F2,g2,v2,C2,X0.out.trans G2⟩;clear P C2 G2 k0 k1;have k0:w2.cell? ⟨K,0,none⟩=some (.int .i64 2):=B2.cell 0
 go_wp2_with fail
 go_ret;exact⟨rfl,FIN.out⟩
theorem opCan(C:Co w L D F g v σ)(t a b:Int)(PS:∀w1,Co w1 L D F g v σ->Calls prog 122 #[pt D.B,.int .i64 a] w1 fun e w'=>(∃x:Int,e=.returned (.int .i64 x))/\Cox L D F w1 σ' w') :
  Calls prog 84 #[pt D.B,.int .i64 t,.agg #[.int .i64 4,.int .i64 a,.int .i64 b]] w fun e w'=>e=.returned (.bool false)/\Cox L D F w σ' w':=by
 obtain⟨K,hK⟩:∃J,w.heap.size=J:=⟨_,rfl⟩;obtain⟨u,hu⟩:∃q,w.alloc (.cells #[.int .i64 4,.int .i64 a,.int .i64 b] 45)=q:=⟨_,rfl⟩;have b0:Below w.heap.size w u:=by rw[<-hu];exact belA _ _
 have BK:Bx u F K #[.int .i64 4,.int .i64 a,.int .i64 b] 45:=by rw[<-hu,<-hK];exact Bx.new C _ _
 have C0:Aside (Co u L D F g v σ):=C.below b0;have X0:Aside (Gc L F w F u):=Gc.below F C.lw b0;have HU:Aside _:=hu;have HK:Aside _:=hK;have HB:Aside (Bx u F K #[.int .i64 4,.int .i64 a,.int .i64 b] 45):=BK;have P:=PS u C0.out;have k0:u.cell? ⟨K,0,none⟩=some (.int .i64 4):=BK.cell 0;have k1:u.cell? ⟨K,1,none⟩=some (.int .i64 a):=BK.cell 1;clear C hu hK b0 BK PS;go_enter func84,ntmps84
 go_upto_region 1 with fail
 rw[HU.out,HK.out]
 go_wp2_with fail
 refine P.mono ?_;rintro e w2 ⟨⟨x,rfl⟩,F2,g2,v2,C2,G2⟩;have B2:Bx w2 F2 K _ _:=Bx.gc (w:=u) HB.out mq_op G2;have FIN:Aside (Cox L D F w σ' w2):=⟨F2,g2,v2,C2,X0.out.trans G2⟩;clear P C2 G2 k0 k1;have k0:w2.cell? ⟨K,0,none⟩=some (.int .i64 4):=B2.cell 0
 go_wp2_with fail
 go_ret;exact⟨rfl,FIN.out⟩
theorem opAft(C:Co w L D F g v σ)(t a b:Int)(hb0:0<=b)(hb1:b<=1000000)(PS:∀w1,Co w1 L D F g v σ->Calls prog 120 #[pt D.B,.int .i64 t,.int .i64 a,.slice none 0 0,.int .u64 (Ag.ofT b)] w1 fun e w'=>(∃x y,e=.returned (.tuple #[x,y]))/\Cox L D F w1 σ' w') :
  Calls prog 84 #[pt D.B,.int .i64 t,.agg #[.int .i64 3,.int .i64 a,.int .i64 b]] w fun e w'=>e=.returned (.bool false)/\Cox L D F w σ' w':=by
 obtain⟨K,hK⟩:∃J,w.heap.size=J:=⟨_,rfl⟩;obtain⟨u,hu⟩:∃q,w.alloc (.cells #[.int .i64 3,.int .i64 a,.int .i64 b] 45)=q:=⟨_,rfl⟩;have b0:Below w.heap.size w u:=by rw[<-hu];exact belA _ _
 have BK:Bx u F K #[.int .i64 3,.int .i64 a,.int .i64 b] 45:=by rw[<-hu,<-hK];exact Bx.new C _ _
 have C0:Aside (Co u L D F g v σ):=C.below b0;have X0:Aside (Gc L F w F u):=Gc.below F C.lw b0;have HU:Aside _:=hu;have HK:Aside _:=hK;have HB:Aside (Bx u F K #[.int .i64 3,.int .i64 a,.int .i64 b] 45):=BK;have P:=PS u.drew (C0.out.below (Below.refl _ _).drew);have k0:u.cell? ⟨K,0,none⟩=some (.int .i64 3):=BK.cell 0;obtain⟨z,hz⟩:∃z,Ag.ofT b=z:=⟨_,rfl⟩;have HZ:Aside (Ag.ofT b=z):=hz;rw[hz] at P;clear C hu hK b0 BK PS hz;go_enter func84,ntmps84
 go_upto_region 1 with fail
 rw[HU.out,HK.out];go_upto_region 5 with fail
 clear k0;refine wp_region_held_drew (S:=(fun V:World=>V.cell? ⟨K,1,none⟩=some (.int .i64 a)/\V.cell? ⟨K,2,none⟩=some (.int .i64 b))) (by kernel_rfl) (⟨HB.out.cell 1,HB.out.cell 2⟩) (fun hHeld=>?_);refine anyH_u (i:=0) (by assumption) rfl (by kernel_rfl) (fun w z=>by go_simp<;>rfl) (fun _ _ _ h=>h) ?_;refine anyH_u (i:=1) (by assumption) rfl (by kernel_rfl) (fun w z=>by go_simp<;>rfl) (fun _ _ _ h=>h) ?_;refine anyH_u (i:=2) (by assumption) rfl (by kernel_rfl) (fun w z=>by go_simp<;>rfl) (fun _ _ _ h=>h) ?_;refine anyH_u (i:=3) (by assumption) rfl (by kernel_rfl) (fun w z=>by go_simp<;>rfl) (fun _ _ _ h=>h) ?_;refine anyH_u (i:=4) (by assumption) rfl (by kernel_rfl) (fun w z=>by go_simp<;>rfl) (fun _ _ _ h=>h) ?_;refine anyH_u (i:=5) (by assumption) rfl (by kernel_rfl) (fun w z=>by go_simp<;>rfl) (fun _ _ _ h=>h) ?_;simp only[Act.put,sA,sB,sC];refine wpAnyH_ready (rs:=[6]) (by kernel_rfl) (by simp) ?_;refine AllReadyH.cons (o:={dst:=some 24,op:=Op.call {callee:=Callee.value (Operand.func 121),args:=#[Operand.tmp 23],argTypes:=#[2]},type:=33,pos:= "work.go:106",after:=#[⟨5,.data⟩],guard:=none}) rfl (fun Kt hKt=>?_) AllReadyH.nil;go_simp
 have Q:=Ag.of_any b u.drew (by omega) (by omega);rw[HZ.out] at Q
 (with_reducible refine Calls.mono Q ?_)
 rintro r1 w3 ⟨rfl,rfl⟩;clear Q
 go_wp2_with fail
 refine hKt.out _ _ (⟨HB.out.cell 1,HB.out.cell 2⟩) (fun hHeld=>?_);clear hKt Kt;try simp only[Act.put,sA,sB,sC]
 refine wpAnyH_ready (rs:=[7]) (by kernel_rfl) (by simp) ?_;refine AllReadyH.cons (o:={dst:=some 25,op:=Op.call {callee:=Callee.value (Operand.func 120),args:=#[Operand.tmp 18,Operand.tmp 19,Operand.tmp 21,Operand.const (Value.slice none 0 0),Operand.tmp 24],argTypes:=#[31,3,3,22,33]},type:=30,pos:= "work.go:106",after:=#[⟨0,.data⟩,⟨1,.data⟩,⟨3,.data⟩,⟨6,.data⟩,⟨6,.chain⟩],guard:=none}) rfl (fun Kt hKt=>?_) AllReadyH.nil;go_simp
 (with_reducible refine Calls.mono P ?_)
 rintro e w2 ⟨⟨x,y,rfl⟩,F2,g2,v2,C2,G2⟩;have B2:Bx w2 F2 K #[.int .i64 3,.int .i64 a,.int .i64 b] 45:=Bx.gc (w:=u.drew) (HB.out.below (Below.refl _ _).drew) mq_op G2;have FIN:Aside (Cox L D F w σ' w2):=⟨F2,g2,v2,C2,(X0.out.trans (Gc.below F C0.out.lw (Below.refl _ _).drew)).trans G2⟩;clear P C2 G2
 go_wp2_with fail
 refine hKt.out _ _ (⟨B2.cell 1,B2.cell 2⟩) (fun hHeld=>?_);clear hKt Kt;try simp only[Act.put,sA,sB,sC]
 refine wpAnyH_done (by kernel_rfl) ?_ _;have k0:w2.cell? ⟨K,0,none⟩=some (.int .i64 3):=B2.cell 0
 go_wp2_with fail
 go_ret;exact⟨rfl,FIN.out⟩
end
section
variable {w w' u w0:World}{L i:Nat}{D:CAd}{F F' F0:Nat->Nat->Prop}{g v:Value}{σ σ':CS}
theorem infoRS:∃i,prog.info? 354=some i/\i.zero=some (.agg #[.bool false,.int .u64 0,.int .i64 0,.int .u64 0])/\i.size=4/\i.bytes=32:=by
 have h:(prog.info? 354).map (fun i=>(i.zero,i.size,i.bytes))=some (some (.agg #[.bool false,.int .u64 0,.int .i64 0,.int .u64 0]),4,32):=by kernel_rfl
 obtain⟨i,h1,h2⟩:=Option.map_eq_some_iff.1 h;simp at h2;exact⟨i,h1,h2.1,h2.2.1,h2.2.2⟩
theorem makeRS(w:World)(n:Nat)(hn:n<=8) :
  ∃cs:Array Value,(Instr.makeSlice 155 (.int .i64 (n:Int)) (.int .i64 (n:Int))).run prog w=.ok (.slice (some ⟨w.heap.size,0,none⟩) n n) (w.alloc (.cells cs 354)):=by
 obtain⟨i,hi,hz,hs,hby⟩:=infoRS;have hm:=run_make (P:=prog) w 155 354 i _ underlying155 hi hz .i64 .i64 n n (by omega) (Int.le_refl _) (by rw[hby];omega) (by omega);simp only[Int.toNat_natCast,hs] at hm;exact⟨_,hm⟩
theorem rnew10(T K:Nat)(w:World)(h1:1<=T)(h8:T<=8)(hK:K<=16) :
  Calls prog 35 #[.int .i64 T,.int .i64 K] w fun e w'=>∃B,e=.returned (pt B)/\Below w.heap.size w w':=by
 have d1:decide ((T:Int)<1)=false:=decide_eq_false (by omega);have d2:decide (8<(T:Int))=false:=decide_eq_false (by omega);have d3:decide ((K:Int)<0)=false:=decide_eq_false (by omega);have d4:decide (16<(K:Int))=false:=decide_eq_false (by omega);have e1:¬(T:Int)<1:=by omega
 have e2:¬8<(T:Int):=by omega
 have e3:¬(K:Int)<0:=by omega
 have e4:¬16<(K:Int):=by omega
 obtain⟨c1,m1⟩:=makeRS w.drew T h8;obtain⟨wS,hS⟩:∃q,w.drew.alloc (.cells c1 354)=q:=⟨_,rfl⟩;rw[hS] at m1;have bS:Below w.heap.size w wS:=by rw[<-hS];exact belT (Below.refl _ _).drew (belA w.drew _)
 obtain⟨c2,m2,_⟩:=makeEs wS T h8;obtain⟨wL,hL⟩:∃q,wS.alloc (.cells c2 157)=q:=⟨_,rfl⟩;rw[hL] at m2;have bL:Below w.heap.size w wL:=by rw[<-hL];exact belT bS (belA _ _)
 obtain⟨c3,m3,_⟩:=makeEs w.drew T h8;obtain⟨xL,hxL⟩:∃q,w.drew.alloc (.cells c3 157)=q:=⟨_,rfl⟩;rw[hxL] at m3;have cL:Below w.heap.size w xL:=by rw[<-hxL];exact belT (Below.refl _ _).drew (belA w.drew _)
 obtain⟨c4,m4⟩:=makeRS xL T h8;obtain⟨xS,hxS⟩:∃q,xL.alloc (.cells c4 354)=q:=⟨_,rfl⟩;rw[hxS] at m4;have cS:Below w.heap.size w xS:=by rw[<-hxS];exact belT cL (belA _ _)
 have mx:=mixedC;have FB:Aside (Below w.heap.size w wL/\Below w.heap.size w xS):=⟨bL,cS⟩;clear hS bS hL bL hxL cL hxS cS;go_enter func35,ntmps35
 go_wp2_with fail
 go_region
 ·go_wp2
  go_ret;exact⟨_,rfl,belT FB.out.1 (belA _ _)⟩
 ·go_wp2
  go_ret;exact⟨_,rfl,belT FB.out.2 (belA _ _)⟩
theorem confOkC(a b c:Nat)(w:World)(h1:1<=a)(h8:a<=8)(hK:b<=16)(c1:1<=c)(c64:c<=64) :
  Calls prog 34 #[.agg #[.int .i64 a,.int .i64 b,.int .i64 c]] w fun e w'=>e=.returned (.bool true)/\Below w.heap.size w w':=by
 have e1:(a:Int)>=1:=by omega
 have e2:(a:Int)<=8:=by omega
 have e3:(b:Int)>=0:=by omega
 have e4:(b:Int)<=16:=by omega
 have e5:(c:Int)>=1:=by omega
 have e6:(c:Int)<=64:=by omega
 go_enter func34,ntmps34
 go_wp2
 go_ret;exact⟨rfl,belA _ _⟩
end
section
variable {w w' u w0:World}{L i:Nat}{D:CAd}{F F' F0:Nat->Nat->Prop}{g v:Value}{σ σ':CS}
theorem bx3{w:World}{K:Nat}{a0 a1 a2:Value}{U:TypeId}(h:w.heap[K]?=some (.cells #[a0,a1,a2] U (0,0))):w.cell? ⟨K,0,none⟩=some a0/\w.cell? ⟨K,1,none⟩=some a1/\w.cell? ⟨K,2,none⟩=some a2:=
 ⟨by rw[cell_of_row _ _ _ _ _ _ h];rfl,by rw[cell_of_row _ _ _ _ _ _ h];rfl,by rw[cell_of_row _ _ _ _ _ _ h];rfl⟩
theorem rnew18(a b c:Nat)(w:World)(h1:1<=a)(h8:a<=8)(hK:b<=16)(c1:1<=c)(c64:c<=64) :
  Calls prog 15 #[.agg #[.int .i64 a,.int .i64 b,.int .i64 c]] w fun e w'=>(∃B,e=.returned (pt B))/\Below w.heap.size w w':=by
 obtain⟨K,hK0⟩:∃J,w.heap.size=J:=⟨_,rfl⟩;obtain⟨u,hu⟩:∃q,w.alloc (.cells #[.int .i64 a,.int .i64 b,.int .i64 c] 28)=q:=⟨_,rfl⟩;have b0:Below w.heap.size w u:=by rw[<-hu];exact belA _ _
 have hk:u.heap[K]?=some (.cells #[.int .i64 a,.int .i64 b,.int .i64 c] 28 (0,0)):=by rw[<-hu,<-hK0];exact heap_alloc_new w _
 have P:=confOkC a b c u h1 h8 hK c1 c64;have HP:Aside (∀W,Calls prog 35 #[.int .i64 a,.int .i64 b] W fun e w'=>∃B,e=.returned (pt B)/\Below W.heap.size W w'):=fun W=>rnew10 a b W h1 h8 hK;have HB:Aside (Below w.heap.size w u/\u.heap[K]?=some (.cells #[.int .i64 a,.int .i64 b,.int .i64 c] 28 (0,0))):=⟨b0,hk⟩;obtain⟨k0,k1,k2⟩:=bx3 hk;have klt:=lt_of_block hk;have HU:Aside _:=hu;clear hu b0 hk h1 h8 hK c1 c64;go_enter func15,ntmps15
 go_upto_region 1 with fail
 rw[HU.out];try simp only[hK0]
 go_wp2_with fail
 refine P.mono ?_;rintro e w1 ⟨rfl,b1⟩;have hk1:w1.drew.heap[K]?=some (.cells #[.int .i64 a,.int .i64 b,.int .i64 c] 28 (0,0)):=(b1.block K (lt_of_block HB.out.2)).trans HB.out.2;have HK1:Aside _:=hk1;have X1:Aside (Below w.heap.size w w1.drew):=(belT HB.out.1 b1).drew;have SA:=bx3 hk1;have P:=HP.out w1.drew;clear P k0 k1 k2 klt b1 hk1;go_upto_region 3 with fail
 go_region_held3 (fun W=>W.cell? ⟨K,0,none⟩=some (.int .i64 a)/\W.cell? ⟨K,1,none⟩=some (.int .i64 b)/\W.cell? ⟨K,2,none⟩=some (.int .i64 c)) (first|with_reducible exact SA|with_reducible exact SB|with_reducible exact bx3 (((belA w2 _).block K (lt_of_block hk2)).trans hk2)) ((go_at_call 35;(with_reducible refine Calls.mono (HP.out _) ?_);rintro e w2 ⟨B2,rfl,b2⟩;have hk2:=(b2.block K (lt_of_block HK1.out)).trans HK1.out;have SB:=bx3 hk2))
 have FIN:Aside (Below w.heap.size w w2):=belT X1.out b2;clear SA SB b2 hk2
 go_wp2_with fail
 go_ret;exact⟨⟨_,rfl⟩,belT FIN.out (belA _ _)⟩
theorem newW(th k n:Nat)(w:World)(t1:1<=th)(t8:th<=8)(k16:k<=16)(n1:1<=n)(n64:n<=64) :
  Calls prog 6 #[.agg #[.int .i64 th,.int .i64 k,.int .i64 n]] w fun e w'=>∃X,e=.returned (pt X)/\∃L D F R,w.heap.size<=L/\Co w' L D F (.slice none 0 0) (.slice none 0 0) (newS th k n)/\Bx w' F X #[pt D.B,pt R,.int .u64 0,.int .i64 0] 37/\w.heap.size<=X/\Below w.heap.size w w':=by
 obtain⟨K,hK⟩:∃J,w.heap.size=J:=⟨_,rfl⟩;obtain⟨u,hu⟩:∃q,w.alloc (.cells #[.int .i64 th,.int .i64 k,.int .i64 n] 28)=q:=⟨_,rfl⟩;have b0:Below w.heap.size w u:=by rw[<-hu];exact belA _ _
 have hk:u.heap[K]?=some (.cells #[.int .i64 th,.int .i64 k,.int .i64 n] 28 (0,0)):=by rw[<-hu,<-hK];exact heap_alloc_new w _
 have P:=newC th k n u t1 t8 k16 n1 n64;have HB:Aside (Below w.heap.size w u/\u.heap[K]?=some (.cells #[.int .i64 th,.int .i64 k,.int .i64 n] 28 (0,0))/\w.heap.size=K):=⟨b0,hk,hK⟩;have HP:Aside (∀W,Calls prog 15 #[.agg #[.int .i64 th,.int .i64 k,.int .i64 n]] W fun e w'=>(∃B,e=.returned (pt B))/\Below W.heap.size W w'):=fun W=>rnew18 th k n W t1 t8 k16 n1 n64;obtain⟨k0,k1,k2⟩:=bx3 hk;have klt:=lt_of_block hk;have HU:Aside _:=hu;clear hu b0 hk t1 t8 k16 n1 n64;go_enter func6,ntmps6
 go_upto_region 1 with fail
 rw[HU.out];try simp only[hK]
 go_wp2_with fail
 refine P.mono ?_;rintro e w1 ⟨D,F,rfl,C1,b1⟩;clear k0 k1 k2 klt P;have hk1:w1.heap[K]?=some (.cells #[.int .i64 th,.int .i64 k,.int .i64 n] 28 (0,0)):=(b1.block K (lt_of_block HB.out.2.1)).trans HB.out.2.1;obtain⟨k0,k1,k2⟩:=bx3 hk1;have klt:=lt_of_block hk1;have X1:Aside (Co w1 (u.heap.size+1) D F (.slice none 0 0) (.slice none 0 0) (newS th k n)/\Below w.heap.size w w1/\w.heap.size<=u.heap.size+1):=⟨C1,belT HB.out.1 b1,le_succ_of_le HB.out.1.size⟩;have P:=HP.out w1;clear C1 b1 hk1
 go_wp2_with fail
 refine P.mono ?_;rintro e w2 ⟨⟨R,rfl⟩,b2⟩;clear P k0 k1 k2 klt
 have FIN:Aside (Co (w2.alloc (.cells #[pt D.B,pt R,.int .u64 0,.int .i64 0] 37)) (u.heap.size+1) D F (.slice none 0 0) (.slice none 0 0) (newS th k n)/\Bx (w2.alloc (.cells #[pt D.B,pt R,.int .u64 0,.int .i64 0] 37)) F w2.heap.size #[pt D.B,pt R,.int .u64 0,.int .i64 0] 37/\w.heap.size<=w2.heap.size/\Below w.heap.size w (w2.alloc (.cells #[pt D.B,pt R,.int .u64 0,.int .i64 0] 37))):=by
  have C2:=X1.out.1.below b2;exact⟨C2.below (belA _ _),Bx.new C2 _ _,(belT X1.out.2.1 b2).size,belT (belT X1.out.2.1 b2) (belA _ _)⟩
 clear b2
 go_wp2_with fail
 go_ret;exact⟨_,rfl,_,D,F,R,X1.out.2.2,FIN.out.1,FIN.out.2.1,FIN.out.2.2.1,FIN.out.2.2.2⟩
end
section
variable {w w' u w0:World}{L i:Nat}{D:CAd}{F F' F0:Nat->Nat->Prop}{g v:Value}{σ σ':CS}
theorem put_same(K:Nat)(s:Qu.QSt)(t:Nat)(e:Qu.Ent):((Qu.putQ K s t e).g t).f=true:=by
 unfold Qu.putQ;show(Qu.slSet (Qu.settleQ K s t).g t _ t).f=true;rw[Qu.slSet_same]
theorem QI.idle(h:QI σ){t:Nat}(ht:t<σ.th)(hne:∀e,¬Rdy σ.T e):(σ.q.g t).f=false:=by
 obtain⟨sl,ow,sh,V,nd,al⟩:=h;rw[V.f ht]
 cases hs:sl t with
 | nil=>rfl
 | cons e l=>
  have hm:e∈Qu.allV σ.th sl ow sh:=by
   unfold Qu.allV;refine List.mem_append_left _ ?_;exact List.mem_flatMap.2 ⟨t,List.mem_range.2 ht,by rw[hs];simp⟩
  exact absurd ((al e).1 hm) (hne e)
structure One(σ:CS)(th:Nat)(s ky:Int)(a:Nat):Prop where
 th:σ.th=th
 cl:σ.cl=false
 N:σ.N=0
 E:σ.E=fun _ _=>False
 at':∃x,σ.T=[x]/\x.s=s/\x.key=ky/\x.p=0/\x.oa=none/\x.on=0/\x.oc=0
 qi:QI σ
 qn:σ.qn<=a
 ev:σ.ev.length<=a
 tk:σ.tk<=a
theorem One.set{th a t:Nat}{s ky:Int}(h:One σ th s ky a)(ht:t<th):One (setS σ t) th s ky (a+1):=
 ⟨h.th,h.cl,h.N,h.E,h.at',h.qi.settle (by rw[h.th];exact ht),succ_le_succ h.qn,le_succ_of_le h.ev,le_succ_of_le h.tk⟩
theorem One.tell{th a:Nat}{s ky:Int}(h:One σ th s ky a)(kd t id k:Int):One (tellS σ kd t id k) th s ky (a+1):=
 ⟨h.th,h.cl,h.N,h.E,h.at',h.qi.same rfl rfl (fun e=>Iff.rfl),le_succ_of_le h.qn,by
  show(σ.ev++[_]).length<=a+1;have:=h.ev;simp;exact this,le_succ_of_le h.tk⟩
theorem One.rdy{th a:Nat}{ky:Int}(h:One σ th 2 ky a):Rdy σ.T (ky,1)/\∀e,Rdy σ.T e->e=(ky,1):=by
 obtain⟨x,hT,hs,hk,_⟩:=h.at';rw[hT];refine⟨⟨0,x,rfl,hs,by rw[hk];rfl⟩,?_⟩;rintro e ⟨k,y,hy,_,rfl⟩
 cases k with
 | zero=>
  simp at hy;subst hy;rw[hk]
  rfl
 | succ k=>simp at hy
theorem One.none{th a:Nat}{s ky:Int}(h:One σ th s ky a)(hs:s≠2):∀e,¬Rdy σ.T e:=by
 obtain⟨x,hT,hs',_⟩:=h.at';rw[hT];rintro e ⟨k,y,hy,h2,rfl⟩
 cases k with
 | zero=>simp at hy;subst hy;omega
 | succ k=>simp at hy
theorem One.sub{th k n t:Nat}(ht:t<th)(prio:Int):∃ky,One (subS (newS th k n) t prio) th 2 ky 2:=by
 refine⟨_,⟨rfl,rfl,rfl,rfl,⟨_,sub_T (newS th k n) t prio,rfl,rfl,rfl,rfl,rfl,rfl⟩,(QI.new th k n).sub ht prio,by show 0+1<=2;omega,?_,Nat.zero_le _⟩⟩;show(([]++[_])++[_]:List EvR).length<=2;simp
end
section
variable {w w' u w0:World}{L i:Nat}{D:CAd}{F F' F0:Nat->Nat->Prop}{g v:Value}{σ σ':CS}{th a t dr:Nat}{s ky:Int}
theorem oneSettle(C:Co w L D F g v σ)(h:One σ th s ky a)(ht:t<th)(ha:a<=900)(hf:(σ.q.g t).f=true) :
  Calls prog 8 #[pt D.B,wkV wk0,.int .i64 t,.int .u64 dr] w fun e w'=>e=.returned (.tuple #[wkV wk0,.int .i64 1])/\Cox L D F w (setS σ t) w':=by
 have ht':t<σ.th:=by rw[h.th];exact ht
 exact stepC C wk0 wk0 ht' dr 2 1 0 (j:=6) (by decide) rfl rfl (fun w1 F1 g1 v1 C1=>touch0 C1 wk0 wk0 t dr 2 rfl (fun w2 F2 g2 v2 C2=>seekS C2 wk0 ht' (by have:=h.qn;omega) hf dr))
def lkS(σ:CS)(t:Nat)(ky:Int):CS:=tellS (setS σ t) 10 t 1 ky
theorem oneLook(C:Co w L D F g v σ)(h:One σ th 2 ky a)(ht:t<th)(ha:a<=900)(hdr:dr<18446744073709551616)(hf:(σ.q.g t).f=false) :
  Calls prog 8 #[pt D.B,wkV wk0,.int .i64 t,.int .u64 dr] w fun e w'=>e=.returned (.tuple #[wkV ⟨1,ky,1,0,false⟩,.int .i64 2])/\Cox L D F w (lkS σ t ky) w':=by
 have ht':t<σ.th:=by rw[h.th];exact ht
 have h1:=h.set ht;refine stepC C wk0 ⟨0,ky,1,0,false⟩ ht' dr 1 2 1 (j:=9) (by decide) rfl rfl (fun w1 F1 g1 v1 C1=>touch0 C1 wk0 ⟨0,ky,1,0,false⟩ t dr 1 rfl (fun w2 F2 g2 v2 C2=>seekL C2 wk0 ht' (by have:=h.qn;omega) hf dr ky 1 (fun w3 F3 g3 v3 C3=>?_)));obtain⟨x,y,z,hx,hy,hz,hr⟩:=h1.qi.look C3.qok (t:=t) (show t<σ.th from ht') dr ⟨_,h1.rdy.1⟩ ((setS σ t).tk:Int);have ez:=h1.rdy.2 _ hr;have P:=lookC C3 (t:=t) (dr:=dr) (show t<σ.th from ht') hdr (by have:=h1.qn;omega) (by have:=h1.ev;omega) hx hy hz;rw[ez] at P;exact P
theorem oneNone(C:Co w L D F g v σ)(h:One σ th s ky a)(hs:s≠2)(ht:t<th)(ha:a<=900)(hdr:dr<18446744073709551616) :
  Calls prog 8 #[pt D.B,wkV wk0,.int .i64 t,.int .u64 dr] w fun e w'=>e=.returned (.tuple #[wkV wk0,.int .i64 0])/\Cox L D F w (setS σ t) w':=by
 have ht':t<σ.th:=by rw[h.th];exact ht
 have h1:=h.set ht;have hf:(σ.q.g t).f=false:=h.qi.idle ht' (h.none hs);refine stepC C wk0 wk0 ht' dr 0 0 0 (j:=3) (by decide) rfl rfl (fun w1 F1 g1 v1 C1=>touch0 C1 wk0 wk0 t dr 0 rfl (fun w2 F2 g2 v2 C2=>seekN C2 wk0 ht' (by have:=h.qn;omega) hf dr 0 0 (fun w3 F3 g3 v3 C3=>?_)));exact lookN C3 (t:=t) (dr:=dr) (show t<σ.th from ht') hdr (by have:=h1.qn;omega) (h1.qi.none C3.qok (show t<σ.th from ht') dr (h1.none hs))
def clS(σ:CS)(t:Nat)(x:Ta.TR):CS:=handS (turnS σ 0 x 3) t 0 (turnX x 3)
theorem oneClaim(C:Co w L D F g v σ)(h:One σ th 2 ky a)(ht:t<th)(ha:a<=900) :
  ∃x,σ.T=[x]/\Calls prog 8 #[pt D.B,wkV ⟨1,ky,1,0,false⟩,.int .i64 t,.int .u64 dr] w fun e w'=>e=.returned (.tuple #[wkV ⟨2,ky,1,0,false⟩,.int .i64 3])/\Cox L D F w (clS σ t x) w':=by
 have ht':t<σ.th:=by rw[h.th];exact ht
 obtain⟨x,hT,hs,hk,hp,_⟩:=h.at';refine⟨x,hT,?_⟩;refine stepC C ⟨1,ky,1,0,false⟩ ⟨1,ky,1,0,false⟩ ht' dr 1 3 2 (j:=15) (by decide) rfl rfl (fun w1 F1 g1 v1 C1=>touch1 C1 ⟨1,ky,1,0,false⟩ ⟨1,ky,1,0,false⟩ t dr 1 rfl (fun w2 F2 g2 v2 C2=>wclaimO C2 ⟨1,ky,1,0,false⟩ t (fun w3 F3 g3 v3 C3=>?_)));have P:=claimC C3 (t:=t) (i:=0) (x:=x) ht' (by rw[hT];rfl) hs (by omega) (by have:=h.ev;omega) (by have:=h.qn;omega) (by have:=h.tk;omega);rw[hk] at P;exact P
theorem One.claim(h:One σ th 2 ky a){x:Ta.TR}(hT:σ.T=[x])(t:Nat):One (clS σ t x) th 3 ky (a+1):=by
 obtain⟨y,hT',hs,hk,hp,h1,h2,h3⟩:=h.at';obtain rfl:y=x:=by rw[hT] at hT';simpa using hT'.symm
 have e:turnX y 3=Ta.turnT y 3:=by unfold turnX;rw[if_neg (by omega)]
 have k3:=turnX_key y 3;refine⟨h.th,h.cl,h.N,h.E,⟨turnX y 3,?_,k3.2.2.1,k3.1.trans hk,k3.2.2.2.trans hp,?_,?_,?_⟩,h.qi.hand (by rw[hT];rfl) t,succ_le_succ h.qn,?_,succ_le_succ h.tk⟩
 ·show σ.T.set 0 (turnX y 3)=_;rw[hT];rfl
 ·rw[e];exact h1
 ·rw[e];exact h2
 ·rw[e];exact h3
 ·show(σ.ev++[_]).length<=a+1;have:=h.ev;simp;exact this
def fiS(σ:CS)(t:Nat)(x:Ta.TR):CS:={endS (turnS σ 0 x 4) t 1 with E:=fun q j=>σ.E q j/\q≠1}
theorem oneFin(C:Co w L D F g v σ)(h:One σ th 3 ky a)(ht:t<th)(ha:a<=900) :
  ∃x,σ.T=[x]/\Calls prog 8 #[pt D.B,wkV ⟨2,ky,1,0,false⟩,.int .i64 t,.int .u64 dr] w fun e w'=>e=.returned (.tuple #[wkV wk0,.int .i64 6])/\Cox L D F w (fiS σ t x) w':=by
 have ht':t<σ.th:=by rw[h.th];exact ht
 obtain⟨x,hT,hs,hk,hp,h1,h2,h3⟩:=h.at';have h0:σ.T[0]?=some x:=by rw[hT];rfl
 refine⟨x,hT,?_⟩;refine stepC C ⟨2,ky,1,0,false⟩ wk0 ht' dr 0 6 0 (j:=21) (by decide) rfl rfl (fun w1 F1 g1 v1 C1=>touch2 C1 ⟨2,ky,1,0,false⟩ wk0 t dr 0 rfl (fun w2 F2 g2 v2 C2=>runE (i:=0) C2 2 ky t 0 h0 h1 h2 h3 (fun w3 F3 g3 v3 C3=>?_)))
 have P:=finC C3 (t:=t) (i:=0) (x:=x) ht' h0 hs hp (wf_of (by omega) (by omega)) (by rw[h.N];omega) (by have:=h.ev;omega) (by rw[hT];simp) (by
  have q1:=h.qn;have q2:=Ta.cntP_le isW σ.T;have q3:σ.T.length=1:=by rw[hT];rfl
  omega) (by have:=h.tk;omega) (fun j hj=>by rw[h.E] at hj;exact hj.elim)
 refine P.mono ?_;rintro e w' ⟨rfl,d,dl,X⟩;rw[h.E] at dl;obtain rfl:=done_nil dl;exact⟨rfl,X⟩
theorem One.fin(h:One σ th 3 ky a){x:Ta.TR}(hT:σ.T=[x])(t:Nat):One (fiS σ t x) th 4 ky (a+1):=by
 obtain⟨y,hT',hs,hk,hp,h1,h2,h3⟩:=h.at';obtain rfl:y=x:=by rw[hT] at hT';simpa using hT'.symm
 have e:turnX y 4=Ta.turnT y 4:=by unfold turnX;rw[if_neg (by omega)]
 have k3:=turnX_key y 4;refine⟨h.th,h.cl,h.N,?_,⟨turnX y 4,?_,k3.2.2.1,k3.1.trans hk,k3.2.2.2.trans hp,?_,?_,?_⟩,h.qi.same rfl rfl (fun e=>?_),le_succ_of_le h.qn,?_,le_succ_of_le h.tk⟩
 ·funext q j
  show(σ.E q j/\q≠1)=False;rw[h.E];simp
 ·show σ.T.set 0 (turnX y 4)=_;rw[hT];rfl
 ·rw[e];exact h1
 ·rw[e];exact h2
 ·rw[e];exact h3
 ·show Rdy (σ.T.set 0 (turnX y 4)) e↔_;exact rdy_set (by rw[hT];rfl) (by omega) (by rw[k3.2.2.1];decide) e
 ·show(σ.ev++[_]).length<=a+1;have:=h.ev;simp;exact this
end
section
variable {w w' u w0:World}{L i:Nat}{D:CAd}{F F' F0:Nat->Nat->Prop}{g v:Value}{σ σ':CS}{th a t dr:Nat}{s ky:Int}
theorem asd{p:Prop}(h:p):Aside p:=h
theorem mq_w18:¬Qu.MQ 37:=by unfold Qu.MQ;decide
def Sst(ky:Int)(k:Nat)(σ:CS)(x:WR):Prop:=match k with
 | 0=>One σ 1 2 ky 2/\x=wk0/\(σ.q.g 0).f=true
 | 1=>One σ 1 2 ky 3/\x=wk0/\(σ.q.g 0).f=false
 | 2=>One σ 1 2 ky 5/\x=⟨1,ky,1,0,false⟩
 | 3=>One σ 1 3 ky 6/\x=⟨2,ky,1,0,false⟩
 | 4=>One σ 1 4 ky 7/\x=wk0
 | _=>One σ 1 4 ky 8/\x=wk0
def didL:List Int:=[1,2,3,6,0]
theorem aw_step(C:Co w L D F g v σ){x:WR}{k:Nat}(hk:k<5)(h:Sst ky k σ x) :
  Calls prog 8 #[pt D.B,wkV x,.int .i64 0,.int .u64 0] w fun e w'=>∃y0 y1 y2 y3 y4,e=.returned (.tuple #[wkV ⟨y0,y1,y2,y3,y4⟩,.int .i64 (didL.getD k 0)])/\∃σ',Sst ky (k+1) σ' ⟨y0,y1,y2,y3,y4⟩/\Cox L D F w σ' w':=by
 have hk':k=0\/k=1\/k=2\/k=3\/k=4:=by omega
 rcases hk' with rfl|rfl|rfl|rfl|rfl
 ·obtain⟨o,rfl,hf⟩:=h;refine(oneSettle (t:=0) (dr:=0) C o (by omega) (by omega) hf).mono ?_;rintro e w' ⟨rfl,X⟩;exact⟨_,_,_,_,_,rfl,_,⟨o.set (by omega),rfl,Qu.settle_f _ _ _⟩,X⟩
 ·obtain⟨o,rfl,hf⟩:=h;refine(oneLook (t:=0) (dr:=0) C o (by omega) (by omega) (by omega) hf).mono ?_;rintro e w' ⟨rfl,X⟩;exact⟨_,_,_,_,_,rfl,_,⟨(o.set (by omega)).tell _ _ _ _,rfl⟩,X⟩
 ·obtain⟨o,rfl⟩:=h;obtain⟨x,hT,P⟩:=oneClaim (t:=0) (dr:=0) C o (by omega) (by omega);refine P.mono ?_;rintro e w' ⟨rfl,X⟩;exact⟨_,_,_,_,_,rfl,_,⟨o.claim hT 0,rfl⟩,X⟩
 ·obtain⟨o,rfl⟩:=h;obtain⟨x,hT,P⟩:=oneFin (t:=0) (dr:=0) C o (by omega) (by omega);refine P.mono ?_;rintro e w' ⟨rfl,X⟩;exact⟨_,_,_,_,_,rfl,_,⟨o.fin hT 0,rfl⟩,X⟩
 ·obtain⟨o,rfl⟩:=h;refine(oneNone (t:=0) (dr:=0) C o (by omega) (by omega) (by omega) (by omega)).mono ?_;rintro e w' ⟨rfl,X⟩;exact⟨_,_,_,_,_,rfl,_,⟨o.set (by omega),rfl⟩,X⟩
theorem aw_stepE(C:Co w L D F g v σ){y0 y1 y2 y3:Int}{y4:Bool}{k:Nat}(hk:k<5)(h:Sst ky k σ ⟨y0,y1,y2,y3,y4⟩){dd:Int}(hd:didL.getD k 0=dd) :
  Calls prog 8 #[pt D.B,.agg #[.int .i64 y0,.int .u64 y1,.int .i64 y2,.int .i64 y3,.bool y4],.int .i64 0,.int .u64 0] w fun e w'=>∃z0 z1 z2 z3 z4,e=.returned (.tuple #[.agg #[.int .i64 z0,.int .u64 z1,.int .i64 z2,.int .i64 z3,.bool z4],.int .i64 dd])/\∃σ',Sst ky (k+1) σ' ⟨z0,z1,z2,z3,z4⟩/\Cox L D F w σ' w':=by
 subst hd;have P:=aw_step C hk h;unfold wkV at P;dsimp only at P;exact P
theorem idleC(x:WR)(w:World):Calls prog 11 #[wkV x] w fun e w'=>e=.returned (.bool (x.ph==0))/\Below w.heap.size w w':=by
 obtain⟨x0,x1,x2,x3,x4⟩:=x;go_enter func11,ntmps11
 go_wp2
 go_ret;exact⟨rfl,belA _ _⟩
end
section
variable {σ σ':CS}{th cr n a k t:Nat}{x y:Ta.TR}
structure Al(σ:CS)(th cr n a:Nat):Prop where
 th:σ.th=th
 nc:σ.n=cr
 cl:σ.cl=false
 len:σ.T.length=n
 st:∀(i:Nat)(y:Ta.TR),σ.T[i]?=some y->y.p=0/\2<=y.s/\y.s<=4
 o:σ.o=σ.T.countP liv
 N:σ.N=0
 E:σ.E=fun _ _=>False
 qi:QI σ
 qn:σ.qn<=a
 ev:σ.ev.length<=a
 tk:σ.tk<=a
theorem Al.mono(h:Al σ th cr n a){b:Nat}(hb:a<=b):Al σ th cr n b:=⟨h.th,h.nc,h.cl,h.len,h.st,h.o,h.N,h.E,h.qi,le_trans h.qn hb,le_trans h.ev hb,le_trans h.tk hb⟩
theorem Al.new(th k cr:Nat):Al (newS th k cr) th cr 0 0:=⟨rfl,rfl,rfl,rfl,fun i y h=>by simp[newS] at h,rfl,rfl,rfl,QI.new th k cr,Nat.le_refl _,Nat.le_refl _,Nat.le_refl _⟩
theorem Al.set(h:Al σ th cr n a)(ht:t<th):Al (setS σ t) th cr n (a+1):=
 ⟨h.th,h.nc,h.cl,h.len,h.st,h.o,h.N,h.E,h.qi.settle (by rw[h.th];exact ht),succ_le_succ h.qn,le_succ_of_le h.ev,le_succ_of_le h.tk⟩
theorem Al.tell(h:Al σ th cr n a)(kd t id ky:Int):Al (tellS σ kd t id ky) th cr n (a+1):=
 ⟨h.th,h.nc,h.cl,h.len,h.st,h.o,h.N,h.E,h.qi.same rfl rfl (fun e=>Iff.rfl),le_succ_of_le h.qn,by
  show(σ.ev++[_]).length<=a+1;have:=h.ev;simp;exact this,le_succ_of_le h.tk⟩
theorem subSO_T(σ:CS)(t:Nat)(prio:Int)(oa:Option Addr)(on oc:Nat):(subSO σ t prio oa on oc).T=σ.T++[{Ta.mkO prio 0 0 0 0 0 2 oa on oc with key:=keyS σ (Ta.mkO prio 0 0 0 0 0 2 oa on oc)}]:=by
 show(σ.T++[_]).set σ.T.length _=_;rw[List.set_append_right _ _ (Nat.le_refl _)];simp
 rfl
theorem QI.subO(h:QI σ)(ht:t<σ.th)(prio:Int)(oa:Option Addr)(on oc:Nat):QI (subSO σ t prio oa on oc):=by
 refine h.put (t:=t) (e0:=(keyS σ (Ta.mkO prio 0 0 0 0 0 2 oa on oc),(σ.T.length:Int)+1)) ht rfl rfl (fun e=>?_) (fun e he=>?_)
 ·rw[subSO_T,rdy_push rfl]
 ·have:=rdy_id he;show e.2≠(σ.T.length:Int)+1;omega
theorem Al.sub(h:Al σ th cr n a)(ht:t<th)(prio:Int)(oa:Option Addr)(on oc:Nat):Al (subSO σ t prio oa on oc) th cr (n+1) (a+2):=by
 have hy:=subSO_T σ t prio oa on oc;refine⟨h.th,h.nc,h.cl,by rw[hy];simp[h.len],fun i z hz=>?_,?_,h.N,h.E,h.qi.subO (by rw[h.th];exact ht) prio oa on oc,?_,?_,?_⟩
 ·rw[hy] at hz;rcases push_at h.len hz with⟨_,a⟩|⟨_,rfl⟩
  ·exact h.st i z a
  ·exact⟨rfl,by show(2:Int)<=2;omega,by show(2:Int)<=4;omega⟩
 ·rw[hy,List.countP_append];show σ.o+1=_;rw[h.o];simp[liv,Ta.mkO]
 ·show σ.qn+1<=_;have:=h.qn;omega
 ·show((σ.ev++[_])++[_]).length<=_;have:=h.ev;simp;omega
 ·show σ.tk<=_;have:=h.tk;omega
theorem turnX_opv(x:Ta.TR)(s:Int):opv (turnX x s)=opv x:=by
 unfold turnX
 split
 ·rfl
 ·rfl
theorem map_set{T:List Ta.TR}{y:Ta.TR}(h:T[k]?=some x)(e:opv y=opv x):(T.set k y).map opv=T.map opv:=by
 apply List.ext_getElem?;intro i;rw[List.getElem?_map,List.getElem?_map];by_cases c:k=i
 ·subst c;have hl:=(List.getElem?_eq_some_iff.1 h).1;rw[getElem?_set_self hl,h];simp[e]
 ·rw[getElem?_set_ne c]
theorem Al.stSet(h:Al σ th cr n a)(hz:y.p=0/\2<=y.s/\y.s<=4):∀(i:Nat)(z:Ta.TR),(σ.T.set k y)[i]?=some z->z.p=0/\2<=z.s/\z.s<=4:=fun i z hi=>by
 by_cases e:k=i
 ·subst e;have hl:=(List.getElem?_eq_some_iff.1 hi).1;rw[List.length_set] at hl;rw[getElem?_set_self hl] at hi;injection hi with hi
  rw[<-hi];exact hz
 ·rw[getElem?_set_ne e] at hi;exact h.st i z hi
theorem Al.claim(h:Al σ th cr n a)(hx:σ.T[k]?=some x)(hs:x.s=2)(t:Nat):Al (handS (turnS σ k x 3) t k (turnX x 3)) th cr n (a+1):=by
 have tx:=turnX_key x 3;refine⟨h.th,h.nc,h.cl,?_,?_,?_,h.N,h.E,h.qi.hand hx t,?_,?_,?_⟩
 ·show(σ.T.set k _).length=n;rw[List.length_set];exact h.len
 ·exact h.stSet ⟨tx.2.2.2.trans (h.st k x hx).1,by rw[tx.2.2.1];decide,by rw[tx.2.2.1];decide⟩
 ·show σ.o=(σ.T.set k (turnX x 3)).countP liv;have h3:=cnt_set (turnX x 3) hx;have a:liv x=true:=by simp[liv,hs]
  have b:liv (turnX x 3)=true:=by simp[liv,tx.2.2.1]
  rw[a,b] at h3;rw[h.o];simp at h3;omega
 ·show σ.qn+1<=_;have:=h.qn;omega
 ·show(σ.ev++[_]).length<=_;have:=h.ev;simp;omega
 ·show σ.tk+1<=_;have:=h.tk;omega
end
section
variable {w w' u:World}{L:Nat}{D:CAd}{F F':Nat->Nat->Prop}{g v:Value}{σ σ':CS}{th cr n a k t dr:Nat}{x y:Ta.TR}
theorem alSettle(C:Co w L D F g v σ)(h:Al σ th cr n a)(ht:t<th)(ha:a<=900)(hf:(σ.q.g t).f=true) :
  Calls prog 8 #[pt D.B,wkV wk0,.int .i64 t,.int .u64 dr] w fun e w'=>e=.returned (.tuple #[wkV wk0,.int .i64 1])/\Cox L D F w (setS σ t) w':=by
 have ht':t<σ.th:=by rw[h.th];exact ht
 exact stepC C wk0 wk0 ht' dr 2 1 0 (j:=6) (by decide) rfl rfl (fun w1 F1 g1 v1 C1=>touch0 C1 wk0 wk0 t dr 2 rfl (fun w2 F2 g2 v2 C2=>seekS C2 wk0 ht' (by have:=h.qn;omega) hf dr))
def lkA(σ:CS)(t:Nat)(z:Qu.Ent):CS:=tellS (setS σ t) 10 t z.2 z.1
theorem alLook(C:Co w L D F g v σ)(h:Al σ th cr n a)(ht:t<th)(ha:a<=900)(hdr:dr<18446744073709551616)(hf:(σ.q.g t).f=false)(hr:∃e,Rdy σ.T e) :
  ∃z,Rdy σ.T z/\∀w1 F1 g1 v1,Co w1 L D F1 g1 v1 σ->Calls prog 8 #[pt D.B,wkV wk0,.int .i64 t,.int .u64 dr] w1 fun e w'=>e=.returned (.tuple #[wkV ⟨1,z.1,z.2,0,false⟩,.int .i64 2])/\Cox L D F1 w1 (lkA σ t z) w':=by
 have ht':t<σ.th:=by rw[h.th];exact ht
 have h1:=h.set ht;obtain⟨x,y,z,hx,hy,hz,hr⟩:=h1.qi.look (Qu.settle_ok C.qok ht' C.k16) (t:=t) ht' dr hr ((setS σ t).tk:Int);refine⟨z,hr,fun w0 F0 g0 v0 C0=>?_⟩;refine stepC C0 wk0 ⟨0,z.1,z.2,0,false⟩ ht' dr 1 2 1 (j:=9) (by decide) rfl rfl (fun w1 F1 g1 v1 C1=>touch0 C1 wk0 ⟨0,z.1,z.2,0,false⟩ t dr 1 rfl (fun w2 F2 g2 v2 C2=>seekL C2 wk0 ht' (by have:=h.qn;omega) hf dr z.1 z.2 (fun w3 F3 g3 v3 C3=>?_)));exact lookC C3 (t:=t) (dr:=dr) (show t<σ.th from ht') hdr (by have:=h1.qn;omega) (by have:=h1.ev;omega) hx hy hz
theorem alClaim(C:Co w L D F g v σ)(h:Al σ th cr n a)(ht:t<th)(ha:a<=900)(hx:σ.T[k]?=some x)(hs:x.s=2) :
  Calls prog 8 #[pt D.B,wkV ⟨1,x.key,(k:Int)+1,0,false⟩,.int .i64 t,.int .u64 dr] w fun e w'=>e=.returned (.tuple #[wkV ⟨2,x.key,(k:Int)+1,0,false⟩,.int .i64 3])/\Cox L D F w (handS (turnS σ k x 3) t k (turnX x 3)) w':=by
 have ht':t<σ.th:=by rw[h.th];exact ht
 exact stepC C ⟨1,x.key,(k:Int)+1,0,false⟩ ⟨1,x.key,(k:Int)+1,0,false⟩ ht' dr 1 3 2 (j:=15) (by decide) rfl rfl (fun w1 F1 g1 v1 C1=>touch1 C1 ⟨1,x.key,(k:Int)+1,0,false⟩ ⟨1,x.key,(k:Int)+1,0,false⟩ t dr 1 rfl (fun w2 F2 g2 v2 C2=>wclaimO C2 ⟨1,x.key,(k:Int)+1,0,false⟩ t (fun w3 F3 g3 v3 C3=>
  claimC C3 (t:=t) (i:=k) (x:=x) ht' hx hs (by have:=(h.st k x hx).1;omega) (by have:=h.ev;omega) (by have:=h.qn;omega) (by have:=h.tk;omega))))
end
section
structure WI(σ:CS)(m a:Nat)(x0:Ta.TR):Prop where
 th:σ.th=1
 nc:σ.n=40
 cl:σ.cl=false
 len:σ.T.length<=m+1
 t0:σ.T[0]?=some x0
 st:∀(i:Nat)(y:Ta.TR),1<=i->σ.T[i]?=some y->y.p=0/\(y.s=1\/y.s=2\/y.s=6)
 o:σ.o<=m+1
 N:σ.N=0
 E:σ.E=fun _ _=>False
 now:σ.now=0
 qn:σ.qn<=a
 ev:σ.ev.length<=a
 tk:σ.tk<=a
variable {w w' u w0:World}{L i m a k pc:Nat}{D:CAd}{F F' F0:Nat->Nat->Prop}{g v:Value}{σ σ':CS}{x0 x:Ta.TR}
theorem WI.mono(h:WI σ m a x0){m' a':Nat}(hm:m<=m')(ha:a<=a'):WI σ m' a' x0:=
 ⟨h.th,h.nc,h.cl,by have:=h.len;omega,h.t0,h.st,by have:=h.o;omega,h.N,h.E,h.now,le_trans h.qn ha,le_trans h.ev ha,le_trans h.tk ha⟩
theorem WI.pos(h:WI σ m a x0):0<σ.T.length:=(List.getElem?_eq_some_iff.1 h.t0).1
theorem WI.push(h:WI σ m a x0){z:Ta.TR}(hp:z.p=0)(hs:z.s=1\/z.s=2)(hT:σ'.T=σ.T++[z])(h1:σ'.th=σ.th)(h2:σ'.n=σ.n)(h3:σ'.cl=σ.cl)(h4:σ'.o<=σ.o+1)(h5:σ'.N=σ.N)(h6:σ'.E=σ.E)(h7:σ'.now=σ.now)(h8:σ'.qn<=σ.qn+1)(h9:σ'.ev.length<=σ.ev.length+2)(h10:σ'.tk=σ.tk):WI σ' (m+1) (a+3) x0:=by
 refine⟨h1.trans h.th,h2.trans h.nc,h3.trans h.cl,?_,?_,fun i y hi hy=>?_,by have:=h.o;omega,h5.trans h.N,h6.trans h.E,h7.trans h.now,by have:=h.qn;omega,by have:=h.ev;omega,by have:=h.tk;omega⟩
 ·rw[hT,List.length_append,List.length_singleton];have:=h.len;omega
 ·rw[hT,List.getElem?_append_left h.pos];exact h.t0
 ·rw[hT] at hy;by_cases hl:i<σ.T.length
  ·rw[List.getElem?_append_left hl] at hy;exact h.st i y hi hy
  ·rw[List.getElem?_append_right (by omega)] at hy;have:=(List.getElem?_eq_some_iff.1 hy).1;rw[List.length_singleton] at this;have e:i-σ.T.length=0:=by omega
   rw[e] at hy;injection hy with hy
   subst hy;exact⟨hp,by rcases hs with h|h<;>simp[h]⟩
theorem WI.sub(h:WI σ m a x0)(prio:Int):WI (subS σ 0 prio) (m+1) (a+3) x0:=
 h.push (z:={Ta.mkT prio 0 0 0 0 0 2 with key:=keyS σ (Ta.mkT prio 0 0 0 0 0 2)}) rfl (.inr rfl) (sub_T σ 0 prio) rfl rfl rfl (Nat.le_refl _) rfl rfl rfl (Nat.le_refl _) (by rw[sub_ev2];omega) rfl
theorem WI.tim(h:WI σ m a x0)(prio:Int)(d:Nat):WI (timS σ (Ta.mkT prio 0 0 d 0 0 1) d) (m+1) (a+3) x0:=
 h.push (z:=Ta.mkT prio 0 0 d 0 0 1) rfl (.inl rfl) rfl rfl rfl rfl (Nat.le_refl _) rfl rfl rfl (Nat.le_succ _) (by show(σ.ev++[_]).length<=_;simp) rfl
theorem WI.can(h:WI σ m a x0)(hi:σ.T[k+1]?=some x):WI (fulC σ (k+1)) (m+1) (a+3) x0:=by
 rw[fulC_at hi];have s:=canX_sam (dropE σ ((k+1:Nat)+1)) (k+1) x;obtain⟨o1,o2,o3⟩:=canX_o (dropE σ ((k+1:Nat)+1)) (k+1) x;have tx:=turnX_key x 6;have xp:=(h.st _ _ (by omega) hi).1;refine⟨s.th.trans h.th,s.n.trans h.nc,s.cl.trans h.cl,?_,?_,fun i y h1 hy=>?_,?_,s.N.trans h.N,?_,s.now.trans h.now,?_,?_,?_⟩
 ·rw[s.len];have:=h.len;show σ.T.length<=_;omega
 ·rw[canX_T];show(σ.T.set (k+1) _)[0]?=_;rw[getElem?_set_ne (by omega)];exact h.t0
 ·rw[canX_T] at hy;have hy:(σ.T.set (k+1) (turnX x 6))[i]?=some y:=hy;by_cases e:k+1=i
  ·subst e;have hl:=(List.getElem?_eq_some_iff.1 hi).1;rw[getElem?_set_self hl] at hy;injection hy with hy
   subst hy;exact⟨tx.2.2.2.trans xp,.inr (.inr tx.2.2.1)⟩
  ·rw[getElem?_set_ne e] at hy;exact h.st i y h1 hy
 ·rw[o1];have:=h.o;show σ.o-1<=_;omega
 ·rw[s.E]
  funext q j
  show(σ.E q j/\_/\_)=False;rw[h.E];simp
 ·have:=h.qn;have o2:(canX (dropE σ ((k+1:Nat)+1)) (k+1) x).qn<=σ.qn+1:=o2;omega
 ·have:=h.ev;have o3:(canX (dropE σ ((k+1:Nat)+1)) (k+1) x).ev.length=σ.ev.length+1:=o3;omega
 ·have:=h.tk;have e:(canX (dropE σ ((k+1:Nat)+1)) (k+1) x).tk=σ.tk:=s.tk;omega
theorem WI.ofAl(h:Al σ 1 40 1 a)(hx:σ.T[0]?=some x)(hn:σ.now=0):WI σ 0 a x:=
 ⟨h.th,h.nc,h.cl,by rw[h.len];omega,hx,fun i y hi hy=>by
  have:=(List.getElem?_eq_some_iff.1 hy).1;have:=h.len;omega,by
  rw[h.o];have:=List.countP_le_length (p:=liv) (l:=σ.T);have:=h.len;omega,h.N,h.E,hn,h.qn,h.ev,h.tk⟩
theorem askOp(h:WI σ m a x0)(h3:x0.s=3)(hm:m<=16)(ha:a<=300){o:Ta.OpR}(hk:Ta.okO o=true) :
  ∃σ',WI σ' (m+1) (a+3) x0/\∀(L:Nat)(D:CAd)(w:World)(F:Nat->Nat->Prop)(g v:Value),Co w L D F g v σ->Calls prog 84 #[pt D.B,.int .i64 (0:Nat),.agg #[.int .i64 o.1,.int .i64 o.2.1,.int .i64 o.2.2]] w fun e w'=>e=.returned (.bool (decide (o.1=5)))/\Cox L D F w σ' w':=by
 obtain⟨c,p,b⟩:=o;have hl:=h.len;have ho:=h.o;have hq:=h.qn;have he:=h.ev;have ht:=h.tk;have hT:0<σ.th:=by rw[h.th];omega
 have hcr:σ.o<σ.n:=by rw[h.nc];omega
 have doc:=(Ta.okO_doc c p b).1 hk;rcases doc with⟨c1|c1,_,_⟩|⟨c1,p0,p7,_⟩|⟨c1,p0,p7,b0,b1⟩|⟨c1,p1,p2,_⟩
 ·refine⟨σ,h.mono (by omega) (by omega),fun L D w F g v C=>?_⟩;subst c1;refine(opNop D.B (0:Nat) 1 p b (by omega) (by omega) (by omega) w).mono ?_;rintro e w' ⟨rfl,b1⟩;exact⟨rfl,C.xb b1⟩
 ·refine⟨σ,h.mono (by omega) (by omega),fun L D w F g v C=>?_⟩;subst c1;refine(opNop D.B (0:Nat) 5 p b (by omega) (by omega) (by omega) w).mono ?_;rintro e w' ⟨rfl,b1⟩;exact⟨rfl,C.xb b1⟩
 ·refine⟨subS σ 0 p,h.sub p,fun L D w F g v C=>?_⟩;subst c1;refine opSub C (0:Nat) p b (fun w1 C1=>?_);refine(subC C1 (t:=0) hT h.cl (by omega) hcr (by omega) (by omega) (by omega) p p0 p7).mono ?_;rintro e w' ⟨rfl,X⟩;exact⟨⟨_,_,rfl⟩,X⟩
 ·subst c1;by_cases bz:b=0
  ·subst bz;refine⟨subS σ 0 p,h.sub p,fun L D w F g v C=>?_⟩;refine opAft C (0:Nat) p 0 (by omega) (by omega) (fun w1 C1=>?_);refine(after0 C1 (t:=0) hT h.cl (by omega) hcr (by omega) (by omega) (by omega) p p0 p7).mono ?_;rintro e w' ⟨rfl,X⟩;exact⟨⟨_,_,rfl⟩,X⟩
  ·obtain⟨d,hd⟩:∃d:Nat,b=(d:Int):=⟨b.toNat,by omega⟩;refine⟨timS σ (Ta.mkT p 0 0 d 0 0 1) d,h.tim p d,fun L D w F g v C=>?_⟩;refine opAft C (0:Nat) p b b0 b1 (fun w1 C1=>?_);have e1:Ag.ofT b=b:=by unfold Ag.ofT;rw[if_neg (by omega)]
   rw[e1];refine(afterW C1 (t:=0) hT h.cl (by omega) hcr (by omega) p b p0 p7 (by omega) (by rw[h.now];unfold Ta.IsT;omega) (by unfold Ta.IsT;omega) (d:=d) (by rw[h.now];unfold Ta.addT;omega) (by show d<18446744073709551616;omega)).mono ?_;rintro e w' ⟨rfl,X⟩;exact⟨⟨_,_,rfl⟩,X⟩
 ·subst c1;rcases stT_cases σ.T p with hno|⟨j,x,rfl,hx⟩
  ·refine⟨σ,h.mono (by omega) (by omega),fun L D w F g v C=>?_⟩;refine opCan C (0:Nat) p b (fun w1 C1=>?_);refine(cancelN C1 p (stT_no hno)).mono ?_;rintro e w' ⟨rfl,X⟩;exact⟨⟨_,rfl⟩,X⟩
  ·by_cases hlate:x.s=3\/x.s=6
   ·refine⟨σ,h.mono (by omega) (by omega),fun L D w F g v C=>?_⟩;refine opCan C (0:Nat) ((j:Int)+1) b (fun w1 C1=>?_);refine(cancelL C1 hx (by omega) (by omega) (by omega)).mono ?_;rintro e w' ⟨rfl,X⟩;exact⟨⟨_,rfl⟩,X⟩
   ·have hj:1<=j:=by
     rcases Nat.eq_zero_or_pos j with e|e
     ·subst e;rw[h.t0] at hx;injection hx with hx
      rw[<-hx] at hlate;exact absurd (.inl h3) hlate
     ·exact e
    obtain⟨j',rfl⟩:∃j',j=j'+1:=⟨j-1,by omega⟩;have xs:=h.st _ _ hj hx;refine⟨fulC σ (j'+1),h.can hx,fun L D w F g v C=>?_⟩;refine opCan C (0:Nat) _ b (fun w1 C1=>?_);have q2:=Ta.cntP_le isC σ.T;refine(cancelW C1 hx (by omega) (by omega) (by rw[h.N];omega) (fun j hj=>?_) (by omega) (by omega) (by omega)).mono ?_
    ·rw[h.E] at hj;exact(hj (fun _=>False) (fun _ h=>h) (fun _ _ h _=>h)).elim
    ·rintro e w' ⟨rfl,d,dl,X⟩;rw[h.E] at dl;obtain rfl:=kill_nil dl;exact⟨⟨_,rfl⟩,X⟩
theorem wbOp(h:WI σ m a x0)(h3:x0.s=3)(hm:m<=16)(ha:a<=300){os:List Ta.OpR}(hlen:os.length<=16){o:Ta.OpR}(ho:os[pc]?=some o)(hk:Ta.okO o=true)(ky:Int) :
  ∃σ',WI σ' (m+1) (a+3) x0/\∀(L:Nat)(D:CAd)(w:World)(F:Nat->Nat->Prop)(g v:Value),Co w L D F g v σ->OwO w F (.slice x0.oa x0.on x0.oc) os->Calls prog 8 #[pt D.B,wkV ⟨2,ky,1,pc,false⟩,.int .i64 (0:Nat),.int .u64 (0:Nat)] w fun e w'=>e=.returned (.tuple #[wkV ⟨2,ky,1,(pc:Int)+1,decide (o.1=5)⟩,.int .i64 5])/\Cox L D F w σ' w':=by
 obtain⟨σ',h',P⟩:=askOp h h3 hm ha hk;refine⟨σ',h',fun L D w F g v C hO=>?_⟩;have ht':0<σ.th:=by rw[h.th];omega
 exact stepB C ⟨2,ky,1,pc,false⟩ ⟨2,ky,1,(pc:Int)+1,decide (o.1=5)⟩ ht' (0:Nat) 1 5 2 (j:=18) (by decide) rfl rfl (fun w1 b1 C1=>touch2B C1 ⟨2,ky,1,pc,false⟩ ⟨2,ky,1,(pc:Int)+1,decide (o.1=5)⟩ (0:Nat) (0:Nat) 1 rfl (fun w2 b2 C2=>runO C2 2 ky pc (0:Nat) (i:=0) h.t0 ((hO.below b1).below b2) (by omega) ho (bad:=decide (o.1=5)) (fun w3 F3 g3 v3 C3 G3=>P L D w3 F3 g3 v3 C3)))
theorem wbFin(h:WI σ m a x0)(h3:x0.s=3)(hp:x0.p=0)(hm:m<=20)(ha:a<=300){os:List Ta.OpR}(hlen:os.length<=16)(bad:Bool)(hend:bad=true\/os.length<=pc)(ky:Int) :
  ∃σ' y,σ'.T[0]?=some y/\y.s=(if bad then 5 else 4)/\∀(L:Nat)(D:CAd)(w:World)(F:Nat->Nat->Prop)(g v:Value),Co w L D F g v σ->OwO w F (.slice x0.oa x0.on x0.oc) os->Calls prog 8 #[pt D.B,wkV ⟨2,ky,1,pc,bad⟩,.int .i64 (0:Nat),.int .u64 (0:Nat)] w fun e w'=>e=.returned (.tuple #[wkV wk0,.int .i64 6])/\Cox L D F w σ' w':=by
 have ht':0<σ.th:=by rw[h.th];omega
 have hl:=h.len;have hq:=h.qn;have he:=h.ev;have htk:=h.tk;have q1:=Ta.cntP_le isW σ.T;have q2:=Ta.cntP_le isC σ.T;have hpos:=h.pos
 cases bad with
 | false=>
  refine⟨donS σ 0 0 x0,turnX x0 4,?_,?_,fun L D w F g v C hO=>?_⟩
  ·show(σ.T.set 0 _)[0]?=_;rw[getElem?_set_self hpos]
  ·rw[(turnX_key x0 4).2.2.1];rfl
  ·refine stepB C ⟨2,ky,1,pc,false⟩ wk0 ht' (0:Nat) 0 6 0 (j:=21) (by decide) rfl rfl (fun w1 b1 C1=>touch2B C1 ⟨2,ky,1,pc,false⟩ wk0 (0:Nat) (0:Nat) 0 rfl (fun w2 b2 C2=>runF C2 2 ky pc (0:Nat) 0 (i:=0) h.t0 ((hO.below b1).below b2) (by omega) false hend (fun w3 F3 g3 v3 C3=>?_)));have P:=finC C3 (t:=0) (i:=0) (x:=x0) ht' h.t0 h3 hp (wf_of (by omega) (by omega)) (by rw[h.N];omega) (by omega) (by omega) (by omega) (by omega) (fun j hj=>by rw[h.E] at hj;exact hj.elim);refine P.mono ?_;rintro e w' ⟨rfl,d,dl,X⟩;rw[h.E] at dl;obtain rfl:=done_nil dl;exact⟨rfl,X⟩
 | true=>
  refine⟨failS (turnS σ 0 x0 5) 0 (((0:Nat):Int)+1),turnX x0 5,?_,?_,fun L D w F g v C hO=>?_⟩
  ·show(σ.T.set 0 _)[0]?=_;rw[getElem?_set_self hpos]
  ·rw[(turnX_key x0 5).2.2.1];rfl
  ·refine stepB C ⟨2,ky,1,pc,true⟩ wk0 ht' (0:Nat) 0 6 0 (j:=21) (by decide) rfl rfl (fun w1 b1 C1=>touch2B C1 ⟨2,ky,1,pc,true⟩ wk0 (0:Nat) (0:Nat) 0 rfl (fun w2 b2 C2=>runF C2 2 ky pc (0:Nat) 0 (i:=0) h.t0 ((hO.below b1).below b2) (by omega) true hend (fun w3 F3 g3 v3 C3=>?_)))
   have P:=finF C3 (t:=0) (i:=0) (x:=x0) ht' h.t0 h3 hp (wf_of (by omega) (by omega)) (by rw[h.N];omega) (fun p i hh=>by rw[h.E] at hh;exact hh.elim) (by omega) (by omega) (by omega) (fun j hj=>by
    rw[h.E] at hj;exact(hj (fun _=>False) (fun _ h=>h) (fun _ _ h _=>h)).elim)
   refine P.mono ?_;rintro e w' ⟨rfl,d,dl,X⟩;rw[h.E] at dl;obtain rfl:=kill_nil dl;exact⟨rfl,X⟩
end
section
variable {w w' u w0 w1:World}{L i:Nat}{D:CAd}{F F' F0 F1:Nat->Nat->Prop}{g v g' v':Value}{σ σ':CS}{th a t dr X R A B:Nat}{s ky:Int}{x y z:WR}
def set5w(w:World)(K:Nat)(z:WR):World:=set5 w K (.int .i64 z.ph) (.int .u64 z.key) (.int .i64 z.id) (.int .i64 z.pc) (.bool z.bad)
end
section
variable {w w' u w0:World}{L i m a k pc:Nat}{D:CAd}{F F' F0:Nat->Nat->Prop}{g v:Value}{σ σ':CS}{x0 x:Ta.TR}
def OneT(σ:CS)(V:Option Addr×Nat×Nat)(x:Ta.TR):Prop:=σ.T[0]?=some x/\x.s=2/\x.p=0/\opv x=V/\σ.now=0
def J3(V:Option Addr×Nat×Nat)(i:Nat)(y:WR)(σ:CS):Prop:=
 (i=0/\y=wk0/\Al σ 1 40 1 2/\(∃x,OneT σ V x)/\(σ.q.g 0).f=true)\/
 (i=1/\y=wk0/\Al σ 1 40 1 3/\(∃x,OneT σ V x)/\(σ.q.g 0).f=false)\/
 (i=2/\Al σ 1 40 1 5/\∃x,OneT σ V x/\y=⟨1,x.key,1,0,false⟩)\/
 (i=3/\∃x0 ky,WI σ 0 8 x0/\x0.s=3/\x0.p=0/\opv x0=V/\y=⟨2,ky,1,0,false⟩)
def StepIs(D:CAd)(L:Nat)(σ:CS)(y:WR)(F:Nat->Nat->Prop)(w:World)(y':WR)(d:Int)(σ':CS):Prop:=
 Calls prog 8 #[pt D.B,wkV y,.int .i64 (0:Nat),.int .u64 (0:Nat)] w fun e w'=>e=.returned (.tuple #[wkV y',.int .i64 d])/\Cox L D F w σ' w'
theorem step3(C:Co w L D F g v σ){V:Option Addr×Nat×Nat}{y:WR}(h:J3 V i y σ)(hi:i<3):∃y' d σ',J3 V (i+1) y' σ'/\StepIs D L σ y F w y' d σ':=by
 rcases h with⟨rfl,rfl,hA,hT,hf⟩|⟨rfl,rfl,hA,⟨x,hx,h2,hp,hV,hn⟩,hf⟩|⟨rfl,hA,x,⟨hx,h2,hp,hV,hn⟩,rfl⟩|⟨rfl,_⟩
 ·exact⟨wk0,1,setS σ 0,.inr (.inl ⟨rfl,rfl,hA.set (by omega),hT,Qu.settle_f _ _ _⟩),alSettle C hA (by omega) (by omega) hf⟩
 ·have hr:∃e,Rdy σ.T e:=⟨_,0,x,hx,h2,rfl⟩;obtain⟨z,⟨i,x',hx',hs',rfl⟩,P⟩:=alLook C hA (t:=0) (dr:=0) (by omega) (by omega) (by omega) hf hr;have hl:=hA.len
  have hi0:i=0:=by
   have:=(List.getElem?_eq_some_iff.1 hx').1;omega
  subst hi0;rw[hx] at hx';injection hx' with hx'
  subst hx';refine⟨⟨1,x.key,1,0,false⟩,2,lkA σ 0 (x.key,((0:Nat):Int)+1),.inr (.inr (.inl ⟨rfl,?_,x,⟨hx,h2,hp,hV,hn⟩,rfl⟩)),P w F g v C⟩;exact((hA.set (by omega)).tell _ _ _ _).mono (by omega)
 ·have hA1:=hA.claim hx h2 0;have tx:=turnX_key x 3;have hpos:0<σ.T.length:=(List.getElem?_eq_some_iff.1 hx).1;refine⟨⟨2,x.key,1,0,false⟩,3,handS (turnS σ 0 x 3) 0 0 (turnX x 3),.inr (.inr (.inr ⟨rfl,turnX x 3,x.key,(WI.ofAl hA1 (getElem?_set_self hpos) hn).mono (Nat.le_refl _) (by omega),tx.2.2.1,tx.2.2.2.trans hp,(turnX_opv x 3).trans hV,rfl⟩)),?_⟩;exact alClaim C hA (t:=0) (dr:=0) (k:=0) (by omega) (by omega) hx h2
 ·omega
/-! ## The body -/
def pan(o:Ta.OpR):Bool:=decide (o.1=5)
theorem stp_at{os:List Ta.OpR}{i:Nat}{o:Ta.OpR}(ho:os[i]?=some o)(hp:pan o=true)(hb:∀(j:Nat)(o:Ta.OpR),j<i->os[j]?=some o->pan o=false):Ta.stp os=i+1/\os.any pan=true:=by
 obtain⟨hi,he⟩:=List.getElem?_eq_some_iff.1 ho;have h:=Ta.firstStp (d:=os) (z:=(i:Int)) (.inr ⟨i,hi,rfl,by rw[he];exact hp,fun j hj=>hb j _ hj (List.getElem?_eq_getElem (by omega))⟩);rw[if_neg (by omega)] at h;exact⟨by omega,List.any_eq_true.2 ⟨o,List.mem_of_getElem? ho,hp⟩⟩
theorem stp_no{os:List Ta.OpR}(hb:∀(j:Nat)(o:Ta.OpR),j<os.length->os[j]?=some o->pan o=false):Ta.stp os=os.length/\os.any pan=false:=by
 have h:=Ta.firstStp (d:=os) (z:=-1) (.inl ⟨rfl,fun j hj=>hb j _ hj (List.getElem?_eq_getElem hj)⟩);rw[if_pos (by omega)] at h;refine⟨by omega,?_⟩
 cases hq:os.any pan with
 | false=>rfl
 | true=>
  obtain⟨o,ho,hp⟩:=List.any_eq_true.1 hq;obtain⟨j,hj,e⟩:=List.mem_iff_getElem.1 ho;have:=hb j o hj (by rw[List.getElem?_eq_getElem hj,e]);rw[hp] at this
  cases this
def Run(os:List Ta.OpR)(V:Option Addr×Nat×Nat)(i:Nat)(y:WR)(σ:CS):Prop:=
 ∃bad x0 ky,y=⟨2,ky,1,i,bad⟩/\WI σ i (8+3*i) x0/\x0.s=3/\x0.p=0/\opv x0=V/\i<=os.length/\((bad=true/\Ta.stp os=i/\os.any pan=true)\/(bad=false/\∀(j:Nat)(o:Ta.OpR),j<i->os[j]?=some o->pan o=false))
def Fin2(os:List Ta.OpR)(y:WR)(σ:CS)(c:Nat):Prop:=y=wk0/\c=Ta.stp os/\∃z,σ.T[0]?=some z/\z.s=(if os.any pan then 5 else 4)
theorem Run.start{V:Option Addr×Nat×Nat}{y:WR}{os:List Ta.OpR}(h:J3 V 3 y σ):Run os V 0 y σ:=by
 rcases h with⟨h,_⟩|⟨h,_⟩|⟨h,_⟩|⟨_,x0,ky,hW,h3,hp,hV,rfl⟩
 ·omega
 ·omega
 ·omega
 ·exact⟨false,x0,ky,rfl,hW,h3,hp,hV,by omega,.inr ⟨rfl,fun j o hj=>by omega⟩⟩
theorem stepR(C:Co w L D F g v σ){oa:Option Addr}{on oc:Nat}{y:WR}{os:List Ta.OpR}(h:Run os (oa,on,oc) i y σ)(hO:OwO w F (.slice oa on oc) os)(hk:Ta.okL os=true) :
  ∃y' d σ',((d=5/\Run os (oa,on,oc) (i+1) y' σ')\/(d=6/\Fin2 os y' σ' i))/\StepIs D L σ y F w y' d σ':=by
 obtain⟨bad,x0,ky,rfl,hW,h3,hp,hV,hi,hb⟩:=h
 have hO':OwO w F (.slice x0.oa x0.on x0.oc) os:=by
  have e1:x0.oa=oa:=congrArg (fun z=>z.1) hV;have e2:x0.on=on:=congrArg (fun z=>z.2.1) hV;have e3:x0.oc=oc:=congrArg (fun z=>z.2.2) hV;rw[e1,e2,e3];exact hO
 unfold Ta.okL at hk;rw[Bool.and_eq_true,decide_eq_true_eq,List.all_eq_true] at hk;obtain⟨hlen,hall⟩:=hk;rcases hb with⟨rfl,hs,ha⟩|⟨rfl,hn⟩
 ·obtain⟨σ',z,hz,hzs,P⟩:=wbFin (pc:=i) hW h3 hp (by omega) (by omega) hlen true (.inl rfl) ky;exact⟨wk0,6,σ',.inr ⟨rfl,rfl,hs.symm,z,hz,by rw[hzs,ha]⟩,P L D w F g v C hO'⟩
 ·by_cases hl:i<os.length
  ·obtain⟨o,ho⟩:∃o,os[i]?=some o:=⟨_,List.getElem?_eq_getElem hl⟩;obtain⟨σ',hW',P⟩:=wbOp hW h3 (by omega) (by omega) hlen ho (hall o (List.mem_of_getElem? ho)) ky;refine⟨⟨2,ky,1,(i:Int)+1,decide (o.1=5)⟩,5,σ',.inl ⟨rfl,decide (o.1=5),x0,ky,rfl,hW'.mono (Nat.le_refl _) (by omega),h3,hp,hV,hl,?_⟩,P L D w F g v C hO'⟩
   cases hq:pan o with
   | true=>
    obtain⟨e1,e2⟩:=stp_at ho hq hn;exact .inl ⟨hq,e1,e2⟩
   | false=>
    refine .inr ⟨hq,fun j o' hj ho'=>?_⟩;rcases Nat.lt_or_ge j i with c|c
    ·exact hn j o' c ho'
    ·have:j=i:=by omega
     subst this;rw[ho] at ho';injection ho' with ho'
     rw[<-ho'];exact hq
  ·have he:i=os.length:=by omega
   subst he;obtain⟨e1,e2⟩:=stp_no hn;obtain⟨σ',z,hz,hzs,P⟩:=wbFin (pc:=os.length) hW h3 hp (by omega) (by omega) hlen false (.inr (Nat.le_refl _)) ky;exact⟨wk0,6,σ',.inr ⟨rfl,rfl,e1.symm,z,hz,by rw[hzs,e2]⟩,P L D w F g v C hO'⟩
/-! ## The law's own memory -/
structure WJ(L:Nat)(D:CAd)(F1:Nat->Nat->Prop)(w1:World)(X R A:Nat)(V:Value)(os:List Ta.OpR)(w:World)(F:Nat->Nat->Prop)(g v:Value)(σ:CS)(x:WR):Prop where
 c:Co w L D F g v σ
 gc:Gc L F1 w1 F w
 k:Bx w F X #[pt D.B,pt R,.int .u64 0,.int .i64 0] 37
 a:Bx w F A (wkA x) 40
 o:OwO w F V os
 lA:w1.heap.size<=A
 lL:L<=w1.heap.size
variable {F1:Nat->Nat->Prop}{w1:World}{X R A:Nat}{V:Value}{os:List Ta.OpR}{y:WR}
theorem WJ.go(h:WJ L D F1 w1 X R A V os w F g v σ y){g' v':Value}(C:Co w' L D F' g' v' σ')(G:Gc L F w F' w'):WJ L D F1 w1 X R A V os w' F' g' v' σ' y:=
 ⟨C,h.gc.trans G,h.k.gc mq_w18 G,h.a.gc mq_wk G,h.o.gc G,h.lA,h.lL⟩
theorem WJ.below(h:WJ L D F1 w1 X R A V os w F g v σ y)(b:Below w.heap.size w w'):WJ L D F1 w1 X R A V os w' F g v σ y:=
 ⟨h.c.below b,h.gc.trans (Gc.below F h.c.lw b),h.k.below b,h.a.below b,h.o.below b,h.lA,h.lL⟩
theorem WJ.ne(h:WJ L D F1 w1 X R A V os w F g v σ y):X≠A:=fun e=>by
 subst e;have:=h.k.1.symm.trans h.a.1;simp at this
theorem WJ.set(h:WJ L D F1 w1 X R A V os w F g v σ y)(z:WR):WJ L D F1 w1 X R A V os (set5w w A z) F g v σ z:=by
 have fw:=set5_fr w A (.int .i64 z.ph) (.int .u64 z.key) (.int .i64 z.id) (.int .i64 z.pc) (.bool z.bad);refine⟨h.c.frX fw (fun k hk=>by {subst hk;exact⟨h.a.2,nq_of h.a.1 qt_wk⟩}),h.gc.ownX (fun k hk=>by {subst hk;exact h.lA}) h.lL fw,⟨(fw.block X (lt_of_block h.k.1) h.ne).trans h.k.1,h.k.2⟩,⟨set5_at h.a.1 _ _ _ _ _,h.a.2⟩,⟨h.o.1.of_block fun k hk=>?_,h.o.2⟩,h.lA,h.lL⟩;obtain⟨cs,hc⟩:=h.o.1.rowT hk;refine fw.block k (lt_of_block hc) fun e=>?_;subst e;have:=hc.symm.trans h.a.1;simp[Ta.rO] at this
theorem WJ.made(C:Co w L D F g v σ)(G:Gc L F1 w1 F w)(K:Bx w F X #[pt D.B,pt R,.int .u64 0,.int .i64 0] 37)(O:OwO w F V os)(hL:L<=w1.heap.size):WJ L D F1 w1 X R w.heap.size V os (w.alloc (.cells #[.int .i64 0,.int .u64 0,.int .i64 0,.int .i64 0,.bool false] 40)) F g v σ wk0:=
 ⟨C.below (belA _ _),G.trans (Gc.below F C.lw (belA _ _)),K.below (belA _ _),Bx.new C _ _,O.below (belA _ _),G.size,hL⟩
theorem stW(C:Co w L D F g v σ)(hx:σ.T[0]?=some x){s:Int}(hs:x.s=s):Aside (Calls prog 9 #[pt D.B,.int .i64 1] w fun e w'=>e=.returned (.int .i64 s)/\Cox L D F w σ w'):=by
 have P:=statusC C hx;rw[hs] at P;exact P
end
end Go.Proofs.YtjpbngiddjkjiaaGreatDoor
