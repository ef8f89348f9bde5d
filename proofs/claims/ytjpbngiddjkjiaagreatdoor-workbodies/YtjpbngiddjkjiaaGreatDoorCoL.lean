import Derived.Test.YtjpbngiddjkjiaaGreatDoorCoC
open Go.Proofs.Tryz
open List(getElem?_set_ne)
open Nat(le_of_eq le_refl le_trans)
namespace Go.Proofs.YtjpbngiddjkjiaaGreatDoor
set_option maxHeartbeats 8000000
set_option maxRecDepth 100000
set_option linter.unusedVariables false
section
open Go.RowKit Go.Lib Go.WideMaps Go.Maps
variable {w w' u:World}{L i:Nat}{D:CAd}{F F':Nat->Nat->Prop}{g v:Value}{σ:CS}{x:Ta.TR}
theorem chooseC(a b z:Int×Int)(t:Int)(hz:z=if a.1<=t then a else b)(w:World) :
  Calls prog 114 #[.agg #[.int .u64 a.1,.int .i64 a.2],.agg #[.int .u64 b.1,.int .i64 b.2],.int .u64 t] w fun e w'=>e=.returned (.agg #[.int .u64 z.1,.int .i64 z.2])/\Below w.heap.size w w':=by
 refine(Ag.choose_any a b t w).mono ?_;rintro e w' ⟨rfl,h⟩;subst hz;by_cases c:a.1<=t
 ·rw[if_pos c,if_pos c];exact⟨rfl,h⟩
 ·rw[if_neg c,if_neg c];exact⟨rfl,h⟩
theorem lookC(C:Co w L D F g v σ){t dr:Nat}(ht:t<σ.th)(hdr:dr<18446744073709551616)(hn:σ.qn<=1000)(hl:σ.ev.length<1000000){x y z:Qu.Ent}(hx:Qu.relaxQ σ.q σ.th σ.k t dr=(x,true))(hy:Qu.unl (Qu.leastQ σ.q σ.th)=y)(hz:z=if y.1<=(σ.tk:Int) then y else x) :
  Calls prog 80 #[pt D.B,.int .i64 t,.int .u64 dr] w fun e w'=>e=.returned (.tuple #[.agg #[.int .u64 z.1,.int .i64 z.2],.bool true])/\Cox L D F w (tellS σ 10 t z.2 z.1) w':=by
 obtain⟨K,hK⟩:∃J,w.heap.size=J:=⟨_,rfl⟩;obtain⟨u,hu⟩:∃q,w.alloc (.cells #[.int .u64 0,.int .i64 0] 35)=q:=⟨_,rfl⟩;have b0:Below w.heap.size w u:=by rw[<-hu];exact belA _ _
 have hB:u.heap[K]?=some (.cells #[.int .u64 0,.int .i64 0] 35 (0,0)):=by rw[<-hu,<-hK];exact heap_alloc_new w _
 have C0:=C.below b0;have c4:=C0.c4;have P:=Qu.relaxed_in u L D.A σ.th σ.k σ.qn σ.q t dr C0.que C0.qok hn C0.k16 ht C0.th8 hdr;rw[hx] at P;have HC:Aside (Co w L D F g v σ/\w.heap.size=K/\σ.qn<=1000/\σ.ev.length<1000000):=⟨C,hK,hn,hl⟩;have X0:Aside (Below w.heap.size w u/\u.heap[K]?=some (.cells #[.int .u64 0,.int .i64 0] 35 (0,0))):=⟨b0,hB⟩;have HY:Aside (Qu.unl (Qu.leastQ σ.q σ.th)=y):=hy;obtain⟨x1,x2⟩:=x;obtain⟨y1,y2⟩:=y;obtain⟨z1,z2⟩:=z;have CH:Aside (∀W,Calls prog 114 #[.agg #[.int .u64 y1,.int .i64 y2],.agg #[.int .u64 x1,.int .i64 x2],.int .u64 σ.tk] W fun e w'=>e=.returned (.agg #[.int .u64 z1,.int .i64 z2])/\Below W.heap.size W w'):=fun W=>chooseC (y1,y2) (x1,x2) (z1,z2) σ.tk hz W;have HU:Aside _:=hu;clear C C0 hx hy hz hu hB b0 hn hl;go_enter func80,ntmps80
 go_upto_region 1 with fail
 rw[HU.out]
 go_wp2_with fail
 refine Calls.mono P ?_;rintro e w1 ⟨rfl,b1⟩;clear P c4;obtain⟨K8,hK8⟩:∃J,w1.heap.size=J:=⟨_,rfl⟩;obtain⟨u1,hu1⟩:∃q,w1.alloc (.cells #[.int .u64 x1,.int .i64 x2] 35)=q:=⟨_,rfl⟩;have b2:Below w1.heap.size w1 u1:=by rw[<-hu1];exact belA _ _
 have h8:u1.heap[K8]?=some (.cells #[.int .u64 x1,.int .i64 x2] 35 (0,0)):=by rw[<-hu1,<-hK8];exact heap_alloc_new w1 _
 have X1:Aside (Below w.heap.size w u1/\u1.heap[K]?=some (.cells #[.int .u64 0,.int .i64 0] 35 (0,0))/\u1.heap[K8]?=some (.cells #[.int .u64 x1,.int .i64 x2] 35 (0,0))):=⟨belT X0.out.1 (belT b1 b2),((belT b1 b2).block K (lt_of_block X0.out.2)).trans X0.out.2,h8⟩;have C1:=HC.out.1.below X1.out.1;have c4:=C1.c4;have P:=Qu.qleast_any u1 L D.A σ.th σ.k σ.qn σ.q C1.que C1.qok HC.out.2.2.1 C1.k16 C1.th1 C1.th8;rw[HY.out] at P;obtain⟨fl,hfl⟩:∃b,Qu.unb (Qu.leastQ σ.q σ.th)=b:=⟨_,rfl⟩;rw[hfl] at P;have HU1:Aside _:=hu1;have HK8:Aside _:=hK8;clear hu1 hK8 b1 b2 h8 C1 hfl;go_upto_region 4 with fail
 rw[HU1.out];simp only[HK8.out]
 go_wp2_with fail
 refine Calls.mono P ?_;rintro e w2 ⟨rfl,b3⟩;clear P c4;obtain⟨K10,hK10⟩:∃J,w2.heap.size=J:=⟨_,rfl⟩;obtain⟨u2,hu2⟩:∃q,w2.alloc (.cells #[.int .u64 y1,.int .i64 y2] 35)=q:=⟨_,rfl⟩;have b4:Below w2.heap.size w2 u2:=by rw[<-hu2];exact belA _ _
 have h10:u2.heap[K10]?=some (.cells #[.int .u64 y1,.int .i64 y2] 35 (0,0)):=by rw[<-hu2,<-hK10];exact heap_alloc_new w2 _
 have X2:Aside (Below w.heap.size w u2.drew/\u2.drew.heap[K]?=some (.cells #[.int .u64 0,.int .i64 0] 35 (0,0))/\u2.drew.heap[K8]?=some (.cells #[.int .u64 x1,.int .i64 x2] 35 (0,0))/\u2.drew.heap[K10]?=some (.cells #[.int .u64 y1,.int .i64 y2] 35 (0,0))):=⟨(belT X1.out.1 (belT b3 b4)).drew,((belT b3 b4).block K (lt_of_block X1.out.2.1)).trans X1.out.2.1,((belT b3 b4).block K8 (lt_of_block X1.out.2.2)).trans X1.out.2.2,h10⟩;have C2:=HC.out.1.below X2.out.1;have c8:u2.drew.cell? ⟨D.B,8,none⟩=some (.int .u64 σ.tk):=C2.c8;obtain⟨x0,xx1⟩:=bx2 X2.out.2.2.1;obtain⟨y0,yy1⟩:=bx2 X2.out.2.2.2
 have KP:Aside (∀W:World,Below u2.heap.size u2 W->W.cell? ⟨D.B,8,none⟩=some (.int .u64 σ.tk)/\W.cell? ⟨K8,0,none⟩=some (.int .u64 x1)/\W.cell? ⟨K8,1,none⟩=some (.int .i64 x2)/\W.cell? ⟨K10,0,none⟩=some (.int .u64 y1)/\W.cell? ⟨K10,1,none⟩=some (.int .i64 y2)):=by
  intro W b;obtain⟨p0,p1⟩:=bx2 ((b.block K8 (lt_of_block X2.out.2.2.1)).trans X2.out.2.2.1);obtain⟨q0,q1⟩:=bx2 ((b.block K10 (lt_of_block X2.out.2.2.2)).trans X2.out.2.2.2);have b':Below u2.drew.heap.size u2.drew W:=⟨b.os,b.tape,b.output,b.size,b.block⟩;exact⟨(C2.below b').c8,p0,p1,q0,q1⟩
 have hb0:Below u2.heap.size u2 u2.drew:=(Below.refl _ _).drew;have hbA:Below u2.heap.size u2 (u2.alloc (.cells #[.int .u64 0,.int .i64 0] 35)).drew:=((Below.refl _ _).alloc (le_refl _) _).drew;obtain⟨a8,a0,a1,a2,a3⟩:=KP.out _ hbA;have X2K:Aside (u2.heap[K]?=some (.cells #[.int .u64 0,.int .i64 0] 35 (0,0))/\Below w.heap.size w u2):=⟨X2.out.2.1,⟨X2.out.1.os,X2.out.1.tape,X2.out.1.output,X2.out.1.size,X2.out.1.block⟩⟩;obtain⟨N2,hN2⟩:∃J,u2.heap.size=J:=⟨_,rfl⟩;have hbx:(u2.alloc (.cells #[.int .u64 0,.int .i64 0] 35)).drew.heap[N2]?=some (.cells #[.int .u64 0,.int .i64 0] 35 (0,0)):=by rw[<-hN2];exact heap_alloc_new u2 _
 have HBX:Aside _:=hbx;have HN2:Aside _:=hN2;have HU2:Aside _:=hu2;have HK10:Aside _:=hK10;clear hu2 hK10 b3 b4 h10 C2 hbx;go_upto_region 5 with fail
 rw[HU2.out];simp only[HK10.out]
 go_cut [12] from 34 to 40 (fun s12 wx=>∃(T:Nat),s12=.pointer (some ⟨T,0,none⟩)/\Below u2.heap.size u2 wx/\wx.heap[T]?=some (.cells #[.int .u64 z1,.int .i64 z2] 35 (0,0))/\u2.heap.size<=T)
 case first=>
  go_region_held3 (fun w'=>w'.cell? ⟨D.B,8,none⟩=some (.int .u64 σ.tk)/\w'.cell? ⟨K8,0,none⟩=some (.int .u64 x1)/\w'.cell? ⟨K8,1,none⟩=some (.int .i64 x2)/\w'.cell? ⟨K10,0,none⟩=some (.int .u64 y1)/\w'.cell? ⟨K10,1,none⟩=some (.int .i64 y2)) (first|with_reducible exact⟨c8,x0,xx1,y0,yy1⟩|with_reducible exact⟨a8,a0,a1,a2,a3⟩|with_reducible exact⟨d8,p0,p1,q0,q1⟩|with_reducible exact KP.out _ (h3.alloc h3.size _)|with_reducible exact KP.out _ ((h3.setCell (le_of_eq HN2.out) _).setCell (le_of_eq HN2.out) _)) ((go_at_call 114;first|((with_reducible refine Calls.mono (CH.out u2.drew) ?_);rintro e w3 ⟨rfl,b5⟩;have h3:Below u2.heap.size u2 w3:=belT hb0 b5;obtain⟨d8,p0,p1,q0,q1⟩:=KP.out w3 h3)|((with_reducible refine Calls.mono (CH.out (u2.alloc (.cells #[.int .u64 0,.int .i64 0] 35)).drew) ?_);rintro e w3 ⟨rfl,b5⟩;have h3:Below u2.heap.size u2 w3:=belT hbA b5;obtain⟨d8,p0,p1,q0,q1⟩:=KP.out w3 h3;have hb3:w3.heap[N2]?=some (.cells #[.int .u64 0,.int .i64 0] 35 (0,0)):=(b5.block N2 (lt_of_block HBX.out)).trans HBX.out;obtain⟨m0,m1⟩:=bx2 hb3;have mlt:=lt_of_block hb3;have mfz:∀o,w3.frozen? ⟨N2,o,none⟩=false:=(fun o=>by simp[World.frozen?,hb3]))))
  all_goals go_wp2_with fail
  all_goals go_meet
  ·exact⟨w3.heap.size,rfl,h3.alloc h3.size _,heap_alloc_new w3 _,h3.size⟩
  ·exact⟨N2,rfl,(h3.setCell (le_of_eq HN2.out) _).setCell (le_of_eq HN2.out) _,set_at (set_at hb3 _) _,le_of_eq HN2.out⟩
 case rest=>
  obtain⟨T,rfl,bw,hT,lT⟩:=hcut;have XW:Aside (Below w.heap.size w wc):=belT X2K.out.2 bw;have hKw:wc.heap[K]?=some (.cells #[.int .u64 0,.int .i64 0] 35 (0,0)):=(bw.block K (lt_of_block X2K.out.1)).trans X2K.out.1;have BT:Bx wc F T #[.int .u64 z1,.int .i64 z2] 35:=⟨hT,fun p hp=>by have:=HC.out.1.fp.lt p T hp;have:=X2K.out.2.size;omega⟩;have BK:Bx wc F K #[.int .u64 0,.int .i64 0] 35:=⟨hKw,fun p hp=>by have:=HC.out.1.fp.lt p K hp;have:=HC.out.2.1;omega⟩;have Cc:=HC.out.1.below XW.out;have P:=tellC Cc HC.out.2.2.2 10 t z2 z1;obtain⟨t0,t1⟩:=bx2 hT;have tlt:=lt_of_block hT;have BB:Aside (Bx wc F T #[.int .u64 z1,.int .i64 z2] 35/\Bx wc F K #[.int .u64 0,.int .i64 0] 35):=⟨BT,BK⟩;clear bw hT lT hKw BT BK Cc c8 x0 xx1 y0 yy1 a8 a0 a1 a2 a3 hb0 hbA hN2
  go_wp2_with fail
  refine P.mono ?_;rintro e w4 ⟨rfl,⟨F4,g4,v4,C4,G4⟩,Q4⟩;clear P t0 t1 tlt;have B4:=BB.out.1.gc mq_ent G4;have K4:=BB.out.2.gc mq_ent G4;obtain⟨t0,t1⟩:=bx2 B4.1;have tlt:=lt_of_block B4.1;obtain⟨k0,k1⟩:=bx2 K4.1;have klt:=lt_of_block K4.1;have kfz:∀o,w4.frozen? ⟨K,o,none⟩=false:=(fun o=>by simp[World.frozen?,K4.1]);have E:Aside (((w4.setCell ⟨K,0,none⟩ (.int .u64 z1)).setCell ⟨K,1,none⟩ (.int .i64 z2)).heap[K]?=some (.cells #[.int .u64 z1,.int .i64 z2] 35 (0,0))):=set_at (set_at K4.1 _) _
  have FIN:Aside (Cox L D F w (tellS σ 10 t z2 z1) ((w4.setCell ⟨K,0,none⟩ (.int .u64 z1)).setCell ⟨K,1,none⟩ (.int .i64 z2))):=by
   have G:Gc L F w F4 w4:=(Gc.below F HC.out.1.lw XW.out).trans G4;have Q:Gq F w w4:=(Gq.below F XW.out).trans (Gc.below F HC.out.1.lw XW.out) Q4;have f:Ta.Fr (fun k=>k=K) w4 ((w4.setCell ⟨K,0,none⟩ (.int .u64 z1)).setCell ⟨K,1,none⟩ (.int .i64 z2)):=(Ta.Fr.setCell (fun k=>k=K) w4 K 0 (.int .u64 z1) rfl).trans (Ta.Fr.setCell (fun k=>k=K) _ K 1 (.int .i64 z2) rfl) (fun j hj=>.inl hj);obtain⟨C5,G5,_⟩:=HC.out.1.box C4 G Q rfl rfl rfl (le_of_eq HC.out.2.1) klt K4.2 f;exact⟨F4,g4,v4,C5,G5⟩
  clear C4 G4 Q4 B4 K4
  go_wp2_with fail
  have eb:=fun j=>cell_of_row _ _ j _ _ _ E.out;have q0:=eb 0;have q1:=eb 1;refine bodyPost_ret (v:=.tuple #[.agg #[.int .u64 z1,.int .i64 z2],.bool true]) (by simp[results,results80,go_sem,q0,q1]) rfl ⟨rfl,?_⟩;exact FIN.out
end
section
open Go.RowKit Go.Lib
def Rdy(T:List Ta.TR)(e:Qu.Ent):Prop:=∃(k:Nat)(x:Ta.TR),T[k]?=some x/\x.s=2/\e=(x.key,(k:Int)+1)
def QI(σ:CS):Prop:=∃sl ow sh,Qu.View σ.th σ.q sl ow sh/\(Qu.ids (Qu.allV σ.th sl ow sh)).Nodup/\∀e,e∈Qu.allV σ.th sl ow sh↔Rdy σ.T e
variable {σ σ':CS}{t:Nat}{e0:Qu.Ent}{x y:Ta.TR}{i:Nat}
theorem QI.new(th k n:Nat):QI (newS th k n):=by
 refine⟨_,_,_,Qu.View.new th,?_,fun e=>?_⟩
 ·simp[Qu.allV,Qu.ids,Qu.flatN_nil]
 ·constructor
  ·intro h;simp[Qu.allV] at h
  ·rintro⟨k,x,h,_⟩;simp[newS] at h
theorem QI.put(h:QI σ)(ht:t<σ.th)(hq:σ'.q=Qu.putQ σ.k σ.q t e0)(hth:σ'.th=σ.th)(hR:∀e,Rdy σ'.T e↔e=e0\/Rdy σ.T e)(hf:∀e,Rdy σ.T e->e.2≠e0.2):QI σ':=by
 obtain⟨sl,ow,sh,V,nd,al⟩:=h;obtain⟨sl',ow',sh',V',P⟩:=V.putAny (K:=σ.k) ht e0;refine⟨sl',ow',sh',by rw[hq,hth];exact V',?_,fun e=>?_⟩
 ·rw[hth];refine((P.map Prod.snd).nodup_iff).2 (List.nodup_cons.2 ⟨fun hm=>?_,nd⟩);obtain⟨e,he,h2⟩:=List.mem_map.1 hm;exact hf e ((al e).1 he) h2
 ·rw[hth,P.mem_iff,hR e,List.mem_cons,al e]
theorem mem_out{d:List Qu.Ent}{id:Int}{e:Qu.Ent}:e∈Qu.outL id d↔e∈d/\e.2≠id:=by
 unfold Qu.outL;rw[List.mem_filter];simp
theorem QI.take(h:QI σ){id:Int}(hq:σ'.q=Qu.takeQ σ.q σ.th id)(hth:σ'.th=σ.th)(hR:∀e,Rdy σ'.T e↔Rdy σ.T e/\e.2≠id):QI σ':=by
 obtain⟨sl,ow,sh,V,nd,al⟩:=h;obtain⟨_,sl',ow',sh',V',P⟩:=V.takeAny nd id;refine⟨sl',ow',sh',by rw[hq,hth];exact V',?_,fun e=>?_⟩
 ·rw[hth,P];exact nd.sublist ((List.filter_sublist ..).map Prod.snd)
 ·rw[hth,P,hR e,mem_out,al e]
theorem QI.same(h:QI σ)(hq:σ'.q=σ.q)(hth:σ'.th=σ.th)(hR:∀e,Rdy σ'.T e↔Rdy σ.T e):QI σ':=by
 obtain⟨sl,ow,sh,V,nd,al⟩:=h;exact⟨sl,ow,sh,by rw[hq,hth];exact V,by rw[hth];exact nd,fun e=>by rw[hth,hR e];exact al e⟩
theorem QI.look(h:QI σ){N:Nat}(ok:Qu.QOk σ.k σ.th N σ.q)(ht:t<σ.th)(dr:Nat)(hne:∃e,Rdy σ.T e)(tk:Int):∃x y z,Qu.relaxQ σ.q σ.th σ.k t dr=(x,true)/\Qu.unl (Qu.leastQ σ.q σ.th)=y/\(z=if y.1<=tk then y else x)/\Rdy σ.T z:=by
 obtain⟨sl,ow,sh,V,nd,al⟩:=h;obtain⟨e,he⟩:=hne;have hm:=(al e).2 he;have hn:Qu.allV σ.th sl ow sh≠[]:=fun h=>by rw[h] at hm;simp at hm
 rcases V.relaxed ok ht dr with⟨h,_⟩|⟨_,h2,h3,_⟩
 ·exact absurd h hn
 ·rcases V.least with⟨_,h⟩|⟨j,y,h4,h5⟩
  ·exact absurd h hn
  ·refine⟨_,y,_,Prod.ext rfl h2,by rw[h4];rfl,rfl,?_⟩
   split
   ·exact(al y).1 h5.1
   ·exact(al _).1 h3
theorem rdy_push{T:List Ta.TR}(hx:x.s=2)(e:Qu.Ent):Rdy (T++[x]) e↔e=(x.key,(T.length:Int)+1)\/Rdy T e:=by
 constructor
 ·rintro⟨k,y,h,hs,rfl⟩;by_cases c:k<T.length
  ·rw[List.getElem?_append_left c] at h;exact .inr ⟨k,y,h,hs,rfl⟩
  ·have:=(List.getElem?_eq_some_iff.1 h).1;simp at this;obtain rfl:k=T.length:=by omega
   rw[List.getElem?_append_right (le_refl _)] at h;simp at h;subst h;exact .inl rfl
 ·rintro(rfl|⟨k,y,h,hs,rfl⟩)
  ·exact⟨T.length,x,by simp,hx,rfl⟩
  ·have:=(List.getElem?_eq_some_iff.1 h).1;exact⟨k,y,by rw[List.getElem?_append_left this];exact h,hs,rfl⟩
theorem rdy_id{T:List Ta.TR}{e:Qu.Ent}(h:Rdy T e):1<=e.2/\e.2<=T.length:=by
 obtain⟨k,y,h,hs,rfl⟩:=h;have:=(List.getElem?_eq_some_iff.1 h).1;show 1<=(k:Int)+1/\(k:Int)+1<=T.length;omega
theorem rdy_out{T:List Ta.TR}(hi:T[i]?=some x)(hy:y.s≠2)(e:Qu.Ent):Rdy (T.set i y) e↔Rdy T e/\e.2≠(i:Int)+1:=by
 have hl:=(List.getElem?_eq_some_iff.1 hi).1;constructor
 ·rintro⟨k,z,h,hs,rfl⟩;by_cases c:i=k
  ·subst c;rw[List.getElem?_set_self hl] at h;injection h with h
   subst h;exact absurd hs hy
  ·rw[getElem?_set_ne c] at h;exact⟨⟨k,z,h,hs,rfl⟩,by show(k:Int)+1≠(i:Int)+1;omega⟩
 ·rintro⟨⟨k,z,h,hs,rfl⟩,hne⟩;have c:i≠k:=fun e=>hne (by rw[e]);exact⟨k,z,by rw[getElem?_set_ne c];exact h,hs,rfl⟩
theorem rdy_set{T:List Ta.TR}(hi:T[i]?=some x)(hx:x.s≠2)(hy:y.s≠2)(e:Qu.Ent):Rdy (T.set i y) e↔Rdy T e:=by
 rw[rdy_out hi hy];constructor
 ·exact fun h=>h.1
 ·rintro⟨k,z,h,hs,rfl⟩;refine⟨⟨k,z,h,hs,rfl⟩,fun e=>?_⟩;have e:(k:Int)+1=(i:Int)+1:=e;obtain rfl:k=i:=by omega
  rw[hi] at h;injection h with h
  exact hx (by rw[h];exact hs)
theorem sub_T(σ:CS)(t:Nat)(prio:Int):(subS σ t prio).T=σ.T++[{Ta.mkT prio 0 0 0 0 0 2 with key:=keyS σ (Ta.mkT prio 0 0 0 0 0 2)}]:=by
 show(σ.T++[_]).set σ.T.length _=_;rw[List.set_append_right _ _ (le_refl _)];simp
 rfl
theorem QI.sub(h:QI σ)(ht:t<σ.th)(prio:Int):QI (subS σ t prio):=by
 refine h.put (t:=t) (e0:=(keyS σ (Ta.mkT prio 0 0 0 0 0 2),(σ.T.length:Int)+1)) ht rfl rfl (fun e=>?_) (fun e he=>?_)
 ·rw[sub_T,rdy_push rfl]
 ·have:=rdy_id he;show e.2≠(σ.T.length:Int)+1;omega
theorem QI.hand(h:QI σ)(hi:σ.T[i]?=some x)(t:Nat):QI (handS (turnS σ i x 3) t i (turnX x 3)):=
 h.take (id:=(i:Int)+1) rfl rfl (fun e=>rdy_out hi (by rw[(turnX_key x 3).2.2.1];decide) e)
theorem done_nil{d:List Int}{id:Int}(h:DoneL (fun _ _=>False) id d):d=[]:=by
 cases d with
 | nil=>rfl
 | cons j d=>exact((h.2 j).1 (by simp)).1.elim
end
section
open Go.RowKit Go.Lib Go.WideMaps Go.Maps
variable {w w' u:World}{L i:Nat}{D:CAd}{F F':Nat->Nat->Prop}{g v:Value}{σ:CS}{x:Ta.TR}
def setS(σ:CS)(t:Nat):CS:={σ with q:=Qu.settleQ σ.k σ.q t,qn:=σ.qn+1}
theorem settleC(C:Co w L D F g v σ){t:Nat}(ht:t<σ.th)(hn:σ.qn<=1000) :
  Calls prog 79 #[pt D.B,.int .i64 t] w fun e w'=>e=.returned (.bool (σ.q.g t).f)/\Cox L D F w (setS σ t) w':=by
 have c4:=C.c4
 have P:Calls prog 111 #[pt D.A.B,.int .i64 t] w fun e w'=>e=.returned (.bool (σ.q.g t).f)/\Cox L D F w (setS σ t) w':=by
  refine(Qu.settle_in w L D.A σ.th σ.k σ.qn σ.q t (σ.q.g t).f C.que C.qok hn C.k16 ht rfl C.lw).mono ?_;rintro e w' ⟨rfl,h,s⟩;obtain⟨C',G'⟩:=C.setQue h s (Qu.settle_ok C.qok ht C.k16);exact⟨rfl,_,_,_,C',G'⟩
 obtain⟨B,hB⟩:∃B,(σ.q.g t).f=B:=⟨_,rfl⟩;rw[hB] at P⊢;clear C ht hn hB;go_enter func79,ntmps79
 go_wp2_with fail
 refine P.mono ?_;rintro e w1 ⟨rfl,X⟩;have FIN:Aside _:=X;clear P X c4
 go_wp2_with fail
 go_ret;exact⟨rfl,FIN.out⟩
theorem QI.settle(h:QI σ){t:Nat}(ht:t<σ.th):QI (setS σ t):=by
 obtain⟨sl,ow,sh,V,nd,al⟩:=h;obtain⟨sl',ow',sh',V',_,P⟩:=V.settle (K:=σ.k) ht;exact⟨sl',ow',sh',V',((P.map Prod.snd).nodup_iff).2 nd,fun e=>by rw[show(setS σ t).th=σ.th from rfl,P.mem_iff];exact al e⟩
theorem QI.none(h:QI σ){N:Nat}(ok:Qu.QOk σ.k σ.th N σ.q){t:Nat}(ht:t<σ.th)(dr:Nat)(hne:∀e,¬Rdy σ.T e):(Qu.relaxQ σ.q σ.th σ.k t dr).2=false:=by
 obtain⟨sl,ow,sh,V,nd,al⟩:=h;rcases V.relaxed ok ht dr with⟨_,h⟩|⟨h,_⟩
 ·exact h
 ·obtain⟨e,l,he⟩:=List.exists_cons_of_ne_nil h;exact absurd ((al e).1 (by rw[he];simp)) (hne e)
theorem lookN(C:Co w L D F g v σ){t dr:Nat}(ht:t<σ.th)(hdr:dr<18446744073709551616)(hn:σ.qn<=1000)(hx:(Qu.relaxQ σ.q σ.th σ.k t dr).2=false) :
  Calls prog 80 #[pt D.B,.int .i64 t,.int .u64 dr] w fun e w'=>e=.returned (.tuple #[.agg #[.int .u64 0,.int .i64 0],.bool false])/\Cox L D F w σ w':=by
 obtain⟨K,hK⟩:∃J,w.heap.size=J:=⟨_,rfl⟩;obtain⟨u,hu⟩:∃q,w.alloc (.cells #[.int .u64 0,.int .i64 0] 35)=q:=⟨_,rfl⟩;have b0:Below w.heap.size w u:=by rw[<-hu];exact belA _ _
 have hB:u.heap[K]?=some (.cells #[.int .u64 0,.int .i64 0] 35 (0,0)):=by rw[<-hu,<-hK];exact heap_alloc_new w _
 have C0:=C.below b0;have c4:=C0.c4;have P:=Qu.relaxed_in u L D.A σ.th σ.k σ.qn σ.q t dr C0.que C0.qok hn C0.k16 ht C0.th8 hdr;obtain⟨⟨x1,x2⟩,hx1⟩:∃x,(Qu.relaxQ σ.q σ.th σ.k t dr).1=x:=⟨_,rfl⟩;have hxx:Qu.relaxQ σ.q σ.th σ.k t dr=((x1,x2),false):=Prod.ext hx1 hx;rw[hxx] at P;have HC:Aside (Co w L D F g v σ/\w.heap.size=K/\Below w.heap.size w u):=⟨C,hK,b0⟩;have X0:Aside (u.heap[K]?=some (.cells #[.int .u64 0,.int .i64 0] 35 (0,0))):=hB;have HU:Aside _:=hu;clear C C0 hx hx1 hxx hu hB b0 hn;go_enter func80,ntmps80
 go_upto_region 1 with fail
 rw[HU.out]
 go_wp2_with fail
 refine Calls.mono P ?_;rintro e w1 ⟨rfl,b1⟩;clear P c4;obtain⟨u1,hu1⟩:∃q,w1.alloc (.cells #[.int .u64 x1,.int .i64 x2] 35)=q:=⟨_,rfl⟩;have b2:Below u.heap.size u u1:=by rw[<-hu1];exact belT b1 (belA _ _)
 have hk:u1.heap[K]?=some (.cells #[.int .u64 0,.int .i64 0] 35 (0,0)):=(b2.block K (lt_of_block X0.out)).trans X0.out;have klt:=lt_of_block hk;have kfz:∀o,u1.frozen? ⟨K,o,none⟩=false:=(fun o=>by simp[World.frozen?,hk]);obtain⟨k0,k1⟩:=bx2 hk;have E:Aside (((u1.setCell ⟨K,0,none⟩ (.int .u64 0)).setCell ⟨K,1,none⟩ (.int .i64 0)).heap[K]?=some (.cells #[.int .u64 0,.int .i64 0] 35 (0,0))):=set_at (set_at hk _) _;have FIN:Aside (Below w.heap.size w ((u1.setCell ⟨K,0,none⟩ (.int .u64 0)).setCell ⟨K,1,none⟩ (.int .i64 0))):=((belT HC.out.2.2 b2).setCell (le_of_eq HC.out.2.1) _).setCell (le_of_eq HC.out.2.1) _;have HU1:Aside _:=hu1;clear hu1 b1 b2 hk;go_upto_region 3 with fail
 rw[HU1.out]
 go_wp2_with fail
 have eb:=fun j=>cell_of_row _ _ j _ _ _ E.out;have q0:=eb 0;have q1:=eb 1;refine bodyPost_ret (v:=.tuple #[.agg #[.int .u64 0,.int .i64 0],.bool false]) (by simp[results,results80,go_sem,q0,q1]) rfl ⟨rfl,?_⟩;exact HC.out.1.xb FIN.out
end
section
open Go.RowKit Go.Lib Go.WideMaps Go.Maps
variable {w w' u:World}{L i:Nat}{D:CAd}{F F':Nat->Nat->Prop}{g v:Value}{σ:CS}{x:Ta.TR}
def stT(T:List Ta.TR)(id:Int):Int:=if 1<=id then(match T[(id-1).toNat]? with|some x=>x.s|none=>0) else 0
theorem stT_at{T:List Ta.TR}{i:Nat}{x:Ta.TR}(h:T[i]?=some x):stT T ((i:Int)+1)=x.s:=by
 unfold stT;rw[if_pos (by omega),show((i:Int)+1-1).toNat=i by omega,h]
theorem stT_no{T:List Ta.TR}{id:Int}(h:noT T id):stT T id=0:=by
 unfold stT;rcases h with h|h
 ·rw[if_neg (by omega)]
 ·rw[if_pos (by omega),List.getElem?_eq_none (by omega)]
theorem stT_cases(T:List Ta.TR)(id:Int):noT T id\/∃(i:Nat)(x:Ta.TR),id=(i:Int)+1/\T[i]?=some x:=by
 by_cases h:id<1\/(T.length:Int)<id
 ·exact .inl h
 ·refine .inr ⟨(id-1).toNat,T[(id-1).toNat]'(by omega),by omega,?_⟩;rw[List.getElem?_eq_getElem]
theorem statusA(C:Co w L D F g v σ)(id:Int) :
  Calls prog 9 #[pt D.B,.int .i64 id] w fun e w'=>e=.returned (.int .i64 (stT σ.T id))/\Cox L D F w σ w':=by
 rcases stT_cases σ.T id with h|⟨i,x,rfl,hi⟩
 ·rw[stT_no h];exact statusN C id h
 ·rw[stT_at hi];exact statusC C hi
end
section
open Go.RowKit Go.Lib Go.WideMaps Go.Maps
variable {w w' u:World}{L i:Nat}{D:CAd}{F F':Nat->Nat->Prop}{g v:Value}{σ:CS}{x:Ta.TR}
theorem Co.frX{X:Nat->Prop}(C:Co w L D F g v σ)(f:Ta.Fr X w w')(hX:∀k,X k->(∀p,¬F p k)/\NQ w k):Co w' L D F g v σ:=by
 have KK:K8 (fun q=>False) w' L D F g v σ:=C.keep (fun q=>False) f (fun q _ k hk hy=>(hX k hy).1 q hk) (fun _ k hk=>(hX k hk).2);exact⟨KK.head (by simp),KK.tab (by simp),KK.que (by simp),KK.whl (by simp),KK.dag (by simp),KK.cre (by simp),KK.evs (by simp),KK.gon (by simp),C.f0,C.f2,C.f5,C.f6,C.f7,C.f8,C.fp.grow f.size,le_trans C.lw f.size,le_trans C.wb f.size,C.qok,C.th1,C.th8,C.k16⟩
theorem Gc.ownX{w0:World}{F0:Nat->Nat->Prop}{X:Nat->Prop}(G:Gc L F0 w0 F w)(hX:∀k,X k->w0.heap.size<=k)(hL:L<=w0.heap.size)(f:Ta.Fr X w w'):Gc L F0 w0 F w':=
 ⟨⟨G.low.trans (f.toBelow (fun k hk=>le_trans hL (hX k hk)) (le_trans hL G.size)),fun k hk hF hU=>(f.block k (Nat.lt_of_lt_of_le hk G.size) (fun e=>by have:=hX k e;omega)).trans (G.block k hk hF hU),G.new⟩,fun k cs fr hk=>by
  obtain⟨cs',h1,e1⟩:=G.hd k cs fr hk;exact⟨cs',(f.block k (lt_of_block h1) (fun e=>by have:=hX k e;have:=lt_of_block hk;omega)).trans h1,e1⟩⟩
def Owb(S:Nat)(w:World)(F:Nat->Nat->Prop)(v:Value)(d:List Int):Prop:=Da.OwnI w S v d/\∀k,v.ownBlock=some k->∀p,¬F p k
theorem Owb.ow{S:Nat}{v:Value}{d:List Int}(h:Owb S w F v d):Ow w F v d:=⟨h.1.low (Nat.zero_le _),h.2⟩
theorem Owb.gc{S:Nat}{v:Value}{d:List Int}(h:Owb S w F v d)(G:Gc L F w F' w'):Owb S w' F' v d:=by
 have q:=h.ow.gc G;refine⟨h.1.of_block fun k hk=>?_,q.2⟩;obtain⟨cs,hc⟩:=h.1.rowT hk;exact((show Bx w F k cs 3 from⟨hc,h.2 k hk⟩).gc mq_int G).1.trans hc.symm
theorem Owb.nil(S:Nat)(w:World)(F:Nat->Nat->Prop):Owb S w F (.slice none 0 0) []:=⟨Da.OwnI.nil _ _,fun k hk=>by cases hk⟩
theorem Owb.push{S:Nat}{w0:World}{F0:Nat->Nat->Prop}{v v0:Value}{d:List Int}(o:Owb S w F v d)(C:Co w L D F g v0 σ)(G:Gc L F0 w0 F w)(hS:w0.heap.size<=S)(hS2:S<=w.heap.size)(hL:L<=w0.heap.size)(x:Int)(hd:d.length<1000000) :
  ∃v' w',(Builtin.append_ #[49,49] 49 #[v,.slice (some ⟨w.heap.size,0,none⟩) 1 1]).run prog (w.alloc (.cells #[.int .i64 x] 3))=.ok v' w'/\
  Owb S w' F v' (d++[x])/\Co w' L D F g v0 σ/\Gc L F0 w0 F w'/\Ta.Fr (fun k=>v.ownBlock=some k) w w'/\(∀k,v'.ownBlock=some k->v.ownBlock=some k\/w.heap.size<=k):=by
 obtain⟨v',w',hr,o',f,hn⟩:=o.1.push x hd hS2;have f':Ta.Fr (fun k=>v.ownBlock=some k) w w':=ofD f;refine⟨v',w',hr,⟨o',fun k hk p hp=>?_⟩,C.frX f' (fun k hk=>⟨o.2 k hk,?_⟩),G.ownX (fun k hk=>le_trans hS (o.1.rowLt hk).1) hL f',f',hn⟩
 ·rcases hn k hk with e|e
  ·exact o.2 k e p hp
  ·have:=C.fp.lt p k hp;omega
 ·obtain⟨cs,hc⟩:=o.1.rowT hk;exact nq_of hc (by unfold QT;decide)
end
section
open Go.RowKit Go.Lib Go.WideMaps Go.Maps
variable {w w' u w0:World}{L i:Nat}{D:CAd}{F F' F0:Nat->Nat->Prop}{g v:Value}{σ:CS}{x:Ta.TR}
structure WR where
 ph:Int
 key:Int
 id:Int
 pc:Int
 bad:Bool
abbrev wkA(x:WR):Array Value:=#[.int .i64 x.ph,.int .u64 x.key,.int .i64 x.id,.int .i64 x.pc,.bool x.bad]
abbrev wkV(x:WR):Value:=.agg #[.int .i64 x.ph,.int .u64 x.key,.int .i64 x.id,.int .i64 x.pc,.bool x.bad]
def wk0:WR:=⟨0,0,0,0,false⟩
theorem mq_wk:¬Qu.MQ 40:=by unfold Qu.MQ;decide
theorem qt_wk:¬QT 40:=by unfold QT;decide
def set5(w:World)(K:Nat)(a0 a1 a2 a3 a4:Value):World:=((((w.setCell ⟨K,0,none⟩ a0).setCell ⟨K,1,none⟩ a1).setCell ⟨K,2,none⟩ a2).setCell ⟨K,3,none⟩ a3).setCell ⟨K,4,none⟩ a4
theorem set5_fr(w:World)(K:Nat)(a0 a1 a2 a3 a4:Value):Ta.Fr (fun k=>k=K) w (set5 w K a0 a1 a2 a3 a4):=by
 have q:∀(v:World)(j:Nat)(a:Value),Ta.Fr (fun k=>k=K) v (v.setCell ⟨K,j,none⟩ a):=fun v j a=>Ta.Fr.setCell (fun k=>k=K) v K j a rfl;exact(((((q w 0 a0).trans (q _ 1 a1) (fun j hj=>.inl hj)).trans (q _ 2 a2) (fun j hj=>.inl hj)).trans (q _ 3 a3) (fun j hj=>.inl hj)).trans (q _ 4 a4) (fun j hj=>.inl hj))
theorem set5_at{w:World}{K:Nat}{b0 b1 b2 b3 b4:Value}{U:TypeId}(h:w.heap[K]?=some (.cells #[b0,b1,b2,b3,b4] U (0,0)))(a0 a1 a2 a3 a4:Value):(set5 w K a0 a1 a2 a3 a4).heap[K]?=some (.cells #[a0,a1,a2,a3,a4] U (0,0)):=by
 unfold set5;rw[set_at (set_at (set_at (set_at (set_at h a0) a1) a2) a3) a4]
 rfl
theorem bx5{w:World}{K:Nat}{a0 a1 a2 a3 a4:Value}{U:TypeId}(h:w.heap[K]?=some (.cells #[a0,a1,a2,a3,a4] U (0,0))):w.cell? ⟨K,0,none⟩=some a0/\w.cell? ⟨K,1,none⟩=some a1/\w.cell? ⟨K,2,none⟩=some a2/\w.cell? ⟨K,3,none⟩=some a3/\w.cell? ⟨K,4,none⟩=some a4:=
 ⟨by rw[cell_of_row _ _ _ _ _ _ h];rfl,by rw[cell_of_row _ _ _ _ _ _ h];rfl,by rw[cell_of_row _ _ _ _ _ _ h];rfl,by rw[cell_of_row _ _ _ _ _ _ h];rfl,by rw[cell_of_row _ _ _ _ _ _ h];rfl⟩
theorem Co.own(C:Co w L D F g v σ){X:Nat->Prop}(G:Gc L F0 w0 F w)(hX:∀k,X k->w0.heap.size<=k/\(∀p,¬F p k)/\NQ w k)(hL:L<=w0.heap.size)(f:Ta.Fr X w w'):Cox L D F0 w0 σ w':=
 ⟨F,g,v,C.frX f (fun k hk=>(hX k hk).2),G.ownX (fun k hk=>(hX k hk).1) hL f⟩
theorem fldConf(a b c:Int)(w:World):(Instr.field 28 (.agg #[.int .i64 a,.int .i64 b,.int .i64 c]) 0).run prog w=.ok (.int .i64 a) w:=by
 simp[Instr.field,asAgg,part,isAgg,run_underlying underlying28,run_underlying underlying3,go_sem]
theorem confC(C:Co w L D F g v σ) :
  Calls prog 53 #[pt D.B] w fun e w'=>e=.returned (.agg #[.int .i64 σ.th,.int .i64 σ.k,.int .i64 σ.n])/\Below w.heap.size w w':=by
 obtain⟨K,hK⟩:∃J,w.heap.size=J:=⟨_,rfl⟩;obtain⟨u,hu⟩:∃q,w.alloc (.cells #[.int .i64 0,.int .i64 0,.int .i64 0] 28)=q:=⟨_,rfl⟩;have b0:Below w.heap.size w u:=by rw[<-hu];exact belA _ _
 have hk:u.heap[K]?=some (.cells #[.int .i64 0,.int .i64 0,.int .i64 0] 28 (0,0)):=by rw[<-hu,<-hK];exact heap_alloc_new w _
 have C0:=C.below b0;have c0:=C0.c0;have c1:=C0.c1;have c2:=C0.c2;have klt:=lt_of_block hk;have blt:=lt_of_block C0.head;have kfz:∀o,u.frozen? ⟨K,o,none⟩=false:=(fun o=>by simp[World.frozen?,hk]);have k0:u.cell? ⟨K,0,none⟩=some (.int .i64 0):=by rw[cell_of_row _ _ _ _ _ _ hk];rfl
 have k1:u.cell? ⟨K,1,none⟩=some (.int .i64 0):=by rw[cell_of_row _ _ _ _ _ _ hk];rfl
 have k2:u.cell? ⟨K,2,none⟩=some (.int .i64 0):=by rw[cell_of_row _ _ _ _ _ _ hk];rfl
 have E:Aside ((((u.setCell ⟨K,0,none⟩ (.int .i64 σ.th)).setCell ⟨K,1,none⟩ (.int .i64 σ.k)).setCell ⟨K,2,none⟩ (.int .i64 σ.n)).heap[K]?=some (.cells #[.int .i64 σ.th,.int .i64 σ.k,.int .i64 σ.n] 28 (0,0))):=set_at (set_at (set_at hk _) _) _;have FIN:Aside (Below w.heap.size w (((u.setCell ⟨K,0,none⟩ (.int .i64 σ.th)).setCell ⟨K,1,none⟩ (.int .i64 σ.k)).setCell ⟨K,2,none⟩ (.int .i64 σ.n))):=((b0.setCell (le_of_eq hK) _).setCell (le_of_eq hK) _).setCell (le_of_eq hK) _;have HU:Aside _:=hu;have HK:Aside _:=hK;clear C C0 hu b0 hk hK;go_enter func53,ntmps53
 go_upto_region 1 with fail
 rw[HU.out];try simp only[HK.out]
 go_wp2_with fail
 have eb:=fun j=>cell_of_row _ _ j _ _ _ E.out;have q0:=eb 0;have q1:=eb 1;have q2:=eb 2;refine bodyPost_ret (v:=.agg #[.int .i64 σ.th,.int .i64 σ.k,.int .i64 σ.n]) (by simp[results,results53,go_sem,q0,q1,q2]) rfl ⟨rfl,?_⟩;exact FIN.out
theorem wHasC(C:Co w L D F g v σ){t:Nat}(ht:t<σ.th) :
  Calls prog 25 #[pt D.B,.int .i64 t] w fun e w'=>e=.returned (.bool true)/\Below w.heap.size w w':=by
 have P:=confC C;have h1:(t:Int)<(σ.th:Int):=by omega
 have h0:(t:Int)>=0:=by omega
 have ff:=fun W=>fldConf σ.th σ.k σ.n W;clear C ht;go_enter func25,ntmps25
 go_wp2_with fail
 refine P.mono ?_;rintro e w1 ⟨rfl,b⟩;have FIN:Aside _:=b;have ff:=ff w1;clear P b
 go_wp2_with fail
 go_ret;exact⟨rfl,FIN.out⟩
end
section
open Go.RowKit Go.Lib Go.WideMaps Go.Maps
variable {w w' u w0:World}{L i:Nat}{D:CAd}{F F' F0:Nat->Nat->Prop}{g v:Value}{σ:CS}{x:Ta.TR}
structure WB(w u:World)(F:Nat->Nat->Prop)(K:Nat)(x z:WR):Prop where
 a:Bx u F K (wkA x) 40
 b:Bx u F (K+1) (wkA z) 40
theorem WB.new(C:Co w L D F g v σ)(x:WR){K:Nat}(hK:w.heap.size=K):WB w ((w.alloc (.cells (wkA x) 40)).alloc (.cells (wkA wk0) 40)) F K x wk0:=by
 refine⟨(hK▸Bx.new C (wkA x) 40).below (belA _ _),?_⟩;have h:=Bx.new (C.below (belA w (.cells (wkA x) 40))) (wkA wk0) 40;rw[show(w.alloc (.cells (wkA x) 40)).heap.size=K+1 by simp[hK]] at h;exact h
theorem WB.gc{x z:WR}{K:Nat}(h:WB w u F K x z)(G:Gc L F u F' w'):WB w w' F' K x z:=⟨h.a.gc mq_wk G,h.b.gc mq_wk G⟩
theorem WB.bel{x z:WR}{K:Nat}(h:WB w u F K x z)(b:Below u.heap.size u w'):WB w w' F K x z:=⟨h.a.below b,h.b.below b⟩
theorem WB.fin{x z y:WR}{K:Nat}{U:World}{F2:Nat->Nat->Prop}{g2 v2:Value}{τ:CS}(h:WB w U F2 K x z)(C:Co U L D F2 g2 v2 τ)(G:Gc L F w F2 U)(hK:w.heap.size=K)(hL:L<=w.heap.size) :
  (set5 U (K+1) (.int .i64 y.ph) (.int .u64 y.key) (.int .i64 y.id) (.int .i64 y.pc) (.bool y.bad)).heap[K+1]?=some (.cells (wkA y) 40 (0,0))/\Cox L D F w τ (set5 U (K+1) (.int .i64 y.ph) (.int .u64 y.key) (.int .i64 y.id) (.int .i64 y.pc) (.bool y.bad)):=by
 refine⟨set5_at h.b.1 _ _ _ _ _,C.own G (fun k hk=>?_) hL (set5_fr _ _ _ _ _ _ _)⟩;subst hk;exact⟨by omega,h.b.2,nq_of h.b.1 qt_wk⟩
theorem seekS(C:Co w L D F g v σ)(x:WR){t:Nat}(ht:t<σ.th)(hn:σ.qn<=1000)(hf:(σ.q.g t).f=true)(dr:Int) :
  Calls prog 54 #[pt D.B,wkV x,.int .i64 t,.int .u64 dr] w fun e w'=>e=.returned (.tuple #[wkV x,.int .i64 2])/\Cox L D F w (setS σ t) w':=by
 obtain⟨K,hK⟩:∃J,w.heap.size=J:=⟨_,rfl⟩;have W0:=WB.new C x hK;obtain⟨u,hu⟩:∃q,(w.alloc (.cells (wkA x) 40)).alloc (.cells (wkA wk0) 40)=q:=⟨_,rfl⟩;have b0:Below w.heap.size w u:=by rw[<-hu];exact belT (belA _ _) (belA _ _)
 rw[hu] at W0;have P:=settleC (C.below b0) ht hn;rw[hf] at P;have HC:Aside (Gc L F w F u/\w.heap.size=K/\L<=w.heap.size/\WB w u F K x wk0):=⟨Gc.below F C.lw b0,hK,C.lw,W0⟩;obtain⟨x0,x1,x2,x3,x4⟩:=x;have HU:Aside _:=hu;clear C W0 hu b0 hn hf ht;go_enter func54,ntmps54
 go_upto_region 1 with fail
 rw[show(w.alloc (.cells #[.int .i64 x0,.int .u64 x1,.int .i64 x2,.int .i64 x3,.bool x4] 40)).alloc (.cells #[.int .i64 0,.int .u64 0,.int .i64 0,.int .i64 0,.bool false] 40)=u from HU.out];try simp only[hK]
 go_wp2_with fail
 refine P.mono ?_;rintro e w1 ⟨rfl,F1,g1,v1,C1,G1⟩;have W1:=HC.out.2.2.2.gc G1;obtain⟨a0,a1,a2,a3,a4⟩:=bx5 W1.a.1;obtain⟨b0,b1,b2,b3,b4⟩:=bx5 W1.b.1;have alt:=lt_of_block W1.a.1;have blt:=lt_of_block W1.b.1;have bfz:∀o,w1.frozen? ⟨K+1,o,none⟩=false:=(fun o=>by simp[World.frozen?,W1.b.1]);have FF:=W1.fin (y:=⟨x0,x1,x2,x3,x4⟩) C1 (HC.out.1.trans G1) hK HC.out.2.2.1;have E:Aside _:=FF.1;have FIN:Aside _:=FF.2;clear P C1 G1 W1 FF
 go_wp2_with fail
 have eb:=fun j=>cell_of_row _ _ j _ _ _ E.out;have q0:=eb 0;have q1:=eb 1;have q2:=eb 2;have q3:=eb 3;have q4:=eb 4;unfold set5 at q0 q1 q2 q3 q4;refine bodyPost_ret (v:=.tuple #[.agg #[.int .i64 x0,.int .u64 x1,.int .i64 x2,.int .i64 x3,.bool x4],.int .i64 2]) (by simp[results,results54,go_sem,q0,q1,q2,q3,q4]) rfl ⟨rfl,?_⟩;exact FIN.out
theorem seekN(C:Co w L D F g v σ)(x:WR){t:Nat}(ht:t<σ.th)(hn:σ.qn<=1000)(hf:(σ.q.g t).f=false)(dr k d:Int){σ':CS}(PL:∀w1 F1 g1 v1,Co w1 L D F1 g1 v1 (setS σ t)->Calls prog 80 #[pt D.B,.int .i64 t,.int .u64 dr] w1 fun e w'=>e=.returned (.tuple #[.agg #[.int .u64 k,.int .i64 d],.bool false])/\Cox L D F1 w1 σ' w') :
  Calls prog 54 #[pt D.B,wkV x,.int .i64 t,.int .u64 dr] w fun e w'=>e=.returned (.tuple #[wkV x,.int .i64 0])/\Cox L D F w σ' w':=by
 obtain⟨K,hK⟩:∃J,w.heap.size=J:=⟨_,rfl⟩;have W0:=WB.new C x hK;obtain⟨u,hu⟩:∃q,(w.alloc (.cells (wkA x) 40)).alloc (.cells (wkA wk0) 40)=q:=⟨_,rfl⟩;have b0:Below w.heap.size w u:=by rw[<-hu];exact belT (belA _ _) (belA _ _)
 rw[hu] at W0;have P:=settleC (C.below b0) ht hn;rw[hf] at P;have HC:Aside (Gc L F w F u/\w.heap.size=K/\L<=w.heap.size/\WB w u F K x wk0):=⟨Gc.below F C.lw b0,hK,C.lw,W0⟩;have HP:Aside _:=PL;obtain⟨x0,x1,x2,x3,x4⟩:=x;have HU:Aside _:=hu;clear C W0 hu b0 hn hf ht PL;go_enter func54,ntmps54
 go_upto_region 1 with fail
 rw[show(w.alloc (.cells #[.int .i64 x0,.int .u64 x1,.int .i64 x2,.int .i64 x3,.bool x4] 40)).alloc (.cells #[.int .i64 0,.int .u64 0,.int .i64 0,.int .i64 0,.bool false] 40)=u from HU.out];try simp only[hK]
 go_wp2_with fail
 refine P.mono ?_;rintro e w1 ⟨rfl,F1,g1,v1,C1,G1⟩;have W1:=HC.out.2.2.2.gc G1;have X1:Aside (Gc L F w F1 w1/\WB w w1 F1 K ⟨x0,x1,x2,x3,x4⟩ wk0):=⟨HC.out.1.trans G1,W1⟩;have P:=HP.out w1 F1 g1 v1 C1;clear C1 G1 W1
 go_wp2_with fail
 refine P.mono ?_;rintro e w2 ⟨rfl,F2,g2,v2,C2,G2⟩;obtain⟨J,hJ⟩:∃J,w2.heap.size=J:=⟨_,rfl⟩;obtain⟨u2,hu2⟩:∃q,w2.alloc (.cells #[.int .u64 k,.int .i64 d] 35)=q:=⟨_,rfl⟩;have b2:Below w2.heap.size w2 u2:=by rw[<-hu2];exact belA _ _
 have BJ:Bx u2 F2 J #[.int .u64 k,.int .i64 d] 35:=by rw[<-hu2,<-hJ];exact Bx.new C2 _ _
 have W2:=(X1.out.2.gc G2).bel b2;have C3:=C2.below b2;have G3:Gc L F w F2 u2:=(X1.out.1.trans G2).trans (Gc.below F2 C2.lw b2);obtain⟨a0,a1,a2,a3,a4⟩:=bx5 W2.a.1;obtain⟨b0,b1,b2',b3,b4⟩:=bx5 W2.b.1;have alt:=lt_of_block W2.a.1;have blt:=lt_of_block W2.b.1;have bfz:∀o,u2.frozen? ⟨K+1,o,none⟩=false:=(fun o=>by simp[World.frozen?,W2.b.1]);have FF:=W2.fin (y:=⟨x0,x1,x2,x3,x4⟩) C3 G3 hK HC.out.2.2.1;have E:Aside _:=FF.1;have FIN:Aside _:=FF.2;have HU2:Aside _:=hu2;have HJ:Aside _:=hJ;clear P C2 G2 W2 C3 G3 FF BJ hu2 hJ b2;go_upto_region 4 with fail
 rw[HU2.out];try simp only[HJ.out]
 go_wp2_with fail
 have eb:=fun j=>cell_of_row _ _ j _ _ _ E.out;have q0:=eb 0;have q1:=eb 1;have q2:=eb 2;have q3:=eb 3;have q4:=eb 4;unfold set5 at q0 q1 q2 q3 q4;refine bodyPost_ret (v:=.tuple #[.agg #[.int .i64 x0,.int .u64 x1,.int .i64 x2,.int .i64 x3,.bool x4],.int .i64 0]) (by simp[results,results54,go_sem,q0,q1,q2,q3,q4]) rfl ⟨rfl,?_⟩;exact FIN.out
end
section
open Go.RowKit Go.Lib Go.WideMaps Go.Maps
variable {w w' u w0:World}{L i:Nat}{D:CAd}{F F' F0:Nat->Nat->Prop}{g v:Value}{σ:CS}{x:Ta.TR}
theorem seekL(C:Co w L D F g v σ)(x:WR){t:Nat}(ht:t<σ.th)(hn:σ.qn<=1000)(hf:(σ.q.g t).f=false)(dr k d:Int){σ':CS}(PL:∀w1 F1 g1 v1,Co w1 L D F1 g1 v1 (setS σ t)->Calls prog 80 #[pt D.B,.int .i64 t,.int .u64 dr] w1 fun e w'=>e=.returned (.tuple #[.agg #[.int .u64 k,.int .i64 d],.bool true])/\Cox L D F1 w1 σ' w') :
  Calls prog 54 #[pt D.B,wkV x,.int .i64 t,.int .u64 dr] w fun e w'=>e=.returned (.tuple #[wkV ⟨x.ph,k,d,x.pc,x.bad⟩,.int .i64 1])/\Cox L D F w σ' w':=by
 obtain⟨K,hK⟩:∃J,w.heap.size=J:=⟨_,rfl⟩;have W0:=WB.new C x hK;obtain⟨u,hu⟩:∃q,(w.alloc (.cells (wkA x) 40)).alloc (.cells (wkA wk0) 40)=q:=⟨_,rfl⟩;have b0:Below w.heap.size w u:=by rw[<-hu];exact belT (belA _ _) (belA _ _)
 rw[hu] at W0;have P:=settleC (C.below b0) ht hn;rw[hf] at P;have HC:Aside (Gc L F w F u/\w.heap.size=K/\L<=w.heap.size/\WB w u F K x wk0):=⟨Gc.below F C.lw b0,hK,C.lw,W0⟩;have HP:Aside _:=PL;obtain⟨x0,x1,x2,x3,x4⟩:=x;have HU:Aside _:=hu;clear C W0 hu b0 hn hf ht PL;go_enter func54,ntmps54
 go_upto_region 1 with fail
 rw[show(w.alloc (.cells #[.int .i64 x0,.int .u64 x1,.int .i64 x2,.int .i64 x3,.bool x4] 40)).alloc (.cells #[.int .i64 0,.int .u64 0,.int .i64 0,.int .i64 0,.bool false] 40)=u from HU.out];try simp only[hK]
 go_wp2_with fail
 refine P.mono ?_;rintro e w1 ⟨rfl,F1,g1,v1,C1,G1⟩;have W1:=HC.out.2.2.2.gc G1;have X1:Aside (Gc L F w F1 w1/\WB w w1 F1 K ⟨x0,x1,x2,x3,x4⟩ wk0):=⟨HC.out.1.trans G1,W1⟩;have P:=HP.out w1 F1 g1 v1 C1;clear C1 G1 W1
 go_wp2_with fail
 refine P.mono ?_;rintro e w2 ⟨rfl,F2,g2,v2,C2,G2⟩;obtain⟨J,hJ⟩:∃J,w2.heap.size=J:=⟨_,rfl⟩;obtain⟨u2,hu2⟩:∃q,w2.alloc (.cells #[.int .u64 k,.int .i64 d] 35)=q:=⟨_,rfl⟩;have b2:Below w2.heap.size w2 u2:=by rw[<-hu2];exact belA _ _
 have BJ:Bx u2 F2 J #[.int .u64 k,.int .i64 d] 35:=by rw[<-hu2,<-hJ];exact Bx.new C2 _ _
 have W2:=(X1.out.2.gc G2).bel b2;have C3:=C2.below b2;have G3:Gc L F w F2 u2:=(X1.out.1.trans G2).trans (Gc.below F2 C2.lw b2);obtain⟨a0,a1,a2,a3,a4⟩:=bx5 W2.a.1;obtain⟨b0,b1,b2',b3,b4⟩:=bx5 W2.b.1;have alt:=lt_of_block W2.a.1;have blt:=lt_of_block W2.b.1;have bfz:∀o,u2.frozen? ⟨K+1,o,none⟩=false:=(fun o=>by simp[World.frozen?,W2.b.1]);have afz:∀o,u2.frozen? ⟨K,o,none⟩=false:=(fun o=>by simp[World.frozen?,W2.a.1]);obtain⟨j0,j1⟩:=bx2 BJ.1;have jlt:=lt_of_block BJ.1
 -- the entry is laid into the worker
 obtain⟨u3,hu3⟩:∃q,(u2.setCell ⟨K,1,none⟩ (.int .u64 k)).setCell ⟨K,2,none⟩ (.int .i64 d)=q:=⟨_,rfl⟩;have hA3:u3.heap[K]?=some (.cells #[.int .i64 x0,.int .u64 k,.int .i64 d,.int .i64 x3,.bool x4] 40 (0,0)):=by rw[<-hu3];exact set_at (set_at W2.a.1 _) _
 have f3:Ta.Fr (fun j=>j=K) u2 u3:=by
  rw[<-hu3];exact(Ta.Fr.setCell (fun j=>j=K) u2 K 1 (.int .u64 k) rfl).trans (Ta.Fr.setCell (fun j=>j=K) _ K 2 (.int .i64 d) rfl) (fun j hj=>.inl hj)
 have hB3:u3.heap[K+1]?=some (.cells (wkA wk0) 40 (0,0)):=(f3.block (K+1) blt (by omega)).trans W2.b.1;have f5:Ta.Fr (fun j=>j=K\/j=K+1) u2 (set5 u3 (K+1) (.int .i64 x0) (.int .u64 k) (.int .i64 d) (.int .i64 x3) (.bool x4)):=(f3.mono (fun j hj=>.inl hj)).trans (set5_fr u3 (K+1) _ _ _ _ _) (fun j hj=>.inl (.inr hj));have E:Aside ((set5 u3 (K+1) (.int .i64 x0) (.int .u64 k) (.int .i64 d) (.int .i64 x3) (.bool x4)).heap[K+1]?=some (.cells #[.int .i64 x0,.int .u64 k,.int .i64 d,.int .i64 x3,.bool x4] 40 (0,0))):=set5_at hB3 _ _ _ _ _
 have FIN:Aside (Cox L D F w σ' (set5 u3 (K+1) (.int .i64 x0) (.int .u64 k) (.int .i64 d) (.int .i64 x3) (.bool x4))):=C3.own G3 (fun j hj=>by
  rcases hj with rfl|rfl
  ·exact⟨by omega,W2.a.2,nq_of W2.a.1 qt_wk⟩
  ·exact⟨by omega,W2.b.2,nq_of W2.b.1 qt_wk⟩) HC.out.2.2.1 f5
 obtain⟨d0,d1,d2,d3,d4⟩:=bx5 hA3;obtain⟨e0,e1,e2,e3,e4⟩:=bx5 hB3;have dlt:=lt_of_block hA3;have elt:=lt_of_block hB3;have efz:∀o,u3.frozen? ⟨K+1,o,none⟩=false:=(fun o=>by simp[World.frozen?,hB3]);have HU2:Aside _:=hu2;have HJ:Aside _:=hJ;have HU3:Aside _:=hu3;clear P C2 G2 W2 C3 G3 BJ hu2 hJ hu3 b2 hA3 hB3 f3 f5;go_upto_region 4 with fail
 rw[HU2.out];try simp only[HJ.out]
 go_upto_region 7 with fail
 rw[HU3.out]
 go_wp2_with fail
 have eb:=fun j=>cell_of_row _ _ j _ _ _ E.out;have q0:=eb 0;have q1:=eb 1;have q2:=eb 2;have q3:=eb 3;have q4:=eb 4;unfold set5 at q0 q1 q2 q3 q4;refine bodyPost_ret (v:=.tuple #[.agg #[.int .i64 x0,.int .u64 k,.int .i64 d,.int .i64 x3,.bool x4],.int .i64 1]) (by simp[results,results54,go_sem,q0,q1,q2,q3,q4]) rfl ⟨rfl,?_⟩;exact FIN.out
end
section
open Go.RowKit Go.Lib Go.WideMaps Go.Maps
variable {w w' u:World}{L i:Nat}{D:CAd}{F F':Nat->Nat->Prop}{g v:Value}{σ:CS}{x:Ta.TR}
def timS(σ:CS)(T0:Ta.TR)(d:Nat):CS:={mkS (crS σ) T0 with tm:=Wl.addT σ.tm ((σ.T.length:Int)+1) d}
theorem wfI_small{n:Int}(h:0<=n)(h':n<=1000):Wl.wfI n:=by
 show Lit.wf (.int .i64 n)=true;simp only[Lit.wf,IntKind.min,IntKind.max,IntKind.signed,IntKind.bits,decide_eq_true_eq,Bool.and_eq_true];constructor<;>simp<;>omega
theorem timedW(C:Co w L D F g v σ)(t:Int)(hl:σ.T.length<200)(ho:σ.o<σ.n)(he:σ.ev.length<1000000)(prio f p rr R m dl:Int)(d:Nat)(hd:d<Wl.B64)(h0:0<=prio)(h7:prio<=7)(hj:JbOk f p d rr R)(hdl:dl≠0) :
  Calls prog 179 #[pt D.B,.int .i64 t,.int .i64 prio,.slice none 0 0,.agg #[.int .u64 f,.int .u64 p,.int .u64 (d:Int),.int .u64 rr,.int .u64 m],.int .u64 dl] w fun e w'=>e=.returned (.tuple #[.int .i64 ((σ.T.length:Int)+1),.int .i64 0])/\Cox L D F w (timS σ (Ta.mkT prio f p d R m 1) d) w':=by
 obtain⟨K,hK⟩:∃J,w.heap.size=J:=⟨_,rfl⟩;obtain⟨e,hE⟩:∃e:Int,(d:Int)=e:=⟨_,rfl⟩;obtain⟨u,hu⟩:∃z,w.alloc (.cells #[.int .u64 f,.int .u64 p,.int .u64 e,.int .u64 rr,.int .u64 m] 61)=z:=⟨_,rfl⟩;have b0:Below w.heap.size w u:=by rw[<-hu];exact belA _ _
 have BK:Bx u F K #[.int .u64 f,.int .u64 p,.int .u64 e,.int .u64 rr,.int .u64 m] 61:=by rw[<-hu,<-hK];exact Bx.new C _ _
 have C0:=C.below b0;have c7:u.cell? ⟨D.B,7,none⟩=some (pt D.ca):=C0.c7;have P1:=C0.credC ho;obtain⟨N1,hN1⟩:∃N1,(σ.T.length:Int)+1=N1:=⟨_,rfl⟩;have HN1:Aside _:=hN1;have hz:(dl==0)=false:=by simpa using hdl
 have HH:Aside (σ.T.length<200/\σ.ev.length<1000000/\0<=prio/\prio<=7/\JbOk f p e rr R/\d<Wl.B64/\(d:Int)=e):=⟨hl,he,h0,h7,hE▸hj,hd,hE⟩;have X0:Aside (Gc L F w F u/\Bx u F K #[.int .u64 f,.int .u64 p,.int .u64 e,.int .u64 rr,.int .u64 m] 61):=⟨Gc.below F C.lw b0,BK⟩;have HU:Aside _:=hu;have HK:Aside _:=hK;rw[hN1,hE];clear C C0 hu hK b0 ho BK hl he h0 h7 hj hd hE hN1 hdl;go_enter func179,ntmps179
 go_upto_region 1 with fail
 rw[HU.out];try simp only[HK.out]
 go_wp2_with fail
 refine P1.mono ?_;rintro e1 w1 ⟨rfl,F1,g1,v1,C1,G1⟩;have B1:=X0.out.2.gc mq_job G1;have X1:Aside (Gc L F w F1 w1/\Bx w1 F1 K #[.int .u64 f,.int .u64 p,.int .u64 e,.int .u64 rr,.int .u64 m] 61):=⟨X0.out.1.trans G1,B1⟩;have k0:w1.cell? ⟨K,0,none⟩=some (.int .u64 f):=B1.cell 0;have k1:w1.cell? ⟨K,1,none⟩=some (.int .u64 p):=B1.cell 1;have k2:w1.cell? ⟨K,2,none⟩=some (.int .u64 e):=B1.cell 2;have k3:w1.cell? ⟨K,3,none⟩=some (.int .u64 rr):=B1.cell 3;have k4:w1.cell? ⟨K,4,none⟩=some (.int .u64 m):=B1.cell 4;have P2:=begin1 C1 t HH.out.1 HH.out.2.1 prio f p e rr R m HH.out.2.2.1 HH.out.2.2.2.1 HH.out.2.2.2.2.1;rw[show(({σ with o:=σ.o+1,m:=max σ.m (σ.o+1)}:CS).T.length:Int)+1=N1 from HN1.out] at P2;clear P1 C1 G1 c7 B1
 go_wp2_with fail
 refine P2.mono ?_;rintro e2 w2 ⟨rfl,F2,g2,v2,C2,G2⟩;have B2:=X1.out.2.gc mq_job G2;clear P2 k0 k1 k2 k3 k4;have C2d:=C2.drew;have c5:w2.drew.cell? ⟨D.B,5,none⟩=some (pt D.Bw):=C2d.c5;have k2:w2.drew.cell? ⟨K,2,none⟩=some (.int .u64 e):=B2.cell 2
 have PW:Aside (Calls prog 151 #[pt D.Bw,.int .i64 N1,.int .u64 e] w2.drew fun e' w'=>(∃r,e'=.returned (.int .i64 r))/\(Cox L D F2 w2 {mkS (crS σ) (Ta.mkT prio f p e R m 1) with tm:=Wl.addT σ.tm N1 d} w'/\w'.cell? ⟨D.B,5,none⟩=some (pt D.Bw)/\w'.cell? ⟨K,2,none⟩=some (.int .u64 e))):=by
  have hw:Wl.wfI N1:=by have h1:=HN1.out;have h2:=HH.out.1;exact wfI_small (by omega) (by omega)
  have:=C2d.waddC hw HH.out.2.2.2.2.2.1;rw[HH.out.2.2.2.2.2.2] at this;refine this.mono ?_;rintro e' w' ⟨rfl,F4,g4,v4,C4,G4⟩;have G5:=(Gc.below F2 C2.lw (Below.refl _ _).drew).trans G4;exact⟨⟨_,rfl⟩,⟨F4,g4,v4,C4,G5⟩,C4.c5,(B2.gc mq_job G5).cell 2⟩
 have X2:Aside (Gc L F w F2 w2):=X1.out.1.trans G2;clear C2 C2d G2 B2;go_upto_region 6 with fail
 go_region_held3 (fun w'=>w'.cell? ⟨D.B,5,none⟩=some (pt D.Bw)/\w'.cell? ⟨K,2,none⟩=some (.int .u64 e)) (first|with_reducible exact⟨c5,k2⟩|with_reducible exact⟨d5,e2⟩) ((go_at_call 151;(with_reducible refine Calls.mono PW.out ?_);rintro e3 w3 ⟨⟨r,rfl⟩,C3,d5,e2⟩))
 have FIN:Aside (Cox L D F w (timS σ (Ta.mkT prio f p e R m 1) d) w3):=by
  obtain⟨F4,g4,v4,C4,G4⟩:=C3;refine⟨F4,g4,v4,?_,X2.out.trans G4⟩;unfold timS;rw[HN1.out];exact C4
 clear c5 k2 d5 e2 C3
 go_wp2_with fail
 go_ret2;exact⟨rfl,FIN.out⟩
end
section
open Go.RowKit Go.Lib Go.WideMaps Go.Maps
variable {w w' u:World}{L i:Nat}{D:CAd}{F F':Nat->Nat->Prop}{g v:Value}{σ:CS}{x:Ta.TR}
theorem after_by(C:Co w L D F g v σ){t:Nat}(ht:t<σ.th)(hc:σ.cl=false)(hl:σ.T.length<200)(prio dl:Int)(h0:0<=prio)(h7:prio<=7)(hd:0<dl){Q:Ending->World->Prop}(hn:Ta.IsT σ.now)(hdT:Ta.IsT dl)
  (hf:∀w1,Below w.heap.size w w1->Calls prog 179 #[pt D.B,.int .i64 t,.int .i64 prio,.slice none 0 0,.agg #[.int .u64 0,.int .u64 0,.int .u64 (Ta.addT σ.now dl),.int .u64 0,.int .u64 0],.int .u64 dl] w1 fun e w'=>∃a b,e=.returned (.tuple #[a,b])/\Q e w') :
  Calls prog 120 #[pt D.B,.int .i64 t,.int .i64 prio,.slice none 0 0,.int .u64 dl] w Q:=by
 have P1:=rightC C ht prio h0 h7;have P3:=refuseC C hc hl;obtain⟨K,hK⟩:∃J,w.heap.size=J:=⟨_,rfl⟩;obtain⟨u,hu⟩:∃z,w.alloc (.cells #[.int .u64 0,.int .u64 0,.int .u64 0,.int .u64 0,.int .u64 0] 61)=z:=⟨_,rfl⟩;have b0:Below w.heap.size w u:=by rw[<-hu];exact belA _ _
 have BK:Bx u F K #[.int .u64 0,.int .u64 0,.int .u64 0,.int .u64 0,.int .u64 0] 61:=by rw[<-hu,<-hK];exact Bx.new C _ _
 have C0:=C.below b0;have c5:u.cell? ⟨D.B,5,none⟩=some (pt D.Bw):=C0.c5;have NW:Calls prog 73 #[pt D.Bw] u fun e w'=>e=.returned (.int .u64 σ.now)/\w'=u:=Wl.now_any C0.whl;have hnow:=C0.whl;have k2:u.cell? ⟨K,2,none⟩=some (.int .u64 0):=BK.cell 2;have fzk:∀o,u.frozen? ⟨K,o,none⟩=false:=fun o=>by simp[World.frozen?,BK.1]
 have E:Aside (∀X:Int,(u.setCell ⟨K,2,none⟩ (.int .u64 X)).heap[K]?=some (.cells #[.int .u64 0,.int .u64 0,.int .u64 X,.int .u64 0,.int .u64 0] 61 (0,0))):=fun X=>set_at BK.1 _;have hgt:decide (0<dl)=true:=decide_eq_true hd;have HU:Aside _:=hu;have HK:Aside _:=hK;have HF:Aside _:=hf;have BB:Aside (∀v,Below w.heap.size w (u.setCell ⟨K,2,none⟩ v)):=fun v=>b0.setCell (by show w.heap.size<=K;omega) v;have HT:Aside (Ta.IsT σ.now/\Ta.IsT dl):=⟨hn,hdT⟩;clear C0 hu hK hf hd b0 BK hn hdT hnow;go_enter func120,ntmps120
 go_wp2_with fail
 refine P1.mono ?_;rintro e w1 ⟨rfl,rfl⟩;clear P1
 go_wp2_with fail
 refine P3.mono ?_;rintro e w1 ⟨rfl,rfl⟩;clear P3 C;go_upto_region 5 with fail
 try simp only[HU.out,HK.out]
 go_wp2_with fail
 refine NW.mono ?_;rintro e w2 ⟨rfl,rfl⟩;clear NW
 go_wp2_with fail
 refine(Ta.Tk.add_any σ.now dl _ HT.out.1 HT.out.2).mono ?_;rintro e w3 ⟨rfl,rfl⟩;generalize hX:Ta.addT σ.now dl=X at HF⊢;clear c5;go_upto_region 7 with fail
 obtain⟨w5,h5⟩:∃z,w3.setCell ⟨K,2,none⟩ (.int .u64 X)=z:=⟨_,rfl⟩;rw[h5];have B5:=E.out X;have bb:=BB.out (.int .u64 X);rw[h5] at B5 bb;have cl:∀j,w5.cell? ⟨K,j,none⟩=(#[.int .u64 0,.int .u64 0,.int .u64 X,.int .u64 0,.int .u64 0]:Array Value)[j]?:=fun j=>cell_of_row _ _ _ _ _ _ B5;have j0:w5.cell? ⟨K,0,none⟩=some (.int .u64 0):=cl 0;have j1:w5.cell? ⟨K,1,none⟩=some (.int .u64 0):=cl 1;have j2:w5.cell? ⟨K,2,none⟩=some (.int .u64 X):=cl 2;have j3:w5.cell? ⟨K,3,none⟩=some (.int .u64 0):=cl 3;have j4:w5.cell? ⟨K,4,none⟩=some (.int .u64 0):=cl 4;have HB:Aside (Below w1.heap.size w1 w5):=bb;clear B5 bb cl h5 k2 fzk
 go_wp2_with fail
 refine(HF.out _ HB.out).mono ?_;rintro e w4 ⟨a,b,rfl,hq⟩;have HQ:Aside _:=hq;clear hq
 go_wp2_with fail
 exact HQ.out
theorem afterW(C:Co w L D F g v σ){t:Nat}(ht:t<σ.th)(hc:σ.cl=false)(hl:σ.T.length<200)(ho:σ.o<σ.n)(he:σ.ev.length<1000000)(prio dl:Int)(h0:0<=prio)(h7:prio<=7)(hd:0<dl)(hn:Ta.IsT σ.now)(hdT:Ta.IsT dl){d:Nat}(hD:Ta.addT σ.now dl=(d:Int))(hB:d<Wl.B64) :
  Calls prog 120 #[pt D.B,.int .i64 t,.int .i64 prio,.slice none 0 0,.int .u64 dl] w fun e w'=>e=.returned (.tuple #[.int .i64 ((σ.T.length:Int)+1),.int .i64 0])/\Cox L D F w (timS σ (Ta.mkT prio 0 0 d 0 0 1) d) w':=by
 refine after_by C ht hc hl prio dl h0 h7 hd hn hdT (fun w1 b1=>?_);rw[hD];refine(timedW (C.below b1) t hl ho he prio 0 0 0 0 0 dl d hB h0 h7 (jb0 0 d 0) (by omega)).mono ?_;rintro e w' ⟨rfl,F4,g4,v4,C4,G4⟩;exact⟨_,_,rfl,rfl,F4,g4,v4,C4,(Gc.below F C.lw b1).trans G4⟩
end
section
open Go.RowKit Go.Lib Go.WideMaps Go.Maps
variable {w w' u:World}{L i:Nat}{D:CAd}{F F':Nat->Nat->Prop}{g v:Value}{σ:CS}{x:Ta.TR}
theorem timed0(C:Co w L D F g v σ){t:Nat}(ht:t<σ.th)(hl:σ.T.length<200)(ho:σ.o<σ.n)(he:σ.ev.length+1<1000000)(hn:σ.qn<=1000)(htk:σ.tk<1000000)(prio f p e rr R m:Int)(h0:0<=prio)(h7:prio<=7)(hj:JbOk f p e rr R) :
  Calls prog 179 #[pt D.B,.int .i64 t,.int .i64 prio,.slice none 0 0,.agg #[.int .u64 f,.int .u64 p,.int .u64 e,.int .u64 rr,.int .u64 m],.int .u64 0] w fun e' w'=>e'=.returned (.tuple #[.int .i64 ((σ.T.length:Int)+1),.int .i64 0])/\Cox L D F w (relS (mkS (crS σ) (Ta.mkT prio f p e R m 2)) t σ.T.length (Ta.mkT prio f p e R m 2)) w':=by
 obtain⟨K,hK⟩:∃J,w.heap.size=J:=⟨_,rfl⟩;obtain⟨u,hu⟩:∃z,w.alloc (.cells #[.int .u64 f,.int .u64 p,.int .u64 e,.int .u64 rr,.int .u64 m] 61)=z:=⟨_,rfl⟩;have b0:Below w.heap.size w u:=by rw[<-hu];exact belA _ _
 have BK:Bx u F K #[.int .u64 f,.int .u64 p,.int .u64 e,.int .u64 rr,.int .u64 m] 61:=by rw[<-hu,<-hK];exact Bx.new C _ _
 have C0:=C.below b0;have c7:u.cell? ⟨D.B,7,none⟩=some (pt D.ca):=C0.c7;have P1:=C0.credC ho;obtain⟨N1,hN1⟩:∃N1,(σ.T.length:Int)+1=N1:=⟨_,rfl⟩;have HN1:Aside _:=hN1;have HH:Aside (t<σ.th/\σ.T.length<200/\σ.ev.length+1<1000000/\σ.qn<=1000/\σ.tk<1000000/\0<=prio/\prio<=7/\JbOk f p e rr R):=⟨ht,hl,he,hn,htk,h0,h7,hj⟩;have X0:Aside (Gc L F w F u/\Bx u F K #[.int .u64 f,.int .u64 p,.int .u64 e,.int .u64 rr,.int .u64 m] 61):=⟨Gc.below F C.lw b0,BK⟩;have HU:Aside _:=hu;have HK:Aside _:=hK;rw[hN1];clear C C0 hu hK b0 ho BK hl he h0 h7 hj hN1 ht hn htk;go_enter func179,ntmps179
 go_upto_region 1 with fail
 rw[HU.out];try simp only[HK.out]
 go_wp2_with fail
 refine P1.mono ?_;rintro e1 w1 ⟨rfl,F1,g1,v1,C1,G1⟩;have B1:=X0.out.2.gc mq_job G1;have X1:Aside (Gc L F w F1 w1):=X0.out.1.trans G1;have k0:w1.cell? ⟨K,0,none⟩=some (.int .u64 f):=B1.cell 0;have k1:w1.cell? ⟨K,1,none⟩=some (.int .u64 p):=B1.cell 1;have k2:w1.cell? ⟨K,2,none⟩=some (.int .u64 e):=B1.cell 2;have k3:w1.cell? ⟨K,3,none⟩=some (.int .u64 rr):=B1.cell 3;have k4:w1.cell? ⟨K,4,none⟩=some (.int .u64 m):=B1.cell 4;have P2:=begin2 C1 (t:=t) HH.out.1 HH.out.2.1 HH.out.2.2.1 HH.out.2.2.2.1 HH.out.2.2.2.2.1 prio f p e rr R m HH.out.2.2.2.2.2.1 HH.out.2.2.2.2.2.2.1 HH.out.2.2.2.2.2.2.2;rw[show(({σ with o:=σ.o+1,m:=max σ.m (σ.o+1)}:CS).T.length:Int)+1=N1 from HN1.out] at P2;clear P1 C1 G1 c7 B1
 go_wp2_with fail
 refine P2.mono ?_;rintro e2 w2 ⟨rfl,F2,g2,v2,C2,G2⟩;have FIN:Aside (Cox L D F w (relS (mkS (crS σ) (Ta.mkT prio f p e R m 2)) t σ.T.length (Ta.mkT prio f p e R m 2)) w2):=⟨F2,g2,v2,C2,X1.out.trans G2⟩;clear P2 k0 k1 k2 k3 k4 C2 G2
 go_wp2_with fail
 go_ret2;exact⟨rfl,FIN.out⟩
theorem after0(C:Co w L D F g v σ){t:Nat}(ht:t<σ.th)(hc:σ.cl=false)(hl:σ.T.length<200)(ho:σ.o<σ.n)(he:σ.ev.length+1<1000000)(hn:σ.qn<=1000)(htk:σ.tk<1000000)(prio:Int)(h0:0<=prio)(h7:prio<=7) :
  Calls prog 120 #[pt D.B,.int .i64 t,.int .i64 prio,.slice none 0 0,.int .u64 0] w fun e w'=>e=.returned (.tuple #[.int .i64 ((σ.T.length:Int)+1),.int .i64 0])/\Cox L D F w (subS σ t prio) w':=by
 have P1:=rightC C ht prio h0 h7;have P3:=refuseC C hc hl;obtain⟨K,hK⟩:∃J,w.heap.size=J:=⟨_,rfl⟩;obtain⟨u,hu⟩:∃z,w.alloc (.cells #[.int .u64 0,.int .u64 0,.int .u64 0,.int .u64 0,.int .u64 0] 61)=z:=⟨_,rfl⟩;have b0:Below w.heap.size w u:=by rw[<-hu];exact belA _ _
 have BK:Bx u F K #[.int .u64 0,.int .u64 0,.int .u64 0,.int .u64 0,.int .u64 0] 61:=by rw[<-hu,<-hK];exact Bx.new C _ _
 have C0:=C.below b0;have k0:u.cell? ⟨K,0,none⟩=some (.int .u64 0):=BK.cell 0;have k1:u.cell? ⟨K,1,none⟩=some (.int .u64 0):=BK.cell 1;have k2:u.cell? ⟨K,2,none⟩=some (.int .u64 0):=BK.cell 2;have k3:u.cell? ⟨K,3,none⟩=some (.int .u64 0):=BK.cell 3;have k4:u.cell? ⟨K,4,none⟩=some (.int .u64 0):=BK.cell 4;have P5:=timed0 C0 (t:=t) ht hl ho he hn htk prio 0 0 0 0 0 0 h0 h7 (jb0 0 0 0);obtain⟨N1,hN1⟩:∃N1,(σ.T.length:Int)+1=N1:=⟨_,rfl⟩;rw[hN1] at P5;rw[hN1];have X0:Aside (Gc L F w F u):=Gc.below F C.lw b0;have HU:Aside _:=hu;have HK:Aside _:=hK;clear C C0 hu hK b0 BK ht hc hl ho he hn htk h0 h7 hN1;go_enter func120,ntmps120
 go_wp2_with fail
 refine P1.mono ?_;rintro e w1 ⟨rfl,rfl⟩;clear P1
 go_wp2_with fail
 refine P3.mono ?_;rintro e w1 ⟨rfl,rfl⟩;clear P3;go_upto_region 5 with fail
 try simp only[HU.out,HK.out]
 go_wp2_with fail
 refine P5.mono ?_;rintro e w2 ⟨rfl,F2,g2,v2,C2,G2⟩;have FIN:Aside (Cox L D F w1 (subS σ t prio) w2):=⟨F2,g2,v2,C2,X0.out.trans G2⟩;clear P5 C2 G2 k0 k1 k2 k3 k4
 go_wp2_with fail
 go_ret2;exact⟨rfl,FIN.out⟩
end
section
open Go.RowKit Go.Lib Go.WideMaps Go.Maps
variable {w w' u:World}{L i:Nat}{D:CAd}{F F':Nat->Nat->Prop}{g v:Value}{σ:CS}{x:Ta.TR}
def CanT(T:List Ta.TR)(j:Int):Prop:=∃(k:Nat)(x:Ta.TR),j=(k:Int)+1/\T[k]?=some x/\(x.s=1\/x.s=2)/\0<=x.p
def isC(x:Ta.TR):Bool:=x.s==1||x.s==2
theorem can_len:∀(d:List Int)(T:List Ta.TR),d.Nodup->(∀j∈d,CanT T j)->d.length<=T.countP isC
 | [],T,_,_=>Nat.zero_le _
 | j::d,T,h,hw=>by
  obtain⟨h1,h2⟩:=List.nodup_cons.1 h;obtain⟨k,x,rfl,hx,hs,hp⟩:=hw j (by simp)
  have ih:=can_len d (T.set k {x with s:=3}) h2 (fun j' hj'=>by
   obtain⟨k',x',rfl,hx',hs',hp'⟩:=hw j' (by simp[hj']);have hne:k≠k':=fun e=>h1 (by rw[e];exact hj');exact⟨k',x',rfl,by rw[getElem?_set_ne hne];exact hx',hs',hp'⟩)
  have:=Ta.cntP_set isC T k x {x with s:=3} hx;have e1:isC x=true:=by rcases hs with hs|hs<;>simp[isC,hs]
  have e2:isC {x with s:=3}=false:=by simp[isC]
  rw[e1,e2] at this;simp at this;simp;omega
theorem CanT.le{T:List Ta.TR}{j:Int}(h:CanT T j):1<=j/\j<=T.length:=by
 obtain⟨k,x,rfl,hx,_⟩:=h;have:=(List.getElem?_eq_some_iff.1 hx).1;omega
theorem Wt.can{T:List Ta.TR}{j:Int}(h:Wt T j):CanT T j:=by
 obtain⟨k,x,e,hx,hs,hp⟩:=h;exact⟨k,x,e,hx,.inl hs,hp⟩
def canX(σ:CS)(i:Nat)(x:Ta.TR):CS:=if x.s=1 then stopS (turnS σ i x 6) ((i:Int)+1) else wdrS (turnS σ i x 6) ((i:Int)+1)
def canStep(σ:CS)(j:Int):CS:=match σ.T[(j-1).toNat]? with
 | some x=>canX σ (j-1).toNat x
 | none=>σ
def canL(d:List Int)(σ:CS):CS:=d.foldl canStep σ
theorem canStep_at(σ:CS)(k:Nat)(x:Ta.TR)(h:σ.T[k]?=some x):canStep σ ((k:Int)+1)=canX σ k x:=by
 unfold canStep;rw[show((k:Int)+1-1).toNat=k by omega,h]
structure SamC(σ σ':CS):Prop where
 th:σ'.th=σ.th
 k:σ'.k=σ.k
 n:σ'.n=σ.n
 now:σ'.now=σ.now
 E:σ'.E=σ.E
 N:σ'.N=σ.N
 m:σ'.m=σ.m
 tk:σ'.tk=σ.tk
 cl:σ'.cl=σ.cl
 gone:σ'.gone=σ.gone
 len:σ'.T.length=σ.T.length
theorem SamC.refl(σ:CS):SamC σ σ:=⟨rfl,rfl,rfl,rfl,rfl,rfl,rfl,rfl,rfl,rfl,rfl⟩
theorem SamC.trans{a b c:CS}(h:SamC a b)(k:SamC b c):SamC a c:=⟨k.th.trans h.th,k.k.trans h.k,k.n.trans h.n,k.now.trans h.now,k.E.trans h.E,k.N.trans h.N,k.m.trans h.m,k.tk.trans h.tk,k.cl.trans h.cl,k.gone.trans h.gone,k.len.trans h.len⟩
theorem canX_T(σ:CS)(i:Nat)(x:Ta.TR):(canX σ i x).T=σ.T.set i (turnX x 6):=by
 unfold canX
 split<;>rfl
theorem canX_sam(σ:CS)(i:Nat)(x:Ta.TR):SamC σ (canX σ i x):=by
 refine⟨?_,?_,?_,?_,?_,?_,?_,?_,?_,?_,by rw[canX_T,List.length_set]⟩<;>(unfold canX;split<;>rfl)
theorem canX_o(σ:CS)(i:Nat)(x:Ta.TR):(canX σ i x).o=σ.o-1/\(canX σ i x).qn<=σ.qn+1/\(canX σ i x).ev.length=σ.ev.length+1:=by
 unfold canX
 split
 ·exact⟨rfl,Nat.le_succ _,by show(σ.ev++[_]).length=_;simp⟩
 ·exact⟨rfl,le_refl _,by show(σ.ev++[_]).length=_;simp⟩
theorem canL_one(d:List Int)(σ:CS)(I:Nat)(hI:I<d.length):canL (d.take (I+1)) σ=canStep (canL (d.take I) σ) (d.getD I 0):=by
 unfold canL;rw[Da.take_up hI,List.foldl_append]
 rfl
theorem canL_inv(σ:CS){d:List Int}(hn:d.Nodup)(hw:∀j∈d,CanT σ.T j):∀I,I<=d.length->SamC σ (canL (d.take I) σ)/\(canL (d.take I) σ).qn<=σ.qn+I/\(canL (d.take I) σ).ev.length=σ.ev.length+I/\(canL (d.take I) σ).o=σ.o-I/\(∀k:Nat,((k:Int)+1)∉d.take I->(canL (d.take I) σ).T[k]?=σ.T[k]?):=by
 intro I
 induction I with
 | zero=>intro _;exact⟨SamC.refl σ,le_refl _,rfl,rfl,fun k _=>rfl⟩
 | succ I ih=>
  intro hI;have hI':I<d.length:=by omega
  obtain⟨s,q,e,o,T⟩:=ih (by omega);obtain⟨k,x,hj,hx,hs,hp⟩:=hw _ (Da.getD_mem hI');have hk:((k:Int)+1)∉d.take I:=by rw[<-hj];exact Da.nodup_take hn hI'
  have hx':(canL (d.take I) σ).T[k]?=some x:=(T k hk).trans hx;rw[canL_one d σ I hI',hj,canStep_at _ k x hx'];obtain⟨c1,c2,c3⟩:=canX_o (canL (d.take I) σ) k x;refine⟨s.trans (canX_sam _ _ _),by omega,by omega,by omega,fun k' hk'=>?_⟩;rw[Da.mem_take_up hI',hj] at hk';have hne:k≠k':=fun e=>hk' (.inr (by rw[e]));rw[canX_T,getElem?_set_ne hne];exact T k' (fun h=>hk' (.inl h))
theorem turnC6(C:Co w L D F g v σ)(hl:σ.ev.length<1000000)(hn:σ.qn<=1000)(t:Int)(hi:σ.T[i]?=some x)(hs:x.s=1\/x.s=2)(hp:0<=x.p)(wi:Wl.wfI ((i:Int)+1)) :
  Calls prog 116 #[pt D.B,.int .i64 t,.int .i64 ((i:Int)+1),.int .i64 6] w fun e w'=>e=.returned (.tuple #[])/\Cox L D F w (canX σ i x) w':=by
 unfold canX;rcases hs with hs|hs
 ·rw[if_pos hs];exact turn16 C hl t hi hs hp wi
 ·rw[if_neg (by omega)];exact turn26 C hl hn t hi hs hp
theorem wf_lt{T:List Ta.TR}{j:Int}(h:CanT T j)(hT:T.length<=200):Wl.wfI j:=by
 have:=h.le;exact Da.wfI_of (by omega) (by omega)
theorem cancelAllC(C:Co w L D F g v σ){a:Option Addr}{n cap:Nat}{d:List Int}(hd:d.length=n)(o:Ow w F (.slice a n cap) d)(nd:d.Nodup)(hw:∀j∈d,CanT σ.T j)(hl:σ.ev.length+300<1000000)(hT:σ.T.length<=200)(hq:σ.qn+n<=1000) :
  Calls prog 153 #[pt D.B,.slice a n cap] w fun e w'=>e=.returned (.tuple #[])/\Cox L D F w (canL d σ) w':=by
 have hn200:n<=200:=by
  have h1:=can_len d σ.T nd hw;have h2:=Ta.cntP_le isC σ.T;omega
 have CT:Aside (Co w L D F g v (canL (d.take 0) σ)):=C;have OW:Aside (Ow w F (.slice a n cap) d):=o;have HD:Aside (d.length=n/\d.Nodup/\(∀j∈d,CanT σ.T j)/\σ.ev.length+300<1000000/\σ.T.length<=200/\σ.qn+n<=1000):=⟨hd,nd,hw,hl,hT,hq⟩;have X:Aside (Gc L F w F w):=Gc.refl _ _ _;clear C o hd nd hw hl hT hq;go_enter func153,ntmps153
 go_wp2_with fail
 go_loopg [5,8] n (fun kx s5 s8 wr=>∃(k:Nat),s8=.int .i64 k/\k<=n/\n-k<=kx/\∃Fr gr vr,Aside (Co wr L D Fr gr vr (canL (d.take k) σ))/\Aside (Ow wr Fr (.slice a n cap) d)/\Aside (Gc L F w Fr wr))
 case atStart=>exact⟨0,rfl,by omega,by omega,F,g,v,CT,OW,X⟩
 case round=>
  obtain⟨k,rfl,hk,hkx,Fr,gr,vr,Cr,Or,Gr⟩:=hrel;by_cases c:k<n
  ·have hlt:(k:Int)<(n:Int):=by omega
   obtain⟨gg,off,rfl,glt,hc⟩:=Or.out.at HD.out.1 c;have hkd:k<d.length:=by rw[HD.out.1];exact c
   have hcan:=HD.out.2.2.1 _ (Da.getD_mem hkd);have hwf:=wf_lt hcan HD.out.2.2.2.2.1;obtain⟨kk,x,ej,hx,hs,hp⟩:=hcan;obtain⟨s1,q1,e1,o1,T1⟩:=canL_inv σ HD.out.2.1 HD.out.2.2.1 k (by omega);have hx':(canL (d.take k) σ).T[kk]?=some x:=(T1 kk (by rw[<-ej];exact Da.nodup_take HD.out.2.1 hkd)).trans hx;rw[ej] at hwf;have P:=turnC6 Cr.out (by have:=HD.out.2.2.2.1;omega) (by have:=HD.out.2.2.2.2.2;omega) (-1) hx' hs hp hwf
   have RL:Aside (canL (d.take (k+1)) σ=canX (canL (d.take k) σ) kk x):=by
    show _=_;rw[canL_one d σ k hkd,ej,canStep_at _ kk x hx']
   rw[ej] at hc;clear hx hx' hs hp s1 q1 e1 o1 T1 ej hkd hwf
   go_wp2_with fail
   refine P.mono ?_;rintro e w4 ⟨rfl,F4,g4,v4,C4,G4⟩
   have C4':Aside (Co w4 L D F4 g4 v4 (canL (d.take (k+1)) σ)):=by
    show Co w4 L D F4 g4 v4 (canL (d.take (k+1)) σ);rw[RL.out];exact C4
   have O4:Aside (Ow w4 F4 (.slice (some ⟨gg,off,none⟩) n cap) d):=Or.out.gc G4;have X4:Aside (Gc L F w F4 w4):=Gr.out.trans G4;clear P C4 G4 hc RL
   go_wp2_with fail
   go_roundg (n-(k+1))
   case measure=>omega
   case rel=>exact⟨k+1,by go_num,by omega,le_refl _,F4,g4,v4,C4',O4,X4⟩
  ·have hnl:¬(k:Int)<(n:Int):=by omega
   have FIN:Aside (Cox L D F w (canL d σ) wr):=by
    refine⟨Fr,gr,vr,?_,Gr.out⟩;have:=Cr.out;rw[List.take_of_length_le (by rw[HD.out.1];omega)] at this;exact this
   clear hk hkx
   go_wp2_with fail
   go_end0
   exact⟨rfl,FIN.out⟩
end
section
open Go.RowKit Go.Lib Go.WideMaps Go.Maps
variable {w w' u:World}{L i:Nat}{D:CAd}{F F':Nat->Nat->Prop}{g v:Value}{σ:CS}{x:Ta.TR}
theorem cancelL(C:Co w L D F g v σ)(hi:σ.T[i]?=some x)(h0:x.s≠0)(h1:x.s≠1)(h2:x.s≠2) :
  Calls prog 122 #[pt D.B,.int .i64 ((i:Int)+1)] w fun e w'=>e=.returned (.int .i64 8)/\Cox L D F w σ w':=by
 have P:=statusC C hi;obtain⟨s,hs'⟩:∃s,x.s=s:=⟨_,rfl⟩;rw[hs'] at P h0 h1 h2;have e0:(s==0)=false:=by simpa using h0
 have e1:(s==1)=false:=by simpa using h1
 have e2:(s==2)=false:=by simpa using h2
 clear C hi hs' h0 h1 h2;go_enter func122,ntmps122
 go_wp2_with fail
 refine P.mono ?_;rintro e w1 ⟨rfl,C1⟩;have FIN:Aside _:=C1;clear P C1
 go_wp2_with fail
 go_ret;exact⟨rfl,FIN.out⟩
end
end Go.Proofs.YtjpbngiddjkjiaaGreatDoor
