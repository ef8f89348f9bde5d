import Derived.Test.YthpgfmmpjoodkaaGreatDoorCoC
open Array(getElem?_setIfInBounds_ne)
open Nat(le_of_eq le_trans)
namespace Go.Proofs.YthpgfmmpjoodkaaGreatDoor
set_option linter.unusedSimpArgs false
set_option maxHeartbeats 8000000
set_option maxRecDepth 100000
set_option linter.unusedVariables false
section
open Go.RowKit Go.Lib Go.WideMaps Go.Maps
variable {w w' u:World}{L i:Nat}{D:CAd}{F F':Nat->Nat->Prop}{g v:Value}{σ:CS}{x:Ta.TR}
theorem chooseC(a b z:Int×Int)(t:Int)(hz:z=if a.1<=t then a else b)(w:World) :
  Calls Tryz.prog 114 #[.agg #[.int .u64 a.1,.int .i64 a.2],.agg #[.int .u64 b.1,.int .i64 b.2],.int .u64 t] w fun e w'=>e=.returned (.agg #[.int .u64 z.1,.int .i64 z.2])/\Below w.heap.size w w':=by
 refine(Ag.choose_any a b t w).mono ?_;rintro e w' ⟨rfl,h⟩;subst hz;by_cases c:a.1<=t
 ·rw[if_pos c,if_pos c];exact⟨rfl,h⟩
 ·rw[if_neg c,if_neg c];exact⟨rfl,h⟩
theorem lookC(C:Co w L D F g v σ){t dr:Nat}(ht:t<σ.th)(hdr:dr<18446744073709551616)(hn:σ.qn<=1000)(hl:σ.ev.length<1000000){x y z:Qu.Ent}(hx:Qu.relaxQ σ.q σ.th σ.k t dr=(x,true))(hy:Qu.unl (Qu.leastQ σ.q σ.th)=y)(hz:z=if y.1<=(σ.tk:Int) then y else x) :
  Calls Tryz.prog 63 #[pt D.B,.int .i64 t,.int .u64 dr] w fun e w'=>e=.returned (.tuple #[.agg #[.int .u64 z.1,.int .i64 z.2],.bool true])/\Cox L D F w (tellS σ 10 t z.2 z.1) w':=by
 obtain⟨K,hK⟩:∃J,w.heap.size=J:=⟨_,rfl⟩;obtain⟨u,hu⟩:∃q,w.alloc (.cells #[.int .u64 0,.int .i64 0] 36)=q:=⟨_,rfl⟩;have b0:Below w.heap.size w u:=by rw[<-hu];exact belA _ _
 have hB:u.heap[K]?=some (.cells #[.int .u64 0,.int .i64 0] 36 (0,0)):=by rw[<-hu,<-hK];exact heap_alloc_new w _
 have C0:=C.below b0;have c4:=C0.c4;have P:=Qu.relaxed_in u L D.A σ.th σ.k σ.qn σ.q t dr C0.que C0.qok hn C0.k16 ht C0.th8 hdr;rw[hx] at P;have HC:Aside (Co w L D F g v σ/\w.heap.size=K/\σ.qn<=1000/\σ.ev.length<1000000):=⟨C,hK,hn,hl⟩;have X0:Aside (Below w.heap.size w u/\u.heap[K]?=some (.cells #[.int .u64 0,.int .i64 0] 36 (0,0))):=⟨b0,hB⟩;have HY:Aside (Qu.unl (Qu.leastQ σ.q σ.th)=y):=hy;obtain⟨x1,x2⟩:=x;obtain⟨y1,y2⟩:=y;obtain⟨z1,z2⟩:=z;have CH:Aside (∀W,Calls Tryz.prog 114 #[.agg #[.int .u64 y1,.int .i64 y2],.agg #[.int .u64 x1,.int .i64 x2],.int .u64 σ.tk] W fun e w'=>e=.returned (.agg #[.int .u64 z1,.int .i64 z2])/\Below W.heap.size W w'):=fun W=>chooseC (y1,y2) (x1,x2) (z1,z2) σ.tk hz W;have HU:Aside _:=hu;clear C C0 hx hy hz hu hB b0 hn hl;go_enter Tryz.func63,Tryz.ntmps63
 go_upto_region 1 with fail
 rw[HU.out]
 go_wp2_with fail
 refine Calls.mono P ?_;rintro e w1 ⟨rfl,b1⟩;clear P c4;obtain⟨K8,hK8⟩:∃J,w1.heap.size=J:=⟨_,rfl⟩;obtain⟨u1,hu1⟩:∃q,w1.alloc (.cells #[.int .u64 x1,.int .i64 x2] 36)=q:=⟨_,rfl⟩;have b2:Below w1.heap.size w1 u1:=by rw[<-hu1];exact belA _ _
 have h8:u1.heap[K8]?=some (.cells #[.int .u64 x1,.int .i64 x2] 36 (0,0)):=by rw[<-hu1,<-hK8];exact heap_alloc_new w1 _
 have X1:Aside (Below w.heap.size w u1/\u1.heap[K]?=some (.cells #[.int .u64 0,.int .i64 0] 36 (0,0))/\u1.heap[K8]?=some (.cells #[.int .u64 x1,.int .i64 x2] 36 (0,0))):=⟨belT X0.out.1 (belT b1 b2),((belT b1 b2).block K (lt_of_block X0.out.2)).trans X0.out.2,h8⟩;have C1:=HC.out.1.below X1.out.1;have c4:=C1.c4;have P:=Qu.qleast_any u1 L D.A σ.th σ.k σ.qn σ.q C1.que C1.qok HC.out.2.2.1 C1.k16 C1.th1 C1.th8;rw[HY.out] at P;obtain⟨fl,hfl⟩:∃b,Qu.unb (Qu.leastQ σ.q σ.th)=b:=⟨_,rfl⟩;rw[hfl] at P;have HU1:Aside _:=hu1;have HK8:Aside _:=hK8;clear hu1 hK8 b1 b2 h8 C1 hfl;go_upto_region 4 with fail
 rw[HU1.out];simp only[HK8.out]
 go_wp2_with fail
 refine Calls.mono P ?_;rintro e w2 ⟨rfl,b3⟩;clear P c4;obtain⟨K10,hK10⟩:∃J,w2.heap.size=J:=⟨_,rfl⟩;obtain⟨u2,hu2⟩:∃q,w2.alloc (.cells #[.int .u64 y1,.int .i64 y2] 36)=q:=⟨_,rfl⟩;have b4:Below w2.heap.size w2 u2:=by rw[<-hu2];exact belA _ _
 have h10:u2.heap[K10]?=some (.cells #[.int .u64 y1,.int .i64 y2] 36 (0,0)):=by rw[<-hu2,<-hK10];exact heap_alloc_new w2 _
 have X2:Aside (Below w.heap.size w u2.drew/\u2.drew.heap[K]?=some (.cells #[.int .u64 0,.int .i64 0] 36 (0,0))/\u2.drew.heap[K8]?=some (.cells #[.int .u64 x1,.int .i64 x2] 36 (0,0))/\u2.drew.heap[K10]?=some (.cells #[.int .u64 y1,.int .i64 y2] 36 (0,0))):=⟨(belT X1.out.1 (belT b3 b4)).drew,((belT b3 b4).block K (lt_of_block X1.out.2.1)).trans X1.out.2.1,((belT b3 b4).block K8 (lt_of_block X1.out.2.2)).trans X1.out.2.2,h10⟩;have C2:=HC.out.1.below X2.out.1;have c8:u2.drew.cell? ⟨D.B,8,none⟩=some (.int .u64 σ.tk):=C2.c8;obtain⟨x0,xx1⟩:=bx2 X2.out.2.2.1;obtain⟨y0,yy1⟩:=bx2 X2.out.2.2.2
 have KP:Aside (∀W:World,Below u2.heap.size u2 W->W.cell? ⟨D.B,8,none⟩=some (.int .u64 σ.tk)/\W.cell? ⟨K8,0,none⟩=some (.int .u64 x1)/\W.cell? ⟨K8,1,none⟩=some (.int .i64 x2)/\W.cell? ⟨K10,0,none⟩=some (.int .u64 y1)/\W.cell? ⟨K10,1,none⟩=some (.int .i64 y2)):=by
  intro W b;obtain⟨p0,p1⟩:=bx2 ((b.block K8 (lt_of_block X2.out.2.2.1)).trans X2.out.2.2.1);obtain⟨q0,q1⟩:=bx2 ((b.block K10 (lt_of_block X2.out.2.2.2)).trans X2.out.2.2.2);have b':Below u2.drew.heap.size u2.drew W:=⟨b.os,b.tape,b.output,b.size,b.block⟩;exact⟨(C2.below b').c8,p0,p1,q0,q1⟩
 have hb0:Below u2.heap.size u2 u2.drew:=(Below.refl _ _).drew;have hbA:Below u2.heap.size u2 (u2.alloc (.cells #[.int .u64 0,.int .i64 0] 36)).drew:=((Below.refl _ _).alloc (Nat.le_refl _) _).drew;obtain⟨a8,a0,a1,a2,a3⟩:=KP.out _ hbA;have X2K:Aside (u2.heap[K]?=some (.cells #[.int .u64 0,.int .i64 0] 36 (0,0))/\Below w.heap.size w u2):=⟨X2.out.2.1,⟨X2.out.1.os,X2.out.1.tape,X2.out.1.output,X2.out.1.size,X2.out.1.block⟩⟩;obtain⟨N2,hN2⟩:∃J,u2.heap.size=J:=⟨_,rfl⟩;have hbx:(u2.alloc (.cells #[.int .u64 0,.int .i64 0] 36)).drew.heap[N2]?=some (.cells #[.int .u64 0,.int .i64 0] 36 (0,0)):=by rw[<-hN2];exact heap_alloc_new u2 _
 have HBX:Aside _:=hbx;have HN2:Aside _:=hN2;have HU2:Aside _:=hu2;have HK10:Aside _:=hK10;clear hu2 hK10 b3 b4 h10 C2 hbx;go_upto_region 5 with fail
 rw[HU2.out];simp only[HK10.out]
 go_cut [12] from 34 to 40 (fun s12 wx=>∃(T:Nat),s12=.pointer (some ⟨T,0,none⟩)/\Below u2.heap.size u2 wx/\wx.heap[T]?=some (.cells #[.int .u64 z1,.int .i64 z2] 36 (0,0))/\u2.heap.size<=T)
 case first=>
  go_region_held3 (fun w'=>w'.cell? ⟨D.B,8,none⟩=some (.int .u64 σ.tk)/\w'.cell? ⟨K8,0,none⟩=some (.int .u64 x1)/\w'.cell? ⟨K8,1,none⟩=some (.int .i64 x2)/\w'.cell? ⟨K10,0,none⟩=some (.int .u64 y1)/\w'.cell? ⟨K10,1,none⟩=some (.int .i64 y2)) (first|with_reducible exact⟨c8,x0,xx1,y0,yy1⟩|with_reducible exact⟨a8,a0,a1,a2,a3⟩|with_reducible exact⟨d8,p0,p1,q0,q1⟩|with_reducible exact KP.out _ (h3.alloc h3.size _)|with_reducible exact KP.out _ ((h3.setCell (le_of_eq HN2.out) _).setCell (le_of_eq HN2.out) _)) ((go_at_call 114;first|((with_reducible refine Calls.mono (CH.out u2.drew) ?_);rintro e w3 ⟨rfl,b5⟩;have h3:Below u2.heap.size u2 w3:=belT hb0 b5;obtain⟨d8,p0,p1,q0,q1⟩:=KP.out w3 h3)|((with_reducible refine Calls.mono (CH.out (u2.alloc (.cells #[.int .u64 0,.int .i64 0] 36)).drew) ?_);rintro e w3 ⟨rfl,b5⟩;have h3:Below u2.heap.size u2 w3:=belT hbA b5;obtain⟨d8,p0,p1,q0,q1⟩:=KP.out w3 h3;have hb3:w3.heap[N2]?=some (.cells #[.int .u64 0,.int .i64 0] 36 (0,0)):=(b5.block N2 (lt_of_block HBX.out)).trans HBX.out;obtain⟨m0,m1⟩:=bx2 hb3;have mlt:=lt_of_block hb3;have mfz:∀o,w3.frozen? ⟨N2,o,none⟩=false:=(fun o=>by simp[World.frozen?,hb3]))))
  all_goals go_wp2_with fail
  all_goals go_meet
  ·exact⟨w3.heap.size,rfl,h3.alloc h3.size _,heap_alloc_new w3 _,h3.size⟩
  ·exact⟨N2,rfl,(h3.setCell (le_of_eq HN2.out) _).setCell (le_of_eq HN2.out) _,set_at (set_at hb3 _) _,le_of_eq HN2.out⟩
 case rest=>
  obtain⟨T,rfl,bw,hT,lT⟩:=hcut;have XW:Aside (Below w.heap.size w wc):=belT X2K.out.2 bw;have hKw:wc.heap[K]?=some (.cells #[.int .u64 0,.int .i64 0] 36 (0,0)):=(bw.block K (lt_of_block X2K.out.1)).trans X2K.out.1;have BT:Bx wc F T #[.int .u64 z1,.int .i64 z2] 36:=⟨hT,fun p hp=>by have:=HC.out.1.fp.lt p T hp;have:=X2K.out.2.size;omega⟩;have BK:Bx wc F K #[.int .u64 0,.int .i64 0] 36:=⟨hKw,fun p hp=>by have:=HC.out.1.fp.lt p K hp;have:=HC.out.2.1;omega⟩;have Cc:=HC.out.1.below XW.out;have P:=tellC Cc HC.out.2.2.2 10 t z2 z1;obtain⟨t0,t1⟩:=bx2 hT;have tlt:=lt_of_block hT;have BB:Aside (Bx wc F T #[.int .u64 z1,.int .i64 z2] 36/\Bx wc F K #[.int .u64 0,.int .i64 0] 36):=⟨BT,BK⟩;clear bw hT lT hKw BT BK Cc c8 x0 xx1 y0 yy1 a8 a0 a1 a2 a3 hb0 hbA hN2
  go_wp2_with fail
  refine P.mono ?_;rintro e w4 ⟨rfl,⟨F4,g4,v4,C4,G4⟩,Q4⟩;clear P t0 t1 tlt;have B4:=BB.out.1.gc mq_ent G4;have K4:=BB.out.2.gc mq_ent G4;obtain⟨t0,t1⟩:=bx2 B4.1;have tlt:=lt_of_block B4.1;obtain⟨k0,k1⟩:=bx2 K4.1;have klt:=lt_of_block K4.1;have kfz:∀o,w4.frozen? ⟨K,o,none⟩=false:=(fun o=>by simp[World.frozen?,K4.1]);have E:Aside (((w4.setCell ⟨K,0,none⟩ (.int .u64 z1)).setCell ⟨K,1,none⟩ (.int .i64 z2)).heap[K]?=some (.cells #[.int .u64 z1,.int .i64 z2] 36 (0,0))):=set_at (set_at K4.1 _) _
  have FIN:Aside (Cox L D F w (tellS σ 10 t z2 z1) ((w4.setCell ⟨K,0,none⟩ (.int .u64 z1)).setCell ⟨K,1,none⟩ (.int .i64 z2))):=by
   have G:Gc L F w F4 w4:=(Gc.below F HC.out.1.lw XW.out).trans G4;have Q:Gq F w w4:=(Gq.below F XW.out).trans (Gc.below F HC.out.1.lw XW.out) Q4;have f:Ta.Fr (fun k=>k=K) w4 ((w4.setCell ⟨K,0,none⟩ (.int .u64 z1)).setCell ⟨K,1,none⟩ (.int .i64 z2)):=(Ta.Fr.setCell (fun k=>k=K) w4 K 0 (.int .u64 z1) rfl).trans (Ta.Fr.setCell (fun k=>k=K) _ K 1 (.int .i64 z2) rfl) (fun j hj=>.inl hj);obtain⟨C5,G5,_⟩:=HC.out.1.box C4 G Q rfl rfl rfl (le_of_eq HC.out.2.1) klt K4.2 f;exact⟨F4,g4,v4,C5,G5⟩
  clear C4 G4 Q4 B4 K4
  go_wp2_with fail
  have eb:=fun j=>cell_of_row _ _ j _ _ _ E.out;have q0:=eb 0;have q1:=eb 1;refine bodyPost_ret (v:=.tuple #[.agg #[.int .u64 z1,.int .i64 z2],.bool true]) (by simp[results,Tryz.results63,go_sem,q0,q1]) rfl ⟨rfl,?_⟩;exact FIN.out
end
section
open Go.RowKit Go.Lib
def Rdy(T:List Ta.TR)(e:Qu.Ent):Prop:=∃(k:Nat)(x:Ta.TR),T[k]?=some x/\x.s=2/\e=(x.key,(k:Int)+1)
def QI(σ:CS):Prop:=∃sl ow sh,Qu.View σ.th σ.q sl ow sh/\(Qu.ids (Qu.allV σ.th sl ow sh)).Nodup/\∀e,e∈Qu.allV σ.th sl ow sh↔Rdy σ.T e
variable {σ σ':CS}{t:Nat}{e0:Qu.Ent}{x y:Ta.TR}{i:Nat}
theorem QI.new(th k n:Nat):QI (newS th k n):=by
 refine⟨_,_,_,Qu.View.new th,?_,fun e=>?_⟩
 ·simp[Qu.allV,Qu.ids,Qu.flatN_nil]
 ·constructor
  ·intro h;simp[Qu.allV] at h
  ·rintro⟨k,x,h,_⟩;simp[newS] at h
theorem QI.put(h:QI σ)(ht:t<σ.th)(hq:σ'.q=Qu.putQ σ.k σ.q t e0)(hth:σ'.th=σ.th)(hR:∀e,Rdy σ'.T e↔e=e0\/Rdy σ.T e)(hf:∀e,Rdy σ.T e->e.2≠e0.2):QI σ':=by
 obtain⟨sl,ow,sh,V,nd,al⟩:=h;obtain⟨sl',ow',sh',V',P⟩:=V.putAny (K:=σ.k) ht e0;refine⟨sl',ow',sh',by rw[hq,hth];exact V',?_,fun e=>?_⟩
 ·rw[hth];refine((P.map Prod.snd).nodup_iff).2 (List.nodup_cons.2 ⟨fun hm=>?_,nd⟩);obtain⟨e,he,h2⟩:=List.mem_map.1 hm;exact hf e ((al e).1 he) h2
 ·rw[hth,P.mem_iff,hR e,List.mem_cons,al e]
theorem mem_out{d:List Qu.Ent}{id:Int}{e:Qu.Ent}:e∈Qu.outL id d↔e∈d/\e.2≠id:=by
 unfold Qu.outL;rw[List.mem_filter];simp
theorem QI.take(h:QI σ){id:Int}(hq:σ'.q=Qu.takeQ σ.q σ.th id)(hth:σ'.th=σ.th)(hR:∀e,Rdy σ'.T e↔Rdy σ.T e/\e.2≠id):QI σ':=by
 obtain⟨sl,ow,sh,V,nd,al⟩:=h;obtain⟨_,sl',ow',sh',V',P⟩:=V.takeAny nd id;refine⟨sl',ow',sh',by rw[hq,hth];exact V',?_,fun e=>?_⟩
 ·rw[hth,P];exact nd.sublist ((List.filter_sublist ..).map Prod.snd)
 ·rw[hth,P,hR e,mem_out,al e]
theorem QI.same(h:QI σ)(hq:σ'.q=σ.q)(hth:σ'.th=σ.th)(hR:∀e,Rdy σ'.T e↔Rdy σ.T e):QI σ':=by
 obtain⟨sl,ow,sh,V,nd,al⟩:=h;exact⟨sl,ow,sh,by rw[hq,hth];exact V,by rw[hth];exact nd,fun e=>by rw[hth,hR e];exact al e⟩
theorem QI.look(h:QI σ){N:Nat}(ok:Qu.QOk σ.k σ.th N σ.q)(ht:t<σ.th)(dr:Nat)(hne:∃e,Rdy σ.T e)(tk:Int):∃x y z,Qu.relaxQ σ.q σ.th σ.k t dr=(x,true)/\Qu.unl (Qu.leastQ σ.q σ.th)=y/\(z=if y.1<=tk then y else x)/\Rdy σ.T z:=by
 obtain⟨sl,ow,sh,V,nd,al⟩:=h;obtain⟨e,he⟩:=hne;have hm:=(al e).2 he;have hn:Qu.allV σ.th sl ow sh≠[]:=fun h=>by rw[h] at hm;simp at hm
 rcases V.relaxed ok ht dr with⟨h,_⟩|⟨_,h2,h3,_⟩
 ·exact absurd h hn
 ·rcases V.least with⟨_,h⟩|⟨j,y,h4,h5⟩
  ·exact absurd h hn
  ·refine⟨_,y,_,Prod.ext rfl h2,by rw[h4];rfl,rfl,?_⟩
   split
   ·exact(al y).1 h5.1
   ·exact(al _).1 h3
theorem rdy_push{T:List Ta.TR}(hx:x.s=2)(e:Qu.Ent):Rdy (T++[x]) e↔e=(x.key,(T.length:Int)+1)\/Rdy T e:=by
 constructor
 ·rintro⟨k,y,h,hs,rfl⟩;by_cases c:k<T.length
  ·rw[List.getElem?_append_left c] at h;exact .inr ⟨k,y,h,hs,rfl⟩
  ·have:=(List.getElem?_eq_some_iff.1 h).1;simp at this;obtain rfl:k=T.length:=by omega
   rw[List.getElem?_append_right (Nat.le_refl _)] at h;simp at h;subst h;exact .inl rfl
 ·rintro(rfl|⟨k,y,h,hs,rfl⟩)
  ·exact⟨T.length,x,by simp,hx,rfl⟩
  ·have:=(List.getElem?_eq_some_iff.1 h).1;exact⟨k,y,by rw[List.getElem?_append_left this];exact h,hs,rfl⟩
theorem rdy_id{T:List Ta.TR}{e:Qu.Ent}(h:Rdy T e):1<=e.2/\e.2<=T.length:=by
 obtain⟨k,y,h,hs,rfl⟩:=h;have:=(List.getElem?_eq_some_iff.1 h).1;show 1<=(k:Int)+1/\(k:Int)+1<=T.length;omega
theorem rdy_out{T:List Ta.TR}(hi:T[i]?=some x)(hy:y.s≠2)(e:Qu.Ent):Rdy (T.set i y) e↔Rdy T e/\e.2≠(i:Int)+1:=by
 have hl:=(List.getElem?_eq_some_iff.1 hi).1;constructor
 ·rintro⟨k,z,h,hs,rfl⟩;by_cases c:i=k
  ·subst c;rw[List.getElem?_set_self hl] at h;injection h with h
   subst h;exact absurd hs hy
  ·rw[List.getElem?_set_ne c] at h;exact⟨⟨k,z,h,hs,rfl⟩,by show(k:Int)+1≠(i:Int)+1;omega⟩
 ·rintro⟨⟨k,z,h,hs,rfl⟩,hne⟩;have c:i≠k:=fun e=>hne (by rw[e]);exact⟨k,z,by rw[List.getElem?_set_ne c];exact h,hs,rfl⟩
theorem rdy_set{T:List Ta.TR}(hi:T[i]?=some x)(hx:x.s≠2)(hy:y.s≠2)(e:Qu.Ent):Rdy (T.set i y) e↔Rdy T e:=by
 rw[rdy_out hi hy];constructor
 ·exact fun h=>h.1
 ·rintro⟨k,z,h,hs,rfl⟩;refine⟨⟨k,z,h,hs,rfl⟩,fun e=>?_⟩;have e:(k:Int)+1=(i:Int)+1:=e;obtain rfl:k=i:=by omega
  rw[hi] at h;injection h with h
  exact hx (by rw[h];exact hs)
theorem sub_T(σ:CS)(t:Nat)(prio:Int):(subS σ t prio).T=σ.T++[{Ta.mkT prio 0 0 0 0 0 2 with key:=keyS σ (Ta.mkT prio 0 0 0 0 0 2)}]:=by
 show(σ.T++[_]).set σ.T.length _=_;rw[List.set_append_right _ _ (Nat.le_refl _)];simp
 rfl
theorem QI.sub(h:QI σ)(ht:t<σ.th)(prio:Int):QI (subS σ t prio):=by
 refine h.put (t:=t) (e0:=(keyS σ (Ta.mkT prio 0 0 0 0 0 2),(σ.T.length:Int)+1)) ht rfl rfl (fun e=>?_) (fun e he=>?_)
 ·rw[sub_T,rdy_push rfl]
 ·have:=rdy_id he;show e.2≠(σ.T.length:Int)+1;omega
theorem QI.hand(h:QI σ)(hi:σ.T[i]?=some x)(t:Nat):QI (handS (turnS σ i x 3) t i (turnX x 3)):=
 h.take (id:=(i:Int)+1) rfl rfl (fun e=>rdy_out hi (by rw[(turnX_key x 3).2.2.1];decide) e)
theorem done_nil{d:List Int}{id:Int}(h:DoneL (fun _ _=>False) id d):d=[]:=by
 cases d with
 | nil=>rfl
 | cons j d=>exact((h.2 j).1 (by simp)).1.elim
end
section
open Go.RowKit Go.Lib Go.WideMaps Go.Maps
variable {w w' u:World}{L i:Nat}{D:CAd}{F F':Nat->Nat->Prop}{g v:Value}{σ:CS}{x:Ta.TR}
def setS(σ:CS)(t:Nat):CS:={σ with q:=Qu.settleQ σ.k σ.q t,qn:=σ.qn+1}
theorem settleC(C:Co w L D F g v σ){t:Nat}(ht:t<σ.th)(hn:σ.qn<=1000) :
  Calls Tryz.prog 185 #[pt D.B,.int .i64 t] w fun e w'=>e=.returned (.bool (σ.q.g t).f)/\Cox L D F w (setS σ t) w':=by
 have c4:=C.c4
 have P:Calls Tryz.prog 246 #[pt D.A.B,.int .i64 t] w fun e w'=>e=.returned (.bool (σ.q.g t).f)/\Cox L D F w (setS σ t) w':=by
  refine(Qu.settle_in w L D.A σ.th σ.k σ.qn σ.q t (σ.q.g t).f C.que C.qok hn C.k16 ht rfl C.lw).mono ?_;rintro e w' ⟨rfl,h,s⟩;obtain⟨C',G'⟩:=C.setQue h s (Qu.settle_ok C.qok ht C.k16);exact⟨rfl,_,_,_,C',G'⟩
 obtain⟨B,hB⟩:∃B,(σ.q.g t).f=B:=⟨_,rfl⟩;rw[hB] at P⊢;clear C ht hn hB;go_enter Tryz.func185,Tryz.ntmps185
 go_wp2_with fail
 refine P.mono ?_;rintro e w1 ⟨rfl,X⟩;have FIN:Aside _:=X;clear P X c4
 go_wp2_with fail
 go_ret;exact⟨rfl,FIN.out⟩
theorem QI.settle(h:QI σ){t:Nat}(ht:t<σ.th):QI (setS σ t):=by
 obtain⟨sl,ow,sh,V,nd,al⟩:=h;obtain⟨sl',ow',sh',V',_,P⟩:=V.settle (K:=σ.k) ht;exact⟨sl',ow',sh',V',((P.map Prod.snd).nodup_iff).2 nd,fun e=>by rw[show(setS σ t).th=σ.th from rfl,P.mem_iff];exact al e⟩
theorem QI.none(h:QI σ){N:Nat}(ok:Qu.QOk σ.k σ.th N σ.q){t:Nat}(ht:t<σ.th)(dr:Nat)(hne:∀e,¬Rdy σ.T e):(Qu.relaxQ σ.q σ.th σ.k t dr).2=false:=by
 obtain⟨sl,ow,sh,V,nd,al⟩:=h;rcases V.relaxed ok ht dr with⟨_,h⟩|⟨h,_⟩
 ·exact h
 ·obtain⟨e,l,he⟩:=List.exists_cons_of_ne_nil h;exact absurd ((al e).1 (by rw[he];simp)) (hne e)
theorem lookN(C:Co w L D F g v σ){t dr:Nat}(ht:t<σ.th)(hdr:dr<18446744073709551616)(hn:σ.qn<=1000)(hx:(Qu.relaxQ σ.q σ.th σ.k t dr).2=false) :
  Calls Tryz.prog 63 #[pt D.B,.int .i64 t,.int .u64 dr] w fun e w'=>e=.returned (.tuple #[.agg #[.int .u64 0,.int .i64 0],.bool false])/\Cox L D F w σ w':=by
 obtain⟨K,hK⟩:∃J,w.heap.size=J:=⟨_,rfl⟩;obtain⟨u,hu⟩:∃q,w.alloc (.cells #[.int .u64 0,.int .i64 0] 36)=q:=⟨_,rfl⟩;have b0:Below w.heap.size w u:=by rw[<-hu];exact belA _ _
 have hB:u.heap[K]?=some (.cells #[.int .u64 0,.int .i64 0] 36 (0,0)):=by rw[<-hu,<-hK];exact heap_alloc_new w _
 have C0:=C.below b0;have c4:=C0.c4;have P:=Qu.relaxed_in u L D.A σ.th σ.k σ.qn σ.q t dr C0.que C0.qok hn C0.k16 ht C0.th8 hdr;obtain⟨⟨x1,x2⟩,hx1⟩:∃x,(Qu.relaxQ σ.q σ.th σ.k t dr).1=x:=⟨_,rfl⟩;have hxx:Qu.relaxQ σ.q σ.th σ.k t dr=((x1,x2),false):=Prod.ext hx1 hx;rw[hxx] at P;have HC:Aside (Co w L D F g v σ/\w.heap.size=K/\Below w.heap.size w u):=⟨C,hK,b0⟩;have X0:Aside (u.heap[K]?=some (.cells #[.int .u64 0,.int .i64 0] 36 (0,0))):=hB;have HU:Aside _:=hu;clear C C0 hx hx1 hxx hu hB b0 hn;go_enter Tryz.func63,Tryz.ntmps63
 go_upto_region 1 with fail
 rw[HU.out]
 go_wp2_with fail
 refine Calls.mono P ?_;rintro e w1 ⟨rfl,b1⟩;clear P c4;obtain⟨u1,hu1⟩:∃q,w1.alloc (.cells #[.int .u64 x1,.int .i64 x2] 36)=q:=⟨_,rfl⟩;have b2:Below u.heap.size u u1:=by rw[<-hu1];exact belT b1 (belA _ _)
 have hk:u1.heap[K]?=some (.cells #[.int .u64 0,.int .i64 0] 36 (0,0)):=(b2.block K (lt_of_block X0.out)).trans X0.out;have klt:=lt_of_block hk;have kfz:∀o,u1.frozen? ⟨K,o,none⟩=false:=(fun o=>by simp[World.frozen?,hk]);obtain⟨k0,k1⟩:=bx2 hk;have E:Aside (((u1.setCell ⟨K,0,none⟩ (.int .u64 0)).setCell ⟨K,1,none⟩ (.int .i64 0)).heap[K]?=some (.cells #[.int .u64 0,.int .i64 0] 36 (0,0))):=set_at (set_at hk _) _;have FIN:Aside (Below w.heap.size w ((u1.setCell ⟨K,0,none⟩ (.int .u64 0)).setCell ⟨K,1,none⟩ (.int .i64 0))):=((belT HC.out.2.2 b2).setCell (le_of_eq HC.out.2.1) _).setCell (le_of_eq HC.out.2.1) _;have HU1:Aside _:=hu1;clear hu1 b1 b2 hk;go_upto_region 3 with fail
 rw[HU1.out]
 go_wp2_with fail
 have eb:=fun j=>cell_of_row _ _ j _ _ _ E.out;have q0:=eb 0;have q1:=eb 1;refine bodyPost_ret (v:=.tuple #[.agg #[.int .u64 0,.int .i64 0],.bool false]) (by simp[results,Tryz.results63,go_sem,q0,q1]) rfl ⟨rfl,?_⟩;exact HC.out.1.xb FIN.out
end
section
open Go.RowKit Go.Lib Go.WideMaps Go.Maps
variable {w w' u:World}{L i:Nat}{D:CAd}{F F':Nat->Nat->Prop}{g v:Value}{σ:CS}{x:Ta.TR}
theorem claimG(C:Co w L D F g v σ){t:Nat}(ht:t<σ.th)(hi:σ.T[i]?=some x){s:Int}(hs:x.s=s)(h0:s≠0)(h2:s≠2)(k:Int) :
  Calls Tryz.prog 12 #[pt D.B,.int .i64 t,.agg #[.int .u64 k,.int .i64 ((i:Int)+1)]] w fun e w'=>e=.returned (.int .i64 8)/\Cox L D F w σ w':=by
 obtain⟨K,hK⟩:∃J,w.heap.size=J:=⟨_,rfl⟩;obtain⟨I1,hI1⟩:∃J,(i:Int)+1=J:=⟨_,rfl⟩;obtain⟨u,hu⟩:∃z,w.alloc (.cells #[.int .u64 k,.int .i64 I1] 36)=z:=⟨_,rfl⟩;have b0:Below w.heap.size w u:=by rw[<-hu];exact belA _ _
 have BK:Bx u F K #[.int .u64 k,.int .i64 I1] 36:=by rw[<-hu,<-hK];exact Bx.new C _ _
 have C0:=C.below b0;have P1:=threadC C0 ht;have P2:=taskC C0 hi (by omega);rw[hI1] at P2;have k1:u.cell? ⟨K,1,none⟩=some (.int .i64 I1):=BK.cell 1;have hb:(s != 2)=true:=by simpa using h2
 have HH:Aside (σ.T[i]?=some x/\x.s=s/\(i:Int)+1=I1):=⟨hi,hs,hI1⟩;have X0:Aside (Gc L F w F u/\Bx u F K #[.int .u64 k,.int .i64 I1] 36):=⟨Gc.below F C.lw b0,BK⟩;have HU:Aside _:=hu;have HK:Aside _:=hK;rw[hI1];clear C C0 ht hi hs hI1 hu hK BK b0;go_enter Tryz.func12,Tryz.ntmps12
 go_upto_region 1 with fail
 rw[HU.out];try simp only[HK.out]
 go_wp2_with fail
 refine P1.mono ?_;rintro e w1 ⟨rfl,rfl⟩;clear P1
 go_wp2_with fail
 refine P2.mono ?_;rintro e w2 ⟨rfl,F2,g2,v2,C2,G2⟩;clear P2 k1;have B2:=X0.out.2.gc mq_ent G2;have X2:Aside (Gc L F w F2 w2.drew/\Bx w2.drew F2 K #[.int .u64 k,.int .i64 I1] 36):=⟨(X0.out.1.trans G2).trans (Gc.below F2 C2.lw (Below.refl _ _).drew),B2⟩;have k0:w2.drew.cell? ⟨K,0,none⟩=some (.int .u64 k):=B2.cell 0;have k1:w2.drew.cell? ⟨K,1,none⟩=some (.int .i64 I1):=B2.cell 1
 have PS:Aside (Calls Tryz.prog 10 #[pt D.B,.int .i64 I1] w2.drew fun e w'=>e=.returned (.int .i64 s)/\Cox L D F w σ w'/\w'.cell? ⟨K,0,none⟩=some (.int .u64 k)/\w'.cell? ⟨K,1,none⟩=some (.int .i64 I1)):=by
  have:=statusC C2.drew HH.out.1;rw[HH.out.2.1,HH.out.2.2] at this;refine this.mono ?_;rintro e w' ⟨rfl,F4,g4,v4,C4,G4⟩;have B4:=X2.out.2.gc mq_ent G4;exact⟨rfl,⟨F4,g4,v4,C4,X2.out.1.trans G4⟩,B4.cell 0,B4.cell 1⟩
 clear C2 G2 B2;go_upto_region 3 with fail
 refine wp_region_held_drew (S:=(fun w':World=>w'.cell? ⟨K,0,none⟩=some (.int .u64 k)/\w'.cell? ⟨K,1,none⟩=some (.int .i64 I1))) (by kernel_rfl) (⟨k0,k1⟩) (fun hHeld=>?_);refine anyH_u (i:=0) (by assumption) rfl (by kernel_rfl) (fun w z=>by go_simp<;>rfl) (fun _ _ _ h=>h) ?_;refine anyH_u (i:=1) (by assumption) rfl (by kernel_rfl) (fun w z=>by go_simp<;>rfl) (fun _ _ _ h=>h) ?_;refine anyH_u (i:=2) (by assumption) rfl (by kernel_rfl) (fun w z=>by go_simp<;>rfl) (fun _ _ _ h=>h) ?_;simp only[Act.put,sA,sB,sC];refine wpAnyH_ready (rs:=[3]) (by kernel_rfl) (by simp) ?_;refine AllReadyH.cons (o:={dst:=some 21,op:=Op.call {callee:=Callee.value (Operand.func 10),args:=#[Operand.tmp 18,Operand.tmp 20],argTypes:=#[23,3]},type:=3,pos:= "core.go:350",after:=#[⟨0,.data⟩,⟨2,.data⟩],guard:=none}) rfl (fun Kt hKt=>?_) AllReadyH.nil;go_simp
 (with_reducible refine Calls.mono PS.out ?_)
 rintro e w3 ⟨rfl,CX,e0,e1⟩
 go_wp2_with fail
 refine hKt.out _ _ (⟨e0,e1⟩) (fun hHeld=>?_);clear hKt Kt;try simp only[Act.put,sA,sB,sC]
 refine wpAnyH_take (i:=4) (oi:=⟨some 22,Op.binOp BinOp.neq 3 (.tmp 21) (Operand.const (Value.int IntKind.i64 2)) 3,4,"core.go:350",#[⟨3,.data⟩],none⟩) (v:=.bool true) rfl (by kernel_rfl) (by kernel_rfl) (by kernel_rfl) (fun _ _ _ h=>h) (Or.inl ⟨by rfl,?_⟩) (by assumption) ?_
 ·(intro w z;(try dsimp only at z);go_simp;try simp only[hb];try with_reducible rfl)
 simp only[Act.put,sA,sB,sC];refine anyH_u (i:=5) (by assumption) rfl (by kernel_rfl) (fun w z=>by go_simp<;>rfl) (fun _ _ _ h=>h) ?_;simp only[Act.put,sA,sB,sC];refine wpAnyH_take (i:=6) (oi:=⟨some 24,Op.move (.tmp 0),23,"core.go:350",#[⟨5,.guard⟩],some (5,false)⟩) (v:=undef) rfl (by kernel_rfl) (by kernel_rfl) (by kernel_rfl) (fun _ _ _ h=>h) (Or.inr ⟨by rfl,rfl⟩) (by assumption) ?_;simp only[Act.put,sA,sB,sC];refine wpAnyH_take (i:=7) (oi:=⟨some 25,Op.fieldAddr 36 (.tmp 5) 1,0,"core.go:350",#[⟨5,.guard⟩],some (5,false)⟩) (v:=undef) rfl (by kernel_rfl) (by kernel_rfl) (by kernel_rfl) (fun _ _ _ h=>h) (Or.inr ⟨by rfl,rfl⟩) (by assumption) ?_;simp only[Act.put,sA,sB,sC];refine wpAnyH_take (i:=8) (oi:=⟨some 26,Op.load 3 (.tmp 25),3,"core.go:350",#[⟨7,.data⟩,⟨5,.guard⟩],some (5,false)⟩) (v:=undef) rfl (by kernel_rfl) (by kernel_rfl) (by kernel_rfl) (fun _ _ _ h=>h) (Or.inr ⟨by rfl,rfl⟩) (by assumption) ?_;simp only[Act.put,sA,sB,sC];refine wpAnyH_take (i:=10) (oi:=⟨some 28,Op.load 36 (.tmp 5),36,"core.go:350",#[⟨5,.guard⟩],some (5,false)⟩) (v:=undef) rfl (by kernel_rfl) (by kernel_rfl) (by kernel_rfl) (fun _ _ _ h=>h) (Or.inr ⟨by rfl,rfl⟩) (by assumption) ?_;simp only[Act.put,sA,sB,sC];refine wpAnyH_ready (rs:=[9]) (by kernel_rfl) (by simp) ?_;refine AllReadyH.cons (o:={dst:=some 27,op:=Op.call {callee:=Callee.value (Operand.func 59),args:=#[Operand.tmp 24,Operand.tmp 26],argTypes:=#[23,3]},type:=36,pos:= "core.go:350",after:=#[⟨6,.data⟩,⟨8,.data⟩,⟨5,.chain⟩,⟨5,.guard⟩],guard:=some (5,false)}) rfl (fun Kt hKt=>?_) AllReadyH.nil;go_simp
 refine hKt.out _ _ hHeld (fun hHeld=>?_);clear hKt Kt;try simp only[Act.put,sA,sB,sC]
 refine wpAnyH_take (i:=11) (oi:=⟨some 29,Op.binOp BinOp.neq 36 (.tmp 27) (.tmp 28) 36,4,"core.go:350",#[⟨9,.data⟩,⟨10,.data⟩,⟨5,.guard⟩],some (5,false)⟩) (v:=undef) rfl (by kernel_rfl) (by kernel_rfl) (by kernel_rfl) (fun _ _ _ h=>h) (Or.inr ⟨by rfl,rfl⟩) (by assumption) ?_;simp only[Act.put,sA,sB,sC];refine anyH_u (i:=12) (by assumption) rfl (by kernel_rfl) (fun w z=>by go_simp<;>rfl) (fun _ _ _ h=>h) ?_;simp only[Act.put,sA,sB,sC];refine wpAnyH_done (by kernel_rfl) ?_ _;have FIN:Aside _:=CX;clear k0 k1 e0 e1 CX
 go_wp2_with fail
 go_ret;exact⟨rfl,FIN.out⟩
end
section
open Go.RowKit Go.Lib Go.WideMaps Go.Maps
variable {w w' u:World}{L i:Nat}{D:CAd}{F F':Nat->Nat->Prop}{g v:Value}{σ:CS}{x:Ta.TR}
theorem Co.frX{X:Nat->Prop}(C:Co w L D F g v σ)(f:Ta.Fr X w w')(hX:∀k,X k->(∀p,¬F p k)/\NQ w k):Co w' L D F g v σ:=by
 have KK:K8 (fun q=>False) w' L D F g v σ:=C.keep (fun q=>False) f (fun q _ k hk hy=>(hX k hy).1 q hk) (fun _ k hk=>(hX k hk).2);exact⟨KK.head (by simp),KK.tab (by simp),KK.que (by simp),KK.whl (by simp),KK.dag (by simp),KK.cre (by simp),KK.evs (by simp),KK.gon (by simp),C.f0,C.f2,C.f5,C.f6,C.f7,C.f8,C.fp.grow f.size,le_trans C.lw f.size,le_trans C.wb f.size,C.qok,C.th1,C.th8,C.k16⟩
theorem Gc.ownX{w0:World}{F0:Nat->Nat->Prop}{X:Nat->Prop}(G:Gc L F0 w0 F w)(hX:∀k,X k->w0.heap.size<=k)(hL:L<=w0.heap.size)(f:Ta.Fr X w w'):Gc L F0 w0 F w':=
 ⟨⟨G.low.trans (f.toBelow (fun k hk=>le_trans hL (hX k hk)) (le_trans hL G.size)),fun k hk hF hU=>(f.block k (Nat.lt_of_lt_of_le hk G.size) (fun e=>by have:=hX k e;omega)).trans (G.block k hk hF hU),G.new⟩,fun k cs fr hk=>by
  obtain⟨cs',h1,e1⟩:=G.hd k cs fr hk;exact⟨cs',(f.block k (lt_of_block h1) (fun e=>by have:=hX k e;have:=lt_of_block hk;omega)).trans h1,e1⟩⟩
end
section
open Go.RowKit Go.Lib Go.WideMaps Go.Maps
variable {w w' u w0:World}{L i:Nat}{D:CAd}{F F' F0:Nat->Nat->Prop}{g v:Value}{σ:CS}{x:Ta.TR}
structure WR where
 ph:Int
 key:Int
 id:Int
 pc:Int
 bad:Bool
abbrev wkA(x:WR):Array Value:=#[.int .i64 x.ph,.int .u64 x.key,.int .i64 x.id,.int .i64 x.pc,.bool x.bad]
abbrev wkV(x:WR):Value:=.agg #[.int .i64 x.ph,.int .u64 x.key,.int .i64 x.id,.int .i64 x.pc,.bool x.bad]
def wk0:WR:=⟨0,0,0,0,false⟩
theorem mq_wk:¬Qu.MQ 78:=by unfold Qu.MQ;decide
theorem qt_wk:¬QT 78:=by unfold QT;decide
def set5(w:World)(K:Nat)(a0 a1 a2 a3 a4:Value):World:=((((w.setCell ⟨K,0,none⟩ a0).setCell ⟨K,1,none⟩ a1).setCell ⟨K,2,none⟩ a2).setCell ⟨K,3,none⟩ a3).setCell ⟨K,4,none⟩ a4
theorem set5_fr(w:World)(K:Nat)(a0 a1 a2 a3 a4:Value):Ta.Fr (fun k=>k=K) w (set5 w K a0 a1 a2 a3 a4):=by
 have q:∀(v:World)(j:Nat)(a:Value),Ta.Fr (fun k=>k=K) v (v.setCell ⟨K,j,none⟩ a):=fun v j a=>Ta.Fr.setCell (fun k=>k=K) v K j a rfl;exact(((((q w 0 a0).trans (q _ 1 a1) (fun j hj=>.inl hj)).trans (q _ 2 a2) (fun j hj=>.inl hj)).trans (q _ 3 a3) (fun j hj=>.inl hj)).trans (q _ 4 a4) (fun j hj=>.inl hj))
theorem set5_at{w:World}{K:Nat}{b0 b1 b2 b3 b4:Value}{U:TypeId}(h:w.heap[K]?=some (.cells #[b0,b1,b2,b3,b4] U (0,0)))(a0 a1 a2 a3 a4:Value):(set5 w K a0 a1 a2 a3 a4).heap[K]?=some (.cells #[a0,a1,a2,a3,a4] U (0,0)):=by
 unfold set5;rw[set_at (set_at (set_at (set_at (set_at h a0) a1) a2) a3) a4]
 rfl
theorem bx5{w:World}{K:Nat}{a0 a1 a2 a3 a4:Value}{U:TypeId}(h:w.heap[K]?=some (.cells #[a0,a1,a2,a3,a4] U (0,0))):w.cell? ⟨K,0,none⟩=some a0/\w.cell? ⟨K,1,none⟩=some a1/\w.cell? ⟨K,2,none⟩=some a2/\w.cell? ⟨K,3,none⟩=some a3/\w.cell? ⟨K,4,none⟩=some a4:=
 ⟨by rw[cell_of_row _ _ _ _ _ _ h];rfl,by rw[cell_of_row _ _ _ _ _ _ h];rfl,by rw[cell_of_row _ _ _ _ _ _ h];rfl,by rw[cell_of_row _ _ _ _ _ _ h];rfl,by rw[cell_of_row _ _ _ _ _ _ h];rfl⟩
theorem Co.own(C:Co w L D F g v σ){X:Nat->Prop}(G:Gc L F0 w0 F w)(hX:∀k,X k->w0.heap.size<=k/\(∀p,¬F p k)/\NQ w k)(hL:L<=w0.heap.size)(f:Ta.Fr X w w'):Cox L D F0 w0 σ w':=
 ⟨F,g,v,C.frX f (fun k hk=>(hX k hk).2),G.ownX (fun k hk=>(hX k hk).1) hL f⟩
theorem fldConf(a b c:Int)(w:World):(Instr.field 28 (.agg #[.int .i64 a,.int .i64 b,.int .i64 c]) 0).run Tryz.prog w=.ok (.int .i64 a) w:=by
 simp[Instr.field,asAgg,part,isAgg,run_underlying Tryz.underlying28,run_underlying Tryz.underlying3,go_sem]
theorem confC(C:Co w L D F g v σ) :
  Calls Tryz.prog 21 #[pt D.B] w fun e w'=>e=.returned (.agg #[.int .i64 σ.th,.int .i64 σ.k,.int .i64 σ.n])/\Below w.heap.size w w':=by
 obtain⟨K,hK⟩:∃J,w.heap.size=J:=⟨_,rfl⟩;obtain⟨u,hu⟩:∃q,w.alloc (.cells #[.int .i64 0,.int .i64 0,.int .i64 0] 28)=q:=⟨_,rfl⟩;have b0:Below w.heap.size w u:=by rw[<-hu];exact belA _ _
 have hk:u.heap[K]?=some (.cells #[.int .i64 0,.int .i64 0,.int .i64 0] 28 (0,0)):=by rw[<-hu,<-hK];exact heap_alloc_new w _
 have C0:=C.below b0;have c0:=C0.c0;have c1:=C0.c1;have c2:=C0.c2;have klt:=lt_of_block hk;have blt:=lt_of_block C0.head;have kfz:∀o,u.frozen? ⟨K,o,none⟩=false:=(fun o=>by simp[World.frozen?,hk]);have k0:u.cell? ⟨K,0,none⟩=some (.int .i64 0):=by rw[cell_of_row _ _ _ _ _ _ hk];rfl
 have k1:u.cell? ⟨K,1,none⟩=some (.int .i64 0):=by rw[cell_of_row _ _ _ _ _ _ hk];rfl
 have k2:u.cell? ⟨K,2,none⟩=some (.int .i64 0):=by rw[cell_of_row _ _ _ _ _ _ hk];rfl
 have E:Aside ((((u.setCell ⟨K,0,none⟩ (.int .i64 σ.th)).setCell ⟨K,1,none⟩ (.int .i64 σ.k)).setCell ⟨K,2,none⟩ (.int .i64 σ.n)).heap[K]?=some (.cells #[.int .i64 σ.th,.int .i64 σ.k,.int .i64 σ.n] 28 (0,0))):=set_at (set_at (set_at hk _) _) _;have FIN:Aside (Below w.heap.size w (((u.setCell ⟨K,0,none⟩ (.int .i64 σ.th)).setCell ⟨K,1,none⟩ (.int .i64 σ.k)).setCell ⟨K,2,none⟩ (.int .i64 σ.n))):=((b0.setCell (le_of_eq hK) _).setCell (le_of_eq hK) _).setCell (le_of_eq hK) _;have HU:Aside _:=hu;have HK:Aside _:=hK;clear C C0 hu b0 hk hK;go_enter Tryz.func21,Tryz.ntmps21
 go_upto_region 1 with fail
 rw[HU.out];try simp only[HK.out]
 go_wp2_with fail
 have eb:=fun j=>cell_of_row _ _ j _ _ _ E.out;have q0:=eb 0;have q1:=eb 1;have q2:=eb 2;refine bodyPost_ret (v:=.agg #[.int .i64 σ.th,.int .i64 σ.k,.int .i64 σ.n]) (by simp[results,Tryz.results21,go_sem,q0,q1,q2]) rfl ⟨rfl,?_⟩;exact FIN.out
theorem wHasC(C:Co w L D F g v σ){t:Nat}(ht:t<σ.th) :
  Calls Tryz.prog 78 #[pt D.B,.int .i64 t] w fun e w'=>e=.returned (.bool true)/\Below w.heap.size w w':=by
 have P:=confC C;have h1:(t:Int)<(σ.th:Int):=by omega
 have h0:(t:Int)>=0:=by omega
 have ff:=fun W=>fldConf σ.th σ.k σ.n W;clear C ht;go_enter Tryz.func78,Tryz.ntmps78
 go_wp2_with fail
 refine P.mono ?_;rintro e w1 ⟨rfl,b⟩;have FIN:Aside _:=b;have ff:=ff w1;clear P b
 go_wp2_with fail
 go_ret;exact⟨rfl,FIN.out⟩
end
section
open Go.RowKit Go.Lib Go.WideMaps Go.Maps
variable {w w' u w0:World}{L i:Nat}{D:CAd}{F F' F0:Nat->Nat->Prop}{g v:Value}{σ:CS}{x:Ta.TR}
structure WB(w u:World)(F:Nat->Nat->Prop)(K:Nat)(x z:WR):Prop where
 a:Bx u F K (wkA x) 78
 b:Bx u F (K+1) (wkA z) 78
theorem WB.new(C:Co w L D F g v σ)(x:WR){K:Nat}(hK:w.heap.size=K):WB w ((w.alloc (.cells (wkA x) 78)).alloc (.cells (wkA wk0) 78)) F K x wk0:=by
 refine⟨(hK▸Bx.new C (wkA x) 78).below (belA _ _),?_⟩;have h:=Bx.new (C.below (belA w (.cells (wkA x) 78))) (wkA wk0) 78;rw[show(w.alloc (.cells (wkA x) 78)).heap.size=K+1 by simp[hK]] at h;exact h
theorem WB.gc{x z:WR}{K:Nat}(h:WB w u F K x z)(G:Gc L F u F' w'):WB w w' F' K x z:=⟨h.a.gc mq_wk G,h.b.gc mq_wk G⟩
theorem WB.bel{x z:WR}{K:Nat}(h:WB w u F K x z)(b:Below u.heap.size u w'):WB w w' F K x z:=⟨h.a.below b,h.b.below b⟩
theorem WB.fin{x z y:WR}{K:Nat}{U:World}{F2:Nat->Nat->Prop}{g2 v2:Value}{τ:CS}(h:WB w U F2 K x z)(C:Co U L D F2 g2 v2 τ)(G:Gc L F w F2 U)(hK:w.heap.size=K)(hL:L<=w.heap.size) :
  (set5 U (K+1) (.int .i64 y.ph) (.int .u64 y.key) (.int .i64 y.id) (.int .i64 y.pc) (.bool y.bad)).heap[K+1]?=some (.cells (wkA y) 78 (0,0))/\Cox L D F w τ (set5 U (K+1) (.int .i64 y.ph) (.int .u64 y.key) (.int .i64 y.id) (.int .i64 y.pc) (.bool y.bad)):=by
 refine⟨set5_at h.b.1 _ _ _ _ _,C.own G (fun k hk=>?_) hL (set5_fr _ _ _ _ _ _ _)⟩;subst hk;exact⟨by omega,h.b.2,nq_of h.b.1 qt_wk⟩
theorem seekS(C:Co w L D F g v σ)(x:WR){t:Nat}(ht:t<σ.th)(hn:σ.qn<=1000)(hf:(σ.q.g t).f=true)(dr:Int) :
  Calls Tryz.prog 127 #[pt D.B,wkV x,.int .i64 t,.int .u64 dr] w fun e w'=>e=.returned (.tuple #[wkV x,.int .i64 2])/\Cox L D F w (setS σ t) w':=by
 obtain⟨K,hK⟩:∃J,w.heap.size=J:=⟨_,rfl⟩;have W0:=WB.new C x hK;obtain⟨u,hu⟩:∃q,(w.alloc (.cells (wkA x) 78)).alloc (.cells (wkA wk0) 78)=q:=⟨_,rfl⟩;have b0:Below w.heap.size w u:=by rw[<-hu];exact belT (belA _ _) (belA _ _)
 rw[hu] at W0;have P:=settleC (C.below b0) ht hn;rw[hf] at P;have HC:Aside (Gc L F w F u/\w.heap.size=K/\L<=w.heap.size/\WB w u F K x wk0):=⟨Gc.below F C.lw b0,hK,C.lw,W0⟩;obtain⟨x0,x1,x2,x3,x4⟩:=x;have HU:Aside _:=hu;clear C W0 hu b0 hn hf ht;go_enter Tryz.func127,Tryz.ntmps127
 go_upto_region 1 with fail
 rw[show(w.alloc (.cells #[.int .i64 x0,.int .u64 x1,.int .i64 x2,.int .i64 x3,.bool x4] 78)).alloc (.cells #[.int .i64 0,.int .u64 0,.int .i64 0,.int .i64 0,.bool false] 78)=u from HU.out];try simp only[hK]
 go_wp2_with fail
 refine P.mono ?_;rintro e w1 ⟨rfl,F1,g1,v1,C1,G1⟩;have W1:=HC.out.2.2.2.gc G1;obtain⟨a0,a1,a2,a3,a4⟩:=bx5 W1.a.1;obtain⟨b0,b1,b2,b3,b4⟩:=bx5 W1.b.1;have alt:=lt_of_block W1.a.1;have blt:=lt_of_block W1.b.1;have bfz:∀o,w1.frozen? ⟨K+1,o,none⟩=false:=(fun o=>by simp[World.frozen?,W1.b.1]);have FF:=W1.fin (y:=⟨x0,x1,x2,x3,x4⟩) C1 (HC.out.1.trans G1) hK HC.out.2.2.1;have E:Aside _:=FF.1;have FIN:Aside _:=FF.2;clear P C1 G1 W1 FF
 go_wp2_with fail
 have eb:=fun j=>cell_of_row _ _ j _ _ _ E.out;have q0:=eb 0;have q1:=eb 1;have q2:=eb 2;have q3:=eb 3;have q4:=eb 4;unfold set5 at q0 q1 q2 q3 q4;refine bodyPost_ret (v:=.tuple #[.agg #[.int .i64 x0,.int .u64 x1,.int .i64 x2,.int .i64 x3,.bool x4],.int .i64 2]) (by simp[results,Tryz.results127,go_sem,q0,q1,q2,q3,q4]) rfl ⟨rfl,?_⟩;exact FIN.out
theorem seekN(C:Co w L D F g v σ)(x:WR){t:Nat}(ht:t<σ.th)(hn:σ.qn<=1000)(hf:(σ.q.g t).f=false)(dr k d:Int){σ':CS}(PL:∀w1 F1 g1 v1,Co w1 L D F1 g1 v1 (setS σ t)->Calls Tryz.prog 63 #[pt D.B,.int .i64 t,.int .u64 dr] w1 fun e w'=>e=.returned (.tuple #[.agg #[.int .u64 k,.int .i64 d],.bool false])/\Cox L D F1 w1 σ' w') :
  Calls Tryz.prog 127 #[pt D.B,wkV x,.int .i64 t,.int .u64 dr] w fun e w'=>e=.returned (.tuple #[wkV x,.int .i64 0])/\Cox L D F w σ' w':=by
 obtain⟨K,hK⟩:∃J,w.heap.size=J:=⟨_,rfl⟩;have W0:=WB.new C x hK;obtain⟨u,hu⟩:∃q,(w.alloc (.cells (wkA x) 78)).alloc (.cells (wkA wk0) 78)=q:=⟨_,rfl⟩;have b0:Below w.heap.size w u:=by rw[<-hu];exact belT (belA _ _) (belA _ _)
 rw[hu] at W0;have P:=settleC (C.below b0) ht hn;rw[hf] at P;have HC:Aside (Gc L F w F u/\w.heap.size=K/\L<=w.heap.size/\WB w u F K x wk0):=⟨Gc.below F C.lw b0,hK,C.lw,W0⟩;have HP:Aside _:=PL;obtain⟨x0,x1,x2,x3,x4⟩:=x;have HU:Aside _:=hu;clear C W0 hu b0 hn hf ht PL;go_enter Tryz.func127,Tryz.ntmps127
 go_upto_region 1 with fail
 rw[show(w.alloc (.cells #[.int .i64 x0,.int .u64 x1,.int .i64 x2,.int .i64 x3,.bool x4] 78)).alloc (.cells #[.int .i64 0,.int .u64 0,.int .i64 0,.int .i64 0,.bool false] 78)=u from HU.out];try simp only[hK]
 go_wp2_with fail
 refine P.mono ?_;rintro e w1 ⟨rfl,F1,g1,v1,C1,G1⟩;have W1:=HC.out.2.2.2.gc G1;have X1:Aside (Gc L F w F1 w1/\WB w w1 F1 K ⟨x0,x1,x2,x3,x4⟩ wk0):=⟨HC.out.1.trans G1,W1⟩;have P:=HP.out w1 F1 g1 v1 C1;clear C1 G1 W1
 go_wp2_with fail
 refine P.mono ?_;rintro e w2 ⟨rfl,F2,g2,v2,C2,G2⟩;obtain⟨J,hJ⟩:∃J,w2.heap.size=J:=⟨_,rfl⟩;obtain⟨u2,hu2⟩:∃q,w2.alloc (.cells #[.int .u64 k,.int .i64 d] 36)=q:=⟨_,rfl⟩;have b2:Below w2.heap.size w2 u2:=by rw[<-hu2];exact belA _ _
 have BJ:Bx u2 F2 J #[.int .u64 k,.int .i64 d] 36:=by rw[<-hu2,<-hJ];exact Bx.new C2 _ _
 have W2:=(X1.out.2.gc G2).bel b2;have C3:=C2.below b2;have G3:Gc L F w F2 u2:=(X1.out.1.trans G2).trans (Gc.below F2 C2.lw b2);obtain⟨a0,a1,a2,a3,a4⟩:=bx5 W2.a.1;obtain⟨b0,b1,b2',b3,b4⟩:=bx5 W2.b.1;have alt:=lt_of_block W2.a.1;have blt:=lt_of_block W2.b.1;have bfz:∀o,u2.frozen? ⟨K+1,o,none⟩=false:=(fun o=>by simp[World.frozen?,W2.b.1]);have FF:=W2.fin (y:=⟨x0,x1,x2,x3,x4⟩) C3 G3 hK HC.out.2.2.1;have E:Aside _:=FF.1;have FIN:Aside _:=FF.2;have HU2:Aside _:=hu2;have HJ:Aside _:=hJ;clear P C2 G2 W2 C3 G3 FF BJ hu2 hJ b2;go_upto_region 4 with fail
 rw[HU2.out];try simp only[HJ.out]
 go_wp2_with fail
 have eb:=fun j=>cell_of_row _ _ j _ _ _ E.out;have q0:=eb 0;have q1:=eb 1;have q2:=eb 2;have q3:=eb 3;have q4:=eb 4;unfold set5 at q0 q1 q2 q3 q4;refine bodyPost_ret (v:=.tuple #[.agg #[.int .i64 x0,.int .u64 x1,.int .i64 x2,.int .i64 x3,.bool x4],.int .i64 0]) (by simp[results,Tryz.results127,go_sem,q0,q1,q2,q3,q4]) rfl ⟨rfl,?_⟩;exact FIN.out
end
section
open Go.RowKit Go.Lib Go.WideMaps Go.Maps
variable {w w' u w0:World}{L i:Nat}{D:CAd}{F F' F0:Nat->Nat->Prop}{g v:Value}{σ:CS}{x:Ta.TR}
theorem seekL(C:Co w L D F g v σ)(x:WR){t:Nat}(ht:t<σ.th)(hn:σ.qn<=1000)(hf:(σ.q.g t).f=false)(dr k d:Int){σ':CS}(PL:∀w1 F1 g1 v1,Co w1 L D F1 g1 v1 (setS σ t)->Calls Tryz.prog 63 #[pt D.B,.int .i64 t,.int .u64 dr] w1 fun e w'=>e=.returned (.tuple #[.agg #[.int .u64 k,.int .i64 d],.bool true])/\Cox L D F1 w1 σ' w') :
  Calls Tryz.prog 127 #[pt D.B,wkV x,.int .i64 t,.int .u64 dr] w fun e w'=>e=.returned (.tuple #[wkV ⟨x.ph,k,d,x.pc,x.bad⟩,.int .i64 1])/\Cox L D F w σ' w':=by
 obtain⟨K,hK⟩:∃J,w.heap.size=J:=⟨_,rfl⟩;have W0:=WB.new C x hK;obtain⟨u,hu⟩:∃q,(w.alloc (.cells (wkA x) 78)).alloc (.cells (wkA wk0) 78)=q:=⟨_,rfl⟩;have b0:Below w.heap.size w u:=by rw[<-hu];exact belT (belA _ _) (belA _ _)
 rw[hu] at W0;have P:=settleC (C.below b0) ht hn;rw[hf] at P;have HC:Aside (Gc L F w F u/\w.heap.size=K/\L<=w.heap.size/\WB w u F K x wk0):=⟨Gc.below F C.lw b0,hK,C.lw,W0⟩;have HP:Aside _:=PL;obtain⟨x0,x1,x2,x3,x4⟩:=x;have HU:Aside _:=hu;clear C W0 hu b0 hn hf ht PL;go_enter Tryz.func127,Tryz.ntmps127
 go_upto_region 1 with fail
 rw[show(w.alloc (.cells #[.int .i64 x0,.int .u64 x1,.int .i64 x2,.int .i64 x3,.bool x4] 78)).alloc (.cells #[.int .i64 0,.int .u64 0,.int .i64 0,.int .i64 0,.bool false] 78)=u from HU.out];try simp only[hK]
 go_wp2_with fail
 refine P.mono ?_;rintro e w1 ⟨rfl,F1,g1,v1,C1,G1⟩;have W1:=HC.out.2.2.2.gc G1;have X1:Aside (Gc L F w F1 w1/\WB w w1 F1 K ⟨x0,x1,x2,x3,x4⟩ wk0):=⟨HC.out.1.trans G1,W1⟩;have P:=HP.out w1 F1 g1 v1 C1;clear C1 G1 W1
 go_wp2_with fail
 refine P.mono ?_;rintro e w2 ⟨rfl,F2,g2,v2,C2,G2⟩;obtain⟨J,hJ⟩:∃J,w2.heap.size=J:=⟨_,rfl⟩;obtain⟨u2,hu2⟩:∃q,w2.alloc (.cells #[.int .u64 k,.int .i64 d] 36)=q:=⟨_,rfl⟩;have b2:Below w2.heap.size w2 u2:=by rw[<-hu2];exact belA _ _
 have BJ:Bx u2 F2 J #[.int .u64 k,.int .i64 d] 36:=by rw[<-hu2,<-hJ];exact Bx.new C2 _ _
 have W2:=(X1.out.2.gc G2).bel b2;have C3:=C2.below b2;have G3:Gc L F w F2 u2:=(X1.out.1.trans G2).trans (Gc.below F2 C2.lw b2);obtain⟨a0,a1,a2,a3,a4⟩:=bx5 W2.a.1;obtain⟨b0,b1,b2',b3,b4⟩:=bx5 W2.b.1;have alt:=lt_of_block W2.a.1;have blt:=lt_of_block W2.b.1;have bfz:∀o,u2.frozen? ⟨K+1,o,none⟩=false:=(fun o=>by simp[World.frozen?,W2.b.1]);have afz:∀o,u2.frozen? ⟨K,o,none⟩=false:=(fun o=>by simp[World.frozen?,W2.a.1]);obtain⟨j0,j1⟩:=bx2 BJ.1;have jlt:=lt_of_block BJ.1
 -- the entry is laid into the worker
 obtain⟨u3,hu3⟩:∃q,(u2.setCell ⟨K,1,none⟩ (.int .u64 k)).setCell ⟨K,2,none⟩ (.int .i64 d)=q:=⟨_,rfl⟩;have hA3:u3.heap[K]?=some (.cells #[.int .i64 x0,.int .u64 k,.int .i64 d,.int .i64 x3,.bool x4] 78 (0,0)):=by rw[<-hu3];exact set_at (set_at W2.a.1 _) _
 have f3:Ta.Fr (fun j=>j=K) u2 u3:=by
  rw[<-hu3];exact(Ta.Fr.setCell (fun j=>j=K) u2 K 1 (.int .u64 k) rfl).trans (Ta.Fr.setCell (fun j=>j=K) _ K 2 (.int .i64 d) rfl) (fun j hj=>.inl hj)
 have hB3:u3.heap[K+1]?=some (.cells (wkA wk0) 78 (0,0)):=(f3.block (K+1) blt (by omega)).trans W2.b.1;have f5:Ta.Fr (fun j=>j=K\/j=K+1) u2 (set5 u3 (K+1) (.int .i64 x0) (.int .u64 k) (.int .i64 d) (.int .i64 x3) (.bool x4)):=(f3.mono (fun j hj=>.inl hj)).trans (set5_fr u3 (K+1) _ _ _ _ _) (fun j hj=>.inl (.inr hj));have E:Aside ((set5 u3 (K+1) (.int .i64 x0) (.int .u64 k) (.int .i64 d) (.int .i64 x3) (.bool x4)).heap[K+1]?=some (.cells #[.int .i64 x0,.int .u64 k,.int .i64 d,.int .i64 x3,.bool x4] 78 (0,0))):=set5_at hB3 _ _ _ _ _
 have FIN:Aside (Cox L D F w σ' (set5 u3 (K+1) (.int .i64 x0) (.int .u64 k) (.int .i64 d) (.int .i64 x3) (.bool x4))):=C3.own G3 (fun j hj=>by
  rcases hj with rfl|rfl
  ·exact⟨by omega,W2.a.2,nq_of W2.a.1 qt_wk⟩
  ·exact⟨by omega,W2.b.2,nq_of W2.b.1 qt_wk⟩) HC.out.2.2.1 f5
 obtain⟨d0,d1,d2,d3,d4⟩:=bx5 hA3;obtain⟨e0,e1,e2,e3,e4⟩:=bx5 hB3;have dlt:=lt_of_block hA3;have elt:=lt_of_block hB3;have efz:∀o,u3.frozen? ⟨K+1,o,none⟩=false:=(fun o=>by simp[World.frozen?,hB3]);have HU2:Aside _:=hu2;have HJ:Aside _:=hJ;have HU3:Aside _:=hu3;clear P C2 G2 W2 C3 G3 BJ hu2 hJ hu3 b2 hA3 hB3 f3 f5;go_upto_region 4 with fail
 rw[HU2.out];try simp only[HJ.out]
 go_upto_region 7 with fail
 rw[HU3.out]
 go_wp2_with fail
 have eb:=fun j=>cell_of_row _ _ j _ _ _ E.out;have q0:=eb 0;have q1:=eb 1;have q2:=eb 2;have q3:=eb 3;have q4:=eb 4;unfold set5 at q0 q1 q2 q3 q4;refine bodyPost_ret (v:=.tuple #[.agg #[.int .i64 x0,.int .u64 k,.int .i64 d,.int .i64 x3,.bool x4],.int .i64 1]) (by simp[results,Tryz.results127,go_sem,q0,q1,q2,q3,q4]) rfl ⟨rfl,?_⟩;exact FIN.out
end
section
open Go.RowKit Go.Lib Go.WideMaps Go.Maps
theorem wf_of{a:Int}(h1 : -9223372036854775808<=a)(h2:a<=9223372036854775807):Da.wfI a:=Da.wfI_of h1 h2
end
section
open Go.RowKit Go.Lib Go.WideMaps Go.Maps
variable {w w' u:World}{L i:Nat}{D:CAd}{F F':Nat->Nat->Prop}{g v:Value}{σ:CS}{x:Ta.TR}
def rowK(i:Nat)(x:Ta.TR):List Value:=[.int .i64 ((i:Int)+1),.int .i64 x.prio,.int .i64 x.s,.int .u64 x.due,.int .u64 x.key,.int .u64 x.r,.int .u64 x.m]
def Fil(cs:Array Value)(T:List Ta.TR)(k:Nat):Prop:=∀i,i<k->∀x,T[i]?=some x->∀j,j<7->cs[i*7+j]?=(rowK i x)[j]?
def set7(cs:Array Value)(O:Nat)(a0 a1 a2 a3 a4 a5 a6:Value):Array Value:=(((((((cs.setIfInBounds O a0).setIfInBounds (O+1) a1).setIfInBounds (O+2) a2).setIfInBounds (O+3) a3).setIfInBounds (O+4) a4).setIfInBounds (O+5) a5).setIfInBounds (O+6) a6)
theorem set7_size(cs:Array Value)(O:Nat)(a0 a1 a2 a3 a4 a5 a6:Value):(set7 cs O a0 a1 a2 a3 a4 a5 a6).size=cs.size:=by simp[set7]
theorem set7_old(cs:Array Value){O p:Nat}(a0 a1 a2 a3 a4 a5 a6:Value)(hp:p<O\/O+7<=p):(set7 cs O a0 a1 a2 a3 a4 a5 a6)[p]?=cs[p]?:=by
 unfold set7;rw[getElem?_setIfInBounds_ne (by omega),getElem?_setIfInBounds_ne (by omega),getElem?_setIfInBounds_ne (by omega),getElem?_setIfInBounds_ne (by omega),getElem?_setIfInBounds_ne (by omega),getElem?_setIfInBounds_ne (by omega),getElem?_setIfInBounds_ne (by omega)]
theorem set7_new(cs:Array Value){O:Nat}(a0 a1 a2 a3 a4 a5 a6:Value)(hO:O+7<=cs.size)(j:Nat)(hj:j<7):(set7 cs O a0 a1 a2 a3 a4 a5 a6)[O+j]?=([a0,a1,a2,a3,a4,a5,a6]:List Value)[j]?:=by
 unfold set7;have:j=0\/j=1\/j=2\/j=3\/j=4\/j=5\/j=6:=by omega
 rcases this with rfl|rfl|rfl|rfl|rfl|rfl|rfl
 ·show(Array.setIfInBounds _ (O+6) a6)[O]?=some a0;rw[getElem?_setIfInBounds_ne (by omega),getElem?_setIfInBounds_ne (by omega),getElem?_setIfInBounds_ne (by omega),getElem?_setIfInBounds_ne (by omega),getElem?_setIfInBounds_ne (by omega),getElem?_setIfInBounds_ne (by omega)];exact Array.getElem?_setIfInBounds_self_of_lt (by omega)
 all_goals (repeat (first|rw[Array.getElem?_setIfInBounds_self_of_lt (by simp only[Array.size_setIfInBounds];omega)]|rw[getElem?_setIfInBounds_ne (by omega)]))
 all_goals rfl
theorem Fil.up{cs:Array Value}{T:List Ta.TR}{k:Nat}(h:Fil cs T k)(hx:T[k]?=some x)(hO:k*7+7<=cs.size):Fil (set7 cs (k*7) (.int .i64 ((k:Int)+1)) (.int .i64 x.prio) (.int .i64 x.s) (.int .u64 x.due) (.int .u64 x.key) (.int .u64 x.r) (.int .u64 x.m)) T (k+1):=by
 intro i hi y hy j hj;by_cases c:i=k
 ·subst c;obtain rfl:x=y:=Option.some.inj (hx.symm.trans hy);exact set7_new _ _ _ _ _ _ _ _ hO j hj
 ·rw[set7_old _ _ _ _ _ _ _ _ (by omega)];exact h i (by omega) y hy j hj
theorem infoTk:∃i,Tryz.prog.info? 45=some i/\i.zero=some (.agg #[.int .i64 0,.int .i64 0,.int .i64 0,.int .u64 0,.int .u64 0,.int .u64 0,.int .u64 0])/\i.size=7/\i.bytes=56:=by
 have h:(Tryz.prog.info? 45).map (fun i=>(i.zero,i.size,i.bytes))=some (some (.agg #[.int .i64 0,.int .i64 0,.int .i64 0,.int .u64 0,.int .u64 0,.int .u64 0,.int .u64 0]),7,56):=by kernel_rfl
 obtain⟨i,h1,h2⟩:=Option.map_eq_some_iff.1 h;simp at h2;exact⟨i,h1,h2.1,h2.2.1,h2.2.2⟩
theorem makeTk(w:World)(n:Nat)(hn:n<=200) :
  ∃cs:Array Value,(Instr.makeSlice 37 (.int .i64 (n:Int)) (.int .i64 (n:Int))).run Tryz.prog w=.ok (.slice (some ⟨w.heap.size,0,none⟩) n n) (w.alloc (.cells cs 45))/\cs.size=n*7:=by
 obtain⟨i,hi,hz,hs,hby⟩:=infoTk;have hm:=run_make (P:=Tryz.prog) w 37 45 i _ Tryz.underlying37 hi hz .i64 .i64 n n (by omega) (Int.le_refl _) (by rw[hby];omega) (by omega);simp only[Int.toNat_natCast,hs] at hm;exact⟨_,hm,by simp[madeCells]⟩
def AllIs(w:World)(X:Nat->Prop)(B:Nat)(T:List Ta.TR)(e:Ending)(w':World):Prop:=∃K cs,e=.returned (.slice (some ⟨K,0,none⟩) T.length T.length)/\w.heap.size<=K/\w'.heap[K]?=some (.cells cs 45 (0,0))/\Fil cs T T.length/\Ta.Tb w' X B 200 T/\Ta.Fr X w w'
theorem allT{X:Nat->Prop}{B:Nat}{T:List Ta.TR}(h:Ta.Tb w X B 200 T):Calls Tryz.prog 52 #[pt B] w (AllIs w X B T):=by
 have hl:=h.ok.2.1;have P:=Ta.lenT h;obtain⟨n,hn⟩:∃n,T.length=n:=⟨_,rfl⟩;rw[hn] at P hl;obtain⟨cs0,hmk,hcs⟩:=makeTk w n hl;obtain⟨u,hu⟩:∃z,w.alloc (.cells cs0 45)=z:=⟨_,rfl⟩;rw[hu] at hmk;obtain⟨K,hK⟩:∃K,w.heap.size=K:=⟨_,rfl⟩;have b0:Below w.heap.size w u:=by rw[<-hu];exact belA _ _
 have hB:u.heap[K]?=some (.cells cs0 45 (0,0)):=by rw[<-hu,<-hK];exact heap_alloc_new w _
 have HH:Aside (T.length=n/\n<=200/\w.heap.size=K/\(∀k,X k->k<K)):=⟨hn,hl,hK,fun k hk=>by have:=h.lt hk;omega⟩;have ST:Aside (Ta.Tb u X B 200 T/\Ta.Fr X w u/\u.heap[K]?=some (.cells cs0 45 (0,0))/\cs0.size=n*7):=⟨h.below b0,Ta.Fr.below b0,hB,hcs⟩;rw[hK] at hmk;clear h hn hu b0 hB hcs hK;go_enter Tryz.func52,Tryz.ntmps52
 go_wp2_with fail
 refine P.mono ?_;rintro e w1 ⟨rfl,rfl⟩;clear P
 go_wp2_with fail
 go_loopg [4,10] n (fun kx s4 s10 wr=>∃(k:Nat),s10=.int .i64 k/\k<=n/\n-k<=kx/\Aside (Ta.Tb wr X B 200 T/\Ta.Fr X w1 wr/\∃cs,wr.heap[K]?=some (.cells cs 45 (0,0))/\cs.size=n*7/\Fil cs T k))
 case atStart=>exact⟨0,rfl,by omega,by omega,ST.out.1,ST.out.2.1,cs0,ST.out.2.2.1,ST.out.2.2.2,fun i hi=>by omega⟩
 case round=>
  obtain⟨k,rfl,hk,hkx,S1⟩:=hrel;by_cases c:k<n
  ·have hlt:(k:Int)<(n:Int):=by omega
   have hkd:k<T.length:=by rw[HH.out.1];exact c
   obtain⟨x,hx⟩:∃x,T[k]?=some x:=⟨_,List.getElem?_eq_getElem hkd⟩;have P:=Ta.getG S1.out.1 hx;obtain⟨I1,hI1⟩:∃I1,(k:Int)+1=I1:=⟨_,rfl⟩;have hwr:IntKind.i64.wrap ((k:Int)+1)=I1:=by rw[IntKind.wrap_i64];omega
   rw[hI1] at P;have HX:Aside (T[k]?=some x/\(k:Int)+1=I1):=⟨hx,hI1⟩;clear hx hkd hI1
   go_wp2_with fail
   refine P.mono ?_;rintro e w2 ⟨rfl,T2,s2⟩;clear P;obtain⟨_,f1,cs,hcs,hsz,hfil⟩:=S1.out;have hK2:w2.heap[K]?=some (.cells cs 45 (0,0)):=(s2.fr.block K (lt_of_block hcs) (fun e=>by have:=HH.out.2.2.2 K e;omega)).trans hcs;obtain⟨O,hO⟩:∃O,k*7=O:=⟨_,rfl⟩;have hOs:O+7<=cs.size:=by omega
   have cl:∀j,j<7->∃z,w2.cell? ⟨K,O+j,none⟩=some z:=fun j hj=>⟨cs[O+j]'(by omega),by rw[cell_of_row _ _ _ _ _ _ hK2,Array.getElem?_eq_getElem (by omega)]⟩;obtain⟨z0,m0⟩:=cl 0 (by omega);rw[Nat.add_zero] at m0;obtain⟨z1,m1⟩:=cl 1 (by omega);obtain⟨z2,m2⟩:=cl 2 (by omega);obtain⟨z3,m3⟩:=cl 3 (by omega);obtain⟨z4,m4⟩:=cl 4 (by omega);obtain⟨z5,m5⟩:=cl 5 (by omega);obtain⟨z6,m6⟩:=cl 6 (by omega);have mlt:=lt_of_block hK2;have mfz:∀o,w2.frozen? ⟨K,o,none⟩=false:=(fun o=>by simp[World.frozen?,hK2]);have E:Aside ((((((((w2.setCell ⟨K,O,none⟩ (.int .i64 I1)).setCell ⟨K,O+1,none⟩ (.int .i64 x.prio)).setCell ⟨K,O+2,none⟩ (.int .i64 x.s)).setCell ⟨K,O+3,none⟩ (.int .u64 x.due)).setCell ⟨K,O+4,none⟩ (.int .u64 x.key)).setCell ⟨K,O+5,none⟩ (.int .u64 x.r)).setCell ⟨K,O+6,none⟩ (.int .u64 x.m)).heap[K]?=some (.cells (set7 cs O (.int .i64 I1) (.int .i64 x.prio) (.int .i64 x.s) (.int .u64 x.due) (.int .u64 x.key) (.int .u64 x.r) (.int .u64 x.m)) 45 (0,0))):=set_at (set_at (set_at (set_at (set_at (set_at (set_at hK2 _) _) _) _) _) _) _;have sK:∀(u0:World)(j:Nat)(z:Value),Ta.Fr (fun k=>k=K) u0 (u0.setCell ⟨K,j,none⟩ z):=fun u0 j z=>Ta.Fr.setCell (fun k=>k=K) u0 K j z rfl
   have FK:Ta.Fr (fun k=>k=K) w2 (((((((w2.setCell ⟨K,O,none⟩ (.int .i64 I1)).setCell ⟨K,O+1,none⟩ (.int .i64 x.prio)).setCell ⟨K,O+2,none⟩ (.int .i64 x.s)).setCell ⟨K,O+3,none⟩ (.int .u64 x.due)).setCell ⟨K,O+4,none⟩ (.int .u64 x.key)).setCell ⟨K,O+5,none⟩ (.int .u64 x.r)).setCell ⟨K,O+6,none⟩ (.int .u64 x.m)):=
    ((((((sK w2 O _).trans (sK _ (O+1) _) (fun j hj=>.inl hj)).trans (sK _ (O+2) _) (fun j hj=>.inl hj)).trans (sK _ (O+3) _) (fun j hj=>.inl hj)).trans (sK _ (O+4) _) (fun j hj=>.inl hj)).trans (sK _ (O+5) _) (fun j hj=>.inl hj)).trans (sK _ (O+6) _) (fun j hj=>.inl hj)
   have FIN:Aside (Ta.Tb (((((((w2.setCell ⟨K,O,none⟩ (.int .i64 I1)).setCell ⟨K,O+1,none⟩ (.int .i64 x.prio)).setCell ⟨K,O+2,none⟩ (.int .i64 x.s)).setCell ⟨K,O+3,none⟩ (.int .u64 x.due)).setCell ⟨K,O+4,none⟩ (.int .u64 x.key)).setCell ⟨K,O+5,none⟩ (.int .u64 x.r)).setCell ⟨K,O+6,none⟩ (.int .u64 x.m)) X B 200 T/\Ta.Fr X w1 (((((((w2.setCell ⟨K,O,none⟩ (.int .i64 I1)).setCell ⟨K,O+1,none⟩ (.int .i64 x.prio)).setCell ⟨K,O+2,none⟩ (.int .i64 x.s)).setCell ⟨K,O+3,none⟩ (.int .u64 x.due)).setCell ⟨K,O+4,none⟩ (.int .u64 x.key)).setCell ⟨K,O+5,none⟩ (.int .u64 x.r)).setCell ⟨K,O+6,none⟩ (.int .u64 x.m))/\∃cs,(((((((w2.setCell ⟨K,O,none⟩ (.int .i64 I1)).setCell ⟨K,O+1,none⟩ (.int .i64 x.prio)).setCell ⟨K,O+2,none⟩ (.int .i64 x.s)).setCell ⟨K,O+3,none⟩ (.int .u64 x.due)).setCell ⟨K,O+4,none⟩ (.int .u64 x.key)).setCell ⟨K,O+5,none⟩ (.int .u64 x.r)).setCell ⟨K,O+6,none⟩ (.int .u64 x.m)).heap[K]?=some (.cells cs 45 (0,0))/\cs.size=n*7/\Fil cs T (k+1)):=by
    refine⟨T2.fr FK (fun k hk e=>by have:=HH.out.2.2.2 k hk;omega),(f1.trans s2.fr (fun j hj=>.inl hj)).trans FK (fun j hj=>.inr (by rw[HH.out.2.2.1];exact le_of_eq hj.symm)),_,E.out,by rw[set7_size];exact hsz,?_⟩;have:=(show Fil cs T k from hfil).up HX.out.1 (by omega);rw[hO,HX.out.2] at this;exact this
   clear T2 s2 f1 hcs hsz hfil hK2 cl FK sK E S1 hOs
   go_wp2_with fail
   go_roundg (n-(k+1))
   case measure=>omega
   case rel=>exact⟨k+1,congrArg (Value.int .i64) (by have:=HX.out.2;omega),by omega,Nat.le_refl _,FIN⟩
  ·obtain rfl:k=n:=by omega
   have hnl:¬(k:Int)<(k:Int):=by omega
   have FIN:Aside (AllIs w1 X B T (.returned (.slice (some ⟨K,0,none⟩) k k)) wr):=by
    obtain⟨t1,f1,cs,hcs,hsz,hfil⟩:=S1.out;exact⟨K,cs,by rw[HH.out.1],by rw[HH.out.2.2.1];exact Nat.le_refl _,hcs,by rw[HH.out.1];exact hfil,t1,f1⟩
   go_wp2_with fail
   go_ret;exact FIN.out
end
end Go.Proofs.YthpgfmmpjoodkaaGreatDoor
