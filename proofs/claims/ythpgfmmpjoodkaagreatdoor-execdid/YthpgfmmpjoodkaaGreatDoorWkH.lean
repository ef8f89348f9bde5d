import Derived.Test.YthpgfmmpjoodkaaGreatDoorOpE
import Derived.Test.YthpgfmmpjoodkaaGreatDoorWkL
import Derived.Test.YthpgfmmpjoodkaaGreatDoorCoU
open List(length_set set_append_right)
open Nat(le_of_eq le_succ_of_le succ_le_succ)
namespace Go.Proofs.YthpgfmmpjoodkaaGreatDoor
set_option maxHeartbeats 8000000
set_option maxRecDepth 100000
set_option linter.unusedVariables false
open Go.RowKit Go.Lib Go.WideMaps Go.Maps
section
variable {w w' u w0:World}{L i:Nat}{D:CAd}{F F' F0:Nat->Nat->Prop}{g v:Value}{σ σ':CS}
theorem Wk.Stp.alloc{M:Nat}(h:Wk.Stp w M)(o:Obj):Wk.Stp (w.alloc o) M:=by
 obtain⟨D,a,b,c⟩:=h;exact⟨D,a.alloc o,b,c⟩
theorem stepB(C:Co w L D F g v σ)(x y:WR){t:Nat}(ht:t<σ.th)(dr f did ph:Int){j:Nat}(hj:j∈Wk.placesC)(hc:Wk.chAt j=(x.ph,f))(hv:Wk.fnAt j=(did,ph))(PT:∀w1,Below w.heap.size w w1->Co w1 L D F g v σ->Calls Tryz.prog 79 #[pt D.B,wkV x,.int .i64 t,.int .u64 dr] w1 fun e w'=>e=.returned (.tuple #[wkV y,.int .i64 f])/\Cox L D F w1 σ' w') :
  Calls Tryz.prog 32 #[pt D.B,wkV x,.int .i64 t,.int .u64 dr] w fun e w'=>e=.returned (.tuple #[wkV ⟨ph,y.key,y.id,y.pc,y.bad⟩,.int .i64 did])/\Cox L D F w σ' w':=by
 obtain⟨K,hK⟩:∃J,w.heap.size=J:=⟨_,rfl⟩;have W0:=WB.new C x hK;obtain⟨u,hu⟩:∃q,(w.alloc (.cells (wkA x) 78)).alloc (.cells (wkA wk0) 78)=q:=⟨_,rfl⟩;have b0:Below w.heap.size w u:=by rw[<-hu];exact belT (belA _ _) (belA _ _)
 rw[hu] at W0;have P:=wHasC (C.below b0) ht;have HC:Aside (Gc L F w F u/\w.heap.size=K/\L<=w.heap.size/\WB w u F K x wk0/\Co u L D F g v σ):=⟨Gc.below F C.lw b0,hK,C.lw,W0,C.below b0⟩;have HT:Aside _:=PT;have HB0:Aside (Below w.heap.size w u):=b0;obtain⟨x0,x1,x2,x3,x4⟩:=x;obtain⟨y0,y1,y2,y3,y4⟩:=y
 have LK:Aside (∀(W:World)(M:Nat),Wk.Stp W M->(Instr.lookup 143 (.map (some M)) (.agg #[.int .i64 x0,.int .i64 f]) true).run Tryz.prog W=.ok (.tuple #[.agg #[.int .i64 did,.int .i64 ph],.bool true]) W):=fun W M st=>by
  have:=st.look hj;unfold Wk.vAt at this;rw[hc,hv] at this;exact this
 have HU:Aside _:=hu;clear C W0 hu b0 PT ht hj hc hv;go_enter Tryz.func32,Tryz.ntmps32
 go_upto_region 1 with fail
 rw[show(w.alloc (.cells #[.int .i64 x0,.int .u64 x1,.int .i64 x2,.int .i64 x3,.bool x4] 78)).alloc (.cells #[.int .i64 0,.int .u64 0,.int .i64 0,.int .i64 0,.bool false] 78)=u from HU.out];try simp only[hK]
 go_wp2_with fail
 refine P.mono ?_;rintro e w1 ⟨rfl,b1⟩;have C1:=HC.out.2.2.2.2.below b1;have W1:=HC.out.2.2.2.1.bel b1;have X1:Aside (Gc L F w F w1/\WB w w1 F K ⟨x0,x1,x2,x3,x4⟩ wk0):=⟨HC.out.1.trans (Gc.below F HC.out.2.2.2.2.lw b1),W1⟩;obtain⟨a0,a1,a2,a3,a4⟩:=bx5 W1.a.1;have alt:=lt_of_block W1.a.1;have P:=HT.out w1 (HB0.out.trans (b1.mono HB0.out.size)) C1;clear C1 W1 b1
 go_wp2_with fail
 refine P.mono ?_;rintro e w2 ⟨rfl,F2,g2,v2,C2,G2⟩;clear P a0 a1 a2 a3 a4 alt;obtain⟨J,hJ⟩:∃J,w2.heap.size=J:=⟨_,rfl⟩;obtain⟨u2,hu2⟩:∃q,w2.alloc (.cells #[.int .i64 y0,.int .u64 y1,.int .i64 y2,.int .i64 y3,.bool y4] 78)=q:=⟨_,rfl⟩;have b2:Below w2.heap.size w2 u2:=by rw[<-hu2];exact belA _ _
 have BJ:Bx u2 F2 J #[.int .i64 y0,.int .u64 y1,.int .i64 y2,.int .i64 y3,.bool y4] 78:=by rw[<-hu2,<-hJ];exact Bx.new C2 _ _
 have W2:=(X1.out.2.gc G2).bel b2;have X2:Aside (Co u2 L D F2 g2 v2 σ'/\Gc L F w F2 u2/\WB w u2 F2 K ⟨x0,x1,x2,x3,x4⟩ wk0/\Bx u2 F2 J #[.int .i64 y0,.int .u64 y1,.int .i64 y2,.int .i64 y3,.bool y4] 78/\w.heap.size<=J/\K+1<J):=⟨C2.below b2,(X1.out.1.trans G2).trans (Gc.below F2 C2.lw b2),W2,BJ,by rw[<-hJ];exact(X1.out.1.trans G2).size,by rw[<-hJ];exact lt_of_block (X1.out.2.gc G2).b.1⟩;have KP:Aside (∀W,Below u2.heap.size u2 W->W.cell? ⟨K,0,none⟩=some (.int .i64 x0)):=fun W b=>(bx5 (X2.out.2.2.1.a.below b).1).1;have k0:u2.drew.cell? ⟨K,0,none⟩=some (.int .i64 x0):=KP.out _ (Below.refl _ _).drew;have kA:=KP.out (u2.alloc (.cells #[.int .i64 0,.int .i64 0] 141)).drew (belA _ _).drew;have HU2:Aside _:=hu2;have HJ:Aside _:=hJ;obtain⟨N2,hN2⟩:∃N2,u2.heap.size=N2:=⟨_,rfl⟩;have hbx:(u2.alloc (.cells #[.int .i64 0,.int .i64 0] 141)).drew.heap[N2]?=some (.cells #[.int .i64 0,.int .i64 0] 141 (0,0)):=by rw[<-hN2];exact heap_alloc_new u2 _
 have HBX:Aside _:=hbx;have HN2:Aside _:=hN2;have LD:=fun W=>Wk.leads_any W;clear C2 G2 W2 BJ hu2 hJ b2 hbx;go_upto_region 4 with fail
 rw[HU2.out];try simp only[HJ.out]
 go_cut [12,13] (fun s12 s13 wx=>∃(M:Nat),s12=.pointer (some ⟨M,0,none⟩)/\s13=.bool true/\Below u2.heap.size u2 wx/\wx.heap[M]?=some (.cells #[.int .i64 did,.int .i64 ph] 141 (0,0))/\u2.heap.size<=M)
 case first=>
  go_region_held3 (fun W=>W.cell? ⟨K,0,none⟩=some (.int .i64 x0)) (first|with_reducible exact k0|with_reducible exact kA|with_reducible exact k3|with_reducible exact KP.out _ (h3.alloc h3.size _)|with_reducible exact KP.out _ ((h3.setCell (le_of_eq HN2.out) _).setCell (le_of_eq HN2.out) _)|with_reducible exact KP.out _ (((h3.alloc h3.size _).setCell h3.size _).setCell h3.size _)) ((go_at_call 80;first|((with_reducible refine Calls.mono (LD u2.drew) ?_);rintro e w3 ⟨rfl,b5,st⟩;have h3:Below u2.heap.size u2 w3:=belT (Below.refl _ _).drew b5;have k3:=KP.out w3 h3;have lk:=LK.out w3 N2 (by rw[<-HN2.out];exact st);have lk2:=LK.out (w3.alloc (.cells #[.int .i64 0,.int .i64 0] 141)) N2 (by rw[<-HN2.out];exact st.alloc _))|((with_reducible refine Calls.mono (LD (u2.alloc (.cells #[.int .i64 0,.int .i64 0] 141)).drew) ?_);rintro e w3 ⟨rfl,b5,st⟩;have h3:Below u2.heap.size u2 w3:=belT (belA u2 (.cells #[.int .i64 0,.int .i64 0] 141)).drew b5;have k3:=KP.out w3 h3;have lk:=LK.out w3 (N2+1) (by rw[show N2+1=(u2.alloc (.cells #[.int .i64 0,.int .i64 0] 141)).drew.heap.size by simp[HN2.out]];exact st);have hb3:w3.heap[N2]?=some (.cells #[.int .i64 0,.int .i64 0] 141 (0,0)):=(b5.block N2 (lt_of_block HBX.out)).trans HBX.out;obtain⟨m0,m1⟩:=bx2 hb3;have mlt:=lt_of_block hb3;have mfz:∀o,w3.frozen? ⟨N2,o,none⟩=false:=(fun o=>by simp[World.frozen?,hb3]))))
  all_goals go_wp2_with fail
  all_goals go_meet
  all_goals first
   | exact⟨w3.heap.size,rfl,rfl,h3.alloc h3.size _,heap_alloc_new w3 _,h3.size⟩
   | exact⟨N2,rfl,rfl,(h3.setCell (le_of_eq HN2.out) _).setCell (le_of_eq HN2.out) _,set_at (set_at hb3 _) _,le_of_eq HN2.out⟩
 case rest=>
  obtain⟨M,rfl,rfl,bw,hM,lM⟩:=hcut;have Cc:=X2.out.1.below bw;have Gc':Gc L F w F2 wc:=X2.out.2.1.trans (Gc.below F2 X2.out.1.lw bw);have Wc:=X2.out.2.2.1.bel bw;have BJ:=X2.out.2.2.2.1.below bw;have BM:Bx wc F2 M #[.int .i64 did,.int .i64 ph] 141:=⟨hM,fun p hp=>by have:=X2.out.1.fp.lt p M hp;omega⟩;obtain⟨m0,m1⟩:=bx2 hM;have mlt:=lt_of_block hM;obtain⟨j0,j1,j2,j3,j4⟩:=bx5 BJ.1;have jlt:=lt_of_block BJ.1;have jfz:∀o,wc.frozen? ⟨J,o,none⟩=false:=(fun o=>by simp[World.frozen?,BJ.1]);have ne1:J≠K+1:=by have:=X2.out.2.2.2.2.2;omega
  obtain⟨u4,hu4⟩:∃q,wc.setCell ⟨J,0,none⟩ (.int .i64 ph)=q:=⟨_,rfl⟩;have hJ4:u4.heap[J]?=some (.cells #[.int .i64 ph,.int .u64 y1,.int .i64 y2,.int .i64 y3,.bool y4] 78 (0,0)):=by rw[<-hu4];exact set_at BJ.1 _
  have f4:Ta.Fr (fun k=>k=J) wc u4:=by rw[<-hu4];exact Ta.Fr.setCell (fun k=>k=J) wc J 0 _ rfl
  have hB4:u4.heap[K+1]?=some (.cells (wkA wk0) 78 (0,0)):=(f4.block (K+1) (lt_of_block Wc.b.1) (fun e=>ne1 e.symm)).trans Wc.b.1
  have neM:M≠J:=fun e=>by
   subst e;have:=BJ.1.symm.trans hM;simp at this
  have hM4:u4.heap[M]?=some (.cells #[.int .i64 did,.int .i64 ph] 141 (0,0)):=(f4.block M mlt neM).trans hM
  have neM1:M≠K+1:=fun e=>by
   subst e;have:=Wc.b.1.symm.trans hM;simp at this
  have f5:Ta.Fr (fun k=>k=J\/k=K+1) wc (set5 u4 (K+1) (.int .i64 ph) (.int .u64 y1) (.int .i64 y2) (.int .i64 y3) (.bool y4)):=(f4.mono (fun j hj=>.inl hj)).trans (set5_fr u4 (K+1) _ _ _ _ _) (fun j hj=>.inl (.inr hj));have E:Aside ((set5 u4 (K+1) (.int .i64 ph) (.int .u64 y1) (.int .i64 y2) (.int .i64 y3) (.bool y4)).heap[K+1]?=some (.cells #[.int .i64 ph,.int .u64 y1,.int .i64 y2,.int .i64 y3,.bool y4] 78 (0,0))):=set5_at hB4 _ _ _ _ _
  have FIN:Aside (Cox L D F w σ' (set5 u4 (K+1) (.int .i64 ph) (.int .u64 y1) (.int .i64 y2) (.int .i64 y3) (.bool y4)).drew):=Cc.own Gc' (fun k hk=>by
   rcases hk with rfl|rfl
   ·exact⟨X2.out.2.2.2.2.1,BJ.2,nq_of BJ.1 qt_wk⟩
   ·exact⟨by have:=HC.out.2.1;omega,Wc.b.2,nq_of Wc.b.1 qt_wk⟩) HC.out.2.2.1 ⟨f5.os,f5.tape,f5.output,f5.size,f5.block⟩
  have f5':=set5_fr u4 (K+1) (.int .i64 ph) (.int .u64 y1) (.int .i64 y2) (.int .i64 y3) (.bool y4);have hM5:=(f5'.block M (lt_of_block hM4) neM1).trans hM4;have hJ5:=(f5'.block J (lt_of_block hJ4) ne1).trans hJ4;have SA:=And.intro (bx2 hM4).1 (bx5 hJ4);have SB:=And.intro (bx2 hM5).1 (bx5 hJ5);have HSA:Aside _:=SA;have HSB:Aside _:=SB;obtain⟨e0,e1,e2,e3,e4⟩:=bx5 hB4;have elt:=lt_of_block hB4;have efz:∀o,u4.frozen? ⟨K+1,o,none⟩=false:=(fun o=>by simp[World.frozen?,hB4]);have HU4:Aside _:=hu4;clear Cc Gc' Wc BJ BM hM lM bw hu4 hJ4 f4 hB4 hM4 f5 f5' hM5 hJ5 SA SB neM neM1 ne1;go_upto_region 8 with fail
  rw[HU4.out];clear m0 m1 j0 j1 j2 j3 j4;have SA:=HSA.out;have SB:=HSB.out;unfold set5 at SB;obtain⟨sa0,sa1,sa2,sa3,sa4,sa5⟩:=SA;obtain⟨sb0,sb1,sb2,sb3,sb4,sb5⟩:=SB
  go_region
  all_goals
   go_wp2_with fail
   have eb:=fun j=>cell_of_row _ _ j _ _ _ E.out;have q0:=eb 0;have q1:=eb 1;have q2:=eb 2;have q3:=eb 3;have q4:=eb 4;unfold set5 at q0 q1 q2 q3 q4;refine bodyPost_ret (v:=.tuple #[.agg #[.int .i64 ph,.int .u64 y1,.int .i64 y2,.int .i64 y3,.bool y4],.int .i64 did]) (by simp[results,Tryz.results32,go_sem,q0,q1,q2,q3,q4]) rfl ⟨rfl,?_⟩;exact FIN.out
theorem stepC(C:Co w L D F g v σ)(x y:WR){t:Nat}(ht:t<σ.th)(dr f did ph:Int){j:Nat}(hj:j∈Wk.placesC)(hc:Wk.chAt j=(x.ph,f))(hv:Wk.fnAt j=(did,ph))(PT:∀w1 F1 g1 v1,Co w1 L D F1 g1 v1 σ->Calls Tryz.prog 79 #[pt D.B,wkV x,.int .i64 t,.int .u64 dr] w1 fun e w'=>e=.returned (.tuple #[wkV y,.int .i64 f])/\Cox L D F1 w1 σ' w') :
  Calls Tryz.prog 32 #[pt D.B,wkV x,.int .i64 t,.int .u64 dr] w fun e w'=>e=.returned (.tuple #[wkV ⟨ph,y.key,y.id,y.pc,y.bad⟩,.int .i64 did])/\Cox L D F w σ' w':=stepB C x y ht dr f did ph hj hc hv (fun w1 _ C1=>PT w1 F g v C1)
end
section
variable {w w' u w0:World}{L i:Nat}{D:CAd}{F F' F0:Nat->Nat->Prop}{g v:Value}{σ σ':CS}
theorem bx3{w:World}{K:Nat}{a0 a1 a2:Value}{U:TypeId}(h:w.heap[K]?=some (.cells #[a0,a1,a2] U (0,0))):w.cell? ⟨K,0,none⟩=some a0/\w.cell? ⟨K,1,none⟩=some a1/\w.cell? ⟨K,2,none⟩=some a2:=
 ⟨by rw[cell_of_row _ _ _ _ _ _ h];rfl,by rw[cell_of_row _ _ _ _ _ _ h];rfl,by rw[cell_of_row _ _ _ _ _ _ h];rfl⟩
end
section
variable {w w' u w0:World}{L i:Nat}{D:CAd}{F F' F0:Nat->Nat->Prop}{g v:Value}{σ σ':CS}
theorem put_same(K:Nat)(s:Qu.QSt)(t:Nat)(e:Qu.Ent):((Qu.putQ K s t e).g t).f=true:=by
 unfold Qu.putQ;show(Qu.slSet (Qu.settleQ K s t).g t _ t).f=true;rw[Qu.slSet_same]
theorem QI.idle(h:QI σ){t:Nat}(ht:t<σ.th)(hne:∀e,¬Rdy σ.T e):(σ.q.g t).f=false:=by
 obtain⟨sl,ow,sh,V,nd,al⟩:=h;rw[V.f ht]
 cases hs:sl t with
 | nil=>rfl
 | cons e l=>
  have hm:e∈Qu.allV σ.th sl ow sh:=by
   unfold Qu.allV;refine List.mem_append_left _ ?_;exact List.mem_flatMap.2 ⟨t,List.mem_range.2 ht,by rw[hs];simp⟩
  exact absurd ((al e).1 hm) (hne e)
structure One(σ:CS)(th:Nat)(s ky:Int)(a:Nat):Prop where
 th:σ.th=th
 cl:σ.cl=false
 N:σ.N=0
 E:σ.E=fun _ _=>False
 at':∃x,σ.T=[x]/\x.s=s/\x.key=ky/\x.p=0/\x.oa=none/\x.on=0/\x.oc=0
 qi:QI σ
 qn:σ.qn<=a
 ev:σ.ev.length<=a
 tk:σ.tk<=a
theorem One.set{th a t:Nat}{s ky:Int}(h:One σ th s ky a)(ht:t<th):One (setS σ t) th s ky (a+1):=
 ⟨h.th,h.cl,h.N,h.E,h.at',h.qi.settle (by rw[h.th];exact ht),succ_le_succ h.qn,le_succ_of_le h.ev,le_succ_of_le h.tk⟩
theorem One.tell{th a:Nat}{s ky:Int}(h:One σ th s ky a)(kd t id k:Int):One (tellS σ kd t id k) th s ky (a+1):=
 ⟨h.th,h.cl,h.N,h.E,h.at',h.qi.same rfl rfl (fun e=>Iff.rfl),le_succ_of_le h.qn,by
  show(σ.ev++[_]).length<=a+1;have:=h.ev;simp;exact this,le_succ_of_le h.tk⟩
theorem One.rdy{th a:Nat}{ky:Int}(h:One σ th 2 ky a):Rdy σ.T (ky,1)/\∀e,Rdy σ.T e->e=(ky,1):=by
 obtain⟨x,hT,hs,hk,_⟩:=h.at';rw[hT];refine⟨⟨0,x,rfl,hs,by rw[hk];rfl⟩,?_⟩;rintro e ⟨k,y,hy,_,rfl⟩
 cases k with
 | zero=>
  simp at hy;subst hy;rw[hk]
  rfl
 | succ k=>simp at hy
theorem One.none{th a:Nat}{s ky:Int}(h:One σ th s ky a)(hs:s≠2):∀e,¬Rdy σ.T e:=by
 obtain⟨x,hT,hs',_⟩:=h.at';rw[hT];rintro e ⟨k,y,hy,h2,rfl⟩
 cases k with
 | zero=>simp at hy;subst hy;omega
 | succ k=>simp at hy
theorem One.sub{th k n t:Nat}(ht:t<th)(prio:Int):∃ky,One (subS (newS th k n) t prio) th 2 ky 2:=by
 refine⟨_,⟨rfl,rfl,rfl,rfl,⟨_,sub_T (newS th k n) t prio,rfl,rfl,rfl,rfl,rfl,rfl⟩,(QI.new th k n).sub ht prio,by show 0+1<=2;omega,?_,Nat.zero_le _⟩⟩;show(([]++[_])++[_]:List EvR).length<=2;simp
end
section
variable {w w' u w0:World}{L i:Nat}{D:CAd}{F F' F0:Nat->Nat->Prop}{g v:Value}{σ σ':CS}{th a t dr:Nat}{s ky:Int}
theorem oneSettle(C:Co w L D F g v σ)(h:One σ th s ky a)(ht:t<th)(ha:a<=900)(hf:(σ.q.g t).f=true) :
  Calls Tryz.prog 32 #[pt D.B,wkV wk0,.int .i64 t,.int .u64 dr] w fun e w'=>e=.returned (.tuple #[wkV wk0,.int .i64 1])/\Cox L D F w (setS σ t) w':=by
 have ht':t<σ.th:=by rw[h.th];exact ht
 exact stepC C wk0 wk0 ht' dr 2 1 0 (j:=6) (by decide) rfl rfl (fun w1 F1 g1 v1 C1=>touch0 C1 wk0 wk0 t dr 2 rfl (fun w2 F2 g2 v2 C2=>seekS C2 wk0 ht' (by have:=h.qn;omega) hf dr))
def lkS(σ:CS)(t:Nat)(ky:Int):CS:=tellS (setS σ t) 10 t 1 ky
theorem oneLook(C:Co w L D F g v σ)(h:One σ th 2 ky a)(ht:t<th)(ha:a<=900)(hdr:dr<18446744073709551616)(hf:(σ.q.g t).f=false) :
  Calls Tryz.prog 32 #[pt D.B,wkV wk0,.int .i64 t,.int .u64 dr] w fun e w'=>e=.returned (.tuple #[wkV ⟨1,ky,1,0,false⟩,.int .i64 2])/\Cox L D F w (lkS σ t ky) w':=by
 have ht':t<σ.th:=by rw[h.th];exact ht
 have h1:=h.set ht;refine stepC C wk0 ⟨0,ky,1,0,false⟩ ht' dr 1 2 1 (j:=9) (by decide) rfl rfl (fun w1 F1 g1 v1 C1=>touch0 C1 wk0 ⟨0,ky,1,0,false⟩ t dr 1 rfl (fun w2 F2 g2 v2 C2=>seekL C2 wk0 ht' (by have:=h.qn;omega) hf dr ky 1 (fun w3 F3 g3 v3 C3=>?_)));obtain⟨x,y,z,hx,hy,hz,hr⟩:=h1.qi.look C3.qok (t:=t) (show t<σ.th from ht') dr ⟨_,h1.rdy.1⟩ ((setS σ t).tk:Int);have ez:=h1.rdy.2 _ hr;have P:=lookC C3 (t:=t) (dr:=dr) (show t<σ.th from ht') hdr (by have:=h1.qn;omega) (by have:=h1.ev;omega) hx hy hz;rw[ez] at P;exact P
theorem oneNone(C:Co w L D F g v σ)(h:One σ th s ky a)(hs:s≠2)(ht:t<th)(ha:a<=900)(hdr:dr<18446744073709551616) :
  Calls Tryz.prog 32 #[pt D.B,wkV wk0,.int .i64 t,.int .u64 dr] w fun e w'=>e=.returned (.tuple #[wkV wk0,.int .i64 0])/\Cox L D F w (setS σ t) w':=by
 have ht':t<σ.th:=by rw[h.th];exact ht
 have h1:=h.set ht;have hf:(σ.q.g t).f=false:=h.qi.idle ht' (h.none hs);refine stepC C wk0 wk0 ht' dr 0 0 0 (j:=3) (by decide) rfl rfl (fun w1 F1 g1 v1 C1=>touch0 C1 wk0 wk0 t dr 0 rfl (fun w2 F2 g2 v2 C2=>seekN C2 wk0 ht' (by have:=h.qn;omega) hf dr 0 0 (fun w3 F3 g3 v3 C3=>?_)));exact lookN C3 (t:=t) (dr:=dr) (show t<σ.th from ht') hdr (by have:=h1.qn;omega) (h1.qi.none C3.qok (show t<σ.th from ht') dr (h1.none hs))
def clS(σ:CS)(t:Nat)(x:Ta.TR):CS:=handS (turnS σ 0 x 3) t 0 (turnX x 3)
theorem oneClaim(C:Co w L D F g v σ)(h:One σ th 2 ky a)(ht:t<th)(ha:a<=900) :
  ∃x,σ.T=[x]/\Calls Tryz.prog 32 #[pt D.B,wkV ⟨1,ky,1,0,false⟩,.int .i64 t,.int .u64 dr] w fun e w'=>e=.returned (.tuple #[wkV ⟨2,ky,1,0,false⟩,.int .i64 3])/\Cox L D F w (clS σ t x) w':=by
 have ht':t<σ.th:=by rw[h.th];exact ht
 obtain⟨x,hT,hs,hk,hp,_⟩:=h.at';refine⟨x,hT,?_⟩;refine stepC C ⟨1,ky,1,0,false⟩ ⟨1,ky,1,0,false⟩ ht' dr 1 3 2 (j:=15) (by decide) rfl rfl (fun w1 F1 g1 v1 C1=>touch1 C1 ⟨1,ky,1,0,false⟩ ⟨1,ky,1,0,false⟩ t dr 1 rfl (fun w2 F2 g2 v2 C2=>wclaimO C2 ⟨1,ky,1,0,false⟩ t (fun w3 F3 g3 v3 C3=>?_)));have P:=claimC C3 (t:=t) (i:=0) (x:=x) ht' (by rw[hT];rfl) hs (by omega) (by have:=h.ev;omega) (by have:=h.qn;omega) (by have:=h.tk;omega);rw[hk] at P;exact P
theorem One.claim(h:One σ th 2 ky a){x:Ta.TR}(hT:σ.T=[x])(t:Nat):One (clS σ t x) th 3 ky (a+1):=by
 obtain⟨y,hT',hs,hk,hp,h1,h2,h3⟩:=h.at';obtain rfl:y=x:=by rw[hT] at hT';simpa using hT'.symm
 have e:turnX y 3=Ta.turnT y 3:=by unfold turnX;rw[if_neg (by omega)]
 have k3:=turnX_key y 3;refine⟨h.th,h.cl,h.N,h.E,⟨turnX y 3,?_,k3.2.2.1,k3.1.trans hk,k3.2.2.2.trans hp,?_,?_,?_⟩,h.qi.hand (by rw[hT];rfl) t,succ_le_succ h.qn,?_,succ_le_succ h.tk⟩
 ·show σ.T.set 0 (turnX y 3)=_;rw[hT];rfl
 ·rw[e];exact h1
 ·rw[e];exact h2
 ·rw[e];exact h3
 ·show(σ.ev++[_]).length<=a+1;have:=h.ev;simp;exact this
def fiS(σ:CS)(t:Nat)(x:Ta.TR):CS:={endS (turnS σ 0 x 4) t 1 with E:=fun q j=>σ.E q j/\q≠1}
theorem oneFin(C:Co w L D F g v σ)(h:One σ th 3 ky a)(ht:t<th)(ha:a<=900) :
  ∃x,σ.T=[x]/\Calls Tryz.prog 32 #[pt D.B,wkV ⟨2,ky,1,0,false⟩,.int .i64 t,.int .u64 dr] w fun e w'=>e=.returned (.tuple #[wkV wk0,.int .i64 6])/\Cox L D F w (fiS σ t x) w':=by
 have ht':t<σ.th:=by rw[h.th];exact ht
 obtain⟨x,hT,hs,hk,hp,h1,h2,h3⟩:=h.at';have h0:σ.T[0]?=some x:=by rw[hT];rfl
 refine⟨x,hT,?_⟩;refine stepC C ⟨2,ky,1,0,false⟩ wk0 ht' dr 0 6 0 (j:=21) (by decide) rfl rfl (fun w1 F1 g1 v1 C1=>touch2 C1 ⟨2,ky,1,0,false⟩ wk0 t dr 0 rfl (fun w2 F2 g2 v2 C2=>runE (i:=0) C2 2 ky t 0 h0 h1 h2 h3 (fun w3 F3 g3 v3 C3=>?_)))
 have P:=finC C3 (t:=t) (i:=0) (x:=x) ht' h0 hs hp (wf_of (by omega) (by omega)) (by rw[h.N];omega) (by have:=h.ev;omega) (by rw[hT];simp) (by
  have q1:=h.qn;have q2:=Ta.cntP_le isW σ.T;have q3:σ.T.length=1:=by rw[hT];rfl
  omega) (by have:=h.tk;omega) (fun j hj=>by rw[h.E] at hj;exact hj.elim)
 refine P.mono ?_;rintro e w' ⟨rfl,d,dl,X⟩;rw[h.E] at dl;obtain rfl:=done_nil dl;exact⟨rfl,X⟩
theorem One.fin(h:One σ th 3 ky a){x:Ta.TR}(hT:σ.T=[x])(t:Nat):One (fiS σ t x) th 4 ky (a+1):=by
 obtain⟨y,hT',hs,hk,hp,h1,h2,h3⟩:=h.at';obtain rfl:y=x:=by rw[hT] at hT';simpa using hT'.symm
 have e:turnX y 4=Ta.turnT y 4:=by unfold turnX;rw[if_neg (by omega)]
 have k3:=turnX_key y 4;refine⟨h.th,h.cl,h.N,?_,⟨turnX y 4,?_,k3.2.2.1,k3.1.trans hk,k3.2.2.2.trans hp,?_,?_,?_⟩,h.qi.same rfl rfl (fun e=>?_),le_succ_of_le h.qn,?_,le_succ_of_le h.tk⟩
 ·funext q j
  show(σ.E q j/\q≠1)=False;rw[h.E];simp
 ·show σ.T.set 0 (turnX y 4)=_;rw[hT];rfl
 ·rw[e];exact h1
 ·rw[e];exact h2
 ·rw[e];exact h3
 ·show Rdy (σ.T.set 0 (turnX y 4)) e↔_;exact rdy_set (by rw[hT];rfl) (by omega) (by rw[k3.2.2.1];decide) e
 ·show(σ.ev++[_]).length<=a+1;have:=h.ev;simp;exact this
end
section
variable {w w' u w0:World}{L i:Nat}{D:CAd}{F F' F0:Nat->Nat->Prop}{g v:Value}{σ σ':CS}{th a t dr:Nat}{s ky:Int}
theorem asd{p:Prop}(h:p):Aside p:=h
def Sst(ky:Int)(k:Nat)(σ:CS)(x:WR):Prop:=match k with
 | 0=>One σ 1 2 ky 2/\x=wk0/\(σ.q.g 0).f=true
 | 1=>One σ 1 2 ky 3/\x=wk0/\(σ.q.g 0).f=false
 | 2=>One σ 1 2 ky 5/\x=⟨1,ky,1,0,false⟩
 | 3=>One σ 1 3 ky 6/\x=⟨2,ky,1,0,false⟩
 | 4=>One σ 1 4 ky 7/\x=wk0
 | _=>One σ 1 4 ky 8/\x=wk0
def didL:List Int:=[1,2,3,6,0]
theorem aw_step(C:Co w L D F g v σ){x:WR}{k:Nat}(hk:k<5)(h:Sst ky k σ x) :
  Calls Tryz.prog 32 #[pt D.B,wkV x,.int .i64 0,.int .u64 0] w fun e w'=>∃y0 y1 y2 y3 y4,e=.returned (.tuple #[wkV ⟨y0,y1,y2,y3,y4⟩,.int .i64 (didL.getD k 0)])/\∃σ',Sst ky (k+1) σ' ⟨y0,y1,y2,y3,y4⟩/\Cox L D F w σ' w':=by
 have hk':k=0\/k=1\/k=2\/k=3\/k=4:=by omega
 rcases hk' with rfl|rfl|rfl|rfl|rfl
 ·obtain⟨o,rfl,hf⟩:=h;refine(oneSettle (t:=0) (dr:=0) C o (by omega) (by omega) hf).mono ?_;rintro e w' ⟨rfl,X⟩;exact⟨_,_,_,_,_,rfl,_,⟨o.set (by omega),rfl,Qu.settle_f _ _ _⟩,X⟩
 ·obtain⟨o,rfl,hf⟩:=h;refine(oneLook (t:=0) (dr:=0) C o (by omega) (by omega) (by omega) hf).mono ?_;rintro e w' ⟨rfl,X⟩;exact⟨_,_,_,_,_,rfl,_,⟨(o.set (by omega)).tell _ _ _ _,rfl⟩,X⟩
 ·obtain⟨o,rfl⟩:=h;obtain⟨x,hT,P⟩:=oneClaim (t:=0) (dr:=0) C o (by omega) (by omega);refine P.mono ?_;rintro e w' ⟨rfl,X⟩;exact⟨_,_,_,_,_,rfl,_,⟨o.claim hT 0,rfl⟩,X⟩
 ·obtain⟨o,rfl⟩:=h;obtain⟨x,hT,P⟩:=oneFin (t:=0) (dr:=0) C o (by omega) (by omega);refine P.mono ?_;rintro e w' ⟨rfl,X⟩;exact⟨_,_,_,_,_,rfl,_,⟨o.fin hT 0,rfl⟩,X⟩
 ·obtain⟨o,rfl⟩:=h;refine(oneNone (t:=0) (dr:=0) C o (by omega) (by omega) (by omega) (by omega)).mono ?_;rintro e w' ⟨rfl,X⟩;exact⟨_,_,_,_,_,rfl,_,⟨o.set (by omega),rfl⟩,X⟩
theorem idleC(x:WR)(w:World):Calls Tryz.prog 34 #[wkV x] w fun e w'=>e=.returned (.bool (x.ph==0))/\Below w.heap.size w w':=by
 obtain⟨x0,x1,x2,x3,x4⟩:=x;go_enter Tryz.func34,Tryz.ntmps34
 go_wp2
 go_ret;exact⟨rfl,belA _ _⟩
end
section
variable {σ σ':CS}{th cr n a k t:Nat}{x y:Ta.TR}
structure Al(σ:CS)(th cr n a:Nat):Prop where
 th:σ.th=th
 nc:σ.n=cr
 cl:σ.cl=false
 len:σ.T.length=n
 st:∀(i:Nat)(y:Ta.TR),σ.T[i]?=some y->y.p=0/\2<=y.s/\y.s<=4
 o:σ.o=σ.T.countP liv
 N:σ.N=0
 E:σ.E=fun _ _=>False
 qi:QI σ
 qn:σ.qn<=a
 ev:σ.ev.length<=a
 tk:σ.tk<=a
theorem Al.mono(h:Al σ th cr n a){b:Nat}(hb:a<=b):Al σ th cr n b:=⟨h.th,h.nc,h.cl,h.len,h.st,h.o,h.N,h.E,h.qi,Nat.le_trans h.qn hb,Nat.le_trans h.ev hb,Nat.le_trans h.tk hb⟩
theorem Al.new(th k cr:Nat):Al (newS th k cr) th cr 0 0:=⟨rfl,rfl,rfl,rfl,fun i y h=>by simp[newS] at h,rfl,rfl,rfl,QI.new th k cr,Nat.le_refl _,Nat.le_refl _,Nat.le_refl _⟩
theorem Al.set(h:Al σ th cr n a)(ht:t<th):Al (setS σ t) th cr n (a+1):=
 ⟨h.th,h.nc,h.cl,h.len,h.st,h.o,h.N,h.E,h.qi.settle (by rw[h.th];exact ht),succ_le_succ h.qn,le_succ_of_le h.ev,le_succ_of_le h.tk⟩
theorem subSO_T(σ:CS)(t:Nat)(prio:Int)(oa:Option Addr)(on oc:Nat):(subSO σ t prio oa on oc).T=σ.T++[{Ta.mkO prio 0 0 0 0 0 2 oa on oc with key:=keyS σ (Ta.mkO prio 0 0 0 0 0 2 oa on oc)}]:=by
 show(σ.T++[_]).set σ.T.length _=_;rw[set_append_right _ _ (Nat.le_refl _)];simp
 rfl
theorem QI.subO(h:QI σ)(ht:t<σ.th)(prio:Int)(oa:Option Addr)(on oc:Nat):QI (subSO σ t prio oa on oc):=by
 refine h.put (t:=t) (e0:=(keyS σ (Ta.mkO prio 0 0 0 0 0 2 oa on oc),(σ.T.length:Int)+1)) ht rfl rfl (fun e=>?_) (fun e he=>?_)
 ·rw[subSO_T,rdy_push rfl]
 ·have:=rdy_id he;show e.2≠(σ.T.length:Int)+1;omega
theorem Al.sub(h:Al σ th cr n a)(ht:t<th)(prio:Int)(oa:Option Addr)(on oc:Nat):Al (subSO σ t prio oa on oc) th cr (n+1) (a+2):=by
 have hy:=subSO_T σ t prio oa on oc;refine⟨h.th,h.nc,h.cl,by rw[hy];simp[h.len],fun i z hz=>?_,?_,h.N,h.E,h.qi.subO (by rw[h.th];exact ht) prio oa on oc,?_,?_,?_⟩
 ·rw[hy] at hz;rcases push_at h.len hz with⟨_,a⟩|⟨_,rfl⟩
  ·exact h.st i z a
  ·exact⟨rfl,by show(2:Int)<=2;omega,by show(2:Int)<=4;omega⟩
 ·rw[hy,List.countP_append];show σ.o+1=_;rw[h.o];simp[liv,Ta.mkO]
 ·show σ.qn+1<=_;have:=h.qn;omega
 ·show((σ.ev++[_])++[_]).length<=_;have:=h.ev;simp;omega
 ·show σ.tk<=_;have:=h.tk;omega
theorem turnX_opv(x:Ta.TR)(s:Int):opv (turnX x s)=opv x:=by
 unfold turnX
 split
 ·rfl
 ·rfl
theorem map_set{T:List Ta.TR}{y:Ta.TR}(h:T[k]?=some x)(e:opv y=opv x):(T.set k y).map opv=T.map opv:=by
 apply List.ext_getElem?;intro i;rw[List.getElem?_map,List.getElem?_map];by_cases c:k=i
 ·subst c;have hl:=(List.getElem?_eq_some_iff.1 h).1;rw[List.getElem?_set_self hl,h];simp[e]
 ·rw[List.getElem?_set_ne c]
theorem Al.stSet(h:Al σ th cr n a)(hz:y.p=0/\2<=y.s/\y.s<=4):∀(i:Nat)(z:Ta.TR),(σ.T.set k y)[i]?=some z->z.p=0/\2<=z.s/\z.s<=4:=fun i z hi=>by
 by_cases e:k=i
 ·subst e;have hl:=(List.getElem?_eq_some_iff.1 hi).1;rw[length_set] at hl;rw[List.getElem?_set_self hl] at hi;injection hi with hi
  rw[<-hi];exact hz
 ·rw[List.getElem?_set_ne e] at hi;exact h.st i z hi
theorem Al.claim(h:Al σ th cr n a)(hx:σ.T[k]?=some x)(hs:x.s=2)(t:Nat):Al (handS (turnS σ k x 3) t k (turnX x 3)) th cr n (a+1):=by
 have tx:=turnX_key x 3;refine⟨h.th,h.nc,h.cl,?_,?_,?_,h.N,h.E,h.qi.hand hx t,?_,?_,?_⟩
 ·show(σ.T.set k _).length=n;rw[length_set];exact h.len
 ·exact h.stSet ⟨tx.2.2.2.trans (h.st k x hx).1,by rw[tx.2.2.1];decide,by rw[tx.2.2.1];decide⟩
 ·show σ.o=(σ.T.set k (turnX x 3)).countP liv;have h3:=cnt_set (turnX x 3) hx;have a:liv x=true:=by simp[liv,hs]
  have b:liv (turnX x 3)=true:=by simp[liv,tx.2.2.1]
  rw[a,b] at h3;rw[h.o];simp at h3;omega
 ·show σ.qn+1<=_;have:=h.qn;omega
 ·show(σ.ev++[_]).length<=_;have:=h.ev;simp;omega
 ·show σ.tk+1<=_;have:=h.tk;omega
theorem liv_set(hx:σ.T[k]?=some x)(hs:x.s=3):(σ.T.set k (turnX x 4)).countP liv+1=σ.T.countP liv:=by
 have tx:=turnX_key x 4;have h3:=cnt_set (turnX x 4) hx;have a:liv x=true:=by simp[liv,hs]
 have b:liv (turnX x 4)=false:=by simp[liv,tx.2.2.1]
 rw[a,b] at h3;simp at h3;omega
theorem Al.fin(h:Al σ th cr n a)(hx:σ.T[k]?=some x)(hs:x.s=3)(t:Nat):Al (donS σ t k x) th cr n (a+1):=by
 have tx:=turnX_key x 4;refine⟨h.th,h.nc,h.cl,?_,?_,?_,h.N,?_,h.qi.same rfl rfl (fun e=>?_),?_,?_,?_⟩
 ·show(σ.T.set k _).length=n;rw[length_set];exact h.len
 ·exact h.stSet ⟨tx.2.2.2.trans (h.st k x hx).1,by rw[tx.2.2.1];decide,by rw[tx.2.2.1];decide⟩
 ·show σ.o-1=(σ.T.set k (turnX x 4)).countP liv;have:=liv_set hx hs;rw[h.o];omega
 ·funext q j
  show(σ.E q j/\q≠_)=False;rw[h.E];simp
 ·show Rdy (σ.T.set k (turnX x 4)) e↔_;exact rdy_set hx (by omega) (by rw[tx.2.2.1];decide) e
 ·show σ.qn<=_;have:=h.qn;omega
 ·show(σ.ev++[_]).length<=_;have:=h.ev;simp;omega
 ·show σ.tk<=_;have:=h.tk;omega
end
section
variable {w w' u:World}{L:Nat}{D:CAd}{F F':Nat->Nat->Prop}{g v:Value}{σ σ':CS}{th cr n a k t dr:Nat}{x y:Ta.TR}
theorem alSettle(C:Co w L D F g v σ)(h:Al σ th cr n a)(ht:t<th)(ha:a<=900)(hf:(σ.q.g t).f=true) :
  Calls Tryz.prog 32 #[pt D.B,wkV wk0,.int .i64 t,.int .u64 dr] w fun e w'=>e=.returned (.tuple #[wkV wk0,.int .i64 1])/\Cox L D F w (setS σ t) w':=by
 have ht':t<σ.th:=by rw[h.th];exact ht
 exact stepC C wk0 wk0 ht' dr 2 1 0 (j:=6) (by decide) rfl rfl (fun w1 F1 g1 v1 C1=>touch0 C1 wk0 wk0 t dr 2 rfl (fun w2 F2 g2 v2 C2=>seekS C2 wk0 ht' (by have:=h.qn;omega) hf dr))
def lkA(σ:CS)(t:Nat)(z:Qu.Ent):CS:=tellS (setS σ t) 10 t z.2 z.1
theorem alLook(C:Co w L D F g v σ)(h:Al σ th cr n a)(ht:t<th)(ha:a<=900)(hdr:dr<18446744073709551616)(hf:(σ.q.g t).f=false)(hr:∃e,Rdy σ.T e) :
  ∃z,Rdy σ.T z/\∀w1 F1 g1 v1,Co w1 L D F1 g1 v1 σ->Calls Tryz.prog 32 #[pt D.B,wkV wk0,.int .i64 t,.int .u64 dr] w1 fun e w'=>e=.returned (.tuple #[wkV ⟨1,z.1,z.2,0,false⟩,.int .i64 2])/\Cox L D F1 w1 (lkA σ t z) w':=by
 have ht':t<σ.th:=by rw[h.th];exact ht
 have h1:=h.set ht;obtain⟨x,y,z,hx,hy,hz,hr⟩:=h1.qi.look (Qu.settle_ok C.qok ht' C.k16) (t:=t) ht' dr hr ((setS σ t).tk:Int);refine⟨z,hr,fun w0 F0 g0 v0 C0=>?_⟩;refine stepC C0 wk0 ⟨0,z.1,z.2,0,false⟩ ht' dr 1 2 1 (j:=9) (by decide) rfl rfl (fun w1 F1 g1 v1 C1=>touch0 C1 wk0 ⟨0,z.1,z.2,0,false⟩ t dr 1 rfl (fun w2 F2 g2 v2 C2=>seekL C2 wk0 ht' (by have:=h.qn;omega) hf dr z.1 z.2 (fun w3 F3 g3 v3 C3=>?_)));exact lookC C3 (t:=t) (dr:=dr) (show t<σ.th from ht') hdr (by have:=h1.qn;omega) (by have:=h1.ev;omega) hx hy hz
theorem alClaim(C:Co w L D F g v σ)(h:Al σ th cr n a)(ht:t<th)(ha:a<=900)(hx:σ.T[k]?=some x)(hs:x.s=2) :
  Calls Tryz.prog 32 #[pt D.B,wkV ⟨1,x.key,(k:Int)+1,0,false⟩,.int .i64 t,.int .u64 dr] w fun e w'=>e=.returned (.tuple #[wkV ⟨2,x.key,(k:Int)+1,0,false⟩,.int .i64 3])/\Cox L D F w (handS (turnS σ k x 3) t k (turnX x 3)) w':=by
 have ht':t<σ.th:=by rw[h.th];exact ht
 exact stepC C ⟨1,x.key,(k:Int)+1,0,false⟩ ⟨1,x.key,(k:Int)+1,0,false⟩ ht' dr 1 3 2 (j:=15) (by decide) rfl rfl (fun w1 F1 g1 v1 C1=>touch1 C1 ⟨1,x.key,(k:Int)+1,0,false⟩ ⟨1,x.key,(k:Int)+1,0,false⟩ t dr 1 rfl (fun w2 F2 g2 v2 C2=>wclaimO C2 ⟨1,x.key,(k:Int)+1,0,false⟩ t (fun w3 F3 g3 v3 C3=>
  claimC C3 (t:=t) (i:=k) (x:=x) ht' hx hs (by have:=(h.st k x hx).1;omega) (by have:=h.ev;omega) (by have:=h.qn;omega) (by have:=h.tk;omega))))
theorem alOp(C:Co w L D F g v σ)(h:Al σ th cr n a)(ht:t<th)(hx:σ.T[k]?=some x){os:List Ta.OpR}(hO:OwO w F (.slice x.oa x.on x.oc) os)(hlen:os.length<=1000000){o:Ta.OpR}{pc:Nat}(ho:os[pc]?=some o)(hk:o.1=1)(ky:Int) :
  Calls Tryz.prog 32 #[pt D.B,wkV ⟨2,ky,(k:Int)+1,pc,false⟩,.int .i64 t,.int .u64 dr] w fun e w'=>e=.returned (.tuple #[wkV ⟨2,ky,(k:Int)+1,(pc:Int)+1,false⟩,.int .i64 5])/\Cox L D F w σ w':=by
 have ht':t<σ.th:=by rw[h.th];exact ht
 refine stepB C ⟨2,ky,(k:Int)+1,pc,false⟩ ⟨2,ky,(k:Int)+1,(pc:Int)+1,false⟩ ht' dr 1 5 2 (j:=18) (by decide) rfl rfl (fun w1 b1 C1=>touch2B C1 ⟨2,ky,(k:Int)+1,pc,false⟩ ⟨2,ky,(k:Int)+1,(pc:Int)+1,false⟩ t dr 1 rfl (fun w2 b2 C2=>runO C2 2 ky pc t hx ((hO.below b1).below b2) hlen ho (bad:=false) (fun w3 F3 g3 v3 C3 G3=>?_)));refine(opNop D.B t o.1 o.2.1 o.2.2 (by omega) (by omega) (by omega) w3).mono ?_;rintro e w4 ⟨rfl,b4⟩;refine⟨by rw[hk];rfl,C3.xb b4⟩
theorem alFin(C:Co w L D F g v σ)(h:Al σ th cr n a)(hn:n<=200)(ht:t<th)(ha:a<=700)(hx:σ.T[k]?=some x)(hs:x.s=3){os:List Ta.OpR}(hO:OwO w F (.slice x.oa x.on x.oc) os)(hlen:os.length<=1000000){pc:Nat}(hpc:os.length<=pc)(ky:Int) :
  Calls Tryz.prog 32 #[pt D.B,wkV ⟨2,ky,(k:Int)+1,pc,false⟩,.int .i64 t,.int .u64 dr] w fun e w'=>e=.returned (.tuple #[wkV wk0,.int .i64 6])/\Cox L D F w (donS σ t k x) w':=by
 have ht':t<σ.th:=by rw[h.th];exact ht
 have hkn:=(List.getElem?_eq_some_iff.1 hx).1;have hlt:=h.len;refine stepB C ⟨2,ky,(k:Int)+1,pc,false⟩ wk0 ht' dr 0 6 0 (j:=21) (by decide) rfl rfl (fun w1 b1 C1=>touch2B C1 ⟨2,ky,(k:Int)+1,pc,false⟩ wk0 t dr 0 rfl (fun w2 b2 C2=>runF C2 2 ky pc t 0 hx ((hO.below b1).below b2) hlen false (.inr hpc) (fun w3 F3 g3 v3 C3=>?_)))
 have P:=finC C3 (t:=t) (i:=k) (x:=x) ht' hx hs (h.st k x hx).1 (wf_of (by omega) (by omega)) (by rw[h.N];omega) (by have:=h.ev;omega) (by omega) (by
  have q1:=h.qn;have q2:=Ta.cntP_le isW σ.T;omega) (by have:=h.tk;omega) (fun j hj=>by rw[h.E] at hj;exact hj.elim)
 refine P.mono ?_;rintro e w' ⟨rfl,d,dl,X⟩;rw[h.E] at dl;obtain rfl:=done_nil dl;exact⟨rfl,X⟩
end
section
variable {w w' w'' u:World}{L i n M R:Nat}{D:CAd}{F F' F'':Nat->Nat->Prop}{g v:Value}{σ σ':CS}
def wkF(xs:List WR):List Value:=xs.flatMap fun x=>[.int .i64 x.ph,.int .u64 x.key,.int .i64 x.id,.int .i64 x.pc,.bool x.bad]
theorem wkF_at:∀(xs:List WR)(t:Nat)(x:WR),xs[t]?=some x->∀j u,([.int .i64 x.ph,.int .u64 x.key,.int .i64 x.id,.int .i64 x.pc,.bool x.bad]:List Value)[j]?=some u->(wkF xs)[t*5+j]?=some u
 | [],t,x,h,_,_,_=>by simp at h
 | y::xs,0,x,h,j,u,hu=>by
  simp at h;subst h
  have:=(List.getElem?_eq_some_iff.1 hu).1;show(_++wkF xs)[_]?=_;rw[Nat.zero_mul,Nat.zero_add,List.getElem?_append_left this,hu]
 | y::xs,t+1,x,h,j,u,hu=>by
  have ih:=wkF_at xs t x (by simpa using h) j u hu;show(_++wkF xs)[_]?=_;rw[List.getElem?_append_right (by simp;omega),<-ih];congr 1;simp;omega
theorem wkF_set:∀(xs:List WR)(t:Nat)(y:WR),t<xs.length->(((((wkF xs).set (t*5) (.int .i64 y.ph)).set (t*5+1) (.int .u64 y.key)).set (t*5+2) (.int .i64 y.id)).set (t*5+3) (.int .i64 y.pc)).set (t*5+4) (.bool y.bad)=wkF (xs.set t y)
 | [],t,y,h=>by simp at h
 | x::xs,0,y,h=>by
  show((((((_++wkF xs).set _ _).set _ _).set _ _).set _ _).set _ _)=_++wkF xs;simp
 | x::xs,t+1,y,h=>by
  have ih:=wkF_set xs t y (by simpa using h);show((((((_++wkF xs).set _ _).set _ _).set _ _).set _ _).set _ _)=_++wkF (xs.set t y);rw[<-ih];have e:∀j,(t+1)*5+j-5=t*5+j:=fun j=>by omega
  rw[show(t+1)*5=t*5+5 by omega];rw[set_append_right _ _ (by simp),set_append_right _ _ (by simp),set_append_right _ _ (by simp),set_append_right _ _ (by simp),set_append_right _ _ (by simp)];simp only[List.length_cons,List.length_nil];rw[show t*5+5-(0+1+1+1+1+1)=t*5 by omega,show t*5+5+1-(0+1+1+1+1+1)=t*5+1 by omega,show t*5+5+2-(0+1+1+1+1+1)=t*5+2 by omega,show t*5+5+3-(0+1+1+1+1+1)=t*5+3 by omega,show t*5+5+4-(0+1+1+1+1+1)=t*5+4 by omega]
structure DD where
 d0:Int
 d1:Int
 d2:Int
 d3:Int
 d4:Int
 d5:Int
 d6:Int
def DD.z:DD:=⟨0,0,0,0,0,0,0⟩
def DD.get(d:DD)(j:Nat):Int:=match j with
 | 0=>d.d0
 | 1=>d.d1
 | 2=>d.d2
 | 3=>d.d3
 | 4=>d.d4
 | 5=>d.d5
 | _=>d.d6
def DD.inc(d:DD)(j:Nat):DD:=match j with
 | 0=>{d with d0:=d.d0+1}
 | 1=>{d with d1:=d.d1+1}
 | 2=>{d with d2:=d.d2+1}
 | 3=>{d with d3:=d.d3+1}
 | 4=>{d with d4:=d.d4+1}
 | 5=>{d with d5:=d.d5+1}
 | _=>{d with d6:=d.d6+1}
def DD.sum(d:DD):Int:=d.d0+d.d1+d.d2+d.d3+d.d4+d.d5+d.d6
theorem DD.inc_sum(d:DD)(j:Nat):(d.inc j).sum=d.sum+1:=by
 unfold DD.inc DD.sum
 split<;>dsimp only<;>omega
def DD.few(d:DD)(B:Int):Prop:=0<=d.d0/\0<=d.d1/\0<=d.d2/\0<=d.d3/\0<=d.d4/\0<=d.d5/\0<=d.d6/\d.sum<=B
theorem DD.few_inc{d:DD}{B:Int}(h:d.few B)(j:Nat):(d.inc j).few (B+1):=by
 have:=d.inc_sum j;obtain⟨h0,h1,h2,h3,h4,h5,h6,hs⟩:=h;refine⟨?_,?_,?_,?_,?_,?_,?_,by omega⟩<;>(unfold DD.inc;split<;>dsimp only<;>omega)
theorem DD.few_get{d:DD}{B:Int}(h:d.few B)(j:Nat):0<=d.get j/\d.get j<=B:=by
 obtain⟨h0,h1,h2,h3,h4,h5,h6,hs⟩:=h;unfold DD.sum at hs;unfold DD.get
 split<;>omega
abbrev mcA(D:CAd)(R n:Nat)(d:DD):Array Value:=#[pt D.B,.slice (some ⟨R,0,none⟩) n n,.int .i64 d.d0,.int .i64 d.d1,.int .i64 d.d2,.int .i64 d.d3,.int .i64 d.d4,.int .i64 d.d5,.int .i64 d.d6]
theorem mcA_at(D:CAd)(R n:Nat)(d:DD){j:Nat}(hj:j<7):(mcA D R n d)[2+j]?=some (.int .i64 (d.get j)):=by
 have:j=0\/j=1\/j=2\/j=3\/j=4\/j=5\/j=6:=by omega
 rcases this with rfl|rfl|rfl|rfl|rfl|rfl|rfl<;>rfl
theorem mcA_set(D:CAd)(R n:Nat)(d:DD){j:Nat}(hj:j<7):(mcA D R n d).setIfInBounds (2+j) (.int .i64 (d.get j+1))=mcA D R n (d.inc j):=by
 have:j=0\/j=1\/j=2\/j=3\/j=4\/j=5\/j=6:=by omega
 rcases this with rfl|rfl|rfl|rfl|rfl|rfl|rfl<;>rfl
theorem mq_mc:¬Qu.MQ 135:=by unfold Qu.MQ;decide
theorem qt_mc:¬QT 135:=by unfold QT;decide
def Fm(F:Nat->Nat->Prop)(M R:Nat):Nat->Nat->Prop:=fun p k=>F p k\/(p=8/\(k=M\/k=R))
structure Mc(w:World)(L:Nat)(D:CAd)(F:Nat->Nat->Prop)(g v:Value)(M R n:Nat)(σ:CS)(xs:List WR)(d:DD):Prop where
 co:Co w L D F g v σ
 bm:Bx w F M (mcA D R n d) 135
 br:Bx w F R (wkF xs).toArray 78
 len:xs.length=n
 n1:1<=n
 n8:n<=8
 lM:L<=M
 lR:L<=R
def Mx(L:Nat)(D:CAd)(F:Nat->Nat->Prop)(M R n:Nat)(w:World)(σ:CS)(xs:List WR)(d:DD)(w':World):Prop:=∃F' g' v',Mc w' L D F' g' v' M R n σ xs d/\Gc L (Fm F M R) w (Fm F' M R) w'
variable {xs:List WR}{d:DD}
theorem Mc.ne(h:Mc w L D F g v M R n σ xs d):M≠R:=fun e=>by
 have h1:=h.bm.1;rw[e,h.br.1] at h1;simp only[Option.some.injEq,Obj.cells.injEq] at h1;exact absurd h1.2.1 (by decide)
theorem Fm.gc(G:Gc L F w F' w')(M R:Nat):Gc L (Fm F M R) w (Fm F' M R) w':=⟨⟨G.low,fun k hk hF hU=>G.block k hk (fun p hp=>hF p (.inl hp)) hU,fun p k hk=>by
 rcases hk with hk|hk
 ·exact(G.new p k hk).imp .inl id
 ·exact .inl (.inr hk)⟩,G.hd⟩
theorem Mc.turn{g' v':Value}(h:Mc w L D F g v M R n σ xs d)(C:Co w' L D F' g' v' σ')(G:Gc L F w F' w'):Mc w' L D F' g' v' M R n σ' xs d:=
 ⟨C,h.bm.gc mq_mc G,h.br.gc mq_wk G,h.len,h.n1,h.n8,h.lM,h.lR⟩
theorem Mc.cox(h:Mc w L D F g v M R n σ xs d)(X:Cox L D F w σ' w'):Mx L D F M R n w σ' xs d w':=by
 obtain⟨F',g',v',C,G⟩:=X;exact⟨F',g',v',h.turn C G,Fm.gc G M R⟩
theorem Mc.below(h:Mc w L D F g v M R n σ xs d)(b:Below w.heap.size w w'):Mc w' L D F g v M R n σ xs d:=
 ⟨h.co.below b,h.bm.below b,h.br.below b,h.len,h.n1,h.n8,h.lM,h.lR⟩
theorem Fm.below(h:Mc w L D F g v M R n σ xs d)(b:Below w.heap.size w w'):Gc L (Fm F M R) w (Fm F M R) w':=Gc.below _ h.co.lw b
theorem Mc.x(h:Mc w L D F g v M R n σ xs d):Mx L D F M R n w σ xs d w:=⟨F,g,v,h,Gc.refl _ _ _⟩
theorem Mc.xb(h:Mc w L D F g v M R n σ xs d)(b:Below w.heap.size w w'):Mx L D F M R n w σ xs d w':=⟨F,g,v,h.below b,Fm.below h b⟩
theorem Mc.c0(h:Mc w L D F g v M R n σ xs d):w.cell? ⟨M,0,none⟩=some (pt D.B):=h.bm.cell 0
theorem Mc.c1(h:Mc w L D F g v M R n σ xs d):w.cell? ⟨M,1,none⟩=some (.slice (some ⟨R,0,none⟩) n n):=h.bm.cell 1
theorem Mc.cd(h:Mc w L D F g v M R n σ xs d){j:Nat}(hj:j<7):w.cell? ⟨M,2+j,none⟩=some (.int .i64 (d.get j)):=(h.bm.cell (2+j)).trans (mcA_at D R n d hj)
theorem Mc.wk(h:Mc w L D F g v M R n σ xs d){t O:Nat}{x:WR}(hx:xs[t]?=some x)(hO:t*5=O):w.cell? ⟨R,O,none⟩=some (.int .i64 x.ph)/\w.cell? ⟨R,O+1,none⟩=some (.int .u64 x.key)/\w.cell? ⟨R,O+2,none⟩=some (.int .i64 x.id)/\w.cell? ⟨R,O+3,none⟩=some (.int .i64 x.pc)/\w.cell? ⟨R,O+4,none⟩=some (.bool x.bad):=by
 subst hO
 have q:∀j u,([.int .i64 x.ph,.int .u64 x.key,.int .i64 x.id,.int .i64 x.pc,.bool x.bad]:List Value)[j]?=some u->w.cell? ⟨R,t*5+j,none⟩=some u:=fun j u hu=>by
  rw[h.br.cell,List.getElem?_toArray];exact wkF_at xs t x hx j u hu
 exact⟨q 0 _ rfl,q 1 _ rfl,q 2 _ rfl,q 3 _ rfl,q 4 _ rfl⟩
def setW(w:World)(R O:Nat)(y:WR):World:=((((w.setCell ⟨R,O,none⟩ (.int .i64 y.ph)).setCell ⟨R,O+1,none⟩ (.int .u64 y.key)).setCell ⟨R,O+2,none⟩ (.int .i64 y.id)).setCell ⟨R,O+3,none⟩ (.int .i64 y.pc)).setCell ⟨R,O+4,none⟩ (.bool y.bad)
theorem setW_fr(w:World)(R O:Nat)(y:WR):Ta.Fr (fun k=>k=R) w (setW w R O y):=by
 have q:∀(v:World)(j:Nat)(a:Value),Ta.Fr (fun k=>k=R) v (v.setCell ⟨R,j,none⟩ a):=fun v j a=>Ta.Fr.setCell (fun k=>k=R) v R j a rfl;exact(((((q w _ _).trans (q _ _ _) (fun j hj=>.inl hj)).trans (q _ _ _) (fun j hj=>.inl hj)).trans (q _ _ _) (fun j hj=>.inl hj)).trans (q _ _ _) (fun j hj=>.inl hj))
theorem Mc.store(h:Mc w L D F g v M R n σ xs d){xs':List WR}{d':DD}(hl:xs'.length=n)(f:Ta.Fr (fun k=>k=M\/k=R) w w')(hm:w'.heap[M]?=some (.cells (mcA D R n d') 135 (0,0)))(hr:w'.heap[R]?=some (.cells (wkF xs').toArray 78 (0,0))):Mx L D F M R n w σ xs' d' w':=by
 have K:K8 (fun q=>False) w' L D F g v σ:=h.co.keep (fun q=>False) f (fun q _ k hk hy=>by
  rcases hy with rfl|rfl
  ·exact h.bm.2 q hk
  ·exact h.br.2 q hk) (fun _ k hk=>by
  rcases hk with rfl|rfl
  ·exact nq_of h.bm.1 qt_mc
  ·exact nq_of h.br.1 qt_wk)
 have C:=h.co;have C':Co w' L D F g v σ:=⟨K.head (by simp),K.tab (by simp),K.que (by simp),K.whl (by simp),K.dag (by simp),K.cre (by simp),K.evs (by simp),K.gon (by simp),C.f0,C.f2,C.f5,C.f6,C.f7,C.f8,C.fp.grow f.size,Nat.le_trans C.lw f.size,Nat.le_trans C.wb f.size,C.qok,C.th1,C.th8,C.k16⟩
 refine⟨F,g,v,⟨C',⟨hm,h.bm.2⟩,⟨hr,h.br.2⟩,hl,h.n1,h.n8,h.lM,h.lR⟩,⟨⟨f.toBelow (fun k hk=>by
  rcases hk with rfl|rfl
  ·exact h.lM
  ·exact h.lR) C.lw,fun k hk hF _=>f.block k hk (fun hk=>hF 8 (.inr ⟨rfl,hk⟩)),fun p k hk=>.inl hk⟩,fun k cs fr hk=>⟨cs,(f.block k (lt_of_block hk) (fun e=>?_)).trans hk,rfl⟩⟩⟩
 rcases e with rfl|rfl
 ·rw[h.bm.1] at hk;simp only[Option.some.injEq,Obj.cells.injEq] at hk;exact absurd hk.2.1 (by decide)
 ·rw[h.br.1] at hk;simp only[Option.some.injEq,Obj.cells.injEq] at hk;exact absurd hk.2.1 (by decide)
theorem Mc.setW(h:Mc w L D F g v M R n σ xs d){t O:Nat}(ht:t<n)(hO:t*5=O)(y:WR):Mx L D F M R n w σ (xs.set t y) d (setW w R O y):=by
 have ne:=h.ne;refine h.store (by rw[length_set];exact h.len) ((setW_fr w R O y).mono (fun k hk=>.inr hk)) (((setW_fr w R O y).block M (lt_of_block h.bm.1) ne).trans h.bm.1) ?_;subst hO;unfold Go.Proofs.YthpgfmmpjoodkaaGreatDoor.setW;rw[set_at (set_at (set_at (set_at (set_at h.br.1 _) _) _) _) _];simp only[List.setIfInBounds_toArray];rw[wkF_set xs t y (by rw[h.len];exact ht)]
theorem Mc.setD(h:Mc w L D F g v M R n σ xs d){j:Nat}(hj:j<7):Mx L D F M R n w σ xs (d.inc j) (w.setCell ⟨M,2+j,none⟩ (.int .i64 (d.get j+1))):=by
 have f:Ta.Fr (fun k=>k=M) w (w.setCell ⟨M,2+j,none⟩ (.int .i64 (d.get j+1))):=Ta.Fr.setCell (fun k=>k=M) w M _ _ rfl;refine h.store h.len (f.mono (fun k hk=>.inl hk)) ?_ ((f.block R (lt_of_block h.br.1) (fun e=>h.ne e.symm)).trans h.br.1);rw[set_at h.bm.1,mcA_set D R n d hj]
theorem Mx.then{σ1 σ2:CS}{xs1 xs2:List WR}{d1 d2:DD}(h:Mx L D F M R n w σ1 xs1 d1 w')(k:∀F' g' v',Mc w' L D F' g' v' M R n σ1 xs1 d1->Mx L D F' M R n w' σ2 xs2 d2 w''):Mx L D F M R n w σ2 xs2 d2 w'':=by
 obtain⟨F1,g1,v1,C1,G1⟩:=h;obtain⟨F2,g2,v2,C2,G2⟩:=k F1 g1 v1 C1;exact⟨F2,g2,v2,C2,G1.trans G2⟩
theorem coreM(h:Mc w L D F g v M R n σ xs d):Calls Tryz.prog 23 #[pt M] w fun e w'=>e=.returned (pt D.B)/\w'=w:=by
 have c0:=h.c0;have mlt:=lt_of_block h.bm.1;clear h;go_enter Tryz.func23,Tryz.ntmps23
 go_wp2
 go_ret;exact⟨rfl,rfl⟩
end
section
variable {w w' w'' u:World}{L i n M R:Nat}{D:CAd}{F F' F'':Nat->Nat->Prop}{g v:Value}{σ σ':CS}{xs:List WR}{d:DD}
def Md(W:World)(D:CAd)(M R n O:Nat)(x:WR):Prop:=W.cell? ⟨M,0,none⟩=some (pt D.B)/\W.cell? ⟨M,1,none⟩=some (.slice (some ⟨R,0,none⟩) n n)/\W.cell? ⟨R,O,none⟩=some (.int .i64 x.ph)/\W.cell? ⟨R,O+1,none⟩=some (.int .u64 x.key)/\W.cell? ⟨R,O+2,none⟩=some (.int .i64 x.id)/\W.cell? ⟨R,O+3,none⟩=some (.int .i64 x.pc)/\W.cell? ⟨R,O+4,none⟩=some (.bool x.bad)
theorem Mc.md(h:Mc w L D F g v M R n σ xs d){t O:Nat}{x:WR}(hx:xs[t]?=some x)(hO:t*5=O):Md w D M R n O x:=⟨h.c0,h.c1,h.wk hx hO⟩
theorem Mc.fr1(h:Mc w L D F g v M R n σ xs d){K:Nat}{cs:Array Value}{U:TypeId}(hB:Bx w (Fm F M R) K cs U)(hU:¬QT U)(f:Ta.Fr (fun k=>k=K) w w'):Mc w' L D F g v M R n σ xs d:=by
 have B0:Bx w F K cs U:=⟨hB.1,fun p hp=>hB.2 p (.inl hp)⟩;refine⟨h.co.fr1 B0 hU f,⟨(f.block M (lt_of_block h.bm.1) (fun e=>hB.2 8 (.inr ⟨rfl,.inl e.symm⟩))).trans h.bm.1,h.bm.2⟩,⟨(f.block R (lt_of_block h.br.1) (fun e=>hB.2 8 (.inr ⟨rfl,.inr e.symm⟩))).trans h.br.1,h.br.2⟩,h.len,h.n1,h.n8,h.lM,h.lR⟩
theorem Bx.newM(h:Mc w L D F g v M R n σ xs d)(cs:Array Value)(U:TypeId):Bx (w.alloc (.cells cs U)) (Fm F M R) w.heap.size cs U:=⟨heap_alloc_new w _,fun p hp=>by
 rcases hp with hp|⟨_,hp|hp⟩
 ·have:=h.co.fp.lt p _ hp;omega
 ·have:=lt_of_block h.bm.1;omega
 ·have:=lt_of_block h.br.1;omega⟩
theorem pickB(h:Mc w L D F g v M R n σ xs d){pk dr t:Nat}(hpk:pk<18446744073709551616)(ht:pk%n=t){x:WR}(hx:xs[t]?=some x)(hd:d.few 1000000){Z:WR->Nat->CS->Prop}
  (PS:∀w1,Below w.heap.size w w1->Co w1 L D F g v σ->Calls Tryz.prog 32 #[pt D.B,wkV x,.int .i64 t,.int .u64 dr] w1 fun e w'=>∃(y0 y1 y2 y3:Int)(y4:Bool)(j:Nat),e=.returned (.tuple #[wkV ⟨y0,y1,y2,y3,y4⟩,.int .i64 j])/\j<7/\∃σ',Z ⟨y0,y1,y2,y3,y4⟩ j σ'/\Cox L D F w1 σ' w') :
  Calls Tryz.prog 27 #[pt M,.int .u64 pk,.int .u64 dr] w fun e w'=>∃j y σ',e=.returned (.int .i64 (j:Nat))/\j<7/\Z y j σ'/\Mx L D F M R n w σ' (xs.set t y) (d.inc j) w':=by
 have n1:=h.n1;have n8:=h.n8;have tn:t<n:=by rw[<-ht];exact Nat.mod_lt _ (by omega)
 obtain⟨O,hO⟩:∃O,t*5=O:=⟨_,rfl⟩;obtain⟨x0,x1,x2,x3,x4⟩:=x;obtain⟨N,hN⟩:∃N,w.heap.size=N:=⟨_,rfl⟩;have c1:=h.c1;have mlt:=lt_of_block h.bm.1;have HH:Aside (Mc w L D F g v M R n σ xs d/\xs[t]?=some ⟨x0,x1,x2,x3,x4⟩/\d.few 1000000/\t<n/\n<=8/\t*5=O/\w.heap.size=N):=⟨h,hx,hd,tn,n8,hO,hN⟩;have HP:Aside _:=PS;have hm:(pk:Int)%(n:Int)=(t:Int):=by rw[<-ht];omega
 have hn0:¬n=0:=by omega
 have hn0':¬(n:Int)=0:=by omega
 have w1:IntKind.u64.wrap (n:Int)=(n:Int):=by rw[IntKind.wrap_u64];omega
 have w2:IntKind.i64.wrap (t:Int)=(t:Int):=by rw[IntKind.wrap_i64];omega
 clear h hx hd PS ht;go_enter Tryz.func27,Tryz.ntmps27
 go_upto_region 2 with fail
 have h7:=HH.out.1.md HH.out.2.1 hO;have b0:Below w.heap.size w w.drew:=(Below.refl _ _).drew;have bA:Below w.heap.size w (w.alloc (.cells #[.int .i64 0,.int .u64 0,.int .i64 0,.int .i64 0,.bool false] 78)).drew:=(belA w _).drew;have MA:Aside (Mc (w.alloc (.cells #[.int .i64 0,.int .u64 0,.int .i64 0,.int .i64 0,.bool false] 78)).drew L D F g v M R n σ xs d/\Bx (w.alloc (.cells #[.int .i64 0,.int .u64 0,.int .i64 0,.int .i64 0,.bool false] 78)).drew (Fm F M R) N (wkA wk0) 78):=⟨HH.out.1.below bA,by rw[<-hN];exact(Bx.newM HH.out.1 (wkA wk0) 78)⟩;have e7:Md w.drew D M R n O ⟨x0,x1,x2,x3,x4⟩:=(HH.out.1.below b0).md HH.out.2.1 hO;have a7:=MA.out.1.md HH.out.2.1 hO;have KP:Aside (∀(W:World)(F1:Nat->Nat->Prop)(g1 v1:Value)(τ:CS),Mc W L D F1 g1 v1 M R n τ xs d->Md W D M R n O ⟨x0,x1,x2,x3,x4⟩):=fun W F1 g1 v1 τ h=>h.md HH.out.2.1 hO;unfold Md at e7 a7 KP;have PW:Aside (Calls Tryz.prog 32 #[pt D.B,.agg #[.int .i64 x0,.int .u64 x1,.int .i64 x2,.int .i64 x3,.bool x4],.int .i64 t,.int .u64 dr] w.drew fun e w'=>∃(y0 y1 y2 y3:Int)(y4:Bool)(j:Nat),e=.returned (.tuple #[.agg #[.int .i64 y0,.int .u64 y1,.int .i64 y2,.int .i64 y3,.bool y4],.int .i64 j])/\j<7/\∃σ',Z ⟨y0,y1,y2,y3,y4⟩ j σ'/\Cox L D F w.drew σ' w'):=HP.out w.drew b0 (HH.out.1.below b0).co;have PA:Aside (Calls Tryz.prog 32 #[pt D.B,.agg #[.int .i64 x0,.int .u64 x1,.int .i64 x2,.int .i64 x3,.bool x4],.int .i64 t,.int .u64 dr] (w.alloc (.cells #[.int .i64 0,.int .u64 0,.int .i64 0,.int .i64 0,.bool false] 78)).drew fun e w'=>∃(y0 y1 y2 y3:Int)(y4:Bool)(j:Nat),e=.returned (.tuple #[.agg #[.int .i64 y0,.int .u64 y1,.int .i64 y2,.int .i64 y3,.bool y4],.int .i64 j])/\j<7/\∃σ',Z ⟨y0,y1,y2,y3,y4⟩ j σ'/\Cox L D F (w.alloc (.cells #[.int .i64 0,.int .u64 0,.int .i64 0,.int .i64 0,.bool false] 78)).drew σ' w'):=HP.out _ bA MA.out.1.co;have HB:Aside (Below w.heap.size w w.drew/\Below w.heap.size w (w.alloc (.cells #[.int .i64 0,.int .u64 0,.int .i64 0,.int .i64 0,.bool false] 78)).drew):=⟨b0,bA⟩;have rlt:=lt_of_block HH.out.1.br.1;have rfz:∀o,w.frozen? ⟨R,o,none⟩=false:=(fun o=>by simp[World.frozen?,HH.out.1.br.1]);clear h7 b0 bA c1 hm hn0 hn0' w1 w2
 go_cut [8,9] from 20 to 36 (fun s8 s9 wx=>∃(T:Nat)(y0 y1 y2 y3:Int)(y4:Bool)(j:Nat),s8=.pointer (some ⟨T,0,none⟩)/\s9=.int .i64 j/\Aside (j<7)/\∃(σ':CS)(F3:Nat->Nat->Prop)(g3 v3:Value),Aside (Z ⟨y0,y1,y2,y3,y4⟩ j σ')/\Aside (Mc wx L D F3 g3 v3 M R n σ' xs d)/\Aside (Gc L (Fm F M R) w (Fm F3 M R) wx)/\Aside (Bx wx (Fm F3 M R) T #[.int .i64 y0,.int .u64 y1,.int .i64 y2,.int .i64 y3,.bool y4] 78))
 case first=>
  go_region_held3 (fun W=>W.cell? ⟨M,0,none⟩=some (pt D.B)/\W.cell? ⟨M,1,none⟩=some (.slice (some ⟨R,0,none⟩) n n)/\W.cell? ⟨R,O,none⟩=some (.int .i64 x0)/\W.cell? ⟨R,O+1,none⟩=some (.int .u64 x1)/\W.cell? ⟨R,O+2,none⟩=some (.int .i64 x2)/\W.cell? ⟨R,O+3,none⟩=some (.int .i64 x3)/\W.cell? ⟨R,O+4,none⟩=some (.bool x4)) (first|with_reducible exact e7|with_reducible exact a7|with_reducible exact d7|exact KP.out _ _ _ _ _ (M3.out.below (belA w3 _))|exact KS.out _ _ _ _ _)
   ((go_at_call 32;first
    | ((with_reducible refine Calls.mono PW.out ?_);rintro e w3 ⟨y0,y1,y2,y3,y4,j,rfl,hj,σ',hz,F3,g3,v3,C3,G3⟩;have M3:Aside (Mc w3 L D F3 g3 v3 M R n σ' xs d):=(HH.out.1.below HB.out.1).turn C3 G3;have X3:Aside (Gc L (Fm F M R) w (Fm F3 M R) w3/\j<7/\Z ⟨y0,y1,y2,y3,y4⟩ j σ'):=⟨(Fm.below HH.out.1 HB.out.1).trans (Fm.gc G3 M R),hj,hz⟩;have d7:=KP.out w3 F3 g3 v3 σ' M3.out;clear C3 G3 hj hz)
    | ((with_reducible refine Calls.mono PA.out ?_);rintro e w3 ⟨y0,y1,y2,y3,y4,j,rfl,hj,σ',hz,F3,g3,v3,C3,G3⟩;have M3:Aside (Mc w3 L D F3 g3 v3 M R n σ' xs d):=MA.out.1.turn C3 G3;have X3:Aside (Gc L (Fm F M R) w (Fm F3 M R) w3/\j<7/\Z ⟨y0,y1,y2,y3,y4⟩ j σ'):=⟨(Fm.below HH.out.1 HB.out.2).trans (Fm.gc G3 M R),hj,hz⟩;have B3:Aside (Bx w3 (Fm F3 M R) N (wkA wk0) 78):=MA.out.2.gc mq_wk (Fm.gc G3 M R);have d7:=KP.out w3 F3 g3 v3 σ' M3.out;obtain⟨m0,m1,m2,m3,m4⟩:=bx5 B3.out.1;have nlt:=lt_of_block B3.out.1;have nfz:∀o,w3.frozen? ⟨N,o,none⟩=false:=(fun o=>by simp[World.frozen?,B3.out.1]);have KS:Aside (∀a0 a1 a2 a3 a4,Md (set5 w3 N a0 a1 a2 a3 a4) D M R n O ⟨x0,x1,x2,x3,x4⟩):=(fun a0 a1 a2 a3 a4=>(M3.out.fr1 B3.out qt_wk (set5_fr w3 N a0 a1 a2 a3 a4)).md HH.out.2.1 HH.out.2.2.2.2.2.1);unfold Md set5 at KS;clear C3 G3 hj hz)))
  all_goals go_wp2_with fail
  all_goals go_meet
  ·exact⟨w3.heap.size,y0,y1,y2,y3,y4,j,rfl,rfl,X3.out.2.1,σ',F3,g3,v3,X3.out.2.2,M3.out.below (belA w3 _),X3.out.1.trans (Fm.below M3.out (belA w3 _)),Bx.newM M3.out _ _⟩
  ·exact⟨N,y0,y1,y2,y3,y4,j,rfl,rfl,X3.out.2.1,σ',F3,g3,v3,X3.out.2.2,M3.out.fr1 B3.out qt_wk (set5_fr w3 N _ _ _ _ _),X3.out.1.own (le_of_eq hN) HH.out.1.co.lw (set5_fr w3 N _ _ _ _ _),set5_at B3.out.1 _ _ _ _ _,B3.out.2⟩
 case rest=>
  obtain⟨T,y0,y1,y2,y3,y4,j,rfl,rfl,hj,σ',F3,g3,v3,hz,M3,G3,B3⟩:=hcut;have c1:=M3.out.c1;obtain⟨r0,r1,r2,r3,r4⟩:=M3.out.wk HH.out.2.1 hO;obtain⟨t0,t1,t2,t3,t4⟩:=bx5 B3.out.1;have tlt:=lt_of_block B3.out.1;have mlt:=lt_of_block M3.out.bm.1;have rlt:=lt_of_block M3.out.br.1;have rfz:∀o,wc.frozen? ⟨R,o,none⟩=false:=(fun o=>by simp[World.frozen?,M3.out.br.1]);have htn:(t:Int)<(n:Int):=by omega
  obtain⟨u,hu⟩:∃q,setW wc R O ⟨y0,y1,y2,y3,y4⟩=q:=⟨_,rfl⟩;obtain⟨F4,g4,v4,M4',G4⟩:=M3.out.setW tn hO ⟨y0,y1,y2,y3,y4⟩;rw[hu] at M4' G4;have M4:Aside (Mc u L D F4 g4 v4 M R n σ' (xs.set t ⟨y0,y1,y2,y3,y4⟩) d):=M4';have X4:Aside (Gc L (Fm F M R) w (Fm F4 M R) u):=G3.out.trans G4;have X4G:Aside (Gc L (Fm F3 M R) wc (Fm F4 M R) u):=G4;unfold setW at hu;have HU:Aside _:=hu;clear M4' G4 hu e7 a7;have B4:=B3.out.gc mq_wk X4G.out;obtain⟨p0,p1,p2,p3,p4⟩:=bx5 B4.1;have s6:u.drew.cell? ⟨M,1,none⟩=some (.slice (some ⟨R,0,none⟩) n n)/\u.drew.cell? ⟨T,0,none⟩=some (.int .i64 y0)/\u.drew.cell? ⟨T,1,none⟩=some (.int .u64 y1)/\u.drew.cell? ⟨T,2,none⟩=some (.int .i64 y2)/\u.drew.cell? ⟨T,3,none⟩=some (.int .i64 y3)/\u.drew.cell? ⟨T,4,none⟩=some (.bool y4):=⟨M4.out.c1,p0,p1,p2,p3,p4⟩;have e6:wc.drew.cell? ⟨M,1,none⟩=some (.slice (some ⟨R,0,none⟩) n n)/\wc.drew.cell? ⟨T,0,none⟩=some (.int .i64 y0)/\wc.drew.cell? ⟨T,1,none⟩=some (.int .u64 y1)/\wc.drew.cell? ⟨T,2,none⟩=some (.int .i64 y2)/\wc.drew.cell? ⟨T,3,none⟩=some (.int .i64 y3)/\wc.drew.cell? ⟨T,4,none⟩=some (.bool y4):=⟨c1,t0,t1,t2,t3,t4⟩;have S6:Aside _:=s6;clear B4 p0 p1 p2 p3 p4 s6 c1 t0 t1 t2 t3 t4;go_upto_region 3 with fail
  go_region_held3 (fun W=>W.cell? ⟨M,1,none⟩=some (.slice (some ⟨R,0,none⟩) n n)/\W.cell? ⟨T,0,none⟩=some (.int .i64 y0)/\W.cell? ⟨T,1,none⟩=some (.int .u64 y1)/\W.cell? ⟨T,2,none⟩=some (.int .i64 y2)/\W.cell? ⟨T,3,none⟩=some (.int .i64 y3)/\W.cell? ⟨T,4,none⟩=some (.bool y4)) (first|with_reducible exact e6|(rw[HU.out];exact S6.out)) (fail)
  clear r0 r1 r2 r3 r4 tlt mlt rlt rfz e6;have md:=M4.out.cd hj.out;obtain⟨G,hG⟩:∃G,d.get j=G:=⟨_,rfl⟩;have hG0:=DD.few_get HH.out.2.2.1 j;rw[hG] at md hG0;obtain⟨G1,hG1⟩:∃G1,G+1=G1:=⟨_,rfl⟩;have hwr:IntKind.i64.wrap (G+1)=G1:=by rw[IntKind.wrap_i64];omega
  have mlt:=lt_of_block M4.out.bm.1;have mfz:∀o,u.frozen? ⟨M,o,none⟩=false:=(fun o=>by simp[World.frozen?,M4.out.bm.1]);have mlt':M<u.drew.heap.size:=mlt;have mfz':∀o,u.drew.frozen? ⟨M,o,none⟩=false:=mfz;have hj7:(j:Int)<7:=by have:=hj.out;omega
  have FIN:Aside (∀W,Below (u.setCell ⟨M,2+j,none⟩ (.int .i64 G1)).heap.size (u.setCell ⟨M,2+j,none⟩ (.int .i64 G1)) W->Mx L D F M R n w σ' (xs.set t ⟨y0,y1,y2,y3,y4⟩) (d.inc j) W):=by
   intro W bW;obtain⟨F5,g5,v5,M5,G5⟩:=M4.out.setD hj.out;rw[hG,hG1] at M5 G5;exact⟨F5,g5,v5,M5.below bW,(X4.out.trans G5).trans (Fm.below M5 bW)⟩
  clear hG hG0 hG1;go_upto_region 4 with fail
  rw[HU.out];have dd:u.drew.cell? ⟨M,2+j,none⟩=some (.int .i64 G):=md;have dd2:u.drew.drew.cell? ⟨M,2+j,none⟩=some (.int .i64 G):=md;have mlt2:M<u.drew.drew.heap.size:=mlt;have mfz2:∀o,u.drew.drew.frozen? ⟨M,o,none⟩=false:=mfz
  go_region
  all_goals go_wp2_with fail
  all_goals go_ret
  all_goals exact⟨j,rfl,hj.out,_,σ',hz.out,FIN.out _ (by first|exact Below.refl _ _|exact(Below.refl _ _).drew|exact(Below.refl _ _).drew.drew|exact(Below.refl _ _).drew.drew.drew)⟩
end
section
variable {w w' w'' u:World}{L i n M R:Nat}{D:CAd}{F F' F'':Nat->Nat->Prop}{g v:Value}{σ σ':CS}{xs:List WR}{d:DD}
theorem infoW:∃i,Tryz.prog.info? 78=some i/\i.zero=some (.agg #[.int .i64 0,.int .u64 0,.int .i64 0,.int .i64 0,.bool false])/\i.size=5/\i.bytes=40:=by
 have h:(Tryz.prog.info? 78).map (fun i=>(i.zero,i.size,i.bytes))=some (some (.agg #[.int .i64 0,.int .u64 0,.int .i64 0,.int .i64 0,.bool false]),5,40):=by kernel_rfl
 obtain⟨i,h1,h2⟩:=Option.map_eq_some_iff.1 h;simp at h2;exact⟨i,h1,h2.1,h2.2.1,h2.2.2⟩
theorem made5(n:Nat)(h1:1<=n)(h8:n<=8):madeCells (Value.agg #[.int .i64 0,.int .u64 0,.int .i64 0,.int .i64 0,.bool false]).cells (n*5)=(wkF (List.replicate n wk0)).toArray:=by
 have:n=1\/n=2\/n=3\/n=4\/n=5\/n=6\/n=7\/n=8:=by omega
 rcases this with rfl|rfl|rfl|rfl|rfl|rfl|rfl|rfl<;>simp[madeCells,Value.cells,wkF,wk0,List.replicate,Array.range,Array.ofFn_succ]
theorem makeW(w:World)(n:Nat)(h1:1<=n)(h8:n<=8) :
  (Instr.makeSlice 132 (.int .i64 (n:Int)) (.int .i64 (n:Int))).run Tryz.prog w=.ok (.slice (some ⟨w.heap.size,0,none⟩) n n) (w.alloc (.cells (wkF (List.replicate n wk0)).toArray 78)):=by
 obtain⟨i,hi,hz,hs,hby⟩:=infoW;have hm:=run_make (P:=Tryz.prog) w 132 78 i _ Tryz.underlying132 hi hz .i64 .i64 n n (by omega) (Int.le_refl _) (by rw[hby];omega) (by omega);simp only[Int.toNat_natCast,hs] at hm;rw[made5 n h1 h8] at hm;exact hm
theorem newM(th k c:Nat)(w:World)(t1:1<=th)(t8:th<=8)(k16:k<=16)(n1:1<=c)(n64:c<=64) :
  Calls Tryz.prog 22 #[.agg #[.int .i64 th,.int .i64 k,.int .i64 c]] w fun e w'=>∃M,e=.returned (.tuple #[pt M,.int .i64 0])/\∃L D F R,w.heap.size<=L/\Mc w' L D F (.slice none 0 0) (.slice none 0 0) M R th (newS th k c) (List.replicate th wk0) DD.z/\Below w.heap.size w w':=by
 obtain⟨K,hK⟩:∃J,w.heap.size=J:=⟨_,rfl⟩;obtain⟨u,hu⟩:∃q,w.alloc (.cells #[.int .i64 th,.int .i64 k,.int .i64 c] 28)=q:=⟨_,rfl⟩;have b0:Below w.heap.size w u:=by rw[<-hu];exact belA _ _
 have hk:u.heap[K]?=some (.cells #[.int .i64 th,.int .i64 k,.int .i64 c] 28 (0,0)):=by rw[<-hu,<-hK];exact heap_alloc_new w _
 have P:=newC th k c u t1 t8 k16 n1 n64;have HB:Aside (Below w.heap.size w u/\u.heap[K]?=some (.cells #[.int .i64 th,.int .i64 k,.int .i64 c] 28 (0,0))/\w.heap.size=K/\1<=th/\th<=8):=⟨b0,hk,hK,t1,t8⟩;obtain⟨k0,k1,k2⟩:=bx3 hk;have klt:=lt_of_block hk;have HU:Aside _:=hu;clear hu b0 hk t1 t8 k16 n1 n64;go_enter Tryz.func22,Tryz.ntmps22
 go_upto_region 1 with fail
 rw[HU.out];try simp only[hK]
 go_wp2_with fail
 refine P.mono ?_;rintro e w1 ⟨D,F,rfl,C1,b1⟩;clear k0 k1 k2 klt P;have hk1:w1.heap[K]?=some (.cells #[.int .i64 th,.int .i64 k,.int .i64 c] 28 (0,0)):=(b1.block K (lt_of_block HB.out.2.1)).trans HB.out.2.1;obtain⟨k0,k1,k2⟩:=bx3 hk1;have klt:=lt_of_block hk1;obtain⟨R,hR⟩:∃J,w1.heap.size=J:=⟨_,rfl⟩;have hmk:=makeW w1 th HB.out.2.2.2.1 HB.out.2.2.2.2;obtain⟨u1,hu1⟩:∃q,w1.alloc (.cells (wkF (List.replicate th wk0)).toArray 78)=q:=⟨_,rfl⟩;rw[hR,hu1] at hmk;have b2:Below w1.heap.size w1 u1:=by rw[<-hu1];exact belA _ _
 have BR:Bx u1 F R (wkF (List.replicate th wk0)).toArray 78:=by rw[<-hu1,<-hR];exact Bx.new C1 _ _
 have X1:Aside (Co u1 (u.heap.size+1) D F (.slice none 0 0) (.slice none 0 0) (newS th k c)/\Below w.heap.size w u1/\w.heap.size<=u.heap.size+1/\Bx u1 F R (wkF (List.replicate th wk0)).toArray 78/\u.heap.size+1<=R):=⟨C1.below b2,belT (belT HB.out.1 b1) b2,le_succ_of_le HB.out.1.size,BR,by rw[<-hR];exact C1.lw⟩;have hd0:u1.drew.heap=u1.heap:=rfl;clear C1 b1 hk1 b2 BR hu1
 go_wp2_with fail
 go_ret2;exact⟨_,rfl,_,D,F,R,X1.out.2.2.1,⟨X1.out.1.below (belA _ _),Bx.new X1.out.1 _ _,X1.out.2.2.2.1.below (belA _ _),List.length_replicate,HB.out.2.2.2.1,HB.out.2.2.2.2,X1.out.1.lw,X1.out.2.2.2.2⟩,belT X1.out.2.1 (belA _ _)⟩
theorem ix7_0(d0 d1 d2 d3 d4 d5 d6:Int)(w:World):(Instr.index 133 (.agg #[.int .i64 d0,.int .i64 d1,.int .i64 d2,.int .i64 d3,.int .i64 d4,.int .i64 d5,.int .i64 d6]) (.int .i64 0)).run Tryz.prog w=.ok (.int .i64 d0) w:=by kernel_rfl
theorem ix7_1(d0 d1 d2 d3 d4 d5 d6:Int)(w:World):(Instr.index 133 (.agg #[.int .i64 d0,.int .i64 d1,.int .i64 d2,.int .i64 d3,.int .i64 d4,.int .i64 d5,.int .i64 d6]) (.int .i64 1)).run Tryz.prog w=.ok (.int .i64 d1) w:=by kernel_rfl
theorem ix7_2(d0 d1 d2 d3 d4 d5 d6:Int)(w:World):(Instr.index 133 (.agg #[.int .i64 d0,.int .i64 d1,.int .i64 d2,.int .i64 d3,.int .i64 d4,.int .i64 d5,.int .i64 d6]) (.int .i64 2)).run Tryz.prog w=.ok (.int .i64 d2) w:=by kernel_rfl
theorem ix7_3(d0 d1 d2 d3 d4 d5 d6:Int)(w:World):(Instr.index 133 (.agg #[.int .i64 d0,.int .i64 d1,.int .i64 d2,.int .i64 d3,.int .i64 d4,.int .i64 d5,.int .i64 d6]) (.int .i64 3)).run Tryz.prog w=.ok (.int .i64 d3) w:=by kernel_rfl
theorem ix7_4(d0 d1 d2 d3 d4 d5 d6:Int)(w:World):(Instr.index 133 (.agg #[.int .i64 d0,.int .i64 d1,.int .i64 d2,.int .i64 d3,.int .i64 d4,.int .i64 d5,.int .i64 d6]) (.int .i64 4)).run Tryz.prog w=.ok (.int .i64 d4) w:=by kernel_rfl
theorem ix7_5(d0 d1 d2 d3 d4 d5 d6:Int)(w:World):(Instr.index 133 (.agg #[.int .i64 d0,.int .i64 d1,.int .i64 d2,.int .i64 d3,.int .i64 d4,.int .i64 d5,.int .i64 d6]) (.int .i64 5)).run Tryz.prog w=.ok (.int .i64 d5) w:=by kernel_rfl
theorem ix7_6(d0 d1 d2 d3 d4 d5 d6:Int)(w:World):(Instr.index 133 (.agg #[.int .i64 d0,.int .i64 d1,.int .i64 d2,.int .i64 d3,.int .i64 d4,.int .i64 d5,.int .i64 d6]) (.int .i64 6)).run Tryz.prog w=.ok (.int .i64 d6) w:=by kernel_rfl
theorem idx7(d:DD)(w:World){k:Nat}(hk:k<7):(Instr.index 133 (.agg #[.int .i64 d.d0,.int .i64 d.d1,.int .i64 d.d2,.int .i64 d.d3,.int .i64 d.d4,.int .i64 d.d5,.int .i64 d.d6]) (.int .i64 (k:Int))).run Tryz.prog w=.ok (.int .i64 (d.get k)) w:=by
 have:k=0\/k=1\/k=2\/k=3\/k=4\/k=5\/k=6:=by omega
 rcases this with rfl|rfl|rfl|rfl|rfl|rfl|rfl
 ·exact ix7_0 _ _ _ _ _ _ _ w
 ·exact ix7_1 _ _ _ _ _ _ _ w
 ·exact ix7_2 _ _ _ _ _ _ _ w
 ·exact ix7_3 _ _ _ _ _ _ _ w
 ·exact ix7_4 _ _ _ _ _ _ _ w
 ·exact ix7_5 _ _ _ _ _ _ _ w
 ·exact ix7_6 _ _ _ _ _ _ _ w
def DD.part(d:DD)(k:Nat):Int:=match k with
 | 0=>0
 | 1=>d.d0
 | 2=>d.d0+d.d1
 | 3=>d.d0+d.d1+d.d2
 | 4=>d.d0+d.d1+d.d2+d.d3
 | 5=>d.d0+d.d1+d.d2+d.d3+d.d4
 | 6=>d.d0+d.d1+d.d2+d.d3+d.d4+d.d5
 | _=>d.d0+d.d1+d.d2+d.d3+d.d4+d.d5+d.d6
theorem DD.part_up(d:DD){k:Nat}(hk:k<7):d.part (k+1)=d.part k+d.get k:=by
 have:k=0\/k=1\/k=2\/k=3\/k=4\/k=5\/k=6:=by omega
 rcases this with rfl|rfl|rfl|rfl|rfl|rfl|rfl
 ·show d.d0=0+d.d0;omega
 all_goals rfl
theorem DD.part_le(d:DD){k:Nat}(h:0<=d.d0/\0<=d.d1/\0<=d.d2/\0<=d.d3/\0<=d.d4/\0<=d.d5/\0<=d.d6):0<=d.part k/\d.part k<=d.sum:=by
 unfold DD.part DD.sum
 split<;>omega
theorem picksM(h:Mc w L D F g v M R n σ xs d)(hd:d.few 1000000):Calls Tryz.prog 28 #[pt M] w fun e w'=>e=.returned (.int .i64 d.sum)/\w'=w:=by
 obtain⟨d0,d1,d2,d3,d4,d5,d6⟩:=d;have cc:=fun j (hj:j<7)=>h.cd hj;have q0:w.cell? ⟨M,2,none⟩=some (.int .i64 d0):=cc 0 (by omega);have q1:w.cell? ⟨M,3,none⟩=some (.int .i64 d1):=cc 1 (by omega);have q2:w.cell? ⟨M,4,none⟩=some (.int .i64 d2):=cc 2 (by omega);have q3:w.cell? ⟨M,5,none⟩=some (.int .i64 d3):=cc 3 (by omega);have q4:w.cell? ⟨M,6,none⟩=some (.int .i64 d4):=cc 4 (by omega);have q5:w.cell? ⟨M,7,none⟩=some (.int .i64 d5):=cc 5 (by omega);have q6:w.cell? ⟨M,8,none⟩=some (.int .i64 d6):=cc 6 (by omega);have mlt:=lt_of_block h.bm.1;obtain⟨h0,h1,h2,h3,h4,h5,h6,hs⟩:=hd;obtain⟨S,hS⟩:∃S,DD.sum ⟨d0,d1,d2,d3,d4,d5,d6⟩=S:=⟨_,rfl⟩;have HS:Aside (d0+d1+d2+d3+d4+d5+d6=S/\S<=1000000):=⟨hS,by rw[<-hS];exact hs⟩;have HN:Aside (0<=d0/\0<=d1/\0<=d2/\0<=d3/\0<=d4/\0<=d5/\0<=d6):=⟨h0,h1,h2,h3,h4,h5,h6⟩;rw[hS];clear h hs hS h0 h1 h2 h3 h4 h5 h6 cc;go_enter Tryz.func28,Tryz.ntmps28
 go_wp2_with fail
 go_loopg [3,5,10] 7 (fun kx s3 s5 s10 wr=>∃k:Nat,s10=.int .i64 k/\k<=7/\7-k<=kx/\wr=w/\s3=.int .i64 ((DD.mk d0 d1 d2 d3 d4 d5 d6).part k))
 case atStart=>exact⟨0,rfl,by omega,by omega,rfl,rfl⟩
 case round=>
  obtain⟨k,rfl,hk,hkx,rfl,rfl⟩:=hrel;have hn:=HN.out;have hs:=HS.out;by_cases c:k<7
  ·have ix:=idx7 ⟨d0,d1,d2,d3,d4,d5,d6⟩ wr c;have hlt:(k:Int)<7:=by omega
   obtain⟨G,hG⟩:∃G,DD.get ⟨d0,d1,d2,d3,d4,d5,d6⟩ k=G:=⟨_,rfl⟩;obtain⟨A,hA⟩:∃A,DD.part ⟨d0,d1,d2,d3,d4,d5,d6⟩ k=A:=⟨_,rfl⟩;obtain⟨A1,hA1⟩:∃A,DD.part ⟨d0,d1,d2,d3,d4,d5,d6⟩ (k+1)=A:=⟨_,rfl⟩
   have hs1:A+G=A1/\-1<=A1/\A1<=1000000:=by
    have hu:=DD.part_up ⟨d0,d1,d2,d3,d4,d5,d6⟩ c;have hb:=DD.part_le ⟨d0,d1,d2,d3,d4,d5,d6⟩ (k:=k+1) hn;rw[hG,hA,hA1] at hu;rw[hA1] at hb;have e7:DD.sum ⟨d0,d1,d2,d3,d4,d5,d6⟩=S:=hs.1;rw[e7] at hb;exact⟨hu.symm,by have:=hb.1;omega,Int.le_trans hb.2 hs.2⟩
   have hwA:IntKind.i64.wrap (A+G)=A1:=by rw[IntKind.wrap_i64];omega
   rw[hG] at ix;rw[hA];have HA1:Aside _:=hA1;clear hn hs hG hA hA1 hs1 c
   go_wp2_with fail
   go_roundg (7-(k+1))
   case measure=>omega
   case rel=>exact⟨k+1,by go_num,by omega,Nat.le_refl _,rfl,by rw[HA1.out]⟩
  ·obtain rfl:k=7:=by omega
   unfold DD.part
   go_wp2_with fail
   go_ret;exact⟨congrArg (fun z=>Ending.returned (.int .i64 z)) hs.1,rfl⟩
def DD.list(d:DD):List Int:=[d.d0,d.d1,d.d2,d.d3,d.d4,d.d5,d.d6]
theorem didM(h:Mc w L D F g v M R n σ xs d):Calls Tryz.prog 25 #[pt M] w fun e w'=>∃a cap,e=.returned (.slice a 7 cap)/\Da.OwnI w' w.heap.size (.slice a 7 cap) d.list/\Below w.heap.size w w':=by
 have mlt:=lt_of_block h.bm.1
 have I:Da.IsI w (some ⟨M,2,none⟩) 7 d.list:=⟨by show 7<=7;omega,by unfold maxLen;omega,fun i x hx=>by
  have hi:=(List.getElem?_eq_some_iff.1 hx).1;refine⟨M,2,rfl,mlt,?_⟩;have hi7:i<7:=hi;rw[h.cd hi7];have:i=0\/i=1\/i=2\/i=3\/i=4\/i=5\/i=6:=by omega
  rcases this with rfl|rfl|rfl|rfl|rfl|rfl|rfl<;>(simp[DD.list] at hx;subst hx;rfl)⟩
 have P:Calls Tryz.prog 71 #[.slice (some ⟨M,2,none⟩) 7 7] w fun e w'=>∃v',e=.returned v'/\Da.OwnI w' w.heap.size v' d.list/\Below w.heap.size w w':=Da.clone_any I (by show 7<=1000000;omega);clear I h;go_enter Tryz.func25,Tryz.ntmps25
 go_wp2_with fail
 refine P.mono ?_;rintro e w1 ⟨v',rfl,o,b⟩;obtain⟨a,cap,rfl,_⟩:=o.isI;have FIN:Aside (Da.OwnI w1 w.heap.size (.slice a 7 cap) d.list/\Below w.heap.size w w1):=⟨o,b⟩;clear P o b
 go_wp2_with fail
 go_ret;exact⟨_,_,rfl,FIN.out.1,FIN.out.2⟩
theorem allIdleM(h:Mc w L D F g v M R n σ xs d):Calls Tryz.prog 124 #[pt M] w fun e w'=>e=.returned (.bool (xs.all fun x=>x.ph==0))/\Below w.heap.size w w':=by
 have n1:=h.n1;have n8:=h.n8;have c1:=h.c1;have mlt:=lt_of_block h.bm.1;obtain⟨B,hB⟩:∃B,(xs.all fun x=>x.ph==0)=B:=⟨_,rfl⟩;rw[hB];have HH:Aside (Mc w L D F g v M R n σ xs d/\(xs.all fun x=>x.ph==0)=B):=⟨h,hB⟩;clear h hB;go_enter Tryz.func124,Tryz.ntmps124
 go_wp2_with fail
 go_loopg [4,10] n (fun kx s4 s10 wr=>∃(k:Nat),s10=.int .i64 k/\k<=n/\n-k<=kx/\Aside (Below w.heap.size w wr/\∀i x,i<k->xs[i]?=some x->x.ph=0))
 case atStart=>exact⟨0,rfl,by omega,by omega,Below.refl _ _,fun i x hi=>absurd hi (by omega)⟩
 case round=>
  obtain⟨k,rfl,hk,hkx,S1⟩:=hrel;by_cases c:k<n
  ·have hlt:(k:Int)<(n:Int):=by omega
   obtain⟨x,hx⟩:∃x,xs[k]?=some x:=⟨_,List.getElem?_eq_getElem (by rw[HH.out.1.len];exact c)⟩;obtain⟨O,hO⟩:∃O,k*5=O:=⟨_,rfl⟩;have h1:=HH.out.1.below S1.out.1;obtain⟨k0,k1,k2,k3,k4⟩:=h1.wk hx hO;have rlt:=lt_of_block h1.br.1;obtain⟨x0,x1,x2,x3,x4⟩:=x;have PI:Aside (∀W,Calls Tryz.prog 34 #[.agg #[.int .i64 x0,.int .u64 x1,.int .i64 x2,.int .i64 x3,.bool x4]] W fun e w'=>e=.returned (.bool (x0==0))/\Below W.heap.size W w'):=fun W=>idleC ⟨x0,x1,x2,x3,x4⟩ W;have HX:Aside (xs[k]?=some ⟨x0,x1,x2,x3,x4⟩):=hx;obtain⟨J,hJ⟩:∃J,wr.heap.size=J:=⟨_,rfl⟩;obtain⟨u,hu⟩:∃q,wr.alloc (.cells #[.int .i64 x0,.int .u64 x1,.int .i64 x2,.int .i64 x3,.bool x4] 78)=q:=⟨_,rfl⟩;have b0:Below wr.heap.size wr u:=by rw[<-hu];exact belA _ _
   have hb:u.heap[J]?=some (.cells #[.int .i64 x0,.int .u64 x1,.int .i64 x2,.int .i64 x3,.bool x4] 78 (0,0)):=by rw[<-hu,<-hJ];exact heap_alloc_new wr _
   obtain⟨a0,a1,a2,a3,a4⟩:=bx5 hb;have alt:=lt_of_block hb;have P:=PI.out u;have X1:Aside (Below w.heap.size w u):=belT S1.out.1 b0;have HU:Aside _:=hu;have HJ:Aside _:=hJ;clear hx h1 hu hJ b0 hb;go_upto_region 4 with fail
   rw[HU.out];try simp only[HJ.out]
   go_wp2_with fail
   refine P.mono ?_;rintro e w2 ⟨rfl,b2⟩;have X2:Aside (Below w.heap.size w w2):=belT X1.out b2;clear P b2 a0 a1 a2 a3 a4 alt k0 k1 k2 k3 k4 rlt;by_cases hx0:x0=0
   ·subst hx0;have hb:((0:Int)==0)=true:=rfl
    have NX:Aside (Below w.heap.size w w2/\∀i x,i<k+1->xs[i]?=some x->x.ph=0):=by
     refine⟨X2.out,fun i x hi hx=>?_⟩;by_cases e:i=k
     ·subst e;rw[HX.out] at hx;injection hx with hx;subst hx;rfl
     ·exact S1.out.2 i x (by omega) hx
    go_wp2_with fail
    go_roundg (n-(k+1))
    case measure=>omega
    case rel=>exact⟨k+1,by go_num,by omega,Nat.le_refl _,NX⟩
   ·have hb:(x0==0)=false:=by simp[hx0]
    obtain rfl:B=false:=by
     rw[<-HH.out.2,List.all_eq_false];exact⟨_,List.mem_of_getElem? HX.out,by simp[hx0]⟩
    go_wp2_with fail
    go_ret;exact⟨rfl,X2.out⟩
  ·have hnl:¬(k:Int)<(n:Int):=by omega
   have FIN:Aside (Below w.heap.size w wr/\B=true):=by
    refine⟨S1.out.1,?_⟩;rw[<-HH.out.2,List.all_eq_true];intro x hx;obtain⟨i,hi,e⟩:=List.getElem_of_mem hx;rw[HH.out.1.len] at hi;have:=S1.out.2 i x (by omega) (by rw[List.getElem?_eq_getElem (by rw[HH.out.1.len];exact hi),e]);simp[this]
   obtain rfl:B=true:=FIN.out.2;clear S1
   go_wp2_with fail
   go_ret;exact⟨rfl,FIN.out.1⟩
end
end Go.Proofs.YthpgfmmpjoodkaaGreatDoor
