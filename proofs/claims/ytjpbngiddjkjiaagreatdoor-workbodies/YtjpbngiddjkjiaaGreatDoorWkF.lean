import Derived.Test.YtjpbngiddjkjiaaGreatDoorCoL
open Go.Proofs.Tryz
namespace Go.Proofs.YtjpbngiddjkjiaaGreatDoor.Ta
set_option maxHeartbeats 8000000
open Go.RowKit Go.Lib Go.WideMaps Go.Maps
set_option maxRecDepth 100000
set_option linter.unusedVariables false
variable {w w' w0 u:World}{X X' Y:Nat->Prop}{B n i S:Nat}{T T':List TR}{x y:TR}
theorem bodyG(h:Tb w X B n T)(hi:T[i]?=some x)(ha:x.oa=none)(hn:x.on=0)(hc:x.oc=0) :
  Calls prog 117 #[.pointer (some ⟨B,0,none⟩),.int .i64 ((i:Int)+1)] w fun e w'=>e=.returned (.slice none 0 0)/\w'=w:=by
 obtain⟨hn',a,b,r,M,v,ws,fc,D,I,hX⟩:=h;obtain⟨g,cap,rfl⟩:=D.len hi;have hlen:i<T.length:=(List.getElem?_eq_some_iff.1 hi).1;obtain⟨O,hO⟩:∃O,i*9=O:=⟨_,rfl⟩;have hf:=find_in D hlen (by have:=I.le;omega);rw[hO] at hf
 have k3:w.cell? ⟨g,O+3,none⟩=some (.slice none 0 0):=by
  have:=D.own.cell hi (j:=3) (u:=.slice x.oa x.on x.oc) rfl;rw[ha,hn,hc] at this;rw[<-hO];exact this
 have fz:=(D.tc hi hO).fz (O+3);clear D I hi hO;go_enter func117,ntmps117
 go_wp2_with fail
 refine hf.mono ?_;rintro e w1 ⟨rfl,rfl⟩;clear hf
 go_wp2_with fail
 refine(clone_nil _).mono ?_;rintro e w2 ⟨rfl,rfl⟩
 go_wp2_with fail
 go_ret;exact⟨rfl,rfl⟩
end Go.Proofs.YtjpbngiddjkjiaaGreatDoor.Ta
namespace Go.Proofs.YtjpbngiddjkjiaaGreatDoor
set_option maxHeartbeats 8000000
open Go.RowKit Go.Lib Go.WideMaps Go.Maps
set_option maxRecDepth 100000
set_option linter.unusedVariables false
variable {w w' u w0:World}{L i:Nat}{D:CAd}{F F' F0:Nat->Nat->Prop}{g v:Value}{σ σ':CS}
theorem bodyC{x:Ta.TR}(C:Co w L D F g v σ)(hi:σ.T[i]?=some x)(ha:x.oa=none)(hn:x.on=0)(hc:x.oc=0) :
  Calls prog 82 #[pt D.B,.int .i64 ((i:Int)+1)] w fun e w'=>e=.returned (.slice none 0 0)/\w'=w:=by
 have c3:=C.c3;have P:=Ta.bodyG C.tab hi ha hn hc;clear C hi;go_enter func82,ntmps82
 go_wp2_with fail
 refine P.mono ?_;rintro e w1 ⟨rfl,rfl⟩
 go_wp2_with fail
 go_ret;exact⟨rfl,rfl⟩
theorem wclaimO(C:Co w L D F g v σ)(x:WR)(t:Int)(PC:∀w1 F1 g1 v1,Co w1 L D F1 g1 v1 σ->Calls prog 81 #[pt D.B,.int .i64 t,.agg #[.int .u64 x.key,.int .i64 x.id]] w1 fun e w'=>e=.returned (.int .i64 0)/\Cox L D F1 w1 σ' w') :
  Calls prog 55 #[pt D.B,wkV x,.int .i64 t] w fun e w'=>e=.returned (.tuple #[wkV ⟨x.ph,x.key,x.id,0,false⟩,.int .i64 1])/\Cox L D F w σ' w':=by
 obtain⟨K,hK⟩:∃J,w.heap.size=J:=⟨_,rfl⟩;have W0:=WB.new C x hK;obtain⟨u,hu⟩:∃q,(w.alloc (.cells (wkA x) 40)).alloc (.cells (wkA wk0) 40)=q:=⟨_,rfl⟩;have b0:Below w.heap.size w u:=by rw[<-hu];exact belT (belA _ _) (belA _ _)
 rw[hu] at W0;have P:=PC u F g v (C.below b0);have HC:Aside (Gc L F w F u/\w.heap.size=K/\L<=w.heap.size/\WB w u F K x wk0):=⟨Gc.below F C.lw b0,hK,C.lw,W0⟩;obtain⟨x0,x1,x2,x3,x4⟩:=x;obtain⟨a0,a1,a2,a3,a4⟩:=bx5 W0.a.1;have alt:=lt_of_block W0.a.1;have HU:Aside _:=hu;clear C W0 hu b0 PC;go_enter func55,ntmps55
 go_upto_region 1 with fail
 rw[show(w.alloc (.cells #[.int .i64 x0,.int .u64 x1,.int .i64 x2,.int .i64 x3,.bool x4] 40)).alloc (.cells #[.int .i64 0,.int .u64 0,.int .i64 0,.int .i64 0,.bool false] 40)=u from HU.out];try simp only[hK]
 go_wp2_with fail
 refine P.mono ?_;rintro e w1 ⟨rfl,F1,g1,v1,C1,G1⟩;clear a0 a1 a2 a3 a4 alt;have W1:=HC.out.2.2.2.gc G1;obtain⟨a0,a1,a2,a3,a4⟩:=bx5 W1.a.1;have alt:=lt_of_block W1.a.1;have blt:=lt_of_block W1.b.1;have afz:∀o,w1.frozen? ⟨K,o,none⟩=false:=(fun o=>by simp[World.frozen?,W1.a.1]);obtain⟨u3,hu3⟩:∃q,(w1.setCell ⟨K,3,none⟩ (.int .i64 0)).setCell ⟨K,4,none⟩ (.bool false)=q:=⟨_,rfl⟩;have hA3:u3.heap[K]?=some (.cells #[.int .i64 x0,.int .u64 x1,.int .i64 x2,.int .i64 0,.bool false] 40 (0,0)):=by rw[<-hu3];exact set_at (set_at W1.a.1 _) _
 have f3:Ta.Fr (fun j=>j=K) w1 u3:=by
  rw[<-hu3];exact(Ta.Fr.setCell (fun j=>j=K) w1 K 3 (.int .i64 0) rfl).trans (Ta.Fr.setCell (fun j=>j=K) _ K 4 (.bool false) rfl) (fun j hj=>.inl hj)
 have hB3:u3.heap[K+1]?=some (.cells (wkA wk0) 40 (0,0)):=(f3.block (K+1) blt (by omega)).trans W1.b.1;have f5:Ta.Fr (fun j=>j=K\/j=K+1) w1 (set5 u3 (K+1) (.int .i64 x0) (.int .u64 x1) (.int .i64 x2) (.int .i64 0) (.bool false)):=(f3.mono (fun j hj=>.inl hj)).trans (set5_fr u3 (K+1) _ _ _ _ _) (fun j hj=>.inl (.inr hj));have E:Aside ((set5 u3 (K+1) (.int .i64 x0) (.int .u64 x1) (.int .i64 x2) (.int .i64 0) (.bool false)).heap[K+1]?=some (.cells #[.int .i64 x0,.int .u64 x1,.int .i64 x2,.int .i64 0,.bool false] 40 (0,0))):=set5_at hB3 _ _ _ _ _
 have FIN:Aside (Cox L D F w σ' (set5 u3 (K+1) (.int .i64 x0) (.int .u64 x1) (.int .i64 x2) (.int .i64 0) (.bool false))):=C1.own (HC.out.1.trans G1) (fun j hj=>by
  rcases hj with rfl|rfl
  ·exact⟨by omega,W1.a.2,nq_of W1.a.1 qt_wk⟩
  ·exact⟨by omega,W1.b.2,nq_of W1.b.1 qt_wk⟩) HC.out.2.2.1 f5
 obtain⟨d0,d1,d2,d3,d4⟩:=bx5 hA3;obtain⟨e0,e1,e2,e3,e4⟩:=bx5 hB3;have dlt:=lt_of_block hA3;have elt:=lt_of_block hB3;have efz:∀o,u3.frozen? ⟨K+1,o,none⟩=false:=(fun o=>by simp[World.frozen?,hB3]);have HU3:Aside _:=hu3;clear P C1 G1 W1 hu3 hA3 hB3 f3 f5;go_upto_region 4 with fail
 rw[HU3.out]
 go_wp2_with fail
 have eb:=fun j=>cell_of_row _ _ j _ _ _ E.out;have q0:=eb 0;have q1:=eb 1;have q2:=eb 2;have q3:=eb 3;have q4:=eb 4;unfold set5 at q0 q1 q2 q3 q4;refine bodyPost_ret (v:=.tuple #[.agg #[.int .i64 x0,.int .u64 x1,.int .i64 x2,.int .i64 0,.bool false],.int .i64 1]) (by simp[results,results55,go_sem,q0,q1,q2,q3,q4]) rfl ⟨rfl,?_⟩;exact FIN.out
theorem runE(C:Co w L D F g v σ)(ph key:Int)(t er:Int){x:Ta.TR}(hi:σ.T[i]?=some x)(ha:x.oa=none)(hn:x.on=0)(hc:x.oc=0)(PF:∀w1 F1 g1 v1,Co w1 L D F1 g1 v1 σ->Calls prog 83 #[pt D.B,.int .i64 t,.int .i64 ((i:Int)+1),.bool true] w1 fun e w'=>e=.returned (.int .i64 er)/\Cox L D F1 w1 σ' w') :
  Calls prog 56 #[pt D.B,wkV ⟨ph,key,(i:Int)+1,0,false⟩,.int .i64 t] w fun e w'=>e=.returned (.tuple #[wkV wk0,.int .i64 0])/\Cox L D F w σ' w':=by
 obtain⟨I1,hI1⟩:∃J,(i:Int)+1=J:=⟨_,rfl⟩;obtain⟨K,hK⟩:∃J,w.heap.size=J:=⟨_,rfl⟩;have W0:=WB.new C ⟨ph,key,I1,0,false⟩ hK;obtain⟨u,hu⟩:∃q,(w.alloc (.cells (wkA ⟨ph,key,I1,0,false⟩) 40)).alloc (.cells (wkA wk0) 40)=q:=⟨_,rfl⟩;have b0:Below w.heap.size w u:=by rw[<-hu];exact belT (belA _ _) (belA _ _)
 rw[hu] at W0;have Q:=bodyC (C.below b0) hi ha hn hc;have P:=PF u F g v (C.below b0);rw[hI1] at P Q;rw[hI1];have HC:Aside (Gc L F w F u/\w.heap.size=K/\L<=w.heap.size/\WB w u F K ⟨ph,key,I1,0,false⟩ wk0):=⟨Gc.below F C.lw b0,hK,C.lw,W0⟩;obtain⟨a0,a1,a2,a3,a4⟩:=bx5 W0.a.1;have alt:=lt_of_block W0.a.1;have HU:Aside _:=hu;clear C W0 hu b0 PF hi ha hn hc hI1;go_enter func56,ntmps56
 go_upto_region 1 with fail
 rw[show(w.alloc (.cells #[.int .i64 ph,.int .u64 key,.int .i64 I1,.int .i64 0,.bool false] 40)).alloc (.cells #[.int .i64 0,.int .u64 0,.int .i64 0,.int .i64 0,.bool false] 40)=u from HU.out];try simp only[hK]
 go_wp2_with fail
 refine Q.mono ?_;rintro e w1 ⟨rfl,rfl⟩;clear Q
 go_wp2_with fail
 refine P.mono ?_;rintro e w1 ⟨rfl,F1,g1,v1,C1,G1⟩;clear a0 a1 a2 a3 a4 alt;have W1:=HC.out.2.2.2.gc G1;obtain⟨b0,b1,b2,b3,b4⟩:=bx5 W1.b.1;have blt:=lt_of_block W1.b.1;have bfz:∀o,w1.frozen? ⟨K+1,o,none⟩=false:=(fun o=>by simp[World.frozen?,W1.b.1]);have FF:=W1.fin (y:=wk0) C1 (HC.out.1.trans G1) hK HC.out.2.2.1;have E:Aside ((set5 w1 (K+1) (.int .i64 0) (.int .u64 0) (.int .i64 0) (.int .i64 0) (.bool false)).heap[K+1]?=some (.cells #[.int .i64 0,.int .u64 0,.int .i64 0,.int .i64 0,.bool false] 40 (0,0))):=FF.1;have FIN:Aside (Cox L D F w σ' (set5 w1 (K+1) (.int .i64 0) (.int .u64 0) (.int .i64 0) (.int .i64 0) (.bool false))):=FF.2;clear P C1 G1 W1 FF
 go_wp2_with fail
 have eb:=fun j=>cell_of_row _ _ j _ _ _ E.out;have q0:=eb 0;have q1:=eb 1;have q2:=eb 2;have q3:=eb 3;have q4:=eb 4;unfold set5 at q0 q1 q2 q3 q4;refine bodyPost_ret (v:=.tuple #[.agg #[.int .i64 0,.int .u64 0,.int .i64 0,.int .i64 0,.bool false],.int .i64 0]) (by simp[results,results56,go_sem,q0,q1,q2,q3,q4]) rfl ⟨rfl,?_⟩;exact FIN.out
end Go.Proofs.YtjpbngiddjkjiaaGreatDoor
namespace Go.Proofs.YtjpbngiddjkjiaaGreatDoor.Ta
set_option maxHeartbeats 8000000
open Go.RowKit Go.Lib Go.WideMaps Go.Maps
set_option maxRecDepth 100000
set_option linter.unusedVariables false
variable {w w' w0 u:World}{X X' Y:Nat->Prop}{B n i S:Nat}{T T':List TR}{x y:TR}
theorem makeTO(h:Tb w X B n T)(prio f d rr m s:Int)(oa0:Option Addr)(cap0:Nat)(os:List OpR)(hO:IsG rO w oa0 cap0 os)(hX0:os≠[]->∀k o q,oa0=some ⟨k,o,q⟩->¬X k)(hS:ShW w)(hm:mayO prio s os=true)(hl:T.length<n) :
  Calls prog 42 #[.pointer (some ⟨B,0,none⟩),.int .i64 prio,.slice oa0 os.length cap0,.agg #[.int .u64 f,.int .u64 0,.int .u64 d,.int .u64 rr,.int .u64 m],.int .i64 s] w fun e w'=>e=.returned (.tuple #[.int .i64 ((T.length:Int)+1),.int .i64 0])/\
   ∃oa oc X',Tb w' X' B n (T++[mkO prio f 0 d 0 m s oa os.length oc])/\Sx X w X' w'/\OwnG rO w' w.heap.size (.slice oa os.length oc) os/\∀k,(Value.slice oa os.length oc).ownBlock=some k->¬X' k:=by
 obtain⟨hn,a,b,r,M,v,ws,fc,D,I,hX⟩:=h;refine(make_ops D I hn prio f 0 d rr m s oa0 cap0 os hO (fun hd k o q e hk=>hX0 hd k o q e ((hX k).2 hk)) hS hm hl rfl).mono ?_;rintro e w' ⟨rfl,v',ws',fc',oa,oc,D',I',F,N,O,O'⟩;exact⟨rfl,oa,oc,_,⟨hn,a,b,r,M,v',ws',fc',D',I',fun k=>Iff.rfl⟩,sx_of hX F N,O,O'⟩
theorem bodyT(h:Tb w X B n T)(hi:T[i]?=some x){os:List OpR}(hO:OwnG rO w S (.slice x.oa x.on x.oc) os)(hlen:os.length<=1000000) :
  Calls prog 117 #[.pointer (some ⟨B,0,none⟩),.int .i64 ((i:Int)+1)] w fun e w'=>∃a' cap',e=.returned (.slice a' os.length cap')/\OwnG rO w' w.heap.size (.slice a' os.length cap') os/\Below w.heap.size w w':=by
 obtain⟨hn',a,b,r,M,v,ws,fc,D,I,hX⟩:=h;obtain⟨g,cap,rfl⟩:=D.len hi;have hlen':i<T.length:=(List.getElem?_eq_some_iff.1 hi).1;obtain⟨O,hOO⟩:∃O,i*9=O:=⟨_,rfl⟩;have hf:=find_in D hlen' (by have:=I.le;omega);rw[hOO] at hf;obtain⟨a3,c3,e3,G3⟩:=hO.isG
 have k3:w.cell? ⟨g,O+3,none⟩=some (.slice a3 os.length c3):=by
  have:=D.own.cell hi (j:=3) (u:=.slice x.oa x.on x.oc) rfl;rw[e3] at this;rw[<-hOO];exact this
 have P:=cloneO a3 c3 os w G3 hlen;obtain⟨Lo,hLo⟩:∃z,os.length=z:=⟨_,rfl⟩;rw[hLo] at P k3⊢;have fz:=(D.tc hi hOO).fz (O+3);clear D I hi hOO e3 G3 hO hLo hlen;go_enter func117,ntmps117
 go_wp2_with fail
 refine hf.mono ?_;rintro e w1 ⟨rfl,rfl⟩;clear hf
 go_wp2_with fail
 refine P.mono ?_;rintro e w2 ⟨a',cap',rfl,O2,b2⟩;have FIN:Aside (OwnG rO w2 w1.heap.size (.slice a' Lo cap') os/\Below w1.heap.size w1 w2):=⟨O2,b2⟩;clear O2 b2 P
 go_wp2_with fail
 go_ret;exact⟨a',cap',rfl,FIN.out⟩
end Go.Proofs.YtjpbngiddjkjiaaGreatDoor.Ta
namespace Go.Proofs.YtjpbngiddjkjiaaGreatDoor
set_option maxHeartbeats 8000000
open Go.RowKit Go.Lib Go.WideMaps Go.Maps
set_option maxRecDepth 100000
set_option linter.unusedVariables false
variable {w w' u w0:World}{L i:Nat}{D:CAd}{F F' F0:Nat->Nat->Prop}{g v:Value}{σ σ':CS}{x:Ta.TR}
theorem mq_op:¬Qu.MQ 45:=by unfold Qu.MQ;decide
def OwO(w:World)(F:Nat->Nat->Prop)(v:Value)(os:List Ta.OpR):Prop:=Ta.OwnG Ta.rO w 0 v os/\∀k,v.ownBlock=some k->∀p,¬F p k
theorem OwO.gn{v:Value}{os:List Ta.OpR}(h:OwO w F v os)(G:Gn L F w F' w'):OwO w' F' v os:=by
 refine⟨h.1.of_block fun k hk=>?_,fun k hk p hp=>?_⟩
 ·obtain⟨cs,hc⟩:=h.1.rowT hk;refine G.block k (lt_of_block hc) (h.2 k hk) fun cs' U' fr h'=>?_;rw[hc] at h';simp only[Option.some.injEq,Obj.cells.injEq] at h';rw[<-h'.2.1];exact mq_op
 ·rcases G.new p k hp with e|e
  ·exact h.2 k hk p e
  ·have:=(h.1.rowLt hk).2;omega
theorem OwO.gc{v:Value}{os:List Ta.OpR}(h:OwO w F v os)(G:Gc L F w F' w'):OwO w' F' v os:=h.gn G.n
theorem OwO.below{v:Value}{os:List Ta.OpR}(h:OwO w F v os)(b:Below w.heap.size w w'):OwO w' F v os:=⟨h.1.below b,h.2⟩
def opv(x:Ta.TR):Option Addr×Nat×Nat:=(x.oa,x.on,x.oc)
def OpS(L:Nat)(w:World)(F:Nat->Nat->Prop)(a:Option Addr)(cap:Nat)(os:List Ta.OpR):Prop:=Ta.IsG Ta.rO w a cap os/\(os≠[]->∀k o q,a=some ⟨k,o,q⟩->k<L\/((∀p,¬F p k)/\∀cs U fr,w.heap[k]?=some (.cells cs U fr)->¬Qu.MQ U))
theorem OpS.lt{a:Option Addr}{cap:Nat}{os:List Ta.OpR}(h:OpS L w F a cap os)(hd:os≠[]){k o:Nat}{q}(e:a=some ⟨k,o,q⟩):k<w.heap.size:=by
 cases os with
 | nil=>exact absurd rfl hd
 | cons x r=>
  obtain⟨b,off,e',hb,_⟩:=h.1.elem 0 (.int .i64 x.1) rfl;rw[e] at e'
  cases e'
  exact hb
theorem OpS.gc{a:Option Addr}{cap:Nat}{os:List Ta.OpR}(h:OpS L w F a cap os)(G:Gc L F w F' w'):OpS L w' F' a cap os:=by
 have key:os≠[]->∀k o q,a=some ⟨k,o,q⟩->w'.heap[k]?=w.heap[k]?:=fun hd k o q e=>(h.2 hd k o q e).elim (fun hk=>G.low.block k hk) (fun z=>G.block k (h.lt hd e) z.1 z.2);refine⟨⟨h.1.le,h.1.big,fun j u hu=>?_⟩,fun hd k o q e=>(h.2 hd k o q e).imp id fun z=>⟨fun p hp=>?_,fun cs U fr hh=>?_⟩⟩
 ·have hd:os≠[]:=fun e=>by subst e;simp[Ta.flat_nil] at hu
  obtain⟨b,off,e,hb,hc⟩:=h.1.elem j u hu;exact⟨b,off,e,Nat.lt_of_lt_of_le hb G.low.size,(World.cell?_of_block (key hd b off none e)).trans hc⟩
 ·rcases G.new p k hp with c|c
  ·exact z.1 p c
  ·have:=h.lt hd e;omega
 ·rw[key hd k o q e] at hh;exact z.2 cs U fr hh
theorem OpS.below{a:Option Addr}{cap:Nat}{os:List Ta.OpR}(h:OpS L w F a cap os)(b:Below w.heap.size w w'):OpS L w' F a cap os:=⟨h.1.below b,fun hd k o q e=>(h.2 hd k o q e).imp id fun z=>⟨z.1,fun cs U fr hh=>z.2 cs U fr ((b.block k (h.lt hd e)).symm.trans hh)⟩⟩
theorem OpS.nil(L:Nat)(w:World)(F:Nat->Nat->Prop):OpS L w F none 0 []:=⟨Ta.IsG.nil _ _,fun h=>absurd rfl h⟩
theorem Co.makeO(C:Co w L D F g v σ)(hl:σ.T.length<200)(prio f d rr m s:Int)(oa0:Option Addr)(cap0:Nat)(os:List Ta.OpR)(hO:Ta.IsG Ta.rO w oa0 cap0 os)(hX0:os≠[]->∀k o q,oa0=some ⟨k,o,q⟩->¬F 1 k)(hS:Ta.ShW w)(hm:Ta.mayO prio s os=true) :
  Calls prog 42 #[pt D.Bt,.int .i64 prio,.slice oa0 os.length cap0,.agg #[.int .u64 f,.int .u64 0,.int .u64 d,.int .u64 rr,.int .u64 m],.int .i64 s] w fun e w'=>e=.returned (.tuple #[.int .i64 ((σ.T.length:Int)+1),.int .i64 0])/\
   ∃oa oc F' g' v',Co w' L D F' g' v' {σ with T:=σ.T++[Ta.mkO prio f 0 d 0 m s oa os.length oc]}/\Gc L F w F' w'/\OwO w' F' (.slice oa os.length oc) os:=by
 refine(Ta.makeTO C.tab prio f d rr m s oa0 cap0 os hO hX0 hS hm hl).mono ?_;rintro e w' ⟨rfl,oa,oc,X',h,s',O,O'⟩;obtain⟨C',G'⟩:=C.setTab h s';refine⟨rfl,oa,oc,_,_,_,C',G',O.low (Nat.zero_le _),fun k hk p hp=>?_⟩;unfold fset at hp;by_cases c:p=1
 ·rw[if_pos c] at hp;exact O' k hk hp
 ·rw[if_neg c] at hp;have:=C.fp.lt p k hp;have:=(O.rowLt hk).1;omega
end Go.Proofs.YtjpbngiddjkjiaaGreatDoor
