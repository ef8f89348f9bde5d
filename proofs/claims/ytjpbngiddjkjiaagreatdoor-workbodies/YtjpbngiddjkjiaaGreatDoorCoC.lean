import Derived.Test.YtjpbngiddjkjiaaGreatDoorCoB
open Go.Proofs.Tryz
namespace Go.Proofs.YtjpbngiddjkjiaaGreatDoor
set_option maxHeartbeats 8000000
set_option maxRecDepth 100000
set_option linter.unusedVariables false
open Go.RowKit Go.Lib Go.WideMaps Go.Maps
section
variable {w w' u:World}{L i:Nat}{D:CAd}{F:Nat->Nat->Prop}{g v:Value}{σ:CS}{x:Ta.TR}
abbrev pt(b:Nat):Value:=.pointer (some ⟨b,0,none⟩)
theorem Co.putC(C:Co w L D F g v σ){t:Nat}(ht:t<σ.th)(hn:σ.qn<=1000)(k d:Int) :
  Calls prog 147 #[pt D.A.B,.int .i64 t,.agg #[.int .u64 k,.int .i64 d]] w fun e w'=>e=.returned (.int .i64 0)/\Cox L D F w {σ with q:=Qu.putQ σ.k σ.q t (k,d),qn:=σ.qn+1} w':=by
 refine(Qu.put_in w L D.A σ.th σ.k σ.qn σ.q t k d C.que C.qok hn C.k16 ht C.lw).mono ?_;rintro e w' ⟨rfl,h,s⟩;obtain⟨C',G'⟩:=C.setQue h s (Qu.put_ok C.qok ht C.k16 (k,d));exact⟨rfl,_,_,_,C',G'⟩
theorem Co.takeC(C:Co w L D F g v σ)(hn:σ.qn<=1000)(id:Int) :
  Calls prog 150 #[pt D.A.B,.int .i64 id] w fun e w'=>e=.returned (.bool (Qu.firstHit σ.q σ.th id).isSome)/\Cox L D F w {σ with q:=Qu.takeQ σ.q σ.th id,qn:=σ.qn+1} w':=by
 refine(Qu.take_any w L D.A σ.th σ.k σ.qn σ.q id C.que C.qok hn C.k16 C.th1 C.th8 C.lw).mono ?_;rintro e w' ⟨rfl,h,s⟩;obtain⟨C',G'⟩:=C.setQue h s (Qu.take_ok C.qok id);exact⟨rfl,_,_,_,C',G'⟩
theorem Co.giveC(C:Co w L D F g v σ) :
  Calls prog 149 #[pt D.ca] w fun e w'=>(∃n,e=.returned (.int .i64 n))/\Cox L D F w {σ with o:=σ.o-1} w':=by
 have h:=C.cre
 cases ho:σ.o with
 | zero=>
  rw[ho] at h;refine(Ca.give_no w h).mono ?_;rintro e w' ⟨rfl,h',s⟩;obtain⟨C',G'⟩:=C.setCre h' s;exact⟨⟨_,rfl⟩,_,_,_,C',G'⟩
 | succ o=>
  rw[ho] at h;refine(Ca.give_ok w h).mono ?_;rintro e w' ⟨rfl,h',s⟩;obtain⟨C',G'⟩:=C.setCre h' s;exact⟨⟨_,rfl⟩,_,_,_,C',G'⟩
theorem Co.credC(C:Co w L D F g v σ)(ho:σ.o<σ.n) :
  Calls prog 22 #[pt D.ca] w fun e w'=>e=.returned (.bool true)/\Cox L D F w {σ with o:=σ.o+1,m:=max σ.m (σ.o+1)} w':=by
 refine(Ca.take_ok w C.cre ho).mono ?_;rintro e w' ⟨rfl,h',s⟩;obtain⟨C',G'⟩:=C.setCre h' s;exact⟨rfl,_,_,_,C',G'⟩
theorem Co.wcanC(C:Co w L D F g v σ){id:Int}(wi:Wl.wfI id) :
  Calls prog 148 #[pt D.Bw,.int .i64 id] w fun e w'=>e=.returned (.bool (Wl.dueOf σ.tm id).isSome)/\Cox L D F w {σ with tm:=Wl.canT σ.tm id} w':=by
 refine(Wl.cancel_any C.whl wi C.wb).mono ?_;rintro e w' ⟨rfl,h⟩;obtain⟨X,C',G'⟩:=C.setWhl h;exact⟨rfl,_,_,_,C',G'⟩
theorem Co.waddC(C:Co w L D F g v σ){id:Int}(wi:Wl.wfI id){d:Nat}(hd:d<Wl.B64) :
  Calls prog 151 #[pt D.Bw,.int .i64 id,.int .u64 d] w fun e w'=>e=.returned (.int .i64 (Wl.addR σ.tm id))/\Cox L D F w {σ with tm:=Wl.addT σ.tm id d} w':=by
 refine(Wl.add_any C.whl wi hd C.wb).mono ?_;rintro e w' ⟨rfl,h⟩;obtain⟨X,C',G'⟩:=C.setWhl h;exact⟨rfl,_,_,_,C',G'⟩
theorem Co.keyC(C:Co w L D F g v σ)(hi:σ.T[i]?=some x)(key:Int) :
  Calls prog 145 #[pt D.Bt,.int .i64 ((i:Int)+1),.int .u64 key] w fun e w'=>e=.returned (.int .i64 0)/\Cox L D F w {σ with T:=σ.T.set i {x with key:=key}} w':=by
 refine(Ta.keyG C.tab hi key).mono ?_;rintro e w' ⟨rfl,h,s⟩;obtain⟨C',G'⟩:=C.setTab h s;exact⟨rfl,_,_,_,C',G'⟩
def keyS(σ:CS)(x:Ta.TR):Int:=Ag.addT σ.tk (Ag.slN x.prio)
def relS(σ:CS)(t i:Nat)(x:Ta.TR):CS:=tellS {σ with T:=σ.T.set i {x with key:=keyS σ x},q:=Qu.putQ σ.k σ.q t (keyS σ x,(i:Int)+1),qn:=σ.qn+1} 2 t ((i:Int)+1) (keyS σ x)
def handS(σ:CS)(t i:Nat)(x:Ta.TR):CS:={tellS {σ with q:=Qu.takeQ σ.q σ.th ((i:Int)+1),qn:=σ.qn+1} 3 t ((i:Int)+1) x.key with tk:=σ.tk+1}
def canS(σ:CS)(id:Int):CS:=tellS σ 7 (-1) id 0
def stopS(σ:CS)(id:Int):CS:=canS {σ with tm:=Wl.canT σ.tm id,o:=σ.o-1} id
def wdrS(σ:CS)(id:Int):CS:=canS {σ with q:=Qu.takeQ σ.q σ.th id,qn:=σ.qn+1,o:=σ.o-1} id
theorem cancelC(C:Co w L D F g v σ)(hl:σ.ev.length<1000000)(t id:Int) :
  Calls prog 101 #[pt D.B,.int .i64 t,.int .i64 id] w fun e w'=>e=.returned (.tuple #[])/\Cox L D F w (canS σ id) w':=by
 have P:=tellC C hl 7 (-1) id 0;clear C hl;go_enter func101,ntmps101
 go_wp2_with fail
 refine P.mono ?_;rintro e w1 ⟨rfl,C1,_⟩;have FIN:Aside (Cox L D F w (canS σ id) w1):=C1;clear P C1
 go_wp2_with fail
 go_end0
 exact⟨rfl,FIN.out⟩
theorem stopC(C:Co w L D F g v σ)(hl:σ.ev.length<1000000)(t id:Int)(wi:Wl.wfI id) :
  Calls prog 102 #[pt D.B,.int .i64 t,.int .i64 id] w fun e w'=>e=.returned (.tuple #[])/\Cox L D F w (stopS σ id) w':=by
 have c5:=C.c5;have P:=C.wcanC wi;clear C wi;go_enter func102,ntmps102
 go_wp2_with fail
 refine P.mono ?_;rintro e w1 ⟨rfl,F1,g1,v1,C1,G1⟩;clear P c5;have c7:=C1.c7;have P:=C1.giveC;have X1:Aside _:=G1;clear C1 G1
 go_wp2_with fail
 refine P.mono ?_;rintro e w2 ⟨⟨n,rfl⟩,F2,g2,v2,C2,G2⟩;clear P c7;have P:=cancelC C2 hl t id;have X2:Aside _:=X1.out.trans G2;clear C2 G2 X1
 go_wp2_with fail
 refine P.mono ?_;rintro e w3 ⟨rfl,F3,g3,v3,C3,G3⟩;have FIN:Aside (Cox L D F w (stopS σ id) w3):=⟨_,_,_,C3,X2.out.trans G3⟩;clear P C3 G3 X2
 go_wp2_with fail
 go_end0
 exact⟨rfl,FIN.out⟩
theorem wdrC(C:Co w L D F g v σ)(hl:σ.ev.length<1000000)(hn:σ.qn<=1000)(t id:Int) :
  Calls prog 104 #[pt D.B,.int .i64 t,.int .i64 id] w fun e w'=>e=.returned (.tuple #[])/\Cox L D F w (wdrS σ id) w':=by
 have c4:=C.c4;have P:=C.takeC hn id;clear C hn;go_enter func104,ntmps104
 go_wp2_with fail
 refine P.mono ?_;rintro e w1 ⟨rfl,F1,g1,v1,C1,G1⟩;clear P c4;have c7:=C1.c7;have P:=C1.giveC;have X1:Aside _:=G1;clear C1 G1
 go_wp2_with fail
 refine P.mono ?_;rintro e w2 ⟨⟨n,rfl⟩,F2,g2,v2,C2,G2⟩;clear P c7;have P:=cancelC C2 hl t id;have X2:Aside _:=X1.out.trans G2;clear C2 G2 X1
 go_wp2_with fail
 refine P.mono ?_;rintro e w3 ⟨rfl,F3,g3,v3,C3,G3⟩;have FIN:Aside (Cox L D F w (wdrS σ id) w3):=⟨_,_,_,C3,X2.out.trans G3⟩;clear P C3 G3 X2
 go_wp2_with fail
 go_end0
 exact⟨rfl,FIN.out⟩
theorem Co.tick(C:Co w L D F g v σ)(n:Nat):Cox L D F w {σ with tk:=n} (w.setCell ⟨D.B,8,none⟩ (.int .u64 n)):=by
 have f:Ta.Fr (F 0) w (w.setCell ⟨D.B,8,none⟩ (.int .u64 n)):=Ta.Fr.setCell (F 0) w D.B 8 _ ((C.f0 _).2 rfl);obtain⟨C',G'⟩:=C.setHead (σ':={σ with tk:=n}) (g':=g) (v':=v) f (by rw[set_at C.head];rfl) rfl;exact⟨_,_,_,C',G'⟩
theorem handC(C:Co w L D F g v σ)(hl:σ.ev.length<1000000)(hn:σ.qn<=1000)(htk:σ.tk<1000000)(t:Nat)(hi:σ.T[i]?=some x) :
  Calls prog 103 #[pt D.B,.int .i64 t,.int .i64 ((i:Int)+1)] w fun e w'=>e=.returned (.tuple #[])/\Cox L D F w (handS σ t i x) w':=by
 have c4:=C.c4;have P:=C.takeC hn ((i:Int)+1);have HI:Aside _:=hi;have hwr:IntKind.u64.wrap ((σ.tk:Int)+1)=(σ.tk:Int)+1:=by rw[IntKind.wrap_u64];omega
 clear C hn hi;go_enter func103,ntmps103
 go_wp2_with fail
 refine P.mono ?_;rintro e w1 ⟨rfl,F1,g1,v1,C1,G1⟩;clear P c4;have P:=entryC C1 (i:=i) (x:=x) HI.out;have X1:Aside _:=G1;clear C1 G1
 go_wp2_with fail
 refine P.mono ?_;rintro e w2 ⟨rfl,F2,g2,v2,C2,G2⟩;clear P;have P:=tellC C2 hl 3 t ((i:Int)+1) x.key;have X2:Aside _:=X1.out.trans G2;clear C2 G2 X1
 go_wp2_with fail
 refine P.mono ?_;rintro e w3 ⟨rfl,⟨F3,g3,v3,C3,G3⟩,_⟩;have c8:w3.cell? ⟨D.B,8,none⟩=some (.int .u64 σ.tk):=C3.c8;have fz:=C3.fz 8
 have FIN:Aside (Cox L D F w (handS σ t i x) (w3.setCell ⟨D.B,8,none⟩ (.int .u64 ((σ.tk:Int)+1)))):=by
  have Z:=C3.tick (σ.tk+1);rw[show((σ.tk+1:Nat):Int)=(σ.tk:Int)+1 by omega] at Z;obtain⟨F4,g4,v4,C4,G4⟩:=Z;exact⟨F4,g4,v4,C4,(X2.out.trans G3).trans G4⟩
 clear P C3 G3 X2
 go_wp2_with fail
 go_end0
 exact⟨rfl,FIN.out⟩
end
section
variable {w w' u:World}{L i:Nat}{D:CAd}{F F':Nat->Nat->Prop}{g v:Value}{σ:CS}{x:Ta.TR}
def Bx(w:World)(F:Nat->Nat->Prop)(K:Nat)(cs:Array Value)(U:TypeId):Prop:=w.heap[K]?=some (.cells cs U (0,0))/\∀p,¬F p K
theorem Bx.gc{K:Nat}{cs:Array Value}{U:TypeId}(h:Bx w F K cs U)(hU:¬Qu.MQ U)(G:Gc L F w F' w'):Bx w' F' K cs U:=by
 refine⟨(G.block K (lt_of_block h.1) h.2 (fun cs' U' fr h'=>?_)).trans h.1,fun p hp=>?_⟩
 ·rw[h.1] at h';simp only[Option.some.injEq,Obj.cells.injEq] at h';rw[<-h'.2.1];exact hU
 ·rcases G.new p K hp with e|e
  ·exact h.2 p e
  ·have:=lt_of_block h.1;omega
theorem Bx.below{K:Nat}{cs:Array Value}{U:TypeId}(h:Bx w F K cs U)(b:Below w.heap.size w w'):Bx w' F K cs U:=⟨(b.block K (lt_of_block h.1)).trans h.1,h.2⟩
theorem Bx.new(C:Co w L D F g v σ)(cs:Array Value)(U:TypeId):Bx (w.alloc (.cells cs U)) F w.heap.size cs U:=⟨heap_alloc_new w _,fun p hp=>by have:=C.fp.lt p _ hp;omega⟩
theorem Bx.cell{K:Nat}{cs:Array Value}{U:TypeId}(h:Bx w F K cs U)(j:Nat):w.cell? ⟨K,j,none⟩=cs[j]?:=cell_of_row _ _ _ _ _ _ h.1
theorem mq_task:¬Qu.MQ 80:=by unfold Qu.MQ;decide
theorem mq_ent:¬Qu.MQ 35:=Qu.mq_ent
theorem relC(C:Co w L D F g v σ)(hl:σ.ev.length<1000000)(hn:σ.qn<=1000)(htk:σ.tk<1000000){t:Nat}(ht:t<σ.th)(hi:σ.T[i]?=some x) :
  Calls prog 100 #[pt D.B,.int .i64 t,.int .i64 ((i:Int)+1)] w fun e w'=>e=.returned (.tuple #[])/\Cox L D F w (relS σ t i x) w':=by
 have c3:=C.c3;have P:=C.getC hi;have HH:Aside (σ.T[i]?=some x/\t<σ.th/\σ.qn<=1000/\σ.ev.length<1000000):=⟨hi,ht,hn,hl⟩;have htkT:Ag.IsT (σ.tk:Int):=by unfold Ag.IsT;omega
 have KA:Aside (∀W,Calls prog 146 #[.int .u64 σ.tk,.int .i64 x.prio] W fun e w'=>e=.returned (.int .u64 (keyS σ x))/\w'=W):=fun W=>Ag.key_any σ.tk x.prio htkT W;obtain⟨KY,hKY⟩:∃KY,keyS σ x=KY:=⟨_,rfl⟩;rw[hKY] at KA;have HKY:Aside (keyS σ x=KY):=hKY;obtain⟨PR,hPR⟩:∃PR,x.prio=PR:=⟨_,rfl⟩;rw[hPR] at KA P;clear C hi hn hl htk htkT hKY hPR;go_enter func100,ntmps100
 go_wp2_with fail
 refine P.mono ?_;rintro e w1 ⟨rfl,F1,g1,v1,C1,G1⟩;clear P c3;obtain⟨J,hJ⟩:∃J,w1.heap.size=J:=⟨_,rfl⟩;obtain⟨u1,hu1⟩:∃z,w1.alloc (.cells #[.int .i64 ((i:Int)+1),.int .i64 PR,.int .i64 x.s,.int .u64 x.due,.int .u64 x.key,.int .u64 x.r,.int .u64 x.m] 80)=z:=⟨_,rfl⟩;have b1:Below w1.heap.size w1 u1:=by rw[<-hu1];exact belA _ _
 have BJ:Bx u1 F1 J #[.int .i64 ((i:Int)+1),.int .i64 PR,.int .i64 x.s,.int .u64 x.due,.int .u64 x.key,.int .u64 x.r,.int .u64 x.m] 80:=by rw[<-hu1,<-hJ];exact Bx.new C1 _ _
 have C1u:=(C1.below b1).drew;have X1:Aside (Gc L F w F1 u1.drew):=G1.trans (Gc.below F1 C1.lw b1.drew);have c3:u1.drew.cell? ⟨D.B,3,none⟩=some (pt D.Bt):=C1u.c3;have c8:u1.drew.cell? ⟨D.B,8,none⟩=some (.int .u64 σ.tk):=C1u.c8;have cj:u1.drew.cell? ⟨J,1,none⟩=some (.int .i64 PR):=BJ.cell 1
 have KC:Aside (Calls prog 145 #[pt D.Bt,.int .i64 ((i:Int)+1),.int .u64 KY] u1.drew fun e w'=>e=.returned (.int .i64 0)/\Cox L D F1 u1.drew {σ with T:=σ.T.set i {x with key:=KY}} w'/\w'.cell? ⟨D.B,3,none⟩=some (pt D.Bt)/\w'.cell? ⟨D.B,8,none⟩=some (.int .u64 σ.tk)/\w'.cell? ⟨J,1,none⟩=some (.int .i64 PR)):=by
  refine(C1u.keyC HH.out.1 KY).mono ?_;rintro e w' ⟨rfl,F2,g2,v2,C2,G2⟩;have B2:Bx w' F2 J _ _:=Bx.gc (w:=u1.drew) BJ mq_task G2;exact⟨rfl,⟨F2,g2,v2,C2,G2⟩,C2.c3,C2.c8,B2.cell 1⟩
 have HU1:Aside _:=hu1;have HJ:Aside _:=hJ;clear hu1 hJ b1 BJ C1 C1u G1;go_upto_region 1 with fail
 rw[HU1.out];simp only[HJ.out]
 go_region_held3 (fun w'=>w'.cell? ⟨D.B,3,none⟩=some (pt D.Bt)/\w'.cell? ⟨D.B,8,none⟩=some (.int .u64 σ.tk)/\w'.cell? ⟨J,1,none⟩=some (.int .i64 PR)) (first|with_reducible exact⟨c3,c8,cj⟩|with_reducible exact⟨d3,d8,dj⟩) ((first|(go_at_call 146;(with_reducible refine Calls.mono (KA.out _) ?_);rintro e v2 ⟨rfl,rfl⟩)|(go_at_call 145;(with_reducible refine Calls.mono KC.out ?_);rintro e w2 ⟨rfl,CX,d3,d8,dj⟩)))
 obtain⟨F2,g2,v2,C2,G2⟩:=CX;clear c3 c8 cj d3 d8 dj
 have hi2:({σ with T:=σ.T.set i {x with key:=KY}}:CS).T[i]?=some {x with key:=KY}:=by
  show(σ.T.set i _)[i]?=_;rw[List.getElem?_set_self (List.getElem?_eq_some_iff.1 HH.out.1).1]
 have P:=entryC C2 hi2;have X2:Aside (Gc L F w F2 w2):=X1.out.trans G2;clear C2 G2 hi2 X1
 go_wp2_with fail
 refine P.mono ?_;rintro e w3 ⟨rfl,F3,g3,v3,C3,G3⟩;clear P;obtain⟨K,hK⟩:∃J,w3.heap.size=J:=⟨_,rfl⟩;obtain⟨I1,hI1⟩:∃s,(i:Int)+1=s:=⟨_,rfl⟩;simp only[hI1];obtain⟨u3,hu3⟩:∃z,w3.alloc (.cells #[.int .u64 KY,.int .i64 I1] 35)=z:=⟨_,rfl⟩;have b3:Below w3.heap.size w3 u3:=by rw[<-hu3];exact belA _ _
 have BK:Bx u3.drew F3 K #[.int .u64 KY,.int .i64 I1] 35:=by rw[<-hu3,<-hK];exact Bx.new C3 _ _
 have C3u:=(C3.below b3).drew;have X3:Aside (Gc L F w F3 u3.drew):=(X2.out.trans G3).trans (Gc.below F3 C3.lw b3.drew);have c4:u3.drew.cell? ⟨D.B,4,none⟩=some (pt D.A.B):=C3u.c4;have k0:u3.drew.cell? ⟨K,0,none⟩=some (.int .u64 KY):=BK.cell 0;have k1:u3.drew.cell? ⟨K,1,none⟩=some (.int .i64 I1):=BK.cell 1
 have PC:Aside (Calls prog 147 #[pt D.A.B,.int .i64 t,.agg #[.int .u64 KY,.int .i64 I1]] u3.drew fun e w'=>e=.returned (.int .i64 0)/\∃F',(∃g' v',Co w' L D F' g' v' {σ with T:=σ.T.set i {x with key:=KY},q:=Qu.putQ σ.k σ.q t (KY,I1),qn:=σ.qn+1})/\Gc L F3 u3.drew F' w'/\Bx w' F' K #[.int .u64 KY,.int .i64 I1] 35/\w'.cell? ⟨D.B,4,none⟩=some (pt D.A.B)/\w'.cell? ⟨K,0,none⟩=some (.int .u64 KY)/\w'.cell? ⟨K,1,none⟩=some (.int .i64 I1)):=by
  refine(C3u.putC HH.out.2.1 HH.out.2.2.1 KY I1).mono ?_;rintro e w' ⟨rfl,F4,g4,v4,C4,G4⟩;have B4:=BK.gc mq_ent G4;exact⟨rfl,F4,⟨g4,v4,C4⟩,G4,B4,C4.c4,B4.cell 0,B4.cell 1⟩
 have HU3:Aside _:=hu3;have HK:Aside _:=hK;have HI1:Aside _:=hI1;clear hu3 hK b3 BK C3 C3u G3 X2 hI1;go_upto_region 3 with fail
 rw[HU3.out];simp only[HK.out]
 go_region_held3 (fun w'=>w'.cell? ⟨D.B,4,none⟩=some (pt D.A.B)/\w'.cell? ⟨K,0,none⟩=some (.int .u64 KY)/\w'.cell? ⟨K,1,none⟩=some (.int .i64 I1)) (first|with_reducible exact⟨c4,k0,k1⟩|with_reducible exact⟨d4,e0,e1⟩) ((go_at_call 147;(with_reducible refine Calls.mono PC.out ?_);rintro e w4 ⟨rfl,F4,⟨g4,v4,C4⟩,G4,B4,d4,e0,e1⟩))
 clear c4 k0 k1 d4;have P:=tellC C4 HH.out.2.2.2 2 t I1 KY;have X4:Aside (Gc L F w F4 w4):=X3.out.trans G4;clear C4 G4 B4 X3
 go_wp2_with fail
 refine P.mono ?_;rintro e w5 ⟨rfl,⟨F5,g5,v5,C5,G5⟩,_⟩
 have FIN:Aside (Cox L D F w (relS σ t i x) w5):=by
  refine⟨F5,g5,v5,?_,X4.out.trans G5⟩;unfold relS;rw[HKY.out,HI1.out];exact C5
 clear P C5 G5 X4 e0 e1
 go_wp2_with fail
 go_end0
 exact⟨rfl,FIN.out⟩
end
section
variable {w w' u:World}{L i:Nat}{D:CAd}{F F':Nat->Nat->Prop}{g v:Value}{σ:CS}{x:Ta.TR}
def turnX(x:Ta.TR)(s:Int):Ta.TR:=if 0<x.p then {x with s:=s} else Ta.turnT x s
theorem turnX_key(x:Ta.TR)(s:Int):(turnX x s).key=x.key/\(turnX x s).prio=x.prio/\(turnX x s).s=s/\(turnX x s).p=x.p:=by
 unfold turnX;by_cases h:0<x.p
 ·rw[if_pos h];exact⟨rfl,rfl,rfl,rfl⟩
 ·rw[if_neg h];exact⟨rfl,rfl,rfl,rfl⟩
theorem Co.turnT(C:Co w L D F g v σ)(hi:σ.T[i]?=some x)(s:Int)(hp:0<=x.p)(hc:Ta.canB x.s s=true) :
  Calls prog 176 #[pt D.Bt,.int .i64 ((i:Int)+1),.int .i64 s] w fun e w'=>e=.returned (.int .i64 0)/\Cox L D F w {σ with T:=σ.T.set i (turnX x s)} w':=by
 obtain⟨hn,a,b,r,M,v,ws,fc,T0,I,hX⟩:=C.tab;obtain⟨g,cap,rfl⟩:=T0.len hi;by_cases hp0:0<x.p
 ·refine(Ta.tturn_ag T0 I hn hi s hc hp0).mono ?_;rintro e w' ⟨rfl,⟨ws',fc',D',I'⟩,f⟩
  have h:Ta.Tb w' (F 1) D.Bt 200 (σ.T.set i (turnX x s)):=by
   unfold turnX;rw[if_pos hp0];exact⟨hn,a,b,r,M,_,ws',fc',D',I',hX⟩
  obtain⟨C',G'⟩:=C.setTab h (Ta.sx_same hX f);exact⟨rfl,_,_,_,C',G'⟩
 ·refine(Ta.tturn_ok T0 I hn hi s hc (by omega)).mono ?_;rintro e w' ⟨rfl,⟨ws',fc',D',I'⟩,f⟩
  have h:Ta.Tb w' (F 1) D.Bt 200 (σ.T.set i (turnX x s)):=by
   unfold turnX;rw[if_neg hp0];exact⟨hn,a,b,r,M,_,ws',fc',D',I',hX⟩
  obtain⟨C',G'⟩:=C.setTab h (Ta.sx_same hX f);exact⟨rfl,_,_,_,C',G'⟩
theorem mq_ch:¬Qu.MQ 108:=by unfold Qu.MQ;decide
theorem turn_byZ(C:Co w L D F g v σ)(t:Int)(hi:σ.T[i]?=some x){a s:Int}(ha:x.s=a)(hp:0<=x.p)(hc:Ta.canB a s=true){Z:CS->Prop}
  (hf:∀F1 g1 v1 w1,Co w1 L D F1 g1 v1 {σ with T:=σ.T.set i (turnX x s)}->Calls prog 44 #[pt D.B,.int .i64 t,.int .i64 ((i:Int)+1),.agg #[.int .i64 a,.int .i64 s]] w1 fun e w'=>e=.returned (.tuple #[])/\∃σ',Z σ'/\Cox L D F1 w1 σ' w') :
  Calls prog 116 #[pt D.B,.int .i64 t,.int .i64 ((i:Int)+1),.int .i64 s] w fun e w'=>e=.returned (.tuple #[])/\∃σ',Z σ'/\Cox L D F w σ' w':=by
 have P:=statusC C hi;rw[ha] at P;have HH:Aside (σ.T[i]?=some x/\0<=x.p/\Ta.canB x.s s=true):=⟨hi,hp,by rw[ha];exact hc⟩;have HF:Aside (∀F1 g1 v1 w1,Co w1 L D F1 g1 v1 {σ with T:=σ.T.set i (turnX x s)}->Calls prog 44 #[pt D.B,.int .i64 t,.int .i64 ((i:Int)+1),.agg #[.int .i64 a,.int .i64 s]] w1 fun e w'=>e=.returned (.tuple #[])/\∃σ',Z σ'/\Cox L D F1 w1 σ' w'):=hf;clear C hi ha hp hc hf;go_enter func116,ntmps116
 go_wp2_with fail
 refine P.mono ?_;rintro e w1 ⟨rfl,F1,g1,v1,C1,G1⟩;clear P;obtain⟨K,hK⟩:∃J,w1.heap.size=J:=⟨_,rfl⟩;obtain⟨u1,hu1⟩:∃z,w1.alloc (.cells #[.int .i64 a,.int .i64 s] 108)=z:=⟨_,rfl⟩;have b1:Below w1.heap.size w1 u1:=by rw[<-hu1];exact belA _ _
 have BK:Bx u1 F1 K #[.int .i64 a,.int .i64 s] 108:=by rw[<-hu1,<-hK];exact Bx.new C1 _ _
 have C1u:=C1.below b1;have c3:=C1u.c3;have P:=C1u.turnT HH.out.1 s HH.out.2.1 HH.out.2.2;have X1:Aside (Gc L F w F1 u1/\Bx u1 F1 K #[.int .i64 a,.int .i64 s] 108):=⟨G1.trans (Gc.below F1 C1.lw b1),BK⟩;have HU:Aside _:=hu1;have HK:Aside _:=hK;clear hu1 hK b1 BK C1 C1u G1;go_upto_region 1 with fail
 rw[HU.out];simp only[HK.out]
 go_wp2_with fail
 refine P.mono ?_;rintro e w2 ⟨rfl,F2,g2,v2,C2,G2⟩;clear P c3;have B2:=X1.out.2.gc mq_ch G2;have k0:w2.cell? ⟨K,0,none⟩=some (.int .i64 a):=B2.cell 0;have k1:w2.cell? ⟨K,1,none⟩=some (.int .i64 s):=B2.cell 1;have klt:=lt_of_block B2.1;have P:=HF.out F2 g2 v2 w2 C2;have X2:Aside (Gc L F w F2 w2):=X1.out.1.trans G2;clear B2 C2 G2 X1
 go_wp2_with fail
 refine P.mono ?_;rintro e w3 ⟨rfl,σ',zz,F3,g3,v3,C3,G3⟩;have FIN:Aside (∃σ',Z σ'/\Cox L D F w σ' w3):=⟨σ',zz,F3,g3,v3,C3,X2.out.trans G3⟩;clear P C3 G3 X2 k0 k1 klt zz
 go_wp2_with fail
 go_end0
 exact⟨rfl,FIN.out⟩
theorem turn_by(C:Co w L D F g v σ)(t:Int)(hi:σ.T[i]?=some x){a s:Int}(ha:x.s=a)(hp:0<=x.p)(hc:Ta.canB a s=true){σ':CS}
  (hf:∀F1 g1 v1 w1,Co w1 L D F1 g1 v1 {σ with T:=σ.T.set i (turnX x s)}->Calls prog 44 #[pt D.B,.int .i64 t,.int .i64 ((i:Int)+1),.agg #[.int .i64 a,.int .i64 s]] w1 fun e w'=>e=.returned (.tuple #[])/\Cox L D F1 w1 σ' w') :
  Calls prog 116 #[pt D.B,.int .i64 t,.int .i64 ((i:Int)+1),.int .i64 s] w fun e w'=>e=.returned (.tuple #[])/\Cox L D F w σ' w':=by
 refine(turn_byZ C t hi ha hp hc (Z:=fun τ=>τ=σ') (fun F1 g1 v1 w1 C1=>?_)).mono ?_
 ·refine(hf F1 g1 v1 w1 C1).mono ?_;rintro e w' ⟨rfl,X⟩;exact⟨rfl,σ',rfl,X⟩
 ·rintro e w' ⟨rfl,τ,rfl,X⟩;exact⟨rfl,X⟩
theorem len_set{T:List Ta.TR}{i:Nat}{x y:Ta.TR}(h:T[i]?=some x):(T.set i y)[i]?=some y:=by rw[List.getElem?_set_self (List.getElem?_eq_some_iff.1 h).1]
def turnS(σ:CS)(i:Nat)(x:Ta.TR)(s:Int):CS:={σ with T:=σ.T.set i (turnX x s)}
theorem turn12(C:Co w L D F g v σ)(hl:σ.ev.length<1000000)(hn:σ.qn<=1000)(htk:σ.tk<1000000){t:Nat}(ht:t<σ.th)(hi:σ.T[i]?=some x)(hs:x.s=1)(hp:0<=x.p) :
  Calls prog 116 #[pt D.B,.int .i64 t,.int .i64 ((i:Int)+1),.int .i64 2] w fun e w'=>e=.returned (.tuple #[])/\Cox L D F w (relS (turnS σ i x 2) t i (turnX x 2)) w':=by
 refine turn_by C t hi hs hp (by decide) (fun F1 g1 v1 w1 C1=>?_);refine follow_12 D.B t ((i:Int)+1) w1 (fun w2 b2=>?_);refine(relC (C1.below b2) hl hn htk ht (len_set hi)).mono ?_;rintro e w3 ⟨rfl,F3,g3,v3,C3,G3⟩;exact⟨rfl,F3,g3,v3,C3,(Gc.below F1 C1.lw b2).trans G3⟩
theorem turn16(C:Co w L D F g v σ)(hl:σ.ev.length<1000000)(t:Int)(hi:σ.T[i]?=some x)(hs:x.s=1)(hp:0<=x.p)(wi:Wl.wfI ((i:Int)+1)) :
  Calls prog 116 #[pt D.B,.int .i64 t,.int .i64 ((i:Int)+1),.int .i64 6] w fun e w'=>e=.returned (.tuple #[])/\Cox L D F w (stopS (turnS σ i x 6) ((i:Int)+1)) w':=by
 refine turn_by C t hi hs hp (by decide) (fun F1 g1 v1 w1 C1=>?_);refine follow_16 D.B t ((i:Int)+1) w1 (fun w2 b2=>?_);refine(stopC (C1.below b2) hl t ((i:Int)+1) wi).mono ?_;rintro e w3 ⟨rfl,F3,g3,v3,C3,G3⟩;exact⟨rfl,F3,g3,v3,C3,(Gc.below F1 C1.lw b2).trans G3⟩
theorem turn26(C:Co w L D F g v σ)(hl:σ.ev.length<1000000)(hn:σ.qn<=1000)(t:Int)(hi:σ.T[i]?=some x)(hs:x.s=2)(hp:0<=x.p) :
  Calls prog 116 #[pt D.B,.int .i64 t,.int .i64 ((i:Int)+1),.int .i64 6] w fun e w'=>e=.returned (.tuple #[])/\Cox L D F w (wdrS (turnS σ i x 6) ((i:Int)+1)) w':=by
 refine turn_by C t hi hs hp (by decide) (fun F1 g1 v1 w1 C1=>?_);refine follow_26 D.B t ((i:Int)+1) w1 (fun w2 b2=>?_);refine(wdrC (C1.below b2) hl hn t ((i:Int)+1)).mono ?_;rintro e w3 ⟨rfl,F3,g3,v3,C3,G3⟩;exact⟨rfl,F3,g3,v3,C3,(Gc.below F1 C1.lw b2).trans G3⟩
theorem turn23(C:Co w L D F g v σ)(hl:σ.ev.length<1000000)(hn:σ.qn<=1000)(htk:σ.tk<1000000)(t:Nat)(hi:σ.T[i]?=some x)(hs:x.s=2)(hp:0<=x.p) :
  Calls prog 116 #[pt D.B,.int .i64 t,.int .i64 ((i:Int)+1),.int .i64 3] w fun e w'=>e=.returned (.tuple #[])/\Cox L D F w (handS (turnS σ i x 3) t i (turnX x 3)) w':=by
 refine turn_by C t hi hs hp (by decide) (fun F1 g1 v1 w1 C1=>?_);refine follow_23 D.B t ((i:Int)+1) w1 (fun w2 b2=>?_);refine(handC (C1.below b2) hl hn htk t (len_set hi)).mono ?_;rintro e w3 ⟨rfl,F3,g3,v3,C3,G3⟩;exact⟨rfl,F3,g3,v3,C3,(Gc.below F1 C1.lw b2).trans G3⟩
end
section
variable {w w' u:World}{L i:Nat}{D:CAd}{F F':Nat->Nat->Prop}{g v:Value}{σ:CS}{x:Ta.TR}
theorem mq_int:¬Qu.MQ 3:=Qu.mq_int
def Ow(w:World)(F:Nat->Nat->Prop)(v:Value)(d:List Int):Prop:=Da.OwnI w 0 v d/\∀k,v.ownBlock=some k->∀p,¬F p k
theorem Ow.gc{v:Value}{d:List Int}(h:Ow w F v d)(G:Gc L F w F' w'):Ow w' F' v d:=by
 refine⟨h.1.of_block fun k hk=>?_,fun k hk p hp=>?_⟩
 ·obtain⟨cs,hc⟩:=h.1.rowT hk;exact((show Bx w F k cs 3 from⟨hc,h.2 k hk⟩).gc mq_int G).1.trans hc.symm
 ·rcases G.new p k hp with e|e
  ·exact h.2 k hk p e
  ·have:=(h.1.rowLt hk).2;omega
def Wt(T:List Ta.TR)(j:Int):Prop:=∃(k:Nat)(x:Ta.TR),j=(k:Int)+1/\T[k]?=some x/\x.s=1/\0<=x.p
def isW(x:Ta.TR):Bool:=x.s==1
theorem wt_len:∀(d:List Int)(T:List Ta.TR),d.Nodup->(∀j∈d,Wt T j)->d.length<=T.countP isW
 | [],T,_,_=>Nat.zero_le _
 | j::d,T,h,hw=>by
  obtain⟨h1,h2⟩:=List.nodup_cons.1 h;obtain⟨k,x,rfl,hx,hs,hp⟩:=hw j (by simp)
  have ih:=wt_len d (T.set k {x with s:=2}) h2 (fun j' hj'=>by
   obtain⟨k',x',rfl,hx',hs',hp'⟩:=hw j' (by simp[hj']);have hne:k≠k':=fun e=>h1 (by rw[e];exact hj');exact⟨k',x',rfl,by rw[List.getElem?_set_ne hne];exact hx',hs',hp'⟩)
  have:=Ta.cntP_set isW T k x {x with s:=2} hx;have e1:isW x=true:=by simp[isW,hs]
  have e2:isW {x with s:=2}=false:=by simp[isW]
  rw[e1,e2] at this;simp at this;simp;omega
def relStep(t:Nat)(σ:CS)(j:Int):CS:=match σ.T[(j-1).toNat]? with
 | some x=>relS (turnS σ (j-1).toNat x 2) t (j-1).toNat (turnX x 2)
 | none=>σ
def relL(t:Nat)(d:List Int)(σ:CS):CS:=d.foldl (relStep t) σ
theorem relStep_at(t:Nat)(σ:CS)(k:Nat)(x:Ta.TR)(h:σ.T[k]?=some x):relStep t σ ((k:Int)+1)=relS (turnS σ k x 2) t k (turnX x 2):=by
 unfold relStep;rw[show((k:Int)+1-1).toNat=k by omega,h]
theorem relS_T(σ:CS)(t i:Nat)(x:Ta.TR):(relS σ t i x).T=σ.T.set i {x with key:=keyS σ x}:=rfl
structure Sam(σ σ':CS):Prop where
 th:σ'.th=σ.th
 k:σ'.k=σ.k
 n:σ'.n=σ.n
 now:σ'.now=σ.now
 tm:σ'.tm=σ.tm
 E:σ'.E=σ.E
 N:σ'.N=σ.N
 o:σ'.o=σ.o
 m:σ'.m=σ.m
 tk:σ'.tk=σ.tk
 cl:σ'.cl=σ.cl
 gone:σ'.gone=σ.gone
 len:σ'.T.length=σ.T.length
theorem Sam.refl(σ:CS):Sam σ σ:=⟨rfl,rfl,rfl,rfl,rfl,rfl,rfl,rfl,rfl,rfl,rfl,rfl,rfl⟩
theorem Sam.trans{a b c:CS}(h:Sam a b)(k:Sam b c):Sam a c:=⟨k.th.trans h.th,k.k.trans h.k,k.n.trans h.n,k.now.trans h.now,k.tm.trans h.tm,k.E.trans h.E,k.N.trans h.N,k.o.trans h.o,k.m.trans h.m,k.tk.trans h.tk,k.cl.trans h.cl,k.gone.trans h.gone,k.len.trans h.len⟩
theorem sam_rel(σ:CS)(t i:Nat)(x y:Ta.TR):Sam σ (relS (turnS σ i x 2) t i y):=⟨rfl,rfl,rfl,rfl,rfl,rfl,rfl,rfl,rfl,rfl,rfl,rfl,by simp[relS_T,turnS]⟩
theorem relL_one(t:Nat)(d:List Int)(σ:CS)(I:Nat)(hI:I<d.length):relL t (d.take (I+1)) σ=relStep t (relL t (d.take I) σ) (d.getD I 0):=by
 unfold relL;rw[Da.take_up hI,List.foldl_append]
 rfl
theorem relL_inv(t:Nat)(σ:CS){d:List Int}(hn:d.Nodup)(hw:∀j∈d,Wt σ.T j):∀I,I<=d.length->Sam σ (relL t (d.take I) σ)/\(relL t (d.take I) σ).qn=σ.qn+I/\(relL t (d.take I) σ).ev.length=σ.ev.length+I/\(∀k:Nat,((k:Int)+1)∉d.take I->(relL t (d.take I) σ).T[k]?=σ.T[k]?):=by
 intro I
 induction I with
 | zero=>intro _;exact⟨Sam.refl σ,rfl,rfl,fun k _=>rfl⟩
 | succ I ih=>
  intro hI;have hI':I<d.length:=by omega
  obtain⟨s,q,e,T⟩:=ih (by omega);obtain⟨k,x,hj,hx,hs,hp⟩:=hw _ (Da.getD_mem hI');have hk:((k:Int)+1)∉d.take I:=by rw[<-hj];exact Da.nodup_take hn hI'
  have hx':(relL t (d.take I) σ).T[k]?=some x:=(T k hk).trans hx;rw[relL_one t d σ I hI',hj,relStep_at t _ k x hx'];refine⟨s.trans (sam_rel _ _ _ _ _),?_,?_,fun k' hk'=>?_⟩
  ·show(relL t (d.take I) σ).qn+1=_;rw[q];omega
  ·show((relL t (d.take I) σ).ev++[_]).length=_;rw[List.length_append,e];simp;omega
  ·rw[Da.mem_take_up hI',hj] at hk';have hne:k≠k':=fun e=>hk' (.inr (by rw[e]));rw[relS_T];show(((relL t (d.take I) σ).T.set k _).set k _)[k']?=_;rw[List.getElem?_set_ne hne,List.getElem?_set_ne hne];exact T k' (fun h=>hk' (.inl h))
theorem Ow.at{n cap I:Nat}{a:Option Addr}{d:List Int}(h:Ow w F (.slice a n cap) d)(hn:d.length=n)(hI:I<n):∃g off,a=some ⟨g,off,none⟩/\g<w.heap.size/\w.cell? ⟨g,off+I,none⟩=some (.int .i64 (d.getD I 0)):=by
 subst hn;exact h.1.isIv.at hI
def endS(σ:CS)(t id:Int):CS:=tellS {σ with o:=σ.o-1} 4 t id 0
def DoneL(E:Da.Rel)(id:Int)(d:List Int):Prop:=Da.Up d/\∀j,j∈d↔E id j/\∀q,E q j->q=id
theorem up_nodup{d:List Int}(h:Da.Up d):d.Nodup:=by
 refine List.Pairwise.imp (fun {a b} hab=>?_) h;exact Int.ne_of_lt hab
theorem Co.doneC(C:Co w L D F g v σ)(hN:σ.N<1000000){id:Int}(hi:Da.wfI id) :
  Calls prog 152 #[pt D.Bd,.int .i64 id] w fun e w'=>∃a n cap d F',e=.returned (.slice a n cap)/\d.length=n/\DoneL σ.E id d/\Ow w' F' (.slice a n cap) d/\(∃g' v',Co w' L D F' g' v' {σ with E:=fun q j=>σ.E q j/\q≠id})/\Gc L F w F' w':=by
 refine(Da.doneG C.dag hN hi).mono ?_;rintro e w' ⟨v',d,X',rfl,o,up,md,Dg',st,dis,_⟩;obtain⟨C',G'⟩:=C.setDag Dg' st;obtain⟨a,cap,e,_⟩:=o.isI;subst e;refine⟨a,_,cap,d,_,rfl,rfl,⟨up,md⟩,⟨o.low (Nat.zero_le _),fun k hk p hp=>?_⟩,⟨_,_,C'⟩,G'⟩;by_cases e:p=4
 ·subst e;rw[fset_same] at hp;exact dis k hk hp
 ·rw[fset_ne _ _ e] at hp;have:=C.fp.lt p k hp;have:=(o.rowLt hk).1;omega
theorem endC(C:Co w L D F g v σ){t:Nat}(ht:t<σ.th){id:Int}(hid:Da.wfI id)(hN:σ.N<1000000)(hl:σ.ev.length+300<1000000)(hT:σ.T.length<=200)(hq:σ.qn+σ.T.countP isW<=1000)(htk:σ.tk<1000000)(hw:∀j,σ.E id j->(∀q,σ.E q j->q=id)->Wt σ.T j) :
  Calls prog 106 #[pt D.B,.int .i64 t,.int .i64 id] w fun e w'=>e=.returned (.tuple #[])/\∃d,DoneL σ.E id d/\Cox L D F w (relL t d {endS σ t id with E:=fun q j=>σ.E q j/\q≠id}) w':=by
 have c7:=C.c7;have P:=C.giveC;have HH:Aside (t<σ.th/\Da.wfI id/\σ.N<1000000/\σ.ev.length+300<1000000/\σ.T.length<=200/\σ.qn+σ.T.countP isW<=1000/\σ.tk<1000000):=⟨ht,hid,hN,hl,hT,hq,htk⟩;have HW:Aside (∀j,σ.E id j->(∀q,σ.E q j->q=id)->Wt σ.T j):=hw;clear C ht hid hN hl hT hq htk hw;go_enter func106,ntmps106
 go_wp2_with fail
 refine P.mono ?_;rintro e w1 ⟨⟨n1,rfl⟩,F1,g1,v1,C1,G1⟩;clear P c7;have P:=tellC C1 (show σ.ev.length<1000000 by have:=HH.out.2.2.2.1;omega) 4 t id 0;have X1:Aside (Gc L F w F1 w1):=G1;clear C1 G1
 go_wp2_with fail
 refine P.mono ?_;rintro e w2 ⟨rfl,⟨F2,g2,v2,C2,G2⟩,_⟩;clear P;have c6:=C2.c6;have P:=C2.doneC (show σ.N<1000000 from HH.out.2.2.1) HH.out.2.1;have X2:Aside (Gc L F w F2 w2):=X1.out.trans G2;clear C2 G2 X1
 go_wp2_with fail
 refine P.mono ?_;rintro e w3 ⟨a,n,cap,d,F3,rfl,hd,dl,ow,⟨g3,v3,C3⟩,G3⟩;clear P c6;obtain⟨τ,hτ⟩:∃τ:CS,{endS σ t id with E:=fun q j=>σ.E q j/\q≠id}=τ:=⟨_,rfl⟩;have C3':Co w3 L D F3 g3 v3 τ:=by rw[<-hτ];exact C3
 have TQ:Aside (τ.T=σ.T/\τ.qn=σ.qn/\τ.ev.length=σ.ev.length+1/\τ.tk=σ.tk/\τ.th=σ.th):=by
  rw[<-hτ];exact⟨rfl,rfl,by show(σ.ev++[_]).length=_;simp,rfl,rfl⟩
 have HD:Aside (d.length=n/\DoneL σ.E id d/\d.Nodup/\(∀j∈d,Wt τ.T j)):=by
  refine⟨hd,dl,up_nodup dl.1,fun j hj=>?_⟩;rw[TQ.out.1];obtain⟨q1,q2⟩:=(dl.2 j).1 hj;exact HW.out j q1 q2
 have HN:Aside (d.length<=σ.T.countP isW):=by
  have:=wt_len d τ.T HD.out.2.2.1 HD.out.2.2.2;rw[TQ.out.1] at this;exact this
 have HT:Aside _:=hτ;have OW:Aside (Ow w3 F3 (.slice a n cap) d):=ow;have X3:Aside (Gc L F w F3 w3):=X2.out.trans G3;have CT:Aside (Co w3 L D F3 g3 v3 τ):=C3'
 have hn200:n<=200:=by
  have h1:=HN.out;have h2:=Ta.cntP_le isW σ.T;have h3:=HH.out.2.2.2.2.1;have h4:=HD.out.1;omega
 clear C3 C3' G3 hτ ow hd dl X2
 go_wp2_with fail
 go_loopg [7,25] n (fun kx s7 s25 wr=>∃(k:Nat),s25=.int .i64 k/\k<=n/\n-k<=kx/\∃Fr gr vr,Aside (Co wr L D Fr gr vr (relL t (d.take k) τ))/\Aside (Ow wr Fr (.slice a n cap) d)/\Aside (Gc L F w Fr wr))
 case atStart=>exact⟨0,rfl,by omega,by omega,F3,g3,v3,CT,OW,X3⟩
 case round=>
  obtain⟨k,rfl,hk,hkx,Fr,gr,vr,Cr,Or,Gr⟩:=hrel;by_cases c:k<n
  ·have hlt:(k:Int)<(n:Int):=by omega
   obtain⟨gg,off,rfl,glt,hc⟩:=Or.out.at HD.out.1 c;have hkd:k<d.length:=by rw[HD.out.1];exact c
   obtain⟨kk,x,ej,hx,hs,hp⟩:=HD.out.2.2.2 _ (Da.getD_mem hkd);obtain⟨s1,q1,e1,T1⟩:=relL_inv t τ HD.out.2.2.1 HD.out.2.2.2 k (by omega);have hx':(relL t (d.take k) τ).T[kk]?=some x:=(T1 kk (by rw[<-ej];exact Da.nodup_take HD.out.2.2.1 hkd)).trans hx;have P:=turn12 Cr.out (t:=t) (by have:=TQ.out.2.2.1;have:=HH.out.2.2.2.1;omega) (by have:=TQ.out.2.1;have:=HN.out;have:=HH.out.2.2.2.2.2.1;omega) (by rw[s1.tk,TQ.out.2.2.2.1];exact HH.out.2.2.2.2.2.2) (by rw[s1.th,TQ.out.2.2.2.2];exact HH.out.1) hx' hs hp
   have RL:Aside (relL t (d.take (k+1)) τ=relS (turnS (relL t (d.take k) τ) kk x 2) t kk (turnX x 2)):=by
    show _=_;rw[relL_one t d τ k hkd,ej,relStep_at t _ kk x hx']
   rw[ej] at hc;clear hx hx' hs hp s1 q1 e1 T1 ej hkd
   go_wp2_with fail
   refine P.mono ?_;rintro e w4 ⟨rfl,F4,g4,v4,C4,G4⟩
   have C4':Aside (Co w4 L D F4 g4 v4 (relL t (d.take (k+1)) τ)):=by
    show Co w4 L D F4 g4 v4 (relL t (d.take (k+1)) τ);rw[RL.out];exact C4
   have O4:Aside (Ow w4 F4 (.slice (some ⟨gg,off,none⟩) n cap) d):=Or.out.gc G4;have X4:Aside (Gc L F w F4 w4):=Gr.out.trans G4;clear P C4 G4 hc RL
   go_wp2_with fail
   go_roundg (n-(k+1))
   case measure=>omega
   case rel=>exact⟨k+1,by go_num,by omega,Nat.le_refl _,F4,g4,v4,C4',O4,X4⟩
  ·have hnl:¬(k:Int)<(n:Int):=by omega
   have FIN:Aside (∃d,DoneL σ.E id d/\Cox L D F w (relL t d {endS σ t id with E:=fun q j=>σ.E q j/\q≠id}) wr):=by
    refine⟨d,HD.out.2.1,Fr,gr,vr,?_,Gr.out⟩;have:=Cr.out;rw[List.take_of_length_le (by rw[HD.out.1];omega)] at this;rw[HT.out];exact this
   clear hk hkx
   go_wp2_with fail
   go_end0
   exact⟨rfl,FIN.out⟩
end
def newS(th k n:Nat):CS:={th:=th,k:=k,n:=n,T:=[],q:=Qu.newQ,qn:=0,now:=0,tm:=[],E:=fun _ _=>False,N:=0,o:=0,m:=0,tk:=0,cl:=false,gone:=[],ev:=[]}
theorem qf_lt{w:World}{base T K:Nat}{A:Qu.QAd}{s:Qu.QSt}(h:Qu.Que w base A T K s){k:Nat}(hk:qf A T k):k<w.heap.size:=by
 obtain⟨ra,sa,h⟩:=h;rcases hk with rfl|rfl|rfl|rfl|rfl|rfl|rfl|⟨i,hi,rfl|rfl⟩
 ·exact h.fix.blt
 ·exact h.slt.blt
 ·exact h.slt.rlt
 ·exact h.fix.olt
 ·obtain⟨cs,hc⟩:=h.shr.head;exact lt_of_block hc
 ·exact h.fix.tab.lt
 ·exact lt_of_block h.fix.qc
 ·obtain⟨cs,hc⟩:=(h.own i hi).head;exact lt_of_block hc
 ·exact lt_of_block (h.fix.tc i hi)
def newF(D:CAd)(th:Nat)(XT XW XD:Nat->Prop)(p k:Nat):Prop:=(p=0/\k=D.B)\/(p=1/\XT k)\/(p=2/\qf D.A th k)\/(p=3/\XW k)\/(p=4/\XD k)\/(p=5/\(k=D.ca\/k=D.cb\/k=D.cr))
theorem new_co{w:World}{L s1 s2 s3 s4 s5 th k n:Nat}{D:CAd}{XT XW XD:Nat->Prop}
  (q:Qu.Que w L D.A th k Qu.newQ) (h2:∀j,qf D.A th j->j<s1) (c:Ca.Cr w D.ca D.cb D.cr n 0 0) (hc:∀j,(j=D.ca\/j=D.cb\/j=D.cr)->s1<=j/\j<s2)
  (t:Ta.Tb w XT D.Bt 200 []) (ht:∀j,XT j->s2<=j/\j<s3) (wh:Wl.Whl w XW D.Bw D.wb 0 []) (hw:∀j,XW j->s3<=j/\j<s4) (dg:Da.Dg w XD D.Bd (fun _ _=>False) 0) (hd:∀j,XD j->s4<=j/\j<s5)
  (hB:w.heap[D.B]?=some (.cells #[.int .i64 th,.int .i64 k,.int .i64 n,.pointer (some ⟨D.Bt,0,none⟩),.pointer (some ⟨D.A.B,0,none⟩),.pointer (some ⟨D.Bw,0,none⟩),.pointer (some ⟨D.Bd,0,none⟩),.pointer (some ⟨D.ca,0,none⟩),.int .u64 0,.bool false,.slice none 0 0,.slice none 0 0] 69 (0,0))) (hs:s5=D.B)
  (l1:L<=s1) (l2:s1<=s2) (l3:s2<=s3) (l4:s3<=s4) (l5:s4<=s5) (lw:L<=w.heap.size) (wb:D.wb<=w.heap.size) (th1:1<=th) (th8:th<=8) (k16:k<=16) :
  Co w L D (newF D th XT XW XD) (.slice none 0 0) (.slice none 0 0) (newS th k n):=by
 have F0:∀k,newF D th XT XW XD 0 k↔k=D.B:=fun k=>by simp[newF]
 have F1:newF D th XT XW XD 1=XT:=by funext k;simp[newF]
 have F2:∀k,newF D th XT XW XD 2 k↔qf D.A th k:=fun k=>by simp[newF]
 have F3:newF D th XT XW XD 3=XW:=by funext k;simp[newF]
 have F4:newF D th XT XW XD 4=XD:=by funext k;simp[newF]
 have F5:∀k,newF D th XT XW XD 5 k↔(k=D.ca\/k=D.cb\/k=D.cr):=fun k=>by simp[newF]
 have F6:∀k,¬newF D th XT XW XD 6 k:=fun k=>by simp[newF]
 have F7:∀k,¬newF D th XT XW XD 7 k:=fun k=>by simp[newF]
 have Blt:=lt_of_block hB
 -- where a part lies
 have rg:∀p j,newF D th XT XW XD p j->(p=2/\j<s1)\/(p=5/\s1<=j/\j<s2)\/(p=1/\s2<=j/\j<s3)\/(p=3/\s3<=j/\j<s4)\/(p=4/\s4<=j/\j<s5)\/(p=0/\j=s5):=fun p j h=>by
  rcases h with⟨rfl,h⟩|⟨rfl,h⟩|⟨rfl,h⟩|⟨rfl,h⟩|⟨rfl,h⟩|⟨rfl,h⟩
  ·exact .inr (.inr (.inr (.inr (.inr ⟨rfl,by omega⟩))))
  ·exact .inr (.inr (.inl ⟨rfl,ht j h⟩))
  ·exact .inl ⟨rfl,h2 j h⟩
  ·exact .inr (.inr (.inr (.inl ⟨rfl,hw j h⟩)))
  ·exact .inr (.inr (.inr (.inr (.inl ⟨rfl,hd j h⟩))))
  ·exact .inr (.inl ⟨rfl,hc j h⟩)
 refine⟨hB,by rw[F1];exact t,q,by rw[F3];exact wh,by rw[F4];exact dg,c,Ta.OwnG.nil _ _ _,Da.OwnI.nil _ _,F0,F2,F5,fun k=>?_,fun k=>?_,fun p j h=>?_,⟨fun p j h=>?_,fun p j hp h=>?_,fun p p' j hpp h h'=>?_⟩,lw,wb,Qu.newQ_ok k th,th1,th8,k16⟩
 ·constructor
  ·intro h;exact absurd h (F6 k)
  ·intro h;cases h
 ·constructor
  ·intro h;exact absurd h (F7 k)
  ·intro h;cases h
 ·have:=rg p j h;omega
 ·have:=rg p j h;omega
 ·have:=rg p j h;omega
 ·have:=rg p j h;have:=rg p' j h';omega
theorem newC2(th k n:Nat)(w:World)(t1:1<=th)(t8:th<=8)(k16:k<=16)(n1:1<=n)(n64:n<=64) :
  Calls prog 14 #[.agg #[.int .i64 th,.int .i64 k,.int .i64 n]] w fun e w'=>∃D F,e=.returned (.tuple #[pt D.B,.int .i64 0])/\Co w' (w.heap.size+1) D F (.slice none 0 0) (.slice none 0 0) (newS th k n)/\Below w.heap.size w w'/\w.heap.size<=D.wb:=by
 obtain⟨K,hK⟩:∃K,w.heap.size=K:=⟨_,rfl⟩;obtain⟨u,hu⟩:∃z,w.alloc (.cells #[.int .i64 th,.int .i64 k,.int .i64 n] 28)=z:=⟨_,rfl⟩;have b0:Below w.heap.size w u:=by rw[<-hu];exact belA _ _
 have hB:u.heap[K]?=some (.cells #[.int .i64 th,.int .i64 k,.int .i64 n] 28 (0,0)):=by rw[<-hu,<-hK];exact heap_alloc_new w _
 have us:u.heap.size=K+1:=by rw[<-hu,<-hK];simp
 have k0:u.cell? ⟨K,0,none⟩=some (.int .i64 th):=by rw[cell_of_row _ _ _ _ _ _ hB];rfl
 have k1:u.cell? ⟨K,1,none⟩=some (.int .i64 k):=by rw[cell_of_row _ _ _ _ _ _ hB];rfl
 have klt:=lt_of_block hB;have P:=Qu.qnew_in th k u t1 t8 k16;have HH:Aside (1<=th/\th<=8/\k<=16/\1<=n/\n<=64):=⟨t1,t8,k16,n1,n64⟩;have HB:Aside _:=hB;have HU:Aside _:=hu;have US:Aside (u.heap.size=K+1/\w.heap.size=K/\Below w.heap.size w u):=⟨us,hK,b0⟩;rw[hK];clear hB hu b0 t1 t8 k16 n1 n64 us;go_enter func14,ntmps14
 go_upto_region 1 with fail
 rw[HU.out];try simp only[US.out.2.1]
 go_wp2_with fail
 refine P.mono ?_;rintro e w1 ⟨A,rfl,q1,b1⟩;clear P k0 k1 klt
 have q1':Aside (Qu.Que w1 (K+1) A th k Qu.newQ):=by
  show Qu.Que w1 (K+1) A th k Qu.newQ;rw[<-US.out.1];exact q1
 have B1:Aside (Below w.heap.size w w1/\w1.heap[K]?=some (.cells #[.int .i64 th,.int .i64 k,.int .i64 n] 28 (0,0))/\K+1<=w1.heap.size):=⟨belT US.out.2.2 b1,(b1.block K (lt_of_block HB.out)).trans HB.out,by have:=b1.size;have:=US.out.1;omega⟩;have k2:w1.cell? ⟨K,2,none⟩=some (.int .i64 n):=by rw[cell_of_row _ _ _ _ _ _ B1.out.2.1];rfl
 have klt:=lt_of_block B1.out.2.1;have P:=Ca.new_any n w1 HH.out.2.2.2.1 HH.out.2.2.2.2;clear q1 b1
 go_wp2_with fail
 refine P.mono ?_;rintro e w2 ⟨rfl,c2,b2,s2⟩;clear P k2 klt;have C2:Aside (Ca.Cr w2 (w1.heap.size+2) (w1.heap.size+1) w1.heap.size n 0 0/\Below w1.heap.size w1 w2/\w2.heap.size=w1.heap.size+3):=⟨c2,b2,s2⟩;obtain⟨a2,ha2⟩:∃a2,w1.heap.size+2=a2:=⟨_,rfl⟩;rw[ha2];have HA2:Aside (w1.heap.size+2=a2):=ha2;have P:=Ta.newT 200 w2 (by omega) (by omega);clear c2 b2 s2 ha2
 go_wp2_with fail
 refine P.mono ?_;rintro e w3 ⟨Bt,XT,rfl,t3,ab3⟩;clear P;have T3:Aside (Ta.Tb w3 XT Bt 200 []/\Ta.Ab w2 w2.heap.size w3 XT):=⟨t3,ab3⟩
 have hB3:w3.heap[K]?=some (.cells #[.int .i64 th,.int .i64 k,.int .i64 n] 28 (0,0)):=by
  have h2:=(C2.out.2.1.block K (lt_of_block B1.out.2.1)).trans B1.out.2.1;exact(ab3.bel.block K (lt_of_block h2)).trans h2
 have HB3:Aside (w3.drew.heap[K]?=some (.cells #[.int .i64 th,.int .i64 k,.int .i64 n] 28 (0,0))):=hB3;have cc:Aside (∀W:World,W.heap[K]?=some (.cells #[.int .i64 th,.int .i64 k,.int .i64 n] 28 (0,0))->W.cell? ⟨K,0,none⟩=some (.int .i64 th)/\W.cell? ⟨K,1,none⟩=some (.int .i64 k)/\W.cell? ⟨K,2,none⟩=some (.int .i64 n)):=fun W h=>⟨by rw[cell_of_row _ _ _ _ _ _ h];rfl,by rw[cell_of_row _ _ _ _ _ _ h];rfl,by rw[cell_of_row _ _ _ _ _ _ h];rfl⟩;obtain⟨d0,d1,d2⟩:=cc.out w3.drew HB3.out;have WN:Aside (Calls prog 32 #[.int .u64 0] w3.drew fun e w'=>e=.returned (pt (w3.heap.size+1))/\Below w3.drew.heap.size w3.drew w'/\∃XW,Wl.Whl w' XW (w3.heap.size+1) w3.heap.size 0 []/\∀k,XW k->w3.heap.size<=k):=Wl.new_any 0 (by unfold Wl.B64;omega) w3.drew;clear t3 ab3 hB3;go_upto_region 10 with fail
 go_region_held3 (fun W=>W.cell? ⟨K,0,none⟩=some (.int .i64 th)/\W.cell? ⟨K,1,none⟩=some (.int .i64 k)/\W.cell? ⟨K,2,none⟩=some (.int .i64 n)) (first|with_reducible exact⟨d0,d1,d2⟩|with_reducible exact⟨e0,e1,e2⟩|with_reducible exact⟨f0,f1,f2⟩|exact cc.out _ ((belA w5 _).block K (lt_of_block HB5.out) |>.trans HB5.out)) ((first|(go_at_call 33;(with_reducible refine Calls.mono (Da.newG w4) ?_);rintro e w5 ⟨Bd,XD,rfl,g5,lw5,b5⟩;have HB5:Aside (w5.heap[K]?=some (.cells #[.int .i64 th,.int .i64 k,.int .i64 n] 28 (0,0))):=(b5.block K (lt_of_block HB4.out)).trans HB4.out;obtain⟨f0,f1,f2⟩:=cc.out w5 HB5.out)|(go_at_call 32;(with_reducible refine Calls.mono WN.out ?_);rintro e w4 ⟨rfl,b4,XW,h4,lw4⟩;have HB4:Aside (w4.heap[K]?=some (.cells #[.int .i64 th,.int .i64 k,.int .i64 n] 28 (0,0))):=(b4.block K (lt_of_block HB3.out)).trans HB3.out;obtain⟨e0,e1,e2⟩:=cc.out w4 HB4.out)))
 have FIN:Aside (∃D F,Value.pointer (some ⟨w5.heap.size,0,none⟩)=pt D.B/\Co (w5.alloc (.cells #[.int .i64 th,.int .i64 k,.int .i64 n,.pointer (some ⟨Bt,0,none⟩),.pointer (some ⟨A.B,0,none⟩),.pointer (some ⟨w3.heap.size+1,0,none⟩),.pointer (some ⟨Bd,0,none⟩),.pointer (some ⟨a2,0,none⟩),.int .u64 0,.bool false,.slice none 0 0,.slice none 0 0] 69)) (K+1) D F (.slice none 0 0) (.slice none 0 0) (newS th k n)/\Below K w (w5.alloc (.cells #[.int .i64 th,.int .i64 k,.int .i64 n,.pointer (some ⟨Bt,0,none⟩),.pointer (some ⟨A.B,0,none⟩),.pointer (some ⟨w3.heap.size+1,0,none⟩),.pointer (some ⟨Bd,0,none⟩),.pointer (some ⟨a2,0,none⟩),.int .u64 0,.bool false,.slice none 0 0,.slice none 0 0] 69))/\w.heap.size<=D.wb):=by
  have z2:=C2.out.2.1;have z3:=T3.out.2.bel;have b4':Below w3.heap.size w3 w4:=(Below.refl w3.heap.size w3).drew.trans b4;have b6:=belA w5 (.cells #[.int .i64 th,.int .i64 k,.int .i64 n,.pointer (some ⟨Bt,0,none⟩),.pointer (some ⟨A.B,0,none⟩),.pointer (some ⟨w3.heap.size+1,0,none⟩),.pointer (some ⟨Bd,0,none⟩),.pointer (some ⟨a2,0,none⟩),.int .u64 0,.bool false,.slice none 0 0,.slice none 0 0] 69);have y5:Below w4.heap.size w4 _:=belT b5 b6;have y4:Below w3.heap.size w3 _:=belT b4' y5;have y3:Below w2.heap.size w2 _:=belT z3 y4;have y2:Below w1.heap.size w1 _:=belT z2 y3;have y1:Below w.heap.size w _:=belT B1.out.1 y2;have hK1:=B1.out.2.2;have hA:=HA2.out;have s2:=C2.out.2.2;refine⟨⟨w5.heap.size,Bt,w3.heap.size+1,w3.heap.size,Bd,a2,w1.heap.size+1,w1.heap.size,A⟩,_,rfl,new_co (s1:=w1.heap.size) (s2:=w2.heap.size) (s3:=w3.heap.size) (s4:=w4.heap.size) (s5:=w5.heap.size) (q1'.out.below y2) (fun j hj=>qf_lt q1'.out hj) ?_ ?_ (T3.out.1.below y4) ?_ (h4.below y5) ?_ (g5.below b6) ?_ (heap_alloc_new w5 _) rfl hK1 z2.size z3.size b4'.size b5.size (Nat.le_trans hK1 y2.size) y4.size HH.out.1 HH.out.2.1 HH.out.2.2.1,?_⟩
  ·have c2a:Ca.Cr w2 a2 (w1.heap.size+1) w1.heap.size n 0 0:=by rw[<-hA];exact C2.out.1
   exact c2a.grew y3
  ·rintro j (h|h|h)
   ·have h:j=a2:=h;omega
   ·have h:j=w1.heap.size+1:=h;omega
   ·have h:j=w1.heap.size:=h;omega
  ·exact fun j hj=>⟨T3.out.2.low j hj,T3.out.1.lt hj⟩
  ·exact fun j hj=>⟨lw4 j hj,(h4.low j hj).2⟩
  ·exact fun j hj=>⟨lw5 j hj,g5.lt hj⟩
  ·rw[<-US.out.2.1];refine⟨y1,?_⟩;show w.heap.size<=w3.heap.size;have s1:=B1.out.1.size;have s3:=z2.size;have s4:=z3.size;omega
 clear d0 d1 d2 e0 e1 e2 f0 f1 f2 b4 h4 lw4 g5 lw5 b5
 go_wp2_with fail
 go_ret2;obtain⟨D,F,q1,q2,q3,q4⟩:=FIN.out;exact⟨D,F,congrArg (fun z=>Ending.returned (.tuple #[z,.int .i64 0])) q1,q2,q3,by rw[<-US.out.2.1];exact q4⟩
theorem newC(th k n:Nat)(w:World)(t1:1<=th)(t8:th<=8)(k16:k<=16)(n1:1<=n)(n64:n<=64) :
  Calls prog 14 #[.agg #[.int .i64 th,.int .i64 k,.int .i64 n]] w fun e w'=>∃D F,e=.returned (.tuple #[pt D.B,.int .i64 0])/\Co w' (w.heap.size+1) D F (.slice none 0 0) (.slice none 0 0) (newS th k n)/\Below w.heap.size w w':=by
 refine(newC2 th k n w t1 t8 k16 n1 n64).mono ?_;rintro e w' ⟨D,F,rfl,C,b,_⟩;exact⟨D,F,rfl,C,b⟩
section
variable {w w' u:World}{L i:Nat}{D:CAd}{F F':Nat->Nat->Prop}{g v:Value}{σ:CS}{x:Ta.TR}
def JbOk(f p d rr R:Int):Prop:=(p=0/\R=0)\/(Ta.IsT f/\Ta.IsT p/\Ta.IsT d/\p>0/\Ta.Tk.okJ f p d=true/\R=rr)
theorem Co.makeC(C:Co w L D F g v σ)(hl:σ.T.length<200)(prio f p d rr R m s:Int)(hm:Ta.mayB prio s=true)(hj:JbOk f p d rr R) :
  Calls prog 42 #[pt D.Bt,.int .i64 prio,.slice none 0 0,.agg #[.int .u64 f,.int .u64 p,.int .u64 d,.int .u64 rr,.int .u64 m],.int .i64 s] w fun e w'=>e=.returned (.tuple #[.int .i64 ((σ.T.length:Int)+1),.int .i64 0])/\Cox L D F w {σ with T:=σ.T++[Ta.mkT prio f p d R m s]} w':=by
 rcases hj with⟨rfl,rfl⟩|⟨h1,h2,h3,h4,h5,rfl⟩
 ·refine(Ta.makeT C.tab prio f d rr m s hm hl).mono ?_;rintro e w' ⟨rfl,X',h,s⟩;obtain⟨C',G'⟩:=C.setTab h s;exact⟨rfl,_,_,_,C',G'⟩
 ·refine(Ta.makeP C.tab prio f p d _ m s hm hl h1 h2 h3 h4 h5).mono ?_;rintro e w' ⟨rfl,X',h,s⟩;obtain⟨C',G'⟩:=C.setTab h s;exact⟨rfl,_,_,_,C',G'⟩
def mkS(σ:CS)(x:Ta.TR):CS:=tellS {σ with T:=σ.T++[x]} 1 (-1) ((σ.T.length:Int)+1) 0
theorem mq_job:¬Qu.MQ 61:=by unfold Qu.MQ;decide
theorem begin_by(C:Co w L D F g v σ)(t:Int)(hl:σ.T.length<200)(he:σ.ev.length<1000000)(prio f p d rr R m s:Int)(hm:Ta.mayB prio s=true)(hj:JbOk f p d rr R){σ':CS}
  (hf:∀F1 g1 v1 w1,Co w1 L D F1 g1 v1 (mkS σ (Ta.mkT prio f p d R m s))->Calls prog 44 #[pt D.B,.int .i64 t,.int .i64 ((σ.T.length:Int)+1),.agg #[.int .i64 0,.int .i64 s]] w1 fun e w'=>e=.returned (.tuple #[])/\Cox L D F1 w1 σ' w') :
  Calls prog 21 #[pt D.B,.int .i64 t,.int .i64 prio,.slice none 0 0,.agg #[.int .u64 f,.int .u64 p,.int .u64 d,.int .u64 rr,.int .u64 m],.int .i64 s] w fun e w'=>e=.returned (.int .i64 ((σ.T.length:Int)+1))/\Cox L D F w σ' w':=by
 obtain⟨K,hK⟩:∃J,w.heap.size=J:=⟨_,rfl⟩;obtain⟨u,hu⟩:∃z,w.alloc (.cells #[.int .u64 f,.int .u64 p,.int .u64 d,.int .u64 rr,.int .u64 m] 61)=z:=⟨_,rfl⟩;have b0:Below w.heap.size w u.drew:=by rw[<-hu];exact(belA _ _).drew
 have BK:Bx u.drew F K #[.int .u64 f,.int .u64 p,.int .u64 d,.int .u64 rr,.int .u64 m] 61:=by rw[<-hu,<-hK];exact Bx.new C _ _
 have C0:=C.below b0;have c3:u.drew.cell? ⟨D.B,3,none⟩=some (pt D.Bt):=C0.c3;have k0:u.drew.cell? ⟨K,0,none⟩=some (.int .u64 f):=BK.cell 0;have k1:u.drew.cell? ⟨K,1,none⟩=some (.int .u64 p):=BK.cell 1;have k2:u.drew.cell? ⟨K,2,none⟩=some (.int .u64 d):=BK.cell 2;have k3:u.drew.cell? ⟨K,3,none⟩=some (.int .u64 rr):=BK.cell 3;have k4:u.drew.cell? ⟨K,4,none⟩=some (.int .u64 m):=BK.cell 4;obtain⟨N1,hN1⟩:∃N1,(σ.T.length:Int)+1=N1:=⟨_,rfl⟩
 have PC:Aside (Calls prog 42 #[pt D.Bt,.int .i64 prio,.slice none 0 0,.agg #[.int .u64 f,.int .u64 p,.int .u64 d,.int .u64 rr,.int .u64 m],.int .i64 s] u.drew fun e w'=>e=.returned (.tuple #[.int .i64 N1,.int .i64 0])/\∃F',(∃g' v',Co w' L D F' g' v' {σ with T:=σ.T++[Ta.mkT prio f p d R m s]})/\Gc L F u.drew F' w'/\w'.cell? ⟨D.B,3,none⟩=some (pt D.Bt)/\w'.cell? ⟨K,0,none⟩=some (.int .u64 f)/\w'.cell? ⟨K,1,none⟩=some (.int .u64 p)/\w'.cell? ⟨K,2,none⟩=some (.int .u64 d)/\w'.cell? ⟨K,3,none⟩=some (.int .u64 rr)/\w'.cell? ⟨K,4,none⟩=some (.int .u64 m)):=by
  have:=C0.makeC hl prio f p d rr R m s hm hj;rw[hN1] at this;refine this.mono ?_;rintro e w' ⟨rfl,F4,g4,v4,C4,G4⟩;have B4:=BK.gc mq_job G4;exact⟨rfl,F4,⟨g4,v4,C4⟩,G4,C4.c3,B4.cell 0,B4.cell 1,B4.cell 2,B4.cell 3,B4.cell 4⟩
 have X0:Aside (Gc L F w F u.drew/\σ.ev.length<1000000):=⟨Gc.below F C.lw b0,he⟩;have HF:Aside (∀F1 g1 v1 w1,Co w1 L D F1 g1 v1 (mkS σ (Ta.mkT prio f p d R m s))->Calls prog 44 #[pt D.B,.int .i64 t,.int .i64 N1,.agg #[.int .i64 0,.int .i64 s]] w1 fun e w'=>e=.returned (.tuple #[])/\Cox L D F1 w1 σ' w'):=by rw[<-hN1];exact hf
 rw[hN1];have HN1:Aside _:=hN1;have HU:Aside _:=hu;have HK:Aside _:=hK;clear C C0 hu hK BK b0 hl hm hj hf hN1 he;go_enter func21,ntmps21
 go_upto_region 1 with fail
 rw[HU.out];try simp only[HK.out]
 go_region_held3 (fun w'=>w'.cell? ⟨D.B,3,none⟩=some (pt D.Bt)/\w'.cell? ⟨K,0,none⟩=some (.int .u64 f)/\w'.cell? ⟨K,1,none⟩=some (.int .u64 p)/\w'.cell? ⟨K,2,none⟩=some (.int .u64 d)/\w'.cell? ⟨K,3,none⟩=some (.int .u64 rr)/\w'.cell? ⟨K,4,none⟩=some (.int .u64 m)) (first|with_reducible exact⟨c3,k0,k1,k2,k3,k4⟩|with_reducible exact⟨d3,e0,e1,e2,e3,e4⟩) ((go_at_call 42;(with_reducible refine Calls.mono PC.out ?_);rintro e w1 ⟨rfl,F1,⟨g1,v1,C1⟩,G1,d3,e0,e1,e2,e3,e4⟩))
 clear c3 k0 k1 k2 k3 k4 d3 e0 e1 e2 e3 e4;have P:=tellC C1 X0.out.2 1 (-1) N1 0;have X1:Aside (Gc L F w F1 w1):=X0.out.1.trans G1;clear C1 G1
 go_wp2_with fail
 refine P.mono ?_;rintro e w2 ⟨rfl,⟨F2,g2,v2,C2,G2⟩,_⟩;clear P
 have C2':Co w2 L D F2 g2 v2 (mkS σ (Ta.mkT prio f p d R m s)):=by
  unfold mkS;rw[HN1.out];exact C2
 have P:=HF.out F2 g2 v2 w2 C2';have X2:Aside (Gc L F w F2 w2):=X1.out.trans G2;clear C2 C2' G2 X1
 go_wp2_with fail
 refine P.mono ?_;rintro e w3 ⟨rfl,F3,g3,v3,C3,G3⟩;have FIN:Aside (Cox L D F w σ' w3):=⟨F3,g3,v3,C3,X2.out.trans G3⟩;clear P C3 G3 X2
 go_wp2_with fail
 go_ret;exact⟨rfl,FIN.out⟩
theorem mkS_at(σ:CS)(x:Ta.TR):(mkS σ x).T[σ.T.length]?=some x:=by
 show(σ.T++[x])[σ.T.length]?=some x;simp
theorem mayB_of{prio s:Int}(h0:0<=prio)(h7:prio<=7)(hs:s=1\/s=2\/s=6):Ta.mayB prio s=true:=by
 rcases hs with rfl|rfl|rfl<;>simp[Ta.mayB,h0,h7]<;>decide
theorem begin2(C:Co w L D F g v σ){t:Nat}(ht:t<σ.th)(hl:σ.T.length<200)(he:σ.ev.length+1<1000000)(hn:σ.qn<=1000)(htk:σ.tk<1000000)(prio f p d rr R m:Int)(h0:0<=prio)(h7:prio<=7)(hj:JbOk f p d rr R) :
  Calls prog 21 #[pt D.B,.int .i64 t,.int .i64 prio,.slice none 0 0,.agg #[.int .u64 f,.int .u64 p,.int .u64 d,.int .u64 rr,.int .u64 m],.int .i64 2] w fun e w'=>e=.returned (.int .i64 ((σ.T.length:Int)+1))/\Cox L D F w (relS (mkS σ (Ta.mkT prio f p d R m 2)) t σ.T.length (Ta.mkT prio f p d R m 2)) w':=by
 refine begin_by C t hl (by omega) prio f p d rr R m 2 (mayB_of h0 h7 (.inr (.inl rfl))) hj (fun F1 g1 v1 w1 C1=>?_);refine follow_02 D.B t ((σ.T.length:Int)+1) w1 (fun w2 b2=>?_);refine(relC (C1.below b2) (by show(σ.ev++[_]).length<_;simp;omega) hn htk ht (mkS_at σ _)).mono ?_;rintro e w3 ⟨rfl,F3,g3,v3,C3,G3⟩;exact⟨rfl,F3,g3,v3,C3,(Gc.below F1 C1.lw b2).trans G3⟩
theorem begin1(C:Co w L D F g v σ)(t:Int)(hl:σ.T.length<200)(he:σ.ev.length<1000000)(prio f p d rr R m:Int)(h0:0<=prio)(h7:prio<=7)(hj:JbOk f p d rr R) :
  Calls prog 21 #[pt D.B,.int .i64 t,.int .i64 prio,.slice none 0 0,.agg #[.int .u64 f,.int .u64 p,.int .u64 d,.int .u64 rr,.int .u64 m],.int .i64 1] w fun e w'=>e=.returned (.int .i64 ((σ.T.length:Int)+1))/\Cox L D F w (mkS σ (Ta.mkT prio f p d R m 1)) w':=by
 refine begin_by C t hl he prio f p d rr R m 1 (mayB_of h0 h7 (.inl rfl)) hj (fun F1 g1 v1 w1 C1=>?_);refine(follow_no D.B t ((σ.T.length:Int)+1) w1).mono ?_;rintro e w2 ⟨rfl,b2⟩;exact⟨rfl,C1.xb b2⟩
theorem threadC(C:Co w L D F g v σ){t:Nat}(ht:t<σ.th) :
  Calls prog 37 #[pt D.B,.int .i64 t] w fun e w'=>e=.returned (.bool true)/\w'=w:=by
 have c0:=C.c0;have h1:(t:Int)<(σ.th:Int):=by omega
 have h2:(0:Int)<=(t:Int):=by omega
 clear C ht;go_enter func37,ntmps37
 go_wp2_with fail
 go_ret;exact⟨rfl,rfl⟩
theorem rightC(C:Co w L D F g v σ){t:Nat}(ht:t<σ.th)(prio:Int)(h0:0<=prio)(h7:prio<=7) :
  Calls prog 17 #[pt D.B,.int .i64 t,.int .i64 prio,.slice none 0 0] w fun e w'=>e=.returned (.bool true)/\w'=w:=by
 have P:=threadC C ht;have Q:=Ta.bodyOk_nil w;clear C ht;go_enter func17,ntmps17
 go_wp2_with fail
 refine P.mono ?_;rintro e w1 ⟨rfl,rfl⟩;clear P
 go_wp2_with fail
 refine Q.mono ?_;rintro e w1 ⟨rfl,rfl⟩;clear Q
 go_wp2_with fail
 go_ret;exact⟨rfl,rfl⟩
theorem refuseC(C:Co w L D F g v σ)(hc:σ.cl=false)(hl:σ.T.length<200) :
  Calls prog 16 #[pt D.B,.bool true] w fun e w'=>e=.returned (.int .i64 0)/\w'=w:=by
 have c9:=C.c9;have c3:=C.c3;have P:=Ta.lenT C.tab;rw[hc] at c9;have hl':¬(200:Int)<=(σ.T.length:Int):=by omega
 obtain⟨N,hN⟩:∃N,σ.T.length=N:=⟨_,rfl⟩;rw[hN] at P hl';clear C hc hl hN;go_enter func16,ntmps16
 go_wp2_with fail
 refine P.mono ?_;rintro e w1 ⟨rfl,rfl⟩;clear P
 go_wp2_with fail
 go_ret;exact⟨rfl,rfl⟩
theorem areNil(B:Nat)(w:World):Calls prog 18 #[pt B,.slice none 0 0] w fun e w'=>e=.returned (.bool true)/\w'=w:=by
 go_enter func18,ntmps18
 go_wp2_with fail
 go_loopw [6,9] (fun s6 s9 wr=>s9=.int .i64 0/\wr=w) (fun s6 s9 _=>0)
 case atStart=>exact⟨rfl,rfl⟩
 case round=>
  obtain⟨rfl,rfl⟩:=hrel
  go_wp2_with fail
  go_ret;exact⟨rfl,rfl⟩
theorem indNil(w:World)(fn:Value):Calls prog 40 #[.slice none 0 0,fn] w fun e w'=>e=.returned (.int .i64 (-1))/\w'=w:=by
 go_enter func40,ntmps40
 go_wp2_with fail
 go_loopw [8] (fun s7 wr=>s7=.int .i64 0/\wr=w) (fun s7 _=>0)
 case atStart=>exact⟨rfl,rfl⟩
 case round=>
  obtain⟨rfl,rfl⟩:=hrel
  go_wp2_with fail
  go_ret;exact⟨rfl,rfl⟩
theorem contNil(w:World)(fn:Value):Calls prog 19 #[.slice none 0 0,fn] w fun e w'=>e=.returned (.bool false)/\w'=w:=by
 go_enter func19,ntmps19
 go_wp2_with fail
 refine(indNil w fn).mono ?_;rintro e w1 ⟨rfl,rfl⟩
 go_wp2_with fail
 go_ret;exact⟨rfl,rfl⟩
theorem notNil(B:Nat)(w:World):Calls prog 23 #[pt B,.slice none 0 0] w fun e w'=>e=.returned (.slice none 0 0)/\w'=w:=by
 go_enter func23,ntmps23
 go_wp2_with fail
 go_loopw [5,7,10] (fun s5 s7 s10 wr=>s5=.slice none 0 0/\s10=.int .i64 0/\wr=w) (fun s5 s7 s10 _=>0)
 case atStart=>exact⟨rfl,rfl,rfl⟩
 case round=>
  obtain⟨rfl,rfl,rfl⟩:=hrel
  go_wp2_with fail
  go_ret;exact⟨rfl,rfl⟩
end
section
variable {w w' u:World}{L i:Nat}{D:CAd}{F F':Nat->Nat->Prop}{g v:Value}{σ:CS}{x:Ta.TR}
def crS(σ:CS):CS:={σ with o:=σ.o+1,m:=max σ.m (σ.o+1)}
def subS(σ:CS)(t:Nat)(prio:Int):CS:=relS (mkS (crS σ) (Ta.mkT prio 0 0 0 0 0 2)) t σ.T.length (Ta.mkT prio 0 0 0 0 0 2)
theorem jb0(f d rr:Int):JbOk f 0 d rr 0:=.inl ⟨rfl,rfl⟩
theorem subC(C:Co w L D F g v σ){t:Nat}(ht:t<σ.th)(hc:σ.cl=false)(hl:σ.T.length<200)(ho:σ.o<σ.n)(he:σ.ev.length+1<1000000)(hn:σ.qn<=1000)(htk:σ.tk<1000000)(prio:Int)(h0:0<=prio)(h7:prio<=7) :
  Calls prog 7 #[pt D.B,.int .i64 t,.int .i64 prio,.slice none 0 0,.slice none 0 0] w fun e w'=>e=.returned (.tuple #[.int .i64 ((σ.T.length:Int)+1),.int .i64 0])/\Cox L D F w (subS σ t prio) w':=by
 have P1:=rightC C ht prio h0 h7;have P2:=areNil D.B w;have P3:=refuseC C hc hl;have c7:=C.c7;have P4:=C.credC ho;have HH:Aside (t<σ.th/\σ.T.length<200/\σ.ev.length+1<1000000/\σ.qn<=1000/\σ.tk<1000000/\0<=prio/\prio<=7):=⟨ht,hl,he,hn,htk,h0,h7⟩;obtain⟨N1,hN1⟩:∃N1,(σ.T.length:Int)+1=N1:=⟨_,rfl⟩;have HN1:Aside _:=hN1;rw[hN1];clear C ht hl he hn htk h0 h7 hc ho hN1;go_enter func7,ntmps7
 go_wp2_with fail
 refine P1.mono ?_;rintro e w1 ⟨rfl,rfl⟩;clear P1
 go_wp2_with fail
 refine P2.mono ?_;rintro e w1 ⟨rfl,rfl⟩;clear P2
 go_wp2_with fail
 refine P3.mono ?_;rintro e w1 ⟨rfl,rfl⟩;clear P3
 go_wp2_with fail
 refine(contNil _ _).mono ?_;rintro e w1 ⟨rfl,rfl⟩
 go_wp2_with fail
 refine P4.mono ?_;rintro e w2 ⟨rfl,F2,g2,v2,C2,G2⟩;clear P4 c7;have X2:Aside (Gc L F w1 F2 w2):=G2;have P5:=begin2 C2 (t:=t) HH.out.1 HH.out.2.1 HH.out.2.2.1 HH.out.2.2.2.1 HH.out.2.2.2.2.1 prio 0 0 0 0 0 0 HH.out.2.2.2.2.2.1 HH.out.2.2.2.2.2.2 (jb0 0 0 0);rw[show(({σ with o:=σ.o+1,m:=max σ.m (σ.o+1)}:CS).T.length:Int)+1=N1 from HN1.out] at P5;clear C2 G2
 go_wp2_with fail
 refine(notNil D.B _).mono ?_;rintro e w3 ⟨rfl,rfl⟩
 go_wp2_with fail
 refine P5.mono ?_;rintro e w4 ⟨rfl,F4,g4,v4,C4,G4⟩;have FIN:Aside (Cox L D F w1 (subS σ t prio) w4):=⟨F4,g4,v4,C4,X2.out.trans G4⟩;clear P5 C4 G4
 go_wp2_with fail
 go_ret2;exact⟨rfl,FIN.out⟩
theorem taskC(C:Co w L D F g v σ)(hi:σ.T[i]?=some x)(hs:x.s≠0) :
  Calls prog 39 #[pt D.B,.int .i64 ((i:Int)+1)] w fun e w'=>e=.returned (.bool true)/\Cox L D F w σ w':=by
 have P:=statusC C hi;obtain⟨s,hs'⟩:∃s,x.s=s:=⟨_,rfl⟩;rw[hs'] at P hs;have hb:(s != 0)=true:=by simpa using hs
 clear C hi hs' hs;go_enter func39,ntmps39
 go_wp2_with fail
 refine P.mono ?_;rintro e w1 ⟨rfl,C1⟩;have FIN:Aside _:=C1;clear P C1
 go_wp2_with fail
 go_ret;exact⟨rfl,FIN.out⟩
theorem turn34(C:Co w L D F g v σ){t:Nat}(ht:t<σ.th)(hi:σ.T[i]?=some x)(hs:x.s=3)(hp:0<=x.p)(hid:Da.wfI ((i:Int)+1))(hN:σ.N<1000000)(hl:σ.ev.length+300<1000000)(hT:σ.T.length<=200)(hq:σ.qn+σ.T.countP isW<=1000)(htk:σ.tk<1000000)(hw:∀j,σ.E ((i:Int)+1) j->(∀q,σ.E q j->q=(i:Int)+1)->Wt σ.T j) :
  Calls prog 116 #[pt D.B,.int .i64 t,.int .i64 ((i:Int)+1),.int .i64 4] w fun e w'=>e=.returned (.tuple #[])/\∃d,DoneL σ.E ((i:Int)+1) d/\Cox L D F w (relL t d {endS (turnS σ i x 4) t ((i:Int)+1) with E:=fun q j=>σ.E q j/\q≠(i:Int)+1}) w':=by
 refine(turn_byZ C t hi hs hp (by decide) (Z:=fun τ=>∃d,DoneL σ.E ((i:Int)+1) d/\τ=relL t d {endS (turnS σ i x 4) t ((i:Int)+1) with E:=fun q j=>σ.E q j/\q≠(i:Int)+1}) (fun F1 g1 v1 w1 C1=>?_)).mono ?_
 ·refine follow_34 D.B t ((i:Int)+1) w1 (fun w2 b2=>?_)
  have hx:σ.T.countP isW=(σ.T.set i (turnX x 4)).countP isW:=by
   have:=Ta.cntP_set isW σ.T i x (turnX x 4) hi;have e1:isW x=false:=by simp[isW,hs]
   have e2:isW (turnX x 4)=false:=by simp[isW,(turnX_key x 4).2.2.1]
   rw[e1,e2] at this;simpa using this.symm
  refine(endC (C1.below b2) ht hid hN hl (by show(σ.T.set i _).length<=200;simpa using hT) (by show σ.qn+(σ.T.set i _).countP isW<=1000;rw[<-hx];exact hq) htk (fun j h1 h2=>?_)).mono ?_
  ·obtain⟨k,y,e1,e2,e3,e4⟩:=hw j h1 h2;refine⟨k,y,e1,?_,e3,e4⟩;show(σ.T.set i _)[k]?=some y;rw[List.getElem?_set_ne (fun e=>?_)]
   ·exact e2
   ·rw[<-e,hi] at e2;injection e2 with e2
    rw[e2] at hs;omega
  ·rintro e w3 ⟨rfl,d,dl,F3,g3,v3,C3,G3⟩;exact⟨rfl,_,⟨d,dl,rfl⟩,F3,g3,v3,C3,(Gc.below F1 C1.lw b2).trans G3⟩
 ·rintro e w' ⟨rfl,τ,⟨d,dl,rfl⟩,X⟩;exact⟨rfl,d,dl,X⟩
theorem claimC(C:Co w L D F g v σ){t:Nat}(ht:t<σ.th)(hi:σ.T[i]?=some x)(hs:x.s=2)(hp:0<=x.p)(hl:σ.ev.length<1000000)(hn:σ.qn<=1000)(htk:σ.tk<1000000) :
  Calls prog 81 #[pt D.B,.int .i64 t,.agg #[.int .u64 x.key,.int .i64 ((i:Int)+1)]] w fun e w'=>e=.returned (.int .i64 0)/\Cox L D F w (handS (turnS σ i x 3) t i (turnX x 3)) w':=by
 obtain⟨K,hK⟩:∃J,w.heap.size=J:=⟨_,rfl⟩;obtain⟨KY,hKY⟩:∃J,x.key=J:=⟨_,rfl⟩;obtain⟨I1,hI1⟩:∃J,(i:Int)+1=J:=⟨_,rfl⟩;obtain⟨u,hu⟩:∃z,w.alloc (.cells #[.int .u64 KY,.int .i64 I1] 35)=z:=⟨_,rfl⟩;have b0:Below w.heap.size w u:=by rw[<-hu];exact belA _ _
 have BK:Bx u F K #[.int .u64 KY,.int .i64 I1] 35:=by rw[<-hu,<-hK];exact Bx.new C _ _
 have C0:=C.below b0;have P1:=threadC C0 ht;have P2:=taskC C0 hi (by omega);rw[hI1] at P2;have k1:u.cell? ⟨K,1,none⟩=some (.int .i64 I1):=BK.cell 1;have HH:Aside (t<σ.th/\σ.T[i]?=some x/\x.s=2/\0<=x.p/\σ.ev.length<1000000/\σ.qn<=1000/\σ.tk<1000000/\x.key=KY/\(i:Int)+1=I1):=⟨ht,hi,hs,hp,hl,hn,htk,hKY,hI1⟩;have X0:Aside (Gc L F w F u/\Bx u F K #[.int .u64 KY,.int .i64 I1] 35):=⟨Gc.below F C.lw b0,BK⟩;have HU:Aside _:=hu;have HK:Aside _:=hK;rw[hKY,hI1];clear C C0 ht hi hs hp hl hn htk hKY hI1 hu hK BK b0;go_enter func81,ntmps81
 go_upto_region 1 with fail
 rw[HU.out];try simp only[HK.out]
 go_wp2_with fail
 refine P1.mono ?_;rintro e w1 ⟨rfl,rfl⟩;clear P1
 go_wp2_with fail
 refine P2.mono ?_;rintro e w2 ⟨rfl,F2,g2,v2,C2,G2⟩;clear P2 k1;have B2:=X0.out.2.gc mq_ent G2;have X2:Aside (Gc L F w F2 w2.drew/\Bx w2.drew F2 K #[.int .u64 KY,.int .i64 I1] 35):=⟨(X0.out.1.trans G2).trans (Gc.below F2 C2.lw (Below.refl _ _).drew),B2⟩;have k0:w2.drew.cell? ⟨K,0,none⟩=some (.int .u64 KY):=B2.cell 0;have k1:w2.drew.cell? ⟨K,1,none⟩=some (.int .i64 I1):=B2.cell 1
 have PS:Aside (Calls prog 9 #[pt D.B,.int .i64 I1] w2.drew fun e w'=>e=.returned (.int .i64 2)/\∃F',(∃g' v',Co w' L D F' g' v' σ)/\Gc L F w F' w'/\Bx w' F' K #[.int .u64 KY,.int .i64 I1] 35/\w'.cell? ⟨K,0,none⟩=some (.int .u64 KY)/\w'.cell? ⟨K,1,none⟩=some (.int .i64 I1)):=by
  have:=statusC C2.drew HH.out.2.1;rw[HH.out.2.2.1,HH.out.2.2.2.2.2.2.2.2] at this;refine this.mono ?_;rintro e w' ⟨rfl,F4,g4,v4,C4,G4⟩;have B4:=X2.out.2.gc mq_ent G4;exact⟨rfl,F4,⟨g4,v4,C4⟩,X2.out.1.trans G4,B4,B4.cell 0,B4.cell 1⟩
 have PE:Aside (∀(W:World) F3 g3 v3,Co W L D F3 g3 v3 σ->Gc L F w F3 W->Bx W F3 K #[.int .u64 KY,.int .i64 I1] 35->Calls prog 115 #[pt D.B,.int .i64 I1] W fun e w'=>e=.returned (.agg #[.int .u64 KY,.int .i64 I1])/\∃F',(∃g' v',Co w' L D F' g' v' σ)/\Gc L F w F' w'/\Bx w' F' K #[.int .u64 KY,.int .i64 I1] 35/\w'.cell? ⟨K,0,none⟩=some (.int .u64 KY)/\w'.cell? ⟨K,1,none⟩=some (.int .i64 I1)):=by
  intro W F3 g3 v3 C3 G3 B3;have:=entryC C3 HH.out.2.1;rw[HH.out.2.2.2.2.2.2.2.1,HH.out.2.2.2.2.2.2.2.2] at this;refine this.mono ?_;rintro e w' ⟨rfl,F4,g4,v4,C4,G4⟩;have B4:=B3.gc mq_ent G4;exact⟨rfl,F4,⟨g4,v4,C4⟩,G3.trans G4,B4,B4.cell 0,B4.cell 1⟩
 clear C2 G2 B2;go_upto_region 3 with fail
 go_region_held3 (fun w'=>w'.cell? ⟨K,0,none⟩=some (.int .u64 KY)/\w'.cell? ⟨K,1,none⟩=some (.int .i64 I1)) (first|with_reducible exact⟨k0,k1⟩|with_reducible exact⟨e0,e1⟩|with_reducible exact⟨f0,f1⟩) ((first|(go_at_call 115;(with_reducible refine Calls.mono (PE.out w3 F3 g3 v3 C3 G3 B3) ?_);rintro e w4 ⟨rfl,F4,⟨g4,v4,C4⟩,G4,B4,f0,f1⟩)|(go_at_call 9;(with_reducible refine Calls.mono PS.out ?_);rintro e w3 ⟨rfl,F3,⟨g3,v3,C3⟩,G3,B3,e0,e1⟩)))
 have P:=turn23 C4 HH.out.2.2.2.2.1 HH.out.2.2.2.2.2.1 HH.out.2.2.2.2.2.2.1 t HH.out.2.1 HH.out.2.2.1 HH.out.2.2.2.1;rw[HH.out.2.2.2.2.2.2.2.2] at P;have X4:Aside (Gc L F w F4 w4):=G4;have flt:=lt_of_block B4.1;clear C3 G3 B3 C4 G4 B4 k0 k1 e0 e1 f0
 go_wp2_with fail
 refine P.mono ?_;rintro e w5 ⟨rfl,F5,g5,v5,C5,G5⟩;have FIN:Aside (Cox L D F w (handS (turnS σ i x 3) t i (turnX x 3)) w5):=⟨F5,g5,v5,C5,X4.out.trans G5⟩;clear P C5 G5 X4 f1 flt
 go_wp2_with fail
 go_ret;exact⟨rfl,FIN.out⟩
end
section
variable {w w' u:World}{L i:Nat}{D:CAd}{F F':Nat->Nat->Prop}{g v:Value}{σ:CS}{x:Ta.TR}
theorem finC(C:Co w L D F g v σ){t:Nat}(ht:t<σ.th)(hi:σ.T[i]?=some x)(hs:x.s=3)(hp:x.p=0)(hid:Da.wfI ((i:Int)+1))(hN:σ.N<1000000)(hl:σ.ev.length+300<1000000)(hT:σ.T.length<=200)(hq:σ.qn+σ.T.countP isW<=1000)(htk:σ.tk<1000000)(hw:∀j,σ.E ((i:Int)+1) j->(∀q,σ.E q j->q=(i:Int)+1)->Wt σ.T j) :
  Calls prog 83 #[pt D.B,.int .i64 t,.int .i64 ((i:Int)+1),.bool true] w fun e w'=>e=.returned (.int .i64 0)/\∃d,DoneL σ.E ((i:Int)+1) d/\Cox L D F w (relL t d {endS (turnS σ i x 4) t ((i:Int)+1) with E:=fun q j=>σ.E q j/\q≠(i:Int)+1}) w':=by
 have P1:=threadC C ht;have P2:=taskC C hi (by omega);have P6:Aside (∀(W:World) F3 g3 v3,Co W L D F3 g3 v3 σ->Calls prog 116 #[pt D.B,.int .i64 t,.int .i64 ((i:Int)+1),.int .i64 4] W fun e w'=>e=.returned (.tuple #[])/\∃d,DoneL σ.E ((i:Int)+1) d/\Cox L D F3 W (relL t d {endS (turnS σ i x 4) t ((i:Int)+1) with E:=fun q j=>σ.E q j/\q≠(i:Int)+1}) w'):=fun W F3 g3 v3 C3=>turn34 C3 ht hi hs (by omega) hid hN hl hT hq htk hw;have HH:Aside (σ.T[i]?=some x/\x.s=3/\x.p=0):=⟨hi,hs,hp⟩;clear C ht hi hs hp hid hN hl hT hq htk hw;go_enter func83,ntmps83
 go_wp2_with fail
 refine P1.mono ?_;rintro e w1 ⟨rfl,rfl⟩;clear P1
 go_wp2_with fail
 refine P2.mono ?_;rintro e w2 ⟨rfl,F2,g2,v2,C2,G2⟩;clear P2;have P:=statusC C2 HH.out.1;rw[HH.out.2.1] at P;have X2:Aside (Gc L F w1 F2 w2):=G2;clear C2 G2
 go_wp2_with fail
 refine P.mono ?_;rintro e w3 ⟨rfl,F3,g3,v3,C3,G3⟩;clear P;have C3d:=C3.drew;have X3:Aside (Gc L F w1 F3 w3.drew/\Co w3.drew L D F3 g3 v3 σ):=⟨(X2.out.trans G3).trans (Gc.below F3 C3.lw (Below.refl _ _).drew),C3d⟩;have c3:w3.drew.cell? ⟨D.B,3,none⟩=some (pt D.Bt):=C3d.c3;have c5:w3.drew.cell? ⟨D.B,5,none⟩=some (pt D.Bw):=C3d.c5;have NW:Aside (Calls prog 73 #[pt D.Bw] w3.drew fun e w'=>e=.returned (.int .u64 σ.now)/\w'=w3.drew):=Wl.now_any C3d.whl
 have AG:Aside (Calls prog 118 #[pt D.Bt,.int .i64 ((i:Int)+1),.int .u64 σ.now] w3.drew fun e w'=>e=.returned (.tuple #[.int .u64 0,.bool false])/\Below w3.drew.heap.size w3.drew w'/\w'.cell? ⟨D.B,3,none⟩=some (pt D.Bt)/\w'.cell? ⟨D.B,5,none⟩=some (pt D.Bw)):=by
  refine(Ta.againZ C3d.tab HH.out.1 σ.now HH.out.2.2).mono ?_;rintro e w' ⟨rfl,b⟩;exact⟨rfl,b,(C3d.below b).c3,(C3d.below b).c5⟩
 clear C3 C3d G3 X2;go_upto_region 5 with fail
 go_region_held3 (fun w'=>w'.cell? ⟨D.B,3,none⟩=some (pt D.Bt)/\w'.cell? ⟨D.B,5,none⟩=some (pt D.Bw)) (first|with_reducible exact⟨c3,c5⟩|with_reducible exact⟨d3,d5⟩) ((first|(go_at_call 73;(with_reducible refine Calls.mono NW.out ?_);rintro e v2 ⟨rfl,rfl⟩)|(go_at_call 118;(with_reducible refine Calls.mono AG.out ?_);rintro e w4 ⟨rfl,b4,d3,d5⟩)))
 have C4:=X3.out.2.below b4;have P:=P6.out w4 F3 g3 v3 C4;have X4:Aside (Gc L F w1 F3 w4):=X3.out.1.trans (Gc.below F3 X3.out.2.lw b4);clear C4 b4 c3 c5 d3 d5
 go_wp2_with fail
 refine P.mono ?_;rintro e w5 ⟨rfl,d,dl,F5,g5,v5,C5,G5⟩;have FIN:Aside (∃d,DoneL σ.E ((i:Int)+1) d/\Cox L D F w1 (relL t d {endS (turnS σ i x 4) t ((i:Int)+1) with E:=fun q j=>σ.E q j/\q≠(i:Int)+1}) w5):=⟨d,dl,F5,g5,v5,C5,X4.out.trans G5⟩;clear P C5 G5 X4 dl
 go_wp2_with fail
 go_ret;exact⟨rfl,FIN.out⟩
end
end Go.Proofs.YtjpbngiddjkjiaaGreatDoor
