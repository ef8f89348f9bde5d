import Derived.Test.YtjpbngiddjkjiaaGreatDoorCoL
open Go.Proofs.Tryz
namespace Go.Proofs.YtjpbngiddjkjiaaGreatDoor
set_option maxHeartbeats 8000000
set_option maxRecDepth 100000
set_option linter.unusedVariables false
section
open Go.RowKit Go.Lib Go.WideMaps Go.Maps
variable {w w' u:World}{L i:Nat}{D:CAd}{F F':Nat->Nat->Prop}{g v:Value}{σ:CS}{x:Ta.TR}
def KillL(E:Da.Rel)(id:Int)(d:List Int):Prop:=Da.Up d/\∀j,j∈d↔Da.Rch E id j
def kilE(E:Da.Rel)(id:Int):Da.Rel:=fun q j=>E q j/\j≠id/\¬Da.Rch E id j
theorem Co.killC(C:Co w L D F g v σ)(hN:σ.N<100000){id:Int}(hi:Da.wfI id) :
  Calls prog 154 #[pt D.Bd,.int .i64 id] w fun e w'=>∃a n cap d F',e=.returned (.slice a n cap)/\d.length=n/\KillL σ.E id d/\Owb w.heap.size w' F' (.slice a n cap) d/\(∃g' v',Co w' L D F' g' v' {σ with E:=kilE σ.E id})/\Gc L F w F' w':=by
 refine(Da.killG C.dag hN hi).mono ?_;rintro e w' ⟨v',d,X',rfl,o,up,md,Dg',st,dis,_⟩;obtain⟨C',G'⟩:=C.setDag Dg' st;obtain⟨a,cap,e,_⟩:=o.isI;subst e;refine⟨a,_,cap,d,_,rfl,rfl,⟨up,md⟩,⟨o,fun k hk p hp=>?_⟩,⟨_,_,C'⟩,G'⟩;by_cases e:p=4
 ·subst e;rw[fset_same] at hp;exact dis k hk hp
 ·rw[fset_ne _ _ e] at hp;have:=C.fp.lt p k hp;have:=(o.rowLt hk).1;omega
theorem Owb.app{S:Nat}{w0:World}{F0:Nat->Nat->Prop}{v v0:Value}{d c:List Int}{a:Option Addr}{n cap:Nat}(o:Owb S w F v d)(oc:Ow w F (.slice a n cap) c)(hc:c.length=n)(C:Co w L D F g v0 σ)(G:Gc L F0 w0 F w)(hS:w0.heap.size<=S)(hS2:S<=w.heap.size)(hL:L<=w0.heap.size)(hd:d.length+c.length<=1000000) :
  ∃v' w',(Builtin.append_ #[49,49] 49 #[v,.slice a n cap]).run prog w=.ok v' w'/\
  Owb S w' F v' (d++c)/\Co w' L D F g v0 σ/\Gc L F0 w0 F w'/\Ta.Fr (fun k=>v.ownBlock=some k) w w'/\(∀k,v'.ownBlock=some k->v.ownBlock=some k\/w.heap.size<=k):=by
 subst hc;obtain⟨v',w',hr,o',gr,hn⟩:=Da.app_run o.1 oc.1.isIv hd hS2 49;have f':Ta.Fr (fun k=>v.ownBlock=some k) w w':=ofD (Da.Fr.of_grown gr);refine⟨v',w',hr,⟨o',fun k hk p hp=>?_⟩,C.frX f' (fun k hk=>⟨o.2 k hk,?_⟩),G.ownX (fun k hk=>Nat.le_trans hS (o.1.rowLt hk).1) hL f',f',hn⟩
 ·rcases hn k hk with e|e
  ·exact o.2 k e p hp
  ·have:=C.fp.lt p k hp;omega
 ·obtain⟨cs,hc⟩:=o.1.rowT hk;exact nq_of hc (by unfold QT;decide)
theorem Owb.one(C:Co w L D F g v σ)(x:Int){S:Nat}(hS:S<=w.heap.size):Owb S (w.alloc (.cells #[.int .i64 x] 3)) F (.slice (some ⟨w.heap.size,0,none⟩) 1 1) [x]:=
 ⟨Da.OwnI.one w x hS,fun k hk p hp=>by
  have:=C.fp.lt p k hp;injection hk with hk
  have hk:w.heap.size=k:=hk;omega⟩
def dropE(σ:CS)(id:Int):CS:={σ with E:=kilE σ.E id}
theorem kill_nodup{E:Da.Rel}{id:Int}{d:List Int}(h:KillL E id d)(hlt:∀p i,E p i->p<i):(id::d).Nodup:=by
 refine List.nodup_cons.2 ⟨fun hm=>?_,up_nodup h.1⟩;have:=Da.Rch.lt hlt ((h.2 id).1 hm);omega
theorem dropC(C:Co w L D F g v σ){id:Int}(hc:CanT σ.T id)(hN:σ.N<100000)(hw:∀j,Da.Rch σ.E id j->Wt σ.T j)(hl:σ.ev.length+300<1000000)(hT:σ.T.length<=200)(hq:σ.qn+σ.T.countP isC<=1000) :
  Calls prog 180 #[pt D.B,.int .i64 id] w fun e w'=>∃a n cap,e=.returned (.slice a n cap)/\∃d F',KillL σ.E id d/\n=d.length+1/\Owb w.heap.size w' F' (.slice a n cap) (id::d)/\(∃g' v',Co w' L D F' g' v' (canL (id::d) (dropE σ id)))/\Gc L F w F' w':=by
 have hwf:Da.wfI id:=wf_lt hc hT;obtain⟨S,hS⟩:∃S,w.heap.size=S:=⟨_,rfl⟩;obtain⟨u,hu⟩:∃z,w.alloc (.cells #[.int .i64 id] 3)=z:=⟨_,rfl⟩;have bu:Below w.heap.size w u:=by rw[<-hu];exact belA _ _
 have Cu:Co u L D F g v σ:=C.below bu;have c6:u.cell? ⟨D.B,6,none⟩=some (pt D.Bd):=Cu.c6;have ou:Owb S u F (.slice (some ⟨S,0,none⟩) 1 1) [id]:=by rw[<-hu,<-hS];exact Owb.one C id (Nat.le_refl _)
 have PK:Calls prog 154 #[pt D.Bd,.int .i64 id] u fun e w'=>∃a n cap d F' v' w'',e=.returned (.slice a n cap)/\d.length=n/\KillL σ.E id d/\(Builtin.append_ #[49,49] 49 #[.slice (some ⟨S,0,none⟩) 1 1,.slice a n cap]).run prog w'=.ok v' w''/\Owb S w'' F' v' (id::d)/\(∃g' v0,Co w'' L D F' g' v0 (dropE σ id))/\Gc L F w F' w'':=by
  refine(Cu.killC hN hwf).mono ?_;rintro e w' ⟨a,n,cap,d,F',h1,h2,h3,h4,⟨g',v',h5⟩,h6⟩
  have hdl:d.length<=200:=by
   have h1:=wt_len d σ.T (up_nodup h3.1) (fun j hj=>hw j ((h3.2 j).1 hj));have h2:=Ta.cntP_le isW σ.T;omega
  have G0:Gc L F w F' w':=(Gc.below F C.lw bu).trans h6;have o1:=ou.gc h6;obtain⟨v1,w1,hr,o3,C3,G3,_,_⟩:=o1.app h4.ow h2 h5 G0 (Nat.le_of_eq hS) (by rw[<-hS];exact G0.size) C.lw (by simp;omega);exact⟨a,n,cap,d,F',v1,w1,h1,h2,h3,hr,o3,⟨g',v',C3⟩,G3⟩
 have HH:Aside (CanT σ.T id/\(∀j,Da.Rch σ.E id j->Wt σ.T j)/\σ.ev.length+300<1000000/\σ.T.length<=200/\σ.qn+σ.T.countP isC<=1000/\∀p i,σ.E p i->p<i):=⟨hc,hw,hl,hT,hq,fun p i h=>(C.dag.ord p i h).2.1⟩;have HU:Aside _:=hu;have HS:Aside (w.heap.size=S):=hS;rw[hS];clear C Cu hu hS bu ou hc hN hw hl hT hq hwf;go_enter func180,ntmps180
 have cA:(w.alloc (.cells #[.int .i64 id] 3)).cell? ⟨D.B,6,none⟩=some (pt D.Bd):=by rw[HU.out];exact c6
 go_wp2_with fail
 rw[HU.out];try simp only[HS.out]
 clear cA;refine PK.mono ?_;rintro e w1 ⟨a,n,cap,d,F1,v1,w2,rfl,hd,kl,hr,o2,⟨g2,v2,C2⟩,G2⟩;clear PK c6;have nd:=kill_nodup kl HH.out.2.2.2.2.2
 have can:∀j∈id::d,CanT (dropE σ id).T j:=fun j hj=>by
  rcases List.mem_cons.1 hj with rfl|hj
  ·exact HH.out.1
  ·exact(HH.out.2.1 j ((kl.2 j).1 hj)).can
 have hlen:=can_len (id::d) σ.T nd can;obtain⟨a2,cap2,e2,_⟩:=o2.1.isI;subst e2;obtain⟨n2,hn2⟩:∃n2,(id::d).length=n2:=⟨_,rfl⟩;rw[hn2] at o2 hr;have P:=cancelAllC C2 hn2 o2.ow nd can (show σ.ev.length+300<1000000 from HH.out.2.2.1) (show σ.T.length<=200 from HH.out.2.2.2.1) (show σ.qn+n2<=1000 by have:=HH.out.2.2.2.2.1;omega);have HK:Aside (KillL σ.E id d/\n2=d.length+1):=⟨kl,by rw[<-hn2];rfl⟩;have X2:Aside (Gc L F w F1 w2/\Owb S w2 F1 (.slice a2 n2 cap2) (id::d)):=⟨G2,o2⟩;clear o2 C2 G2 nd can hlen kl hn2 hd
 go_wp2_with (at_builtin;refine Da.wpList_app _ rfl _ _ 49 rfl _ _ rfl rfl _ w2 hr ?_;clear hr)
 refine P.mono ?_;rintro e w3 ⟨rfl,F3,g3,v3,C3,G3⟩
 have FIN:Aside (∃a n cap,Ending.returned (.slice a2 n2 cap2)=.returned (.slice a n cap)/\∃d F',KillL σ.E id d/\n=d.length+1/\Owb S w3 F' (.slice a n cap) (id::d)/\(∃g' v',Co w3 L D F' g' v' (canL (id::d) (dropE σ id)))/\Gc L F w F' w3):=
  ⟨a2,n2,cap2,rfl,d,F3,HK.out.1,HK.out.2,X2.out.2.gc G3,⟨g3,v3,C3⟩,X2.out.1.trans G3⟩
 clear P C3 G3
 go_wp2_with fail
 go_ret;exact FIN.out
theorem cancelW(C:Co w L D F g v σ)(hi:σ.T[i]?=some x)(hs:x.s=1\/x.s=2)(hp:0<=x.p)(hN:σ.N<100000)(hw:∀j,Da.Rch σ.E ((i:Int)+1) j->Wt σ.T j)(hl:σ.ev.length+300<1000000)(hT:σ.T.length<=200)(hq:σ.qn+σ.T.countP isC<=1000) :
  Calls prog 122 #[pt D.B,.int .i64 ((i:Int)+1)] w fun e w'=>e=.returned (.int .i64 0)/\∃d,KillL σ.E ((i:Int)+1) d/\Cox L D F w (canL (((i:Int)+1)::d) (dropE σ ((i:Int)+1))) w':=by
 have P:=statusC C hi;obtain⟨I1,hI1⟩:∃J,(i:Int)+1=J:=⟨_,rfl⟩;have hcan:CanT σ.T I1:=⟨i,x,hI1.symm,hi,hs,hp⟩;rw[hI1] at P hw;rw[hI1];have HH:Aside (CanT σ.T I1/\σ.N<100000/\(∀j,Da.Rch σ.E I1 j->Wt σ.T j)/\σ.ev.length+300<1000000/\σ.T.length<=200/\σ.qn+σ.T.countP isC<=1000):=⟨hcan,hN,hw,hl,hT,hq⟩;obtain⟨s,hs'⟩:∃s,x.s=s:=⟨_,rfl⟩;rw[hs'] at P hs;clear C hi hs' hp hN hw hl hT hq hcan hI1;go_enter func122,ntmps122
 go_wp2_with fail
 refine P.mono ?_;rintro e w1 ⟨rfl,F1,g1,v1,C1,G1⟩;have Q:=dropC C1 HH.out.1 HH.out.2.1 HH.out.2.2.1 HH.out.2.2.2.1 HH.out.2.2.2.2.1 HH.out.2.2.2.2.2;have X1:Aside (Gc L F w F1 w1):=G1;clear P C1 G1;rcases hs with rfl|rfl
 ·go_wp2_with fail
  refine Q.mono ?_;rintro e w2 ⟨a,n,cap,rfl,d,F2,kl,rfl,o2,⟨g2,v2,C2⟩,G2⟩;have FIN:Aside (∃d,KillL σ.E I1 d/\Cox L D F w (canL (I1::d) (dropE σ I1)) w2):=⟨d,kl,F2,g2,v2,C2,X1.out.trans G2⟩;clear Q kl o2 C2 G2
  go_wp2_with fail
  go_ret;exact⟨rfl,FIN.out⟩
 ·go_wp2_with fail
  refine Q.mono ?_;rintro e w2 ⟨a,n,cap,rfl,d,F2,kl,rfl,o2,⟨g2,v2,C2⟩,G2⟩;have FIN:Aside (∃d,KillL σ.E I1 d/\Cox L D F w (canL (I1::d) (dropE σ I1)) w2):=⟨d,kl,F2,g2,v2,C2,X1.out.trans G2⟩;clear Q kl o2 C2 G2
  go_wp2_with fail
  go_ret;exact⟨rfl,FIN.out⟩
theorem cancelN(C:Co w L D F g v σ)(id:Int)(hi:stT σ.T id=0) :
  Calls prog 122 #[pt D.B,.int .i64 id] w fun e w'=>e=.returned (.int .i64 1)/\Cox L D F w σ w':=by
 have P:=statusA C id;rw[hi] at P;clear C hi;go_enter func122,ntmps122
 go_wp2_with fail
 refine P.mono ?_;rintro e w1 ⟨rfl,C1⟩;have FIN:Aside _:=C1;clear P C1
 go_wp2_with fail
 go_ret;exact⟨rfl,FIN.out⟩
end
section
open Go.RowKit Go.Lib Go.WideMaps Go.Maps
theorem wf_of{a:Int}(h1 : -9223372036854775808<=a)(h2:a<=9223372036854775807):Da.wfI a:=Da.wfI_of h1 h2
end
section
open Go.RowKit Go.Lib Go.WideMaps Go.Maps
variable {w w' u:World}{L i:Nat}{D:CAd}{F F':Nat->Nat->Prop}{g v:Value}{σ:CS}{x:Ta.TR}
theorem infoEs:∃i,prog.info? 157=some i/\i.zero=some (.slice none 0 0)/\i.size=1/\i.bytes=24:=by
 have h:(prog.info? 157).map (fun i=>(i.zero,i.size,i.bytes))=some (some (.slice none 0 0),1,24):=by kernel_rfl
 obtain⟨i,h1,h2⟩:=Option.map_eq_some_iff.1 h;simp at h2;exact⟨i,h1,h2.1,h2.2.1,h2.2.2⟩
theorem makeEs(w:World)(n:Nat)(hn:n<=8) :
  ∃cs:Array Value,(Instr.makeSlice 156 (.int .i64 (n:Int)) (.int .i64 (n:Int))).run prog w=.ok (.slice (some ⟨w.heap.size,0,none⟩) n n) (w.alloc (.cells cs 157))/\cs.size=n:=by
 obtain⟨i,hi,hz,hs,hby⟩:=infoEs;have hm:=run_make (P:=prog) w 156 157 i _ underlying156 hi hz .i64 .i64 n n (by omega) (Int.le_refl _) (by rw[hby];omega) (by omega);simp only[Int.toNat_natCast,hs] at hm;exact⟨_,hm,by simp[madeCells]⟩
def z9:Array Value:=#[.int .u64 0,.int .u64 0,.bool false,.int .i64 0,.slice none 0 0,.slice none 0 0,.slice none 0 0,.slice none 0 0,.slice none 0 0]
end
section
open Go.RowKit Go.Lib
structure KI(σ:CS)(i c:Nat):Prop where
 th:σ.th=1
 n:σ.n=64
 cl:σ.cl=false
 N:σ.N=0
 E:σ.E=fun _ _=>False
 len:σ.T.length=i
 o:σ.o<=i
 qn:σ.qn<=2*i
 ev:σ.ev.length<=10*i
 tk:σ.tk=c
 tkl:c<=i
 st:∀x∈σ.T,x.p=0/\(x.s=2\/x.s=4)
 qi:QI σ
variable {σ:CS}{i tk k:Nat}{x:Ta.TR}
def lk(σ:CS)(k:Nat)(x:Ta.TR):CS:=tellS σ 10 ((0:Nat):Int) ((k:Int)+1) x.key
def clm(σ:CS)(k:Nat)(x:Ta.TR):CS:=handS (turnS (lk σ k x) k x 3) 0 k (turnX x 3)
def fin(σ:CS)(k:Nat)(x:Ta.TR):CS:=relL 0 [] {endS (turnS (clm σ k x) k (turnX x 3) 4) ((0:Nat):Int) ((k:Int)+1) with E:=fun q j=>(clm σ k x).E q j/\q≠(k:Int)+1}
end
section
open Go.RowKit Go.Lib Go.WideMaps Go.Maps
structure FI(σ:CS)(n j:Nat):Prop where
 th:σ.th=2
 cn:σ.n=n
 cl:σ.cl=false
 N:σ.N=0
 E:σ.E=fun _ _=>False
 len:σ.T.length=j
 o:σ.o=j
 qn:σ.qn<=j
 ev:σ.ev.length<=2*j
 tk:σ.tk=0
 now:σ.now=0
 st:∀x∈σ.T,0<=x.p/\(x.s=1\/x.s=2)
variable {σ:CS}{n j k d:Nat}{x:Ta.TR}
theorem sub_ev2(σ:CS)(t:Nat)(p:Int):(subS σ t p).ev.length=σ.ev.length+2:=by
 show((σ.ev++[_])++[_]).length=_;simp
theorem kill_nil{d:List Int}{id:Int}(h:KillL (fun _ _=>False) id d):d=[]:=by
 cases d with
 | nil=>rfl
 | cons a l=>
  have:=(h.2 a).1 (by simp);exact(this (fun _=>False) (fun _ h=>h) (fun _ _ h _=>h)).elim
def fulC(σ:CS)(k:Nat):CS:=canL [(k:Int)+1] (dropE σ ((k:Int)+1))
theorem fulC_at(h:σ.T[k]?=some x):fulC σ k=canX (dropE σ ((k:Int)+1)) k x:=by
 show canStep (dropE σ ((k:Int)+1)) ((k:Int)+1)=_;exact canStep_at _ k x h
end
section
open Go.RowKit Go.Lib Go.WideMaps Go.Maps
variable {w w' u:World}{L i:Nat}{D:CAd}{F F':Nat->Nat->Prop}{g v:Value}{σ:CS}{x:Ta.TR}
def failS(σ:CS)(t id:Int):CS:={tellS {σ with o:=σ.o-1} 5 t id 0 with E:=kilE σ.E id}
theorem failC(C:Co w L D F g v σ)(t:Int){id:Int}(hid:Da.wfI id)(hN:σ.N<100000)(hlt:∀p i,σ.E p i->p<i)(hl:σ.ev.length+400<1000000)(hT:σ.T.length<=200)(hq:σ.qn+σ.T.countP isC<=1000)(hw:∀j,Da.Rch σ.E id j->Wt σ.T j) :
  Calls prog 107 #[pt D.B,.int .i64 t,.int .i64 id] w fun e w'=>e=.returned (.tuple #[])/\∃d,KillL σ.E id d/\Cox L D F w (canL d (failS σ t id)) w':=by
 have c7:=C.c7;have P:=C.giveC;have HH:Aside (Da.wfI id/\σ.N<100000/\(∀p i,σ.E p i->p<i)/\σ.ev.length+400<1000000/\σ.T.length<=200/\σ.qn+σ.T.countP isC<=1000/\∀j,Da.Rch σ.E id j->Wt σ.T j):=⟨hid,hN,hlt,hl,hT,hq,hw⟩;clear C hid hN hlt hl hT hq hw;go_enter func107,ntmps107
 go_wp2_with fail
 refine P.mono ?_;rintro e w1 ⟨⟨n1,rfl⟩,F1,g1,v1,C1,G1⟩;clear P c7;have P:=tellC C1 (show σ.ev.length<1000000 by have:=HH.out.2.2.2.1;omega) 5 t id 0;have X1:Aside (Gc L F w F1 w1):=G1;clear C1 G1
 go_wp2_with fail
 refine P.mono ?_;rintro e w2 ⟨rfl,⟨F2,g2,v2,C2,G2⟩,_⟩;clear P;have c6:=C2.c6;have P:=C2.killC (show σ.N<100000 from HH.out.2.1) HH.out.1;have X2:Aside (Gc L F w F2 w2):=X1.out.trans G2;clear C2 G2 X1
 go_wp2_with fail
 refine P.mono ?_;rintro e w3 ⟨a,n,cap,d,F3,rfl,hd,kl,ow,⟨g3,v3,C3⟩,G3⟩;clear P c6;have C3':Co w3 L D F3 g3 v3 (failS σ t id):=C3;have hn:=kill_nodup kl HH.out.2.2.1;have hcan:∀j∈d,CanT (failS σ t id).T j:=fun j hj=>(HH.out.2.2.2.2.2.2 j ((kl.2 j).1 hj)).can;have hln:=can_len d σ.T (List.nodup_cons.1 hn).2 hcan;have P:=cancelAllC C3' hd ow.ow (List.nodup_cons.1 hn).2 hcan (by show(σ.ev++[_]).length+300<1000000;have:=HH.out.2.2.2.1;simp;omega) HH.out.2.2.2.2.1 (by show σ.qn+n<=1000;have:=HH.out.2.2.2.2.2.1;omega);have X3:Aside (Gc L F w F3 w3/\KillL σ.E id d):=⟨X2.out.trans G3,kl⟩;clear C3 C3' G3 hn hcan hln ow kl X2
 go_wp2_with fail
 refine P.mono ?_;rintro e w4 ⟨rfl,F4,g4,v4,C4,G4⟩;have FIN:Aside (∃d,KillL σ.E id d/\Cox L D F w (canL d (failS σ t id)) w4):=⟨d,X3.out.2,F4,g4,v4,C4,X3.out.1.trans G4⟩;clear P C4 G4 X3
 go_wp2_with fail
 go_end0
 exact⟨rfl,FIN.out⟩
theorem turn35(C:Co w L D F g v σ)(t:Int)(hi:σ.T[i]?=some x)(hs:x.s=3)(hp:0<=x.p)(hid:Da.wfI ((i:Int)+1))(hN:σ.N<100000)(hlt:∀p i,σ.E p i->p<i)(hl:σ.ev.length+400<1000000)(hT:σ.T.length<=200)(hq:σ.qn+σ.T.countP isC<=1000)(hw:∀j,Da.Rch σ.E ((i:Int)+1) j->Wt σ.T j) :
  Calls prog 116 #[pt D.B,.int .i64 t,.int .i64 ((i:Int)+1),.int .i64 5] w fun e w'=>e=.returned (.tuple #[])/\∃d,KillL σ.E ((i:Int)+1) d/\Cox L D F w (canL d (failS (turnS σ i x 5) t ((i:Int)+1))) w':=by
 refine(turn_byZ C t hi hs hp (by decide) (Z:=fun τ=>∃d,KillL σ.E ((i:Int)+1) d/\τ=canL d (failS (turnS σ i x 5) t ((i:Int)+1))) (fun F1 g1 v1 w1 C1=>?_)).mono ?_
 ·refine follow_35 D.B t ((i:Int)+1) w1 (fun w2 b2=>?_)
  have hx:σ.T.countP isC=(σ.T.set i (turnX x 5)).countP isC:=by
   have:=Ta.cntP_set isC σ.T i x (turnX x 5) hi;have e1:isC x=false:=by simp[isC,hs]
   have e2:isC (turnX x 5)=false:=by simp[isC,(turnX_key x 5).2.2.1]
   rw[e1,e2] at this;simpa using this.symm
  refine(failC (C1.below b2) t hid hN hlt hl (by show(σ.T.set i _).length<=200;simpa using hT) (by show σ.qn+(σ.T.set i _).countP isC<=1000;rw[<-hx];exact hq) (fun j h1=>?_)).mono ?_
  ·obtain⟨k,y,e1,e2,e3,e4⟩:=hw j h1;refine⟨k,y,e1,?_,e3,e4⟩;show(σ.T.set i _)[k]?=_;rw[List.getElem?_set_ne (fun e=>?_)]
   ·exact e2
   ·rw[<-e,hi] at e2;injection e2 with e2
    rw[e2] at hs;omega
  ·rintro e w3 ⟨rfl,d,dl,F3,g3,v3,C3,G3⟩;exact⟨rfl,_,⟨d,dl,rfl⟩,F3,g3,v3,C3,(Gc.below F1 C1.lw b2).trans G3⟩
 ·rintro e w' ⟨rfl,τ,⟨d,dl,rfl⟩,X⟩;exact⟨rfl,d,dl,X⟩
theorem finF(C:Co w L D F g v σ){t:Nat}(ht:t<σ.th)(hi:σ.T[i]?=some x)(hs:x.s=3)(hp:x.p=0)(hid:Da.wfI ((i:Int)+1))(hN:σ.N<100000)(hlt:∀p i,σ.E p i->p<i)(hl:σ.ev.length+400<1000000)(hT:σ.T.length<=200)(hq:σ.qn+σ.T.countP isC<=1000)(hw:∀j,Da.Rch σ.E ((i:Int)+1) j->Wt σ.T j) :
  Calls prog 83 #[pt D.B,.int .i64 t,.int .i64 ((i:Int)+1),.bool false] w fun e w'=>e=.returned (.int .i64 0)/\∃d,KillL σ.E ((i:Int)+1) d/\Cox L D F w (canL d (failS (turnS σ i x 5) t ((i:Int)+1))) w':=by
 have P1:=threadC C ht;have P2:=taskC C hi (by omega);have P6:Aside (∀(W:World) F3 g3 v3,Co W L D F3 g3 v3 σ->Calls prog 116 #[pt D.B,.int .i64 t,.int .i64 ((i:Int)+1),.int .i64 5] W fun e w'=>e=.returned (.tuple #[])/\∃d,KillL σ.E ((i:Int)+1) d/\Cox L D F3 W (canL d (failS (turnS σ i x 5) t ((i:Int)+1))) w'):=fun W F3 g3 v3 C3=>turn35 C3 t hi hs (by omega) hid hN hlt hl hT hq hw;have HH:Aside (σ.T[i]?=some x/\x.s=3/\x.p=0):=⟨hi,hs,hp⟩;clear C ht hi hs hp hid hN hlt hl hT hq hw;go_enter func83,ntmps83
 go_wp2_with fail
 refine P1.mono ?_;rintro e w1 ⟨rfl,rfl⟩;clear P1
 go_wp2_with fail
 refine P2.mono ?_;rintro e w2 ⟨rfl,F2,g2,v2,C2,G2⟩;clear P2;have P:=statusC C2 HH.out.1;rw[HH.out.2.1] at P;have X2:Aside (Gc L F w1 F2 w2):=G2;clear C2 G2
 go_wp2_with fail
 refine P.mono ?_;rintro e w3 ⟨rfl,F3,g3,v3,C3,G3⟩;clear P;have C3d:=C3.drew;have X3:Aside (Gc L F w1 F3 w3.drew/\Co w3.drew L D F3 g3 v3 σ):=⟨(X2.out.trans G3).trans (Gc.below F3 C3.lw (Below.refl _ _).drew),C3d⟩;have c3:w3.drew.cell? ⟨D.B,3,none⟩=some (pt D.Bt):=C3d.c3;have c5:w3.drew.cell? ⟨D.B,5,none⟩=some (pt D.Bw):=C3d.c5;have NW:Aside (Calls prog 73 #[pt D.Bw] w3.drew fun e w'=>e=.returned (.int .u64 σ.now)/\w'=w3.drew):=Wl.now_any C3d.whl
 have AG:Aside (Calls prog 118 #[pt D.Bt,.int .i64 ((i:Int)+1),.int .u64 σ.now] w3.drew fun e w'=>e=.returned (.tuple #[.int .u64 0,.bool false])/\Below w3.drew.heap.size w3.drew w'/\w'.cell? ⟨D.B,3,none⟩=some (pt D.Bt)/\w'.cell? ⟨D.B,5,none⟩=some (pt D.Bw)):=by
  refine(Ta.againZ C3d.tab HH.out.1 σ.now HH.out.2.2).mono ?_;rintro e w' ⟨rfl,b⟩;exact⟨rfl,b,(C3d.below b).c3,(C3d.below b).c5⟩
 clear C3 C3d G3 X2;go_upto_region 5 with fail
 go_region_held3 (fun w'=>w'.cell? ⟨D.B,3,none⟩=some (pt D.Bt)/\w'.cell? ⟨D.B,5,none⟩=some (pt D.Bw)) (first|with_reducible exact⟨c3,c5⟩|with_reducible exact⟨d3,d5⟩) ((first|(go_at_call 73;(with_reducible refine Calls.mono NW.out ?_);rintro e v2 ⟨rfl,rfl⟩)|(go_at_call 118;(with_reducible refine Calls.mono AG.out ?_);rintro e w4 ⟨rfl,b4,d3,d5⟩)))
 have C4:=X3.out.2.below b4;have P:=P6.out w4 F3 g3 v3 C4;have X4:Aside (Gc L F w1 F3 w4):=X3.out.1.trans (Gc.below F3 X3.out.2.lw b4);clear C4 b4 c3 c5 d3 d5
 go_wp2_with fail
 refine P.mono ?_;rintro e w5 ⟨rfl,d,dl,F5,g5,v5,C5,G5⟩;have FIN:Aside (∃d,KillL σ.E ((i:Int)+1) d/\Cox L D F w1 (canL d (failS (turnS σ i x 5) t ((i:Int)+1))) w5):=⟨d,dl,F5,g5,v5,C5,X4.out.trans G5⟩;clear P C5 G5 X4 dl
 go_wp2_with fail
 go_ret;exact⟨rfl,FIN.out⟩
end
section
open Go.RowKit Go.Lib Go.WideMaps Go.Maps
def liv(x:Ta.TR):Bool:=decide (1<=x.s/\x.s<=3)
theorem cnt_set{T:List Ta.TR}{i:Nat}{x:Ta.TR}(y:Ta.TR)(h:T[i]?=some x):(T.set i y).countP liv+(if liv x=true then 1 else 0)=T.countP liv+if liv y=true then 1 else 0:=Ta.cntP_set liv T i x y h
structure RS(P:Nat->Nat->Prop)(m:Nat)(S:Nat->Int):Prop where
 lo:∀j k,P j k->j<k
 rg:∀k,k<m->1<=S k/\S k<=6
 r1:∀k,k<m->S k=1->∃j,P j k/\S j≠4
 r2:∀k,k<m->(S k=2\/S k=3\/S k=4\/S k=5)->∀j,P j k->S j=4
 r3:∀k,k<m->(S k=6↔∃j,P j k/\(S j=5\/S j=6))
variable {P:Nat->Nat->Prop}{m k:Nat}{S S':Nat->Int}
end
section
open Go.RowKit Go.Lib Go.WideMaps Go.Maps
variable {P:Nat->Nat->Prop}{σ:CS}{m c k:Nat}{x:Ta.TR}
theorem push_at{α:Type}{T:List α}{y z:α}{i m:Nat}(hl:T.length=m)(h:(T++[y])[i]?=some z):(i<m/\T[i]?=some z)\/(i=m/\z=y):=by
 subst hl;by_cases c:i<T.length
 ·rw[List.getElem?_append_left c] at h;exact .inl ⟨c,h⟩
 ·have hi:=(List.getElem?_eq_some_iff.1 h).1;simp at hi;obtain rfl:i=T.length:=by omega
  simp at h;exact .inr ⟨rfl,h.symm⟩
def donS(σ:CS)(t:Nat)(k:Nat)(x:Ta.TR):CS:={endS (turnS σ k x 4) t ((k:Int)+1) with E:=fun q j=>σ.E q j/\q≠(k:Int)+1}
end
end Go.Proofs.YtjpbngiddjkjiaaGreatDoor
