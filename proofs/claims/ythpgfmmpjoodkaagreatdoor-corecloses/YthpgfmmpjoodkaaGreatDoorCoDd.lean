import Derived.Test.YthpgfmmpjoodkaaGreatDoorCoJ
namespace Go.Proofs.YthpgfmmpjoodkaaGreatDoor.Ta
open Go.RowKit Go.Lib Go.WideMaps Go.Maps
set_option maxRecDepth 100000
set_option linter.unusedVariables false
variable {α:Type}{R:RowT α}{w w':World}{a:Option Addr}{cap base:Nat}{d c:List α}{v:Value}
theorem appG(h:OwnG R w base v d)(hc:IsG R w a cap c)(hb:d.length+c.length<=1000000)(hbase:base<=w.heap.size)(ty:TypeId) :
  ∃v' w',(Builtin.append_ #[R.st,R.st] ty #[v,.slice a c.length cap]).run Tryz.prog w=.ok v' w'/\OwnG R w' base v' (d++c)/\w.grownBy w' v.ownBlock/\∀k,v'.ownBlock=some k->v.ownBlock=some k\/w.heap.size<=k:=by
 obtain⟨i,hi,hz,hs,hby⟩:=R.info;by_cases e:a=none
 ·subst e
  obtain rfl:c=[]:=by
   cases c with
   | nil=>rfl
   | cons x c=>obtain⟨b,off,h1,_⟩:=hc.at (i:=0) (x:=x) rfl;cases h1
  refine⟨v,w,?_,by rw[List.append_nil];exact h,⟨rfl,rfl,rfl,Nat.le_refl _,fun _ _ _=>rfl⟩,fun k hk=>.inl hk⟩;rcases h.2 with⟨rfl,h0⟩|⟨g,cap',cur,rfl,_,_,hnc,_⟩
  ·simp[Builtin.append_,run_underlying R.und,sizeOf,typeInfo,hi,Builtin.lenOf,Builtin.firstCells]
  ·simp[Builtin.append_,run_underlying R.und,sizeOf,typeInfo,hi,Builtin.lenOf,Builtin.firstCells,hnc,storeCells]
 ·obtain⟨ad,rfl⟩:=Option.ne_none_iff_exists'.1 e;have sz:(d.length+c.length)*R.nb<=1000000*1000:=Nat.mul_le_mul (by omega) R.small
  obtain⟨v',w',h1,h2,h3,h4,h5⟩:=run_append_own_at (P:=Tryz.prog) w base R.st ty R.et i _ R.k R.nb R.und hi hz hs hby R.zs R.kpos v d.length (R.flat d) h ad c.length cap (R.flat c) (by rw[flat_len])
   (fun j u hj=>by
    obtain⟨b,off,e,_,h1⟩:=hc.elem j u hj
    cases e
    rw[<-h1,Addr.add_lit]) (flat_one c) (by unfold maxLen;omega) (by omega) hbase
  refine⟨v',w',h1,?_,h3,?_⟩
  ·unfold OwnG;rw[List.length_append,flat_append];exact h2
  ·intro k hk;rcases h5 with h5|h5
   ·exact .inl (by rw[<-h5];exact hk)
   ·rw[h5] at hk;injection hk with hk
    exact .inr (by omega)
theorem OwnG.zero(R:RowT α)(w:World)(hb:base<=w.heap.size):OwnG R (w.alloc (.cells #[] R.et)) base (.slice (some ⟨w.heap.size,0,none⟩) 0 0) []:=
 World.ownsRow_lit w #[] 0 hb (by unfold maxLen;omega) (by simp)
end Go.Proofs.YthpgfmmpjoodkaaGreatDoor.Ta
namespace Go.Proofs.YthpgfmmpjoodkaaGreatDoor
open Go.RowKit Go.Lib Go.WideMaps Go.Maps
set_option maxRecDepth 100000
set_option linter.unusedVariables false
variable {w w' u:World}{L i:Nat}{D:CAd}{F F':Nat->Nat->Prop}{g v:Value}{σ:CS}{x:Ta.TR}
theorem cloneE(v:Value)(base:Nat)(d:List EvR)(w:World)(h:Ta.OwnG rE w base v d)(hd:d.length<=100000) :
  Calls Tryz.prog 115 #[v] w fun r w'=>∃a cap,r=.returned (.slice a d.length cap)/\Ta.OwnG rE w' w.heap.size (.slice a d.length cap) d/\Below w.heap.size w w':=by
 have q22:∀(w:World)(a:Option Addr)(n c n' c':Nat),(binOp .eql 96 (.slice a n c) (.slice none n' c')).run Tryz.prog w=.ok (.bool a.isNone) w:=fun w a n c n' c'=>Lib.run_eql_slice_nil w _ _ a n c n' c' Tryz.underlying96;obtain⟨a,cap,rfl,hL⟩:=h.isG
 cases a with
 | none=>
  obtain rfl:d=[]:=by
   cases d with
   | nil=>rfl
   | cons x d=>obtain⟨b,off,h1,_⟩:=hL.at (i:=0) (x:=x) rfl;cases h1
  go_enter Tryz.func115,Tryz.ntmps115
  go_wp2
  go_ret;exact⟨none,0,rfl,Ta.OwnG.nil _ _ _,Below.refl _ _⟩
 | some ad=>
  obtain⟨v',w',hr,o,k1,k2⟩:=Ta.appG (R:=rE) (d:=[]) (c:=d) (Ta.OwnG.zero rE w (Nat.le_refl _)) (hL.below (belA _ _)) (by simp;omega) (by simp) 96;obtain⟨a2,c2,e2,_⟩:=o.isG
  have FIN:Aside (∃a cap,Ending.returned v'=.returned (.slice a d.length cap)/\Ta.OwnG rE w' w.heap.size (.slice a d.length cap) d/\Below w.heap.size w w'):=by
   rw[List.nil_append] at o e2;subst e2;refine⟨a2,c2,rfl,o,(belA w _).trans ⟨k1.os,k1.tape,k1.output,k1.size,fun k hk=>k1.block k (by simp;omega) (fun e=>?_)⟩⟩;simp[Value.ownBlock] at e;omega
  clear o k1 k2 h hL e2;go_enter Tryz.func115,Tryz.ntmps115
  go_wp2_with (at_builtin;refine Lib.wpList_append_run _ rfl _ _ 96 96 rfl _ _ rfl rfl v' w' hr ?_)
  go_ret;exact FIN.out
theorem eventsC(C:Co w L D F g v σ)(hl:σ.ev.length<=100000) :
  Calls Tryz.prog 64 #[pt D.B] w fun e w'=>∃a cap,e=.returned (.slice a σ.ev.length cap)/\Ta.OwnG rE w' w.heap.size (.slice a σ.ev.length cap) σ.ev/\Below w.heap.size w w':=by
 have c11:=C.c11;have P:=cloneE v L σ.ev w C.evs hl;obtain⟨a0,cap0,rfl,_⟩:=C.evs.isG;clear C hl;go_enter Tryz.func64,Tryz.ntmps64
 go_wp2_with fail
 refine P.mono ?_;rintro e w1 ⟨a,cap,rfl,o,b⟩;have FIN:Aside _:=And.intro o b;clear P o b c11
 go_wp2_with fail
 go_ret;exact⟨a,cap,rfl,FIN.out⟩
end Go.Proofs.YthpgfmmpjoodkaaGreatDoor
open Nat(le_refl)
namespace Go.Proofs.YthpgfmmpjoodkaaGreatDoor
set_option maxHeartbeats 8000000
set_option maxRecDepth 100000
set_option linter.unusedVariables false
open Go.RowKit Go.Lib Go.WideMaps Go.Maps
section
variable {w w' u:World}{L i:Nat}{D:CAd}{F F':Nat->Nat->Prop}{g v:Value}{σ:CS}{x:Ta.TR}
def CanT(T:List Ta.TR)(j:Int):Prop:=∃(k:Nat)(x:Ta.TR),j=(k:Int)+1/\T[k]?=some x/\(x.s=1\/x.s=2)/\0<=x.p
def isC(x:Ta.TR):Bool:=x.s==1||x.s==2
theorem can_len:∀(d:List Int)(T:List Ta.TR),d.Nodup->(∀j∈d,CanT T j)->d.length<=T.countP isC
 | [],T,_,_=>Nat.zero_le _
 | j::d,T,h,hw=>by
  obtain⟨h1,h2⟩:=List.nodup_cons.1 h;obtain⟨k,x,rfl,hx,hs,hp⟩:=hw j (by simp)
  have ih:=can_len d (T.set k {x with s:=3}) h2 (fun j' hj'=>by
   obtain⟨k',x',rfl,hx',hs',hp'⟩:=hw j' (by simp[hj']);have hne:k≠k':=fun e=>h1 (by rw[e];exact hj');exact⟨k',x',rfl,by rw[List.getElem?_set_ne hne];exact hx',hs',hp'⟩)
  have:=Ta.cntP_set isC T k x {x with s:=3} hx;have e1:isC x=true:=by rcases hs with hs|hs<;>simp[isC,hs]
  have e2:isC {x with s:=3}=false:=by simp[isC]
  rw[e1,e2] at this;simp at this;simp;omega
theorem CanT.le{T:List Ta.TR}{j:Int}(h:CanT T j):1<=j/\j<=T.length:=by
 obtain⟨k,x,rfl,hx,_⟩:=h;have:=(List.getElem?_eq_some_iff.1 hx).1;omega
theorem Wt.can{T:List Ta.TR}{j:Int}(h:Wt T j):CanT T j:=by
 obtain⟨k,x,e,hx,hs,hp⟩:=h;exact⟨k,x,e,hx,.inl hs,hp⟩
def canX(σ:CS)(i:Nat)(x:Ta.TR):CS:=if x.s=1 then stopS (turnS σ i x 6) ((i:Int)+1) else wdrS (turnS σ i x 6) ((i:Int)+1)
def canStep(σ:CS)(j:Int):CS:=match σ.T[(j-1).toNat]? with
 | some x=>canX σ (j-1).toNat x
 | none=>σ
def canL(d:List Int)(σ:CS):CS:=d.foldl canStep σ
theorem canStep_at(σ:CS)(k:Nat)(x:Ta.TR)(h:σ.T[k]?=some x):canStep σ ((k:Int)+1)=canX σ k x:=by
 unfold canStep;rw[show((k:Int)+1-1).toNat=k by omega,h]
structure SamC(σ σ':CS):Prop where
 th:σ'.th=σ.th
 k:σ'.k=σ.k
 n:σ'.n=σ.n
 now:σ'.now=σ.now
 E:σ'.E=σ.E
 N:σ'.N=σ.N
 m:σ'.m=σ.m
 tk:σ'.tk=σ.tk
 cl:σ'.cl=σ.cl
 gone:σ'.gone=σ.gone
 len:σ'.T.length=σ.T.length
theorem SamC.refl(σ:CS):SamC σ σ:=⟨rfl,rfl,rfl,rfl,rfl,rfl,rfl,rfl,rfl,rfl,rfl⟩
theorem SamC.trans{a b c:CS}(h:SamC a b)(k:SamC b c):SamC a c:=⟨k.th.trans h.th,k.k.trans h.k,k.n.trans h.n,k.now.trans h.now,k.E.trans h.E,k.N.trans h.N,k.m.trans h.m,k.tk.trans h.tk,k.cl.trans h.cl,k.gone.trans h.gone,k.len.trans h.len⟩
theorem canX_T(σ:CS)(i:Nat)(x:Ta.TR):(canX σ i x).T=σ.T.set i (turnX x 6):=by
 unfold canX
 split<;>rfl
theorem canX_sam(σ:CS)(i:Nat)(x:Ta.TR):SamC σ (canX σ i x):=by
 refine⟨?_,?_,?_,?_,?_,?_,?_,?_,?_,?_,by rw[canX_T,List.length_set]⟩<;>(unfold canX;split<;>rfl)
theorem canX_o(σ:CS)(i:Nat)(x:Ta.TR):(canX σ i x).o=σ.o-1/\(canX σ i x).qn<=σ.qn+1/\(canX σ i x).ev.length=σ.ev.length+1:=by
 unfold canX
 split
 ·exact⟨rfl,Nat.le_succ _,by show(σ.ev++[_]).length=_;simp⟩
 ·exact⟨rfl,le_refl _,by show(σ.ev++[_]).length=_;simp⟩
theorem canL_one(d:List Int)(σ:CS)(I:Nat)(hI:I<d.length):canL (d.take (I+1)) σ=canStep (canL (d.take I) σ) (d.getD I 0):=by
 unfold canL;rw[Da.take_up hI,List.foldl_append]
 rfl
theorem canL_inv(σ:CS){d:List Int}(hn:d.Nodup)(hw:∀j∈d,CanT σ.T j):∀I,I<=d.length->SamC σ (canL (d.take I) σ)/\(canL (d.take I) σ).qn<=σ.qn+I/\(canL (d.take I) σ).ev.length=σ.ev.length+I/\(canL (d.take I) σ).o=σ.o-I/\(∀k:Nat,((k:Int)+1)∉d.take I->(canL (d.take I) σ).T[k]?=σ.T[k]?):=by
 intro I
 induction I with
 | zero=>intro _;exact⟨SamC.refl σ,le_refl _,rfl,rfl,fun k _=>rfl⟩
 | succ I ih=>
  intro hI;have hI':I<d.length:=by omega
  obtain⟨s,q,e,o,T⟩:=ih (by omega);obtain⟨k,x,hj,hx,hs,hp⟩:=hw _ (Da.getD_mem hI');have hk:((k:Int)+1)∉d.take I:=by rw[<-hj];exact Da.nodup_take hn hI'
  have hx':(canL (d.take I) σ).T[k]?=some x:=(T k hk).trans hx;rw[canL_one d σ I hI',hj,canStep_at _ k x hx'];obtain⟨c1,c2,c3⟩:=canX_o (canL (d.take I) σ) k x;refine⟨s.trans (canX_sam _ _ _),by omega,by omega,by omega,fun k' hk'=>?_⟩;rw[Da.mem_take_up hI',hj] at hk';have hne:k≠k':=fun e=>hk' (.inr (by rw[e]));rw[canX_T,List.getElem?_set_ne hne];exact T k' (fun h=>hk' (.inl h))
theorem canL_sam(σ:CS){d:List Int}(hn:d.Nodup)(hw:∀j∈d,CanT σ.T j):SamC σ (canL d σ)/\(canL d σ).qn<=σ.qn+d.length/\(canL d σ).ev.length=σ.ev.length+d.length/\(canL d σ).o=σ.o-d.length/\(∀k:Nat,((k:Int)+1)∉d->(canL d σ).T[k]?=σ.T[k]?):=by
 have:=canL_inv σ hn hw d.length (le_refl _);rw[List.take_length] at this;exact this
theorem turnC6(C:Co w L D F g v σ)(hl:σ.ev.length<1000000)(hn:σ.qn<=1000)(t:Int)(hi:σ.T[i]?=some x)(hs:x.s=1\/x.s=2)(hp:0<=x.p)(wi:Wl.wfI ((i:Int)+1)) :
  Calls Tryz.prog 60 #[pt D.B,.int .i64 t,.int .i64 ((i:Int)+1),.int .i64 6] w fun e w'=>e=.returned (.tuple #[])/\Cox L D F w (canX σ i x) w':=by
 unfold canX;rcases hs with hs|hs
 ·rw[if_pos hs];exact turn16 C hl t hi hs hp wi
 ·rw[if_neg (by omega)];exact turn26 C hl hn t hi hs hp
theorem wf_lt{T:List Ta.TR}{j:Int}(h:CanT T j)(hT:T.length<=200):Wl.wfI j:=by
 have:=h.le;exact Da.wfI_of (by omega) (by omega)
theorem cancelAllC(C:Co w L D F g v σ){a:Option Addr}{n cap:Nat}{d:List Int}(hd:d.length=n)(o:Ow w F (.slice a n cap) d)(nd:d.Nodup)(hw:∀j∈d,CanT σ.T j)(hl:σ.ev.length+300<1000000)(hT:σ.T.length<=200)(hq:σ.qn+n<=1000) :
  Calls Tryz.prog 119 #[pt D.B,.slice a n cap] w fun e w'=>e=.returned (.tuple #[])/\Cox L D F w (canL d σ) w':=by
 have hn200:n<=200:=by
  have h1:=can_len d σ.T nd hw;have h2:=Ta.cntP_le isC σ.T;omega
 have CT:Aside (Co w L D F g v (canL (d.take 0) σ)):=C;have OW:Aside (Ow w F (.slice a n cap) d):=o;have HD:Aside (d.length=n/\d.Nodup/\(∀j∈d,CanT σ.T j)/\σ.ev.length+300<1000000/\σ.T.length<=200/\σ.qn+n<=1000):=⟨hd,nd,hw,hl,hT,hq⟩;have X:Aside (Gc L F w F w):=Gc.refl _ _ _;clear C o hd nd hw hl hT hq;go_enter Tryz.func119,Tryz.ntmps119
 go_wp2_with fail
 go_loopg [5,8] n (fun kx s5 s8 wr=>∃(k:Nat),s8=.int .i64 k/\k<=n/\n-k<=kx/\∃Fr gr vr,Aside (Co wr L D Fr gr vr (canL (d.take k) σ))/\Aside (Ow wr Fr (.slice a n cap) d)/\Aside (Gc L F w Fr wr))
 case atStart=>exact⟨0,rfl,by omega,by omega,F,g,v,CT,OW,X⟩
 case round=>
  obtain⟨k,rfl,hk,hkx,Fr,gr,vr,Cr,Or,Gr⟩:=hrel;by_cases c:k<n
  ·have hlt:(k:Int)<(n:Int):=by omega
   obtain⟨gg,off,rfl,glt,hc⟩:=Or.out.at HD.out.1 c;have hkd:k<d.length:=by rw[HD.out.1];exact c
   have hcan:=HD.out.2.2.1 _ (Da.getD_mem hkd);have hwf:=wf_lt hcan HD.out.2.2.2.2.1;obtain⟨kk,x,ej,hx,hs,hp⟩:=hcan;obtain⟨s1,q1,e1,o1,T1⟩:=canL_inv σ HD.out.2.1 HD.out.2.2.1 k (by omega);have hx':(canL (d.take k) σ).T[kk]?=some x:=(T1 kk (by rw[<-ej];exact Da.nodup_take HD.out.2.1 hkd)).trans hx;rw[ej] at hwf;have P:=turnC6 Cr.out (by have:=HD.out.2.2.2.1;omega) (by have:=HD.out.2.2.2.2.2;omega) (-1) hx' hs hp hwf
   have RL:Aside (canL (d.take (k+1)) σ=canX (canL (d.take k) σ) kk x):=by
    show _=_;rw[canL_one d σ k hkd,ej,canStep_at _ kk x hx']
   rw[ej] at hc;clear hx hx' hs hp s1 q1 e1 o1 T1 ej hkd hwf
   go_wp2_with fail
   refine P.mono ?_;rintro e w4 ⟨rfl,F4,g4,v4,C4,G4⟩
   have C4':Aside (Co w4 L D F4 g4 v4 (canL (d.take (k+1)) σ)):=by
    show Co w4 L D F4 g4 v4 (canL (d.take (k+1)) σ);rw[RL.out];exact C4
   have O4:Aside (Ow w4 F4 (.slice (some ⟨gg,off,none⟩) n cap) d):=Or.out.gc G4;have X4:Aside (Gc L F w F4 w4):=Gr.out.trans G4;clear P C4 G4 hc RL
   go_wp2_with fail
   go_roundg (n-(k+1))
   case measure=>omega
   case rel=>exact⟨k+1,by go_num,by omega,le_refl _,F4,g4,v4,C4',O4,X4⟩
  ·have hnl:¬(k:Int)<(n:Int):=by omega
   have FIN:Aside (Cox L D F w (canL d σ) wr):=by
    refine⟨Fr,gr,vr,?_,Gr.out⟩;have:=Cr.out;rw[List.take_of_length_le (by rw[HD.out.1];omega)] at this;exact this
   clear hk hkx
   go_wp2_with fail
   go_end0
   exact⟨rfl,FIN.out⟩
end
section
variable {w w' u:World}{L i:Nat}{D:CAd}{F F':Nat->Nat->Prop}{g v:Value}{σ:CS}{x:Ta.TR}
def KillL(E:Da.Rel)(id:Int)(d:List Int):Prop:=Da.Up d/\∀j,j∈d↔Da.Rch E id j
def kilE(E:Da.Rel)(id:Int):Da.Rel:=fun q j=>E q j/\j≠id/\¬Da.Rch E id j
theorem Co.killC(C:Co w L D F g v σ)(hN:σ.N<100000){id:Int}(hi:Da.wfI id) :
  Calls Tryz.prog 118 #[pt D.Bd,.int .i64 id] w fun e w'=>∃a n cap d F',e=.returned (.slice a n cap)/\d.length=n/\KillL σ.E id d/\Owb w.heap.size w' F' (.slice a n cap) d/\(∃g' v',Co w' L D F' g' v' {σ with E:=kilE σ.E id})/\Gc L F w F' w':=by
 refine(Da.killG C.dag hN hi).mono ?_;rintro e w' ⟨v',d,X',rfl,o,up,md,Dg',st,dis,_⟩;obtain⟨C',G'⟩:=C.setDag Dg' st;obtain⟨a,cap,e,_⟩:=o.isI;subst e;refine⟨a,_,cap,d,_,rfl,rfl,⟨up,md⟩,⟨o,fun k hk p hp=>?_⟩,⟨_,_,C'⟩,G'⟩;by_cases e:p=4
 ·subst e;rw[fset_same] at hp;exact dis k hk hp
 ·rw[fset_ne _ _ e] at hp;have:=C.fp.lt p k hp;have:=(o.rowLt hk).1;omega
theorem Owb.app{S:Nat}{w0:World}{F0:Nat->Nat->Prop}{v v0:Value}{d c:List Int}{a:Option Addr}{n cap:Nat}(o:Owb S w F v d)(oc:Ow w F (.slice a n cap) c)(hc:c.length=n)(C:Co w L D F g v0 σ)(G:Gc L F0 w0 F w)(hS:w0.heap.size<=S)(hS2:S<=w.heap.size)(hL:L<=w0.heap.size)(hd:d.length+c.length<=1000000) :
  ∃v' w',(Builtin.append_ #[22,22] 22 #[v,.slice a n cap]).run Tryz.prog w=.ok v' w'/\
  Owb S w' F v' (d++c)/\Co w' L D F g v0 σ/\Gc L F0 w0 F w'/\Ta.Fr (fun k=>v.ownBlock=some k) w w'/\(∀k,v'.ownBlock=some k->v.ownBlock=some k\/w.heap.size<=k):=by
 subst hc;obtain⟨v',w',hr,o',gr,hn⟩:=Da.app_run o.1 oc.1.isIv hd hS2 22;have f':Ta.Fr (fun k=>v.ownBlock=some k) w w':=ofD (Da.Fr.of_grown gr);refine⟨v',w',hr,⟨o',fun k hk p hp=>?_⟩,C.frX f' (fun k hk=>⟨o.2 k hk,?_⟩),G.ownX (fun k hk=>Nat.le_trans hS (o.1.rowLt hk).1) hL f',f',hn⟩
 ·rcases hn k hk with e|e
  ·exact o.2 k e p hp
  ·have:=C.fp.lt p k hp;omega
 ·obtain⟨cs,hc⟩:=o.1.rowT hk;exact nq_of hc (by unfold QT;decide)
theorem Owb.below{S:Nat}{v:Value}{d:List Int}(h:Owb S w F v d)(b:Below w.heap.size w w'):Owb S w' F v d:=⟨h.1.below b,h.2⟩
theorem Owb.one(C:Co w L D F g v σ)(x:Int){S:Nat}(hS:S<=w.heap.size):Owb S (w.alloc (.cells #[.int .i64 x] 3)) F (.slice (some ⟨w.heap.size,0,none⟩) 1 1) [x]:=
 ⟨Da.OwnI.one w x hS,fun k hk p hp=>by
  have:=C.fp.lt p k hp;injection hk with hk
  have hk:w.heap.size=k:=hk;omega⟩
def dropE(σ:CS)(id:Int):CS:={σ with E:=kilE σ.E id}
theorem kill_nodup{E:Da.Rel}{id:Int}{d:List Int}(h:KillL E id d)(hlt:∀p i,E p i->p<i):(id::d).Nodup:=by
 refine List.nodup_cons.2 ⟨fun hm=>?_,up_nodup h.1⟩;have:=Da.Rch.lt hlt ((h.2 id).1 hm);omega
theorem dropC(C:Co w L D F g v σ){id:Int}(hc:CanT σ.T id)(hN:σ.N<100000)(hw:∀j,Da.Rch σ.E id j->Wt σ.T j)(hl:σ.ev.length+300<1000000)(hT:σ.T.length<=200)(hq:σ.qn+σ.T.countP isC<=1000) :
  Calls Tryz.prog 69 #[pt D.B,.int .i64 id] w fun e w'=>∃a n cap,e=.returned (.slice a n cap)/\∃d F',KillL σ.E id d/\n=d.length+1/\Owb w.heap.size w' F' (.slice a n cap) (id::d)/\(∃g' v',Co w' L D F' g' v' (canL (id::d) (dropE σ id)))/\Gc L F w F' w':=by
 have hwf:Da.wfI id:=wf_lt hc hT;obtain⟨S,hS⟩:∃S,w.heap.size=S:=⟨_,rfl⟩;obtain⟨u,hu⟩:∃z,w.alloc (.cells #[.int .i64 id] 3)=z:=⟨_,rfl⟩;have bu:Below w.heap.size w u:=by rw[<-hu];exact belA _ _
 have Cu:Co u L D F g v σ:=C.below bu;have c6:u.cell? ⟨D.B,6,none⟩=some (pt D.Bd):=Cu.c6;have ou:Owb S u F (.slice (some ⟨S,0,none⟩) 1 1) [id]:=by rw[<-hu,<-hS];exact Owb.one C id (le_refl _)
 have PK:Calls Tryz.prog 118 #[pt D.Bd,.int .i64 id] u fun e w'=>∃a n cap d F' v' w'',e=.returned (.slice a n cap)/\d.length=n/\KillL σ.E id d/\(Builtin.append_ #[22,22] 22 #[.slice (some ⟨S,0,none⟩) 1 1,.slice a n cap]).run Tryz.prog w'=.ok v' w''/\Owb S w'' F' v' (id::d)/\(∃g' v0,Co w'' L D F' g' v0 (dropE σ id))/\Gc L F w F' w'':=by
  refine(Cu.killC hN hwf).mono ?_;rintro e w' ⟨a,n,cap,d,F',h1,h2,h3,h4,⟨g',v',h5⟩,h6⟩
  have hdl:d.length<=200:=by
   have h1:=wt_len d σ.T (up_nodup h3.1) (fun j hj=>hw j ((h3.2 j).1 hj));have h2:=Ta.cntP_le isW σ.T;omega
  have G0:Gc L F w F' w':=(Gc.below F C.lw bu).trans h6;have o1:=ou.gc h6;obtain⟨v1,w1,hr,o3,C3,G3,_,_⟩:=o1.app h4.ow h2 h5 G0 (Nat.le_of_eq hS) (by rw[<-hS];exact G0.size) C.lw (by simp;omega);exact⟨a,n,cap,d,F',v1,w1,h1,h2,h3,hr,o3,⟨g',v',C3⟩,G3⟩
 have HH:Aside (CanT σ.T id/\(∀j,Da.Rch σ.E id j->Wt σ.T j)/\σ.ev.length+300<1000000/\σ.T.length<=200/\σ.qn+σ.T.countP isC<=1000/\∀p i,σ.E p i->p<i):=⟨hc,hw,hl,hT,hq,fun p i h=>(C.dag.ord p i h).2.1⟩;have HU:Aside _:=hu;have HS:Aside (w.heap.size=S):=hS;rw[hS];clear C Cu hu hS bu ou hc hN hw hl hT hq hwf;go_enter Tryz.func69,Tryz.ntmps69
 have cA:(w.alloc (.cells #[.int .i64 id] 3)).cell? ⟨D.B,6,none⟩=some (pt D.Bd):=by rw[HU.out];exact c6
 go_wp2_with fail
 rw[HU.out];try simp only[HS.out]
 clear cA;refine PK.mono ?_;rintro e w1 ⟨a,n,cap,d,F1,v1,w2,rfl,hd,kl,hr,o2,⟨g2,v2,C2⟩,G2⟩;clear PK c6;have nd:=kill_nodup kl HH.out.2.2.2.2.2
 have can:∀j∈id::d,CanT (dropE σ id).T j:=fun j hj=>by
  rcases List.mem_cons.1 hj with rfl|hj
  ·exact HH.out.1
  ·exact(HH.out.2.1 j ((kl.2 j).1 hj)).can
 have hlen:=can_len (id::d) σ.T nd can;obtain⟨a2,cap2,e2,_⟩:=o2.1.isI;subst e2;obtain⟨n2,hn2⟩:∃n2,(id::d).length=n2:=⟨_,rfl⟩;rw[hn2] at o2 hr;have P:=cancelAllC C2 hn2 o2.ow nd can (show σ.ev.length+300<1000000 from HH.out.2.2.1) (show σ.T.length<=200 from HH.out.2.2.2.1) (show σ.qn+n2<=1000 by have:=HH.out.2.2.2.2.1;omega);have HK:Aside (KillL σ.E id d/\n2=d.length+1):=⟨kl,by rw[<-hn2];rfl⟩;have X2:Aside (Gc L F w F1 w2/\Owb S w2 F1 (.slice a2 n2 cap2) (id::d)):=⟨G2,o2⟩;clear o2 C2 G2 nd can hlen kl hn2 hd
 go_wp2_with (at_builtin;refine Da.wpList_app _ rfl _ _ 22 rfl _ _ rfl rfl _ w2 hr ?_;clear hr)
 refine P.mono ?_;rintro e w3 ⟨rfl,F3,g3,v3,C3,G3⟩
 have FIN:Aside (∃a n cap,Ending.returned (.slice a2 n2 cap2)=.returned (.slice a n cap)/\∃d F',KillL σ.E id d/\n=d.length+1/\Owb S w3 F' (.slice a n cap) (id::d)/\(∃g' v',Co w3 L D F' g' v' (canL (id::d) (dropE σ id)))/\Gc L F w F' w3):=
  ⟨a2,n2,cap2,rfl,d,F3,HK.out.1,HK.out.2,X2.out.2.gc G3,⟨g3,v3,C3⟩,X2.out.1.trans G3⟩
 clear P C3 G3
 go_wp2_with fail
 go_ret;exact FIN.out
end
end Go.Proofs.YthpgfmmpjoodkaaGreatDoor
