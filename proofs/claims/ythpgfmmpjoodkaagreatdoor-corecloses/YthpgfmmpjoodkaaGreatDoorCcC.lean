import Derived.Test.YthpgfmmpjoodkaaGreatDoorCoDd
open Array(getElem?_setIfInBounds_ne)
open List(length_map)
open Nat(le_trans)
namespace Go.Proofs.YthpgfmmpjoodkaaGreatDoor
set_option maxHeartbeats 8000000
set_option linter.unusedVariables false
set_option maxRecDepth 100000
section
open Go.RowKit Go.Lib
def Rdy(T:List Ta.TR)(e:Qu.Ent):Prop:=∃(k:Nat)(x:Ta.TR),T[k]?=some x/\x.s=2/\e=(x.key,(k:Int)+1)
def QI(σ:CS):Prop:=∃sl ow sh,Qu.View σ.th σ.q sl ow sh/\(Qu.ids (Qu.allV σ.th sl ow sh)).Nodup/\∀e,e∈Qu.allV σ.th sl ow sh↔Rdy σ.T e
variable {σ σ':CS}{t:Nat}{e0:Qu.Ent}{x y:Ta.TR}{i:Nat}
theorem QI.new(th k n:Nat):QI (newS th k n):=by
 refine⟨_,_,_,Qu.View.new th,?_,fun e=>?_⟩
 ·simp[Qu.allV,Qu.ids,Qu.flatN_nil]
 ·constructor
  ·intro h;simp[Qu.allV] at h
  ·rintro⟨k,x,h,_⟩;simp[newS] at h
theorem QI.put(h:QI σ)(ht:t<σ.th)(hq:σ'.q=Qu.putQ σ.k σ.q t e0)(hth:σ'.th=σ.th)(hR:∀e,Rdy σ'.T e↔e=e0\/Rdy σ.T e)(hf:∀e,Rdy σ.T e->e.2≠e0.2):QI σ':=by
 obtain⟨sl,ow,sh,V,nd,al⟩:=h;obtain⟨sl',ow',sh',V',P⟩:=V.putAny (K:=σ.k) ht e0;refine⟨sl',ow',sh',by rw[hq,hth];exact V',?_,fun e=>?_⟩
 ·rw[hth];refine((P.map Prod.snd).nodup_iff).2 (List.nodup_cons.2 ⟨fun hm=>?_,nd⟩);obtain⟨e,he,h2⟩:=List.mem_map.1 hm;exact hf e ((al e).1 he) h2
 ·rw[hth,P.mem_iff,hR e,List.mem_cons,al e]
theorem QI.look(h:QI σ){N:Nat}(ok:Qu.QOk σ.k σ.th N σ.q)(ht:t<σ.th)(dr:Nat)(hne:∃e,Rdy σ.T e)(tk:Int):∃x y z,Qu.relaxQ σ.q σ.th σ.k t dr=(x,true)/\Qu.unl (Qu.leastQ σ.q σ.th)=y/\(z=if y.1<=tk then y else x)/\Rdy σ.T z:=by
 obtain⟨sl,ow,sh,V,nd,al⟩:=h;obtain⟨e,he⟩:=hne;have hm:=(al e).2 he;have hn:Qu.allV σ.th sl ow sh≠[]:=fun h=>by rw[h] at hm;simp at hm
 rcases V.relaxed ok ht dr with⟨h,_⟩|⟨_,h2,h3,_⟩
 ·exact absurd h hn
 ·rcases V.least with⟨_,h⟩|⟨j,y,h4,h5⟩
  ·exact absurd h hn
  ·refine⟨_,y,_,Prod.ext rfl h2,by rw[h4];rfl,rfl,?_⟩
   split
   ·exact(al y).1 h5.1
   ·exact(al _).1 h3
theorem rdy_push{T:List Ta.TR}(hx:x.s=2)(e:Qu.Ent):Rdy (T++[x]) e↔e=(x.key,(T.length:Int)+1)\/Rdy T e:=by
 constructor
 ·rintro⟨k,y,h,hs,rfl⟩;by_cases c:k<T.length
  ·rw[List.getElem?_append_left c] at h;exact .inr ⟨k,y,h,hs,rfl⟩
  ·have:=(List.getElem?_eq_some_iff.1 h).1;simp at this;obtain rfl:k=T.length:=by omega
   rw[List.getElem?_append_right (Nat.le_refl _)] at h;simp at h;subst h;exact .inl rfl
 ·rintro(rfl|⟨k,y,h,hs,rfl⟩)
  ·exact⟨T.length,x,by simp,hx,rfl⟩
  ·have:=(List.getElem?_eq_some_iff.1 h).1;exact⟨k,y,by rw[List.getElem?_append_left this];exact h,hs,rfl⟩
theorem rdy_id{T:List Ta.TR}{e:Qu.Ent}(h:Rdy T e):1<=e.2/\e.2<=T.length:=by
 obtain⟨k,y,h,hs,rfl⟩:=h;have:=(List.getElem?_eq_some_iff.1 h).1;show 1<=(k:Int)+1/\(k:Int)+1<=T.length;omega
theorem sub_T(σ:CS)(t:Nat)(prio:Int):(subS σ t prio).T=σ.T++[{Ta.mkT prio 0 0 0 0 0 2 with key:=keyS σ (Ta.mkT prio 0 0 0 0 0 2)}]:=by
 show(σ.T++[_]).set σ.T.length _=_;rw[List.set_append_right _ _ (Nat.le_refl _)];simp
 rfl
theorem QI.sub(h:QI σ)(ht:t<σ.th)(prio:Int):QI (subS σ t prio):=by
 refine h.put (t:=t) (e0:=(keyS σ (Ta.mkT prio 0 0 0 0 0 2),(σ.T.length:Int)+1)) ht rfl rfl (fun e=>?_) (fun e he=>?_)
 ·rw[sub_T,rdy_push rfl]
 ·have:=rdy_id he;show e.2≠(σ.T.length:Int)+1;omega
theorem done_nil{d:List Int}{id:Int}(h:DoneL (fun _ _=>False) id d):d=[]:=by
 cases d with
 | nil=>rfl
 | cons j d=>exact((h.2 j).1 (by simp)).1.elim
end
section
open Go.RowKit Go.Lib Go.WideMaps Go.Maps
theorem wf_of{a:Int}(h1 : -9223372036854775808<=a)(h2:a<=9223372036854775807):Da.wfI a:=Da.wfI_of h1 h2
def awX:Ta.TR:={Ta.mkT 3 0 0 0 0 0 2 with key:=7}
theorem aw_key:keyS (newS 1 2 2) (Ta.mkT 3 0 0 0 0 0 2)=7:=by decide
theorem aw_T:(subS (newS 1 2 2) 0 3).T=[awX]:=by rw[sub_T,aw_key];rfl
theorem awakeC(w:World):Calls Tryz.prog 14 #[] w fun e w'=>e=.returned (.bool true)/\Below w.heap.size w w':=by
 obtain⟨S,hS⟩:∃S,w.heap.size=S:=⟨_,rfl⟩;have P:=newC 1 2 2 w (by omega) (by omega) (by omega) (by omega) (by omega);go_enter Tryz.func14,Tryz.ntmps14
 go_wp2_with fail
 refine Calls.mono P ?_;rintro e w1 ⟨D,F1,rfl,C1,b1⟩;clear P;have X1:Aside (Below w.heap.size w w1):=b1;have P:=subC C1 (t:=0) (show 0<(newS 1 2 2).th by decide) rfl (by decide) (by decide) (by decide) (by decide) (by decide) 3 (by omega) (by omega);clear C1 b1
 go_wp2_with fail
 refine Calls.mono P ?_;rintro e w2 ⟨rfl,F2,g2,v2,C2,G2⟩;clear P;have X2:Aside (Gc (w.heap.size+1) F1 w1 F2 w2):=G2;have Q2:QI (subS (newS 1 2 2) 0 3):=(QI.new 1 2 2).sub (show 0<(newS 1 2 2).th by decide) 3;obtain⟨x,y,z,hx,hy,hz,hr⟩:=Q2.look C2.qok (t:=0) (show 0<(newS 1 2 2).th by decide) 0 ⟨(7,1),0,awX,by rw[aw_T];rfl,rfl,rfl⟩ ((subS (newS 1 2 2) 0 3).tk:Int)
 have hz1:z=(7,1):=by
  obtain⟨k,q,h1,h2,h3⟩:=hr;rw[aw_T] at h1
  have:k=0:=by
   have:=(List.getElem?_eq_some_iff.1 h1).1;simp at this;omega
  subst this;simp at h1;subst h1;exact h3
 have P:=lookC C2 (t:=0) (dr:=0) (show 0<(newS 1 2 2).th by decide) (by omega) (show(subS (newS 1 2 2) 0 3).qn<=1000 by decide) (show(subS (newS 1 2 2) 0 3).ev.length<1000000 by decide) hx hy hz;subst hz1;obtain⟨σ2,hσ2⟩:∃s,tellS (subS (newS 1 2 2) 0 3) 10 ((0:Nat):Int) 1 7=s:=⟨_,rfl⟩;have P':Aside (Calls Tryz.prog 63 #[pt D.B,.int .i64 0,.int .u64 0] w2 fun e w'=>e=.returned (.tuple #[.agg #[.int .u64 7,.int .i64 1],.bool true])/\Cox (w.heap.size+1) D F2 w2 σ2 w'):=by rw[<-hσ2];exact P
 have HS:Aside (σ2.T=[awX]/\σ2.th=1/\σ2.qn=1/\σ2.tk=0/\σ2.ev.length=3/\σ2.N=0/\σ2.E=fun _ _=>False):=by
  rw[<-hσ2];exact⟨aw_T,rfl,rfl,rfl,rfl,rfl,rfl⟩
 clear P C2 G2 Q2 hx hy hz hr hσ2 x y
 go_wp2_with fail
 refine Calls.mono P'.out ?_;rintro e w3 ⟨rfl,F3,g3,v3,C3,G3⟩;obtain⟨K,hK⟩:∃J,w3.heap.size=J:=⟨_,rfl⟩;obtain⟨u3,hu3⟩:∃z,w3.alloc (.cells #[.int .u64 7,.int .i64 1] 36)=z:=⟨_,rfl⟩;have b3:Below w3.heap.size w3 u3:=by rw[<-hu3];exact belA _ _
 have BK:Bx u3 F3 K #[.int .u64 7,.int .i64 1] 36:=by rw[<-hu3,<-hK];exact Bx.new C3 _ _
 have C3u:=C3.below b3;have X3:Aside (Gc (w.heap.size+1) F1 w1 F3 u3/\Bx u3 F3 K #[.int .u64 7,.int .i64 1] 36):=⟨(X2.out.trans G3).trans (Gc.below F3 C3.lw b3),BK⟩;have k0:u3.cell? ⟨K,0,none⟩=some (.int .u64 7):=BK.cell 0;have k1:u3.cell? ⟨K,1,none⟩=some (.int .i64 1):=BK.cell 1;have klt:=lt_of_block BK.1;have hi3:σ2.T[0]?=some awX:=by rw[HS.out.1];rfl
 have P:Calls Tryz.prog 12 #[pt D.B,.int .i64 0,.agg #[.int .u64 7,.int .i64 1]] u3 fun e w'=>e=.returned (.int .i64 0)/\Cox (w.heap.size+1) D F3 u3 (handS (turnS σ2 0 awX 3) 0 0 (turnX awX 3)) w':=claimC C3u (t:=0) (i:=0) (by rw[HS.out.2.1];omega) hi3 rfl (by decide) (by rw[HS.out.2.2.2.2.1];omega) (by rw[HS.out.2.2.1];omega) (by rw[HS.out.2.2.2.1];omega);obtain⟨σ3,hσ3⟩:∃s,handS (turnS σ2 0 awX 3) 0 0 (turnX awX 3)=s:=⟨_,rfl⟩;rw[hσ3] at P
 have HS3:Aside (σ3.T=[turnX awX 3]/\σ3.th=1/\σ3.qn=2/\σ3.tk=1/\σ3.ev.length=4/\σ3.N=0/\σ3.E=fun _ _=>False):=by
  rw[<-hσ3];refine⟨?_,HS.out.2.1,?_,?_,?_,HS.out.2.2.2.2.2.1,HS.out.2.2.2.2.2.2⟩
  ·show σ2.T.set 0 _=_;rw[HS.out.1];rfl
  ·show σ2.qn+1=2;rw[HS.out.2.2.1]
  ·show σ2.tk+1=1;rw[HS.out.2.2.2.1]
  ·show(σ2.ev++[_]).length=4;rw[List.length_append,HS.out.2.2.2.2.1];rfl
 have HU3:Aside _:=hu3;have HK:Aside _:=hK;clear P' C3 C3u G3 hu3 hK b3 BK X2 hσ3 hi3;go_upto_region 6 with fail
 rw[HU3.out];simp only[HK.out]
 go_wp2_with fail
 refine Calls.mono P ?_;rintro e w4 ⟨rfl,F4,g4,v4,C4,G4⟩;clear P k0 k1 klt;have B4:=X3.out.2.gc mq_ent G4;have X4:Aside (Gc (w.heap.size+1) F1 w1 F4 w4/\Bx w4 F4 K #[.int .u64 7,.int .i64 1] 36):=⟨X3.out.1.trans G4,B4⟩;have k0:w4.cell? ⟨K,0,none⟩=some (.int .u64 7):=B4.cell 0;have k1:w4.cell? ⟨K,1,none⟩=some (.int .i64 1):=B4.cell 1;have klt:=lt_of_block B4.1;have hi4:σ3.T[0]?=some (turnX awX 3):=by rw[HS3.out.1];rfl
 have P:Calls Tryz.prog 12 #[pt D.B,.int .i64 0,.agg #[.int .u64 7,.int .i64 1]] w4 fun e w'=>e=.returned (.int .i64 8)/\Cox (w.heap.size+1) D F4 w4 σ3 w':=claimL C4 (t:=0) (i:=0) (by rw[HS3.out.2.1];omega) hi4 (by decide) 7;clear C4 G4 B4 X3 hi4
 go_wp2_with fail
 refine Calls.mono P ?_;rintro e w5 ⟨rfl,F5,g5,v5,C5,G5⟩;clear P k0 k1 klt;have B5:=X4.out.2.gc mq_ent G5;have X5:Aside (Gc (w.heap.size+1) F1 w1 F5 w5/\Bx w5 F5 K #[.int .u64 7,.int .i64 1] 36):=⟨X4.out.1.trans G5,B5⟩;have hi5:σ3.T[0]?=some (turnX awX 3):=by rw[HS3.out.1];rfl
 have P:Calls Tryz.prog 13 #[pt D.B,.int .i64 0,.int .i64 1,.bool true] w5 fun e w'=>e=.returned (.int .i64 0)/\∃d,DoneL σ3.E (((0:Nat):Int)+1) d/\Cox (w.heap.size+1) D F5 w5 (relL 0 d {endS (turnS σ3 0 (turnX awX 3) 4) 0 1 with E:=fun q j=>σ3.E q j/\q≠(((0:Nat):Int)+1)}) w':=finC C5 (t:=0) (i:=0) (by rw[HS3.out.2.1];omega) hi5 (by decide) (by decide) (wf_of (by omega) (by omega)) (by rw[HS3.out.2.2.2.2.2.1];omega) (by rw[HS3.out.2.2.2.2.1];omega) (by rw[HS3.out.1];decide) (by rw[HS3.out.1,HS3.out.2.2.1];decide) (by rw[HS3.out.2.2.2.1];omega) (fun j h=>by rw[HS3.out.2.2.2.2.2.2] at h;exact h.elim);clear C5 G5 B5 X4 hi5
 go_wp2_with fail
 refine Calls.mono P ?_;rintro e w6 ⟨rfl,d,dl,F6,g6,v6,C6,G6⟩;clear P;rw[HS3.out.2.2.2.2.2.2] at dl;obtain rfl:=done_nil dl;have B6:=X5.out.2.gc mq_ent G6;obtain⟨σ4,hσ4⟩:∃s,relL 0 [] {endS (turnS σ3 0 (turnX awX 3) 4) 0 1 with E:=fun q j=>σ3.E q j/\q≠(((0:Nat):Int)+1)}=s:=⟨_,rfl⟩;rw[hσ4] at C6
 have HS4:Aside (σ4.T=[turnX (turnX awX 3) 4]/\σ4.ev.length=5):=by
  rw[<-hσ4];refine⟨?_,?_⟩
  ·show σ3.T.set 0 _=_;rw[HS3.out.1];rfl
  ·show(σ3.ev++[_]).length=5;rw[List.length_append,HS3.out.2.2.2.2.1];rfl
 have k0:w6.cell? ⟨K,0,none⟩=some (.int .u64 7):=B6.cell 0;have klt:=lt_of_block B6.1;have hi6:σ4.T[0]?=some (turnX (turnX awX 3) 4):=by rw[HS4.out.1];rfl
 have P:Calls Tryz.prog 10 #[pt D.B,.int .i64 1] w6 fun e w'=>e=.returned (.int .i64 4)/\Cox (w.heap.size+1) D F6 w6 σ4 w':=statusC C6 (i:=0) hi6;have X6:Aside (Gc (w.heap.size+1) F1 w1 F6 w6):=X5.out.1.trans G6;clear C6 G6 B6 X5 hi6 hσ4 dl
 go_wp2_with fail
 refine Calls.mono P ?_;rintro e w7 ⟨rfl,F7,g7,v7,C7,G7⟩;clear P k0 klt;have P:=eventsC C7 (by rw[HS4.out.2];omega);rw[HS4.out.2] at P;have X7:Aside (Gc (w.heap.size+1) F1 w1 F7 w7):=X6.out.trans G7;clear C7 G7 X6
 go_wp2_with fail
 refine Calls.mono P ?_;rintro e w8 ⟨a,cap,rfl,o8,b8⟩
 have FIN:Aside (Below S w w8):=by
  have h1:=X1.out;have h2:=X7.out.low;rw[hS] at h1 h2;exact(h1.trans (h2.mono (by omega))).trans (b8.mono (by have:=h1.size;have:=h2.size;omega))
 clear P o8 b8
 go_wp2_with fail
 go_ret;exact⟨rfl,by first|exact FIN.out|(rw[hS];exact FIN.out)⟩
end
section
open Go.RowKit Go.Lib Go.WideMaps Go.Maps
variable {w w' u:World}{L i:Nat}{D:CAd}{F F':Nat->Nat->Prop}{g v:Value}{σ:CS}{x:Ta.TR}
def rowK(i:Nat)(x:Ta.TR):List Value:=[.int .i64 ((i:Int)+1),.int .i64 x.prio,.int .i64 x.s,.int .u64 x.due,.int .u64 x.key,.int .u64 x.r,.int .u64 x.m]
def Fil(cs:Array Value)(T:List Ta.TR)(k:Nat):Prop:=∀i,i<k->∀x,T[i]?=some x->∀j,j<7->cs[i*7+j]?=(rowK i x)[j]?
def set7(cs:Array Value)(O:Nat)(a0 a1 a2 a3 a4 a5 a6:Value):Array Value:=(((((((cs.setIfInBounds O a0).setIfInBounds (O+1) a1).setIfInBounds (O+2) a2).setIfInBounds (O+3) a3).setIfInBounds (O+4) a4).setIfInBounds (O+5) a5).setIfInBounds (O+6) a6)
theorem set7_size(cs:Array Value)(O:Nat)(a0 a1 a2 a3 a4 a5 a6:Value):(set7 cs O a0 a1 a2 a3 a4 a5 a6).size=cs.size:=by simp[set7]
theorem set7_old(cs:Array Value){O p:Nat}(a0 a1 a2 a3 a4 a5 a6:Value)(hp:p<O\/O+7<=p):(set7 cs O a0 a1 a2 a3 a4 a5 a6)[p]?=cs[p]?:=by
 unfold set7;rw[getElem?_setIfInBounds_ne (by omega),getElem?_setIfInBounds_ne (by omega),getElem?_setIfInBounds_ne (by omega),getElem?_setIfInBounds_ne (by omega),getElem?_setIfInBounds_ne (by omega),getElem?_setIfInBounds_ne (by omega),getElem?_setIfInBounds_ne (by omega)]
theorem set7_new(cs:Array Value){O:Nat}(a0 a1 a2 a3 a4 a5 a6:Value)(hO:O+7<=cs.size)(j:Nat)(hj:j<7):(set7 cs O a0 a1 a2 a3 a4 a5 a6)[O+j]?=([a0,a1,a2,a3,a4,a5,a6]:List Value)[j]?:=by
 unfold set7;have:j=0\/j=1\/j=2\/j=3\/j=4\/j=5\/j=6:=by omega
 rcases this with rfl|rfl|rfl|rfl|rfl|rfl|rfl
 ·show(Array.setIfInBounds _ (O+6) a6)[O]?=some a0;rw[getElem?_setIfInBounds_ne (by omega),getElem?_setIfInBounds_ne (by omega),getElem?_setIfInBounds_ne (by omega),getElem?_setIfInBounds_ne (by omega),getElem?_setIfInBounds_ne (by omega),getElem?_setIfInBounds_ne (by omega)];exact Array.getElem?_setIfInBounds_self_of_lt (by omega)
 all_goals (repeat (first|rw[Array.getElem?_setIfInBounds_self_of_lt (by simp only[Array.size_setIfInBounds];omega)]|rw[getElem?_setIfInBounds_ne (by omega)]))
 all_goals rfl
theorem Fil.up{cs:Array Value}{T:List Ta.TR}{k:Nat}(h:Fil cs T k)(hx:T[k]?=some x)(hO:k*7+7<=cs.size):Fil (set7 cs (k*7) (.int .i64 ((k:Int)+1)) (.int .i64 x.prio) (.int .i64 x.s) (.int .u64 x.due) (.int .u64 x.key) (.int .u64 x.r) (.int .u64 x.m)) T (k+1):=by
 intro i hi y hy j hj;by_cases c:i=k
 ·subst c;obtain rfl:x=y:=Option.some.inj (hx.symm.trans hy);exact set7_new _ _ _ _ _ _ _ _ hO j hj
 ·rw[set7_old _ _ _ _ _ _ _ _ (by omega)];exact h i (by omega) y hy j hj
theorem infoTk:∃i,Tryz.prog.info? 45=some i/\i.zero=some (.agg #[.int .i64 0,.int .i64 0,.int .i64 0,.int .u64 0,.int .u64 0,.int .u64 0,.int .u64 0])/\i.size=7/\i.bytes=56:=by
 have h:(Tryz.prog.info? 45).map (fun i=>(i.zero,i.size,i.bytes))=some (some (.agg #[.int .i64 0,.int .i64 0,.int .i64 0,.int .u64 0,.int .u64 0,.int .u64 0,.int .u64 0]),7,56):=by kernel_rfl
 obtain⟨i,h1,h2⟩:=Option.map_eq_some_iff.1 h;simp at h2;exact⟨i,h1,h2.1,h2.2.1,h2.2.2⟩
theorem makeTk(w:World)(n:Nat)(hn:n<=200) :
  ∃cs:Array Value,(Instr.makeSlice 37 (.int .i64 (n:Int)) (.int .i64 (n:Int))).run Tryz.prog w=.ok (.slice (some ⟨w.heap.size,0,none⟩) n n) (w.alloc (.cells cs 45))/\cs.size=n*7:=by
 obtain⟨i,hi,hz,hs,hby⟩:=infoTk;have hm:=run_make (P:=Tryz.prog) w 37 45 i _ Tryz.underlying37 hi hz .i64 .i64 n n (by omega) (Int.le_refl _) (by rw[hby];omega) (by omega);simp only[Int.toNat_natCast,hs] at hm;exact⟨_,hm,by simp[madeCells]⟩
def AllIs(w:World)(X:Nat->Prop)(B:Nat)(T:List Ta.TR)(e:Ending)(w':World):Prop:=∃K cs,e=.returned (.slice (some ⟨K,0,none⟩) T.length T.length)/\w.heap.size<=K/\w'.heap[K]?=some (.cells cs 45 (0,0))/\Fil cs T T.length/\Ta.Tb w' X B 200 T/\Ta.Fr X w w'
theorem allT{X:Nat->Prop}{B:Nat}{T:List Ta.TR}(h:Ta.Tb w X B 200 T):Calls Tryz.prog 52 #[pt B] w (AllIs w X B T):=by
 have hl:=h.ok.2.1;have P:=Ta.lenT h;obtain⟨n,hn⟩:∃n,T.length=n:=⟨_,rfl⟩;rw[hn] at P hl;obtain⟨cs0,hmk,hcs⟩:=makeTk w n hl;obtain⟨u,hu⟩:∃z,w.alloc (.cells cs0 45)=z:=⟨_,rfl⟩;rw[hu] at hmk;obtain⟨K,hK⟩:∃K,w.heap.size=K:=⟨_,rfl⟩;have b0:Below w.heap.size w u:=by rw[<-hu];exact belA _ _
 have hB:u.heap[K]?=some (.cells cs0 45 (0,0)):=by rw[<-hu,<-hK];exact heap_alloc_new w _
 have HH:Aside (T.length=n/\n<=200/\w.heap.size=K/\(∀k,X k->k<K)):=⟨hn,hl,hK,fun k hk=>by have:=h.lt hk;omega⟩;have ST:Aside (Ta.Tb u X B 200 T/\Ta.Fr X w u/\u.heap[K]?=some (.cells cs0 45 (0,0))/\cs0.size=n*7):=⟨h.below b0,Ta.Fr.below b0,hB,hcs⟩;rw[hK] at hmk;clear h hn hu b0 hB hcs hK;go_enter Tryz.func52,Tryz.ntmps52
 go_wp2_with fail
 refine P.mono ?_;rintro e w1 ⟨rfl,rfl⟩;clear P
 go_wp2_with fail
 go_loopg [4,10] n (fun kx s4 s10 wr=>∃(k:Nat),s10=.int .i64 k/\k<=n/\n-k<=kx/\Aside (Ta.Tb wr X B 200 T/\Ta.Fr X w1 wr/\∃cs,wr.heap[K]?=some (.cells cs 45 (0,0))/\cs.size=n*7/\Fil cs T k))
 case atStart=>exact⟨0,rfl,by omega,by omega,ST.out.1,ST.out.2.1,cs0,ST.out.2.2.1,ST.out.2.2.2,fun i hi=>by omega⟩
 case round=>
  obtain⟨k,rfl,hk,hkx,S1⟩:=hrel;by_cases c:k<n
  ·have hlt:(k:Int)<(n:Int):=by omega
   have hkd:k<T.length:=by rw[HH.out.1];exact c
   obtain⟨x,hx⟩:∃x,T[k]?=some x:=⟨_,List.getElem?_eq_getElem hkd⟩;have P:=Ta.getG S1.out.1 hx;obtain⟨I1,hI1⟩:∃I1,(k:Int)+1=I1:=⟨_,rfl⟩;have hwr:IntKind.i64.wrap ((k:Int)+1)=I1:=by rw[IntKind.wrap_i64];omega
   rw[hI1] at P;have HX:Aside (T[k]?=some x/\(k:Int)+1=I1):=⟨hx,hI1⟩;clear hx hkd hI1
   go_wp2_with fail
   refine P.mono ?_;rintro e w2 ⟨rfl,T2,s2⟩;clear P;obtain⟨_,f1,cs,hcs,hsz,hfil⟩:=S1.out;have hK2:w2.heap[K]?=some (.cells cs 45 (0,0)):=(s2.fr.block K (lt_of_block hcs) (fun e=>by have:=HH.out.2.2.2 K e;omega)).trans hcs;obtain⟨O,hO⟩:∃O,k*7=O:=⟨_,rfl⟩;have hOs:O+7<=cs.size:=by omega
   have cl:∀j,j<7->∃z,w2.cell? ⟨K,O+j,none⟩=some z:=fun j hj=>⟨cs[O+j]'(by omega),by rw[cell_of_row _ _ _ _ _ _ hK2,Array.getElem?_eq_getElem (by omega)]⟩;obtain⟨z0,m0⟩:=cl 0 (by omega);rw[Nat.add_zero] at m0;obtain⟨z1,m1⟩:=cl 1 (by omega);obtain⟨z2,m2⟩:=cl 2 (by omega);obtain⟨z3,m3⟩:=cl 3 (by omega);obtain⟨z4,m4⟩:=cl 4 (by omega);obtain⟨z5,m5⟩:=cl 5 (by omega);obtain⟨z6,m6⟩:=cl 6 (by omega);have mlt:=lt_of_block hK2;have mfz:∀o,w2.frozen? ⟨K,o,none⟩=false:=(fun o=>by simp[World.frozen?,hK2]);have E:Aside ((((((((w2.setCell ⟨K,O,none⟩ (.int .i64 I1)).setCell ⟨K,O+1,none⟩ (.int .i64 x.prio)).setCell ⟨K,O+2,none⟩ (.int .i64 x.s)).setCell ⟨K,O+3,none⟩ (.int .u64 x.due)).setCell ⟨K,O+4,none⟩ (.int .u64 x.key)).setCell ⟨K,O+5,none⟩ (.int .u64 x.r)).setCell ⟨K,O+6,none⟩ (.int .u64 x.m)).heap[K]?=some (.cells (set7 cs O (.int .i64 I1) (.int .i64 x.prio) (.int .i64 x.s) (.int .u64 x.due) (.int .u64 x.key) (.int .u64 x.r) (.int .u64 x.m)) 45 (0,0))):=set_at (set_at (set_at (set_at (set_at (set_at (set_at hK2 _) _) _) _) _) _) _;have sK:∀(u0:World)(j:Nat)(z:Value),Ta.Fr (fun k=>k=K) u0 (u0.setCell ⟨K,j,none⟩ z):=fun u0 j z=>Ta.Fr.setCell (fun k=>k=K) u0 K j z rfl
   have FK:Ta.Fr (fun k=>k=K) w2 (((((((w2.setCell ⟨K,O,none⟩ (.int .i64 I1)).setCell ⟨K,O+1,none⟩ (.int .i64 x.prio)).setCell ⟨K,O+2,none⟩ (.int .i64 x.s)).setCell ⟨K,O+3,none⟩ (.int .u64 x.due)).setCell ⟨K,O+4,none⟩ (.int .u64 x.key)).setCell ⟨K,O+5,none⟩ (.int .u64 x.r)).setCell ⟨K,O+6,none⟩ (.int .u64 x.m)):=
    ((((((sK w2 O _).trans (sK _ (O+1) _) (fun j hj=>.inl hj)).trans (sK _ (O+2) _) (fun j hj=>.inl hj)).trans (sK _ (O+3) _) (fun j hj=>.inl hj)).trans (sK _ (O+4) _) (fun j hj=>.inl hj)).trans (sK _ (O+5) _) (fun j hj=>.inl hj)).trans (sK _ (O+6) _) (fun j hj=>.inl hj)
   have FIN:Aside (Ta.Tb (((((((w2.setCell ⟨K,O,none⟩ (.int .i64 I1)).setCell ⟨K,O+1,none⟩ (.int .i64 x.prio)).setCell ⟨K,O+2,none⟩ (.int .i64 x.s)).setCell ⟨K,O+3,none⟩ (.int .u64 x.due)).setCell ⟨K,O+4,none⟩ (.int .u64 x.key)).setCell ⟨K,O+5,none⟩ (.int .u64 x.r)).setCell ⟨K,O+6,none⟩ (.int .u64 x.m)) X B 200 T/\Ta.Fr X w1 (((((((w2.setCell ⟨K,O,none⟩ (.int .i64 I1)).setCell ⟨K,O+1,none⟩ (.int .i64 x.prio)).setCell ⟨K,O+2,none⟩ (.int .i64 x.s)).setCell ⟨K,O+3,none⟩ (.int .u64 x.due)).setCell ⟨K,O+4,none⟩ (.int .u64 x.key)).setCell ⟨K,O+5,none⟩ (.int .u64 x.r)).setCell ⟨K,O+6,none⟩ (.int .u64 x.m))/\∃cs,(((((((w2.setCell ⟨K,O,none⟩ (.int .i64 I1)).setCell ⟨K,O+1,none⟩ (.int .i64 x.prio)).setCell ⟨K,O+2,none⟩ (.int .i64 x.s)).setCell ⟨K,O+3,none⟩ (.int .u64 x.due)).setCell ⟨K,O+4,none⟩ (.int .u64 x.key)).setCell ⟨K,O+5,none⟩ (.int .u64 x.r)).setCell ⟨K,O+6,none⟩ (.int .u64 x.m)).heap[K]?=some (.cells cs 45 (0,0))/\cs.size=n*7/\Fil cs T (k+1)):=by
    refine⟨T2.fr FK (fun k hk e=>by have:=HH.out.2.2.2 k hk;omega),(f1.trans s2.fr (fun j hj=>.inl hj)).trans FK (fun j hj=>.inr (by rw[HH.out.2.2.1];exact Nat.le_of_eq hj.symm)),_,E.out,by rw[set7_size];exact hsz,?_⟩;have:=(show Fil cs T k from hfil).up HX.out.1 (by omega);rw[hO,HX.out.2] at this;exact this
   clear T2 s2 f1 hcs hsz hfil hK2 cl FK sK E S1 hOs
   go_wp2_with fail
   go_roundg (n-(k+1))
   case measure=>omega
   case rel=>exact⟨k+1,congrArg (Value.int .i64) (by have:=HX.out.2;omega),by omega,Nat.le_refl _,FIN⟩
  ·obtain rfl:k=n:=by omega
   have hnl:¬(k:Int)<(k:Int):=by omega
   have FIN:Aside (AllIs w1 X B T (.returned (.slice (some ⟨K,0,none⟩) k k)) wr):=by
    obtain⟨t1,f1,cs,hcs,hsz,hfil⟩:=S1.out;exact⟨K,cs,by rw[HH.out.1],by rw[HH.out.2.2.1];exact Nat.le_refl _,hcs,by rw[HH.out.1];exact hfil,t1,f1⟩
   go_wp2_with fail
   go_ret;exact FIN.out
end
section
open Go.RowKit Go.Lib Go.WideMaps Go.Maps
variable {w w' u:World}{L i:Nat}{D:CAd}{F F':Nat->Nat->Prop}{g v:Value}{σ:CS}{x:Ta.TR}
theorem infoEs:∃i,Tryz.prog.info? 33=some i/\i.zero=some (.slice none 0 0)/\i.size=1/\i.bytes=24:=by
 have h:(Tryz.prog.info? 33).map (fun i=>(i.zero,i.size,i.bytes))=some (some (.slice none 0 0),1,24):=by kernel_rfl
 obtain⟨i,h1,h2⟩:=Option.map_eq_some_iff.1 h;simp at h2;exact⟨i,h1,h2.1,h2.2.1,h2.2.2⟩
theorem makeEs(w:World)(n:Nat)(hn:n<=8) :
  ∃cs:Array Value,(Instr.makeSlice 38 (.int .i64 (n:Int)) (.int .i64 (n:Int))).run Tryz.prog w=.ok (.slice (some ⟨w.heap.size,0,none⟩) n n) (w.alloc (.cells cs 33))/\cs.size=n:=by
 obtain⟨i,hi,hz,hs,hby⟩:=infoEs;have hm:=run_make (P:=Tryz.prog) w 38 33 i _ Tryz.underlying38 hi hz .i64 .i64 n n (by omega) (Int.le_refl _) (by rw[hby];omega) (by omega);simp only[Int.toNat_natCast,hs] at hm;exact⟨_,hm,by simp[madeCells]⟩
theorem localsC(C:Co w L D F g v σ):Calls Tryz.prog 54 #[pt D.B] w fun e w'=>∃K,e=.returned (.slice (some ⟨K,0,none⟩) σ.th σ.th)/\Below w.heap.size w w':=by
 have c0:=C.c0;obtain⟨n,hn⟩:∃n,σ.th=n:=⟨_,rfl⟩;obtain⟨cs0,hmk,hcs⟩:=makeEs w n (by have:=C.th8;omega);obtain⟨u,hu⟩:∃z,w.alloc (.cells cs0 33)=z:=⟨_,rfl⟩;rw[hu] at hmk;obtain⟨K,hK⟩:∃K,w.heap.size=K:=⟨_,rfl⟩;have b0:Below w.heap.size w u:=by rw[<-hu];exact belA _ _
 have hB:u.heap[K]?=some (.cells cs0 33 (0,0)):=by rw[<-hu,<-hK];exact heap_alloc_new w _
 have HC:Aside (Co w L D F g v σ/\σ.th=n/\w.heap.size=K):=⟨C,hn,hK⟩;have ST:Aside (Below w.heap.size w u/\u.heap[K]?=some (.cells cs0 33 (0,0))/\cs0.size=n):=⟨b0,hB,hcs⟩;have hn8:n<=8:=by have:=C.th8;omega
 rw[hK] at hmk;rw[hn] at c0;rw[hn];clear C hu b0 hB hcs hn;go_enter Tryz.func54,Tryz.ntmps54
 go_wp2_with fail
 go_loopg [4,13] n (fun kx s4 s13 wr=>∃(k:Nat),s13=.int .i64 k/\k<=n/\n-k<=kx/\Aside (Below w.heap.size w wr/\∃cs,wr.heap[K]?=some (.cells cs 33 (0,0))/\cs.size=n))
 case atStart=>exact⟨0,rfl,by omega,by omega,ST.out.1,cs0,ST.out.2.1,ST.out.2.2⟩
 case round=>
  obtain⟨k,rfl,hk,hkx,S1⟩:=hrel;by_cases c:k<n
  ·have hlt:(k:Int)<(n:Int):=by omega
   have C1:=HC.out.1.below S1.out.1;have c4:=C1.c4;obtain⟨m,hm⟩:∃m,(σ.q.ls k).flatten.length=m:=⟨_,rfl⟩;have P:=Qu.qlocal_in wr L D.A σ.th σ.k σ.qn σ.q k m C1.que C1.qok C1.k16 (by rw[HC.out.2.1];exact c) C1.th8 hm;clear C1 hm
   go_wp2_with fail
   refine Calls.mono P ?_;rintro e w2 ⟨a2,cap2,rfl,o2,b2⟩;clear P c4 o2;obtain⟨b1,cs,hcs,hsz⟩:=S1.out;have hK2:w2.heap[K]?=some (.cells cs 33 (0,0)):=(b2.block K (lt_of_block hcs)).trans hcs;have m0:w2.cell? ⟨K,k,none⟩=some (cs[k]'(by omega)):=by rw[cell_of_row _ _ _ _ _ _ hK2,Array.getElem?_eq_getElem (by omega)]
   obtain⟨z0,hz0⟩:∃z,cs[k]'(by omega)=z:=⟨_,rfl⟩;rw[hz0] at m0;have mlt:=lt_of_block hK2;have mfz:∀o,w2.frozen? ⟨K,o,none⟩=false:=(fun o=>by simp[World.frozen?,hK2]);have FIN:Aside (Below w.heap.size w (w2.setCell ⟨K,k,none⟩ (.slice a2 m cap2))/\∃cs,(w2.setCell ⟨K,k,none⟩ (.slice a2 m cap2)).heap[K]?=some (.cells cs 33 (0,0))/\cs.size=n):=⟨(belT b1 b2).setCell (by rw[HC.out.2.2];exact Nat.le_refl _) _,_,set_at hK2 _,by simp;exact hsz⟩;clear b1 b2 hcs hsz hK2 S1 hz0
   go_wp2_with fail
   go_roundg (n-(k+1))
   case measure=>omega
   case rel=>exact⟨k+1,by go_num,by omega,Nat.le_refl _,FIN⟩
  ·have hnl:¬(k:Int)<(n:Int):=by omega
   have FIN:Aside (Below w.heap.size w wr):=S1.out.1;clear S1
   go_wp2_with fail
   go_ret;exact⟨⟨K,rfl⟩,by first|exact FIN.out|(rw[HC.out.2.2];exact FIN.out)|(rw[<-HC.out.2.2];exact FIN.out)⟩
def StIs(L:Nat)(D:CAd)(F:Nat->Nat->Prop)(w:World)(σ:CS)(e:Ending)(w':World):Prop:=∃K cs s1 n1 c1 s2 n2 c2 s3 n3 c3 s4 c4 F' g' v',e=.returned (.agg #[.int .u64 σ.now,.int .u64 σ.tk,.bool σ.cl,.int .i64 ((σ.n:Int)-σ.o),.slice (some ⟨K,0,none⟩) σ.T.length σ.T.length,.slice s1 n1 c1,.slice s2 n2 c2,.slice s3 n3 c3,.slice s4 σ.tm.length c4])/\Co w' L D F' g' v' σ/\Gc L F w F' w'/\Bx w' F' K cs 45/\Fil cs σ.T σ.T.length
theorem Co.hd6(C:Co w L D F g v σ):w.cell? ⟨D.B,3,none⟩=some (pt D.Bt)/\w.cell? ⟨D.B,4,none⟩=some (pt D.A.B)/\w.cell? ⟨D.B,5,none⟩=some (pt D.Bw)/\w.cell? ⟨D.B,7,none⟩=some (pt D.ca)/\w.cell? ⟨D.B,8,none⟩=some (.int .u64 σ.tk)/\w.cell? ⟨D.B,9,none⟩=some (.bool σ.cl):=⟨C.c3,C.c4,C.c5,C.c7,C.c8,C.c9⟩
theorem Co.fr1{K:Nat}{cs:Array Value}{U:TypeId}(C:Co w L D F g v σ)(hB:Bx w F K cs U)(hU:¬QT U)(f:Ta.Fr (fun k=>k=K) w w'):Co w' L D F g v σ:=by
 have KK:K8 (fun q=>False) w' L D F g v σ:=C.keep (fun q=>False) f (fun q _ k hk hy=>by subst hy;exact hB.2 q hk) (fun _ k hk=>by subst hk;exact nq_of hB.1 hU);exact⟨KK.head (by simp),KK.tab (by simp),KK.que (by simp),KK.whl (by simp),KK.dag (by simp),KK.cre (by simp),KK.evs (by simp),KK.gon (by simp),C.f0,C.f2,C.f5,C.f6,C.f7,C.f8,C.fp.grow f.size,le_trans C.lw f.size,le_trans C.wb f.size,C.qok,C.th1,C.th8,C.k16⟩
theorem Gc.own{w0:World}{F0:Nat->Nat->Prop}{K:Nat}(G:Gc L F0 w0 F w)(hK:w0.heap.size<=K)(hL:L<=w0.heap.size)(f:Ta.Fr (fun k=>k=K) w w'):Gc L F0 w0 F w':=
 ⟨⟨G.low.trans (f.toBelow (fun k hk=>by subst hk;exact le_trans hL hK) (le_trans hL G.size)),fun k hk hF hU=>(f.block k (Nat.lt_of_lt_of_le hk G.size) (fun e=>by subst e;omega)).trans (G.block k hk hF hU),G.new⟩,fun k cs fr hk=>by
  obtain⟨cs',h1,e1⟩:=G.hd k cs fr hk;exact⟨cs',(f.block k (lt_of_block h1) (fun e=>by have:=lt_of_block hk;omega)).trans h1,e1⟩⟩
theorem mq_st:¬Qu.MQ 41:=by unfold Qu.MQ;decide
theorem qt_st:¬QT 41:=by unfold QT;decide
theorem Co.freeC(C:Co w L D F g v σ):Calls Tryz.prog 51 #[pt D.ca] w fun e w'=>e=.returned (.int .i64 ((σ.n:Int)-σ.o))/\Cox L D F w σ w':=by
 refine(Ca.free_any w C.cre).mono ?_;rintro e w' ⟨rfl,h,s⟩;obtain⟨C',G'⟩:=C.setCre h s;exact⟨rfl,_,_,_,C',G'⟩
theorem Co.allC(C:Co w L D F g v σ):Calls Tryz.prog 52 #[pt D.Bt] w fun e w'=>∃K cs,e=.returned (.slice (some ⟨K,0,none⟩) σ.T.length σ.T.length)/\∃F',(∃g' v',Co w' L D F' g' v' σ)/\Gc L F w F' w'/\Bx w' F' K cs 45/\Fil cs σ.T σ.T.length:=by
 refine(allT C.tab).mono ?_;rintro e w' ⟨K,cs,rfl,lK,hK,fil,T',f⟩;obtain⟨C',G'⟩:=C.setTab T' ⟨f,fun k hk=>.inl hk⟩;rw[fset_id] at C' G';exact⟨K,cs,rfl,F,⟨_,_,C'⟩,G',⟨hK,fun p hp=>by have:=C.fp.lt p K hp;omega⟩,fil⟩
theorem Co.slotsC(C:Co w L D F g v σ):Calls Tryz.prog 53 #[pt D.A.B] w fun e w'=>∃a n cap,e=.returned (.slice a n cap)/\Below w.heap.size w w':=by
 refine Calls.mono (Qu.qslots_any w L D.A σ.th σ.k σ.q _ C.que rfl) ?_;rintro e w' ⟨a,cap,rfl,_,b⟩;exact⟨a,_,cap,rfl,b⟩
theorem Co.sharedC(C:Co w L D F g v σ)(hn:σ.qn<=1000):Calls Tryz.prog 55 #[pt D.A.B] w fun e w'=>∃a n cap,e=.returned (.slice a n cap)/\Below w.heap.size w w':=by
 refine Calls.mono (Qu.qshared_any w L D.A σ.th σ.k σ.qn σ.q _ C.que C.qok hn rfl) ?_;rintro e w' ⟨a,cap,rfl,_,b⟩;exact⟨a,_,cap,rfl,b⟩
theorem Co.wallC(C:Co w L D F g v σ):Calls Tryz.prog 56 #[pt D.Bw] w fun e w'=>∃a cap,e=.returned (.slice a σ.tm.length cap)/\Wl.OwnF w' w.heap.size (.slice a σ.tm.length cap) σ.tm/\Below w.heap.size w w':=by
 refine Calls.mono (Wl.all_any C.whl) ?_;rintro e w' ⟨v,rfl,o,b⟩;rcases o with⟨hd,hv|⟨gg,off,hv⟩⟩|⟨gg,off,cap,hv,r⟩
 ·refine⟨none,0,?_,.inl ⟨hd,.inl ?_⟩,b⟩
  ·rw[hv,hd];rfl
  ·rw[hd];rfl
 ·refine⟨some ⟨gg,off,none⟩,0,?_,.inl ⟨hd,.inr ⟨gg,off,?_⟩⟩,b⟩
  ·rw[hv,hd];rfl
  ·rw[hd];rfl
 ·exact⟨some ⟨gg,off,none⟩,cap,by rw[hv],.inr ⟨gg,off,cap,rfl,r⟩,b⟩
def z9:Array Value:=#[.int .u64 0,.int .u64 0,.bool false,.int .i64 0,.slice none 0 0,.slice none 0 0,.slice none 0 0,.slice none 0 0,.slice none 0 0]
def set9(w:World)(K:Nat)(a0 a1 a2 a3 a4 a5 a6 a7 a8:Value):World:=((((((((w.setCell ⟨K,0,none⟩ a0).setCell ⟨K,1,none⟩ a1).setCell ⟨K,2,none⟩ a2).setCell ⟨K,3,none⟩ a3).setCell ⟨K,4,none⟩ a4).setCell ⟨K,5,none⟩ a5).setCell ⟨K,6,none⟩ a6).setCell ⟨K,7,none⟩ a7).setCell ⟨K,8,none⟩ a8
theorem set9_fr(w:World)(K:Nat)(a0 a1 a2 a3 a4 a5 a6 a7 a8:Value):Ta.Fr (fun k=>k=K) w (set9 w K a0 a1 a2 a3 a4 a5 a6 a7 a8):=by
 have sK:∀(u0:World)(j:Nat)(z:Value),Ta.Fr (fun k=>k=K) u0 (u0.setCell ⟨K,j,none⟩ z):=fun u0 j z=>Ta.Fr.setCell (fun k=>k=K) u0 K j z rfl;exact((((((((sK w 0 _).trans (sK _ 1 _) (fun j hj=>.inl hj)).trans (sK _ 2 _) (fun j hj=>.inl hj)).trans (sK _ 3 _) (fun j hj=>.inl hj)).trans (sK _ 4 _) (fun j hj=>.inl hj)).trans (sK _ 5 _) (fun j hj=>.inl hj)).trans (sK _ 6 _) (fun j hj=>.inl hj)).trans (sK _ 7 _) (fun j hj=>.inl hj)).trans (sK _ 8 _) (fun j hj=>.inl hj)
theorem set9_at{w:World}{K:Nat}(h:w.heap[K]?=some (.cells z9 41 (0,0)))(a0 a1 a2 a3 a4 a5 a6 a7 a8:Value):(set9 w K a0 a1 a2 a3 a4 a5 a6 a7 a8).heap[K]?=some (.cells #[a0,a1,a2,a3,a4,a5,a6,a7,a8] 41 (0,0)):=by
 unfold set9;rw[set_at (set_at (set_at (set_at (set_at (set_at (set_at (set_at (set_at h a0) a1) a2) a3) a4) a5) a6) a7) a8];simp[z9]
theorem stateC(C:Co w L D F g v σ)(hn:σ.qn<=1000):Calls Tryz.prog 11 #[pt D.B] w (StIs L D F w σ):=by
 obtain⟨K,hK⟩:∃J,w.heap.size=J:=⟨_,rfl⟩;obtain⟨u,hu⟩:∃z,w.alloc (.cells z9 41)=z:=⟨_,rfl⟩;have b0:Below w.heap.size w u.drew:=by rw[<-hu];exact(belA _ _).drew
 have BK:Bx u.drew F K z9 41:=by rw[<-hu,<-hK];exact Bx.new C _ _
 have C0:=C.below b0;have HC:Aside (Co u.drew L D F g v σ/\Gc L F w F u.drew/\Bx u.drew F K z9 41/\σ.qn<=1000/\L<=w.heap.size/\w.heap.size=K):=⟨C0,Gc.below F C.lw b0,BK,hn,C.lw,hK⟩;have h0:=C0.hd6;have NW:Aside (Calls Tryz.prog 50 #[pt D.Bw] u.drew fun e w'=>e=.returned (.int .u64 σ.now)/\w'=u.drew):=Wl.now_any C0.whl;have PF:Aside (Calls Tryz.prog 51 #[pt D.ca] u.drew fun e w'=>e=.returned (.int .i64 ((σ.n:Int)-σ.o))/\Cox L D F u.drew σ w'):=C0.freeC;obtain⟨fr,hfr⟩:∃fr,(σ.n:Int)-σ.o=fr:=⟨_,rfl⟩;rw[hfr] at PF;obtain⟨nT,hnT⟩:∃nT,σ.T.length=nT:=⟨_,rfl⟩;obtain⟨nM,hnM⟩:∃nT,σ.tm.length=nT:=⟨_,rfl⟩;obtain⟨nH,hnH⟩:∃nT,σ.th=nT:=⟨_,rfl⟩;have HL:Aside ((σ.n:Int)-σ.o=fr/\σ.T.length=nT/\σ.tm.length=nM/\σ.th=nH):=⟨hfr,hnT,hnM,hnH⟩;have HU:Aside (w.alloc (.cells #[.int .u64 0,.int .u64 0,.bool false,.int .i64 0,.slice none 0 0,.slice none 0 0,.slice none 0 0,.slice none 0 0,.slice none 0 0] 41)=u):=hu;have HK:Aside _:=hK;clear C C0 hu hK b0 BK hn hfr hnT hnM hnH;go_enter Tryz.func11,Tryz.ntmps11
 go_upto_region 1 with fail
 rw[HU.out];try simp only[HK.out]
 go_region_held3 (fun W=>W.cell? ⟨D.B,3,none⟩=some (pt D.Bt)/\W.cell? ⟨D.B,4,none⟩=some (pt D.A.B)/\W.cell? ⟨D.B,5,none⟩=some (pt D.Bw)/\W.cell? ⟨D.B,7,none⟩=some (pt D.ca)/\W.cell? ⟨D.B,8,none⟩=some (.int .u64 σ.tk)/\W.cell? ⟨D.B,9,none⟩=some (.bool σ.cl)) (first|with_reducible exact h0|with_reducible exact h1|with_reducible exact h2|with_reducible exact h3|with_reducible exact h4|with_reducible exact h5|with_reducible exact h6|exact K9.out _ _ _ _ _ _ _ _ _)
  ((first
   | (go_at_call 56;(with_reducible refine Calls.mono PW.out ?_);rintro e w6 ⟨s4,c4,rfl,b6⟩;have C6:Aside (Co w6 L D F2 g2 v2 σ):=C5.out.below b6;have h6:=C6.out.hd6;have B6:Aside (Bx w6 F2 K z9 41/\Bx w6 F2 KT cs 45):=⟨B5.out.1.below b6,B5.out.2.below b6⟩;have K9:Aside (∀a0 a1 a2 a3 a4 a5 a6 a7 a8,(set9 w6 K a0 a1 a2 a3 a4 a5 a6 a7 a8).cell? ⟨D.B,3,none⟩=some (pt D.Bt)/\(set9 w6 K a0 a1 a2 a3 a4 a5 a6 a7 a8).cell? ⟨D.B,4,none⟩=some (pt D.A.B)/\(set9 w6 K a0 a1 a2 a3 a4 a5 a6 a7 a8).cell? ⟨D.B,5,none⟩=some (pt D.Bw)/\(set9 w6 K a0 a1 a2 a3 a4 a5 a6 a7 a8).cell? ⟨D.B,7,none⟩=some (pt D.ca)/\(set9 w6 K a0 a1 a2 a3 a4 a5 a6 a7 a8).cell? ⟨D.B,8,none⟩=some (.int .u64 σ.tk)/\(set9 w6 K a0 a1 a2 a3 a4 a5 a6 a7 a8).cell? ⟨D.B,9,none⟩=some (.bool σ.cl)):=(fun a0 a1 a2 a3 a4 a5 a6 a7 a8=>(C6.out.fr1 B6.out.1 qt_st (set9_fr w6 K a0 a1 a2 a3 a4 a5 a6 a7 a8)).hd6);have m0:w6.cell? ⟨K,0,none⟩=some (.int .u64 0):=(B6.out.1.cell 0);have m1:w6.cell? ⟨K,1,none⟩=some (.int .u64 0):=(B6.out.1.cell 1);have m2:w6.cell? ⟨K,2,none⟩=some (.bool false):=(B6.out.1.cell 2);have m3:w6.cell? ⟨K,3,none⟩=some (.int .i64 0):=(B6.out.1.cell 3);have m4:w6.cell? ⟨K,4,none⟩=some (.slice none 0 0):=(B6.out.1.cell 4);have m5:w6.cell? ⟨K,5,none⟩=some (.slice none 0 0):=(B6.out.1.cell 5);have m6:w6.cell? ⟨K,6,none⟩=some (.slice none 0 0):=(B6.out.1.cell 6);have m7:w6.cell? ⟨K,7,none⟩=some (.slice none 0 0):=(B6.out.1.cell 7);have m8:w6.cell? ⟨K,8,none⟩=some (.slice none 0 0):=(B6.out.1.cell 8);have mlt:=lt_of_block B6.out.1.1;have mfz:∀o,w6.frozen? ⟨K,o,none⟩=false:=(fun o=>by simp[World.frozen?,B6.out.1.1]))
   | (go_at_call 55;(with_reducible refine Calls.mono PH.out ?_);rintro e w5 ⟨s3,n3,c3,rfl,b5⟩;have C5:Aside (Co w5 L D F2 g2 v2 σ):=C4.out.below b5;have h5:=C5.out.hd6;have B5:Aside (Bx w5 F2 K z9 41/\Bx w5 F2 KT cs 45):=⟨B4.out.1.below b5,B4.out.2.below b5⟩;have PW:Aside (Calls Tryz.prog 56 #[pt D.Bw] w5 fun e w'=>∃a cap,e=.returned (.slice a nM cap)/\Below w5.heap.size w5 w'):=(by have:=C5.out.wallC;rw[HL.out.2.2.1] at this;exact this.mono (fun e w' ⟨a,cap,h1,_,h2⟩=>⟨a,cap,h1,h2⟩)))
   | (go_at_call 54;(with_reducible refine Calls.mono PL.out ?_);rintro e w4 ⟨K4,rfl,b4⟩;have C4:Aside (Co w4 L D F2 g2 v2 σ):=C3.out.below b4;have h4:=C4.out.hd6;have B4:Aside (Bx w4 F2 K z9 41/\Bx w4 F2 KT cs 45):=⟨B3.out.1.below b4,B3.out.2.below b4⟩;have PH:Aside (Calls Tryz.prog 55 #[pt D.A.B] w4 fun e w'=>∃a n cap,e=.returned (.slice a n cap)/\Below w4.heap.size w4 w'):=C4.out.sharedC HC.out.2.2.2.1)
   | (go_at_call 53;(with_reducible refine Calls.mono PS.out ?_);rintro e w3 ⟨s1,n1,c1,rfl,b3⟩;have C3:Aside (Co w3 L D F2 g2 v2 σ):=C2.out.below b3;have h3:=C3.out.hd6;have B3:Aside (Bx w3 F2 K z9 41/\Bx w3 F2 KT cs 45):=⟨B2.out.1.below b3,B2.out.2.below b3⟩;have PL:Aside (Calls Tryz.prog 54 #[pt D.B] w3 fun e w'=>∃K,e=.returned (.slice (some ⟨K,0,none⟩) nH nH)/\Below w3.heap.size w3 w'):=(by have:=localsC C3.out;rw[HL.out.2.2.2] at this;exact this))
   | (go_at_call 52;(with_reducible refine Calls.mono PT.out ?_);rintro e w2 ⟨KT,cs,rfl,F2,⟨g2,v2,C2'⟩,G2,BT,fil⟩;have C2:Aside (Co w2 L D F2 g2 v2 σ):=C2';have h2:=C2'.hd6;have B2:Aside (Bx w2 F2 K z9 41/\Bx w2 F2 KT cs 45):=⟨B1.out.gc mq_st G2,BT⟩;have X2:Aside (Gc L F w F2 w2):=X1.out.trans G2;have FIL:Aside _:=fil;have PS:Aside (Calls Tryz.prog 53 #[pt D.A.B] w2 fun e w'=>∃a n cap,e=.returned (.slice a n cap)/\Below w2.heap.size w2 w'):=C2'.slotsC;clear C2' G2 BT fil)
   | (go_at_call 51;(with_reducible refine Calls.mono PF.out ?_);rintro e w1 ⟨rfl,F1,g1,v1,C1,G1⟩;have h1:=C1.hd6;have B1:Aside (Bx w1 F1 K z9 41):=HC.out.2.2.1.gc mq_st G1;have X1:Aside (Gc L F w F1 w1):=HC.out.2.1.trans G1;have PT:Aside (Calls Tryz.prog 52 #[pt D.Bt] w1 fun e w'=>∃K cs,e=.returned (.slice (some ⟨K,0,none⟩) nT nT)/\∃F',(∃g' v',Co w' L D F' g' v' σ)/\Gc L F1 w1 F' w'/\Bx w' F' K cs 45/\Fil cs σ.T nT):=(by have:=C1.allC;rw[HL.out.2.1] at this;exact this);clear C1 G1)
   | (go_at_call 50;(with_reducible refine Calls.mono NW.out ?_);rintro e v2 ⟨rfl,rfl⟩)))
 have E:Aside ((set9 w6 K (.int .u64 σ.now) (.int .u64 σ.tk) (.bool σ.cl) (.int .i64 fr) (.slice (some ⟨KT,0,none⟩) nT nT) (.slice s1 n1 c1) (.slice (some ⟨K4,0,none⟩) nH nH) (.slice s3 n3 c3) (.slice s4 nM c4)).heap[K]?=some (.cells #[.int .u64 σ.now,.int .u64 σ.tk,.bool σ.cl,.int .i64 fr,.slice (some ⟨KT,0,none⟩) nT nT,.slice s1 n1 c1,.slice (some ⟨K4,0,none⟩) nH nH,.slice s3 n3 c3,.slice s4 nM c4] 41 (0,0))):=set9_at B6.out.1.1 _ _ _ _ _ _ _ _ _
 have FIN:Aside (StIs L D F w σ (.returned (.agg #[.int .u64 σ.now,.int .u64 σ.tk,.bool σ.cl,.int .i64 fr,.slice (some ⟨KT,0,none⟩) nT nT,.slice s1 n1 c1,.slice (some ⟨K4,0,none⟩) nH nH,.slice s3 n3 c3,.slice s4 nM c4])) (set9 w6 K (.int .u64 σ.now) (.int .u64 σ.tk) (.bool σ.cl) (.int .i64 fr) (.slice (some ⟨KT,0,none⟩) nT nT) (.slice s1 n1 c1) (.slice (some ⟨K4,0,none⟩) nH nH) (.slice s3 n3 c3) (.slice s4 nM c4))):=by
  have f:=set9_fr w6 K (.int .u64 σ.now) (.int .u64 σ.tk) (.bool σ.cl) (.int .i64 fr) (.slice (some ⟨KT,0,none⟩) nT nT) (.slice s1 n1 c1) (.slice (some ⟨K4,0,none⟩) nH nH) (.slice s3 n3 c3) (.slice s4 nM c4);have G6:Gc L F w F2 w6:=X2.out.trans (Gc.below F2 C2.out.lw (belT b3 (belT b4 (belT b5 b6))));have KT6:=B6.out.2
  have hne:KT≠K:=fun e=>by
   have h1:=KT6.1;have h2:=B6.out.1.1;rw[e,h2] at h1;simp only[Option.some.injEq,Obj.cells.injEq] at h1;exact absurd h1.2.1 (by decide)
  refine⟨KT,cs,s1,n1,c1,some ⟨K4,0,none⟩,nH,nH,s3,n3,c3,s4,c4,F2,g2,v2,?_,C6.out.fr1 B6.out.1 qt_st f,G6.own (Nat.le_of_eq HC.out.2.2.2.2.2) HC.out.2.2.2.2.1 f,⟨(f.block KT (lt_of_block KT6.1) hne).trans KT6.1,KT6.2⟩,?_⟩
  ·rw[HL.out.1,HL.out.2.1,HL.out.2.2.1]
  ·rw[HL.out.2.1];exact FIL.out
 clear h0 h1 h2 h3 h4 h5 h6 b3 b4 b5 b6 m0 m1 m2 m3 m4 m5 m6 m7 m8 mlt mfz;have eb:=fun j=>cell_of_row _ _ j _ _ _ E.out;unfold set9 at eb FIN
 go_wp2_with fail
 have q0:=eb 0;have q1:=eb 1;have q2:=eb 2;have q3:=eb 3;have q4:=eb 4;have q5:=eb 5;have q6:=eb 6;have q7:=eb 7;have q8:=eb 8;refine bodyPost_ret (v:=.agg #[.int .u64 σ.now,.int .u64 σ.tk,.bool σ.cl,.int .i64 fr,.slice (some ⟨KT,0,none⟩) nT nT,.slice s1 n1 c1,.slice (some ⟨K4,0,none⟩) nH nH,.slice s3 n3 c3,.slice s4 nM c4]) (by simp[results,Tryz.results11,go_sem,q0,q1,q2,q3,q4,q5,q6,q7,q8]) rfl ?_;exact FIN.out
end
section
open Go.RowKit Go.Lib Go.WideMaps Go.Maps
variable {w w' u:World}{L i:Nat}{D:CAd}{F F':Nat->Nat->Prop}{g v:Value}{σ:CS}{x:Ta.TR}
def timL(σ:CS):List Int:=Da.sortI (σ.tm.map Prod.snd)
theorem timL_len(σ:CS):(timL σ).length=σ.tm.length:=by rw[timL,Da.sortI_len,length_map]
theorem OwT.frI{v vf:Value}{d:List Wl.Ent}{S:Nat}{l:List Int}(h:OwT w F v d)(o:Owb S w F vf l)(f:Ta.Fr (fun k=>vf.ownBlock=some k) w w'):OwT w' F v d:=by
 refine⟨h.1.of_block fun k hk=>?_,h.2⟩;obtain⟨cs,hc⟩:=h.1.rowT hk;refine f.block k (h.1.rowLt hk).2 (fun e=>?_);obtain⟨cs',hc'⟩:=o.1.rowT e;rw[hc] at hc';simp only[Option.some.injEq,Obj.cells.injEq] at hc';exact absurd hc'.2.1 (by decide)
theorem timedC(C:Co w L D F g v σ)(hl:σ.tm.length<=100000) :
  Calls Tryz.prog 68 #[pt D.B] w fun e w'=>∃a cap,e=.returned (.slice a σ.tm.length cap)/\Owb w.heap.size w' F (.slice a σ.tm.length cap) (timL σ)/\Co w' L D F g v σ/\Gc L F w F w':=by
 have c5:=C.c5
 have P:Calls Tryz.prog 56 #[pt D.Bw] w fun e w'=>∃a cap,e=.returned (.slice a σ.tm.length cap)/\OwT w' F (.slice a σ.tm.length cap) σ.tm/\Co w' L D F g v σ/\Gc L F w F w':=by
  refine C.wallC.mono ?_;rintro e w' ⟨a,cap,rfl,o,b⟩;refine⟨a,cap,rfl,⟨o.low (Nat.zero_le _),fun k hk p hp=>?_⟩,C.below b,Gc.below F C.lw b⟩;have:=C.fp.lt p k hp;have:=(o.rowLt hk).1;omega
 obtain⟨S,hS⟩:∃S,w.heap.size=S:=⟨_,rfl⟩;have HS:Aside (w.heap.size=S/\L<=w.heap.size):=⟨hS,C.lw⟩;obtain⟨n,hn⟩:∃n,σ.tm.length=n:=⟨_,rfl⟩;have HN:Aside (σ.tm.length=n/\n<=100000):=⟨hn,by omega⟩;have hn62:n<=100000:=by omega
 rw[hn] at P;rw[hn,hS];clear C hl hS hn;go_enter Tryz.func68,Tryz.ntmps68
 go_wp2_with fail
 refine P.mono ?_;rintro e w1 ⟨a,cap,rfl,o1,C1,G1⟩;have X1:Aside (Co w1 L D F g v σ/\OwT w1 F (.slice a n cap) σ.tm/\Gc L F w F w1):=⟨C1,o1,G1⟩;have N1:Aside (Owb S w1 F (.slice none 0 0) ((σ.tm.map Prod.snd).take 0)):=Owb.nil _ _ _;clear P C1 o1 G1 c5
 go_wp2_with fail
 go_loopg [3,12] n (fun kx s3 s12 wr=>∃(k:Nat)(vf:Value),s12=.int .i64 k/\vf=s3/\k<=n/\n-k<=kx/\Aside (Co wr L D F g v σ/\OwT wr F (.slice a n cap) σ.tm/\Gc L F w F wr)/\Aside (Owb S wr F vf ((σ.tm.map Prod.snd).take k)))
 case atStart=>exact⟨0,_,rfl,rfl,by omega,by omega,X1,N1⟩
 case round=>
  obtain⟨k,s3,rfl,rfl,hk,hkx,Xr,Nr⟩:=hrel;by_cases c:k<n
  ·have hlt:(k:Int)<(n:Int):=by omega
   obtain⟨gg,off,rfl,glt,hc0,hc1⟩:=Xr.out.2.1.at HN.out.1 c;obtain⟨q1,q2,hq⟩:∃q1 q2,σ.tm.getD k (0,0)=(q1,q2):=⟨_,_,rfl⟩;rw[hq] at hc0 hc1;dsimp only at hc0 hc1;have HQ:Aside _:=hq;obtain⟨Y,hY⟩:∃Y,wr.heap.size=Y:=⟨_,rfl⟩;obtain⟨u2,hu2⟩:∃z,wr.alloc (.cells #[.int .u64 q1,.int .i64 q2] 131)=z:=⟨_,rfl⟩;have b2:Below wr.heap.size wr u2:=by rw[<-hu2];exact belA _ _
   have hd:u2.heap[Y]?=some (.cells #[.int .u64 q1,.int .i64 q2] 131 (0,0)):=by rw[<-hu2,<-hY];exact heap_alloc_new wr _
   have t0:u2.cell? ⟨Y,0,none⟩=some (.int .u64 q1):=cell_of_row _ _ _ _ _ _ hd;have t1:u2.cell? ⟨Y,1,none⟩=some (.int .i64 q2):=cell_of_row _ _ _ _ _ _ hd;have C2:=Xr.out.1.below b2;have G2:=Xr.out.2.2.trans (Gc.below F Xr.out.1.lw b2);have N2:=Nr.out.below b2;have T2:=Xr.out.2.1.below b2
   have hlen:((σ.tm.map Prod.snd).take k).length<1000000:=by
    have:=HN.out.2;rw[List.length_take];omega
   obtain⟨v3,w3,hr3,o3,C3,G3,f3,n3⟩:=N2.push C2 G2 (by have:=HS.out.1;omega) (by have:=G2.size;have:=HS.out.1;omega) HS.out.2 q2 hlen
   have up:(σ.tm.map Prod.snd).take (k+1)=(σ.tm.map Prod.snd).take k++[q2]:=by
    have h1:k<(σ.tm.map Prod.snd).length:=by rw[length_map,HN.out.1];exact c
    rw[List.take_succ_eq_append_getElem h1];congr 2;rw[List.getElem_map]
    have h2:σ.tm[k]'(by simpa using h1)=(q1,q2):=by
     have:=HQ.out;rw[List.getD,List.getElem?_eq_getElem (by simpa using h1)] at this;exact this
    rw[h2]
   have NX:Aside ((Co w3 L D F g v σ/\OwT w3 F (.slice (some ⟨gg,off,none⟩) n cap) σ.tm/\Gc L F w F w3)/\Owb S w3 F v3 ((σ.tm.map Prod.snd).take (k+1))):=⟨⟨C3,T2.frI N2 f3,G3⟩,by rw[up];exact o3⟩;have HY:Aside _:=hY;have HU:Aside _:=hu2;clear C2 G2 N2 T2 o3 C3 G3 f3 n3 up hlen hd b2 hY hu2 hq Xr Nr;go_upto_region 5 with fail
   rw[HU.out,HY.out]
   go_wp2_with (at_builtin;refine Da.wpList_app _ rfl _ _ 22 rfl _ _ rfl rfl v3 w3 hr3 ?_;clear hr3)
   go_roundg (n-(k+1))
   case measure=>omega
   case rel=>exact⟨k+1,_,by go_num,rfl,by omega,Nat.le_refl _,NX.out.1,NX.out.2⟩
  ·have hnl:¬(k:Int)<(n:Int):=by omega
   have ek:(σ.tm.map Prod.snd).take k=σ.tm.map Prod.snd:=List.take_of_length_le (by rw[length_map,HN.out.1];omega);have N1:=Nr.out;rw[ek] at N1;have hl2:(σ.tm.map Prod.snd).length<4611686018427387904:=by rw[length_map,HN.out.1];have:=HN.out.2;omega
   have Q:Calls Tryz.prog 70 #[s3] wr fun e w'=>e=.returned (.tuple #[])/\∃a' cap',s3=.slice a' n cap'/\Owb S w' F s3 (timL σ)/\Co w' L D F g v σ/\Gc L F w F w':=by
    refine(Da.sort_any N1.1 hl2).mono ?_;rintro e w' ⟨rfl,o,gr⟩;have f:Ta.Fr (fun k=>s3.ownBlock=some k) wr w':=ofD (Da.Fr.of_grown gr);obtain⟨a',cap',e',_⟩:=N1.1.isI;refine⟨rfl,a',cap',by rw[e',length_map,HN.out.1],⟨o,N1.2⟩,Xr.out.1.frX f (fun k hk=>⟨N1.2 k hk,?_⟩),Xr.out.2.2.ownX (fun k hk=>by have:=(N1.1.rowLt hk).1;have:=HS.out.1;omega) HS.out.2 f⟩;obtain⟨cs,hc⟩:=N1.1.rowT hk;exact nq_of hc (by unfold QT;decide)
   clear ek N1 hl2 Xr Nr
   go_wp2_with fail
   refine Q.mono ?_;rintro e w4 ⟨rfl,a',cap',rfl,o4,C4,G4⟩;have FIN:Aside (∃a cap,Ending.returned (.slice a' n cap')=.returned (.slice a n cap)/\Owb S w4 F (.slice a n cap) (timL σ)/\Co w4 L D F g v σ/\Gc L F w F w4):=⟨a',cap',rfl,o4,C4,G4⟩;clear Q o4 C4 G4
   go_wp2_with fail
   go_ret;exact FIN.out
end
section
open Go.RowKit Go.Lib Go.WideMaps Go.Maps
variable {w w' u:World}{L i:Nat}{D:CAd}{F F':Nat->Nat->Prop}{g v:Value}{σ:CS}{x:Ta.TR}
def shutE(σ:CS):CS:=tellS {σ with cl:=true} 9 (-1) 0 0
def shutX(σ:CS)(id:Int)(d:List Int):CS:={canL (id::d) (dropE σ id) with gone:=σ.gone++id::d}
def ShutL:List Int->CS->CS->Prop
 | [],σ,τ=>τ=σ
 | id::l,σ,τ=>∃d,KillL σ.E id d/\ShutL l (shutX σ id d) τ
def DropH(σ:CS)(id:Int):Prop:=CanT σ.T id/\σ.N<100000/\(∀j,Da.Rch σ.E id j->Wt σ.T j)/\σ.ev.length+300<1000000/\σ.T.length<=200/\σ.qn+σ.T.countP isC<=1000/\σ.gone.length<=100000
def ShutH:List Int->CS->Prop
 | [],_=>True
 | id::l,σ=>DropH σ id/\∀d,KillL σ.E id d->ShutH l (shutX σ id d)
theorem ShutL.snoc:∀{l:List Int} {σ τ:CS} {id:Int} {d:List Int},ShutL l σ τ->KillL τ.E id d->ShutL (l++[id]) σ (shutX τ id d)
 | [],_,_,_,d,h,k=>by
  subst h;exact⟨d,k,rfl⟩
 | j::l,σ,τ,id,d,⟨c,h1,h2⟩,k=>⟨c,h1,ShutL.snoc h2 k⟩
theorem Co.same_g{F2:Nat->Nat->Prop}{g2 v2:Value}{σ2:CS}(C:Co w L D F g v σ)(C2:Co w' L D F2 g2 v2 σ2)(G:Gc L F w F2 w'):g2=g:=by
 obtain⟨cs',h1,e⟩:=G.hd _ _ _ C.head;have h2:=C2.head.symm.trans h1;simp only[Option.some.injEq,Obj.cells.injEq] at h2;rw[<-h2.1] at e;have e:some g2=some g:=e;exact Option.some.inj e
theorem Ow.gn{v:Value}{d:List Int}(h:Ow w F v d)(G:Gn L F w F' w'):Ow w' F' v d:=by
 refine⟨h.1.of_block fun k hk=>?_,fun k hk p hp=>?_⟩
 ·obtain⟨cs,hc⟩:=h.1.rowT hk
  exact G.block k (lt_of_block hc) (h.2 k hk) (fun cs' U fr h1=>by
   rw[hc] at h1;simp only[Option.some.injEq,Obj.cells.injEq] at h1;rw[<-h1.2.1];exact mq_int)
 ·rcases G.new p k hp with e|e
  ·exact h.2 k hk p e
  ·have:=(h.1.rowLt hk).2;omega
theorem Co.appGone(C:Co w L D F g v σ){a:Option Addr}{n cap:Nat}{c:List Int}(oc:Ow w F (.slice a n cap) c)(hc:c.length=n)(hb:σ.gone.length+c.length<=1000000) :
  ∃a' n' c' w',(Builtin.append_ #[22,22] 22 #[g,.slice a n cap]).run Tryz.prog w=.ok (.slice a' n' c') w'/\w'.heap[D.B]?=w.heap[D.B]?/\
   ∃F',Co (w'.setCell ⟨D.B,10,none⟩ (.slice a' n' c')) L D F' (.slice a' n' c') v {σ with gone:=σ.gone++c}/\Gn L F w F' (w'.setCell ⟨D.B,10,none⟩ (.slice a' n' c')):=by
 subst hc;obtain⟨v',w',hr,o',gr,hn⟩:=Da.app_run C.gon oc.1.isIv hb C.lw 22;have f':Ta.Fr (fun k=>g.ownBlock=some k) w w':=ofD (Da.Fr.of_grown gr);obtain⟨C',G'⟩:=C.setGon o' f' hn;obtain⟨a',cap',e',_⟩:=o'.isI;subst e';exact⟨a',_,cap',w',hr,f'.block _ (lt_of_block C.head) (fun e=>C.fp.dis 0 7 D.B (by omega) ((C.f0 _).2 rfl) ((C.f7 _).2 e)),_,C',G'⟩
theorem Co.sortGone(C:Co w L D F g v σ)(hl:σ.gone.length<=100000) :
  Calls Tryz.prog 70 #[g] w fun e w'=>e=.returned (.tuple #[])/\Co w' L D F g v {σ with gone:=Da.sortI σ.gone}/\Gc L F w F w':=by
 refine(Da.sort_any C.gon (by omega)).mono ?_;rintro e w' ⟨rfl,o,gr⟩;have f:Ta.Fr (F 7) w w':=(show Ta.Fr (fun k=>g.ownBlock=some k) w w' from ofD (Da.Fr.of_grown gr)).mono (fun k hk=>(C.f7 k).2 hk);have K:=C.keepP (p:=7) (by omega) (by omega) f;have G:=C.gcP (p:=7) (by omega) f (X:=F 7) (fun k hk=>.inl hk) (by omega);rw[fset_id] at G;exact⟨rfl,⟨K.head (by simp),K.tab (by simp),K.que (by simp),K.whl (by simp),K.dag (by simp),K.cre (by simp),K.evs (by simp),o,C.f0,C.f2,C.f5,C.f6,C.f7,C.f8,C.fp.grow f.size,le_trans C.lw f.size,le_trans C.wb f.size,C.qok,C.th1,C.th8,C.k16⟩,G⟩
theorem Co.cloneGone(C:Co w L D F g v σ)(hl:σ.gone.length<=100000) :
  Calls Tryz.prog 71 #[g] w fun e w'=>∃a cap,e=.returned (.slice a σ.gone.length cap)/\Owb w.heap.size w' F (.slice a σ.gone.length cap) σ.gone/\Co w' L D F g v σ/\Gc L F w F w':=by
 obtain⟨a0,cap0,e0,h0⟩:=C.gon.isI;have P:=Da.clone_any h0 (by omega);rw[<-e0] at P;refine P.mono ?_;rintro e w' ⟨v',rfl,o,b⟩;obtain⟨a,cap,e1,_⟩:=o.isI;subst e1;refine⟨a,cap,rfl,⟨o,fun k hk p hp=>?_⟩,C.below b,Gc.below F C.lw b⟩;have:=C.fp.lt p k hp;have:=(o.rowLt hk).1;omega
end
end Go.Proofs.YthpgfmmpjoodkaaGreatDoor
open List(length_append)
open Nat(le_of_eq le_trans zero_le)
namespace Go.Proofs.YthpgfmmpjoodkaaGreatDoor
set_option linter.unusedSimpArgs false
set_option maxHeartbeats 8000000
set_option maxRecDepth 100000
set_option linter.unusedVariables false
open Go.RowKit Go.Lib Go.WideMaps Go.Maps
section
variable {w w' u:World}{L i:Nat}{D:CAd}{F F':Nat->Nat->Prop}{g v:Value}{σ:CS}{x:Ta.TR}
theorem shut_gone(id:Int)(d:List Int)(σ:CS)(h1:CanT σ.T id)(hw:∀j,Da.Rch σ.E id j->Wt σ.T j)(hk:KillL σ.E id d)(ho:∀p i,σ.E p i->p<i):(canL (id::d) (dropE σ id)).gone=σ.gone:=by
 have nd:=kill_nodup hk ho
 have can:∀j∈id::d,CanT (dropE σ id).T j:=fun j hj=>by
  rcases List.mem_cons.1 hj with rfl|hj
  ·exact h1
  ·exact(hw j ((hk.2 j).1 hj)).can
 exact(canL_sam (dropE σ id) nd can).1.gone
def ShN(L:Nat)(D:CAd)(F:Nat->Nat->Prop)(w:World)(σ1:CS)(ids:List Int)(v1:Value)(k:Nat)(wr:World):Prop:=
 ∃τ Fr gr vr,Co wr L D Fr gr vr τ/\Ow wr Fr v1 ids/\Gn L F w Fr wr/\ShutL (ids.take k) σ1 τ/\ShutH (ids.drop k) τ
theorem shutC(C:Co w L D F g v σ)(hc:σ.cl=false)(hl:σ.ev.length<1000000)(ht:σ.tm.length<=100000)(hH:ShutH (timL σ) (shutE σ))(hE:∀τ,ShutL (timL σ) (shutE σ) τ->τ.gone.length<=100000) :
  Calls Tryz.prog 16 #[pt D.B] w fun e w'=>∃a cap τ,e=.returned (.slice a τ.gone.length cap)/\ShutL (timL σ) (shutE σ) τ/\∃F',Ow w' F' (.slice a τ.gone.length cap) (Da.sortI τ.gone)/\(∃g' v',Co w' L D F' g' v' {τ with gone:=Da.sortI τ.gone})/\Gn L F w F' w':=by
 have c9:=C.c9;rw[hc] at c9;have fz:=C.fz;have blt:=lt_of_block C.head;obtain⟨u,hu⟩:∃z,w.setCell ⟨D.B,9,none⟩ (.bool true)=z:=⟨_,rfl⟩
 obtain⟨C1,G1⟩:Co u L D F g v {σ with cl:=true}/\Gc L F w F u:=by
  rw[<-hu];exact C.setHead (g':=g) (v':=v) ((Ta.Fr.setCell (fun k=>k=D.B) w D.B 9 _ rfl).mono (fun k hk=>(C.f0 k).2 hk)) (set_at C.head _) rfl
 have P:=tellC C1 hl 9 (-1) 0 0;have X1:Aside (Gc L F w F u):=G1;have HU:Aside _:=hu;obtain⟨ids,hids⟩:∃l,timL σ=l:=⟨_,rfl⟩;obtain⟨n,hn⟩:∃n,σ.tm.length=n:=⟨_,rfl⟩;obtain⟨σ1,hσ1⟩:∃s,shutE σ=s:=⟨_,rfl⟩;have HE:Aside (timL σ=ids/\shutE σ=σ1):=⟨hids,hσ1⟩;have hn1:σ1.tm.length=n:=by rw[<-hσ1];exact hn
 have hi1:timL σ1=ids:=by rw[<-hσ1];exact hids
 rw[hids,hσ1] at hH hE;have HH:Aside (ShutH ids σ1/\(∀τ,ShutL ids σ1 τ->τ.gone.length<=100000)/\ids.length=n/\n<=100000):=⟨hH,hE,by rw[<-hids,timL_len,hn],by rw[<-hn];exact ht⟩;have H1:Aside (σ1.tm.length=n/\timL σ1=ids):=⟨hn1,hi1⟩;have hn6:n<=100000:=HH.out.2.2.2;clear C hc hl ht hH hE C1 G1 hu hids hn hσ1 hn1 hi1;go_enter Tryz.func16,Tryz.ntmps16
 go_upto_region 3 with fail
 rw[HU.out];clear c9 fz blt
 go_wp2_with fail
 refine P.mono ?_;rintro e w2 ⟨rfl,⟨F2,g2,v2,C2,G2⟩,_⟩;have C2:Co w2 L D F2 g2 v2 (shutE σ):=C2;rw[HE.out.2] at C2;have Q:=timedC C2 (by rw[H1.out.1];exact HH.out.2.2.2);rw[H1.out.1,H1.out.2] at Q;have X2:Aside (Gc L F w F2 w2):=X1.out.trans G2;clear P C2 G2
 go_wp2_with fail
 refine Q.mono ?_;rintro e w3 ⟨a,cap,rfl,o3,C3,G3⟩;have XN:Aside (ShN L D F w σ1 ids (.slice a n cap) 0 w3):=⟨σ1,F2,g2,v2,C3,o3.ow,(X2.out.trans G3).n,rfl,HH.out.1⟩;clear Q o3 C3 G3 X2
 go_wp2_with fail
 go_loopg [4,19] n (fun kx s4 s19 wr=>∃k:Nat,s19=.int .i64 k/\k<=n/\n-k<=kx/\Aside (ShN L D F w σ1 ids (.slice a n cap) k wr))
 case atStart=>exact⟨0,rfl,by omega,by omega,XN⟩
 case round=>
  obtain⟨k,rfl,hk,hkx,XR⟩:=hrel;by_cases c:k<n
  ·have hlt:(k:Int)<(n:Int):=by omega
   obtain⟨τ,Fr,gr,vr,C0,O0,G0,S0,H0⟩:=XR.out;obtain⟨gg,off,rfl,glt,hc⟩:=O0.at HH.out.2.2.1 c;obtain⟨id,hid⟩:∃j,ids.getD k 0=j:=⟨_,rfl⟩;rw[hid] at hc;have hkd:k<ids.length:=by rw[HH.out.2.2.1];exact c
   have hg:ids[k]=id:=by rw[<-hid,List.getD,List.getElem?_eq_getElem hkd];rfl
   have dk:ids.drop k=id::ids.drop (k+1):=by rw[List.drop_eq_getElem_cons hkd,hg]
   have tk:ids.take (k+1)=ids.take k++[id]:=by rw[List.take_succ_eq_append_getElem hkd,hg]
   rw[dk] at H0;obtain⟨⟨h1,h2,h3,h4,h5,h6,h7⟩,hN⟩:=H0;have C0:=C0.drew;have G0:Gn L F w Fr wr.drew:=⟨G0.low.drew,G0.block,G0.new⟩;have O0:=O0.below (Below.refl _ _).drew;have P:=dropC C0 h1 h2 h3 h4 h5 h6;have ord:∀p i,τ.E p i->p<i:=fun p i h=>(C0.dag.ord p i h).2.1;have hcan:=can_len
   have NXX:Aside (∀w2 a2 n2 cap2 d F2 g2 v2,KillL τ.E id d->n2=d.length+1->Owb wr.drew.heap.size w2 F2 (.slice a2 n2 cap2) (id::d)->Co w2 L D F2 g2 v2 (canL (id::d) (dropE τ id))->Gc L Fr wr.drew F2 w2->g2=gr/\∃a' n' c' w',(Builtin.append_ #[22,22] 22 #[gr,.slice a2 n2 cap2]).run Tryz.prog w2=.ok (.slice a' n' c') w'/\w'.heap[D.B]?=w2.heap[D.B]?/\ShN L D F w σ1 ids (.slice (some ⟨gg,off,none⟩) n cap) (k+1) (w'.setCell ⟨D.B,10,none⟩ (.slice a' n' c'))):=by
    intro w2 a2 n2 cap2 d F2 g2 v2 kl hn2 o2 C2 G2;obtain rfl:g2=gr:=C0.same_g C2 G2
    have dl:d.length<=200:=by
     have q1:=wt_len d τ.T (up_nodup kl.1) (fun j hj=>h3 j ((kl.2 j).1 hj));have q2:=Ta.cntP_le isW τ.T;omega
    have eg:=shut_gone id d τ h1 h3 kl ord;obtain⟨a3,n3,c3,w3,hr3,hb3,F3,C3,G3⟩:=C2.appGone o2.ow (by rw[hn2];rfl) (by rw[eg,List.length_cons];omega);rw[eg] at C3;refine⟨rfl,a3,n3,c3,w3,hr3,hb3,_,F3,_,_,C3,(O0.gc G2).gn G3,(G0.trans G2.n).trans G3,?_,hN d kl⟩;rw[tk];exact S0.snoc kl
   clear O0 G0 S0 hN dk tk hg hkd hid h1 h2 h3 h4 h5 h6 h7 ord hcan XR;have c10:=C0.c10;have fz0:=C0.fz;have blt:=lt_of_block C0.head;go_upto_region 7 with fail
   refine wp_region_held_drew (S:=(fun _:World=>True)) (by kernel_rfl) (trivial) (fun hHeld=>?_);refine anyH_u (i:=0) (by assumption) rfl (by kernel_rfl) (fun w z=>by go_simp<;>rfl) (fun _ _ _ h=>h) ?_;refine anyH_u (i:=1) (by assumption) rfl (by kernel_rfl) (fun w z=>by go_simp<;>rfl) (fun _ _ _ h=>h) ?_;refine anyH_u (i:=2) (by assumption) rfl (by kernel_rfl) (fun w z=>by go_simp<;>rfl) (fun _ _ _ h=>h) ?_;refine anyH_u (i:=3) (by assumption) rfl (by kernel_rfl) (fun w z=>by go_simp<;>rfl) (fun _ _ _ h=>h) ?_;refine anyH_u (i:=5) (by assumption) rfl (by kernel_rfl) (fun w z=>by go_simp<;>rfl) (fun _ _ _ h=>h) ?_;refine anyH_u (i:=6) (by assumption) rfl (by kernel_rfl) (fun w z=>by go_simp<;>rfl) (fun _ _ _ h=>h) ?_;simp only[Act.put,sA,sB,sC];refine wpAnyH_ready (rs:=[4,7]) (by kernel_rfl) (by simp) ?_;refine AllReadyH.cons rfl (fun Kt hKt=>?_) (AllReadyH.cons (o:={dst:=some 30,op:=Op.call {callee:=Callee.value (Operand.func 69),args:=#[Operand.tmp 28,Operand.tmp 29],argTypes:=#[23,3]},type:=22,pos:= "core.go:385",after:=#[⟨5,.data⟩,⟨6,.data⟩],guard:=none}) rfl (fun Kt hKt=>?_) AllReadyH.nil)
   ·go_simp
    go_wp2_with fail
    refine hKt.out _ _ (trivial) (fun hHeld=>?_);clear hKt Kt;try simp only[Act.put,sA,sB,sC]
    refine wpAnyH_ready (rs:=[7]) (by kernel_rfl) (by simp) ?_;refine AllReadyH.cons (o:={dst:=some 30,op:=Op.call {callee:=Callee.value (Operand.func 69),args:=#[Operand.tmp 28,Operand.tmp 29],argTypes:=#[23,3]},type:=22,pos:= "core.go:385",after:=#[⟨5,.data⟩,⟨6,.data⟩],guard:=none}) rfl (fun Kt hKt=>?_) AllReadyH.nil;go_simp
    (with_reducible refine Calls.mono P ?_)
    rintro e w2 ⟨a2,n2,cap2,rfl,d,F2,kl,rfl,o2,⟨g2,v2,C2⟩,G2⟩;obtain⟨rfl,a3,n3,c3,w3,hr3,hb3,NX⟩:=NXX.out w2 a2 _ cap2 d F2 g2 v2 kl rfl o2 C2 G2;have c10:=C2.c10;have hB3:=hb3.trans C2.head;have c10w:w3.cell? ⟨D.B,10,none⟩=some g2:=by rw[cell_of_row _ _ _ _ _ _ hB3];rfl
    have fz3:∀o,w3.frozen? ⟨D.B,o,none⟩=false:=fun o=>by simp[World.frozen?,hB3]
    have blt3:=lt_of_block hB3;have NX:Aside _:=NX;clear C2 G2 o2 kl hB3 hb3
    go_wp2_with fail
    refine hKt.out _ _ (trivial) (fun hHeld=>?_);clear hKt Kt;try simp only[Act.put,sA,sB,sC]
    refine wpAnyH_ready (rs:=[8]) (by kernel_rfl) (by simp) ?_;refine AllReadyH.cons (o:={dst:=some 31,op:=Op.call {callee:=Callee.builtin Builtin.append,args:=#[Operand.tmp 27,Operand.tmp 30],argTypes:=#[22,22]},type:=22,pos:= "core.go:385",after:=#[⟨4,.data⟩,⟨7,.data⟩,⟨7,.chain⟩],guard:=none}) rfl (fun Kt hKt=>?_) AllReadyH.nil;refine Da.step_app _ (by rfl) _ _ 22 22 (by rfl) _ _ (by rfl) (by rfl) _ _ hr3 ?_;refine hKt.out _ _ (trivial) (fun hHeld=>?_);clear hKt Kt;try simp only[Act.put,sA,sB,sC]
    refine anyH_u (i:=9) (by assumption) rfl (by kernel_rfl) (fun w z=>by go_simp<;>rfl) (fun _ _ _ h=>h) ?_;refine anyH_u (i:=10) (by assumption) rfl (by kernel_rfl) (fun w z=>by go_simp<;>rfl) (fun _ _ _ h=>h) ?_;simp only[Act.put,sA,sB,sC];refine wpAnyH_ready (rs:=[11]) (by kernel_rfl) (by simp) ?_;refine AllReadyH.cons rfl (fun Kt hKt=>?_) AllReadyH.nil;go_simp
    go_wp2_with fail
    refine hKt.out _ _ (trivial) (fun hHeld=>?_);clear hKt Kt;try simp only[Act.put,sA,sB,sC]
    refine wpAnyH_done (by kernel_rfl) ?_ _
    go_wp2_with fail
    go_roundg (n-(k+1))
    case measure=>omega
    case rel=>exact⟨k+1,by go_num,by omega,Nat.le_refl _,NX⟩
   ·go_simp
    (with_reducible refine Calls.mono P ?_)
    rintro e w2 ⟨a2,n2,cap2,rfl,d,F2,kl,rfl,o2,⟨g2,v2,C2⟩,G2⟩;obtain⟨rfl,a3,n3,c3,w3,hr3,hb3,NX⟩:=NXX.out w2 a2 _ cap2 d F2 g2 v2 kl rfl o2 C2 G2;have c10:=C2.c10;have hB3:=hb3.trans C2.head;have c10w:w3.cell? ⟨D.B,10,none⟩=some g2:=by rw[cell_of_row _ _ _ _ _ _ hB3];rfl
    have fz3:∀o,w3.frozen? ⟨D.B,o,none⟩=false:=fun o=>by simp[World.frozen?,hB3]
    have blt3:=lt_of_block hB3;have NX:Aside _:=NX;clear C2 G2 o2 kl hB3 hb3
    go_wp2_with fail
    refine hKt.out _ _ (trivial) (fun hHeld=>?_);clear hKt Kt;try simp only[Act.put,sA,sB,sC]
    refine wpAnyH_ready (rs:=[4]) (by kernel_rfl) (by simp) ?_;refine AllReadyH.cons rfl (fun Kt hKt=>?_) AllReadyH.nil;go_simp
    go_wp2_with fail
    refine hKt.out _ _ (trivial) (fun hHeld=>?_);clear hKt Kt;try simp only[Act.put,sA,sB,sC]
    refine wpAnyH_ready (rs:=[8]) (by kernel_rfl) (by simp) ?_;refine AllReadyH.cons (o:={dst:=some 31,op:=Op.call {callee:=Callee.builtin Builtin.append,args:=#[Operand.tmp 27,Operand.tmp 30],argTypes:=#[22,22]},type:=22,pos:= "core.go:385",after:=#[⟨4,.data⟩,⟨7,.data⟩,⟨7,.chain⟩],guard:=none}) rfl (fun Kt hKt=>?_) AllReadyH.nil;refine Da.step_app _ (by rfl) _ _ 22 22 (by rfl) _ _ (by rfl) (by rfl) _ _ hr3 ?_;refine hKt.out _ _ (trivial) (fun hHeld=>?_);clear hKt Kt;try simp only[Act.put,sA,sB,sC]
    refine anyH_u (i:=9) (by assumption) rfl (by kernel_rfl) (fun w z=>by go_simp<;>rfl) (fun _ _ _ h=>h) ?_;refine anyH_u (i:=10) (by assumption) rfl (by kernel_rfl) (fun w z=>by go_simp<;>rfl) (fun _ _ _ h=>h) ?_;simp only[Act.put,sA,sB,sC];refine wpAnyH_ready (rs:=[11]) (by kernel_rfl) (by simp) ?_;refine AllReadyH.cons rfl (fun Kt hKt=>?_) AllReadyH.nil;go_simp
    go_wp2_with fail
    refine hKt.out _ _ (trivial) (fun hHeld=>?_);clear hKt Kt;try simp only[Act.put,sA,sB,sC]
    refine wpAnyH_done (by kernel_rfl) ?_ _
    go_wp2_with fail
    go_roundg (n-(k+1))
    case measure=>omega
    case rel=>exact⟨k+1,by go_num,by omega,Nat.le_refl _,NX⟩
  ·have hnl:¬(k:Int)<(n:Int):=by omega
   obtain⟨τ,Fr,gr,vr,C0,O0,G0,S0,_⟩:=XR.out;have ek:ids.take k=ids:=List.take_of_length_le (by rw[HH.out.2.2.1];omega);rw[ek] at S0;have P:=C0.sortGone (HH.out.2.1 τ S0);have c10:=C0.c10;have X4:Aside (Gn L F w Fr wr/\ShutL ids σ1 τ):=⟨G0,S0⟩;clear XR C0 O0 G0 S0 ek
   go_wp2_with fail
   refine P.mono ?_;rintro e w4 ⟨rfl,C4,G4⟩;have Q:=C4.cloneGone (by show(Da.sortI τ.gone).length<=100000;rw[Da.sortI_len];exact HH.out.2.1 τ X4.out.2);rw[show({τ with gone:=Da.sortI τ.gone}:CS).gone=Da.sortI τ.gone from rfl,Da.sortI_len] at Q;have c10':=C4.c10;have X5:Aside (Gn L F w Fr w4):=X4.out.1.trans G4.n;clear P C4 G4 c10
   go_wp2_with fail
   refine Q.mono ?_;rintro e w5 ⟨a',cap',rfl,o5,C5,G5⟩
   have FIN:Aside (∃a cap τ',Ending.returned (.slice a' τ.gone.length cap')=.returned (.slice a τ'.gone.length cap)/\ShutL (timL σ) (shutE σ) τ'/\∃F',Ow w5 F' (.slice a τ'.gone.length cap) (Da.sortI τ'.gone)/\(∃g' v',Co w5 L D F' g' v' {τ' with gone:=Da.sortI τ'.gone})/\Gn L F w F' w5):=by
    refine⟨a',cap',τ,rfl,?_,Fr,o5.ow,⟨_,_,C5⟩,X5.out.trans G5.n⟩;rw[HE.out.1,HE.out.2];exact X4.out.2
   clear Q o5 C5 G5 c10'
   go_wp2_with fail
   go_ret;exact FIN.out
end
section
variable {w w' u:World}{L i:Nat}{D:CAd}{F F':Nat->Nat->Prop}{g v:Value}{σ:CS}{x:Ta.TR}
theorem shutAgain(C:Co w L D F g v σ)(hc:σ.cl=true)(hg:σ.gone.length<=100000) :
  Calls Tryz.prog 16 #[pt D.B] w fun e w'=>∃a cap,e=.returned (.slice a σ.gone.length cap)/\Owb w.heap.size w' F (.slice a σ.gone.length cap) σ.gone/\Co w' L D F g v σ/\Gc L F w F w':=by
 have c9:=C.c9;rw[hc] at c9;have c10:=C.c10;have P:=C.cloneGone hg;obtain⟨n,hn⟩:∃n,σ.gone.length=n:=⟨_,rfl⟩;rw[hn] at P⊢;clear C hc hg hn;go_enter Tryz.func16,Tryz.ntmps16
 go_wp2_with fail
 refine P.mono ?_;rintro e w1 ⟨a,cap,rfl,o,C1,G1⟩;have FIN:Aside (∃a' cap',Ending.returned (.slice a n cap)=.returned (.slice a' n cap')/\Owb w.heap.size w1 F (.slice a' n cap') σ.gone/\Co w1 L D F g v σ/\Gc L F w F w1):=⟨a,cap,rfl,o,C1,G1⟩;clear P o C1 G1 c9 c10
 go_wp2_with fail
 go_ret;exact FIN.out
theorem refuseX(C:Co w L D F g v σ)(hc:σ.cl=true)(b:Bool) :
  Calls Tryz.prog 40 #[pt D.B,.bool b] w fun e w'=>e=.returned (.int .i64 6)/\w'=w:=by
 have c9:=C.c9;rw[hc] at c9;clear C hc;go_enter Tryz.func40,Tryz.ntmps40
 go_wp2_with fail
 go_ret;exact⟨rfl,rfl⟩
theorem subX(C:Co w L D F g v σ){t:Nat}(ht:t<σ.th)(hc:σ.cl=true)(prio:Int)(h0:0<=prio)(h7:prio<=7) :
  Calls Tryz.prog 9 #[pt D.B,.int .i64 t,.int .i64 prio,.slice none 0 0,.slice none 0 0] w fun e w'=>e=.returned (.tuple #[.int .i64 0,.int .i64 6])/\w'=w:=by
 have P1:=rightC C ht prio h0 h7;have P2:=areNil D.B w;have P3:=refuseX C hc true;clear C ht h0 h7 hc;go_enter Tryz.func9,Tryz.ntmps9
 go_wp2_with fail
 refine P1.mono ?_;rintro e w1 ⟨rfl,rfl⟩;clear P1
 go_wp2_with fail
 refine P2.mono ?_;rintro e w1 ⟨rfl,rfl⟩;clear P2
 go_wp2_with fail
 refine P3.mono ?_;rintro e w1 ⟨rfl,rfl⟩;clear P3
 go_wp2_with fail
 go_ret2;exact⟨rfl,rfl⟩
def liveN(T:List Ta.TR):Nat:=T.countP (Ta.ofS 1)+T.countP (Ta.ofS 2)+T.countP (Ta.ofS 3)
theorem drainC(C:Co w L D F g v σ)(hc:σ.cl=true)(hT:σ.T.length<=200) :
  Calls Tryz.prog 18 #[pt D.B] w fun e w'=>e=.returned (.bool (decide (liveN σ.T=0)))/\Below w.heap.size w w':=by
 have c9:=C.c9;rw[hc] at c9;have c3:=C.c3;have blt:=lt_of_block C.head;obtain⟨n1,h1⟩:∃n,σ.T.countP (Ta.ofS 1)=n:=⟨_,rfl⟩;obtain⟨n2,h2⟩:∃n,σ.T.countP (Ta.ofS 2)=n:=⟨_,rfl⟩;obtain⟨n3,h3⟩:∃n,σ.T.countP (Ta.ofS 3)=n:=⟨_,rfl⟩;have l1:n1<=200:=by rw[<-h1];exact le_trans (Ta.cntP_le _ _) hT
 have l2:n2<=200:=by rw[<-h2];exact le_trans (Ta.cntP_le _ _) hT
 have l3:n3<=200:=by rw[<-h3];exact le_trans (Ta.cntP_le _ _) hT
 have T0:=C.drew.tab;have K1:=Ta.countT T0 1 (by decide);have K2:=Ta.countT T0 2 (by decide);have K3:=Ta.countT T0 3 (by decide);rw[h1] at K1;rw[h2] at K2;rw[h3] at K3;have c3d:w.drew.cell? ⟨D.B,3,none⟩=some (pt D.Bt):=c3;have c9d:w.drew.cell? ⟨D.B,9,none⟩=some (.bool true):=c9;have s1:IntKind.i64.wrap ((n1:Int)+n2)=(n1:Int)+n2:=by rw[IntKind.wrap_i64];omega
 have s2:IntKind.i64.wrap ((n1:Int)+n2+n3)=(n1:Int)+n2+n3:=by rw[IntKind.wrap_i64];omega
 have HL:Aside (liveN σ.T=n1+n2+n3):=by show _=_;unfold liveN;rw[h1,h2,h3]
 clear C hc hT h1 h2 h3 T0;go_enter Tryz.func18,Tryz.ntmps18
 go_upto_region 1 with fail
 refine wp_region_held_drew (S:=(fun V:World=>V.cell? ⟨D.B,3,none⟩=some (pt D.Bt))) (by kernel_rfl) (c3d) (fun hHeld=>?_);refine anyH_u (i:=0) (by assumption) rfl (by kernel_rfl) (fun w z=>by go_simp<;>rfl) (fun _ _ _ h=>h) ?_;refine anyH_u (i:=1) (by assumption) rfl (by kernel_rfl) (fun w z=>by go_simp<;>rfl) (fun _ _ _ h=>h) ?_;refine anyH_u (i:=2) (by assumption) rfl (by kernel_rfl) (fun w z=>by go_simp<;>rfl) (fun _ _ _ h=>h) ?_;refine anyH_u (i:=3) (by assumption) rfl (by kernel_rfl) (fun w z=>by go_simp<;>rfl) (fun _ _ _ h=>h) ?_;refine anyH_u (i:=5) (by assumption) rfl (by kernel_rfl) (fun w z=>by go_simp<;>rfl) (fun _ _ _ h=>h) ?_;refine anyH_u (i:=6) (by assumption) rfl (by kernel_rfl) (fun w z=>by go_simp<;>rfl) (fun _ _ _ h=>h) ?_;refine anyH_u (i:=7) (by assumption) rfl (by kernel_rfl) (fun w z=>by go_simp<;>rfl) (fun _ _ _ h=>h) ?_;refine anyH_u (i:=8) (by assumption) rfl (by kernel_rfl) (fun w z=>by go_simp<;>rfl) (fun _ _ _ h=>h) ?_;refine anyH_u (i:=11) (by assumption) rfl (by kernel_rfl) (fun w z=>by go_simp<;>rfl) (fun _ _ _ h=>h) ?_;refine anyH_u (i:=12) (by assumption) rfl (by kernel_rfl) (fun w z=>by go_simp<;>rfl) (fun _ _ _ h=>h) ?_;refine anyH_u (i:=13) (by assumption) rfl (by kernel_rfl) (fun w z=>by go_simp<;>rfl) (fun _ _ _ h=>h) ?_;refine anyH_u (i:=14) (by assumption) rfl (by kernel_rfl) (fun w z=>by go_simp<;>rfl) (fun _ _ _ h=>h) ?_;simp only[Act.put,sA,sB,sC];refine wpAnyH_ready (rs:=[4]) (by kernel_rfl) (by simp) ?_;refine AllReadyH.cons (o:={dst:=some 8,op:=Op.call {callee:=Callee.value (Operand.func 72),args:=#[Operand.tmp 7,Operand.const (Value.int IntKind.i64 1)],argTypes:=#[89,3]},type:=3,pos:= "core.go:404",after:=#[⟨3,.data⟩],guard:=none}) rfl (fun Kt hKt=>?_) AllReadyH.nil;go_simp
 (with_reducible refine Calls.mono K1 ?_)
 rintro e w2 ⟨rfl,rfl⟩
 go_wp2_with fail
 refine hKt.out _ _ (c3d) (fun hHeld=>?_);clear hKt Kt;try simp only[Act.put,sA,sB,sC]
 refine wpAnyH_ready (rs:=[9]) (by kernel_rfl) (by simp) ?_;refine AllReadyH.cons (o:={dst:=some 13,op:=Op.call {callee:=Callee.value (Operand.func 72),args:=#[Operand.tmp 12,Operand.const (Value.int IntKind.i64 2)],argTypes:=#[89,3]},type:=3,pos:= "core.go:404",after:=#[⟨8,.data⟩,⟨4,.chain⟩],guard:=none}) rfl (fun Kt hKt=>?_) AllReadyH.nil;go_simp
 (with_reducible refine Calls.mono K2 ?_)
 rintro e w2 ⟨rfl,rfl⟩
 go_wp2_with fail
 refine hKt.out _ _ (c3d) (fun hHeld=>?_);clear hKt Kt;try simp only[Act.put,sA,sB,sC]
 refine anyH_u (i:=10) (by assumption) rfl (by kernel_rfl) (fun w z=>by go_simp<;>rfl) (fun _ _ _ h=>h) ?_;simp only[Act.put,sA,sB,sC];refine wpAnyH_ready (rs:=[15]) (by kernel_rfl) (by simp) ?_;refine AllReadyH.cons (o:={dst:=some 19,op:=Op.call {callee:=Callee.value (Operand.func 72),args:=#[Operand.tmp 18,Operand.const (Value.int IntKind.i64 3)],argTypes:=#[89,3]},type:=3,pos:= "core.go:404",after:=#[⟨14,.data⟩,⟨9,.chain⟩],guard:=none}) rfl (fun Kt hKt=>?_) AllReadyH.nil;go_simp
 (with_reducible refine Calls.mono K3 ?_)
 rintro e w2 ⟨rfl,rfl⟩
 go_wp2_with fail
 refine hKt.out _ _ (c3d) (fun hHeld=>?_);clear hKt Kt;try simp only[Act.put,sA,sB,sC]
 refine anyH_u (i:=16) (by assumption) rfl (by kernel_rfl) (fun w z=>by go_simp<;>rfl) (fun _ _ _ h=>h) ?_;refine anyH_u (i:=17) (by assumption) rfl (by kernel_rfl) (fun w z=>by go_simp<;>rfl) (fun _ _ _ h=>h) ?_;simp only[Act.put,sA,sB,sC];refine wpAnyH_done (by kernel_rfl) ?_ _;by_cases hz:n1+n2+n3=0
 ·have hz':(n1:Int)+n2+n3=0:=by omega
  go_wp2_with fail
  go_ret;rw[HL.out,decide_eq_true hz];exact⟨rfl,(Below.refl _ _).drew⟩
 ·have hz':¬(n1:Int)+n2+n3=0:=by omega
  have hb:((n1:Int)+n2+n3==0)=false:=by simpa using hz'
  go_wp2_with fail
  go_ret;rw[HL.out,decide_eq_false hz];exact⟨rfl,(Below.refl _ _).drew⟩
end
section
structure FI(σ:CS)(n j:Nat):Prop where
 th:σ.th=2
 cn:σ.n=n
 cl:σ.cl=false
 N:σ.N=0
 E:σ.E=fun _ _=>False
 len:σ.T.length=j
 o:σ.o=j
 qn:σ.qn<=j
 ev:σ.ev.length<=2*j
 tk:σ.tk=0
 now:σ.now=0
 st:∀x∈σ.T,0<=x.p/\(x.s=1\/x.s=2)
variable {σ:CS}{n j k d:Nat}{x:Ta.TR}
theorem kill_nil{d:List Int}{id:Int}(h:KillL (fun _ _=>False) id d):d=[]:=by
 cases d with
 | nil=>rfl
 | cons a l=>
  have:=(h.2 a).1 (by simp);exact(this (fun _=>False) (fun _ h=>h) (fun _ _ h _=>h)).elim
def fulC(σ:CS)(k:Nat):CS:=canL [(k:Int)+1] (dropE σ ((k:Int)+1))
theorem fulC_at(h:σ.T[k]?=some x):fulC σ k=canX (dropE σ ((k:Int)+1)) k x:=by
 show canStep (dropE σ ((k:Int)+1)) ((k:Int)+1)=_;exact canStep_at _ k x h
end
section
variable {σ:CS}{a b k j m:Nat}{c:Bool}
def idsF(s:Nat):Nat->List Int
 | 0=>[]
 | m+1=>((s:Int)+1)::idsF (s+1) m
theorem idsF_len:∀(m s:Nat),(idsF s m).length=m
 | 0,_=>rfl
 | m+1,s=>by rw[idsF,List.length_cons,idsF_len m]
theorem idsF_mem:∀(m s:Nat)(x:Int),x∈idsF s m↔∃i:Nat,i<m/\x=((s+i:Nat):Int)+1
 | 0,s,x=>by simp[idsF]
 | m+1,s,x=>by
  rw[idsF,List.mem_cons,idsF_mem m (s+1) x];constructor
  ·rintro(e|⟨i,hi,e⟩)
   ·exact⟨0,by omega,by rw[e];rfl⟩
   ·exact⟨i+1,by omega,by rw[e];omega⟩
  ·rintro⟨i,hi,e⟩
   cases i with
   | zero=>exact .inl (by rw[e];rfl)
   | succ i=>exact .inr ⟨i,by omega,by rw[e];omega⟩
theorem idsF_up:∀(m s:Nat),Da.Up (idsF s m)
 | 0,_=>List.Pairwise.nil
 | m+1,s=>by
  refine List.Pairwise.cons (fun x hx=>?_) (idsF_up m (s+1));obtain⟨i,hi,e⟩:=(idsF_mem m (s+1) x).1 hx;omega
theorem idsF_snoc:∀(m s:Nat),idsF s (m+1)=idsF s m++[((s+m:Nat):Int)+1]
 | 0,s=>rfl
 | m+1,s=>by
  have h:=idsF_snoc m (s+1);show((s:Int)+1)::idsF (s+1) (m+1)=((s:Int)+1)::(idsF (s+1) m++[_]);rw[h];congr 3;omega
theorem idsF_at:∀(m s i:Nat),i<m->(idsF s m).getD i 0=((s+i:Nat):Int)+1
 | m+1,s,0,_=>rfl
 | m+1,s,i+1,h=>by
  have:=idsF_at m (s+1) i (by omega);show(idsF (s+1) m).getD i 0=_;rw[this];omega
theorem sortI_self{l:List Int}(h:Da.Up l):Da.sortI l=l:=Da.Up.ext (Da.sortI_up h.nodup) h (fun x=>Da.sortI_mem l x)
theorem mem_canT{T:List Wl.Ent}(hn:(T.map Prod.snd).Nodup)(i:Int)(x:Wl.Ent):x∈Wl.canT T i↔x∈T/\x.2≠i:=by
 have nd:T.Nodup:=List.Pairwise.of_map Prod.snd (fun x y h e=>h (by rw[e])) hn;unfold Wl.canT
 cases e:Wl.dueOf T i with
 | none=>
  refine⟨fun h=>⟨h,fun e2=>Wl.dueOf_none e x.1 (by rw[<-e2];exact h)⟩,fun h=>h.1⟩
 | some v=>
  show x∈T.erase (v,i)↔_;rw[nd.mem_erase_iff];refine⟨fun⟨h1,h2⟩=>⟨h2,fun e2=>h1 ?_⟩,fun⟨h1,h2⟩=>⟨fun e2=>h2 (by rw[e2]),h1⟩⟩;have h3:=Wl.dueOf_mem hn (show(x.1,i)∈T by rw[<-e2];exact h2);rw[e] at h3;injection h3 with h3
  rw[h3,<-e2]
theorem canT_nodup{T:List Wl.Ent}(hn:(T.map Prod.snd).Nodup)(i:Int):((Wl.canT T i).map Prod.snd).Nodup:=by
 unfold Wl.canT
 cases e:Wl.dueOf T i with
 | none=>exact hn
 | some v=>exact hn.sublist (List.Sublist.map _ List.erase_sublist)
structure KC(σ:CS)(a b k:Nat)(c:Bool):Prop where
 th:σ.th=1
 kk:σ.k=2
 n:σ.n=64
 cl:σ.cl=c
 N:σ.N=0
 E:σ.E=fun _ _=>False
 len:σ.T.length=a+b
 kb:k<=b
 o:σ.o=a+b-k
 qn:σ.qn<=a
 ev:σ.ev.length<=2*(a+b)+k+c.toNat
 tk:σ.tk=0
 now:σ.now=0
 gone:σ.gone=idsF a k
 st:∀i x,σ.T[i]?=some x->0<=x.p/\x.s=if i<a then 2 else if i<a+k then 6 else 1
 tm:∀v id,(v,id)∈σ.tm↔∃m,k<=m/\m<b/\id=((a+m:Nat):Int)+1/\v=((m+1:Nat):Int)
 ids:(σ.tm.map Prod.snd).Nodup
 tl:k=0->σ.tm.length=b
theorem KC.new:KC (newS 1 2 64) 0 0 0 false:=by
 refine⟨rfl,rfl,rfl,rfl,rfl,rfl,rfl,Nat.le_refl _,rfl,Nat.le_refl _,zero_le _,rfl,rfl,rfl,fun i x h=>?_,fun v id=>?_,List.nodup_nil,fun _=>rfl⟩
 ·simp[newS] at h
 ·show(v,id)∈[]↔_;constructor
  ·intro h;simp at h
  ·rintro⟨m,_,h,_⟩;omega
theorem KC.sub(h:KC σ a 0 0 false)(prio:Int):KC (subS σ 0 prio) (a+1) 0 0 false:=by
 refine⟨h.th,h.kk,h.n,h.cl,h.N,h.E,?_,Nat.le_refl _,?_,?_,?_,h.tk,h.now,?_,fun i x hx=>?_,fun v id=>?_,h.ids,h.tl⟩
 ·rw[sub_T,length_append,h.len];rfl
 ·show σ.o+1=a+1+0-0;rw[h.o];omega
 ·show σ.qn+1<=a+1;have:=h.qn;omega
 ·show((σ.ev++[_])++[_]).length<=2*(a+1+0)+0+0;have:=h.ev;have this:σ.ev.length<=2*(a+0)+0+0:=this;simp;omega
 ·show σ.gone=_;rw[h.gone];rfl
 ·rw[sub_T] at hx;by_cases e:i<σ.T.length
  ·rw[List.getElem?_append_left e] at hx;obtain⟨h1,h2⟩:=h.st i x hx;have:=h.len;refine⟨h1,?_⟩;rw[if_pos (by omega)] at h2⊢;exact h2
  ·rw[List.getElem?_append_right (by omega)] at hx
   have e0:i-σ.T.length=0:=by
    have:=(List.getElem?_eq_some_iff.1 hx).1;simp at this;omega
   rw[e0] at hx;simp at hx;subst hx;have:=h.len;exact⟨Int.le_refl _,by rw[if_pos (by omega)];rfl⟩
 ·show(v,id)∈σ.tm↔_;rw[h.tm];constructor
  ·rintro⟨m,_,hm,_⟩;omega
  ·rintro⟨m,_,hm,_⟩;omega
theorem KC.tim(h:KC σ a j 0 false)(prio:Int)(hj:j<1000):KC (timS σ (Ta.mkT prio 0 0 ((j+1:Nat):Int) 0 0 1) (j+1)) a (j+1) 0 false:=by
 have fresh:∀v,(v,((a+j:Nat):Int)+1)∉σ.tm:=fun v hv=>by
  obtain⟨m,_,hm,e,_⟩:=(h.tm _ _).1 hv;omega
 have etm:(timS σ (Ta.mkT prio 0 0 ((j+1:Nat):Int) 0 0 1) (j+1)).tm=Wl.insL σ.tm (((j+1:Nat):Int),((a+j:Nat):Int)+1):=by
  show Wl.addT σ.tm ((σ.T.length:Int)+1) (j+1)=_;rw[h.len]
  have ha:Wl.addR σ.tm (((a+j:Nat):Int)+1)=0:=by
   unfold Wl.addR
   have hn:Wl.dueOf σ.tm (((a+j:Nat):Int)+1)=none:=by
    cases e:Wl.dueOf σ.tm (((a+j:Nat):Int)+1) with
    | none=>rfl
    | some v=>exact absurd (Wl.dueOf_some e) (fresh v)
   have htl:=h.tl rfl;rw[if_neg (by omega),hn,if_neg (by simp),if_neg (by omega)]
  unfold Wl.addT;rw[if_pos ha]
 refine⟨h.th,h.kk,h.n,h.cl,h.N,h.E,?_,zero_le _,?_,h.qn,?_,h.tk,h.now,?_,fun i x hx=>?_,fun v id=>?_,?_,fun _=>by rw[etm,Wl.insL_len,h.tl rfl]⟩
 ·show(σ.T++[_]).length=_;rw[length_append,h.len];rfl
 ·show σ.o+1=a+(j+1)-0;rw[h.o];omega
 ·show(σ.ev++[_]).length<=2*(a+(j+1))+0+0;have:=h.ev;have this:σ.ev.length<=2*(a+j)+0+0:=this;rw[length_append];simp;omega
 ·show σ.gone=_;rw[h.gone]
 ·have hx:(σ.T++[Ta.mkT prio 0 0 ((j+1:Nat):Int) 0 0 1])[i]?=some x:=hx;have hl:=h.len;by_cases e:i<σ.T.length
  ·rw[List.getElem?_append_left e] at hx;exact h.st i x hx
  ·rw[List.getElem?_append_right (by omega)] at hx
   have e0:i-σ.T.length=0:=by
    have:=(List.getElem?_eq_some_iff.1 hx).1;simp at this;omega
   rw[e0] at hx;simp at hx;subst hx;exact⟨Int.le_refl _,by rw[if_neg (by omega),if_neg (by omega)];rfl⟩
 ·rw[etm,(Wl.insL_perm _ _).mem_iff,List.mem_cons,h.tm];constructor
  ·rintro(e|⟨m,h0,hm,e1,e2⟩)
   ·injection e with e1 e2
    exact⟨j,zero_le _,by omega,e2,e1⟩
   ·exact⟨m,h0,by omega,e1,e2⟩
  ·rintro⟨m,h0,hm,e1,e2⟩;by_cases e:m=j
   ·subst e;exact .inl (by rw[e1,e2])
   ·exact .inr ⟨m,h0,by omega,e1,e2⟩
 ·rw[etm,((Wl.insL_perm _ _).map Prod.snd).nodup_iff,List.map_cons,List.nodup_cons];refine⟨fun hm=>?_,h.ids⟩;obtain⟨x,hx,e⟩:=List.mem_map.1 hm;exact fresh x.1 (by rw[<-show x.2=((a+j:Nat):Int)+1 from e];exact hx)
theorem KC.shutE(h:KC σ a b 0 false):KC (shutE σ) a b 0 true:=by
 refine⟨h.th,h.kk,h.n,rfl,h.N,h.E,h.len,h.kb,h.o,h.qn,?_,h.tk,h.now,h.gone,h.st,h.tm,h.ids,h.tl⟩;show(σ.ev++[_]).length<=2*(a+b)+0+1;have:=h.ev;have this:σ.ev.length<=2*(a+b)+0+0:=this;rw[length_append,List.length_singleton];omega
theorem KC.timL(h:KC σ a b 0 c):timL σ=idsF a b:=by
 refine Da.Up.ext (Da.sortI_up h.ids) (idsF_up _ _) (fun x=>?_);show x∈Da.sortI (σ.tm.map Prod.snd)↔_;rw[Da.sortI_mem,idsF_mem];constructor
 ·intro hx;obtain⟨y,hy,e⟩:=List.mem_map.1 hx;obtain⟨m,_,hm,e1,_⟩:=(h.tm y.1 y.2).1 hy;exact⟨m,hm,by rw[<-e,e1]⟩
 ·rintro⟨m,hm,e⟩;exact List.mem_map.2 ⟨(((m+1:Nat):Int),x),(h.tm _ _).2 ⟨m,zero_le _,hm,e,rfl⟩,rfl⟩
theorem KC.at(h:KC σ a b k c)(hk:a+k<a+b):∃x,σ.T[a+k]?=some x/\0<=x.p/\x.s=1:=by
 obtain⟨x,hx⟩:∃x,σ.T[a+k]?=some x:=⟨_,List.getElem?_eq_getElem (by rw[h.len];exact hk)⟩;obtain⟨h1,h2⟩:=h.st _ x hx;rw[if_neg (by omega),if_neg (by omega)] at h2;exact⟨x,hx,h1,h2⟩
theorem no_rch{id j:Int}:¬Da.Rch (fun _ _=>False) id j:=fun h=>h (fun _=>False) (fun _ h=>h.elim) (fun _ _ h _=>h.elim)
theorem KC.dropH(h:KC σ a b k c)(hk:k<b)(ha:a<=20)(hb:b<=20):DropH σ (((a+k:Nat):Int)+1):=by
 obtain⟨x,hx,hp,hs⟩:=h.at (by omega);refine⟨⟨a+k,x,rfl,hx,.inl hs,hp⟩,by rw[h.N];omega,fun j hj=>?_,?_,by rw[h.len];omega,?_,?_⟩
 ·rw[h.E] at hj;exact absurd hj no_rch
 ·have:=h.ev;have:c.toNat<=1:=by cases c<;>decide
  omega
 ·have h1:=h.qn;have h2:=Ta.cntP_le isC σ.T;rw[h.len] at h2;omega
 ·rw[h.gone,idsF_len];omega
theorem KC.drop(h:KC σ a b k c)(hk:k<b){d:List Int}(kl:KillL σ.E (((a+k:Nat):Int)+1) d):KC (shutX σ (((a+k:Nat):Int)+1) d) a b (k+1) c:=by
 rw[h.E] at kl;obtain rfl:=kill_nil kl;obtain⟨x,hx,hp,hs⟩:=h.at (by omega);have hlt:a+k<σ.T.length:=(List.getElem?_eq_some_iff.1 hx).1
 have e:canL [((a+k:Nat):Int)+1] (dropE σ (((a+k:Nat):Int)+1))=stopS (turnS (dropE σ (((a+k:Nat):Int)+1)) (a+k) x 6) (((a+k:Nat):Int)+1):=by
  have h1:=fulC_at (σ:=σ) (k:=a+k) hx;unfold fulC at h1;rw[h1];unfold canX;rw[if_pos hs]
 have eT:(shutX σ (((a+k:Nat):Int)+1) []).T=σ.T.set (a+k) (turnX x 6):=by
  unfold shutX;rw[e];rfl
 have etm:(shutX σ (((a+k:Nat):Int)+1) []).tm=Wl.canT σ.tm (((a+k:Nat):Int)+1):=by
  unfold shutX;rw[e];rfl
 have eo:(shutX σ (((a+k:Nat):Int)+1) []).o=σ.o-1:=by
  unfold shutX;rw[e];rfl
 have eev:(shutX σ (((a+k:Nat):Int)+1) []).ev.length=σ.ev.length+1:=by
  unfold shutX;rw[e]
  show(σ.ev++[_]).length=_;rw[length_append];rfl
 have eE:(shutX σ (((a+k:Nat):Int)+1) []).E=fun _ _=>False:=by
  unfold shutX;rw[e]
  show kilE σ.E _=_;rw[h.E]
  funext p q
  unfold kilE;simp
 have eqn:(shutX σ (((a+k:Nat):Int)+1) []).qn=σ.qn:=by
  unfold shutX;rw[e];rfl
 refine⟨?_,?_,?_,?_,?_,eE,?_,by omega,?_,by rw[eqn];exact h.qn,?_,?_,?_,?_,fun i y hy=>?_,fun v id=>?_,by rw[etm];exact canT_nodup h.ids _,fun h0=>absurd h0 (by omega)⟩
 ·unfold shutX;rw[e];exact h.th
 ·unfold shutX;rw[e];exact h.kk
 ·unfold shutX;rw[e];exact h.n
 ·unfold shutX;rw[e];exact h.cl
 ·unfold shutX;rw[e];exact h.N
 ·rw[eT,List.length_set];exact h.len
 ·rw[eo,h.o];omega
 ·rw[eev];have:=h.ev;omega
 ·unfold shutX;rw[e];exact h.tk
 ·unfold shutX;rw[e];exact h.now
 ·show σ.gone++[_]=_;rw[h.gone,idsF_snoc]
 ·rw[eT] at hy;by_cases ei:i=a+k
  ·subst ei;rw[List.getElem?_set_self hlt] at hy;injection hy with hy
   subst hy;rw[(turnX_key x 6).2.2.1,(turnX_key x 6).2.2.2,if_neg (by omega),if_pos (by omega)];exact⟨hp,rfl⟩
  ·rw[List.getElem?_set_ne (fun q=>ei q.symm)] at hy;obtain⟨h1,h2⟩:=h.st i y hy;refine⟨h1,?_⟩;rw[h2];by_cases c1:i<a
   ·rw[if_pos c1,if_pos c1]
   ·rw[if_neg c1,if_neg c1];by_cases c2:i<a+k
    ·rw[if_pos c2,if_pos (by omega)]
    ·rw[if_neg c2,if_neg (by omega)]
 ·rw[etm,mem_canT h.ids,h.tm];constructor
  ·rintro⟨⟨m,h0,hm,e1,e2⟩,hne⟩;refine⟨m,?_,hm,e1,e2⟩;have hne:id≠((a+k:Nat):Int)+1:=hne;omega
  ·rintro⟨m,h0,hm,e1,e2⟩;exact⟨⟨m,by omega,hm,e1,e2⟩,by show id≠_;omega⟩
theorem KC.all:∀(m:Nat){σ:CS}{a b k:Nat}{c:Bool},k+m=b->KC σ a b k c->a<=20->b<=20->ShutH (idsF (a+k) m) σ/\∀τ,ShutL (idsF (a+k) m) σ τ->KC τ a b b c
 | 0,σ,a,b,k,c,e,h,_,_=>by
  refine⟨trivial,fun τ hτ=>?_⟩;have hτ:τ=σ:=hτ;have e:k=b:=e;subst hτ e;exact h
 | m+1,σ,a,b,k,c,e,h,ha,hb=>by
  have hk:k<b:=by omega
  have go:∀d,KillL σ.E (((a+k:Nat):Int)+1) d->ShutH (idsF (a+(k+1)) m) (shutX σ (((a+k:Nat):Int)+1) d)/\∀τ,ShutL (idsF (a+(k+1)) m) (shutX σ (((a+k:Nat):Int)+1) d) τ->KC τ a b b c:=fun d kl=>KC.all m (by omega) (h.drop hk kl) ha hb;refine⟨⟨h.dropH hk ha hb,fun d kl=>(go d kl).1⟩,fun τ hτ=>?_⟩;obtain⟨d,kl,h2⟩:=hτ;exact(go d kl).2 τ h2
theorem KC.live(h:KC σ a b b c):(liveN σ.T=0)↔a=0:=by
 unfold liveN;constructor
 ·intro h0;rcases Nat.eq_zero_or_pos a with ha|ha
  ·exact ha
  ·exfalso
   obtain⟨x,hx⟩:∃x,σ.T[0]?=some x:=⟨_,List.getElem?_eq_getElem (by rw[h.len];omega)⟩;obtain⟨_,h2⟩:=h.st 0 x hx;rw[if_pos ha] at h2;have:0<σ.T.countP (Ta.ofS 2):=List.countP_pos_iff.2 ⟨x,List.mem_of_getElem? hx,by unfold Ta.ofS;rw[h2];rfl⟩;omega
 ·intro ha;subst ha
  have z:∀s:Int,s≠6->σ.T.countP (Ta.ofS s)=0:=fun s hs=>by
   rw[List.countP_eq_zero];intro x hx;obtain⟨i,hi⟩:=List.getElem?_of_mem hx;obtain⟨_,h2⟩:=h.st i x hi;have hl:=(List.getElem?_eq_some_iff.1 hi).1;rw[h.len] at hl;rw[if_neg (by omega),if_pos hl] at h2;unfold Ta.ofS;rw[h2];simp;omega
  rw[z 1 (by decide),z 2 (by decide),z 3 (by decide)]
end
section
variable {w w' u w0:World}{L i:Nat}{D:CAd}{F F' F0:Nat->Nat->Prop}{g v:Value}{σ:CS}{x:Ta.TR}
theorem Co.own(C:Co w L D F g v σ){X:Nat->Prop}(G:Gc L F0 w0 F w)(hX:∀k,X k->w0.heap.size<=k/\(∀p,¬F p k)/\NQ w k)(hL:L<=w0.heap.size)(f:Ta.Fr X w w'):Cox L D F0 w0 σ w':=
 ⟨F,g,v,C.frX f (fun k hk=>(hX k hk).2),G.ownX (fun k hk=>(hX k hk).1) hL f⟩
theorem confC(C:Co w L D F g v σ) :
  Calls Tryz.prog 21 #[pt D.B] w fun e w'=>e=.returned (.agg #[.int .i64 σ.th,.int .i64 σ.k,.int .i64 σ.n])/\Below w.heap.size w w':=by
 obtain⟨K,hK⟩:∃J,w.heap.size=J:=⟨_,rfl⟩;obtain⟨u,hu⟩:∃q,w.alloc (.cells #[.int .i64 0,.int .i64 0,.int .i64 0] 28)=q:=⟨_,rfl⟩;have b0:Below w.heap.size w u:=by rw[<-hu];exact belA _ _
 have hk:u.heap[K]?=some (.cells #[.int .i64 0,.int .i64 0,.int .i64 0] 28 (0,0)):=by rw[<-hu,<-hK];exact heap_alloc_new w _
 have C0:=C.below b0;have c0:=C0.c0;have c1:=C0.c1;have c2:=C0.c2;have klt:=lt_of_block hk;have blt:=lt_of_block C0.head;have kfz:∀o,u.frozen? ⟨K,o,none⟩=false:=(fun o=>by simp[World.frozen?,hk]);have k0:u.cell? ⟨K,0,none⟩=some (.int .i64 0):=by rw[cell_of_row _ _ _ _ _ _ hk];rfl
 have k1:u.cell? ⟨K,1,none⟩=some (.int .i64 0):=by rw[cell_of_row _ _ _ _ _ _ hk];rfl
 have k2:u.cell? ⟨K,2,none⟩=some (.int .i64 0):=by rw[cell_of_row _ _ _ _ _ _ hk];rfl
 have E:Aside ((((u.setCell ⟨K,0,none⟩ (.int .i64 σ.th)).setCell ⟨K,1,none⟩ (.int .i64 σ.k)).setCell ⟨K,2,none⟩ (.int .i64 σ.n)).heap[K]?=some (.cells #[.int .i64 σ.th,.int .i64 σ.k,.int .i64 σ.n] 28 (0,0))):=set_at (set_at (set_at hk _) _) _;have FIN:Aside (Below w.heap.size w (((u.setCell ⟨K,0,none⟩ (.int .i64 σ.th)).setCell ⟨K,1,none⟩ (.int .i64 σ.k)).setCell ⟨K,2,none⟩ (.int .i64 σ.n))):=((b0.setCell (le_of_eq hK) _).setCell (le_of_eq hK) _).setCell (le_of_eq hK) _;have HU:Aside _:=hu;have HK:Aside _:=hK;clear C C0 hu b0 hk hK;go_enter Tryz.func21,Tryz.ntmps21
 go_upto_region 1 with fail
 rw[HU.out];try simp only[HK.out]
 go_wp2_with fail
 have eb:=fun j=>cell_of_row _ _ j _ _ _ E.out;have q0:=eb 0;have q1:=eb 1;have q2:=eb 2;refine bodyPost_ret (v:=.agg #[.int .i64 σ.th,.int .i64 σ.k,.int .i64 σ.n]) (by simp[results,Tryz.results21,go_sem,q0,q1,q2]) rfl ⟨rfl,?_⟩;exact FIN.out
end
section
variable {w w' u w0:World}{L i:Nat}{D:CAd}{F F' F0:Nat->Nat->Prop}{g v:Value}{σ σ':CS}
theorem confOkC(a b c:Nat)(w:World)(h1:1<=a)(h8:a<=8)(hK:b<=16)(c1:1<=c)(c64:c<=64) :
  Calls Tryz.prog 20 #[.agg #[.int .i64 a,.int .i64 b,.int .i64 c]] w fun e w'=>e=.returned (.bool true)/\Below w.heap.size w w':=by
 have e1:(a:Int)>=1:=by omega
 have e2:(a:Int)<=8:=by omega
 have e3:(b:Int)>=0:=by omega
 have e4:(b:Int)<=16:=by omega
 have e5:(c:Int)>=1:=by omega
 have e6:(c:Int)<=64:=by omega
 go_enter Tryz.func20,Tryz.ntmps20
 go_wp2
 go_ret;exact⟨rfl,belA _ _⟩
end
end Go.Proofs.YthpgfmmpjoodkaaGreatDoor
