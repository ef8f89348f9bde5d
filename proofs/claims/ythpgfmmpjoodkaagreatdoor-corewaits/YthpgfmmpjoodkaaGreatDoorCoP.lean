import Derived.Test.YthpgfmmpjoodkaaGreatDoorCoN
open List(getElem?_set_ne getElem?_set_self length_set)
open Nat(le_refl)
namespace Go.Proofs.YthpgfmmpjoodkaaGreatDoor
set_option maxHeartbeats 8000000
set_option linter.unusedVariables false
set_option maxRecDepth 100000
section
open Go.RowKit Go.Lib
def Rdy(T:List Ta.TR)(e:Qu.Ent):Prop:=∃(k:Nat)(x:Ta.TR),T[k]?=some x∧x.s=2∧e=(x.key,(k:Int)+1)
def QI(σ:CS):Prop:=∃sl ow sh,Qu.View σ.th σ.q sl ow sh∧(Qu.ids (Qu.allV σ.th sl ow sh)).Nodup∧∀e,e∈Qu.allV σ.th sl ow sh↔Rdy σ.T e
variable {σ σ':CS}{t:Nat}{e0:Qu.Ent}{x y:Ta.TR}{i:Nat}
theorem QI.new(th k n:Nat):QI (newS th k n):=by
 refine⟨_,_,_,Qu.View.new th,?_,fun e=>?_⟩
 ·simp[Qu.allV,Qu.ids,Qu.flatN_nil]
 ·constructor
  ·intro h;simp[Qu.allV] at h
  ·rintro⟨k,x,h,_⟩;simp[newS] at h
theorem QI.put(h:QI σ)(ht:t<σ.th)(hq:σ'.q=Qu.putQ σ.k σ.q t e0)(hth:σ'.th=σ.th)(hR:∀e,Rdy σ'.T e↔e=e0∨Rdy σ.T e)(hf:∀e,Rdy σ.T e→e.2≠e0.2):QI σ':=by
 obtain⟨sl,ow,sh,V,nd,al⟩:=h
 obtain⟨sl',ow',sh',V',P⟩:=V.putAny (K:=σ.k) ht e0
 refine⟨sl',ow',sh',by rw[hq,hth];exact V',?_,fun e=>?_⟩
 ·rw[hth]
  refine((P.map Prod.snd).nodup_iff).2 (List.nodup_cons.2 ⟨fun hm=>?_,nd⟩)
  obtain⟨e,he,h2⟩:=List.mem_map.1 hm
  exact hf e ((al e).1 he) h2
 ·rw[hth,P.mem_iff,hR e,List.mem_cons,al e]
theorem QI.look(h:QI σ){N:Nat}(ok:Qu.QOk σ.k σ.th N σ.q)(ht:t<σ.th)(dr:Nat)(hne:∃e,Rdy σ.T e)(tk:Int):∃x y z,Qu.relaxQ σ.q σ.th σ.k t dr=(x,true)∧Qu.unl (Qu.leastQ σ.q σ.th)=y∧(z=if y.1≤tk then y else x)∧Rdy σ.T z:=by
 obtain⟨sl,ow,sh,V,nd,al⟩:=h
 obtain⟨e,he⟩:=hne
 have hm:=(al e).2 he
 have hn:Qu.allV σ.th sl ow sh≠[]:=fun h=>by rw[h] at hm;simp at hm
 rcases V.relaxed ok ht dr with⟨h,_⟩|⟨_,h2,h3,_⟩
 ·exact absurd h hn
 ·rcases V.least with⟨_,h⟩|⟨j,y,h4,h5⟩
  ·exact absurd h hn
  ·refine⟨_,y,_,Prod.ext rfl h2,by rw[h4];rfl,rfl,?_⟩
   split
   ·exact(al y).1 h5.1
   ·exact(al _).1 h3
theorem rdy_push{T:List Ta.TR}(hx:x.s=2)(e:Qu.Ent):Rdy (T++[x]) e↔e=(x.key,(T.length:Int)+1)∨Rdy T e:=by
 constructor
 ·rintro⟨k,y,h,hs,rfl⟩
  by_cases c:k<T.length
  ·rw[List.getElem?_append_left c] at h
   exact .inr ⟨k,y,h,hs,rfl⟩
  ·have:=(List.getElem?_eq_some_iff.1 h).1
   simp at this
   obtain rfl:k=T.length:=by omega
   rw[List.getElem?_append_right (le_refl _)] at h
   simp at h
   subst h
   exact .inl rfl
 ·rintro(rfl|⟨k,y,h,hs,rfl⟩)
  ·exact⟨T.length,x,by simp,hx,rfl⟩
  ·have:=(List.getElem?_eq_some_iff.1 h).1
   exact⟨k,y,by rw[List.getElem?_append_left this];exact h,hs,rfl⟩
theorem rdy_id{T:List Ta.TR}{e:Qu.Ent}(h:Rdy T e):1≤e.2∧e.2≤T.length:=by
 obtain⟨k,y,h,hs,rfl⟩:=h
 have:=(List.getElem?_eq_some_iff.1 h).1
 show 1≤(k:Int)+1∧(k:Int)+1≤T.length
 omega
theorem sub_T(σ:CS)(t:Nat)(prio:Int):(subS σ t prio).T=σ.T++[{Ta.mkT prio 0 0 0 0 0 2 with key:=keyS σ (Ta.mkT prio 0 0 0 0 0 2)}]:=by
 show(σ.T++[_]).set σ.T.length _=_
 rw[List.set_append_right _ _ (le_refl _)]
 simp
 rfl
theorem QI.sub(h:QI σ)(ht:t<σ.th)(prio:Int):QI (subS σ t prio):=by
 refine h.put (t:=t) (e0:=(keyS σ (Ta.mkT prio 0 0 0 0 0 2),(σ.T.length:Int)+1)) ht rfl rfl (fun e=>?_) (fun e he=>?_)
 ·rw[sub_T,rdy_push rfl]
 ·have:=rdy_id he
  show e.2≠(σ.T.length:Int)+1
  omega
theorem done_nil{d:List Int}{id:Int}(h:DoneL (fun _ _=>False) id d):d=[]:=by
 cases d with
 | nil=>rfl
 | cons j d=>exact((h.2 j).1 (by simp)).1.elim
end
section
open Go.RowKit Go.Lib Go.WideMaps Go.Maps
def liv(x:Ta.TR):Bool:=decide (1≤x.s∧x.s≤3)
theorem cnt_set{T:List Ta.TR}{i:Nat}{x:Ta.TR}(y:Ta.TR)(h:T[i]?=some x):(T.set i y).countP liv+(if liv x=true then 1 else 0)=T.countP liv+if liv y=true then 1 else 0:=Ta.cntP_set liv T i x y h
theorem relL_cnt(t:Nat):∀(d:List Int)(σ:CS),d.Nodup→(∀j∈d,Wt σ.T j)→(relL t d σ).T.countP liv=σ.T.countP liv
 | [],σ,_,_=>rfl
 | j::d,σ,hn,hw=>by
  obtain⟨h1,h2⟩:=List.nodup_cons.1 hn
  obtain⟨kk,x,ej,hx,hs,hp⟩:=hw j (by simp)
  have e:relL t (j::d) σ=relL t d (relStep t σ j):=rfl
  have eT:(relStep t σ j).T=σ.T.set kk {turnX x 2 with key:=keyS (turnS σ kk x 2) (turnX x 2)}:=by
   rw[ej,relStep_at t σ kk x hx,relS_T]
   show(σ.T.set kk _).set kk _=_
   rw[List.set_set]
  have hw':∀j'∈d,Wt (relStep t σ j).T j':=fun j' hj'=>by
   obtain⟨k',x',ej',hx',hs',hp'⟩:=hw j' (by simp[hj'])
   exact⟨k',x',ej',by rw[eT,getElem?_set_ne (fun h=>h1 (by rw[ej,h,←ej'];exact hj'))];exact hx',hs',hp'⟩
  have h3:=cnt_set {turnX x 2 with key:=keyS (turnS σ kk x 2) (turnX x 2)} hx
  have a:liv x=true:=by simp[liv,hs]
  have b:liv {turnX x 2 with key:=keyS (turnS σ kk x 2) (turnX x 2)}=true:=by simp[liv,(turnX_key x 2).2.2.1]
  rw[a,b] at h3
  rw[e,relL_cnt t d _ h2 hw',eT]
  simpa using h3
theorem canL_T:∀(d:List Int)(σ:CS),d.Nodup→(∀j∈d,CanT σ.T j)→(canL d σ).T.countP liv+d.length=σ.T.countP liv∧∀k:Nat,(((k:Int)+1)∉d→(canL d σ).T[k]?=σ.T[k]?)∧(((k:Int)+1)∈d→∀x,σ.T[k]?=some x→∃y,(canL d σ).T[k]?=some y∧y.s=6∧y.p=x.p)
 | [],σ,_,_=>⟨rfl,fun k=>⟨fun _=>rfl,fun h=>by simp at h⟩⟩
 | j::d,σ,hn,hw=>by
  obtain⟨h1,h2⟩:=List.nodup_cons.1 hn
  obtain⟨kk,x,ej,hx,hs,hp⟩:=hw j (by simp)
  have e:canL (j::d) σ=canL d (canStep σ j):=rfl
  have eT:(canStep σ j).T=σ.T.set kk (turnX x 6):=by rw[ej,canStep_at σ kk x hx,canX_T]
  have oth:∀k':Nat,k'≠kk→(canStep σ j).T[k']?=σ.T[k']?:=fun k' hk'=>by rw[eT,getElem?_set_ne (fun h=>hk' h.symm)]
  have hkl:kk<σ.T.length:=(List.getElem?_eq_some_iff.1 hx).1
  have hw':∀j'∈d,CanT (canStep σ j).T j':=fun j' hj'=>by
   obtain⟨k',x',ej',hx',hs',hp'⟩:=hw j' (by simp[hj'])
   exact⟨k',x',ej',by rw[oth k' (fun h=>h1 (by rw[ej,←h,←ej'];exact hj'))];exact hx',hs',hp'⟩
  obtain⟨c,r⟩:=canL_T d (canStep σ j) h2 hw'
  have h3:=cnt_set (turnX x 6) hx
  have a:liv x=true:=by rcases hs with hs|hs<;>simp[liv,hs]
  have b:liv (turnX x 6)=false:=by simp[liv,(turnX_key x 6).2.2.1]
  rw[a,b] at h3
  rw[e]
  refine⟨?_,fun k=>?_⟩
  ·rw[eT] at c
   simp at h3⊢
   omega
  obtain⟨r1,r2⟩:=r k
  refine⟨fun h=>?_,fun h y hy=>?_⟩
  ·have hk:k≠kk:=fun hk=>h (by rw[ej,hk];simp)
   rw[r1 (fun hd=>h (by simp[hd])),oth k hk]
  ·by_cases hk:k=kk
   ·subst hk
    rw[hx] at hy
    injection hy with hy
    subst hy
    refine⟨turnX x 6,?_,(turnX_key x 6).2.2.1,(turnX_key x 6).2.2.2⟩
    rw[r1 (by rw[←ej];exact h1),eT,getElem?_set_self hkl]
   ·have hd:((k:Int)+1)∈d:=by
     rcases List.mem_cons.1 h with h|h
     ·exact absurd (by rw[ej] at h;omega) hk
     ·exact h
    exact r2 hd y (by rw[oth k hk];exact hy)
def sN(T:List Ta.TR)(k:Nat):Int:=stT T ((k:Int)+1)
theorem sN_at{T:List Ta.TR}{k:Nat}{x:Ta.TR}(h:T[k]?=some x):sN T k=x.s:=stT_at h
structure RS(P:Nat→Nat→Prop)(m:Nat)(S:Nat→Int):Prop where
 lo:∀j k,P j k→j<k
 rg:∀k,k<m→1≤S k∧S k≤6
 r1:∀k,k<m→S k=1→∃j,P j k∧S j≠4
 r2:∀k,k<m→(S k=2∨S k=3∨S k=4∨S k=5)→∀j,P j k→S j=4
 r3:∀k,k<m→(S k=6↔∃j,P j k∧(S j=5∨S j=6))
variable {P:Nat→Nat→Prop}{m k:Nat}{S S':Nat→Int}
theorem RS.sub(h:RS P m S)(hf:∀j,j<m→S j=1∨S j=2)(hs:∀j,j<m→S' j=S j)(hw:(S' m=1∧∃j,P j m)∨(S' m=2∧∀j,¬P j m)):RS P (m+1) S'∧∀j,j<m+1→S' j=1∨S' j=2:=by
 have hf':∀j,j<m+1→S' j=1∨S' j=2:=fun j hj=>by
  by_cases e:j=m
  ·subst e;rcases hw with⟨a,_⟩|⟨a,_⟩<;>omega
  ·rw[hs j (by omega)];exact hf j (by omega)
 refine⟨⟨h.lo,fun j hj=>by have:=hf' j hj;omega,fun k hk h1=>?_,fun k hk h2 j hj=>?_,fun k hk=>⟨fun h6=>by have:=hf' k hk;omega,fun⟨j,hj,h5⟩=>by have:=h.lo _ _ hj;have:=hf' j (by omega);omega⟩⟩,hf'⟩
 ·by_cases e:k=m
  ·subst e
   rcases hw with⟨_,j,hj⟩|⟨a,_⟩
   ·exact⟨j,hj,by have:=h.lo _ _ hj;have:=hf' j (by omega);omega⟩
   ·omega
  ·obtain⟨j,hj,h4⟩:=h.r1 k (by omega) (by rw[←hs k (by omega)];exact h1)
   exact⟨j,hj,by have:=h.lo _ _ hj;have:=hf' j (by omega);omega⟩
 ·by_cases e:k=m
  ·subst e
   rcases hw with⟨a,_⟩|⟨_,a⟩
   ·omega
   ·exact absurd hj (a j)
  ·have:=h.r2 k (by omega) (by rw[←hs k (by omega)];exact h2) j hj
   have:=h.lo _ _ hj
   rw[hs j (by omega)]
   assumption
theorem RS.claim(h:RS P m S)(hk:k<m)(h2:S k=2)(hn:S' k=3)(hs:∀j,j≠k→S' j=S j):RS P m S':=by
 have ne4:∀j,S j≠4→S' j≠4:=fun j h4=>by
  by_cases e:j=k
  ·rw[e,hn];decide
  ·rw[hs j e];exact h4
 refine⟨h.lo,fun j hj=>?_,fun i hi h1=>?_,fun i hi hh j hj=>?_,fun i hi=>?_⟩
 ·by_cases e:j=k
  ·rw[e,hn];decide
  ·rw[hs j e];exact h.rg j hj
 ·have e:i≠k:=fun e=>by rw[e,hn] at h1;omega
  rw[hs i e] at h1
  obtain⟨j,hj,h4⟩:=h.r1 i hi h1
  exact⟨j,hj,ne4 j h4⟩
 ·have h4:S j=4:=by
   by_cases e:i=k
   ·rw[e] at hj hi;exact h.r2 k hi (.inl h2) j hj
   ·rw[hs i e] at hh;exact h.r2 i hi hh j hj
  rw[hs j (fun e=>by rw[e,h2] at h4;omega)]
  exact h4
 ·have e6:S' i=6↔S i=6:=by
   by_cases e:i=k
   ·rw[e,hn,h2];decide
   ·rw[hs i e]
  rw[e6,h.r3 i hi]
  constructor
  ·rintro⟨j,hj,h5⟩
   exact⟨j,hj,by rw[hs j (fun e=>by rw[e,h2] at h5;omega)];exact h5⟩
  ·rintro⟨j,hj,h5⟩
   exact⟨j,hj,by rw[←hs j (fun e=>by rw[e,hn] at h5;omega)];exact h5⟩
theorem RS.done(h:RS P m S){R:Nat→Prop}(hk:k<m)(h3:S k=3)(hn:S' k=4)(hR:∀i,i<m→(R i↔P k i∧S i=1∧∀j,P j i→S j≠4→j=k))(hr:∀i,i<m→R i→S' i=2)(hs:∀i,i<m→i≠k→¬R i→S' i=S i):RS P m S':=by
 have st:∀i,i<m→i≠k→S' i=S i∨(S i=1∧S' i=2):=fun i hi hik=>by
  by_cases r:R i
  ·exact .inr ⟨((hR i hi).1 r).2.1,hr i hi r⟩
  ·exact .inl (hs i hi hik r)
 have up4:∀j,j<m→S j=4→S' j=4:=fun j hj h4=>by
  have:=st j hj (fun e=>by rw[e] at h4;omega)
  omega
 refine⟨h.lo,fun j hj=>?_,fun i hi h1=>?_,fun i hi hh j hj=>?_,fun i hi=>?_⟩
 ·by_cases e:j=k
  ·rw[e,hn];decide
  ·have:=st j hj e
   have:=h.rg j hj
   omega
 ·have e:i≠k:=fun e=>by rw[e,hn] at h1;omega
  have e1:S i=1:=by have:=st i hi e;omega
  have nr:¬R i:=fun r=>by have:=hr i hi r;omega
  obtain⟨j,hj,h4⟩:=h.r1 i hi e1
  have hji:=h.lo _ _ hj
  by_cases c:j=k
  ·subst c
   have:¬∀q,P q i→S q≠4→q=j:=fun a=>nr ((hR i hi).2 ⟨hj,e1,a⟩)
   obtain⟨q,hq⟩:=Classical.not_forall.1 this
   obtain⟨q1,hq⟩:=Classical.not_imp.1 hq
   obtain⟨q2,q3⟩:=Classical.not_imp.1 hq
   have:=h.lo _ _ q1
   have:=st q (by omega) q3
   exact⟨q,q1,by omega⟩
  ·have:=st j (by omega) c
   exact⟨j,hj,by omega⟩
 ·have hji:=h.lo _ _ hj
  by_cases r:R i
  ·by_cases c:j=k
   ·rw[c];exact hn
   ·refine up4 j (by omega) ?_
    by_cases h4:S j=4
    ·exact h4
    ·exact absurd (((hR i hi).1 r).2.2 j hj h4) c
  ·by_cases e:i=k
   ·subst e
    exact up4 j (by omega) (h.r2 i hi (by omega) j hj)
   ·rw[hs i hi e r] at hh
    exact up4 j (by omega) (h.r2 i hi hh j hj)
 ·have e6:S' i=6↔S i=6:=by
   by_cases e:i=k
   ·rw[e,hn,h3];decide
   ·have:=st i hi e;omega
  rw[e6,h.r3 i hi]
  constructor
  ·rintro⟨j,hj,h5⟩
   have:=h.lo _ _ hj
   have:=st j (by omega) (fun e=>by rw[e] at h5;omega)
   exact⟨j,hj,by omega⟩
  ·rintro⟨j,hj,h5⟩
   have:=h.lo _ _ hj
   have:=st j (by omega) (fun e=>by rw[e] at h5;omega)
   exact⟨j,hj,by omega⟩
theorem RS.fail(h:RS P m S){R:Nat→Prop}(hk:k<m)(h3:S k=3)(hn:S' k=5)(hR:∀i,i<m→(R i↔S i=1∧∃j,P j i∧(j=k∨R j)))(hr:∀i,i<m→R i→S' i=6)(hs:∀i,i<m→i≠k→¬R i→S' i=S i):RS P m S':=by
 have st:∀i,i<m→i≠k→S' i=S i∨(S i=1∧S' i=6):=fun i hi hik=>by
  by_cases r:R i
  ·exact .inr ⟨((hR i hi).1 r).1,hr i hi r⟩
  ·exact .inl (hs i hi hik r)
 have up4:∀j,j<m→(S' j=4↔S j=4):=fun j hj=>by
  by_cases e:j=k
  ·rw[e,hn,h3];decide
  ·have:=st j hj e
   omega
 refine⟨h.lo,fun j hj=>?_,fun i hi h1=>?_,fun i hi hh j hj=>?_,fun i hi=>?_⟩
 ·by_cases e:j=k
  ·rw[e,hn];decide
  ·have:=st j hj e
   have:=h.rg j hj
   omega
 ·have e:i≠k:=fun e=>by rw[e,hn] at h1;omega
  have e1:S i=1:=by have:=st i hi e;omega
  obtain⟨j,hj,h4⟩:=h.r1 i hi e1
  have hji:=h.lo _ _ hj
  exact⟨j,hj,fun c=>h4 ((up4 j (by omega)).1 c)⟩
 ·have hji:=h.lo _ _ hj
  refine(up4 j (by omega)).2 ?_
  by_cases e:i=k
  ·subst e;exact h.r2 i hi (by omega) j hj
  ·have:=st i hi e
   exact h.r2 i hi (by omega) j hj
 ·by_cases e:i=k
  ·subst e
   rw[hn]
   refine⟨fun c=>absurd c (by decide),fun⟨j,hj,h5⟩=>?_⟩
   have hji:=h.lo _ _ hj
   have:=h.r2 i hi (by omega) j hj
   have:=(up4 j (by omega)).2 this
   omega
  ·have hst:=st i hi e
   constructor
   ·intro h6
    by_cases r:R i
    ·obtain⟨_,j,hj,c⟩:=(hR i hi).1 r
     have hji:=h.lo _ _ hj
     rcases c with c|c
     ·exact⟨j,hj,.inl (by rw[c];exact hn)⟩
     ·exact⟨j,hj,.inr (hr j (by omega) c)⟩
    ·rw[hs i hi e r] at h6
     obtain⟨j,hj,h5⟩:=(h.r3 i hi).1 h6
     have hji:=h.lo _ _ hj
     have:=st j (by omega) (fun c=>by rw[c] at h5;omega)
     exact⟨j,hj,by omega⟩
   ·rintro⟨j,hj,h5⟩
    have hji:=h.lo _ _ hj
    have key:S i=1∨S i=6:=by
     have hrg:=h.rg i hi
     by_cases c:S i=2∨S i=3∨S i=4∨S i=5
     ·have:=h.r2 i hi c j hj
      have:=(up4 j (by omega)).2 this
      omega
     ·omega
    rcases key with e1|e6
    ·refine hr i hi ((hR i hi).2 ⟨e1,j,hj,?_⟩)
     by_cases c:j=k
     ·exact .inl c
     ·refine .inr ?_
      by_cases r:R j
      ·exact r
      ·rw[hs j (by omega) c r] at h5
       have:=(h.r3 i hi).2 ⟨j,hj,h5⟩
       omega
    ·omega
theorem RS.over(h:RS P m S)(h2:∀k,k<m→S k≠2∧S k≠3):∀k,k<m→S k=4∨S k=5∨S k=6:=by
 intro k
 induction k using Nat.strongRecOn with
 | _ k ih=>
  intro hk
  have:=h.rg k hk
  have:=h2 k hk
  by_cases e1:S k=1
  ·obtain⟨j,hj,h4⟩:=h.r1 k hk e1
   have hji:=h.lo _ _ hj
   rcases ih j hji (by omega) with c|c|c
   ·exact absurd c h4
   ·have:=(h.r3 k hk).2 ⟨j,hj,.inl c⟩;omega
   ·have:=(h.r3 k hk).2 ⟨j,hj,.inr c⟩;omega
  ·omega
end
section
open Go.RowKit Go.Lib Go.WideMaps Go.Maps
theorem sN_eq(T:List Ta.TR)(k:Nat):sN T k=match T[k]? with|some x=>x.s|none=>0:=by
 unfold sN stT
 rw[if_pos (by omega),show((k:Int)+1-1).toNat=k by omega]
 cases T[k]?<;>rfl
theorem sN_congr{T T':List Ta.TR}{k:Nat}(h:T'[k]?=T[k]?):sN T' k=sN T k:=by rw[sN_eq,sN_eq,h]
variable {P:Nat→Nat→Prop}{σ:CS}{m c k:Nat}{x:Ta.TR}
structure RU(P:Nat→Nat→Prop)(σ:CS)(m c:Nat):Prop where
 th:σ.th=2
 n:σ.n=64
 cl:σ.cl=false
 len:σ.T.length=m
 p0:∀(i:Nat)(y:Ta.TR),σ.T[i]?=some y→y.p=0
 o:σ.o=σ.T.countP liv
 N:σ.N≤20*m
 tk:σ.tk≤c
 qn:σ.qn≤c
 ev:σ.ev.length≤c
 rs:RS P m (sN σ.T)
 E:∀q i,σ.E q i↔∃j k:Nat,q=(j:Int)+1∧i=(k:Int)+1∧k<m∧P j k∧sN σ.T k=1∧sN σ.T j≠4
theorem RU.new(hP:∀j k,P j k→j<k):RU P (newS 2 3 64) 0 0:=by
 refine⟨rfl,rfl,rfl,rfl,fun i y h=>by simp[newS] at h,rfl,le_refl _,le_refl _,le_refl _,le_refl _,⟨hP,fun k h=>by omega,fun k h=>by omega,fun k h=>by omega,fun k h=>by omega⟩,fun q i=>⟨fun h=>h.elim,fun⟨j,k,_,_,h,_⟩=>by omega⟩⟩
theorem RU.at(h:RU P σ m c)(hk:k<m):∃x,σ.T[k]?=some x∧x.p=0∧sN σ.T k=x.s:=by
 have e:σ.T[k]?=some (σ.T[k]'(by rw[h.len];exact hk)):=List.getElem?_eq_getElem _
 exact⟨_,e,h.p0 k _ e,sN_at e⟩
theorem RU.wt(h:RU P σ m c)(hk:k<m)(h1:sN σ.T k=1):Wt σ.T ((k:Int)+1):=by
 obtain⟨x,hx,hp,hs⟩:=h.at hk
 exact⟨k,x,rfl,hx,by omega,by omega⟩
theorem RU.lt(h:RU P σ m c):∀p i,σ.E p i→p<i:=fun p i e=>by
 obtain⟨j,k,rfl,rfl,_,hp,_⟩:=(h.E p i).1 e
 have:=h.rs.lo j k hp
 omega
theorem RU.wtE(h:RU P σ m c){id j:Int}(e:σ.E id j):Wt σ.T j:=by
 obtain⟨_,k,_,rfl,hk,_,h1,_⟩:=(h.E _ _).1 e
 exact h.wt hk h1
theorem RU.wtR(h:RU P σ m c){id j:Int}(r:Da.Rch σ.E id j):Wt σ.T j:=
 r (fun j=>Wt σ.T j) (fun _ e=>h.wtE e) (fun _ _ _ e=>h.wtE e)
theorem RU.cnt(h:RU P σ m c):σ.T.countP isC≤m∧σ.T.countP isW≤m∧σ.o≤m:=by
 have h1:=Ta.cntP_le isC σ.T
 have h2:=Ta.cntP_le isW σ.T
 have h3:=Ta.cntP_le liv σ.T
 rw[h.len] at h1 h2 h3
 exact⟨h1,h2,by rw[h.o];exact h3⟩
theorem push_at{α:Type}{T:List α}{y z:α}{i m:Nat}(hl:T.length=m)(h:(T++[y])[i]?=some z):(i<m∧T[i]?=some z)∨(i=m∧z=y):=by
 subst hl
 by_cases c:i<T.length
 ·rw[List.getElem?_append_left c] at h;exact .inl ⟨c,h⟩
 ·have hi:=(List.getElem?_eq_some_iff.1 h).1
  simp at hi
  obtain rfl:i=T.length:=by omega
  simp at h
  exact .inr ⟨rfl,h.symm⟩
theorem sN_push{T:List Ta.TR}{y:Ta.TR}{m:Nat}(hl:T.length=m):sN (T++[y]) m=y.s∧∀j,j<m→sN (T++[y]) j=sN T j:=by
 subst hl
 exact⟨sN_at (by simp),fun j hj=>sN_congr (List.getElem?_append_left hj)⟩
theorem RU.sub(h:RU P σ m c)(hf:∀j,j<m→sN σ.T j=1∨sN σ.T j=2)(hn:∀j,¬P j m)(t:Nat)(prio:Int):RU P (subS σ t prio) (m+1) (c+2)∧∀j,j<m+1→sN (subS σ t prio).T j=1∨sN (subS σ t prio).T j=2:=by
 obtain⟨y,hy,ys,yp⟩:∃y:Ta.TR,(subS σ t prio).T=σ.T++[y]∧y.s=2∧y.p=0:=⟨_,sub_T σ t prio,rfl,rfl⟩
 obtain⟨e1,e2⟩:=sN_push (y:=y) h.len
 rw[←hy] at e1 e2
 obtain⟨r,f⟩:=h.rs.sub hf e2 (.inr ⟨by rw[e1,ys],hn⟩)
 refine⟨⟨h.th,h.n,h.cl,by rw[hy];simp[h.len],fun i z hz=>?_,?_,?_,?_,?_,?_,r,fun q i=>?_⟩,f⟩
 ·rw[hy] at hz
  rcases push_at h.len hz with⟨_,a⟩|⟨_,rfl⟩
  ·exact h.p0 i z a
  ·exact yp
 ·rw[hy,List.countP_append]
  show σ.o+1=_
  rw[h.o]
  simp[liv,ys]
 ·show σ.N≤_
  have:=h.N;omega
 ·show σ.tk≤_
  have:=h.tk;omega
 ·show σ.qn+1≤_
  have:=h.qn;omega
 ·show((σ.ev++[_])++[_]).length≤_
  have:=h.ev;simp;omega
 ·show σ.E q i↔_
  rw[h.E]
  constructor
  ·rintro⟨j,k,e3,e4,hk,hp,h1,h4⟩
   have:=h.rs.lo j k hp
   exact⟨j,k,e3,e4,by omega,hp,by rw[e2 k hk];exact h1,by rw[e2 j (by omega)];exact h4⟩
  ·rintro⟨j,k,e3,e4,hk,hp,h1,h4⟩
   have hlo:=h.rs.lo j k hp
   have hkm:k≠m:=fun e=>hn j (by rw[←e];exact hp)
   exact⟨j,k,e3,e4,by omega,hp,by rw[←e2 k (by omega)];exact h1,by rw[←e2 j (by omega)];exact h4⟩
theorem RU.subW(h:RU P σ m c)(hf:∀j,j<m→sN σ.T j=1∨sN σ.T j=2){d:List Int}(hd:∀q,q∈d↔∃j:Nat,q=(j:Int)+1∧P j m)(hne:∃j,P j m)(hl:d.length≤20)(prio:Int):RU P (subWS σ prio d) (m+1) (c+2)∧∀j,j<m+1→sN (subWS σ prio d).T j=1∨sN (subWS σ prio d).T j=2:=by
 obtain⟨y,hy,ys,yp⟩:∃y:Ta.TR,(subWS σ prio d).T=σ.T++[y]∧y.s=1∧y.p=0:=⟨Ta.mkT prio 0 0 0 0 0 1,rfl,rfl,rfl⟩
 obtain⟨e1,e2⟩:=sN_push (y:=y) h.len
 rw[←hy] at e1 e2
 obtain⟨r,f⟩:=h.rs.sub hf e2 (.inl ⟨by rw[e1,ys],hne⟩)
 refine⟨⟨h.th,h.n,h.cl,by rw[hy];simp[h.len],fun i z hz=>?_,?_,?_,?_,?_,?_,r,fun q i=>?_⟩,f⟩
 ·rw[hy] at hz
  rcases push_at h.len hz with⟨_,a⟩|⟨_,rfl⟩
  ·exact h.p0 i z a
  ·exact yp
 ·rw[hy,List.countP_append]
  show σ.o+1=_
  rw[h.o]
  simp[liv,ys]
 ·show σ.N+d.length≤_
  have:=h.N;omega
 ·show σ.tk≤_
  have:=h.tk;omega
 ·show σ.qn≤_
  have:=h.qn;omega
 ·show(σ.ev++[_]).length≤_
  have:=h.ev;simp;omega
 ·show(σ.E q i∨(i=(σ.T.length:Int)+1∧q∈d))↔_
  rw[h.E,hd,h.len]
  constructor
  ·rintro(⟨j,k,e3,e4,hk,hp,h1,h4⟩|⟨e4,j,e3,hp⟩)
   ·have:=h.rs.lo j k hp
    exact⟨j,k,e3,e4,by omega,hp,by rw[e2 k hk];exact h1,by rw[e2 j (by omega)];exact h4⟩
   ·have hlo:=h.rs.lo j m hp
    exact⟨j,m,e3,e4,by omega,hp,by rw[e1,ys],by have:=f j (by omega);omega⟩
  ·rintro⟨j,k,e3,e4,hk,hp,h1,h4⟩
   have hlo:=h.rs.lo j k hp
   by_cases hkm:k=m
   ·subst hkm
    exact .inr ⟨e4,j,e3,hp⟩
   ·exact .inl ⟨j,k,e3,e4,by omega,hp,by rw[←e2 k (by omega)];exact h1,by rw[←e2 j (by omega)];exact h4⟩
theorem set_p0{T:List Ta.TR}{y z:Ta.TR}{i:Nat}(h:∀(i:Nat)(y:Ta.TR),T[i]?=some y→y.p=0)(hy:y.p=0)(hz:(T.set k y)[i]?=some z):z.p=0:=by
 by_cases e:i=k
 ·subst e
  have hl:=(List.getElem?_eq_some_iff.1 hz).1
  rw[length_set] at hl
  rw[getElem?_set_self hl] at hz
  injection hz with hz
  rw[←hz];exact hy
 ·rw[getElem?_set_ne (fun h=>e h.symm)] at hz
  exact h i z hz
theorem RU.claim(h:RU P σ m c)(hx:σ.T[k]?=some x)(hs:x.s=2)(t:Nat):RU P (handS (turnS σ k x 3) t k (turnX x 3)) m (c+1)∧(handS (turnS σ k x 3) t k (turnX x 3)).T[k]?=some (turnX x 3)∧(turnX x 3).s=3∧(turnX x 3).p=0∧(handS (turnS σ k x 3) t k (turnX x 3)).o=σ.o∧∀j,j≠k→sN (handS (turnS σ k x 3) t k (turnX x 3)).T j=sN σ.T j:=by
 have hkl:k<σ.T.length:=(List.getElem?_eq_some_iff.1 hx).1
 have hkm:k<m:=by rw[←h.len];exact hkl
 have eT:(handS (turnS σ k x 3) t k (turnX x 3)).T=σ.T.set k (turnX x 3):=rfl
 have eE:(handS (turnS σ k x 3) t k (turnX x 3)).E=σ.E:=rfl
 have tx:=turnX_key x 3
 have px:(turnX x 3).p=0:=by rw[tx.2.2.2];exact h.p0 k x hx
 have a1:(σ.T.set k (turnX x 3))[k]?=some (turnX x 3):=getElem?_set_self hkl
 have e1:sN (σ.T.set k (turnX x 3)) k=3:=by rw[sN_at a1];exact tx.2.2.1
 have e2:∀j,j≠k→sN (σ.T.set k (turnX x 3)) j=sN σ.T j:=fun j hj=>sN_congr (getElem?_set_ne (fun h=>hj h.symm))
 have e0:sN σ.T k=2:=by rw[sN_at hx];exact hs
 refine⟨⟨h.th,h.n,h.cl,by rw[eT];simp[h.len],fun i z hz=>?_,?_,h.N,?_,?_,?_,?_,fun q i=>?_⟩,by rw[eT];exact a1,tx.2.2.1,px,rfl,e2⟩
 ·rw[eT] at hz
  exact set_p0 h.p0 px hz
 ·rw[eT]
  have h3:=cnt_set (turnX x 3) hx
  have a:liv x=true:=by simp[liv,hs]
  have b:liv (turnX x 3)=true:=by simp[liv,tx.2.2.1]
  rw[a,b] at h3
  show σ.o=_
  rw[h.o]
  simp at h3
  omega
 ·show σ.tk+1≤_
  have:=h.tk;omega
 ·show σ.qn+1≤_
  have:=h.qn;omega
 ·show(σ.ev++[_]).length≤_
  have:=h.ev;simp;omega
 ·rw[eT]
  exact h.rs.claim hkm e0 e1 e2
 ·rw[eT,eE,h.E]
  constructor
  ·rintro⟨j,i',e3,e4,hi,hp,h1,h4⟩
   refine⟨j,i',e3,e4,hi,hp,by rw[e2 i' (fun e=>by rw[e,e0] at h1;omega)];exact h1,?_⟩
   by_cases e:j=k
   ·rw[e,e1];decide
   ·rw[e2 j e];exact h4
  ·rintro⟨j,i',e3,e4,hi,hp,h1,h4⟩
   refine⟨j,i',e3,e4,hi,hp,by rw[←e2 i' (fun e=>by rw[e,e1] at h1;omega)];exact h1,?_⟩
   by_cases e:j=k
   ·rw[e,e0];decide
   ·rw[←e2 j e];exact h4
def donS(σ:CS)(t:Nat)(k:Nat)(x:Ta.TR):CS:={endS (turnS σ k x 4) t ((k:Int)+1) with E:=fun q j=>σ.E q j∧q≠(k:Int)+1}
theorem RU.done(h:RU P σ m c)(hm:m≤16)(hx:σ.T[k]?=some x)(hs:x.s=3)(t:Nat){d:List Int}(dl:DoneL σ.E ((k:Int)+1) d):RU P (relL t d (donS σ t k x)) m (c+19)∧(relL t d (donS σ t k x)).o+1=σ.o∧((∀j,j<m→j≠k→sN σ.T j≠3)→∀j,j<m→sN (relL t d (donS σ t k x)).T j≠3):=by
 have hkl:k<σ.T.length:=(List.getElem?_eq_some_iff.1 hx).1
 have hkm:k<m:=by rw[←h.len];exact hkl
 have eT:(donS σ t k x).T=σ.T.set k (turnX x 4):=rfl
 have tx:=turnX_key x 4
 have px:(turnX x 4).p=0:=by rw[tx.2.2.2];exact h.p0 k x hx
 have a1:(σ.T.set k (turnX x 4))[k]?=some (turnX x 4):=getElem?_set_self hkl
 have a2:∀j,j≠k→(σ.T.set k (turnX x 4))[j]?=σ.T[j]?:=fun j hj=>getElem?_set_ne (fun h=>hj h.symm)
 have e0:sN σ.T k=3:=by rw[sN_at hx];exact hs
 have hdE:∀j:Nat,((j:Int)+1)∈d→j<m∧j≠k∧sN σ.T j=1∧P k j:=fun j hj=>by
  obtain⟨q,i,e3,e4,hi,hp,h1,h4⟩:=(h.E _ _).1 ((dl.2 _).1 hj).1
  obtain rfl:j=i:=by omega
  obtain rfl:k=q:=by omega
  exact⟨hi,fun e=>by rw[e,e0] at h1;omega,h1,hp⟩
 have hn:=up_nodup dl.1
 have hw:∀j∈d,Wt (donS σ t k x).T j:=fun j hj=>by
  obtain⟨i,y,e3,hy,ys,yp⟩:=h.wtE ((dl.2 j).1 hj).1
  exact⟨i,y,e3,by rw[eT,a2 i (hdE i (by rw[←e3];exact hj)).2.1];exact hy,ys,yp⟩
 obtain⟨sm,q,e,_⟩:=relL_inv t (donS σ t k x) hn hw _ (le_refl _)
 rw[List.take_length] at sm q e
 have hdl:d.length≤m:=by
  have h1:=wt_len d _ hn hw
  have h2:=Ta.cntP_le isW (donS σ t k x).T
  rw[eT] at h1 h2
  rw[length_set,h.len] at h2
  omega
 have T':=relL_T t d (donS σ t k x) hn hw
 have s1:sN (relL t d (donS σ t k x)).T k=4:=by
  rw[sN_congr (((T' k).1 (fun hd=>(hdE k hd).2.1 rfl)).trans (by rw[eT])),sN_at a1]
  exact tx.2.2.1
 have s2:∀i,i<m→((i:Int)+1)∈d→sN (relL t d (donS σ t k x)).T i=2:=fun i hi hd=>by
  obtain⟨y,hy,_,_⟩:=h.at hi
  obtain⟨z,hz,zs,_⟩:=(T' i).2 hd y (by rw[eT,a2 i (hdE i hd).2.1];exact hy)
  rw[sN_at hz,zs]
 have s3:∀i,i<m→i≠k→¬((i:Int)+1)∈d→sN (relL t d (donS σ t k x)).T i=sN σ.T i:=fun i hi hik hd=>
  sN_congr (((T' i).1 hd).trans (by rw[eT];exact a2 i hik))
 have n3:(∀j,j<m→j≠k→sN σ.T j≠3)→∀j,j<m→sN (relL t d (donS σ t k x)).T j≠3:=fun h3 j hj=>by
  by_cases e:j=k
  ·rw[e,s1];decide
  ·by_cases hd:((j:Int)+1)∈d
   ·rw[s2 j hj hd];decide
   ·rw[s3 j hj e hd];exact h3 j hj e
 have o1:σ.T.countP liv=(σ.T.set k (turnX x 4)).countP liv+1:=by
  have h3:=cnt_set (turnX x 4) hx
  have a:liv x=true:=by simp[liv,hs]
  have b:liv (turnX x 4)=false:=by simp[liv,tx.2.2.1]
  rw[a,b] at h3
  simp at h3
  omega
 have o2:(relL t d (donS σ t k x)).o=σ.o-1:=sm.o
 have ho:=h.o
 refine⟨⟨sm.th.trans h.th,sm.n.trans h.n,sm.cl.trans h.cl,?_,fun i z hz=>?_,?_,by rw[sm.N];exact h.N,?_,?_,?_,?_,fun q' i=>?_⟩,by have:=h.cnt;have hl:σ.T.countP liv=(σ.T.set k (turnX x 4)).countP liv+1:=o1;omega,n3⟩
 ·rw[sm.len,eT,length_set];exact h.len
 ·by_cases hd:((i:Int)+1)∈d
  ·obtain⟨hi,hik,_⟩:=hdE i hd
   obtain⟨y,hy,yp,_⟩:=h.at hi
   obtain⟨z',hz',_,zp⟩:=(T' i).2 hd y (by rw[eT,a2 i hik];exact hy)
   rw[hz'] at hz
   injection hz with hz
   rw[←hz,zp,yp]
  ·rw[(T' i).1 hd,eT] at hz
   exact set_p0 h.p0 px hz
 ·rw[relL_cnt t d _ hn hw,eT];omega
 ·rw[sm.tk]
  show σ.tk≤_
  have:=h.tk;omega
 ·rw[q]
  show σ.qn+_≤_
  have:=h.qn;omega
 ·rw[e]
  show(σ.ev++[_]).length+_≤_
  have:=h.ev;simp;omega
 ·refine h.rs.done (R:=fun i=>((i:Int)+1)∈d) hkm e0 s1 (fun i hi=>?_) s2 s3
  show _∈d↔_
  rw[dl.2]
  constructor
  ·rintro⟨a,b⟩
   obtain⟨q,i',e3,e4,hi',hp,h1,h4⟩:=(h.E _ _).1 a
   obtain rfl:i=i':=by omega
   obtain rfl:k=q:=by omega
   refine⟨hp,h1,fun j hj h4=>?_⟩
   have:=b ((j:Int)+1) ((h.E _ _).2 ⟨j,i,rfl,rfl,hi,hj,h1,h4⟩)
   omega
  ·rintro⟨hp,h1,h4⟩
   refine⟨(h.E _ _).2 ⟨k,i,rfl,rfl,hi,hp,h1,by omega⟩,fun q hq=>?_⟩
   obtain⟨j,i',e3,e4,hi',hp',h1',h4'⟩:=(h.E _ _).1 hq
   obtain rfl:i=i':=by omega
   rw[e3,h4 j hp' h4']
 ·rw[sm.E]
  show(σ.E q' i∧q'≠(k:Int)+1)↔_
  have st:∀j,j<m→j≠k→sN (relL t d (donS σ t k x)).T j=sN σ.T j∨(sN σ.T j=1∧sN (relL t d (donS σ t k x)).T j=2):=fun j hj hjk=>by
   by_cases hd:((j:Int)+1)∈d
   ·exact .inr ⟨(hdE j hd).2.2.1,s2 j hj hd⟩
   ·exact .inl (s3 j hj hjk hd)
  constructor
  ·rintro⟨a,b⟩
   obtain⟨j,i',e3,e4,hi',hp,h1,h4⟩:=(h.E _ _).1 a
   have hlo:=h.rs.lo _ _ hp
   have hjk:j≠k:=fun e=>b (by rw[e3,e])
   have hik:i'≠k:=fun e=>by rw[e,e0] at h1;omega
   have hnd:¬((i':Int)+1)∈d:=fun hd=>b (((dl.2 _).1 hd).2 q' (by rw[←e4];exact a))
   refine⟨j,i',e3,e4,hi',hp,by rw[s3 i' hi' hik hnd];exact h1,?_⟩
   have:=st j (by omega) hjk
   omega
  ·rintro⟨j,i',e3,e4,hi',hp,h1,h4⟩
   have hlo:=h.rs.lo _ _ hp
   have hjk:j≠k:=fun e=>by rw[e] at h4;exact h4 s1
   have hik:i'≠k:=fun e=>by rw[e,s1] at h1;omega
   have b1:=st j (by omega) hjk
   have b2:=st i' hi' hik
   exact⟨(h.E _ _).2 ⟨j,i',e3,e4,hi',hp,by omega,by omega⟩,by omega⟩
theorem RU.fail(h:RU P σ m c)(hm:m≤16)(hx:σ.T[k]?=some x)(hs:x.s=3)(t:Int){d:List Int}(dl:KillL σ.E ((k:Int)+1) d):RU P (canL d (failS (turnS σ k x 5) t ((k:Int)+1))) m (c+19)∧(canL d (failS (turnS σ k x 5) t ((k:Int)+1))).o+1≤σ.o∧((∀j,j<m→j≠k→sN σ.T j≠3)→∀j,j<m→sN (canL d (failS (turnS σ k x 5) t ((k:Int)+1))).T j≠3):=by
 obtain⟨τ,hτ⟩:∃τ,failS (turnS σ k x 5) t ((k:Int)+1)=τ:=⟨_,rfl⟩
 have hkl:k<σ.T.length:=(List.getElem?_eq_some_iff.1 hx).1
 have hkm:k<m:=by rw[←h.len];exact hkl
 have eT:τ.T=σ.T.set k (turnX x 5):=by rw[←hτ];rfl
 have tx:=turnX_key x 5
 have px:(turnX x 5).p=0:=by rw[tx.2.2.2];exact h.p0 k x hx
 have a1:(σ.T.set k (turnX x 5))[k]?=some (turnX x 5):=getElem?_set_self hkl
 have a2:∀j,j≠k→(σ.T.set k (turnX x 5))[j]?=σ.T[j]?:=fun j hj=>getElem?_set_ne (fun h=>hj h.symm)
 have e0:sN σ.T k=3:=by rw[sN_at hx];exact hs
 have hst:∀j,Da.Rch σ.E ((k:Int)+1) j→∃i:Nat,j=(i:Int)+1∧i<m∧i≠k∧sN σ.T i=1∧∃q:Nat,P q i∧(q=k∨Da.Rch σ.E ((k:Int)+1) ((q:Int)+1)):=fun j r=>by
  have r':=r (fun j=>Da.Rch σ.E ((k:Int)+1) j∧∃q,σ.E q j∧(q=(k:Int)+1∨Da.Rch σ.E ((k:Int)+1) q)) (fun z e=>⟨fun Q hQ hR=>hQ z e,_,e,.inl rfl⟩) (fun y z hy e=>⟨fun Q hQ hR=>hR y z (hy.1 Q hQ hR) e,y,e,.inr hy.1⟩)
  obtain⟨_,q,e,hq⟩:=r'
  obtain⟨p,i,e3,e4,hi,hp,h1,h4⟩:=(h.E _ _).1 e
  refine⟨i,e4,hi,fun e=>by rw[e,e0] at h1;omega,h1,p,hp,?_⟩
  rcases hq with hq|hq
  ·exact .inl (by omega)
  ·exact .inr (by rw[←e3];exact hq)
 have hdE:∀j:Nat,((j:Int)+1)∈d→j<m∧j≠k∧sN σ.T j=1:=fun j hj=>by
  obtain⟨i,e,hi,hik,h1,_⟩:=hst _ ((dl.2 _).1 hj)
  obtain rfl:j=i:=by omega
  exact⟨hi,hik,h1⟩
 have hn:=up_nodup dl.1
 have hw:∀j∈d,CanT τ.T j:=fun j hj=>by
  obtain⟨i,y,e3,hy,ys,yp⟩:=h.wtR ((dl.2 j).1 hj)
  exact⟨i,y,e3,by rw[eT,a2 i (hdE i (by rw[←e3];exact hj)).2.1];exact hy,.inl ys,yp⟩
 obtain⟨sm,q,e,o2,_⟩:=canL_sam τ hn hw
 obtain⟨o3,T'⟩:=canL_T d τ hn hw
 have hdl:d.length≤m:=by
  have h1:=can_len d _ hn hw
  have h2:=Ta.cntP_le isC τ.T
  rw[eT] at h1 h2
  rw[length_set,h.len] at h2
  omega
 have s1:sN (canL d τ).T k=5:=by
  rw[sN_congr (((T' k).1 (fun hd=>(hdE k hd).2.1 rfl)).trans (by rw[eT])),sN_at a1]
  exact tx.2.2.1
 have s2:∀i,i<m→((i:Int)+1)∈d→sN (canL d τ).T i=6:=fun i hi hd=>by
  obtain⟨y,hy,_,_⟩:=h.at hi
  obtain⟨z,hz,zs,_⟩:=(T' i).2 hd y (by rw[eT,a2 i (hdE i hd).2.1];exact hy)
  rw[sN_at hz,zs]
 have s3:∀i,i<m→i≠k→¬((i:Int)+1)∈d→sN (canL d τ).T i=sN σ.T i:=fun i hi hik hd=>
  sN_congr (((T' i).1 hd).trans (by rw[eT];exact a2 i hik))
 have n3:(∀j,j<m→j≠k→sN σ.T j≠3)→∀j,j<m→sN (canL d τ).T j≠3:=fun h3 j hj=>by
  by_cases e:j=k
  ·rw[e,s1];decide
  ·by_cases hd:((j:Int)+1)∈d
   ·rw[s2 j hj hd];decide
   ·rw[s3 j hj e hd];exact h3 j hj e
 have o1:σ.T.countP liv=(σ.T.set k (turnX x 5)).countP liv+1:=by
  have h3:=cnt_set (turnX x 5) hx
  have a:liv x=true:=by simp[liv,hs]
  have b:liv (turnX x 5)=false:=by simp[liv,tx.2.2.1]
  rw[a,b] at h3
  simp at h3
  omega
 have ho:=h.o
 have t1:τ.th=σ.th∧τ.n=σ.n∧τ.cl=σ.cl∧τ.N=σ.N∧τ.tk=σ.tk∧τ.qn=σ.qn∧τ.o=σ.o-1∧τ.E=kilE σ.E ((k:Int)+1)∧τ.ev.length=σ.ev.length+1:=by
  rw[←hτ]
  refine⟨rfl,rfl,rfl,rfl,rfl,rfl,rfl,rfl,?_⟩
  show(σ.ev++[_]).length=_
  simp
 obtain⟨t_th,t_n,t_cl,t_N,t_tk,t_qn,t_o,t_E,t_ev⟩:=t1
 rw[eT] at o3
 rw[hτ]
 have hR:∀i,i<m→(((i:Int)+1)∈d↔sN σ.T i=1∧∃j,P j i∧(j=k∨((j:Int)+1)∈d)):=fun i hi=>by
  constructor
  ·intro hd
   obtain⟨i',e',_,_,h1,j,hp,c⟩:=hst _ ((dl.2 _).1 hd)
   obtain rfl:i=i':=by omega
   exact⟨h1,j,hp,c.imp id (fun r=>(dl.2 _).2 r)⟩
  ·rintro⟨h1,j,hp,c⟩
   refine(dl.2 _).2 ?_
   have hlo:=h.rs.lo _ _ hp
   rcases c with rfl|c
   ·exact fun Q hQ hR=>hQ _ ((h.E _ _).2 ⟨j,i,rfl,rfl,hi,hp,h1,by omega⟩)
   ·have hj:=hdE j c
    exact fun Q hQ hR=>hR _ _ ((dl.2 _).1 c Q hQ hR) ((h.E _ _).2 ⟨j,i,rfl,rfl,hi,hp,h1,by omega⟩)
 refine⟨⟨sm.th.trans (t_th.trans h.th),sm.n.trans (t_n.trans h.n),sm.cl.trans (t_cl.trans h.cl),?_,fun i z hz=>?_,?_,by rw[sm.N,t_N];exact h.N,?_,?_,?_,?_,fun q' i=>?_⟩,by omega,n3⟩
 ·rw[sm.len,eT,length_set];exact h.len
 ·by_cases hd:((i:Int)+1)∈d
  ·obtain⟨hi,hik,_⟩:=hdE i hd
   obtain⟨y,hy,yp,_⟩:=h.at hi
   obtain⟨z',hz',_,zp⟩:=(T' i).2 hd y (by rw[eT,a2 i hik];exact hy)
   rw[hz'] at hz
   injection hz with hz
   rw[←hz,zp,yp]
  ·rw[(T' i).1 hd,eT] at hz
   exact set_p0 h.p0 px hz
 ·omega
 ·rw[sm.tk,t_tk];have:=h.tk;omega
 ·have:=h.qn;omega
 ·have:=h.ev;omega
 ·exact h.rs.fail (R:=fun i=>((i:Int)+1)∈d) hkm e0 s1 hR s2 s3
 ·rw[sm.E,t_E]
  show(σ.E q' i∧i≠(k:Int)+1∧¬Da.Rch σ.E ((k:Int)+1) i)↔_
  have st:∀j,j<m→j≠k→sN (canL d τ).T j=sN σ.T j∨(sN σ.T j=1∧sN (canL d τ).T j=6):=fun j hj hjk=>by
   by_cases hd:((j:Int)+1)∈d
   ·exact .inr ⟨(hdE j hd).2.2,s2 j hj hd⟩
   ·exact .inl (s3 j hj hjk hd)
  constructor
  ·rintro⟨a,b1,b2⟩
   obtain⟨j,i',e3,e4,hi',hp,h1,h4⟩:=(h.E _ _).1 a
   have hlo:=h.rs.lo _ _ hp
   have hik:i'≠k:=fun e=>b1 (by rw[e4,e])
   have hnd:¬((i':Int)+1)∈d:=fun hd=>b2 (by rw[e4];exact(dl.2 _).1 hd)
   refine⟨j,i',e3,e4,hi',hp,by rw[s3 i' hi' hik hnd];exact h1,?_⟩
   by_cases hjk:j=k
   ·rw[hjk,s1];decide
   ·have:=st j (by omega) hjk
    omega
  ·rintro⟨j,i',e3,e4,hi',hp,h1,h4⟩
   have hlo:=h.rs.lo _ _ hp
   have hik:i'≠k:=fun e=>by rw[e,s1] at h1;omega
   have hnd:¬((i':Int)+1)∈d:=fun hd=>by rw[s2 i' hi' hd] at h1;omega
   rw[s3 i' hi' hik hnd] at h1
   have h4':sN σ.T j≠4:=by
    by_cases hjk:j=k
    ·rw[hjk,e0];decide
    ·have:=st j (by omega) hjk
     omega
   exact⟨(h.E _ _).2 ⟨j,i',e3,e4,hi',hp,h1,h4'⟩,by omega,fun r=>hnd ((dl.2 _).2 (by rw[←e4];exact r))⟩
end
section
open Go.RowKit Go.Lib Go.WideMaps Go.Maps
variable {w w' w0 u:World}{L i:Nat}{D:CAd}{F F' F0:Nat→Nat→Prop}{g v:Value}{σ:CS}{x:Ta.TR}
theorem statusT{X:Nat→Prop}{B Bt i:Nat}{T:List Ta.TR}{x:Ta.TR}(c3:w.cell? ⟨B,3,none⟩=some (pt Bt))(h:Ta.Tb w X Bt 200 T)(hi:T[i]?=some x) :
  Calls Tryz.prog 10 #[pt B,.int .i64 ((i:Int)+1)] w fun e w'=>e=.returned (.int .i64 x.s)∧∃X',Ta.Tb w' X' Bt 200 T∧Ta.Sx X w X' w':=by
 have P:=Ta.getG h hi
 obtain⟨s,hs⟩:∃s,x.s=s:=⟨_,rfl⟩
 rw[hs] at P⊢
 clear h hi hs
 go_enter Tryz.func10,Tryz.ntmps10
 go_wp2_with fail
 refine P.mono ?_
 rintro e w1 ⟨rfl,h1,s1⟩
 have b1:=belA w1 (.cells #[.int .i64 ((i:Int)+1),.int .i64 x.prio,.int .i64 s,.int .u64 x.due,.int .u64 x.key,.int .u64 x.r,.int .u64 x.m] 45)
 have FIN:Aside _:=(⟨_,h1.below b1,s1.trans (Ta.Sx.below _ b1)⟩:∃X',Ta.Tb (w1.alloc (.cells #[.int .i64 ((i:Int)+1),.int .i64 x.prio,.int .i64 s,.int .u64 x.due,.int .u64 x.key,.int .u64 x.r,.int .u64 x.m] 45)) X' Bt 200 T∧Ta.Sx X w X' (w1.alloc (.cells #[.int .i64 ((i:Int)+1),.int .i64 x.prio,.int .i64 s,.int .u64 x.due,.int .u64 x.key,.int .u64 x.r,.int .u64 x.m] 45)))
 clear P h1 s1 b1 c3
 go_wp2_with fail
 go_ret
 exact⟨rfl,FIN.out⟩
theorem ownE_of{b:Nat}{v:Value}{d:List Qu.Ent}(h:Qu.OwnE w b v d)(hk:∀k,v.ownBlock=some k→w'.heap[k]?=w.heap[k]?):Qu.OwnE w' b v d:=by
 obtain⟨h1,h2⟩:=h
 refine⟨h1,?_⟩
 rcases h2 with h2|⟨g,cap,cur,r1,r2,r3,r4⟩
 ·exact .inl h2
 ·exact .inr ⟨g,cap,cur,r1,r2,(hk g (by rw[r1];rfl)).trans r3,r4⟩
theorem ownE_lt{b k:Nat}{v:Value}{d:List Qu.Ent}(h:Qu.OwnE w b v d)(hk:v.ownBlock=some k):b≤k∧k<w.heap.size:=World.ownsRow.lt h k hk
theorem ownE_push{b:Nat}{v:Value}{d:List Qu.Ent}(h:Qu.OwnE w b v d)(x:Qu.Ent)(hd:d.length<100000)(hb:b≤w.heap.size) :
  ∃v' w',(Builtin.append_ #[33,33] 33 #[v,.slice (some ⟨w.heap.size,0,none⟩) 1 1]).run Tryz.prog (w.alloc (.cells #[.int .u64 x.1,.int .i64 x.2] 36))=.ok v' w'∧Qu.OwnE w' b v' (d++[x])∧Ta.Fr (fun k=>v.ownBlock=some k) w w'∧(∀k,v'.ownBlock=some k→v.ownBlock=some k∨w.heap.size≤k):=by
 obtain⟨i,hi,hz,hs,hby⟩:=Qu.infoE
 have bv:Below w.heap.size w (w.alloc (.cells #[.int .u64 x.1,.int .i64 x.2] 36)):=belA _ _
 have hc:=Qu.IsL.one w x
 have h':=h.below bv
 obtain⟨v',w',h1,h2,h3,h4,h5⟩:=run_append_own_at (P:=Tryz.prog) (w.alloc (.cells #[.int .u64 x.1,.int .i64 x.2] 36)) b 33 33 36 i _ 2 16 Tryz.underlying33 hi hz hs hby rfl (by omega) v d.length (Qu.flat d) h' ⟨w.heap.size,0,none⟩ 1 1 (Qu.flat [x]) (by rw[Qu.flat_len];rfl)
  (Qu.flat_get [x] _ (fun i y hx=>by
   obtain⟨b,off,e,_,h1,h2⟩:=hc.elem i y hx
   cases e
   exact⟨by rw[←h1,Addr.add_lit],by rw[←h2,Addr.add_lit,Nat.add_assoc]⟩)) (Qu.flat_one [x]) (by unfold maxLen;omega) (by omega) (Nat.le_trans hb bv.size)
 refine⟨v',w',h1,?_,?_,?_⟩
 ·unfold Qu.OwnE
  rw[List.length_append,Qu.flat_append]
  exact h2
 ·obtain⟨g1,g2,g3,g4,g5⟩:=h3
  refine⟨g1.trans bv.os,g2.trans bv.tape,g3.trans bv.output,Nat.le_trans bv.size g4,fun k hk hv=>?_⟩
  exact(g5 k (Nat.lt_of_lt_of_le hk bv.size) (fun e=>hv e.symm)).trans (bv.block k hk)
 ·intro k hk
  rcases h5 with h5|h5
  ·exact .inl (by rw[←h5];exact hk)
  ·rw[h5] at hk
   injection hk with hk
   have:=bv.size
   exact .inr (by omega)
structure RL(w0:World)(F:Nat→Nat→Prop)(Bt:Nat)(T:List Ta.TR)(w:World)(v:Value)(d:List Qu.Ent):Prop where
 tab:∃X,Ta.Tb w X Bt 200 T∧Ta.Sx (F 1) w0 X w∧∀k,v.ownBlock=some k→¬X k
 own:Qu.OwnE w w0.heap.size v d
variable {Bt:Nat}{T:List Ta.TR}{d:List Qu.Ent}
theorem RL.start(C:Co w L D F g v σ):RL w F D.Bt σ.T w (.slice none 0 0) []:=
 ⟨⟨F 1,C.tab,Ta.Sx.refl _ _,fun k hk=>by cases hk⟩,Qu.OwnE.nil _ _⟩
theorem RL.co{vr:Value}(h:RL w0 F D.Bt σ.T w vr d)(C:Co w0 L D F g v σ):∃F',Co w L D F' g v σ∧Gc L F w0 F' w∧∀k,w0.heap.size≤k→vr.ownBlock=some k→∀p,¬F' p k:=by
 obtain⟨X,hT,hs,hx⟩:=h.tab
 obtain⟨C',G'⟩:=C.setTab hT hs
 refine⟨_,C',G',fun k hk hv p hp=>?_⟩
 by_cases e:p=1
 ·subst e
  rw[fset_same] at hp
  exact hx k hv hp
 ·rw[fset_ne _ _ e] at hp
  have:=C.fp.lt p k hp
  omega
theorem RL.c3{vr:Value}(h:RL w0 F D.Bt σ.T w vr d)(C:Co w0 L D F g v σ):w.cell? ⟨D.B,3,none⟩=some (pt D.Bt):=by
 obtain⟨F',C',_⟩:=h.co C
 exact C'.c3
theorem RL.status{vr:Value}(h:RL w0 F D.Bt σ.T w vr d)(C:Co w0 L D F g v σ){i:Nat}{x:Ta.TR}(hi:σ.T[i]?=some x) :
  Calls Tryz.prog 10 #[pt D.B,.int .i64 ((i:Int)+1)] w fun e w'=>e=.returned (.int .i64 x.s)∧RL w0 F D.Bt σ.T w' vr d:=by
 obtain⟨X,hT,hs,hx⟩:=h.tab
 refine(statusT (h.c3 C) hT hi).mono ?_
 rintro e w' ⟨rfl,X',hT',s'⟩
 refine⟨rfl,⟨X',hT',hs.trans s',fun k hk=>s'.out (ownE_lt h.own hk).2 (hx k hk)⟩,ownE_of h.own fun k hk=>s'.fr.block k (ownE_lt h.own hk).2 (hx k hk)⟩
theorem RL.push{vr:Value}(h:RL w0 F Bt T w vr d)(x:Qu.Ent)(hd:d.length<100000) :
  ∃v' w',(Builtin.append_ #[33,33] 33 #[vr,.slice (some ⟨w.heap.size,0,none⟩) 1 1]).run Tryz.prog (w.alloc (.cells #[.int .u64 x.1,.int .i64 x.2] 36))=.ok v' w'∧RL w0 F Bt T w' v' (d++[x]):=by
 obtain⟨X,hT,hs,hx⟩:=h.tab
 obtain⟨v',w',hr,o,f,hn⟩:=ownE_push h.own x hd hs.fr.size
 refine⟨v',w',hr,⟨X,hT.fr f (fun k hk hv=>hx k hv hk),⟨hs.fr.trans f (fun k hk=>.inr (ownE_lt h.own hk).1),hs.new⟩,fun k hk=>?_⟩,o⟩
 rcases hn k hk with e|e
 ·exact hx k e
 ·exact fun hX=>by have:=hT.lt hX;omega
def bitB(z:Int)(s:Nat):Bool:=bits .and .i64 (z/2^s) 1==1
def wanT(z:Int)(k:Nat):List Int:=((List.range k).filter fun j=>bitB z (j+1)).map fun(j:Nat)=>(j:Int)+1
theorem wanT_up(z:Int)(k:Nat):wanT z (k+1)=wanT z k++if bitB z (k+1)=true then [(k:Int)+1] else []:=by
 unfold wanT
 rw[List.range_succ,List.filter_append,List.map_append]
 by_cases c:bitB z (k+1)=true<;>simp[c]
theorem wanT_mem(z:Int)(k:Nat)(q:Int):q∈wanT z k↔∃j:Nat,q=(j:Int)+1∧j<k∧bitB z (j+1)=true:=by
 unfold wanT
 simp only[List.mem_map,List.mem_filter,List.mem_range]
 constructor
 ·rintro⟨j,⟨h1,h2⟩,rfl⟩;exact⟨j,rfl,h1,h2⟩
 ·rintro⟨j,rfl,h1,h2⟩;exact⟨j,⟨h1,h2⟩,rfl⟩
theorem wanT_len(z:Int)(k:Nat):(wanT z k).length≤k:=by
 unfold wanT
 rw[List.length_map]
 have:=List.length_filter_le (fun j=>bitB z (j+1)) (List.range k)
 simpa using this
def PB(zs:List Int)(j k:Nat):Prop:=j<k∧bitB (zs.getD k 0) (j+1)=true
def wanI(zs:List Int)(k:Nat):List Int:=wanT (zs.getD k 0) k
theorem wanI_mem(zs:List Int)(k:Nat)(q:Int):q∈wanI zs k↔∃j:Nat,q=(j:Int)+1∧PB zs j k:=wanT_mem _ _ _
def WB(S:Nat)(w:World)(F:Nat→Nat→Prop)(K:Nat)(W:Nat→List Int):Prop:=K<S∧∃cs:Array Value,Bx w F K cs 29∧cs.size=18∧(∀k,k<18→∃v,cs[k]?=some v∧Owb S w F v (W k)∧(W k=[]→v=.slice none 0 0))∧∀(j k:Nat)(v v':Value),j≠k→cs[j]?=some v→cs[k]?=some v'→Ap v v'
theorem mq_a18:¬Qu.MQ 29:=by unfold Qu.MQ;decide
theorem qt_a18:¬QT 29:=by unfold QT;decide
variable {S K:Nat}{W W':Nat→List Int}
theorem WB.gc(h:WB S w F K W)(G:Gc L F w F' w'):WB S w' F' K W:=by
 obtain⟨hK,cs,b,hs,hv,ha⟩:=h
 exact⟨hK,cs,b.gc mq_a18 G,hs,fun k hk=>by
  obtain⟨v,h1,h2,h3⟩:=hv k hk
  exact⟨v,h1,h2.gc G,h3⟩,ha⟩
theorem WB.congr(h:WB S w F K W)(e:∀k,k<18→W' k=W k):WB S w F K W':=by
 obtain⟨hK,cs,b,hs,hv,ha⟩:=h
 exact⟨hK,cs,b,hs,fun k hk=>by rw[e k hk];exact hv k hk,ha⟩
theorem WB.at(h:WB S w F K W){k:Nat}(hk:k<18):∃a cap,w.cell? ⟨K,k,none⟩=some (.slice a (W k).length cap)∧Ow w F (.slice a (W k).length cap) (W k)∧(W k=[]→(Value.slice a (W k).length cap)=.slice none 0 0):=by
 obtain⟨hK,cs,b,hs,hv,ha⟩:=h
 obtain⟨v,h1,h2,h3⟩:=hv k hk
 obtain⟨a,cap,e,_⟩:=h2.1.isI
 subst e
 exact⟨a,cap,by rw[b.cell];exact h1,h2.ow,h3⟩
theorem WB.new(C:Co w L D F g v σ):WB (w.heap.size+1) (w.alloc (.cells #[.slice none 0 0,.slice none 0 0,.slice none 0 0,.slice none 0 0,.slice none 0 0,.slice none 0 0,.slice none 0 0,.slice none 0 0,.slice none 0 0,.slice none 0 0,.slice none 0 0,.slice none 0 0,.slice none 0 0,.slice none 0 0,.slice none 0 0,.slice none 0 0,.slice none 0 0,.slice none 0 0] 29)) F w.heap.size (fun _=>[]):=by
 have al:∀(k:Nat)(v:Value),(#[.slice none 0 0,.slice none 0 0,.slice none 0 0,.slice none 0 0,.slice none 0 0,.slice none 0 0,.slice none 0 0,.slice none 0 0,.slice none 0 0,.slice none 0 0,.slice none 0 0,.slice none 0 0,.slice none 0 0,.slice none 0 0,.slice none 0 0,.slice none 0 0,.slice none 0 0,.slice none 0 0]:Array Value)[k]?=some v→v=.slice none 0 0:=fun k v h=>by
  obtain⟨hk,h⟩:=Array.getElem?_eq_some_iff.1 h
  have hm:=Array.getElem_mem hk
  rw[h] at hm
  simpa using hm
 refine⟨Nat.lt_succ_self _,_,Bx.new C _ _,rfl,fun k hk=>?_,fun j k v v' _ h1 h2=>?_⟩
 ·exact⟨_,Array.getElem?_eq_getElem (by simpa using hk),by rw[al k _ (Array.getElem?_eq_getElem (by simpa using hk))];exact Owb.nil _ _ _,fun _=>al k _ (Array.getElem?_eq_getElem (by simpa using hk))⟩
 ·rw[al j v h1]
  intro b hb
  cases hb
theorem WB.push(h:WB S w F K W)(C:Co w L D F g v σ)(G:Gc L F0 w0 F w)(hK:w0.heap.size≤K)(hS:S≤w.heap.size)(hL:L≤w0.heap.size){k:Nat}(hk:k<18)(x:Int)(hd:(W k).length<1000)(a:Option Addr)(n cap:Nat)(hc:w.cell? ⟨K,k,none⟩=some (.slice a n cap)) :
  ∃v' w',(∃a' n' cap',v'=.slice a' n' cap')∧(Builtin.append_ #[22,22] 22 #[.slice a n cap,.slice (some ⟨w.heap.size,0,none⟩) 1 1]).run Tryz.prog (w.alloc (.cells #[.int .i64 x] 3))=.ok v' w'∧w'.cell? ⟨K,k,none⟩=some (.slice a n cap)∧w'.frozen? ⟨K,k,none⟩=false∧K<w'.heap.size∧
  WB S (w'.setCell ⟨K,k,none⟩ v') F K (fun t=>if t=k then W k++[x] else W t)∧Co (w'.setCell ⟨K,k,none⟩ v') L D F g v σ∧Gc L F0 w0 F (w'.setCell ⟨K,k,none⟩ v'):=by
 obtain⟨hKS,cs,b,hs,hv,ha⟩:=h
 obtain⟨z,h1,h2,h3⟩:=hv k hk
 rw[b.cell,h1] at hc
 injection hc with hc
 subst hc
 obtain⟨v',w',hr,o,C',G',f,hn⟩:=h2.push C G (by omega) hS hL x (by omega)
 have hKb:∀(j:Nat)(z':Value),cs[j]?=some z'→∀k,z'.ownBlock=some k→S≤k:=fun j z' hj q hq=>by
  have hj18:j<18:=by rw[←hs];exact(Array.getElem?_eq_some_iff.1 hj).1
  obtain⟨z2,e1,e2,_⟩:=hv j hj18
  rw[hj] at e1
  injection e1 with e1
  subst e1
  exact(e2.1.rowLt hq).1
 have hKo:w'.heap[K]?=some (.cells cs 29 (0,0)):=by
  rw[f.block K (lt_of_block b.1) (fun e=>by have:=hKb k _ h1 K e;omega)]
  exact b.1
 have f2:Ta.Fr (fun j=>j=K) w' (w'.setCell ⟨K,k,none⟩ v'):=Ta.Fr.setCell (fun j=>j=K) w' K k v' rfl
 have hset:=set_at (k:=k) hKo v'
 have keep:∀{z:Value} {d:List Int},Owb S w' F z d→Owb S (w'.setCell ⟨K,k,none⟩ v') F z d:=fun {z d} o=>⟨o.1.of_block fun q hq=>f2.block q (o.1.rowLt hq).2 (fun e=>by have:=(o.1.rowLt hq).1;omega),o.2⟩
 refine⟨v',w',(by obtain⟨a',cap',e,_⟩:=o.1.isI;exact⟨a',_,cap',e⟩),hr,by rw[cell_of_row _ _ _ _ _ _ hKo];exact h1,by simp[World.frozen?,hKo],lt_of_block hKo,⟨hKS,_,⟨hset,b.2⟩,by simp[hs],fun t ht=>?_,fun i j z1 z2 hij e1 e2=>?_⟩,C'.frX f2 (fun q hq=>⟨by rw[hq];exact b.2,by rw[hq];exact nq_of hKo qt_a18⟩),G'.ownX (fun q hq=>by rw[hq];exact hK) hL f2⟩
 ·by_cases e:t=k
  ·subst e
   refine⟨v',by rw[Array.getElem?_setIfInBounds_self_of_lt (by rw[hs];exact hk)],?_,fun e=>?_⟩
   ·show Owb S _ F v' (if t=t then _ else _)
    rw[if_pos rfl];exact keep o
   ·have e:(if t=t then W t++[x] else W t)=[]:=e
    rw[if_pos rfl] at e;simp at e
  ·obtain⟨z2,e1,e2,e3⟩:=hv t ht
   refine⟨z2,by rw[Array.getElem?_setIfInBounds_ne (fun h=>e h.symm)];exact e1,?_,?_⟩
   ·show Owb S _ F z2 (if t=k then _ else _)
    rw[if_neg e]
    refine keep ⟨e2.1.of_block fun q hq=>f.block q (e2.1.rowLt hq).2 (fun hz=>?_),e2.2⟩
    exact ha k t _ _ (fun h=>e h.symm) h1 e1 q hz hq
   ·show(if t=k then _ else _)=_→_
    rw[if_neg e];exact e3
 ·have old:∀(j:Nat)(z:Value),j≠k→(cs.setIfInBounds k v')[j]?=some z→cs[j]?=some z:=fun j z hj h=>by
   rw[Array.getElem?_setIfInBounds_ne (fun h=>hj h.symm)] at h;exact h
  have new:∀z,(cs.setIfInBounds k v')[k]?=some z→z=v':=fun z h=>by
   rw[Array.getElem?_setIfInBounds_self_of_lt (by rw[hs];exact hk)] at h
   injection h with h
   exact h.symm
  have lt:∀(j:Nat)(z:Value),cs[j]?=some z→∀q,z.ownBlock=some q→q<w.heap.size:=fun j z hj q hq=>by
   have hj18:j<18:=by rw[←hs];exact(Array.getElem?_eq_some_iff.1 hj).1
   obtain⟨z2,e1,e2,_⟩:=hv j hj18
   rw[hj] at e1
   injection e1 with e1
   subst e1
   exact(e2.1.rowLt hq).2
  by_cases ei:i=k
  ·subst ei
   obtain rfl:=new z1 e1
   have e2':=old j z2 (fun h=>hij h.symm) e2
   intro q hq hq2
   rcases hn q hq with e|e
   ·exact ha i j _ _ hij h1 e2' q e hq2
   ·have:=lt j z2 e2' q hq2;omega
  ·have e1':=old i z1 ei e1
   by_cases ej:j=k
   ·subst ej
    obtain rfl:=new z2 e2
    intro q hq hq2
    rcases hn q hq2 with e|e
    ·exact ha i j _ _ hij e1' h1 q hq e
    ·have:=lt i z1 e1' q hq;omega
   ·exact ha i j z1 z2 hij e1' (old j z2 ej e2)
end
end Go.Proofs.YthpgfmmpjoodkaaGreatDoor
