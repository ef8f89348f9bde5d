import Derived.Test.YtjpbngiddjkjiaaGreatDoorUQ7
open List(append_assoc append_nil cons_append flatMap_append flatMap_cons flatMap_nil mem_append_left mem_append_right nil_append perm_append_comm range_succ)
namespace Go.Proofs.YtjpbngiddjkjiaaGreatDoor.Qu
set_option maxRecDepth 100000
set_option linter.unusedVariables false
open Go.RowKit Go.Lib Go.Sort
section
variable {T K:Nat}{s:QSt}{sl ow:Nat->List Ent}{sh:List Ent}
theorem flat_lset(f:Nat->List Ent)(l:List Ent){t:Nat}:∀{k:Nat},t<k->((List.range k).flatMap (lset f t l)).Perm (l++(List.range k).flatMap (lset f t []))
 | 0,h=>by omega
 | k+1,h=>by
  rw[range_succ,flatMap_append,flatMap_append];by_cases c:t=k
  ·subst c;rw[flatMap_congr' (f:=lset f t l) (g:=f) (fun i hi=>lset_ne _ _ (by omega)),flatMap_congr' (f:=lset f t []) (g:=f) (fun i hi=>lset_ne _ _ (by omega))];simp only[flatMap_cons,flatMap_nil,append_nil,lset_same];exact perm_append_comm
  ·have ih:=flat_lset f l (k:=k) (t:=t) (by omega);simp only[flatMap_cons,flatMap_nil,append_nil,lset_ne f _ (show k≠t from fun e=>c e.symm)];rw[<-append_assoc];exact List.Perm.append_right _ ih
theorem lset_self(f:Nat->List Ent)(t:Nat):lset f t (f t)=f:=by
 funext i
 by_cases e:i=t
 ·subst e;rw[lset_same]
 ·rw[lset_ne _ _ e]
theorem flatV_at(f:Nat->List Ent){t k:Nat}(h:t<k):((List.range k).flatMap f).Perm (f t++(List.range k).flatMap (lset f t [])):=by
 have:=flat_lset f (f t) h;rw[lset_self] at this;exact this
theorem View.settle(h:View T s sl ow sh){t:Nat}(ht:t<T):∃sl' ow' sh',View T (settleQ K s t) sl' ow' sh'/\sl' t=[]/\(allV T sl' ow' sh').Perm (allV T sl ow sh):=by
 by_cases c:sl t=[]
 ·exact⟨sl,ow,sh,by rw[h.settle_no ht c];exact h,c,List.Perm.refl _⟩
 ·obtain⟨e,he⟩:∃e,sl t=[e]:=by
   have:=h.sl t ht;unfold slotL at this
   split at this
   ·exact⟨_,this.symm⟩
   ·exact absurd this.symm c
  have p1:=flatV_at sl ht;rw[he] at p1;have p2:=flatV_at ow ht;by_cases hl:(ow t).length+1<=K
  ·refine⟨_,_,_,h.settle_fit (K:=K) ht he hl,lset_same _ _ _,?_⟩;have p3:=flat_lset ow (sortE (ow t++[e])) ht;unfold allV;have q:(sortE (ow t++[e])).Perm (e::ow t):=(sortE_perm _).trans perm_append_comm;refine List.Perm.trans (List.Perm.append_left _ (List.Perm.append_right _ (p3.trans (List.Perm.append_right _ q)))) ?_;refine List.Perm.trans ?_ (List.Perm.append p1.symm (List.Perm.append_right _ p2.symm));simp only[cons_append,append_assoc,nil_append];exact List.perm_middle
  ·refine⟨_,_,_,h.settle_spill (K:=K) ht he (by omega),lset_same _ _ _,?_⟩;unfold allV
   have q:(sortE (sh++(ow t++[e]))).Perm (e::(ow t++sh)):=(sortE_perm _).trans (by
    rw[<-append_assoc];exact(perm_append_comm).trans (List.Perm.cons e (show(sh++ow t).Perm (ow t++sh) from perm_append_comm)))
   refine List.Perm.trans (List.Perm.append_left _ (List.Perm.append_left _ q)) ?_;refine List.Perm.trans ?_ (List.Perm.append p1.symm (List.Perm.append_right _ p2.symm));simp only[cons_append,append_assoc,nil_append];refine List.Perm.trans (List.Perm.append_left _ List.perm_middle) ?_;refine List.perm_middle.trans (List.Perm.cons _ (List.Perm.append_left _ ?_));rw[<-append_assoc,<-append_assoc];exact List.Perm.append_right _ perm_append_comm
theorem View.putAny(h:View T s sl ow sh){t:Nat}(ht:t<T)(e:Ent):∃sl' ow' sh',View T (putQ K s t e) sl' ow' sh'/\(allV T sl' ow' sh').Perm (e::allV T sl ow sh):=by
 obtain⟨sl',ow',sh',v,e0,p⟩:=h.settle (K:=K) ht;refine⟨_,_,_,v.put e,?_⟩;refine List.Perm.trans ?_ (List.Perm.cons e p);unfold allV;have p1:=flat_lset sl' [e] ht;have p2:=flatV_at sl' ht;rw[e0,nil_append] at p2;rw[<-cons_append];refine List.Perm.append_right _ ?_;exact p1.trans (List.Perm.cons e p2.symm)
theorem flat_out{f:Nat->List Ent}{k i:Nat}{id:Int}(h:(ids ((List.range k).flatMap f)).Nodup)(hi:i<k)(h1:id∈ids (f i)):(List.range k).flatMap (lset f i (outL id (f i)))=outL id ((List.range k).flatMap f):=by
 rw[outL_flat];refine flatMap_congr' fun j hj=>?_;by_cases c:j=i
 ·subst c;rw[lset_same]
 ·rw[lset_ne _ _ c,outL_no (hasL_no.2 (flat_apart' h hi hj (fun e=>c e.symm) h1))]
theorem ids_app(c d:List Ent):ids (c++d)=ids c++ids d:=List.map_append
theorem flat_no{f:Nat->List Ent}{k:Nat}{id:Int}(h:id∉ids ((List.range k).flatMap f)):∀i,i<k->hasL (f i) id=false:=fun i hi=>hasL_no.2 fun hm=>h (flat_has.2 ⟨i,hi,hm⟩)
theorem View.takeAny(h:View T s sl ow sh)(hn:(ids (allV T sl ow sh)).Nodup)(id:Int):(firstHit s T id).isSome=hasL (allV T sl ow sh) id/\∃sl' ow' sh',View T (takeQ s T id) sl' ow' sh'/\allV T sl' ow' sh'=outL id (allV T sl ow sh):=by
 have hn':=hn;unfold allV at hn';rw[ids_app,ids_app] at hn';obtain⟨n1,n23,d1⟩:=List.nodup_append.1 hn';obtain⟨n2,n3,d2⟩:=List.nodup_append.1 n23;have av:allV T sl ow sh=(List.range T).flatMap sl++((List.range T).flatMap ow++sh):=rfl;by_cases c1:id∈ids ((List.range T).flatMap sl)
 ·obtain⟨i,hi,hm⟩:=flat_has.1 c1;obtain⟨f,v⟩:=h.take_slot hi (hasL_mem.2 hm) (fun k hk=>hasL_no.2 (flat_apart' n1 hi (by omega) (by omega) hm))
  have o2:id∉ids ((List.range T).flatMap ow++sh):=by
   rw[ids_app];exact fun hx=>d1 id c1 id hx rfl
  refine⟨by rw[f,hasL_mem.2 (by rw[av,ids_app];exact mem_append_left _ c1)];rfl,_,_,_,v,?_⟩
  have e1:outL id (sl i)=[]:=by
   have:=h.sl i hi;unfold slotL at this
   split at this
   ·rw[<-this] at hm⊢;simp[ids] at hm;simp[outL,hm]
   ·rw[<-this] at hm;simp[ids] at hm
  have:=flat_out n1 hi hm;rw[e1] at this;unfold allV;rw[this,outL_app,outL_no (hasL_no.2 o2)]
 ·by_cases c2:id∈ids ((List.range T).flatMap ow)
  ·obtain⟨t,ht,hm⟩:=flat_has.1 c2;obtain⟨f,v⟩:=h.take_own ht (flat_no c1) (hasL_mem.2 hm) (fun k hk=>hasL_no.2 (flat_apart' n2 ht (by omega) (by omega) hm)) (flat_sub n2 ht);have o3:id∉ids sh:=fun hx=>d2 id c2 id hx rfl;refine⟨by rw[f,hasL_mem.2 (by rw[av,ids_app,ids_app];exact mem_append_right _ (mem_append_left _ c2))];rfl,_,_,_,v,?_⟩;unfold allV;rw[flat_out n2 ht hm,outL_app,outL_app,outL_no (hasL_no.2 c1),outL_no (hasL_no.2 o3)]
  ·by_cases c3:id∈ids sh
   ·obtain⟨f,v⟩:=h.take_shared (flat_no c1) (flat_no c2) (hasL_mem.2 c3) n3;refine⟨by rw[f,hasL_mem.2 (by rw[av,ids_app,ids_app];exact mem_append_right _ (mem_append_right _ c3))];rfl,_,_,_,v,?_⟩;unfold allV;rw[outL_app,outL_app,outL_no (hasL_no.2 c1),outL_no (hasL_no.2 c2)]
   ·obtain⟨f,e⟩:=h.take_none (flat_no c1) (flat_no c2) (hasL_no.2 c3)
    have no:id∉ids (allV T sl ow sh):=by
     rw[av,ids_app,ids_app];intro hx;rcases List.mem_append.1 hx with hx|hx
     ·exact c1 hx
     ·rcases List.mem_append.1 hx with hx|hx
      ·exact c2 hx
      ·exact c3 hx
    exact⟨by rw[f,hasL_no.2 no];rfl,sl,ow,sh,by rw[e];exact h,(outL_no (hasL_no.2 no)).symm⟩
end
section
variable {T K:Nat}{s:QSt}{sl ow:Nat->List Ent}{sh:List Ent}
theorem smal_app(c d:List Ent)(x:Ent):smal (c++d) x=smal c x+smal d x:=List.countP_append
theorem smal_at{d:List Ent}(hs:Srt d){i:Nat}(hi:i<d.length){x:Ent}(h:ltE d[i] x=false):smal d x<=i:=by
 have up:smal (d.drop i) x=0:=smal_none fun y hy=>by
  obtain⟨j,hj,rfl⟩:=List.mem_iff_getElem.1 hy;rw[List.getElem_drop];by_cases c:j=0
  ·subst c;exact h
  ·have h2:ltE (d[i+j]'(by simp at hj;omega)) d[i]=false:=hs.get (show i<i+j by omega) (by simp at hj;omega);rw[ltE_not] at h h2⊢;omega
 rw[smal_split d x i,up];have:=smal_le (d.take i) x;rw[List.length_take] at this;omega
theorem flat_most(f:Nat->List Ent):∀{k:Nat},(∀i,i<k->(f i).length<=K)->((List.range k).flatMap f).length<=k*K
 | 0,_=>by simp
 | k+1,hl=>by
  rw[range_succ,flatMap_append,List.length_append,Nat.add_mul,Nat.one_mul];have:=flat_most f (k:=k) (fun i hi=>hl i (by omega));simp only[flatMap_cons,flatMap_nil,append_nil];have:=hl k (by omega);omega
theorem flat_less(f:Nat->List Ent){t:Nat}:∀{k:Nat},t<k->(∀i,i<k->(f i).length<=K)->((List.range k).flatMap (lset f t [])).length+K<=k*K
 | 0,h,_=>by omega
 | k+1,h,hl=>by
  rw[range_succ,flatMap_append,List.length_append,Nat.add_mul,Nat.one_mul];by_cases c:t=k
  ·subst c;rw[flatMap_congr' (f:=lset f t []) (g:=f) (fun i hi=>lset_ne _ _ (by omega))];simp only[flatMap_cons,flatMap_nil,append_nil,lset_same,List.length_nil];have:=flat_most f (k:=t) (fun i hi=>hl i (by omega));omega
  ·have ih:=flat_less f (t:=t) (k:=k) (by omega) (fun i hi=>hl i (by omega));simp only[flatMap_cons,flatMap_nil,append_nil,lset_ne f _ (show k≠t from fun e=>c e.symm)];have:=hl k (by omega);omega
theorem allV_own{t:Nat}(ht:t<T){x:Ent}(h:x∈ow t):x∈allV T sl ow sh:=by
 unfold allV;exact mem_append_right _ (mem_append_left _ (List.mem_flatMap.2 ⟨t,List.mem_range.2 ht,h⟩))
theorem allV_sh{x:Ent}(h:x∈sh):x∈allV T sl ow sh:=by
 unfold allV;exact mem_append_right _ (mem_append_right _ h)
theorem View.less{N:Nat}(h:View T s sl ow sh)(ok:QOk K T N s){t:Nat}(ht:t<T){x:Ent}(h1:smal (ow t) x=0)(h2:smal sh x<=K):smal (allV T sl ow sh) x<=T*K+T:=by
 have a1:smal ((List.range T).flatMap sl) x<=T:=by
  refine Nat.le_trans (smal_le _ _) ?_;rw[<-h.slots];exact slAll_len s.g T
 have a2:smal ((List.range T).flatMap ow) x+K<=T*K:=by
  rw[smal_perm (flatV_at ow ht) x,smal_app,h1,Nat.zero_add];have:=flat_less (K:=K) ow ht (fun i hi=>by rw[<-h.len hi];exact ok.len i hi);have:=smal_le ((List.range T).flatMap (lset ow t [])) x;omega
 unfold allV;rw[smal_app,smal_app];omega
theorem take1_srt(d:List Ent):Srt (d.take 1):=by
 cases d with
 | nil=>exact Srt.nil
 | cons x d=>simp[Srt]
theorem candL_cases{N:Nat}(h:View T s sl ow sh)(dr:Nat):(sh=[]/\candL s K dr=[])\/∃i,∃hi:i<sh.length,i<=K/\candL s K dr=[sh[i]]:=by
 by_cases c:sh=[]
 ·refine .inl ⟨c,?_⟩;unfold candL;rw[h.sh,c]
  rfl
 ·have hp:0<sh.length:=List.length_pos_iff.2 c;have hl:s.hs.flatten.length=sh.length:=h.hlen;have dn:drawN ((K:Nat):Int) s.hs.flatten.length=min (min K sh.length+1) sh.length:=by unfold drawN;rw[hl,Int.toNat_natCast]
  have d0:0<min (min K sh.length+1) sh.length:=by omega
  have lt:=Nat.mod_lt dr d0;have hi:dr%min (min K sh.length+1) sh.length<sh.length:=by omega
  refine .inr ⟨dr%min (min K sh.length+1) sh.length,hi,by omega,?_⟩;unfold candL;rw[dn,h.sh,List.getElem?_eq_getElem hi];show(if s.hs.flatten.length=0 then [] else _)=_;rw[if_neg (by omega)]
theorem around{t j:Nat}(ht:t<T)(hj:j<T):∃i,i<T/\(t+1+i)%T=j:=by
 by_cases c:t+1<=j
 ·exact⟨j-t-1,by omega,by rw[show t+1+(j-t-1)=j by omega];exact Nat.mod_eq_of_lt hj⟩
 ·exact⟨T+j-t-1,by omega,by rw[show t+1+(T+j-t-1)=T+j by omega,Nat.add_mod_left];exact Nat.mod_eq_of_lt hj⟩
theorem headO_mem{d:List Ent}(h:d≠[]):(headO d).2=true/\(headO d).1∈d:=by
 cases d with
 | nil=>exact absurd rfl h
 | cons x d=>exact⟨rfl,List.mem_cons_self⟩
theorem View.relaxed{N:Nat}(h:View T s sl ow sh)(ok:QOk K T N s){t:Nat}(ht:t<T)(dr:Nat) :
  (allV T sl ow sh=[]/\(relaxQ s T K t dr).2=false)\/(allV T sl ow sh≠[]/\(relaxQ s T K t dr).2=true/\(relaxQ s T K t dr).1∈allV T sl ow sh/\smal (allV T sl ow sh) (relaxQ s T K t dr).1<=T*K+T):=by
 have o1:own1 s t=(ow t).take 1:=by unfold own1;rw[h.ow t ht]
 have cc:=candL_cases (N:=N) (K:=K) h dr
 have li:=leastL_is [own1 s t,candL s K dr] (fun d hd=>by
  simp only[List.mem_cons,List.not_mem_nil,or_false] at hd;rcases hd with rfl|rfl
  ·rw[o1];exact take1_srt _
  ·rcases cc with⟨_,e⟩|⟨i,hi,_,e⟩
   ·rw[e];exact Srt.nil
   ·rw[e];simp[Srt]) 2 (by simp)
 have e2:(List.take 2 [own1 s t,candL s K dr]).flatten=own1 s t++candL s K dr:=by simp
 rw[e2] at li;rcases li with⟨n1,n2⟩|⟨j,x,n1,n2⟩
 ·have u:relaxQ s T K t dr=headO (furtherL s T t):=by
   unfold relaxQ nearQ;rw[n1];rfl
  obtain⟨n3,n4⟩:=List.append_eq_nil_iff.1 n2
  have ot:ow t=[]:=by
   rw[o1] at n3
   cases hw:ow t with
   | nil=>rfl
   | cons y r=>rw[hw] at n3;cases n3
  have sh0:sh=[]:=by
   rcases cc with⟨e,_⟩|⟨i,hi,_,e⟩
   ·exact e
   ·rw[e] at n4;cases n4
  have less:∀x,smal (allV T sl ow sh) x<=T*K+T:=fun x=>h.less ok ht (by rw[ot];rfl) (by rw[sh0];exact Nat.zero_le _);rw[u];have fl:furtherL s T t=match furtherI s T t with|some i=>sortE (s.ls ((t+1+i)%T)).flatten|none=>sortE (slAll s.g T):=rfl
  cases f:furtherI s T t with
  | some i=>
   rw[f] at fl;unfold furtherI at f;rw[List.find?_range_eq_some] at f;have hT:(t+1+i)%T<T:=Nat.mod_lt _ (by omega);have e3:furtherL s T t=ow ((t+1+i)%T):=by rw[fl];exact h.ow _ hT
   have ne:ow ((t+1+i)%T)≠[]:=fun e=>by
    have:=of_decide_eq_true f.1;rw[h.len hT,e] at this;exact absurd this (by simp)
   rw[e3];obtain⟨m1,m2⟩:=headO_mem ne;have m3:(headO (ow ((t+1+i)%T))).1∈allV T sl ow sh:=allV_own hT m2;exact .inr ⟨List.ne_nil_of_mem m3,m1,m3,less _⟩
  | none=>
   rw[f] at fl;unfold furtherI at f;rw[List.find?_eq_none] at f
   have own0:∀j,j<T->ow j=[]:=fun j hj=>by
    obtain⟨i,hi,e⟩:=around ht hj;have:=f i (List.mem_range.2 hi);rw[e,h.len hj] at this;simpa using this
   have e4:(List.range T).flatMap ow=[]:=by rw[flatMap_congr' own0];exact flatN_nil T
   have e5:allV T sl ow sh=slAll s.g T:=by unfold allV;rw[e4,sh0,h.slots];simp
   by_cases c:slAll s.g T=[]
   ·refine .inl ⟨by rw[e5];exact c,?_⟩;have:furtherL s T t=[]:=by rw[fl];show sortE (slAll s.g T)=[];rw[c];exact sortE_nil
    rw[this];rfl
   ·have ne:furtherL s T t≠[]:=fun e=>c (by
     have l:=sortE_len (slAll s.g T);rw[show sortE (slAll s.g T)=furtherL s T t from fl.symm,e] at l;exact List.eq_nil_of_length_eq_zero l.symm)
    obtain⟨m1,m2⟩:=headO_mem ne
    have m3:(headO (furtherL s T t)).1∈allV T sl ow sh:=by
     rw[e5];refine(sortE_perm (slAll s.g T)).mem_iff.1 ?_;rw[show sortE (slAll s.g T)=furtherL s T t from fl.symm];exact m2
    exact .inr ⟨List.ne_nil_of_mem m3,m1,m3,less _⟩
 ·have u:relaxQ s T K t dr=(x,true):=by
   unfold relaxQ nearQ;rw[n1];rfl
  rw[u]
  have m:x∈allV T sl ow sh:=by
   rcases List.mem_append.1 n2.1 with hx|hx
   ·rw[o1] at hx;exact allV_own ht (List.mem_of_mem_take hx)
   ·rcases cc with⟨_,e⟩|⟨i,hi,_,e⟩
    ·rw[e] at hx;cases hx
    ·rw[e] at hx;rw[List.mem_singleton.1 hx];exact allV_sh (List.getElem_mem hi)
  refine .inr ⟨List.ne_nil_of_mem m,rfl,m,h.less ok ht ?_ ?_⟩
  ·cases hw:ow t with
   | nil=>rfl
   | cons y r=>
    have hy:ltE y x=false:=n2.2 y (mem_append_left _ (by rw[o1,hw];simp));have:=smal_at (d:=y::r) (by rw[<-hw];exact h.osrt ht) (i:=0) (by simp) (x:=x) hy;exact Nat.le_zero.1 this
  ·rcases cc with⟨e,_⟩|⟨i,hi,hK,e⟩
   ·rw[e];exact Nat.zero_le _
   ·have hy:ltE sh[i] x=false:=n2.2 _ (mem_append_right _ (by rw[e];simp));exact Nat.le_trans (smal_at h.ssrt hi hy) hK
end
end Go.Proofs.YtjpbngiddjkjiaaGreatDoor.Qu
