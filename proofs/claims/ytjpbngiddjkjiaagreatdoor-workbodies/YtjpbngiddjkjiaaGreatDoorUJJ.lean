import Derived.Test.YtjpbngiddjkjiaaGreatDoorUJH
import Derived.WalkMore
open Go.Proofs.Tryz
open Int(emod_eq_of_lt)
open List(getElem_map getElem_mem length_map length_set)
open Nat(le_refl le_trans zero_add)
namespace Go.Proofs.YtjpbngiddjkjiaaGreatDoor.Qu
set_option maxHeartbeats 8000000
set_option maxRecDepth 100000
set_option linter.unusedVariables false
open Go.RowKit Go.Lib Go.Sort
def RawB(w:World)(a:Option Addr)(xs:List (Int×List Ent)):Prop:=
 ∀(i:Nat)(hi:i<xs.length),∃g p q,a=some ⟨g,0,none⟩/\g<w.heap.size/\w.cell? ⟨g,i*2,none⟩=some (.int .i64 xs[i].1)/\w.cell? ⟨g,i*2+1,none⟩=some (.slice p xs[i].2.length q)/\IsL w p q xs[i].2
theorem RawB.below{w w':World}{a:Option Addr}{xs:List (Int×List Ent)}(h:RawB w a xs)(hw:Below w.heap.size w w'):RawB w' a xs:=fun i hi=>by
 obtain⟨g,p,q,e,hg,c0,c1,L⟩:=h i hi;exact⟨g,p,q,e,by have:=hw.size;omega,(hw.cell (p:=⟨g,i*2,none⟩) hg).trans c0,(hw.cell (p:=⟨g,i*2+1,none⟩) hg).trans c1,L.below hw⟩
def lvs(ls:List (List Ent)):List (Int×List Ent):=ls.map (fun d=>((lv d:Int),d))
theorem lvs_len(ls:List (List Ent)):(lvs ls).length=ls.length:=by simp[lvs]
theorem lvs_at{ls:List (List Ent)}{i:Nat}(hi:i<ls.length):(lvs ls)[i]'(by rw[lvs_len];exact hi)=((lv ls[i]:Int),ls[i]):=by simp[lvs]
theorem lvs_find(ls:List (List Ent))(p:List Ent->Bool)(q:Int×List Ent->Bool)(h:∀d,q ((lv d:Int),d)=p d):(lvs ls).findIdx q=ls.findIdx p:=by
 induction ls with
 | nil=>rfl
 | cons d r ih=>
  show(((lv d:Int),d)::lvs r).findIdx q=_;rw[List.findIdx_cons,List.findIdx_cons,h,ih]
theorem RowB.raw{T:TypeId}{w:World}{base n cap:Nat}{a:Option Addr}{bs:List Bk}(h:RowB T w base (.slice a n cap) bs):RawB w a (lvs (bs.map Bk.d)):=by
 intro i hi;have hi':i<bs.length:=by rw[lvs_len,length_map] at hi;exact hi
 obtain⟨g,e,hb,hg,c0,c1⟩:=h.at hi';have ex:=lvs_at (ls:=bs.map Bk.d) (i:=i) (by simpa using hi');simp only[getElem_map] at ex;rw[ex];exact⟨g,bs[i].p,bs[i].q,e,hg,c0,c1,(h.own _ (getElem_mem hi')).is⟩
theorem indexR_any(gf:Nat)(cb:Array Value)(f:Int×List Ent->Bool)(a:Option Addr)(cap:Nat)(xs:List (Int×List Ent))(w:World)(h:RawB w a xs)(hl:xs.length<=1000000)
  (eg:∀args w,(callFunc gf args).run prog w=.ok (.enter gf args) w)
  (hp:∀(x:Int×List Ent)(r:Option Addr)(t:Nat)(W:World),x∈xs->Below w.heap.size w W->IsL W r t x.2->Calls prog gf (#[.agg #[.int .i64 x.1,.slice r x.2.length t]]++cb) W fun e w'=>e=.returned (.bool (f x))/\Below W.heap.size W w') :
  Calls prog 126 #[.slice a xs.length cap,.func (.func gf) #[] cb] w fun r w'=>∃z:Int,r=.returned (.int .i64 z)/\((z = -1/\xs.findIdx f=xs.length)\/(xs.findIdx f<xs.length/\z=(xs.findIdx f:Nat)))/\Below w.heap.size w w':=by
 have H:Aside (RawB w a xs):=h;have HP:Aside (∀(x:Int×List Ent)(r:Option Addr)(t:Nat)(W:World),x∈xs->Below w.heap.size w W->IsL W r t x.2->Calls prog gf (#[.agg #[.int .i64 x.1,.slice r x.2.length t]]++cb) W fun e w'=>e=.returned (.bool (f x))/\Below W.heap.size W w'):=hp;obtain⟨n,hn⟩:∃n,xs.length=n:=⟨_,rfl⟩;have HN:Hid _:=hn;rw[hn] at hl⊢;clear h hp hn;go_enter func126,ntmps126
 go_wp2
 go_loopg [8] n (fun kx s8 wr=>∃k:Nat,s8=.int .i64 k/\k<=n/\n-k<=kx/\Aside (Below w.heap.size w wr)/\Aside (∀i (hi:i<xs.length),i<k->f xs[i]=false))
 case atStart=>exact⟨0,rfl,by omega,by omega,Below.refl _ _,(fun i _ h=>absurd h (by omega):∀i (hi:i<xs.length),i<0->f xs[i]=false)⟩
 case round=>
  obtain⟨k,rfl,hk,hkx,D,A⟩:=hrel;by_cases hlt:k<n
  ·have hz:(k:Int)<(n:Int):=by omega
   have hkl:k<xs.length:=by rw[HN.out];exact hlt
   obtain⟨g,p,q,ha,hg,c0,c1,L⟩:=(H.out.below D.out) k hkl;have pc:=HP.out xs[k] p q wr (getElem_mem hkl) D.out L;obtain⟨x,hx⟩:∃x,xs[k]=x:=⟨_,rfl⟩;have HX:Hid _:=hx;rw[hx] at c0 c1 pc;obtain⟨Y,hY⟩:∃Y,f x=Y:=⟨_,rfl⟩;have HY:Hid _:=hY;rw[hY] at pc;obtain⟨m,hm⟩:∃m,x.1=m:=⟨_,rfl⟩;obtain⟨kl,hkl2⟩:∃m,x.2.length=m:=⟨_,rfl⟩;rw[hm] at c0 pc;rw[hkl2] at c1 pc;have hs:=D.out.size;clear hY hm hkl2 hx L;subst ha
   go_wp2_with fail
   refine pc.mono ?_;rintro r w1 ⟨rfl,g1⟩;have D2:Aside (Below w.heap.size w w1):=D.out.trans (g1.mono hs);clear g1 D c0 c1 pc
   cases Y with
   | true=>
    have fb:xs.findIdx f=k:=by
     have l1:xs.findIdx f<=k:=by
      apply Nat.le_of_not_lt;intro c;have:=List.not_of_lt_findIdx c;rw[HX.out,HY.out] at this;simp at this
     have l2:¬xs.findIdx f<k:=by
      intro c;have h1:=List.findIdx_getElem (xs:=xs) (p:=f) (w:=by omega);rw[A.out _ (by omega) c] at h1
      cases h1
     omega
    have FB:Hid _:=fb;clear fb
    go_wp2
    go_ret;refine⟨k,rfl,.inr ⟨by rw[FB.out];exact hlt,by rw[FB.out]⟩,D2.out⟩
   | false=>
    go_wp2
    go_roundg (n-(k+1))
    case measure=>omega
    case rel=>
     refine⟨k+1,by go_num,by omega,le_refl _,D2,(fun i hi hik=>?_:∀i (hi:i<xs.length),i<k+1->f xs[i]=false)⟩;by_cases e:i=k
     ·subst e;rw[HX.out];exact HY.out
     ·exact A.out i hi (by omega)
  ·have hz:¬(k:Int)<(n:Int):=by omega
   have fb:xs.findIdx f=xs.length:=List.findIdx_eq_length.2 (fun x hx=>by
    obtain⟨i,hi,rfl⟩:=List.getElem_of_mem hx;exact A.out i hi (by have:=HN.out;omega))
   rw[HN.out] at fb;have FB:Hid _:=fb;clear fb
   go_wp2
   go_ret;exact⟨-1,rfl,.inl ⟨rfl,FB.out⟩,D.out⟩
def okX(x:Int×List Ent):Bool:=decide (x.1=(lvl x.2.length:Int))&&srtB x.2
theorem okX_not{m:Int}{d:List Ent}(h:m≠(lvl d.length:Int)):okX (m,d)=false:=by unfold okX;simp[h]
theorem okX_eq{m:Nat}{d:List Ent}(h:lvl d.length=m):okX ((m:Int),d)=srtB d:=by unfold okX;simp[h]
theorem okR_any(m:Int)(a:Option Addr)(cap:Nat)(d:List Ent)(w:World)(h:IsL w a cap d)(hd:d.length<=1000000) :
  Calls prog 224 #[.agg #[.int .i64 m,.slice a d.length cap]] w fun e w'=>e=.returned (.bool (okX (m,d)))/\Below w.heap.size w w':=by
 obtain⟨S,hS⟩:∃S,w.heap.size=S:=⟨_,rfl⟩;have HS:Hid _:=hS;have l20:lvl d.length<=20:=lvl_le hd;obtain⟨n,hn⟩:∃n,d.length=n:=⟨_,rfl⟩;obtain⟨u,hu⟩:∃u,w.alloc (.cells #[.int .i64 m,.slice a n cap] 223)=u:=⟨_,rfl⟩;have HU:Hid _:=hu;have b0:Below S w u:=by rw[<-hu];exact(Below.refl _ _).alloc (by omega) _
 have k0:∀q,(u.drewN q).cell? ⟨S,0,none⟩=some (.int .i64 m):=fun q=>by rw[<-hu,<-hS];exact cell_new w _ _ 0
 have k1:∀q,(u.drewN q).cell? ⟨S,1,none⟩=some (.slice a n cap):=fun q=>by rw[<-hu,<-hS];exact cell_new w _ _ 1
 have e0:u.cell? ⟨S,0,none⟩=some (.int .i64 m):=k0 0;obtain⟨Y,hY⟩:∃Y,srtB d=Y:=⟨_,rfl⟩
 have so:∀q,Calls prog 245 #[.slice a n cap] (u.drewN q) fun e w'=>e=.returned (.bool Y)/\Grown (u.drewN q) w':=fun q=>by
  have:=sorted_any a cap d (u.drewN q) (h.below (by rw[hS];exact b0.trans ((Grown.below ⟨q,#[],by rw[grow_empty]⟩).mono (by rw[<-hu,<-hS];simp))));rw[hn,hY] at this;exact this
 have sz:S<=u.heap.size:=by have:=b0.size;omega
 have BQ:∀q,Aside (Below S w (u.drewN q)):=fun q=>b0.trans ((Grown.below ⟨q,#[],by rw[grow_empty]⟩).mono sz);have B0:Aside (Below S w u):=b0;by_cases c1:m<0
 ·have t5:decide (m<0)=true:=decide_eq_true c1;have R:Hid _:=okX_not (m:=m) (d:=d) (by omega);rw[hn];clear b0 hu h hd hn so k0 k1 hY BQ;go_enter func224,ntmps224
  go_wp2_with fail
  rw[HU.out];go_ret;exact⟨by rw[R.out];rfl,by first|exact B0.out|(rw[HS.out];exact B0.out)⟩
 by_cases c2:62<m
 ·have t5:decide (m<0)=false:=decide_eq_false c1;have R:Hid _:=okX_not (m:=m) (d:=d) (by omega);rw[hn];clear b0 hu h hd hn so k0 k1 hY BQ;go_enter func224,ntmps224
  go_wp2_with fail
  rw[HU.out];go_ret;exact⟨by rw[R.out];rfl,by first|exact B0.out|(rw[HS.out];exact B0.out)⟩
 obtain⟨M,rfl⟩:∃M:Nat,m=(M:Int):=⟨m.toNat,by omega⟩;obtain⟨P,hP⟩:∃P,2^M=P:=⟨_,rfl⟩;have rm:=room_any M P (by omega) hP;have hP1:P<=2^62:=by rw[<-hP];exact Nat.pow_le_pow_right (by omega) (by omega)
 have wn:IntKind.u64.wrap (n:Int)=(n:Int):=by rw[IntKind.wrap_u64,emod_eq_of_lt (by omega) (by omega)]
 have wp2:IntKind.u64.wrap ((P:Int)/2)=(P:Int)/2:=by rw[IntKind.wrap_u64,emod_eq_of_lt (by omega) (by omega)]
 have t1:¬(M:Int)<0:=by omega
 have t5:decide ((M:Int)<0)=false:=decide_eq_false t1;have r1:=lvl_room n;have hP2:0<M->P=2^(M-1)*2:=fun h=>by rw[<-hP,<-Nat.pow_succ];congr 1;omega
 by_cases c3:P<n
 ·have t3:(P:Int)<(n:Int):=by omega
  have t6:decide ((P:Int)<(n:Int))=true:=decide_eq_true t3
  have R:Hid _:=okX_not (m:=(M:Int)) (d:=d) (by
   intro e;have e':M=lvl n:=by rw[hn] at e;omega
   rw[<-e',hP] at r1;omega)
  rw[hn];clear b0 hu h hd hn so hY hP hP1 hP2 r1;go_enter func224,ntmps224
  go_wp2_with fail
  rw[HU.out];go_quiet ((go_at_call 244;exact Calls.quiet_of_same (rm _)))
  go_wp2_with fail
  go_ret;exact⟨by rw[R.out];rfl,by first|exact(BQ nq).out|(rw[HS.out];exact(BQ nq).out)⟩
 have t3:¬(P:Int)<(n:Int):=by omega
 have t6:decide ((P:Int)<(n:Int))=false:=decide_eq_false t3;by_cases c4:0<M
 ·have t7:(0:Int)<(M:Int):=by omega
  have t8:decide ((0:Int)<(M:Int))=true:=decide_eq_true t7;have p2:=hP2 c4;by_cases c5:n<=P/2
  ·have t4:(n:Int)<=(P:Int)/2:=by omega
   have t9:decide ((n:Int)<=(P:Int)/2)=true:=decide_eq_true t4
   have R:Hid _:=okX_not (m:=(M:Int)) (d:=d) (by
    intro e;have e':M=lvl n:=by rw[hn] at e;omega
    have:=lvl_least (n:=n) (k:=M-1) (by omega);omega)
   rw[hn];clear b0 hu h hd hn so hY hP hP1 hP2 r1 p2;go_enter func224,ntmps224
   go_wp2_with fail
   rw[HU.out];go_quiet ((go_at_call 244;exact Calls.quiet_of_same (rm _)))
   go_wp2_with fail
   go_ret;exact⟨by rw[R.out];rfl,by first|exact(BQ nq).out|(rw[HS.out];exact(BQ nq).out)⟩
  ·have t4:¬(n:Int)<=(P:Int)/2:=by omega
   have t9:decide ((n:Int)<=(P:Int)/2)=false:=decide_eq_false t4;have R:Hid _:=okX_eq (m:=M) (d:=d) (by rw[hn];exact lvl_uniq (by omega) (.inr (by omega)));rw[hn,R.out,hY];clear b0 hu h hd hn hY hP hP1 hP2 r1 p2;go_enter func224,ntmps224
   go_wp2_with fail
   rw[HU.out];go_quiet ((go_at_call 244;exact Calls.quiet_of_same (rm _)))
   go_wp2_with fail
   refine(so nq).mono ?_;rintro e w2 ⟨rfl,g2⟩;have B2:Aside (Below S w w2):=(BQ nq).out.trans (g2.below.mono sz);clear g2 k0 k1 so
   go_wp2
   go_ret;exact⟨rfl,by first|exact B2.out|(rw[HS.out];exact B2.out)⟩
 ·have t7:¬(0:Int)<(M:Int):=by omega
  have t8:decide ((0:Int)<(M:Int))=false:=decide_eq_false t7;have R:Hid _:=okX_eq (m:=M) (d:=d) (by rw[hn];exact lvl_uniq (by omega) (.inl (by omega)));rw[hn,R.out,hY];clear b0 hu h hd hn hY hP hP1 hP2 r1;go_enter func224,ntmps224
  go_wp2_with fail
  rw[HU.out];go_quiet ((go_at_call 244;exact Calls.quiet_of_same (rm _)))
  go_wp2_with fail
  refine(so nq).mono ?_;rintro e w2 ⟨rfl,g2⟩;have B2:Aside (Below S w w2):=(BQ nq).out.trans (g2.below.mono sz);clear g2 k0 k1 so
  go_wp2
  go_ret;exact⟨rfl,by first|exact B2.out|(rw[HS.out];exact B2.out)⟩
theorem notOk_any(m:Int)(a:Option Addr)(cap:Nat)(d:List Ent)(w:World)(h:IsL w a cap d)(hd:d.length<=1000000) :
  Calls prog 223 #[.agg #[.int .i64 m,.slice a d.length cap]] w fun e w'=>e=.returned (.bool (!okX (m,d)))/\Below w.heap.size w w':=by
 obtain⟨S,hS⟩:∃S,w.heap.size=S:=⟨_,rfl⟩;obtain⟨n,hn⟩:∃n,d.length=n:=⟨_,rfl⟩;obtain⟨u,hu⟩:∃u,w.alloc (.cells #[.int .i64 m,.slice a n cap] 223)=u:=⟨_,rfl⟩;have HU:Hid _:=hu;have b0:Below w.heap.size w u:=by rw[<-hu];exact(Below.refl _ _).alloc (le_refl _) _
 have ok:=okR_any m a cap d u (h.below b0) hd;rw[hn] at ok⊢;have B0:Aside (Below w.heap.size w u):=b0;obtain⟨Y,hY⟩:∃Y,okX (m,d)=Y:=⟨_,rfl⟩;rw[hY] at ok⊢;clear hu b0 h hn hY;go_enter func223,ntmps223
 go_wp2_with fail
 rw[HU.out];refine ok.mono ?_;rintro r w1 ⟨rfl,g1⟩;have B1:Aside (Below w.heap.size w w1):=B0.out.trans (g1.mono B0.out.size);clear g1 ok
 go_wp2
 go_ret;exact⟨rfl,B1.out⟩
theorem containsR_any(a:Option Addr)(cap:Nat)(xs:List (Int×List Ent))(w:World)(h:RawB w a xs)(hl:xs.length<=1000000)(hd:∀x∈xs,x.2.length<=1000000) :
  Calls prog 222 #[.slice a xs.length cap,.func (.func 223) #[] #[]] w fun e w'=>e=.returned (.bool (!xs.all okX))/\Below w.heap.size w w':=by
 have ix:=indexR_any 223 #[] (fun x=>!okX x) a cap xs w h hl (enters_of func223 (by kernel_rfl) rfl) (fun x r t W hx hW hL=>notOk_any x.1 r t x.2 W hL (hd x hx))
 have hf:(xs.findIdx (fun x=>!okX x)<xs.length)↔xs.all okX=false:=by
  rw[List.findIdx_lt_length];simp
 have hg:(xs.findIdx (fun x=>!okX x)=xs.length)->xs.all okX=true:=fun e=>by
  cases c:xs.all okX with
  | true=>rfl
  | false=>have:=hf.2 c;omega
 obtain⟨K,hK⟩:∃K,xs.findIdx (fun x=>!okX x)=K:=⟨_,rfl⟩;obtain⟨n,hn⟩:∃n,xs.length=n:=⟨_,rfl⟩;obtain⟨Y,hY⟩:∃Y,xs.all okX=Y:=⟨_,rfl⟩;rw[hK,hn] at ix;rw[hK,hn,hY] at hf hg;rw[hn,hY];have HF:Hid _:=hf;have HG:Hid _:=hg;clear h hK hn hY hf hg;go_enter func222,ntmps222
 go_wp2_with fail
 refine ix.mono ?_;rintro r w1 ⟨z,rfl,fi,g1⟩;have G1:Aside (Below w.heap.size w w1):=g1;clear g1 ix;rcases fi with⟨rfl,hno⟩|⟨hk,rfl⟩
 ·have hh:=HG.out hno;subst hh
  go_wp2
  go_ret;exact⟨rfl,G1.out⟩
 ·have hh:=HF.out.1 hk;subst hh;have k0:(0:Int)<=(K:Int):=by omega
  go_wp2
  go_ret;exact⟨rfl,G1.out⟩
theorem allOk_any(a:Option Addr)(cap:Nat)(xs:List (Int×List Ent))(w:World)(h:RawB w a xs)(hl:xs.length<=1000000)(hd:∀x∈xs,x.2.length<=1000000) :
  Calls prog 186 #[.slice a xs.length cap] w fun e w'=>e=.returned (.bool (xs.all okX))/\Below w.heap.size w w':=by
 have ct:=containsR_any a cap xs w h hl hd;obtain⟨n,hn⟩:∃n,xs.length=n:=⟨_,rfl⟩;obtain⟨Y,hY⟩:∃Y,xs.all okX=Y:=⟨_,rfl⟩;rw[hn,hY] at ct⊢;clear h hn hY;go_enter func186,ntmps186
 go_wp2_with fail
 refine ct.mono ?_;rintro r w1 ⟨rfl,g1⟩;have G1:Aside (Below w.heap.size w w1):=g1;clear g1 ct
 go_wp2
 go_ret;exact⟨by simp,G1.out⟩
theorem flatB_get:∀(bs:List Bk)(f:Nat->Option Value),(∀i b,bs[i]?=some b->f (i*2)=some (.int .i64 (lv b.d))/\f (i*2+1)=some (.slice b.p b.d.length b.q))->∀j u,(flatB bs)[j]?=some u->f j=some u
 | [],f,h,j,u,hj=>by simp at hj
 | b::bs,f,h,0,u,hj=>by
  have:=(h 0 b rfl).1;rw[flatB_cons] at hj;simp at hj;subst hj;exact this
 | b::bs,f,h,1,u,hj=>by
  have:=(h 0 b rfl).2;rw[flatB_cons] at hj;simp at hj;subst hj;exact this
 | b::bs,f,h,j+2,u,hj=>by
  rw[flatB_cons] at hj
  exact flatB_get bs (fun j=>f (j+2)) (fun i c hc=>by
   have:=h (i+1) c (by simpa using hc);rw[show(i+1)*2=i*2+2 by omega] at this;exact⟨this.1,by have:=this.2;rw[show i*2+2+1=i*2+1+2 by omega] at this;exact this⟩) j u (by simpa using hj)
theorem flatB_set:∀(bs:List Bk)(k:Nat)(b:Bk)(hk:k<bs.length),b.d=bs[k].d->flatB (bs.set k b)=(flatB bs).set (k*2+1) (.slice b.p b.d.length b.q)
 | [],k,b,hk,_=>by simp at hk
 | c::bs,0,b,hk,e=>by
  simp at e;rw[List.set_cons_zero,flatB_cons,flatB_cons];simp[e]
 | c::bs,k+1,b,hk,e=>by
  rw[List.set_cons_succ,flatB_cons,flatB_cons,flatB_set bs k b (by simpa using hk) (by simpa using e),show(k+1)*2+1=(k*2+1)+1+1 by omega,List.set_cons_succ,List.set_cons_succ]
theorem row_set{T:TypeId}{w:World}{base g n cap:Nat}{bs:List Bk}(h:w.ownsRow base T 2 (.slice (some ⟨g,0,none⟩) n cap) n (flatB bs))(k:Nat)(b:Bk)(hk:k<bs.length)(e:b.d=bs[k].d)(hn:bs.length=n) :
  (w.setCell ⟨g,k*2+1,none⟩ (.slice b.p b.d.length b.q)).ownsRow base T 2 (.slice (some ⟨g,0,none⟩) n cap) n (flatB (bs.set k b)):=by
 rcases h.2 with⟨h1,h0⟩|⟨g',cap',cur,h1,hb,hg,hnc,hc,hs,ht⟩
 ·cases h1
 injection h1 with e1 e2 e3
 injection e1 with e1
 injection e1 with e1
 subst e1 e3;rw[setCell_eq_setRow w g (k*2+1) cur T (0,0) _ hg];refine⟨by rw[flatB_len,length_set,hn],.inr ⟨g,cap,_,rfl,hb,setRow_heap w g cur _ T (0,0) hg,hnc,hc,by simpa using hs,?_⟩⟩;rw[flatB_set bs k b hk e,Array.toList_setIfInBounds,List.take_set,ht]
theorem RowB.grown{T:TypeId}{w w':World}{base B:Nat}{v:Value}{bs:List Bk}(h:RowB T w base v bs)(hg:w.grownBy w' (some B))(hB:B<base):RowB T w' base v bs:=
 ⟨h.row.kept hg (.inr fun e=>by have:=World.ownsRow.lt h.row B e;omega),fun b hb=>World.ownsRow.kept (h.own b hb) hg (.inr fun e=>by have:=World.ownsRow.lt (h.own b hb) B e;omega)⟩
theorem own_low{T:TypeId}{w:World}{base k n:Nat}{v:Value}{vs:List Value}(h:w.ownsRow base T k v n vs){b':Nat}(hb:b'<=base):w.ownsRow b' T k v n vs:=by
 refine⟨h.1,?_⟩;rcases h.2 with h2|⟨g,cap,cur,r1,r2,r3⟩
 ·exact .inl h2
 ·exact .inr ⟨g,cap,cur,r1,by omega,r3⟩
theorem RowB.low{T:TypeId}{w:World}{base:Nat}{v:Value}{bs:List Bk}(h:RowB T w base v bs){b':Nat}(hb:b'<=base):RowB T w b' v bs:=
 ⟨own_low h.row hb,fun b h'=>(h.own b h').low hb⟩
theorem grown_of_below{w w':World}(h:Below w.heap.size w w')(row:Option Nat):w.grownBy w' row:=⟨h.os,h.tape,h.output,h.size,fun k hk _=>h.block k hk⟩
theorem grown_trans{u v w:World}{row:Option Nat}(h:u.grownBy v row)(g:v.grownBy w row):u.grownBy w row:=
 ⟨g.os.trans h.os,g.tape.trans h.tape,g.output.trans h.output,le_trans h.size g.size,fun k hk hne=>(g.block k (Nat.lt_of_lt_of_le hk h.size) hne).trans (h.block k hk hne)⟩
theorem grown_set(w:World)(B o:Nat)(u:Value):w.grownBy (w.setCell ⟨B,o,none⟩ u) (some B):=
 ⟨rfl,rfl,rfl,by simp[World.setCell],fun k hk hne=>Below.heap_setCell w ⟨B,o,none⟩ u k (fun e=>hne (by rw[e]))⟩
theorem below_of_grown{w w':World}{B b:Nat}(h:w.grownBy w' (some B))(hb:b<=B)(hw:b<=w.heap.size):Below b w w':=
 ⟨h.os,h.tape,h.output,h.size,fun k hk=>h.block k (by omega) (by intro e;injection e with e;omega)⟩
def Bls(w:World)(base:Nat)(a:Option Addr)(n cap:Nat)(ls:List (List Ent)):Prop:=∃bs:List Bk,bs.map Bk.d=ls/\bs.length=n/\RowB 223 w base (.slice a n cap) bs
theorem Bls.below{w w':World}{base:Nat}{a:Option Addr}{n cap:Nat}{ls:List (List Ent)}(h:Bls w base a n cap ls)(hw:Below w.heap.size w w'):Bls w' base a n cap ls:=by
 obtain⟨bs,h1,h2,h3⟩:=h;exact⟨bs,h1,h2,h3.below hw⟩
theorem Bls.grown{w w':World}{base B:Nat}{a:Option Addr}{n cap:Nat}{ls:List (List Ent)}(h:Bls w base a n cap ls)(hg:w.grownBy w' (some B))(hB:B<base):Bls w' base a n cap ls:=by
 obtain⟨bs,h1,h2,h3⟩:=h;exact⟨bs,h1,h2,h3.grown hg hB⟩
theorem Bls.low{w:World}{base:Nat}{a:Option Addr}{n cap:Nat}{ls:List (List Ent)}(h:Bls w base a n cap ls){b':Nat}(hb:b'<=base):Bls w b' a n cap ls:=by
 obtain⟨bs,h1,h2,h3⟩:=h;exact⟨bs,h1,h2,h3.low hb⟩
theorem Bls.raw{w:World}{base:Nat}{a:Option Addr}{n cap:Nat}{ls:List (List Ent)}(h:Bls w base a n cap ls):RawB w a (lvs ls):=by
 obtain⟨bs,rfl,h2,h3⟩:=h;exact h3.raw
theorem Bls.len{w:World}{base:Nat}{a:Option Addr}{n cap:Nat}{ls:List (List Ent)}(h:Bls w base a n cap ls):ls.length=n/\n<=cap/\cap<=maxLen:=by
 obtain⟨bs,rfl,h2,h3⟩:=h;obtain⟨a',cap',e,k1,k2⟩:=h3.slice;injection e with _ _ e3
 exact⟨by rw[length_map,h2],by omega,by omega⟩
theorem Bls.isBs{w:World}{base:Nat}{a:Option Addr}{n cap:Nat}{ls:List (List Ent)}(h:Bls w base a n cap ls):IsBs w a ls:=by
 obtain⟨bs,rfl,h2,h3⟩:=h;exact h3.isBs
theorem RawB.bks{w:World}{a:Option Addr}{ls:List (List Ent)}(h:RawB w a (lvs ls)):∃bs:List Bk,bs.map Bk.d=ls/\∀(i:Nat)(hi:i<bs.length),IsL w bs[i].p bs[i].q bs[i].d/\∃g,a=some ⟨g,0,none⟩/\w.cell? ⟨g,i*2,none⟩=some (.int .i64 (lv bs[i].d))/\w.cell? ⟨g,i*2+1,none⟩=some (.slice bs[i].p bs[i].d.length bs[i].q)/\g<w.heap.size:=by
 have h1:∀i:Fin ls.length,∃b:Bk,b.d=ls[i]/\IsL w b.p b.q b.d/\∃g,a=some ⟨g,0,none⟩/\w.cell? ⟨g,i.1*2,none⟩=some (.int .i64 (lv b.d))/\w.cell? ⟨g,i.1*2+1,none⟩=some (.slice b.p b.d.length b.q)/\g<w.heap.size:=fun i=>by
  obtain⟨g,p,q,e,hg,c0,c1,L⟩:=h i.1 (by rw[lvs_len];exact i.2);rw[lvs_at i.2] at c0 c1 L;exact⟨⟨ls[i.1],p,q⟩,rfl,L,g,e,c0,c1,hg⟩
 refine⟨List.ofFn (fun i=>Classical.choose (h1 i)),?_,fun i hi=>?_⟩
 ·apply List.ext_getElem
  ·simp
  ·intro i h2 h3;simp only[getElem_map,List.getElem_ofFn];exact(Classical.choose_spec (h1 ⟨i,h3⟩)).1
 ·rw[List.length_ofFn] at hi;simp only[List.getElem_ofFn];exact(Classical.choose_spec (h1 ⟨i,hi⟩)).2
def ClonedB(w:World)(n:Nat)(bs:List Bk)(r:Ending)(w':World):Prop:=∃a cap,r=.returned (.slice a n cap)/\w'.ownsRow w.heap.size 223 2 (.slice a n cap) n (flatB bs)/\Below w.heap.size w w'
theorem cloneB_any(a:Option Addr)(n cap:Nat)(bs:List Bk)(w:World)(hn:bs.length=n)(hl:n<=100000)(h:∀(i:Nat)(hi:i<bs.length),∃g,a=some ⟨g,0,none⟩/\w.cell? ⟨g,i*2,none⟩=some (.int .i64 (lv bs[i].d))/\w.cell? ⟨g,i*2+1,none⟩=some (.slice bs[i].p bs[i].d.length bs[i].q)/\g<w.heap.size) :
  Calls prog 217 #[.slice a n cap] w (ClonedB w n bs):=by
 have q22:∀(w:World)(a:Option Addr)(n c n' c':Nat),(binOp .eql 186 (.slice a n c) (.slice none n' c')).run prog w=.ok (.bool a.isNone) w:=fun w a n c n' c'=>Lib.run_eql_slice_nil w _ _ a n c n' c' underlying186;by_cases hz:a=none
 ·subst hz
  obtain rfl:bs=[]:=by
   cases bs with
   | nil=>rfl
   | cons x d=>obtain⟨b,e,_⟩:=h 0 (by simp);cases e
  subst hn;go_enter func217,ntmps217
  go_wp2
  go_ret;exact⟨none,0,rfl,World.ownsRow_nil _ _ _ _,Below.refl _ _⟩
 ·obtain⟨ad,rfl⟩:=Option.ne_none_iff_exists'.1 hz;obtain⟨inf,hinf,hzr,hsz,hby⟩:=info62;have o0:(w.alloc (.cells #[] 223)).ownsRow w.heap.size 223 2 (.slice (some ⟨w.heap.size,0,none⟩) 0 0) 0 []:=⟨rfl,.inr ⟨w.heap.size,0,#[],rfl,le_refl _,heap_alloc_new w _,le_refl _,by unfold maxLen;omega,rfl,rfl⟩⟩;have b0:Below w.heap.size w (w.alloc (.cells #[] 223)):=(Below.refl _ _).alloc (le_refl _) _
  obtain⟨v',w',k1,k2,k3,k4⟩:=run_append_own (P:=prog) (w.alloc (.cells #[] 223)) w.heap.size 186 186 223 inf _ 2 32 underlying186 hinf hzr hsz hby rfl (by omega) _ 0 [] o0 ad n cap (flatB bs) (by rw[flatB_len,hn])
   (flatB_get bs (fun j=>(w.alloc (.cells #[] 223)).cell? (ad.add j)) (fun i b hb=>by
    obtain⟨hi,rfl⟩:=List.getElem?_eq_some_iff.1 hb;obtain⟨g,e,c0,c1,hg⟩:=h i hi;injection e with e
    subst e;rw[Addr.add_lit,Addr.add_lit,zero_add,zero_add];exact⟨(b0.cell (p:=⟨g,i*2,none⟩) hg).trans c0,(b0.cell (p:=⟨g,i*2+1,none⟩) hg).trans c1⟩)) (flatB_one _) (by unfold maxLen;omega) (by omega) (by simp)
  simp only[zero_add,List.nil_append] at k2;have bw:Below w.heap.size w w':=b0.trans (below_of_grown k3 (le_refl _) (by simp));have B:Aside (Below w.heap.size w w'):=bw;have O:Aside (w'.ownsRow w.heap.size 223 2 v' n (flatB bs)):=k2;clear k2 k3 k4 h b0 o0 bw hinf;go_enter func217,ntmps217
  go_wp2_with (at_builtin;refine Lib.wpList_append_run _ rfl _ _ 186 186 rfl _ _ rfl rfl v' w' k1 ?_)
  go_ret;rcases O.out.2 with⟨e,e2⟩|⟨g,cap',cur,e,_⟩
  ·subst e e2;exact⟨none,0,rfl,O.out,B.out⟩
  ·subst e;exact⟨_,cap',rfl,O.out,B.out⟩
structure CopyInv(w:World)(a:Option Addr)(n cap:Nat)(ls:List (List Ent))(k:Nat)(cs:List Bk)(wr:World):Prop where
 map:cs.map Bk.d=ls
 len:cs.length=n
 row:wr.ownsRow w.heap.size 223 2 (.slice a n cap) n (flatB cs)
 new:∀(i:Nat)(hi:i<cs.length),i<k->OwnE wr w.heap.size (.slice cs[i].p cs[i].d.length cs[i].q) cs[i].d
 old:∀(i:Nat)(hi:i<cs.length),k<=i->IsL w cs[i].p cs[i].q cs[i].d
 low:Below w.heap.size w wr
def CopiedB(w:World)(n:Nat)(ls:List (List Ent))(r:Ending)(w':World):Prop:=∃a cap,r=.returned (.slice a n cap)/\Bls w' w.heap.size a n cap ls/\Below w.heap.size w w'
theorem CopyInv.step{w:World}{g n cap k:Nat}{ls:List (List Ent)}{cs:List Bk}{wr w2:World}{p:Option Addr}{q:Nat}(h:CopyInv w (some ⟨g,0,none⟩) n cap ls k cs wr)(hk:k<cs.length)(b2:Below wr.heap.size wr w2)(o:OwnE w2 wr.heap.size (.slice p cs[k].d.length q) cs[k].d) :
  CopyInv w (some ⟨g,0,none⟩) n cap ls (k+1) (cs.set k ⟨cs[k].d,p,q⟩) (w2.setCell ⟨g,k*2+1,none⟩ (.slice p cs[k].d.length q)):=by
 have r2:=own_below h.row b2;have lw:=h.low.size;have hg:=World.ownsRow.lt r2 g rfl
 obtain⟨gc,gcap,gcur,ge,_,gh,_⟩:∃g' cap' cur,(Value.slice (some ⟨g,0,none⟩) n cap)=.slice (some ⟨g',0,none⟩) n cap'/\w.heap.size<=g'/\w2.heap[g']?=some (.cells cur 223 (0,0))/\True:=by
  rcases r2.2 with⟨e,_⟩|⟨g',cap',cur,e,h1,h2,_⟩
  ·cases e
  ·exact⟨g',cap',cur,e,h1,h2,trivial⟩
 injection ge with ge1 _ _
 injection ge1 with ge1
 injection ge1 with ge1
 subst ge1;have kp:Kept (fun T=>T=223) w2 (w2.setCell ⟨g,k*2+1,none⟩ (.slice p cs[k].d.length q)):=Kept.set (S:=fun T=>T=223) gh rfl _;refine⟨?_,by rw[length_set];exact h.len,row_set r2 k ⟨cs[k].d,p,q⟩ hk rfl h.len,fun i hi hik=>?_,fun i hi hik=>?_,(h.low.trans (b2.mono lw)).setCell hg.1 _⟩
 ·rw[<-h.map];apply List.ext_getElem
  ·simp
  ·intro i h1 h2;simp only[getElem_map,List.getElem_set]
   split
   ·next e=>subst e;rfl
   ·rfl
 ·rw[length_set] at hi;by_cases e:k=i
  ·subst e;simp only[List.getElem_set_self];exact kp.own (by decide) (o.low lw)
  ·simp only[List.getElem_set_ne e];exact kp.own (by decide) ((h.new i hi (by omega)).below b2)
 ·rw[length_set] at hi;simp only[List.getElem_set_ne (show k≠i by omega)];exact h.old i hi (by omega)
theorem copied_any(a:Option Addr)(n cap:Nat)(ls:List (List Ent))(w:World)(h:RawB w a (lvs ls))(hn:ls.length=n)(hl:n<=100000)(hd:∀d∈ls,d.length<=1000000) :
  Calls prog 181 #[.slice a n cap] w (CopiedB w n ls):=by
 obtain⟨bs,hb1,hb2⟩:=h.bks;have hbl:bs.length=n:=by rw[<-hn,<-hb1,length_map]
 have cl:=cloneB_any a n cap bs w hbl hl (fun i hi=>(hb2 i hi).2);have OLD:Aside (∀(i:Nat)(hi:i<bs.length),IsL w bs[i].p bs[i].q bs[i].d):=fun i hi=>(hb2 i hi).1;have MAP:Hid (bs.map Bk.d=ls):=hb1;have LEN:Hid (bs.length=n):=hbl;have HD:Aside (∀d∈ls,d.length<=1000000):=hd;clear h hb1 hb2 hbl hd;go_enter func181,ntmps181
 go_wp2_with fail
 refine cl.mono ?_;rintro r w1 ⟨a1,c1,rfl,o1,b1⟩;have INV:Aside (CopyInv w a1 n c1 ls 0 bs w1):=⟨MAP.out,LEN.out,o1,fun i hi h=>absurd h (by omega),fun i hi _=>OLD.out i hi,b1⟩;clear o1 b1 cl OLD
 go_wp2
 go_loopg [10] n (fun kx s10 wr=>∃(k:Nat)(cs:List Bk),s10=.int .i64 k/\k<=n/\n-k<=kx/\Aside (CopyInv w a1 n c1 ls k cs wr))
 case atStart=>exact⟨0,bs,rfl,by omega,by omega,INV⟩
 case round=>
  clear INV MAP LEN;obtain⟨k,cs,rfl,hk,hkx,I⟩:=hrel;by_cases hlt:k<n
  ·have hz:(k:Int)<(n:Int):=by omega
   have hkc:k<cs.length:=by rw[I.out.len];exact hlt
   obtain⟨g,ge,gb,gh⟩:∃g,a1=some ⟨g,0,none⟩/\w.heap.size<=g/\∃cur,wr.heap[g]?=some (.cells cur 223 (0,0)):=by
    rcases I.out.row.2 with⟨e,e2⟩|⟨g',cap',cur,e,h1,h2,_⟩
    ·omega
    ·injection e with e1
     exact⟨g',e1,h1,cur,h2⟩
   subst ge;obtain⟨cur,gh⟩:=gh;have gs:g<wr.heap.size:=lt_of_block gh;obtain⟨f1,f2⟩:=flatB_at cs k cs[k] (List.getElem?_eq_getElem hkc);have rl:k*2+1<n*2:=by omega
   have y0:wr.cell? ⟨g,k*2,none⟩=some (.int .i64 (lv cs[k].d)):=by rw[World.ownsRow.cellAt I.out.row (k*2) (by omega),f1]
   have y1:wr.cell? ⟨g,k*2+1,none⟩=some (.slice cs[k].p cs[k].d.length cs[k].q):=by rw[World.ownsRow.cellAt I.out.row (k*2+1) (by omega),f2]
   obtain⟨x,hx⟩:∃x,cs[k]=x:=⟨_,rfl⟩;have HX:Hid _:=hx;rw[hx] at y0 y1;have xl:x.d.length<=1000000:=HD.out x.d (by rw[<-I.out.map,<-hx];exact List.mem_map.2 ⟨_,getElem_mem hkc,rfl⟩);obtain⟨m,hm⟩:∃m,lv x.d=m:=⟨_,rfl⟩;obtain⟨K,hK⟩:∃m,x.d.length=m:=⟨_,rfl⟩;obtain⟨xp,hxp⟩:∃m,x.p=m:=⟨_,rfl⟩;obtain⟨xq,hxq⟩:∃m,x.q=m:=⟨_,rfl⟩;have HK:Hid _:=hK;obtain⟨R,hR⟩:∃R,wr.heap.size=R:=⟨_,rfl⟩;obtain⟨u,hu⟩:∃u,wr.alloc (.cells #[.int .i64 m,.slice xp K xq] 223)=u:=⟨_,rfl⟩;have HU:Hid _:=hu;have bu:Below wr.heap.size wr u:=by rw[<-hu];exact(Below.refl _ _).alloc (le_refl _) _
   have xL:IsL w x.p x.q x.d:=by rw[<-hx];exact I.out.old k hkc (le_refl _)
   have cl:=clone_any xp xq x.d u (by rw[<-hxp,<-hxq];exact xL.below (I.out.low.trans (bu.mono I.out.low.size))) xl;rw[hm] at y0;rw[hK,hxp,hxq] at y1;rw[hK] at cl;have gR:g<R:=by omega
   have ngR:¬g=R:=by omega
   have BU:Aside (Below wr.heap.size wr u):=bu;clear hx hm hK hxp hxq hu bu xL xl f1 f2
   go_wp2_with fail
   rw[HU.out];refine cl.mono ?_;rintro r w2 ⟨a2,c2,rfl,o2,b2⟩;rw[HK.out] at o2⊢;have bw:Below wr.heap.size wr w2:=BU.out.trans (b2.mono BU.out.size);have st:=I.out.step hkc bw (p:=a2) (q:=c2) (by rw[HX.out,HK.out];exact o2.low BU.out.size);rw[HX.out,HK.out] at st;have I2:Aside (CopyInv w (some ⟨g,0,none⟩) n c1 ls (k+1) (cs.set k ⟨x.d,a2,c2⟩) (w2.setCell ⟨g,k*2+1,none⟩ (.slice a2 K c2))):=st;have y2:w2.cell? ⟨g,k*2+1,none⟩=some (.slice xp K xq):=(bw.cell (p:=⟨g,k*2+1,none⟩) gs).trans y1;have g2:w2.heap[g]?=some (.cells cur 223 (0,0)):=(bw.block g gs).trans gh;have fz:w2.frozen? ⟨g,k*2+1,none⟩=false:=by simp[World.frozen?,g2]
   clear st o2 b2 cl y0 y1 I
   go_wp2
   go_roundg (n-(k+1))
   case measure=>omega
   case rel=>exact⟨k+1,_,by go_num,by omega,le_refl _,I2⟩
  ·have hz:¬(k:Int)<(n:Int):=by omega
   have hkn:k=n:=by omega
   have FIN:Aside (Bls wr w.heap.size a1 n c1 ls):=⟨cs,I.out.map,I.out.len,by have:=I.out.row;rw[<-I.out.len] at this⊢;exact this,fun b hb=>by
    obtain⟨i,hi,rfl⟩:=List.getElem_of_mem hb;exact I.out.new i hi (by have:=I.out.len;omega)⟩
   have LOW:Aside (Below w.heap.size w wr):=I.out.low;clear I
   go_wp2
   go_ret;exact⟨a1,c1,rfl,FIN.out,LOW.out⟩
def Shr(w:World)(B v:Nat)(ls:List (List Ent)):Prop:=
 ∃(a:Option Addr)(n cap:Nat),w.heap[B]?=some (.cells #[.int .u64 v,.slice a n cap] 188 (0,0))/\Bls w (B+1) a n cap ls
theorem Shr.below{w w':World}{B v:Nat}{ls:List (List Ent)}(h:Shr w B v ls)(hw:Below w.heap.size w w'):Shr w' B v ls:=by
 obtain⟨a,n,cap,h1,h2⟩:=h;exact⟨a,n,cap,(hw.block B (lt_of_block h1)).trans h1,h2.below hw⟩
theorem Shr.lt{w:World}{B v:Nat}{ls:List (List Ent)}(h:Shr w B v ls):B<w.heap.size:=by
 obtain⟨a,n,cap,h1,h2⟩:=h;exact lt_of_block h1
def ShrA(w:World)(B v:Nat)(ls:List (List Ent))(a:Option Addr):Prop:=
 ∃(n cap:Nat),w.heap[B]?=some (.cells #[.int .u64 v,.slice a n cap] 188 (0,0))/\Bls w (B+1) a n cap ls
theorem ShrA.s{w:World}{B v:Nat}{ls:List (List Ent)}{a:Option Addr}(h:ShrA w B v ls a):Shr w B v ls:=by
 obtain⟨n,cap,h1,h2⟩:=h;exact⟨a,n,cap,h1,h2⟩
theorem ShrA.below{w w':World}{B v:Nat}{ls:List (List Ent)}{a:Option Addr}(h:ShrA w B v ls a)(hw:Below w.heap.size w w'):ShrA w' B v ls a:=by
 obtain⟨n,cap,h1,h2⟩:=h;exact⟨n,cap,(hw.block B (lt_of_block h1)).trans h1,h2.below hw⟩
theorem Bls.new{w:World}{base n cap:Nat}{a:Option Addr}{ls:List (List Ent)}(h:Bls w base a n cap ls)(x:Addr)(hx:a=some x):base<=x.block:=by
 obtain⟨bs,_,_,h3⟩:=h;rcases h3.row.2 with⟨e,_⟩|⟨g,c,cur,e,hb,_⟩
 ·injection e with e1;rw[hx] at e1;cases e1
 ·injection e with e1;rw[hx] at e1;injection e1 with e1;rw[e1];exact hb
def ShrN(c:Nat)(w:World)(B v:Nat)(ls:List (List Ent)):Prop:=∃a,ShrA w B v ls a/\∀x:Addr,a=some x->c<=x.block
theorem ShrN.mono{c c':Nat}{w:World}{B v:Nat}{ls:List (List Ent)}(h:ShrN c w B v ls)(hc:c'<=c):ShrN c' w B v ls:=by
 obtain⟨a,h1,h2⟩:=h;exact⟨a,h1,fun x hx=>le_trans hc (h2 x hx)⟩
theorem shr0{w:World}{B:Nat}{x y:Value}{T:TypeId}(h:w.heap[B]?=some (.cells #[x,y] T (0,0))):w.cell? ⟨B,0,none⟩=some x:=by rw[cell_of_row _ _ _ _ _ _ h];rfl
theorem shr1{w:World}{B:Nat}{x y:Value}{T:TypeId}(h:w.heap[B]?=some (.cells #[x,y] T (0,0))):w.cell? ⟨B,1,none⟩=some y:=by rw[cell_of_row _ _ _ _ _ _ h];rfl
theorem shrf{w:World}{B:Nat}{x y:Value}{T:TypeId}(h:w.heap[B]?=some (.cells #[x,y] T (0,0)))(o:Nat):w.frozen? ⟨B,o,none⟩=false:=by simp[World.frozen?,h]
theorem shr_set1{w:World}{B:Nat}{x y:Value}{T:TypeId}(h:w.heap[B]?=some (.cells #[x,y] T (0,0)))(u:Value):(w.setCell ⟨B,1,none⟩ u).heap[B]?=some (.cells #[x,u] T (0,0)):=by
 rw[setCell_eq_setRow w B 1 _ T (0,0) u h];exact setRow_heap w B _ _ T (0,0) h
theorem shr_set0{w:World}{B:Nat}{x y:Value}{T:TypeId}(h:w.heap[B]?=some (.cells #[x,y] T (0,0)))(u:Value):(w.setCell ⟨B,0,none⟩ u).heap[B]?=some (.cells #[u,y] T (0,0)):=by
 rw[setCell_eq_setRow w B 0 _ T (0,0) u h];exact setRow_heap w B _ _ T (0,0) h
theorem two_set_other{w:World}{S B:Nat}(h:B≠S)(x y:Value)(o:Nat):((w.setCell ⟨S,0,none⟩ x).setCell ⟨S,1,none⟩ y).cell? ⟨B,o,none⟩=w.cell? ⟨B,o,none⟩:=
 World.cell?_of_block (a:=⟨B,o,none⟩) ((Below.heap_setCell (w.setCell ⟨S,0,none⟩ x) ⟨S,1,none⟩ y B h).trans (Below.heap_setCell w ⟨S,0,none⟩ x B h))
theorem snew_any(w:World):Calls prog 60 #[] w fun r w'=>r=.returned (.pointer (some ⟨w.heap.size,0,none⟩))/\w'=w.alloc (.cells #[.int .u64 0,.slice none 0 0] 188):=by
 go_enter func60,ntmps60
 go_wp2
 go_ret;exact⟨rfl,rfl⟩
def SnapIs(w:World)(v n:Nat)(ls:List (List Ent))(r:Ending)(w':World):Prop:=∃a cap,r=.returned (.agg #[.int .u64 v,.slice a n cap])/\Bls w' w.heap.size a n cap ls/\Below w.heap.size w w'
theorem snap_any(B v n:Nat)(ls:List (List Ent))(w:World)(h:Shr w B v ls)(hn:ls.length=n)(hl:n<=100000)(hd:∀d∈ls,d.length<=1000000) :
  Calls prog 125 #[.pointer (some ⟨B,0,none⟩)] w (SnapIs w v n ls):=by
 obtain⟨a,n',cap,hB,hr⟩:=h;obtain⟨hn2,hc1,hc2⟩:=hr.len;obtain rfl:n'=n:=by omega
 obtain⟨S,hS⟩:∃S,w.heap.size=S:=⟨_,rfl⟩;obtain⟨u,hu⟩:∃u,w.alloc (.cells #[.int .u64 0,.slice none 0 0] 219)=u:=⟨_,rfl⟩;have bu:Below w.heap.size w u:=by rw[<-hu];exact(Below.refl _ _).alloc (le_refl _) _
 have HU:Hid _:=hu;have us:u.heap.size=S+1:=by rw[<-hu,<-hS];simp
 have hBs:B<S:=by rw[<-hS];exact lt_of_block hB
 have hBu:=(bu.block B (lt_of_block hB)).trans hB;have uS:u.heap[S]?=some (.cells #[.int .u64 0,.slice none 0 0] 219 (0,0)):=by rw[<-hu,<-hS];exact heap_alloc_new w _
 have cp:∀W,Below u.heap.size u W->Calls prog 181 #[.slice a n' cap] W (CopiedB W n' ls):=fun W hW=>copied_any a n' cap ls W (hr.raw.below (bu.trans (hW.mono bu.size))) hn hl hd;have CP:Aside (∀W,Below u.heap.size u W->Calls prog 181 #[.slice a n' cap] W (CopiedB W n' ls)):=cp
 have KC:Aside (∀W,Below u.heap.size u W->W.cell? ⟨B,0,none⟩=some (.int .u64 v)/\W.cell? ⟨B,1,none⟩=some (.slice a n' cap)/\W.cell? ⟨S,0,none⟩=some (.int .u64 0)/\W.cell? ⟨S,1,none⟩=some (.slice none 0 0)/\W.frozen? ⟨S,0,none⟩=false/\W.frozen? ⟨S,1,none⟩=false):=fun W hW=>by
  have h1:=(hW.block B (by omega)).trans hBu;have h2:=(hW.block S (by omega)).trans uS;exact⟨shr0 h1,shr1 h1,shr0 h2,shr1 h2,shrf h2 0,shrf h2 1⟩
 have hb0:Below u.heap.size u u:=Below.refl _ _;have hb1:Below u.heap.size u u.drew:=hb0.drew;have BU:Aside (Below w.heap.size w u):=bu;have US:Aside (u.heap[S]?=some (.cells #[.int .u64 0,.slice none 0 0] 219 (0,0))):=uS;have nBS:¬B=S:=by omega
 have mx:=mixed;clear hr hB hu bu cp uS hBu;go_enter func125,ntmps125
 go_wp2_with fail
 rw[HU.out];obtain⟨j0,j1,i0,i1,f0,f1⟩:=KC.out u hb0
 go_region_held3 (fun v'=>v'.cell? ⟨B,0,none⟩=some (.int .u64 v)/\v'.cell? ⟨B,1,none⟩=some (.slice a n' cap)) (first|exact⟨(KC.out _ hb0).1,(KC.out _ hb0).2.1⟩|exact⟨(KC.out _ hb1).1,(KC.out _ hb1).2.1⟩|exact⟨(KC.out _ hb2).1,(KC.out _ hb2).2.1⟩|exact⟨(two_set_other nBS _ _ _).trans (KC.out _ hb2).1,(two_set_other nBS _ _ _).trans (KC.out _ hb2).2.1⟩)
  ((go_at_call 181;(with_reducible refine Calls.mono (CP.out _ hb1) ?_);rintro r w2 ⟨x,y,rfl,o2,d2⟩;have hb2:Below u.heap.size u w2:=hb1.trans (d2.mono hb1.size);obtain⟨q0,q1,q2,q3,q4,q5⟩:=KC.out _ hb2))
 have s2:w2.heap[S]?=some (.cells #[.int .u64 0,.slice none 0 0] 219 (0,0)):=(hb2.block S (by omega)).trans US.out;have s3:=shr_set1 (shr_set0 s2 (.int .u64 v)) (.slice x n' y);have g3:w2.grownBy ((w2.setCell ⟨S,0,none⟩ (.int .u64 v)).setCell ⟨S,1,none⟩ (.slice x n' y)) (some S):=grown_trans (grown_set w2 S 0 _) (grown_set _ S 1 _);have o3:=(o2.grown g3 (by show S<u.heap.size;omega)).low (b':=w.heap.size) (by show _<=u.heap.size;omega);have b3:Below w.heap.size w ((w2.setCell ⟨S,0,none⟩ (.int .u64 v)).setCell ⟨S,1,none⟩ (.slice x n' y)):=(BU.out.trans (hb2.mono BU.out.size)).trans (below_of_grown g3 (by omega) (by have:=hb2.size;omega));obtain⟨W,hW⟩:∃W,(w2.setCell ⟨S,0,none⟩ (.int .u64 v)).setCell ⟨S,1,none⟩ (.slice x n' y)=W:=⟨_,rfl⟩;rw[hW] at s3 o3 b3;have O3:Aside (Bls W w.heap.size x n' y ls):=o3;have B3:Aside (Below w.heap.size w W):=b3;have HW:Hid _:=hW;have e0:=shr0 s3;have e1:=shr1 s3;clear o3 b3 s2 s3 g3 hW q0 q1 q2 q3 q4 q5 o2 d2 hb2 hb0 hb1 i0 i1 f0 f1 j0 j1;rw[HW.out]
 go_wp2
 refine bodyPost_ret (v:=.agg #[.int .u64 v,.slice x n' y]) (by simp[results,results125,go_sem,e0,e1]) rfl ⟨x,y,rfl,O3.out,B3.out⟩
theorem lvs_ok{ls:List (List Ent)}(h:∀d∈ls,Srt d):(lvs ls).all okX=true:=by
 induction ls with
 | nil=>rfl
 | cons d r ih=>
  show(okX ((lv d:Int),d)&&(lvs r).all okX)=true;rw[Bool.and_eq_true];refine⟨?_,ih fun x hx=>h x (by simp[hx])⟩;unfold okX;rw[Bool.and_eq_true,decide_eq_true_iff,srtB_iff];exact⟨rfl,h d (by simp)⟩
theorem swap_any(B v:Nat)(ls ks:List (List Ent))(a:Option Addr)(n cap:Nat)(w:World)(h:Shr w B v ls)(hv:v<=1000000)(hx:RawB w a (lvs ks))(hs:∀d∈ks,Srt d)(hn:ks.length=n)(hl:n<=100000)(hd:∀d∈ks,d.length<=1000000) :
  Calls prog 131 #[.pointer (some ⟨B,0,none⟩),.int .u64 v,.slice a n cap] w fun r w'=>r=.returned (.bool true)/\ShrN w.heap.size w' B (v+1) ks/\w.grownBy w' (some B):=by
 have ok:=allOk_any a cap (lvs ks) w hx (by rw[lvs_len];omega) (fun x hx=>by
  obtain⟨d,hd',rfl⟩:=List.mem_map.1 hx;exact hd d hd')
 rw[lvs_len,hn,lvs_ok hs] at ok;obtain⟨a0,n0,cap0,hB,hr⟩:=h;have y0:=shr0 hB;have cp:∀W,Below w.heap.size w W->Calls prog 181 #[.slice a n cap] W (CopiedB W n ks):=fun W hW=>copied_any a n cap ks W (hx.below hW) hn hl hd;have HB:Aside (w.heap[B]?=some (.cells #[.int .u64 v,.slice a0 n0 cap0] 188 (0,0))):=hB;have CP:Aside (∀W,Below w.heap.size w W->Calls prog 181 #[.slice a n cap] W (CopiedB W n ks)):=cp;have wv:IntKind.u64.wrap ((v:Int)+1)=(v:Int)+1:=by rw[IntKind.wrap_u64,emod_eq_of_lt (by omega) (by omega)]
 clear hr hB hx hd hs hn cp;go_enter func131,ntmps131
 go_wp2_with fail
 refine ok.mono ?_;rintro r w1 ⟨rfl,b1⟩;have B1:Aside (Below w.heap.size w w1):=b1;have cc:=CP.out w1 b1;clear ok b1
 go_wp2_with fail
 refine cc.mono ?_;rintro r w2 ⟨x,y,rfl,o2,d2⟩;have b2:Below w.heap.size w w2:=B1.out.trans (d2.mono B1.out.size);have h2:=(b2.block B (lt_of_block HB.out)).trans HB.out;have k0:=shr0 h2;have k1:=shr1 h2;have f0:=shrf h2 0;have f1:=shrf h2 1;have h3:=shr_set1 h2 (.slice x n y);have k30:=shr0 h3;have f30:=shrf h3 0;have h4:=shr_set0 h3 (.int .u64 ((v:Int)+1));have g2:w2.grownBy ((w2.setCell ⟨B,1,none⟩ (.slice x n y)).setCell ⟨B,0,none⟩ (.int .u64 ((v:Int)+1))) (some B):=grown_trans (grown_set w2 B 1 _) (grown_set _ B 0 _);have BS:B<w1.heap.size:=Nat.lt_of_lt_of_le (lt_of_block HB.out) B1.out.size
 have FIN:Aside (ShrN w.heap.size ((w2.setCell ⟨B,1,none⟩ (.slice x n y)).setCell ⟨B,0,none⟩ (.int .u64 ((v:Int)+1))) B (v+1) ks/\w.grownBy ((w2.setCell ⟨B,1,none⟩ (.slice x n y)).setCell ⟨B,0,none⟩ (.int .u64 ((v:Int)+1))) (some B)):=
  ⟨⟨x,⟨n,y,h4,(o2.grown g2 BS).low (by omega)⟩,fun z hz=>le_trans B1.out.size (o2.new z hz)⟩,grown_trans (grown_of_below b2 _) g2⟩
 clear h2 h3 h4 g2 o2 d2 b2 cc
 go_wp2
 go_ret;exact⟨rfl,FIN.out.1,FIN.out.2⟩
theorem Shr.open{w:World}{B v:Nat}{ls:List (List Ent)}(h:Shr w B v ls):∃(a:Option Addr)(cap:Nat),w.cell? ⟨B,0,none⟩=some (.int .u64 v)/\w.cell? ⟨B,1,none⟩=some (.slice a ls.length cap)/\ls.length<=cap/\cap<=maxLen/\B<w.heap.size/\IsBs w a ls:=by
 obtain⟨a,n,cap,hB,hr⟩:=h;obtain⟨h1,h2,h3⟩:=hr.len;subst h1;exact⟨a,cap,shr0 hB,shr1 hB,h2,h3,lt_of_block hB,hr.isBs⟩
theorem slen_any(B v:Nat)(ls:List (List Ent))(w:World)(h:Shr w B v ls)(hsum:ls.flatten.length<=100000) :
  Calls prog 124 #[.pointer (some ⟨B,0,none⟩)] w fun r w'=>r=.returned (.int .i64 ls.flatten.length)/\Below w.heap.size w w':=by
 obtain⟨a,cap,_,cB,hc1,hc2,hB,IB⟩:=h.open;unfold maxLen at hc2;have H:Aside (IsBs w a ls):=IB;obtain⟨T,hT⟩:∃T,ls.flatten.length=T:=⟨_,rfl⟩;have HT:Hid _:=hT;rw[hT] at hsum⊢;have hl:ls.length<=9223372036854775807:=by omega
 clear IB h hT;go_enter func124,ntmps124
 go_wp2
 go_loopg [3,11] ls.length (fun kx s3 s11 wr=>∃(k n:Nat),s11=.int .i64 k/\s3=.int .i64 n/\Hid ((ls.take k).flatten.length=n)/\n<=100000/\k<=ls.length/\ls.length-k<=kx/\Aside (Below w.heap.size w wr))
 case atStart=>exact⟨0,0,rfl,rfl,rfl,by omega,by omega,by omega,Below.refl _ _⟩
 case round=>
  obtain⟨k,z,rfl,rfl,HN,hz1,hk,hkx,D⟩:=hrel;by_cases hlt:k<ls.length
  ·have hz:(k:Int)<(ls.length:Int):=by omega
   obtain⟨b,off,p,q,m,rfl,hb,c0,c1,L⟩:=(H.out.below D.out).elem k ls[k] (List.getElem?_eq_getElem hlt);have e1:=flat_take hlt;have e2:=flat_take_le ls (k+1);obtain⟨d,hdk⟩:∃d,ls[k]=d:=⟨_,rfl⟩;rw[hdk] at e1 c1;obtain⟨n1,hn1⟩:∃n,d.length=n:=⟨_,rfl⟩;rw[hn1] at c1;have e3:(ls.take (k+1)).flatten.length=z+n1:=by rw[e1,List.length_append,HN.out,hn1]
   have hz2:z+n1<=100000:=by have:=HT.out;omega
   have HN2:Hid _:=e3;have D2:Aside (Below w.heap.size w (wr.alloc (.cells #[.int .i64 m,.slice p n1 q] 223))):=D.out.trans (((Below.refl _ _).alloc (le_refl _) _).mono D.out.size);clear e1 e2 e3 hdk L hn1
   go_wp2
   go_roundg (ls.length-(k+1))
   case measure=>omega
   case rel=>exact⟨k+1,z+n1,by go_num,by go_num,HN2,hz2,by omega,le_refl _,D2⟩
  ·have hz:¬(k:Int)<(ls.length:Int):=by omega
   have e:(ls.take k).flatten=ls.flatten:=by rw[List.take_of_length_le (by omega)]
   rw[e] at HN
   go_wp2
   go_ret;have e2:T=z:=by rw[<-HT.out,HN.out]
   exact⟨by rw[e2];rfl,D.out⟩
theorem sfirst_any(B v:Nat)(ls:List (List Ent))(n:Int)(K:Nat)(w:World)(h:Shr w B v ls)(hsum:ls.flatten.length<=100000)(hK:wth n ls.flatten.length=K) :
  Calls prog 123 #[.pointer (some ⟨B,0,none⟩),.int .i64 n] w (PivO w K ((sortE ls.flatten).take K)):=by
 obtain⟨a,cap,_,cB,hc1,hc2,hB,IB⟩:=h.open;have pv:=pivotO_any a cap ls n w IB (by omega);rw[hK] at pv;clear IB h hK;go_enter func123,ntmps123
 go_wp2_with fail
 refine pv.mono ?_;rintro r w1 ⟨x,y,rfl,o1,b1⟩;have O1:Aside (OwnE w1 w.heap.size (.slice x K y) ((sortE ls.flatten).take K)):=o1;have B1:Aside (Below w.heap.size w w1):=b1;clear pv o1 b1
 go_wp2
 go_ret;exact⟨x,y,rfl,O1.out,B1.out⟩
theorem sall_any(B v:Nat)(ls:List (List Ent))(w:World)(h:Shr w B v ls)(hsum:ls.flatten.length<=100000) :
  Calls prog 87 #[.pointer (some ⟨B,0,none⟩)] w (PivO w ls.flatten.length (sortE ls.flatten)):=by
 have ln:=slen_any B v ls w h hsum;obtain⟨T,hT⟩:∃T,ls.flatten.length=T:=⟨_,rfl⟩
 have fi:∀W,Below w.heap.size w W->Calls prog 123 #[.pointer (some ⟨B,0,none⟩),.int .i64 T] W (PivO W T (sortE ls.flatten)):=fun W hW=>by
  have:=sfirst_any B v ls T T W (h.below hW) hsum (by unfold wth;omega);rw[List.take_of_length_le (by rw[sortE_len];omega)] at this;exact this
 rw[hT] at ln⊢;clear h hT;go_enter func87,ntmps87
 go_wp2_with fail
 refine ln.mono ?_;rintro r w1 ⟨rfl,b1⟩;have f1:=fi w1 b1;have B1:Aside (Below w.heap.size w w1):=b1;clear ln b1 fi
 go_wp2_with fail
 refine f1.mono ?_;rintro r w2 ⟨x,y,rfl,o2,b2⟩;have O2:Aside (OwnE w2 w.heap.size (.slice x T y) (sortE ls.flatten)):=o2.low B1.out.size;have B2:Aside (Below w.heap.size w w2):=B1.out.trans (b2.mono B1.out.size);clear f1 o2 b2
 go_wp2
 go_ret;exact⟨x,y,rfl,O2.out,B2.out⟩
def drawN(k:Int)(L:Nat):Nat:=min (min k.toNat L+1) L
def CandIs(w:World)(x:Ent)(ok:Bool)(r:Ending)(w':World):Prop:=r=.returned (.tuple #[.agg #[.int .u64 x.1,.int .i64 x.2],.bool ok])/\Below w.heap.size w w'
theorem ent_set{w:World}{S:Nat}{x y:Value}{T:TypeId}(h:w.heap[S]?=some (.cells #[x,y] T (0,0)))(x' y':Value):((w.setCell ⟨S,0,none⟩ x').setCell ⟨S,1,none⟩ y').heap[S]?=some (.cells #[x',y'] T (0,0)):=shr_set1 (shr_set0 h x') y'
theorem cand_any(B v:Nat)(ls:List (List Ent))(k:Int)(dr:Nat)(w:World)(h:Shr w B v ls)(hsum:ls.flatten.length<=100000)(hdr:dr<18446744073709551616)(hp:0<ls.flatten.length)(x:Ent)(hx:(sortE ls.flatten)[dr%drawN k ls.flatten.length]?=some x) :
  Calls prog 172 #[.pointer (some ⟨B,0,none⟩),.int .i64 k,.int .u64 dr] w (CandIs w x true):=by
 obtain⟨S,hS⟩:∃S,w.heap.size=S:=⟨_,rfl⟩;obtain⟨u,hu⟩:∃u,w.alloc (.cells #[.int .u64 0,.int .i64 0] 35)=u:=⟨_,rfl⟩;have HU:Hid _:=hu;have bu:Below w.heap.size w u:=by rw[<-hu];exact(Below.refl _ _).alloc (le_refl _) _
 have us:u.heap.size=S+1:=by rw[<-hu,<-hS];simp
 have uS:u.heap[S]?=some (.cells #[.int .u64 0,.int .i64 0] 35 (0,0)):=by rw[<-hu,<-hS];exact heap_alloc_new w _
 have ln:=slen_any B v ls u (h.below bu) hsum;have FI:Aside (∀(n:Int)(K:Nat)(W:World),Below u.heap.size u W->wth n ls.flatten.length=K->Calls prog 123 #[.pointer (some ⟨B,0,none⟩),.int .i64 n] W (PivO W K ((sortE ls.flatten).take K))):=fun n K W hW hK=>sfirst_any B v ls n K W (h.below (bu.trans (hW.mono bu.size))) hsum hK;have sl:=sortE_len ls.flatten;obtain⟨s,hs⟩:∃s,sortE ls.flatten=s:=⟨_,rfl⟩;obtain⟨T,hT⟩:∃T,ls.flatten.length=T:=⟨_,rfl⟩;rw[hs,hT] at FI hx;rw[hs,hT] at sl;rw[hT] at ln hsum hp;obtain⟨J,hJ⟩:∃J,drawN k T=J:=⟨_,rfl⟩;have hJ2:wth (min (max k 0) (T:Int)+1) T=J:=by rw[<-hJ];unfold drawN wth;omega
 have fi:∀W,Below u.heap.size u W->Calls prog 123 #[.pointer (some ⟨B,0,none⟩),.int .i64 (min (max k 0) (T:Int)+1)] W (PivO W J (s.take J)):=fun W hW=>FI.out (min (max k 0) (T:Int)+1) J W hW hJ2;have j0:0<J:=by rw[<-hJ];unfold drawN;omega
 have jT:J<=T:=by rw[<-hJ];unfold drawN;omega
 rw[hJ] at hx;have dJ:dr%J<J:=Nat.mod_lt _ j0;obtain⟨R,hR⟩:∃R,dr%J=R:=⟨_,rfl⟩;rw[hR] at hx dJ;have hx2:(s.take J)[R]?=some x:=by rw[List.getElem?_take,if_pos dJ];exact hx
 have w1:IntKind.u64.wrap (J:Int)=(J:Int):=by rw[IntKind.wrap_u64,emod_eq_of_lt (by omega) (by omega)]
 have w2:Int.emod (dr:Int) (J:Int)=(R:Int):=by rw[<-hR];rfl
 have w3:Int.tmod (dr:Int) (J:Int)=(R:Int):=by rw[<-hR];rfl
 have w4:(dr:Int)%(J:Int)=(R:Int):=by rw[<-hR];rfl
 have w5:IntKind.u64.wrap (R:Int)=(R:Int):=by rw[IntKind.wrap_u64,emod_eq_of_lt (by omega) (by omega)]
 have w6:¬(J:Int)=0:=by omega
 have w7:((J:Int)==0)=false:=by simp;omega
 have w8:(R:Int)<(J:Int):=by omega
 have w9:IntKind.i64.wrap (min (max k 0) (T:Int)+1)=(min (max k 0) (T:Int)+1):=by rw[IntKind.wrap_i64];omega
 have US:Aside (u.heap[S]?=some (.cells #[.int .u64 0,.int .i64 0] 35 (0,0))):=uS;have BU:Aside (Below w.heap.size w u):=bu;have FI2:Aside (∀W,Below u.heap.size u W->Calls prog 123 #[.pointer (some ⟨B,0,none⟩),.int .i64 (min (max k 0) (T:Int)+1)] W (PivO W J (s.take J))):=fi;have HX:Hid _:=hx2;clear fi FI hx hx2 h hu bu uS hs hT hR hJ hJ2 sl;go_enter func172,ntmps172
 go_wp2_with fail
 rw[HU.out];refine ln.mono ?_;rintro r w1_ ⟨rfl,b1⟩;have f1:=FI2.out w1_ b1;have B1:Aside (Below u.heap.size u w1_):=b1;clear ln b1
 go_wp2_with fail
 with_reducible refine Calls.mono f1 ?_
 rintro r w2_ ⟨fa,fc,rfl,o2,b2⟩;have b2u:Below u.heap.size u w2_:=B1.out.trans (b2.mono B1.out.size);obtain⟨b,off,rfl,hb,c0,c1⟩:=o2.is.elem R x HX.out;have s2:w2_.heap[S]?=some (.cells #[.int .u64 0,.int .i64 0] 35 (0,0)):=(b2u.block S (by omega)).trans US.out;have e0:=shr0 s2;have e1:=shr1 s2;have f0:=shrf s2 0;have f1':=shrf s2 1;have s3:=ent_set s2 (.int .u64 x.1) (.int .i64 x.2);have g3:w2_.grownBy ((w2_.setCell ⟨S,0,none⟩ (.int .u64 x.1)).setCell ⟨S,1,none⟩ (.int .i64 x.2)) (some S):=grown_trans (grown_set w2_ S 0 _) (grown_set _ S 1 _);have b3:Below w.heap.size w ((w2_.setCell ⟨S,0,none⟩ (.int .u64 x.1)).setCell ⟨S,1,none⟩ (.int .i64 x.2)):=(BU.out.trans (b2u.mono BU.out.size)).trans (below_of_grown g3 (by omega) (by have:=b2u.size;omega));have y0:=shr0 s3;have y1:=shr1 s3;have B3:Aside (Below w.heap.size w ((w2_.setCell ⟨S,0,none⟩ (.int .u64 x.1)).setCell ⟨S,1,none⟩ (.int .i64 x.2))):=b3;clear o2 b2 b2u f1 s2 s3 g3 b3 B1 FI2 HX US BU
 go_wp2
 refine bodyPost_ret (v:=.tuple #[.agg #[.int .u64 x.1,.int .i64 x.2],.bool true]) (by simp[results,results172,go_sem,y0,y1]) rfl ⟨rfl,B3.out⟩
theorem cand_none(B v:Nat)(ls:List (List Ent))(k:Int)(dr:Nat)(w:World)(h:Shr w B v ls)(hp:ls.flatten.length=0) :
  Calls prog 172 #[.pointer (some ⟨B,0,none⟩),.int .i64 k,.int .u64 dr] w (CandIs w (0,0) false):=by
 obtain⟨S,hS⟩:∃S,w.heap.size=S:=⟨_,rfl⟩;obtain⟨u,hu⟩:∃u,w.alloc (.cells #[.int .u64 0,.int .i64 0] 35)=u:=⟨_,rfl⟩;have HU:Hid _:=hu;have bu:Below w.heap.size w u:=by rw[<-hu];exact(Below.refl _ _).alloc (le_refl _) _
 have us:u.heap.size=S+1:=by rw[<-hu,<-hS];simp
 have uS:u.heap[S]?=some (.cells #[.int .u64 0,.int .i64 0] 35 (0,0)):=by rw[<-hu,<-hS];exact heap_alloc_new w _
 have ln:=slen_any B v ls u (h.below bu) (by omega);obtain⟨T,hT⟩:∃T,ls.flatten.length=T:=⟨_,rfl⟩;rw[hT] at ln hp;have fi:∀W,Below u.heap.size u W->Calls prog 123 #[.pointer (some ⟨B,0,none⟩),.int .i64 (min (max k 0) (T:Int)+1)] W (PivO W 0 ((sortE ls.flatten).take 0)):=fun W hW=>sfirst_any B v ls (min (max k 0) (T:Int)+1) 0 W (h.below (bu.trans (hW.mono bu.size))) (by omega) (by rw[hT];unfold wth;omega);have w9:IntKind.i64.wrap (min (max k 0) (T:Int)+1)=(min (max k 0) (T:Int)+1):=by rw[IntKind.wrap_i64];omega
 have US:Aside (u.heap[S]?=some (.cells #[.int .u64 0,.int .i64 0] 35 (0,0))):=uS;have BU:Aside (Below w.heap.size w u):=bu;have FI2:Aside (∀W,Below u.heap.size u W->Calls prog 123 #[.pointer (some ⟨B,0,none⟩),.int .i64 (min (max k 0) (T:Int)+1)] W (PivO W 0 ((sortE ls.flatten).take 0))):=fi;have HP:Hid _:=hp;have hT1:(T:Int)<=5:=by omega
 have hT0:(0:Int)<=(T:Int):=by omega
 clear fi h hu bu uS hp hT;go_enter func172,ntmps172
 go_wp2_with fail
 rw[HU.out];refine ln.mono ?_;rintro r w1_ ⟨rfl,b1⟩;have f1:=FI2.out w1_ b1;have B1:Aside (Below u.heap.size u w1_):=b1;clear ln b1
 go_wp2_with fail
 with_reducible refine Calls.mono f1 ?_
 rintro r w2_ ⟨fa,fc,rfl,o2,b2⟩;have b2u:Below u.heap.size u w2_:=B1.out.trans (b2.mono B1.out.size);have s2:w2_.heap[S]?=some (.cells #[.int .u64 0,.int .i64 0] 35 (0,0)):=(b2u.block S (by omega)).trans US.out;have e0:=shr0 s2;have e1:=shr1 s2;have f0:=shrf s2 0;have f1':=shrf s2 1;have s3:=ent_set s2 (.int .u64 0) (.int .i64 0);have g3:w2_.grownBy ((w2_.setCell ⟨S,0,none⟩ (.int .u64 0)).setCell ⟨S,1,none⟩ (.int .i64 0)) (some S):=grown_trans (grown_set w2_ S 0 _) (grown_set _ S 1 _);have b3:Below w.heap.size w ((w2_.setCell ⟨S,0,none⟩ (.int .u64 0)).setCell ⟨S,1,none⟩ (.int .i64 0)):=(BU.out.trans (b2u.mono BU.out.size)).trans (below_of_grown g3 (by omega) (by have:=b2u.size;omega));have y0:=shr0 s3;have y1:=shr1 s3;have B3:Aside (Below w.heap.size w ((w2_.setCell ⟨S,0,none⟩ (.int .u64 0)).setCell ⟨S,1,none⟩ (.int .i64 0))):=b3;clear o2 b2 b2u f1 s2 s3 g3 b3 B1 FI2 US BU
 go_wp2
 refine bodyPost_ret (v:=.tuple #[.agg #[.int .u64 0,.int .i64 0],.bool false]) (by simp[results,results172,go_sem,y0,y1]) rfl ⟨rfl,B3.out⟩
end Go.Proofs.YtjpbngiddjkjiaaGreatDoor.Qu
