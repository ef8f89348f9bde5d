import Derived.Test.YthpgfmmpjoodkaaGreatDoorUQ2
import Derived.Deep.DeepCutAuto
import Derived.Carry
open Nat(le_refl)
namespace Go.Proofs.YthpgfmmpjoodkaaGreatDoor.Qu
set_option maxHeartbeats 8000000
set_option maxRecDepth 100000
set_option linter.unusedVariables false
section
open Go.RowKit Go.Lib Go.Sort
def headO:List Ent->Ent×Bool
 | []=>((0,0),false)
 | x::_=>(x,true)
def furtherI(s:QSt)(T t:Nat):Option Nat:=(List.range T).find? (fun i=>decide (0<(s.ls ((t+1+i)%T)).flatten.length))
def furtherL(s:QSt)(T t:Nat):List Ent:=match furtherI s T t with
 | some i=>sortE (s.ls ((t+1+i)%T)).flatten
 | none=>sortE (slAll s.g T)
theorem sortE_nil:sortE []=[]:=sortE_id Srt.nil
theorem headO_min{F:Bool}{x:Ent}{d:List Ent}(h:(F=false/\d=[]/\x=(0,0))\/(F=true/\∃t,sortE d=x::t)):(x,F)=headO (sortE d):=by
 rcases h with⟨rfl,rfl,rfl⟩|⟨rfl,t,e⟩
 ·rw[sortE_nil];rfl
 ·rw[e];rfl
theorem lminO(w:World)(base:Nat)(A:QAd)(T K N:Nat)(s:QSt)(t:Nat)(h:Que w base A T K s)(ok:QOk K T N s)(hK:K<=16)(ht:t<T) :
  Calls Tryz.prog 159 #[ptr (A.L t)] w (EntIs w (headO (sortE (s.ls t).flatten)).1 (headO (sortE (s.ls t).flatten)).2):=by
 obtain⟨ra,sa,h⟩:=h;refine(lmin_any (A.L t) base (s.ls t) w (h.own t ht).t (ok.fall t ht) (by have:=ok.count ht;omega)).mono ?_;rintro r w' ⟨F,x,rfl,hx,b⟩;rw[<-headO_min hx];exact⟨rfl,b⟩
theorem least_one(d:List Ent):(unl (leastL [d] 1),unb (leastL [d] 1))=headO d:=by
 cases d<;>rfl
theorem entf{w:World}{B:Nat}{cs:Array Value}{U:TypeId}(h:w.heap[B]?=some (.cells cs U (0,0)))(o:Nat):w.frozen? ⟨B,o,none⟩=false:=by simp[World.frozen?,h]
theorem entSet2{w:World}{B:Nat}{x y:Value}{U:TypeId}(h:w.heap[B]?=some (.cells #[x,y] U (0,0)))(a b:Value):((w.setCell ⟨B,0,none⟩ a).setCell ⟨B,1,none⟩ b).heap[B]?=some (.cells #[a,b] U (0,0)):=by
 have h1:(w.setCell ⟨B,0,none⟩ a).heap[B]?=some (.cells #[a,y] U (0,0)):=by simp[World.setCell,Array.getElem?_modify,h]
 generalize w.setCell ⟨B,0,none⟩ a=v at h1⊢;simp[World.setCell,Array.getElem?_modify,h1]
theorem isLL_one{w:World}{g n cap:Nat}{a:Option Addr}{d:List Ent}(hg:w.heap[g]?=some (.cells #[.slice a n cap] 33 (0,0)))(hn:d.length=n)(hd:IsL w a cap d):IsLL w (some ⟨g,0,none⟩) [d]:=by
 refine⟨by simp,fun i x hx=>?_⟩
 cases i with
 | zero=>
  simp at hx;subst hx;exact⟨g,0,a,cap,rfl,lt_of_block hg,by rw[hn,cell_of_row _ _ _ _ _ _ hg];rfl,hd⟩
 | succ i=>simp at hx
theorem further_any(w:World)(base:Nat)(A:QAd)(T K N:Nat)(s:QSt)(t:Nat)(h:Que w base A T K s)(ok:QOk K T N s)(hN:N<=1000)(hK:K<=16)(ht:t<T)(h8:T<=8) :
  Calls Tryz.prog 161 #[ptr A.B,.int .i64 t] w (EntIs w (headO (furtherL s T t)).1 (headO (furtherL s T t)).2):=by
 obtain⟨S,hS⟩:∃S,w.heap.size=S:=⟨_,rfl⟩;obtain⟨u,hu⟩:∃u,w.alloc (.cells #[.int .u64 0,.int .i64 0] 36)=u:=⟨_,rfl⟩;have bu:Below w.heap.size w u:=by rw[<-hu];exact(Below.refl _ _).alloc (le_refl _) _
 have us:u.heap[S]?=some (.cells #[.int .u64 0,.int .i64 0] 36 (0,0)):=by rw[<-hu,<-hS];exact heap_alloc_new w _
 have H:Aside (Que u base A T K s):=h.below bu;have OK:Aside (QOk K T N s):=ok
 have KC:Aside (∀W,Below u.heap.size u W->W.cell? ⟨A.B,1,none⟩=some (ptr A.SB)/\W.cell? ⟨A.B,2,none⟩=some (.slice (some ⟨A.OR,0,none⟩) T A.oc)/\A.B<W.heap.size/\A.OR<W.heap.size/\∀i,i<T->W.cell? ⟨A.OR,i,none⟩=some (ptr (A.L i))):=fun W hW=>by
  obtain⟨ra,sa,q⟩:=H.out.below hW;exact⟨q.fix.cells.2.1,q.fix.cells.2.2.1,q.fix.blt,q.fix.olt,fun i hi=>q.fix.own hi⟩
 have BU:Aside (Below w.heap.size w u):=bu;have US:Aside (u.heap[S]?=some (.cells #[.int .u64 0,.int .i64 0] 36 (0,0))):=us;have HU:Hid _:=hu;have HS:Hid _:=hS
 obtain⟨c2,c3⟩:w.cell? ⟨A.B,2,none⟩=some (.slice (some ⟨A.OR,0,none⟩) T A.oc)/\A.B<w.heap.size:=by
  obtain⟨ra,sa,q⟩:=h;exact⟨q.fix.cells.2.2.1,q.fix.blt⟩
 have c3':A.B<S:=by omega
 have c3n:¬A.B=S:=by omega
 clear hu bu us h ok;go_enter Tryz.func161,Tryz.ntmps161
 go_wp2_with fail
 rw[HU.out]
 go_loopg [18] T (fun kx s18 wr=>∃(k:Nat),s18=.int .i64 k/\k<=T/\T-k<=kx/\Aside (Below u.heap.size u wr)/\Aside (∀i,i<k->decide (0<(s.ls ((t+1+i)%T)).flatten.length)=false))
 case atStart=>exact⟨0,rfl,by omega,by omega,Below.refl _ _,(fun i hi=>absurd hi (by omega):∀i,i<0->decide (0<(s.ls ((t+1+i)%T)).flatten.length)=false)⟩
 case round=>
  clear c2 c3 c3' c3n;obtain⟨k,rfl,hk,hkx,D,NO⟩:=hrel;obtain⟨c1,c2,c3,c4,c5⟩:=KC.out wr D.out;by_cases hlt:k<T
  ·have hz:(k:Int)<(T:Int):=by omega
   obtain⟨p,hp⟩:∃p,(t+1+k)%T=p:=⟨_,rfl⟩;have pT:p<T:=by rw[<-hp];exact Nat.mod_lt _ (by omega)
   have c6:=c5 p pT;have hp2:((t:Int)+1+(k:Int)).tmod (T:Int)=(p:Int):=by rw[show(t:Int)+1+(k:Int)=((t+1+k:Nat):Int) by omega,Int.tmod_eq_emod_of_nonneg (by omega),<-hp,Int.natCast_emod]
   have HP:Hid _:=hp;clear c5 hp
   go_wp2_with fail
   go_quiet (fail)
   obtain⟨x1,hx1⟩:∃x,(headO (sortE (s.ls p).flatten)).1.1=x:=⟨_,rfl⟩;obtain⟨x2,hx2⟩:∃x,(headO (sortE (s.ls p).flatten)).1.2=x:=⟨_,rfl⟩;obtain⟨f,hf⟩:∃x,(headO (sortE (s.ls p).flatten)).2=x:=⟨_,rfl⟩;have DD:Below u.heap.size u (wr.drewN nq):=⟨D.out.os,D.out.tape,D.out.output,D.out.size,D.out.block⟩;have mn:=lminO (wr.drewN nq) base A T K N s p (H.out.below DD) OK.out hK pT;unfold EntIs at mn;rw[hx1,hx2,hf] at mn;have X1:Hid _:=hx1;have X2:Hid _:=hx2;have XF:Hid _:=hf;have DR:Aside (Below u.heap.size u (wr.drewN nq)):=DD;clear hx1 hx2 hf DD hp2 c6
   go_wp2_with fail
   refine mn.mono ?_;rintro r w2 ⟨rfl,d2⟩;have D2:Aside (Below u.heap.size u w2):=DR.out.trans (d2.mono DR.out.size);have s2:=(D2.out.block S (lt_of_block US.out)).trans US.out;have W2:Aside (Below w.heap.size w w2):=BU.out.trans (D2.out.mono BU.out.size);have Sl:S<w2.heap.size:=lt_of_block s2;have nS:¬S=w2.heap.size:=by omega
   cases f with
   | true=>
    have y0:w2.cell? ⟨S,0,none⟩=some (.int .u64 0):=(ent0 s2).1;have y1:w2.cell? ⟨S,1,none⟩=some (.int .i64 0):=(ent0 s2).2;have z0:=entf s2 0;have z1:=entf s2 1;have s3:=entSet2 s2 (.int .u64 x1) (.int .i64 x2);have FB:Aside (Below w.heap.size w ((w2.setCell ⟨S,0,none⟩ (.int .u64 x1)).setCell ⟨S,1,none⟩ (.int .i64 x2))):=below_box W2.out (by have:=HS.out;omega) _ _;have v0':=(cell_old ((w2.setCell ⟨S,0,none⟩ (.int .u64 x1)).setCell ⟨S,1,none⟩ (.int .i64 x2)) (.cells #[.int .u64 x1,.int .i64 x2] 36) 0 (b:=S) (by simp[World.setCell];omega)).trans (ent0 s3).1;have v1':=(cell_old ((w2.setCell ⟨S,0,none⟩ (.int .u64 x1)).setCell ⟨S,1,none⟩ (.int .i64 x2)) (.cells #[.int .u64 x1,.int .i64 x2] 36) 1 (b:=S) (by simp[World.setCell];omega)).trans (ent0 s3).2
    have FE:Aside ((headO (furtherL s T t)).1.1=x1/\(headO (furtherL s T t)).1.2=x2/\(headO (furtherL s T t)).2=true):=by
     have hit:decide (0<(s.ls ((t+1+k)%T)).flatten.length)=true:=by
      rw[HP.out];have xf:=XF.out;have sl:=sortE_len (s.ls p).flatten
      cases e:sortE (s.ls p).flatten with
      | nil=>rw[e] at xf;cases xf
      | cons y d=>rw[e] at sl;simp only[List.length_cons] at sl;exact decide_eq_true (by omega)
     have e:furtherI s T t=some k:=find_range hlt hit NO.out;have e2:furtherL s T t=sortE (s.ls p).flatten:=by unfold furtherL;rw[e];show sortE (s.ls ((t+1+k)%T)).flatten=_;rw[HP.out]
     rw[e2];exact⟨X1.out,X2.out,XF.out⟩
    clear s2 s3 d2 mn c1 c2 c3 c4
    go_wp2_with fail
    refine bodyPost_ret (v:=.tuple #[.agg #[.int .u64 x1,.int .i64 x2],.bool true]) (by simp[results,Tryz.results161,go_sem,v0',v1']) rfl ⟨by rw[FE.out.1,FE.out.2.1,FE.out.2.2],FB.out.alloc FB.out.size _⟩
   | false=>
    have NO2:Aside (∀i,i<k+1->decide (0<(s.ls ((t+1+i)%T)).flatten.length)=false):=fun i hi=>by
     by_cases e:i=k
     ·subst e;rw[HP.out];have xf:=XF.out;have sl:=sortE_len (s.ls p).flatten
      cases e:sortE (s.ls p).flatten with
      | nil=>rw[e] at sl;simp only[List.length_nil] at sl;exact decide_eq_false (by omega)
      | cons y d=>rw[e] at xf;cases xf
     ·exact NO.out i (by omega)
    have D3:Aside (Below u.heap.size u (w2.alloc (.cells #[.int .u64 x1,.int .i64 x2] 36))):=D2.out.alloc D2.out.size _;clear s2 d2 mn c1 c2 c3 c4
    go_wp2
    go_roundg (T-(k+1))
    case measure=>omega
    case rel=>exact⟨k+1,by go_num,by omega,le_refl _,D3,NO2⟩
  ·have hz:¬(k:Int)<(T:Int):=by omega
   have e2:furtherL s T t=sortE (slAll s.g T):=by
    have e:furtherI s T t=none:=find_range_none fun i hi=>NO.out i (by omega);unfold furtherL;rw[e]
   obtain⟨m,hm⟩:∃m,(slAll s.g T).length=m:=⟨_,rfl⟩;have m8:=slAll_len s.g T
   have al:Calls Tryz.prog 103 #[ptr A.SB] wr (SlAllIs wr m (slAll s.g T)):=by
    obtain⟨ra,sa,q⟩:=H.out.below D.out;exact slAll_any wr A.SB A.SR T s.g m q.slt hm
   obtain⟨d,hd⟩:∃d,sortE (slAll s.g T)=d:=⟨_,rfl⟩;have hdl:d.length=m:=by rw[<-hd,sortE_len];exact hm
   have HM:Hid _:=hm;have HD:Hid _:=hd;have HDL:Hid _:=hdl;have E2:Hid _:=e2;obtain⟨x1,hx1⟩:∃x,(headO d).1.1=x:=⟨_,rfl⟩;obtain⟨x2,hx2⟩:∃x,(headO d).1.2=x:=⟨_,rfl⟩;obtain⟨f,hf⟩:∃x,(headO d).2=x:=⟨_,rfl⟩;have lo:=least_one d;have lo1:unl (leastL [d] 1)=(headO d).1:=congrArg Prod.fst lo;have lo2:unb (leastL [d] 1)=(headO d).2:=congrArg Prod.snd lo;obtain⟨j,hj⟩:∃j,unj (leastL [d] 1)=j:=⟨_,rfl⟩;have LO:Hid (unl (leastL [d] 1)=(x1,x2)/\unb (leastL [d] 1)=f/\unj (leastL [d] 1)=j):=⟨by rw[lo1,<-hx1,<-hx2],by rw[lo2];exact hf,hj⟩;have X1:Hid _:=hx1;have X2:Hid _:=hx2;have XF:Hid _:=hf;rw[hm] at m8;clear e2 hm hd hdl hx1 hx2 hf lo lo1 lo2 hj c2 c4 c5
   go_wp2_with fail
   refine al.mono ?_;rintro r w2 ⟨a,cap,rfl,o2,d2⟩;have il:IsL w2 a cap (slAll s.g T):=by rw[<-HM.out] at o2;exact o2.is
   have so:=sort_made a cap (slAll s.g T) w2 il (by have:=HM.out;omega);rw[HM.out,HD.out] at so;have D2:Aside (Below u.heap.size u w2):=D.out.trans (d2.mono D.out.size);clear o2 d2 al il
   go_wp2_with fail
   refine so.mono ?_;rintro r w3 ⟨a3,cap3,rfl,o3,d3⟩;rw[HDL.out] at o3⊢;have D3:Aside (Below u.heap.size u w3):=D2.out.trans (d3.mono D2.out.size);obtain⟨R3,hR3⟩:∃R,w3.heap.size=R:=⟨_,rfl⟩;obtain⟨u3,hu3⟩:∃u,w3.alloc (.cells #[.slice a3 m cap3] 33)=u:=⟨_,rfl⟩;have bu3:Below w3.heap.size w3 u3:=by rw[<-hu3];exact(Below.refl _ _).alloc (le_refl _) _
   have us3:u3.heap[R3]?=some (.cells #[.slice a3 m cap3] 33 (0,0)):=by rw[<-hu3,<-hR3];exact heap_alloc_new w3 _
   have il3:IsL u3 a3 cap3 d:=by rw[<-HDL.out] at o3;exact o3.is.below bu3
   have le:=least_any (some ⟨R3,0,none⟩) 1 [d] u3 (isLL_one us3 HDL.out il3);simp only[List.length_singleton] at le;have DU3:Aside (Below u.heap.size u u3):=D3.out.trans (bu3.mono D3.out.size);have HU3:Hid _:=hu3;clear o3 d3 so hu3 bu3 us3 il3
   go_wp2_with fail
   rw[HU3.out];refine le.mono ?_;rintro r w4 ⟨hr,d4⟩;simp only[List.length_singleton] at hr;rw[LO.out.1,LO.out.2.1,LO.out.2.2] at hr;subst hr;have D4:Aside (Below u.heap.size u w4):=DU3.out.trans (d4.mono DU3.out.size);have s2:=(D4.out.block S (lt_of_block US.out)).trans US.out;have W4:Aside (Below w.heap.size w w4):=BU.out.trans (D4.out.mono BU.out.size);have Sl:S<w4.heap.size:=lt_of_block s2;have nS:¬S=w4.heap.size:=by omega
   have y0:w4.cell? ⟨S,0,none⟩=some (.int .u64 0):=(ent0 s2).1;have y1:w4.cell? ⟨S,1,none⟩=some (.int .i64 0):=(ent0 s2).2;have z0:=entf s2 0;have z1:=entf s2 1;have s3:=entSet2 s2 (.int .u64 x1) (.int .i64 x2);have FB:Aside (Below w.heap.size w ((w4.setCell ⟨S,0,none⟩ (.int .u64 x1)).setCell ⟨S,1,none⟩ (.int .i64 x2))):=below_box W4.out (by have:=HS.out;omega) _ _;have v0':=(cell_old ((w4.setCell ⟨S,0,none⟩ (.int .u64 x1)).setCell ⟨S,1,none⟩ (.int .i64 x2)) (.cells #[.int .u64 x1,.int .i64 x2] 36) 0 (b:=S) (by simp[World.setCell];omega)).trans (ent0 s3).1;have v1':=(cell_old ((w4.setCell ⟨S,0,none⟩ (.int .u64 x1)).setCell ⟨S,1,none⟩ (.int .i64 x2)) (.cells #[.int .u64 x1,.int .i64 x2] 36) 1 (b:=S) (by simp[World.setCell];omega)).trans (ent0 s3).2
   have FE:Aside ((headO (furtherL s T t)).1.1=x1/\(headO (furtherL s T t)).1.2=x2/\(headO (furtherL s T t)).2=f):=by
    rw[E2.out,HD.out];exact⟨X1.out,X2.out,XF.out⟩
   clear s2 s3 d4 le c1 c3
   go_wp2_with fail
   refine bodyPost_ret (v:=.tuple #[.agg #[.int .u64 x1,.int .i64 x2],.bool f]) (by simp[results,Tryz.results161,go_sem,v0',v1']) rfl ⟨by rw[FE.out.1,FE.out.2.1,FE.out.2.2],FB.out.alloc FB.out.size _⟩
def candL(s:QSt)(K dr:Nat):List Ent:=match (sortE s.hs.flatten)[dr%drawN K s.hs.flatten.length]? with
 | some x=>if s.hs.flatten.length=0 then [] else [x]
 | none=>[]
def own1(s:QSt)(t:Nat):List Ent:=(sortE (s.ls t).flatten).take 1
def nearQ(s:QSt)(K t dr:Nat):Option (Nat×Ent):=leastL [own1 s t,candL s K dr] 2
def relaxQ(s:QSt)(T K t dr:Nat):Ent×Bool:=if unb (nearQ s K t dr) then(unl (nearQ s K t dr),true) else headO (furtherL s T t)
theorem candO(w:World)(base:Nat)(A:QAd)(T K N:Nat)(s:QSt)(dr:Nat)(h:Que w base A T K s)(ok:QOk K T N s)(hN:N<=1000)(hdr:dr<18446744073709551616) :
  Calls Tryz.prog 160 #[ptr A.HB,.int .i64 K,.int .u64 dr] w (EntIs w (headO (candL s K dr)).1 (headO (candL s K dr)).2):=by
 obtain⟨ra,sa,h⟩:=h;by_cases c:s.hs.flatten.length=0
 ·have e:candL s K dr=[]:=by
   unfold candL
   split
   ·rw[if_pos c]
   ·rfl
  rw[e];exact cand_none A.HB s.v s.hs K dr w h.shr.s c
 ·have hl:dr%drawN K s.hs.flatten.length<(sortE s.hs.flatten).length:=by
   rw[sortE_len];have h1:0<drawN K s.hs.flatten.length:=by unfold drawN;omega
   have h2:=Nat.mod_lt dr h1;have h3:drawN K s.hs.flatten.length<=s.hs.flatten.length:=by unfold drawN;omega
   omega
  have e:candL s K dr=[(sortE s.hs.flatten)[dr%drawN K s.hs.flatten.length]]:=by
   unfold candL;rw[List.getElem?_eq_getElem hl];show(if s.hs.flatten.length=0 then [] else _)=_;rw[if_neg c]
  rw[e];exact cand_any A.HB s.v s.hs K dr w h.shr.s (by have:=ok.hsum;omega) hdr (by omega) _ (List.getElem?_eq_getElem hl)
theorem slotL_head(d:List Ent):slotL ⟨(headO d).1,0,(headO d).2⟩=d.take 1:=by
 cases d<;>rfl
theorem candL_take(s:QSt)(K dr:Nat):(candL s K dr).take 1=candL s K dr:=by
 unfold candL
 split
 ·split<;>rfl
 ·rfl
theorem isLL_two{w:World}{g n1 n2 c1 c2:Nat}{a1 a2:Option Addr}{d1 d2:List Ent}(hg:w.heap[g]?=some (.cells #[.slice a1 n1 c1,.slice a2 n2 c2] 33 (0,0)))(h1:d1.length=n1)(h2:d2.length=n2)(l1:IsL w a1 c1 d1)(l2:IsL w a2 c2 d2):IsLL w (some ⟨g,0,none⟩) [d1,d2]:=by
 refine⟨by simp,fun i x hx=>?_⟩
 match i,hx with
 | 0,hx=>
  simp at hx;subst hx;exact⟨g,0,a1,c1,rfl,lt_of_block hg,by rw[h1,cell_of_row _ _ _ _ _ _ hg];rfl,l1⟩
 | 1,hx=>
  simp at hx;subst hx;exact⟨g,0,a2,c2,rfl,lt_of_block hg,by rw[h2,cell_of_row _ _ _ _ _ _ hg];rfl,l2⟩
 | i+2,hx=>simp at hx
def NearAt(S x1:Nat)(e1 e2:Int)(u wx:World):Prop:=Below u.heap.size u wx/\wx.heap[x1]?=some (.cells #[.int .u64 e1,.int .i64 e2] 36 (0,0))/\u.heap.size<=x1
theorem _root_.Go.RowKit.Below.box{b:Nat}{u w:World}(h:Below b u w){G:Nat}(hG:b<=G)(x y:Value):Below b u ((w.setCell ⟨G,0,none⟩ x).setCell ⟨G,1,none⟩ y):=(h.setCell hG _).setCell hG _
theorem _root_.Go.RowKit.Below.st{w v x:World}(h:Below w.heap.size w v)(g:Below v.heap.size v x):Below w.heap.size w x:=h.trans (g.mono h.size)
theorem _root_.Go.RowKit.Below.sta{w v x:World}{o:Obj}(h:Below w.heap.size w v)(g:Below (v.alloc o).heap.size (v.alloc o) x):Below w.heap.size w x:=(h.alloc h.size o).trans (g.mono (h.alloc h.size o).size)
theorem relaxed_in(w:World)(base:Nat)(A:QAd)(T K N:Nat)(s:QSt)(t dr:Nat)(h:Que w base A T K s)(ok:QOk K T N s)(hN:N<=1000)(hK:K<=16)(ht:t<T)(h8:T<=8)(hdr:dr<18446744073709551616) :
  Calls Tryz.prog 112 #[ptr A.B,.int .i64 t,.int .u64 dr] w (EntIs w (relaxQ s T K t dr).1 (relaxQ s T K t dr).2):=by
 obtain⟨S,hS⟩:∃S,w.heap.size=S:=⟨_,rfl⟩;obtain⟨u,hu⟩:∃u,w.alloc (.cells #[.int .u64 0,.int .i64 0] 36)=u:=⟨_,rfl⟩;have bu:Below w.heap.size w u:=by rw[<-hu];exact(Below.refl _ _).alloc (le_refl _) _
 have us:u.heap[S]?=some (.cells #[.int .u64 0,.int .i64 0] 36 (0,0)):=by rw[<-hu,<-hS];exact heap_alloc_new w _
 have H:Aside (Que u base A T K s):=h.below bu;have OK:Aside (QOk K T N s):=ok
 have KC:Aside (∀W,Below u.heap.size u W->W.cell? ⟨A.B,0,none⟩=some (.int .i64 K)/\W.cell? ⟨A.B,2,none⟩=some (.slice (some ⟨A.OR,0,none⟩) T A.oc)/\W.cell? ⟨A.B,3,none⟩=some (ptr A.HB)/\W.cell? ⟨A.OR,t,none⟩=some (ptr (A.L t))):=fun W hW=>by
  obtain⟨ra,sa,q⟩:=H.out.below hW;exact⟨q.fix.cells.1,q.fix.cells.2.2.1,q.fix.cells.2.2.2.1,q.fix.own ht⟩
 have BU:Aside (Below w.heap.size w u):=bu;have US:Aside (u.heap[S]?=some (.cells #[.int .u64 0,.int .i64 0] 36 (0,0))):=us;have HU:Hid _:=hu;have HS:Hid _:=hS
 obtain⟨c2,c3⟩:w.cell? ⟨A.B,2,none⟩=some (.slice (some ⟨A.OR,0,none⟩) T A.oc)/\A.B<w.heap.size:=by
  obtain⟨ra,sa,q⟩:=h;exact⟨q.fix.cells.2.2.1,q.fix.blt⟩
 have c3':A.B<S:=by omega
 have c3n:¬A.B=S:=by omega
 have g1:¬(t:Int)<0:=by omega
 have g2:(t:Int)<(T:Int):=by omega
 have g3:¬(T:Int)<=(t:Int):=by omega
 obtain⟨a1,ha1⟩:∃x,(headO (sortE (s.ls t).flatten)).1.1=x:=⟨_,rfl⟩;obtain⟨a2,ha2⟩:∃x,(headO (sortE (s.ls t).flatten)).1.2=x:=⟨_,rfl⟩;obtain⟨af,haf⟩:∃x,(headO (sortE (s.ls t).flatten)).2=x:=⟨_,rfl⟩;obtain⟨b1,hb1⟩:∃x,(headO (candL s K dr)).1.1=x:=⟨_,rfl⟩;obtain⟨b2,hb2⟩:∃x,(headO (candL s K dr)).1.2=x:=⟨_,rfl⟩;obtain⟨bf,hbf⟩:∃x,(headO (candL s K dr)).2=x:=⟨_,rfl⟩
 have MN:Aside (∀W,Below u.heap.size u W->Calls Tryz.prog 159 #[ptr (A.L t)] W (EntIs W (a1,a2) af)):=fun W hW=>by
  have:=lminO W base A T K N s t (H.out.below hW) OK.out hK ht;rw[haf,show(headO (sortE (s.ls t).flatten)).1=(a1,a2) from Prod.ext ha1 ha2] at this;exact this
 have CD:Aside (∀W,Below u.heap.size u W->Calls Tryz.prog 160 #[ptr A.HB,.int .i64 K,.int .u64 dr] W (EntIs W (b1,b2) bf)):=fun W hW=>by
  have:=candO W base A T K N s dr (H.out.below hW) OK.out hN hdr;rw[hbf,show(headO (candL s K dr)).1=(b1,b2) from Prod.ext hb1 hb2] at this;exact this
 obtain⟨l1,hl1⟩:∃l,own1 s t=l:=⟨_,rfl⟩;obtain⟨l2,hl2⟩:∃l,candL s K dr=l:=⟨_,rfl⟩;obtain⟨n1,hn1⟩:∃n,l1.length=n:=⟨_,rfl⟩;obtain⟨n2,hn2⟩:∃n,l2.length=n:=⟨_,rfl⟩
 have L1:Aside (∀W,Calls Tryz.prog 158 #[.agg #[.int .u64 a1,.int .i64 a2],.bool af] W fun r w'=>∃a cap,r=.returned (.slice a n1 cap)/\(∀X,Below w'.heap.size w' X->IsL X a cap l1)/\Below W.heap.size W w'):=fun W=>by
  have:=listOf_any ⟨(headO (sortE (s.ls t).flatten)).1,0,(headO (sortE (s.ls t).flatten)).2⟩ W;rw[slotL_head,show(sortE (s.ls t).flatten).take 1=l1 from hl1] at this;simp only[ha1,ha2,haf] at this;refine this.mono fun r w' ⟨a,cap,r1,r2,r3⟩=>?_;exact⟨a,cap,by rw[<-hn1];exact r1,fun X hX=>r2.is.below hX,r3⟩
 have L2:Aside (∀W,Calls Tryz.prog 158 #[.agg #[.int .u64 b1,.int .i64 b2],.bool bf] W fun r w'=>∃a cap,r=.returned (.slice a n2 cap)/\(∀X,Below w'.heap.size w' X->IsL X a cap l2)/\Below W.heap.size W w'):=fun W=>by
  have:=listOf_any ⟨(headO (candL s K dr)).1,0,(headO (candL s K dr)).2⟩ W;rw[slotL_head,candL_take,hl2] at this;rw[hl2] at hb1 hb2 hbf;simp only[hb1,hb2,hbf] at this;refine this.mono fun r w' ⟨a,cap,r1,r2,r3⟩=>?_;exact⟨a,cap,by rw[<-hn2];exact r1,fun X hX=>r2.is.below hX,r3⟩
 obtain⟨e1,he1⟩:∃x,(unl (nearQ s K t dr)).1=x:=⟨_,rfl⟩;obtain⟨e2,he2⟩:∃x,(unl (nearQ s K t dr)).2=x:=⟨_,rfl⟩;obtain⟨ej,hej⟩:∃x,unj (nearQ s K t dr)=x:=⟨_,rfl⟩;obtain⟨ef,hef⟩:∃x,unb (nearQ s K t dr)=x:=⟨_,rfl⟩
 have LE:Aside (∀(W:World)(g:Nat)(p1 p2:Option Addr)(q1 q2:Nat),W.heap[g]?=some (.cells #[.slice p1 n1 q1,.slice p2 n2 q2] 33 (0,0))->IsL W p1 q1 l1->IsL W p2 q2 l2->Calls Tryz.prog 157 #[.slice (some ⟨g,0,none⟩) 2 2] W fun r w'=>r=.returned (.tuple #[.agg #[.int .u64 e1,.int .i64 e2],.int .i64 ej,.bool ef])/\Below W.heap.size W w'):=fun W g p1 p2 q1 q2 hg i1 i2=>by
  have:=least_any (some ⟨g,0,none⟩) 2 [l1,l2] W (isLL_two hg hn1 hn2 i1 i2);have e:leastL [l1,l2] 2=nearQ s K t dr:=by unfold nearQ;rw[hl1,hl2]
  refine this.mono fun r w' ⟨r1,r2⟩=>⟨?_,r2⟩;rw[r1];show _=Ending.returned _;simp only[List.length_cons,List.length_nil];rw[show(0+1+1:Nat)=2 from rfl,e,he1,he2,hej,hef]
 have E1:Hid _:=he1;have E2:Hid _:=he2;have EF:Hid _:=hef;have hd0:Below u.heap.size u u:=Below.refl _ _;have hd1:Below u.heap.size u u.drew:=hd0.drew;have hd1a:Below u.heap.size u (u.drew.alloc (.cells #[.int .u64 0,.int .i64 0] 36)):=hd1.alloc hd1.size _;have hd0a:Below u.heap.size u (u.alloc (.cells #[.int .u64 0,.int .i64 0] 36)):=hd0.alloc hd0.size _;have hd1b:Below u.heap.size u (u.alloc (.cells #[.int .u64 0,.int .i64 0] 36)).drew:=hd0a.drew;obtain⟨y1,y2,y3,y4⟩:=KC.out u hd0;have t8:T<=8:=h8;clear hu bu us h ok ha1 ha2 haf hb1 hb2 hbf hl1 hl2 hn1 hn2 he1 he2 hej hef;have mx:=mixed;go_enter Tryz.func112,Tryz.ntmps112
 go_upto_region 3 with fail
 rw[HU.out]
 go_cut [8,10] (fun s8 s10 wx=>∃G:Nat,s8=.pointer (some ⟨G,0,none⟩)/\s10=.bool ef/\NearAt S G e1 e2 u wx)
 case first=>
  go_region_held3 (fun W=>W.cell? ⟨A.B,0,none⟩=some (.int .i64 K)/\W.cell? ⟨A.B,2,none⟩=some (.slice (some ⟨A.OR,0,none⟩) T A.oc)/\W.cell? ⟨A.B,3,none⟩=some (ptr A.HB)/\W.cell? ⟨A.OR,t,none⟩=some (ptr (A.L t))) (first|with_reducible exact KC.out _ hd0|with_reducible exact KC.out _ hd1|with_reducible exact KC.out _ hd1a|with_reducible exact KC.out _ hd0a|with_reducible exact KC.out _ hd1b|with_reducible exact KC.out _ hd2|with_reducible exact KC.out _ (hd2.alloc hd2.size _)|with_reducible exact KC.out _ hd3|with_reducible exact KC.out _ (hd3.alloc hd3.size _)|with_reducible exact KC.out _ hd4|with_reducible exact KC.out _ (hd4.alloc hd4.size _)|with_reducible exact KC.out _ hd5|with_reducible exact KC.out _ (hd5.alloc hd5.size _)|with_reducible exact KC.out _ hd6|with_reducible exact KC.out _ (hd6.alloc hd6.size _)|with_reducible exact KC.out _ (hd6.box (by first|exact le_refl _|exact hd1.size|exact hd2.size|exact hd3.size|exact hd4.size|exact hd5.size|(have:=hd5.size;omega)) _ _)|with_reducible exact KC.out _ ((hd5.alloc hd5.size _).alloc (hd5.alloc hd5.size _).size _))
   ((first
    | (go_at_call 158;(first|((with_reducible refine Calls.mono (L2.out w4) ?_);rintro r w5 ⟨p2,q2,rfl,k,d⟩;have hd5:Below u.heap.size u w5:=hd4.st d;(try (have bx:=(d.block _ (lt_of_block bx)).trans bx));have k2:=k;have dd3:=dc3.st d)|((with_reducible refine Calls.mono (L2.out (w4.alloc (.cells #[.int .u64 0,.int .i64 0] 36))) ?_);rintro r w5 ⟨p2,q2,rfl,k,d⟩;have hd5:Below u.heap.size u w5:=hd4.sta d;have bx:=(d.block w4.heap.size (by simp)).trans (heap_alloc_new w4 (.cells #[.int .u64 0,.int .i64 0] 36));have k2:=k;have dd3:=dc3.sta d)))
    | (go_at_call 160;(first|((with_reducible refine Calls.mono (CD.out w3 hd3) ?_);rintro r w4 ⟨rfl,d⟩;have hd4:Below u.heap.size u w4:=hd3.st d;(try (have bx:=(d.block _ (lt_of_block bx)).trans bx));have dc3:=d)|((with_reducible refine Calls.mono (CD.out (w3.alloc (.cells #[.int .u64 0,.int .i64 0] 36)) (hd3.alloc hd3.size _)) ?_);rintro r w4 ⟨rfl,d⟩;have hd4:Below u.heap.size u w4:=hd3.sta d;have bx:=(d.block w3.heap.size (by simp)).trans (heap_alloc_new w3 (.cells #[.int .u64 0,.int .i64 0] 36));have dc3:=((Below.refl w3.heap.size w3)).sta d)))
    | (go_at_call 158;(first|((with_reducible refine Calls.mono (L1.out w2) ?_);rintro r w3 ⟨p1,q1,rfl,k,d⟩;have hd3:Below u.heap.size u w3:=hd2.st d;(try (have bx:=(d.block _ (lt_of_block bx)).trans bx));have k1:=k)|((with_reducible refine Calls.mono (L1.out (w2.alloc (.cells #[.int .u64 0,.int .i64 0] 36))) ?_);rintro r w3 ⟨p1,q1,rfl,k,d⟩;have hd3:Below u.heap.size u w3:=hd2.sta d;have bx:=(d.block w2.heap.size (by simp)).trans (heap_alloc_new w2 (.cells #[.int .u64 0,.int .i64 0] 36));have k1:=k)))
    | (go_at_call 159;(first|((with_reducible refine Calls.mono (MN.out u.drew hd1) ?_);rintro r w2 ⟨rfl,d⟩;have hd2:Below u.heap.size u w2:=hd1.st d;(try (have bx:=(d.block _ (lt_of_block bx)).trans bx)))|((with_reducible refine Calls.mono (MN.out (u.drew.alloc (.cells #[.int .u64 0,.int .i64 0] 36)) (hd1.alloc hd1.size _)) ?_);rintro r w2 ⟨rfl,d⟩;have hd2:Below u.heap.size u w2:=hd1.sta d;have bx:=(d.block u.drew.heap.size (by simp)).trans (heap_alloc_new u.drew (.cells #[.int .u64 0,.int .i64 0] 36)))|((with_reducible refine Calls.mono (MN.out (u.alloc (.cells #[.int .u64 0,.int .i64 0] 36)).drew hd1b) ?_);rintro r w2 ⟨rfl,d⟩;have hd2:Below u.heap.size u w2:=hd1b.st d;have bx:w2.heap[u.heap.size]?=some (.cells #[.int .u64 0,.int .i64 0] 36 (0,0)):=(d.block u.heap.size (by show u.heap.size<(u.alloc (.cells #[.int .u64 0,.int .i64 0] 36)).heap.size;simp)).trans (heap_alloc_new u (.cells #[.int .u64 0,.int .i64 0] 36)))))
    | (go_at_call 157;(first|((with_reducible refine Calls.mono (LE.out (w5.alloc (.cells #[.slice p1 n1 q1,.slice p2 n2 q2] 33)) w5.heap.size p1 p2 q1 q2 (heap_alloc_new w5 (.cells #[.slice p1 n1 q1,.slice p2 n2 q2] 33)) (k1 _ (dd3.alloc dd3.size _)) (k2 _ ((Below.refl _ _).alloc (le_refl _) _))) ?_);rintro r w6 ⟨rfl,d⟩;have hd6:Below u.heap.size u w6:=(hd5.alloc hd5.size (.cells #[.slice p1 n1 q1,.slice p2 n2 q2] 33)).st d;(try (have bx:=(d.block _ (Nat.lt_of_lt_of_le (lt_of_block bx) (by simp))).trans ((heap_alloc_old w5 (.cells #[.slice p1 n1 q1,.slice p2 n2 q2] 33) (lt_of_block bx)).trans bx)));(try (have zq0:=(ent0 bx).1;have zq1:=(ent0 bx).2;have zq2:=entf bx 0;have zq3:=entf bx 1;have zq4:=lt_of_block bx)))|((with_reducible refine Calls.mono (LE.out ((w5.alloc (.cells #[.int .u64 0,.int .i64 0] 36)).alloc (.cells #[.slice p1 n1 q1,.slice p2 n2 q2] 33)) (w5.heap.size+1) p1 p2 q1 q2 (by have q:=heap_alloc_new (w5.alloc (.cells #[.int .u64 0,.int .i64 0] 36)) (.cells #[.slice p1 n1 q1,.slice p2 n2 q2] 33);rw[show(w5.alloc (.cells #[.int .u64 0,.int .i64 0] 36)).heap.size=w5.heap.size+1 by simp] at q;exact q) (k1 _ ((dd3.alloc dd3.size (.cells #[.int .u64 0,.int .i64 0] 36)).alloc (dd3.alloc dd3.size (.cells #[.int .u64 0,.int .i64 0] 36)).size (.cells #[.slice p1 n1 q1,.slice p2 n2 q2] 33))) (k2 _ (((Below.refl _ _).alloc (le_refl _) _).alloc (by simp) _))) ?_);rintro r w6 ⟨rfl,d⟩;have hd6:Below u.heap.size u w6:=((hd5.alloc hd5.size (.cells #[.int .u64 0,.int .i64 0] 36)).alloc (hd5.alloc hd5.size (.cells #[.int .u64 0,.int .i64 0] 36)).size (.cells #[.slice p1 n1 q1,.slice p2 n2 q2] 33)).st d;have bx:=(d.block w5.heap.size (by simp<;>omega)).trans ((heap_alloc_old (w5.alloc (.cells #[.int .u64 0,.int .i64 0] 36)) (.cells #[.slice p1 n1 q1,.slice p2 n2 q2] 33) (by simp)).trans (heap_alloc_new w5 (.cells #[.int .u64 0,.int .i64 0] 36)));(try (have zq0:=(ent0 bx).1;have zq1:=(ent0 bx).2;have zq2:=entf bx 0;have zq3:=entf bx 1;have zq4:=lt_of_block bx)))|((with_reducible refine Calls.mono (LE.out ((w5.alloc (.cells #[.slice p1 n1 q1,.slice p2 n2 q2] 33)).alloc (.cells #[.int .u64 0,.int .i64 0] 36)) w5.heap.size p1 p2 q1 q2 ((heap_alloc_old (w5.alloc (.cells #[.slice p1 n1 q1,.slice p2 n2 q2] 33)) (.cells #[.int .u64 0,.int .i64 0] 36) (by simp)).trans (heap_alloc_new w5 (.cells #[.slice p1 n1 q1,.slice p2 n2 q2] 33))) (k1 _ ((dd3.alloc dd3.size (.cells #[.slice p1 n1 q1,.slice p2 n2 q2] 33)).alloc (dd3.alloc dd3.size (.cells #[.slice p1 n1 q1,.slice p2 n2 q2] 33)).size (.cells #[.int .u64 0,.int .i64 0] 36))) (k2 _ (((Below.refl _ _).alloc (le_refl _) _).alloc (by simp) _))) ?_);rintro r w6 ⟨rfl,d⟩;have hd6:Below u.heap.size u w6:=((hd5.alloc hd5.size (.cells #[.slice p1 n1 q1,.slice p2 n2 q2] 33)).alloc (hd5.alloc hd5.size (.cells #[.slice p1 n1 q1,.slice p2 n2 q2] 33)).size (.cells #[.int .u64 0,.int .i64 0] 36)).st d;have bx:w6.heap[w5.heap.size+1]?=some (.cells #[.int .u64 0,.int .i64 0] 36 (0,0)):=(d.block (w5.heap.size+1) (by simp<;>omega)).trans (by have q:=heap_alloc_new (w5.alloc (.cells #[.slice p1 n1 q1,.slice p2 n2 q2] 33)) (.cells #[.int .u64 0,.int .i64 0] 36);rw[show(w5.alloc (.cells #[.slice p1 n1 q1,.slice p2 n2 q2] 33)).heap.size=w5.heap.size+1 by simp] at q;exact q);(try (have zq0:=(ent0 bx).1;have zq1:=(ent0 bx).2;have zq2:=entf bx 0;have zq3:=entf bx 1;have zq4:=lt_of_block bx)))))))
  all_goals go_wp2_with fail
  all_goals go_meet
  all_goals first|exact⟨_,rfl,rfl,hd6.alloc hd6.size _,heap_alloc_new w6 _,hd6.size⟩|exact⟨_,rfl,rfl,hd6.box (by first|exact le_refl _|exact hd1.size|exact hd2.size|exact hd3.size|exact hd4.size|exact hd5.size|(have:=hd5.size;omega)) _ _,entSet2 bx _ _,(by first|exact le_refl _|exact hd1.size|exact hd2.size|exact hd3.size|exact hd4.size|exact hd5.size|(have:=hd5.size;omega))⟩
 case rest=>
  obtain⟨G,rfl,rfl,hx,gx,gu⟩:=hcut;have s2:=(hx.block S (lt_of_block US.out)).trans US.out;have GS:S<G:=Nat.lt_of_lt_of_le (lt_of_block US.out) gu;have nSG:¬S=G:=by omega
  have nGS:¬G=S:=by omega
  have Sl:S<wc.heap.size:=lt_of_block s2;have Gl:G<wc.heap.size:=lt_of_block gx;have DX:Aside (Below u.heap.size u wc):=hx;have WX:Aside (Below w.heap.size w wc):=BU.out.trans (hx.mono BU.out.size);have y0:wc.cell? ⟨S,0,none⟩=some (.int .u64 0):=(ent0 s2).1;have y1:wc.cell? ⟨S,1,none⟩=some (.int .i64 0):=(ent0 s2).2;have z0:=entf s2 0;have z1:=entf s2 1;have k0:=(ent0 gx).1;have k1:=(ent0 gx).2;clear MN CD L1 L2 LE hd0 hd1 hd1a hd0a hd1b c2 c3 c3' c3n
  cases ef with
  | true=>
   have s3:=entSet2 s2 (.int .u64 e1) (.int .i64 e2);have FB:Aside (Below w.heap.size w ((wc.setCell ⟨S,0,none⟩ (.int .u64 e1)).setCell ⟨S,1,none⟩ (.int .i64 e2))):=below_box WX.out (by have:=HS.out;omega) _ _;have v0:=(ent0 s3).1;have v1:=(ent0 s3).2
   have FE:Aside ((relaxQ s T K t dr).1.1=e1/\(relaxQ s T K t dr).1.2=e2/\(relaxQ s T K t dr).2=true):=by
    unfold relaxQ;rw[EF.out,if_pos rfl];exact⟨E1.out,E2.out,rfl⟩
   clear s2 s3 gx hx
   go_wp2_with fail
   refine bodyPost_ret (v:=.tuple #[.agg #[.int .u64 e1,.int .i64 e2],.bool true]) (by simp[results,Tryz.results112,go_sem,v0,v1]) rfl ⟨by rw[FE.out.1,FE.out.2.1,FE.out.2.2],FB.out⟩
  | false=>
   obtain⟨x1,hx1⟩:∃x,(headO (furtherL s T t)).1.1=x:=⟨_,rfl⟩;obtain⟨x2,hx2⟩:∃x,(headO (furtherL s T t)).1.2=x:=⟨_,rfl⟩;obtain⟨f,hf⟩:∃x,(headO (furtherL s T t)).2=x:=⟨_,rfl⟩;have fu:=further_any wc base A T K N s t (H.out.below hx) OK.out hN hK ht h8;unfold EntIs at fu;rw[hx1,hx2,hf] at fu
   have FE:Aside ((relaxQ s T K t dr).1.1=x1/\(relaxQ s T K t dr).1.2=x2/\(relaxQ s T K t dr).2=f):=by
    unfold relaxQ;rw[EF.out,if_neg (by simp)];exact⟨hx1,hx2,hf⟩
   have S2:Aside (wc.heap[S]?=some (.cells #[.int .u64 0,.int .i64 0] 36 (0,0))):=s2;have GX:Aside (wc.heap[G]?=some (.cells #[.int .u64 e1,.int .i64 e2] 36 (0,0))):=gx;clear s2 gx hx hx1 hx2 hf y0 y1 z0 z1 k0 k1 Sl Gl
   go_wp2_with fail
   refine fu.mono ?_;rintro r wd ⟨rfl,d⟩;have s2:=(d.block S (lt_of_block S2.out)).trans S2.out;have gx:=(d.block G (lt_of_block GX.out)).trans GX.out;have Sl:S<wd.heap.size:=lt_of_block s2;have Gl:G<wd.heap.size:=lt_of_block gx;have WD:Aside (Below w.heap.size w wd):=WX.out.trans (d.mono WX.out.size);have g3:=entSet2 gx (.int .u64 x1) (.int .i64 x2);have k0:=(ent0 gx).1;have k1:=(ent0 gx).2;have k2:=entf gx 0;have k3:=entf gx 1;obtain⟨v,hv⟩:∃v,(wd.setCell ⟨G,0,none⟩ (.int .u64 x1)).setCell ⟨G,1,none⟩ (.int .i64 x2)=v:=⟨_,rfl⟩
   have sv:v.heap[S]?=some (.cells #[.int .u64 0,.int .i64 0] 36 (0,0)):=by
    rw[<-hv];exact((Below.heap_setCell _ ⟨G,1,none⟩ _ S (by show S≠G;omega)).trans (Below.heap_setCell wd ⟨G,0,none⟩ _ S (by show S≠G;omega))).trans s2
   rw[hv] at g3;have WV:Aside (Below w.heap.size w v):=by rw[<-hv];exact below_box WD.out (by have:=HS.out;omega) _ _
   have y0:v.cell? ⟨S,0,none⟩=some (.int .u64 0):=(ent0 sv).1;have y1:v.cell? ⟨S,1,none⟩=some (.int .i64 0):=(ent0 sv).2;have z0:=entf sv 0;have z1:=entf sv 1;have i0:=(ent0 g3).1;have i1:=(ent0 g3).2;have s3:=entSet2 sv (.int .u64 x1) (.int .i64 x2);have v0:=(ent0 s3).1;have v1:=(ent0 s3).2;have FB:Aside (Below w.heap.size w ((v.setCell ⟨S,0,none⟩ (.int .u64 x1)).setCell ⟨S,1,none⟩ (.int .i64 x2))):=below_box WV.out (by have:=HS.out;omega) _ _;have HV:Hid _:=hv;clear s2 gx g3 sv s3 d fu hv;go_upto_region 6 with fail
   rw[HV.out]
   go_wp2_with fail
   refine bodyPost_ret (v:=.tuple #[.agg #[.int .u64 x1,.int .i64 x2],.bool f]) (by simp[results,Tryz.results112,go_sem,v0,v1]) rfl ⟨by rw[FE.out.1,FE.out.2.1,FE.out.2.2],FB.out⟩
end
section
open Go.RowKit Go.Lib Go.Sort Go.Maps
theorem tabF_succ(A:QAd)(k R:Nat):∀p t,fput (fput (tabF A k) 1 k (pSlot {A with TC:=lset A.TC k R} k)) 2 k (pOwn A k) p t=tabF {A with TC:=lset A.TC k R} (k+1) p t:=by
 intro p t;unfold fput;by_cases e2:p=2/\t=(k:Int)
 ·obtain⟨rfl,rfl⟩:=e2;rw[if_pos ⟨rfl,rfl⟩];unfold tabF;rw[if_neg (by omega),if_neg (by omega),if_pos (by omega)];simp[pOwn]
 ·rw[if_neg e2];by_cases e1:p=1/\t=(k:Int)
  ·obtain⟨rfl,rfl⟩:=e1;rw[if_pos ⟨rfl,rfl⟩];unfold tabF;rw[if_neg (by omega),if_pos (by omega)];simp
  ·rw[if_neg e1];unfold tabF;by_cases c3:p=3/\t=0
   ·rw[if_pos c3,if_pos c3];rfl
   ·rw[if_neg c3,if_neg c3];by_cases c1:p=1/\0<=t/\t<(k:Int)
    ·rw[if_pos c1,if_pos (by omega)];have:t.toNat≠k:=by omega
     unfold pSlot;rw[show({A with TC:=lset A.TC k R}:QAd).TC t.toNat=A.TC t.toNat from lset_ne _ _ this]
    ·have r1:¬(p=1/\0<=t/\t<((k+1:Nat):Int)):=by omega
     rw[if_neg c1,if_neg r1];by_cases c2:p=2/\0<=t/\t<(k:Int)
     ·have r2:p=2/\0<=t/\t<((k+1:Nat):Int):=by omega
      rw[if_pos c2,if_pos r2];rfl
     ·have r2:¬(p=2/\0<=t/\t<((k+1:Nat):Int)):=by omega
      rw[if_neg c2,if_neg r2]
theorem tabF_zero(A:QAd):∀p t,fput (fun _ _=>none) 3 0 (pShared A) p t=tabF A 0 p t:=by
 intro p t;unfold fput tabF;by_cases c3:p=3/\t=0
 ·rw[if_pos c3,if_pos c3]
 ·rw[if_neg c3,if_neg c3,if_neg (by omega),if_neg (by omega)]
def TableIs(w:World)(A:QAd)(T:Nat)(r:Ending)(w':World):Prop:=∃(M QC:Nat)(TC:Nat->Nat),r=.returned (.map (some M))/\Below w.heap.size w w'/\Tab w' M (tabF {A with M:=M,QC:=QC,TC:=TC} T)/\w'.heap[QC]?=some (.cells #[ptr A.B] 83 (0,0))/\(∀i,i<T->w'.heap[TC i]?=some (.cells #[.int .i64 i] 3 (0,0)))
theorem table_any(w:World)(A:QAd)(T:Nat)(x0 x4:Value)(hB:w.heap[A.B]?=some (.cells #[x0,ptr A.SB,.slice (some ⟨A.OR,0,none⟩) T A.oc,ptr A.HB,x4] 154 (0,0)))
  (hrow:∀i,i<T->w.cell? ⟨A.OR,i,none⟩=some (ptr (A.L i))) (hor:A.OR<w.heap.size) (h8:T<=8) :
  Calls Tryz.prog 84 #[ptr A.B] w (TableIs w A T):=by
 obtain⟨S,hS⟩:∃S,w.heap.size=S:=⟨_,rfl⟩;obtain⟨u,hu⟩:∃u,w.alloc (.cells #[ptr A.B] 83)=u:=⟨_,rfl⟩;have bu:Below w.heap.size w u:=by rw[<-hu];exact(Below.refl _ _).alloc (le_refl _) _
 have us:u.heap[S]?=some (.cells #[ptr A.B] 83 (0,0)):=by rw[<-hu,<-hS];exact heap_alloc_new w _
 have uz:u.heap.size=S+1:=by rw[<-hu,<-hS];simp
 have hBl:=lt_of_block hB
 have KC:Aside (∀W:World,(∀k,k<u.heap.size->W.heap[k]?=u.heap[k]?)->W.cell? ⟨S,0,none⟩=some (ptr A.B)/\W.cell? ⟨A.B,1,none⟩=some (ptr A.SB)/\W.cell? ⟨A.B,2,none⟩=some (.slice (some ⟨A.OR,0,none⟩) T A.oc)/\W.cell? ⟨A.B,3,none⟩=some (ptr A.HB)/\∀i,i<T->W.cell? ⟨A.OR,i,none⟩=some (ptr (A.L i))):=fun W hW=>by
  have b1:=((hW A.B (by omega)).trans (bu.block A.B hBl)).trans hB;have b2:=(hW S (by omega)).trans us;refine⟨by rw[cell_of_row _ _ _ _ _ _ b2];rfl,by rw[cell_of_row _ _ _ _ _ _ b1];rfl,by rw[cell_of_row _ _ _ _ _ _ b1];rfl,by rw[cell_of_row _ _ _ _ _ _ b1];rfl,fun i hi=>?_⟩;have b3:=(hW A.OR (by omega)).trans (bu.block A.OR hor);exact(World.cell?_of_block (a:=⟨A.OR,i,none⟩) b3).trans (hrow i hi)
 have hmm:=@run_makeMap Tryz.prog;have hmf:∀(fn:Fn)(first cap:Array Value)(w:World),(Instr.makeFunc fn first cap).run Tryz.prog w=.ok (.func fn first cap) w:=fun _ _ _ _=>rfl;obtain⟨w1,st1,tb1,gr1⟩:=(show TabN (u.alloc (.map #[] 0)).drew u.heap.size 0 (fun _ _=>none) from(TabN.made u).kept rfl).store (by omega) (p:=3) (t:=0) (show(Lit.int .i64 3).wf=true by decide) (show(Lit.int .i64 0).wf=true by decide) (pShared A);obtain⟨c0,c1,c2,c3,_⟩:=KC.out u (fun k hk=>rfl);unfold pShared at st1;rw[uz] at st1 tb1 gr1;have hk1:∀k,k<u.heap.size->(u.alloc (.map #[] 0)).drew.heap[k]?=u.heap[k]?:=fun k hk=>Below.heap_alloc u _ k hk;have hk2:∀k,k<u.heap.size->w1.heap[k]?=u.heap[k]?:=fun k hk=>(gr1.block k (by show k<(u.alloc (.map #[] 0)).heap.size;simp;omega) (by intro e;injection e with e;omega)).trans (hk1 k hk);have hk3:∀k,k<u.heap.size->(u.alloc (.map #[] 0)).heap[k]?=u.heap[k]?:=fun k hk=>Below.heap_alloc u _ k hk;have HU:Hid _:=hu;have BU:Aside (Below w.heap.size w u):=bu;have US:Aside (u.heap[S]?=some (.cells #[ptr A.B] 83 (0,0))):=us;clear hB hrow us bu hu;go_enter Tryz.func84,Tryz.ntmps84
 have mx:=mixed;go_upto_region 1 with fail
 rw[HU.out]
 go_cut [3] (fun s3 wx=>s3=.map (some (S+1))/\wx=w1)
 case first=>
  go_region_held3 (fun W=>W.cell? ⟨S,0,none⟩=some (ptr A.B)/\W.cell? ⟨A.B,3,none⟩=some (ptr A.HB)) (first|with_reducible exact⟨c0,c3⟩|with_reducible exact⟨(KC.out _ hk1).1,(KC.out _ hk1).2.2.2.1⟩|with_reducible exact⟨(KC.out _ hk2).1,(KC.out _ hk2).2.2.2.1⟩|with_reducible exact⟨(KC.out _ hk3).1,(KC.out _ hk3).2.2.2.1⟩|exact⟨c0,c3⟩)
   (fail)
  all_goals go_wp2_with fail
  all_goals go_meet
  all_goals exact⟨rfl,rfl⟩
 case rest=>
  obtain⟨rfl,rfl⟩:=hcut;have wt0:∀k:Nat,k<T->wfI (k:Int):=fun k hk=>by unfold wfI;simp[Lit.wf,IntKind.min,IntKind.max,IntKind.bits,IntKind.signed];omega
  have B1:Below u.heap.size u wc:=⟨gr1.os,gr1.tape,gr1.output,by have:=gr1.size;have h:(u.alloc (.map #[] 0)).drew.heap.size=u.heap.size+1:=(by show(u.alloc (.map #[] 0)).heap.size=_;simp);omega,hk2⟩;have T0:TabN wc (S+1) 1 (tabF {A with M:=S+1,QC:=S,TC:=A.TC} 0):=tb1.congr (tabF_zero {A with M:=S+1,QC:=S,TC:=A.TC});obtain⟨i0,i1,i2,i3,i4⟩:=KC.out wc hk2;have I0:Aside (∃TC,TabN wc (S+1) (2*0+1) (tabF {A with M:=S+1,QC:=S,TC:=TC} 0)/\Below u.heap.size u wc/\∀i,i<0->wc.heap[TC i]?=some (.cells #[.int .i64 i] 3 (0,0))):=⟨A.TC,T0,B1,fun i hi=>absurd hi (by omega)⟩;clear tb1 gr1 st1 hk1 hk2 hk3 c0 c1 c2 c3 T0 B1
  go_wp2_with fail
  go_loopg [25] T (fun kx s25 wr=>∃(k:Nat),s25=.int .i64 k/\k<=T/\T-k<=kx/\Aside (∃TC,TabN wr (S+1) (2*k+1) (tabF {A with M:=S+1,QC:=S,TC:=TC} k)/\Below u.heap.size u wr/\∀i,i<k->wr.heap[TC i]?=some (.cells #[.int .i64 i] 3 (0,0))))
  case atStart=>exact⟨0,rfl,by omega,by omega,I0⟩
  case round=>
   clear I0 i0 i1 i2 i3 i4;obtain⟨k,rfl,hk,hkx,I⟩:=hrel;obtain⟨TC,tb,bb,tc⟩:=I.out;by_cases hlt:k<T
   ·have hz:(k:Int)<(T:Int):=by omega
    obtain⟨i0,i1,i2,i3,i4⟩:=KC.out wr bb.block;have i5:=i4 k hlt;obtain⟨R,hR⟩:∃R,wr.heap.size=R:=⟨_,rfl⟩;obtain⟨u4,hu4⟩:∃x,wr.alloc (.cells #[.int .i64 k] 3)=x:=⟨_,rfl⟩;have bu4:Below wr.heap.size wr u4:=by rw[<-hu4];exact(Below.refl _ _).alloc (le_refl _) _
    have us4:u4.heap[R]?=some (.cells #[.int .i64 k] 3 (0,0)):=by rw[<-hu4,<-hR];exact heap_alloc_new wr _
    have tb4:TabN u4.drew (S+1) (2*k+1) (tabF {A with M:=S+1,QC:=S,TC:=TC} k):=tb.kept (bu4.block (S+1) tb.lt);obtain⟨w5,st5,tb5,gr5⟩:=tb4.store (by omega) (p:=1) (t:=k) (show(Lit.int .i64 1).wf=true by decide) (wt0 k hlt) (pSlot {A with M:=S+1,QC:=S,TC:=lset TC k R} k);obtain⟨w6,st6,tb6,gr6⟩:=tb5.store (by omega) (p:=2) (t:=k) (show(Lit.int .i64 2).wf=true by decide) (wt0 k hlt) (pOwn {A with M:=S+1,QC:=S,TC:=TC} k);have RS:S+1<R:=by rw[<-hR];exact tb.lt
    have ru4:R<u4.heap.size:=lt_of_block us4;have us5:w5.heap[R]?=some (.cells #[.int .i64 k] 3 (0,0)):=(gr5.block R ru4 (by intro e;injection e with e;omega)).trans us4;have us6:w6.heap[R]?=some (.cells #[.int .i64 k] 3 (0,0)):=(gr6.block R (lt_of_block us5) (by intro e;injection e with e;omega)).trans us5;have b4:Below u.heap.size u u4:=bb.trans (bu4.mono bb.size);have b5:Below u.heap.size u w5:=b4.trans ⟨gr5.os,gr5.tape,gr5.output,gr5.size,fun j hj=>gr5.block j (by show j<u4.heap.size;have:=b4.size;omega) (by intro e;injection e with e;omega)⟩;have b6:Below u.heap.size u w6:=b5.trans ⟨gr6.os,gr6.tape,gr6.output,gr6.size,fun j hj=>gr6.block j (by have:=b5.size;omega) (by intro e;injection e with e;omega)⟩
    have I6:Aside (∃TC,TabN w6 (S+1) (2*(k+1)+1) (tabF {A with M:=S+1,QC:=S,TC:=TC} (k+1))/\Below u.heap.size u w6/\∀i,i<k+1->w6.heap[TC i]?=some (.cells #[.int .i64 i] 3 (0,0))):=by
     refine⟨lset TC k R,tb6.congr (tabF_succ {A with M:=S+1,QC:=S,TC:=TC} k R),b6,fun i hi=>?_⟩;by_cases e:i=k
     ·subst e;rw[lset_same];exact us6
     ·rw[lset_ne _ _ e];have h1:=tc i (by omega);have l1:=lt_of_block h1;have h2:=(bu4.block _ l1).trans h1
      have ne:TC i≠S+1:=fun e=>by
       rw[e] at h1;obtain⟨es,c,hm⟩:=(tb.tab (by omega)).isMap;rw[h1] at hm
       cases hm
      have h3:=(gr5.block (TC i) (lt_of_block h2) (by intro e;injection e with e;exact ne e)).trans h2;exact(gr6.block (TC i) (lt_of_block h3) (by intro e;injection e with e;exact ne e)).trans h3
    obtain⟨j0,j1,j2,j3,_⟩:=KC.out u4 b4.block;obtain⟨m0,m1,m2,m3,_⟩:=KC.out u4.drew b4.block;obtain⟨n0,n1,n2,n3,_⟩:=KC.out w5 b5.block;have x4:u4.cell? ⟨R,0,none⟩=some (.int .i64 k):=by rw[cell_of_row _ _ _ _ _ _ us4];rfl
    have x4d:u4.drew.cell? ⟨R,0,none⟩=some (.int .i64 k):=x4;have x5:w5.cell? ⟨R,0,none⟩=some (.int .i64 k):=by rw[cell_of_row _ _ _ _ _ _ us5];rfl
    unfold pSlot at st5;rw[show(QAd.TC {A with M:=S+1,QC:=S,TC:=lset TC k R} k)=R from lset_same _ _ _] at st5;unfold pOwn at st6;have HU4:Hid _:=hu4;clear tb tc bb tb4 tb5 tb6 gr5 gr6 us4 us5 us6 b4 b5 b6 hu4 i4 bu4 I;go_upto_region 5 with fail
    rw[HU4.out]
    go_cut [30] (fun s30 wx=>wx=w5)
    case first=>
     go_region_held3 (fun W=>W.cell? ⟨S,0,none⟩=some (ptr A.B)/\W.cell? ⟨A.B,1,none⟩=some (ptr A.SB)/\W.cell? ⟨R,0,none⟩=some (.int .i64 k)) (first|with_reducible exact⟨j0,j1,x4⟩|with_reducible exact⟨m0,m1,x4d⟩|with_reducible exact⟨n0,n1,x5⟩)
      (fail)
     all_goals go_wp2_with fail
     all_goals go_meet
     all_goals exact rfl
    case rest=>
     subst hcut
     go_wp2
     go_roundg (T-(k+1))
     case measure=>omega
     case rel=>exact⟨k+1,by go_num,by omega,le_refl _,I6⟩
   ·have hz:¬(k:Int)<(T:Int):=by omega
    have ek:k=T:=by omega
    have FIN:Aside (TableIs w A T (.returned (.map (some (S+1)))) wr):=by
     refine⟨S+1,S,TC,rfl,BU.out.trans (bb.mono BU.out.size),?_,(bb.block S (lt_of_block US.out)).trans US.out,?_⟩
     ·rw[<-ek];exact tb.tab (by omega)
     ·rw[<-ek];exact tc
    clear tb bb tc I ek
    go_wp2
    go_ret;exact FIN.out
end
end Go.Proofs.YthpgfmmpjoodkaaGreatDoor.Qu
