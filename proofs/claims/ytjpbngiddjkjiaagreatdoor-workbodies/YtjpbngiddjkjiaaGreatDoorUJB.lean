import Derived.Test.YtjpbngiddjkjiaaGreatDoorProg
import Derived.Test.YtjpbngiddjkjiaaGreatDoorUJA
import Derived.Shelf.SlSortCmp.KitK
import Derived.WalkKit
import Derived.BigRegion
import Derived.Deep.LoopGhost
import Derived.Deep.QuietTactic
import Derived.BigQuiet
import Derived.Deep.Cut
import Derived.Deep.CutRange
open Go.Proofs.Tryz
open Nat(le_refl)
namespace Go.Proofs.YtjpbngiddjkjiaaGreatDoor.Qu
set_option maxHeartbeats 8000000
set_option maxRecDepth 100000
set_option linter.unusedVariables false
open Go.RowKit Go.Lib Go.Sort
section
def encE(x:Ent):List Value:=[.int .u64 x.1,.int .i64 x.2]
theorem encE_len(x:Ent):(encE x).length=2:=rfl
theorem encE_one(x:Ent):∀v∈encE x,v.oneCell'=true:=by
 intro v hv;simp[encE] at hv;rcases hv with rfl|rfl<;>rfl
abbrev SE(w0:World)(blk off:Nat)(d:Array Ent)(W:World):Prop:=SWK encE 2 w0 blk off d W
abbrev RE(w0:World)(blk off:Nat)(d:Array Ent):Prop:=RowK encE 2 w0 blk off d
variable {w0 W:World}{blk off:Nat}{d0 d dk:Array Ent}
theorem se_c0(S:SE w0 blk off dk W)(R:RE w0 blk off d0)(hs:dk.size=d0.size){i:Nat}(hi:i<dk.size):W.cell? ⟨blk,off+i*2,none⟩=some (.int .u64 dk[i]!.1):=
 ((S.holds R.hblk R.hH hs).cell hi (show 0<2 by omega)).1
theorem se_c1(S:SE w0 blk off dk W)(R:RE w0 blk off d0)(hs:dk.size=d0.size){i:Nat}(hi:i<dk.size):W.cell? ⟨blk,off+i*2+1,none⟩=some (.int .i64 dk[i]!.2):=
 ((S.holds R.hblk R.hH hs).cell hi (show 1<2 by omega)).1
theorem se_f0(S:SE w0 blk off dk W)(R:RE w0 blk off d0)(hs:dk.size=d0.size){i:Nat}(hi:i<dk.size):W.frozen? ⟨blk,off+i*2,none⟩=false:=
 ((S.holds R.hblk R.hH hs).cell hi (show 0<2 by omega)).2
theorem se_f1(S:SE w0 blk off dk W)(R:RE w0 blk off d0)(hs:dk.size=d0.size){i:Nat}(hi:i<dk.size):W.frozen? ⟨blk,off+i*2+1,none⟩=false:=
 ((S.holds R.hblk R.hH hs).cell hi (show 1<2 by omega)).2
theorem se_swap(S:SE w0 blk off dk W)(R:RE w0 blk off d0){i j:Nat}(hi:i<dk.size)(hj:j<dk.size) :
  SE w0 blk off (swp dk i j) ((((W.setCell ⟨blk,off+i*2,none⟩ (.int .u64 dk[j]!.1)).setCell ⟨blk,off+i*2+1,none⟩ (.int .i64 dk[j]!.2)).setCell ⟨blk,off+j*2,none⟩ (.int .u64 dk[i]!.1)).setCell ⟨blk,off+j*2+1,none⟩ (.int .i64 dk[i]!.2)).drew:=
 (S.swap R.hk R.hblk i j hi hj).drew
theorem mixed:prog.follows .mixedOrders=true:=by kernel_rfl
end
set_option maxRecDepth 1000000 in
theorem swapRange_any(blk off cap a b n:Nat)(d0 d:Array Ent)(w0 w:World)(fv:Value)(R:RE w0 blk off d0)(hs:d0.size=d.size)(S:SE w0 blk off d w)(hab:a+n<=b)(hb:b+n<=d.size)(hsz:d.size<1152921504606846976) :
  Calls prog 268 #[.slice (some ⟨blk,off,none⟩) d.size cap,.int .i64 a,.int .i64 b,.int .i64 n,fv] w fun e w'=>e=.returned (.tuple #[])/\
   ∃d':Array Ent,d'.size=d.size/\SE w0 blk off d' w'/\(∀t,d'[t]! = swR (fun t=>d[t]!) a b n t)/\∀lo hi,lo<=a->b+n<=hi->hi<=d.size->PermIn lo hi d d':=by
 have S0:Aside _:=S;clear S;go_enter func268,ntmps268
 go_wp2
 go_loopg [10] n (fun kx s10 wr=>∃(i:Nat)(dk:Array Ent),s10=.int .i64 i/\i<=n/\n-i<=kx/\dk.size=d.size/\Aside (SE w0 blk off dk wr)/\Aside (∀t,dk[t]! = swR (fun t=>d[t]!) a b i t)/\Aside (∀lo hi,lo<=a->b+n<=hi->hi<=d.size->PermIn lo hi d dk))
 case atStart=>exact⟨0,d,rfl,Nat.zero_le _,le_refl _,rfl,S0,(fun t=>(swR_zero _ a b t).symm:∀t,d[t]! = swR (fun t=>d[t]!) a b 0 t),(fun lo hi _ _ _=>permIn_refl d lo hi:∀lo hi,lo<=a->b+n<=hi->hi<=d.size->PermIn lo hi d d)⟩
 case round=>
  obtain⟨i,dk,rfl,hin,hkx,hds,S1,G1,P1⟩:=hrel;clear S0;by_cases hlt:i<n
  ·have e1:((a:Int)+(i:Int)).toNat=a+i:=by omega
   have e2:((b:Int)+(i:Int)).toNat=b+i:=by omega
   have p1:(0:Int)<=(a:Int)+(i:Int):=by omega
   have p2:(0:Int)<=(b:Int)+(i:Int):=by omega
   have b1:(a:Int)+(i:Int)<(d.size:Int):=by omega
   have b2:(b:Int)+(i:Int)<(d.size:Int):=by omega
   have r1:IntKind.i64.wrap ((a:Int)+(i:Int))=(a:Int)+(i:Int):=by rw[IntKind.wrap_i64];omega
   have r2:IntKind.i64.wrap ((b:Int)+(i:Int))=(b:Int)+(i:Int):=by rw[IntKind.wrap_i64];omega
   obtain⟨x,hx⟩:∃x,dk[a+i]! = x:=⟨_,rfl⟩;obtain⟨y,hy⟩:∃y,dk[b+i]! = y:=⟨_,rfl⟩;have c1:=se_c0 S1.out R (by omega) (show a+i<dk.size by omega);have c2:=se_c1 S1.out R (by omega) (show a+i<dk.size by omega);have c3:=se_c0 S1.out R (by omega) (show b+i<dk.size by omega);have c4:=se_c1 S1.out R (by omega) (show b+i<dk.size by omega);have f1:=se_f0 S1.out R (by omega) (show a+i<dk.size by omega);have f2:=se_f1 S1.out R (by omega) (show a+i<dk.size by omega);have f3:=se_f0 S1.out R (by omega) (show b+i<dk.size by omega);have f4:=se_f1 S1.out R (by omega) (show b+i<dk.size by omega);have sw:=se_swap S1.out R (show a+i<dk.size by omega) (show b+i<dk.size by omega);rw[hx] at c1 c2 sw;rw[hy] at c3 c4 sw;have S2:Aside _:=sw;have HX:Hid _:=hx;have HY:Hid _:=hy;clear sw S1 hx hy
   go_wp2_with fail
   go_region
   clear c1 c2 c3 c4 f1 f2 f3 f4;generalize World.drew _=w2 at S2⊢
   go_wp2
   go_roundg (n-(i+1))
   case measure=>omega
   case rel=>
    refine⟨i+1,swp dk (a+i) (b+i),by go_num,by omega,le_refl _,by rw[size_swp];exact hds,S2,(fun t=>?_:∀t,(swp dk (a+i) (b+i))[t]! = swR (fun t=>d[t]!) a b (i+1) t),(fun lo hi h1 h2 h3=>permIn_trans _ _ _ _ _ (P1.out lo hi h1 h2 h3) (swp_permIn dk lo hi _ _ (by omega) (by omega) (by omega) (by omega) (by omega)):∀lo hi,lo<=a->b+n<=hi->hi<=d.size->PermIn lo hi d (swp dk (a+i) (b+i)))⟩;have g:=G1.out;have ga:dk[a+i]! = d[a+i]!:=by rw[g];unfold swR;rw[if_neg (by omega),if_neg (by omega)]
    have gb:dk[b+i]! = d[b+i]!:=by rw[g];unfold swR;rw[if_neg (by omega),if_neg (by omega)]
    rw[swp_get dk (by omega) (by omega),swR_succ _ _ _ _ _ (by omega),g t,ga,gb]
  ·go_wp2
   go_end0
   obtain rfl:i=n:=by omega
   exact⟨rfl,dk,hds,S1.out,G1.out,P1.out⟩
set_option maxRecDepth 1000000 in
theorem rotate_any(blk off cap a m b:Nat)(d0 d:Array Ent)(w0 w:World)(fv:Value)(R:RE w0 blk off d0)(hs:d0.size=d.size)(S:SE w0 blk off d w)(ham:a<m)(hmb:m<b)(hb:b<=d.size)(hsz:d.size<1152921504606846976) :
  Calls prog 266 #[.slice (some ⟨blk,off,none⟩) d.size cap,.int .i64 a,.int .i64 m,.int .i64 b,fv] w fun e w'=>e=.returned (.tuple #[])/\
   ∃d':Array Ent,d'.size=d.size/\SE w0 blk off d' w'/\(∀t,d'[t]! = rotF (fun t=>d[t]!) a m b t)/\PermIn a b d d':=by
 have S0:Aside _:=S;clear S;have sr:=fun(x y k:Nat)(dk:Array Ent)(W:World)(z:dk.size=d.size)(h1:SE w0 blk off dk W)(h2:x+k<=y)(h3:y+k<=dk.size)=>swapRange_any blk off cap x y k d0 dk w0 W fv R (by omega) h1 h2 h3 (by omega);have SR:Aside _:=sr;clear sr;go_enter func266,ntmps266
 go_wp2
 go_loopg [10,11] (b-a) (fun kx s10 s11 wr=>∃(i j:Nat)(dk:Array Ent),s10=.int .i64 i/\s11=.int .i64 j/\1<=i/\1<=j/\a+i<=m/\m+j<=b/\i+j<=kx/\dk.size=d.size/\Aside (SE w0 blk off dk wr)/\Aside (∀t,rotF (fun t=>dk[t]!) (m-i) m (m+j) t=rotF (fun t=>d[t]!) a m b t)/\Aside (PermIn a b d dk))
 case atStart=>exact⟨m-a,b-m,d,by congr 1;omega,by congr 1;omega,by omega,by omega,by omega,by omega,by omega,rfl,S0,(fun t=>by rw[show m-(m-a)=a by omega,show m+(b-m)=b by omega]:∀t,rotF (fun t=>d[t]!) (m-(m-a)) m (m+(b-m)) t=rotF (fun t=>d[t]!) a m b t),permIn_refl d a b⟩
 case round=>
  obtain⟨i,j,dk,rfl,rfl,hi,hj,him,hjb,hkx,hds,S1,G1,P1⟩:=hrel;clear S0;have wi:(m:Int)-(i:Int)=((m-i:Nat):Int):=by omega
  by_cases c:i=j
  ·subst c
   go_wp2_with fail
   rw[<-hds];refine(SR.out (m-i) m i dk wr hds S1.out (by omega) (by omega)).mono ?_;rintro e w1 ⟨rfl,d1,z1,s1,g1,p1⟩
   go_wp2
   go_end0
   refine⟨rfl,d1,by omega,s1,fun t=>?_,permIn_trans _ _ _ _ _ P1.out (p1 a b (by omega) (by omega) (by omega))⟩;rw[g1 t,rot_eq _ _ _ _ (by omega)];exact G1.out t
  ·have cz:¬(i:Int)=(j:Int):=by omega
   by_cases c2:j<i
   ·have c2z:(j:Int)<(i:Int):=by omega
    go_wp2_with fail
    rw[<-hds];refine(SR.out (m-i) m j dk wr hds S1.out (by omega) (by omega)).mono ?_;rintro e w1 ⟨rfl,d1,z1,s1,g1,p1⟩;have S2:Aside _:=s1;have G2:Aside _:=g1;have P2:Aside _:=p1;clear s1 g1 p1 S1
    go_wp2
    go_roundg (i+j-j)
    case measure=>omega
    case rel=>
     refine⟨i-j,j,d1,by congr 1;omega,rfl,by omega,by omega,by omega,by omega,by omega,by omega,S2,(fun t=>?_:∀t,rotF (fun t=>d1[t]!) (m-(i-j)) m (m+j) t=rotF (fun t=>d[t]!) a m b t),permIn_trans _ _ _ _ _ P1.out (P2.out a b (by omega) (by omega) (by omega))⟩;rw[rotF_congr G2.out,rot_gt _ _ _ _ _ c2 (by omega)];exact G1.out t
   ·have c2z:¬(j:Int)<(i:Int):=by omega
    have wj:(m:Int)+(j:Int)-(i:Int)=((m+j-i:Nat):Int):=by omega
    go_wp2_with fail
    rw[<-hds];refine(SR.out (m-i) (m+j-i) i dk wr hds S1.out (by omega) (by omega)).mono ?_;rintro e w1 ⟨rfl,d1,z1,s1,g1,p1⟩;have S2:Aside _:=s1;have G2:Aside _:=g1;have P2:Aside _:=p1;clear s1 g1 p1 S1
    go_wp2
    go_roundg (i+j-i)
    case measure=>omega
    case rel=>
     refine⟨i,j-i,d1,rfl,by congr 1;omega,by omega,by omega,by omega,by omega,by omega,by omega,S2,(fun t=>?_:∀t,rotF (fun t=>d1[t]!) (m-i) m (m+(j-i)) t=rotF (fun t=>d[t]!) a m b t),permIn_trans _ _ _ _ _ P1.out (P2.out a b (by omega) (by omega) (by omega))⟩;rw[rotF_congr G2.out,rot_lt _ _ _ _ _ (by omega) (by omega)];exact G1.out t
def Grown(w w':World):Prop:=∃q os,w'=grow (w.drewN q) os
theorem Grown.refl(w:World):Grown w w:=⟨0,#[],by rw[grow_empty];rfl⟩
theorem Grown.trans{u v w:World}(h:Grown u v)(k:Grown v w):Grown u w:=by
 obtain⟨q,os,rfl⟩:=h;obtain⟨q',os',rfl⟩:=k;exact⟨q+q',os++os',by show grow (grow ((u.drewN q).drewN q') os) os'=_;rw[grow_grow,World.drewN_drewN]⟩
theorem Grown.alloc{u v:World}(h:Grown u v)(o:Obj):Grown u (v.alloc o):=h.trans ⟨0,#[o],by rw[alloc_eq_grow];rfl⟩
theorem Grown.drewN{u v:World}(h:Grown u v)(q:Nat):Grown u (v.drewN q):=h.trans ⟨q,#[],by rw[grow_empty]⟩
theorem Grown.below{u v:World}(h:Grown u v):Below u.heap.size u v:=by
 obtain⟨q,os,rfl⟩:=h;exact⟨rfl,rfl,rfl,by simp[grow],fun k hk=>heap_grow_old _ _ hk⟩
theorem Grown.cells{u v:World}(h:Grown u v)(b o:Nat)(hb:b<u.heap.size):v.cell? ⟨b,o,none⟩=u.cell? ⟨b,o,none⟩:=h.below.cell (p:=⟨b,o,none⟩) hb
def cfE(x y:Ent):Int:=if ltE x y then -1 else if ltE y x then 1 else 0
theorem ltOf_cfE(x y:Ent):decide (cfE x y<0)=ltE x y:=by
 unfold cfE
 cases h:ltE x y<;>cases h':ltE y x<;>simp
theorem cfE_neg(x y:Ent)(h:ltE x y=true):cfE x y<0:=of_decide_eq_true ((ltOf_cfE x y).trans h)
theorem cfE_not(x y:Ent)(h:ltE x y=false):¬cfE x y<0:=of_decide_eq_false ((ltOf_cfE x y).trans h)
theorem less_any(x y:Ent)(w:World) :
  Calls prog 210 #[.agg #[.int .u64 x.1,.int .i64 x.2],.agg #[.int .u64 y.1,.int .i64 y.2]] w fun e w'=>e=.returned (.bool (ltE x y))/\Grown w w':=by
 obtain⟨k1,i1⟩:=x;obtain⟨k2,i2⟩:=y;by_cases h:k1=k2
 ·have e:ltE (k1,i1) (k2,i2)=decide (i1<i2):=by unfold ltE;rw[if_pos h]
  rw[e];clear e;go_enter func210,ntmps210
  go_wp2
  go_ret;exact⟨rfl,((Grown.refl w).alloc _).alloc _⟩
 ·have e:ltE (k1,i1) (k2,i2)=decide (k1<k2):=by unfold ltE;rw[if_neg h]
  rw[e];clear e;go_enter func210,ntmps210
  go_wp2
  go_ret;exact⟨rfl,((Grown.refl w).alloc _).alloc _⟩
theorem cmp_any(x y:Ent)(w:World) :
  Calls prog 226 #[.agg #[.int .u64 x.1,.int .i64 x.2],.agg #[.int .u64 y.1,.int .i64 y.2]] w fun e w'=>e=.returned (.int .i64 (cfE x y))/\Grown w w':=by
 obtain⟨B,hB⟩:∃B,ltE x y=B:=⟨_,rfl⟩;obtain⟨C,hC⟩:∃C,ltE y x=C:=⟨_,rfl⟩;have HC:Hid (cfE x y=if B then -1 else if C then 1 else 0):=by show cfE x y=_;unfold cfE;rw[hB,hC]
 have l1:=fun w=>less_any x y w;have l2:=fun w=>less_any y x w;rw[hB] at l1;rw[hC] at l2;go_enter func226,ntmps226
 go_wp2_with fail
 refine(l1 _).mono ?_;rintro e w1 ⟨rfl,g1⟩;have hc:=g1.cells
 cases B with
 | true=>
  go_wp2_with fail
  go_ret;exact⟨by rw[HC.out];rfl,(((Grown.refl w).alloc _).alloc _).trans g1⟩
 | false=>
  go_wp2_with fail
  refine(l2 _).mono ?_;rintro e w2 ⟨rfl,g2⟩
  cases C with
  | true=>
   go_wp2_with fail
   go_ret;exact⟨by rw[HC.out];rfl,((((Grown.refl w).alloc _).alloc _).trans g1).trans g2⟩
  | false=>
   go_wp2_with fail
   go_ret;exact⟨by rw[HC.out];rfl,((((Grown.refl w).alloc _).alloc _).trans g1).trans g2⟩
theorem cmp_grown(x y:Ent)(w:World)(n:Nat)(os:Array Obj) :
  Calls prog 226 #[.agg #[.int .u64 x.1,.int .i64 x.2],.agg #[.int .u64 y.1,.int .i64 y.2]] (grow (w.drewN n) os) fun e w'=>e=.returned (.int .i64 (cfE x y))/\∃p:GrownBy,w'=grow (w.drewN p.n) p.os:=
 Calls.grown_of (cmp_any x y _)
set_option maxRecDepth 1000000 in
theorem symL_any(blk off cap a m b:Nat)(d0 d:Array Ent)(w0 w:World)(R:RE w0 blk off d0)(hs:d0.size=d.size)(S:SE w0 blk off d w)(hm:m=a+1)(hmb:m<=b)(hb:b<=d.size)(hsz:d.size<1152921504606846976)(hR:SortedIn ltE m b d) :
  Calls prog 261 #[.slice (some ⟨blk,off,none⟩) d.size cap,.int .i64 a,.int .i64 m,.int .i64 b,.func (.func 226) #[] #[]] w fun e w'=>e=.returned (.tuple #[])/\
   ∃d':Array Ent,SE w0 blk off d' w'/\PermIn a b d d'/\SortedIn ltE a b d':=by
 have S0:Aside _:=S;have HR:Aside _:=hR;clear S hR;have am:(m:Int)-(a:Int)=1:=by omega
 have HM:Hid _:=hm;have l0:a<m:=by omega
 clear hm;have mx:=mixed;go_enter func261,ntmps261
 go_wp2_with fail
 go_loopg [10,11] (b-m) (fun kx s10 s11 wr=>∃i j:Nat,s10=.int .i64 i/\s11=.int .i64 j/\m<=i/\i<=j/\j<=b/\j-i<=kx/\Aside (SE w0 blk off d wr)/\Aside (i=m\/ltE d[i-1]! d[a]! = true)/\Aside (j=b\/ltE d[j]! d[a]! = false))
 case atStart=>exact⟨m,b,rfl,rfl,le_refl _,hmb,le_refl _,le_refl _,S0,.inl rfl,.inl rfl⟩
 case round=>
  obtain⟨i,j,rfl,rfl,hi,hij,hjb,hkx,S1,A1,A2⟩:=hrel;clear S0;by_cases hlt:i<j
  ·obtain⟨h,hh⟩:∃h:Nat,((i:Int)+(j:Int))/2=(h:Int):=⟨(i+j)/2,by omega⟩;have l1:i<=h:=by omega
   have l2:h<j:=by omega
   obtain⟨x,hx⟩:∃x,d[h]! = x:=⟨_,rfl⟩;obtain⟨y,hy⟩:∃y,d[a]! = y:=⟨_,rfl⟩;have c1:∀n os,(grow (wr.drewN n) os).cell? ⟨blk,off+h*2,none⟩=some (.int .u64 x.1):=fun n os=>by rw[<-hx];exact se_c0 (S1.out.grown n os) R (by omega) (by omega)
   have c2:∀n os,(grow (wr.drewN n) os).cell? ⟨blk,off+h*2+1,none⟩=some (.int .i64 x.2):=fun n os=>by rw[<-hx];exact se_c1 (S1.out.grown n os) R (by omega) (by omega)
   have c3:∀n os,(grow (wr.drewN n) os).cell? ⟨blk,off+a*2,none⟩=some (.int .u64 y.1):=fun n os=>by rw[<-hy];exact se_c0 (S1.out.grown n os) R (by omega) (by omega)
   have c4:∀n os,(grow (wr.drewN n) os).cell? ⟨blk,off+a*2+1,none⟩=some (.int .i64 y.2):=fun n os=>by rw[<-hy];exact se_c1 (S1.out.grown n os) R (by omega) (by omega)
   have hz:(h:Int)<(d.size:Int):=by omega
   have az:(a:Int)<(d.size:Int):=by omega
   cases hL:ltE x y with
   | true=>
    have hv:=cfE_neg x y hL;have hd:decide (cfE x y<0)=true:=decide_eq_true hv;have HL:Hid (ltE d[h]! d[a]! = true):=by show ltE d[h]! d[a]! = true;rw[hx,hy];exact hL
    clear hx hy hL
    go_wp2_with fail
    go_quiet_grown (first|(go_at_call 226;exact cmp_grown x y _ _ _))
    have S2:Aside (SE w0 blk off d (grow (wr.drewN nq) osq)):=S1.out.grown nq osq;clear c1 c2 c3 c4 S1 hh;generalize grow (wr.drewN nq) osq=w2 at S2⊢
    go_wp2
    go_roundg (j-(h+1))
    case measure=>omega
    case rel=>exact⟨h+1,j,by go_num,rfl,by omega,by omega,hjb,le_refl _,S2,.inr HL.out,A2⟩
   | false=>
    have hv:=cfE_not x y hL;have hd:decide (cfE x y<0)=false:=decide_eq_false hv;have HL:Hid (ltE d[h]! d[a]! = false):=by show ltE d[h]! d[a]! = false;rw[hx,hy];exact hL
    clear hx hy hL
    go_wp2_with fail
    go_quiet_grown (first|(go_at_call 226;exact cmp_grown x y _ _ _))
    have S2:Aside (SE w0 blk off d (grow (wr.drewN nq) osq)):=S1.out.grown nq osq;clear c1 c2 c3 c4 S1 hh;generalize grow (wr.drewN nq) osq=w2 at S2⊢
    go_wp2
    go_roundg (h-i)
    case measure=>omega
    case rel=>exact⟨i,h,rfl,rfl,hi,l1,by omega,le_refl _,S2,A1,.inr HL.out⟩
  ·obtain rfl:i=j:=by omega
   go_wp2_with fail
   go_loopg [13] (i-1-a) (fun kx s13 wr2=>∃(k:Nat)(dk:Array Ent),s13=.int .i64 k/\a<=k/\k<=i-1/\i-1-k<=kx/\dk.size=d.size/\Aside (SE w0 blk off dk wr2)/\Aside (∀t,dk[t]! = if a<=t/\t<k then d[t+1]! else if t=k then d[a]! else d[t]!)/\Aside (PermIn a b d dk))
   case atStart=>
    refine⟨a,d,rfl,le_refl _,by omega,le_refl _,rfl,S1,(fun t=>?_:∀t,d[t]! = if a<=t/\t<a then d[t+1]! else if t=a then d[a]! else d[t]!),permIn_refl d a b⟩;rw[if_neg (by omega)]
    split
    ·next e=>rw[e]
    ·rfl
   case round=>
    obtain⟨k,dk,rfl,hak,hki,hkx2,hds,S2,G2,P2⟩:=hrel;by_cases hk:k<i-1
    ·have kz:(k:Int)<(i:Int)-1:=by omega
     have kz1:(k:Int)+1<(d.size:Int):=by omega
     have kz0:(k:Int)<(d.size:Int):=by omega
     have e1:((k:Int)+1).toNat=k+1:=by omega
     have p1:(0:Int)<=(k:Int)+1:=by omega
     obtain⟨x,hx⟩:∃x,dk[k]! = x:=⟨_,rfl⟩;obtain⟨y,hy⟩:∃y,dk[k+1]! = y:=⟨_,rfl⟩;have c1:=se_c0 S2.out R (by omega) (show k<dk.size by omega);have c2:=se_c1 S2.out R (by omega) (show k<dk.size by omega);have c3:=se_c0 S2.out R (by omega) (show k+1<dk.size by omega);have c4:=se_c1 S2.out R (by omega) (show k+1<dk.size by omega);have f1:=se_f0 S2.out R (by omega) (show k<dk.size by omega);have f2:=se_f1 S2.out R (by omega) (show k<dk.size by omega);have f3:=se_f0 S2.out R (by omega) (show k+1<dk.size by omega);have f4:=se_f1 S2.out R (by omega) (show k+1<dk.size by omega);have sw:=se_swap S2.out R (show k<dk.size by omega) (show k+1<dk.size by omega);rw[hx] at c1 c2 sw;rw[hy] at c3 c4 sw;have S3:Aside _:=sw;clear sw S2 hx hy
     go_wp2_with fail
     go_region
     clear c1 c2 c3 c4 f1 f2 f3 f4;generalize World.drew _=w3 at S3⊢
     go_wp2
     go_roundg (i-1-(k+1))
     case measure=>omega
     case rel=>
      refine⟨k+1,swp dk k (k+1),by go_num,by omega,by omega,le_refl _,by rw[size_swp];exact hds,S3,(fun t=>?_:∀t,(swp dk k (k+1))[t]! = if a<=t/\t<k+1 then d[t+1]! else if t=k+1 then d[a]! else d[t]!),permIn_trans _ _ _ _ _ P2.out (swp_permIn dk a b _ _ (by omega) (by omega) (by omega) (by omega) (by omega))⟩;have g:=G2.out;have ga:dk[k]! = d[a]!:=by rw[g,if_neg (by omega),if_pos rfl]
      have gb:dk[k+1]! = d[k+1]!:=by rw[g,if_neg (by omega),if_neg (by omega)]
      rw[swp_get dk (by omega) (by omega),ga,gb,g t];by_cases t1:t=k+1
      ·subst t1;rw[if_pos rfl,if_neg (by omega),if_pos rfl]
      ·rw[if_neg t1];by_cases t2:t=k
       ·subst t2;rw[if_pos rfl,if_pos (by omega)]
       ·rw[if_neg t2,if_neg t2,if_neg t1];by_cases t3:a<=t/\t<k
        ·rw[if_pos t3,if_pos (by omega)]
        ·rw[if_neg t3,if_neg (by omega)]
    ·have kz:¬(k:Int)<(i:Int)-1:=by omega
     obtain rfl:k=i-1:=by omega
     go_wp2_with fail
     (try simp only[Exit.inBlock,Exit.then]);refine bodyPost_ret (results_none rfl _ _ _) rfl ?_
     have hm:=HM.out;subst hm;exact⟨rfl,dk,S2.out,P2.out,ins_left swoE HR.out hi hjb A1.out A2.out G2.out⟩
set_option maxRecDepth 1000000 in
theorem symR_any(blk off cap a m b:Nat)(d0 d:Array Ent)(w0 w:World)(R:RE w0 blk off d0)(hs:d0.size=d.size)(S:SE w0 blk off d w)(ham:a+1<m)(hm:b=m+1)(hb:b<=d.size)(hsz:d.size<1152921504606846976)(hL:SortedIn ltE a m d) :
  Calls prog 261 #[.slice (some ⟨blk,off,none⟩) d.size cap,.int .i64 a,.int .i64 m,.int .i64 b,.func (.func 226) #[] #[]] w fun e w'=>e=.returned (.tuple #[])/\
   ∃d':Array Ent,SE w0 blk off d' w'/\PermIn a b d d'/\SortedIn ltE a b d':=by
 have S0:Aside _:=S;have HS:Aside _:=hL;clear S hL;have am:¬(m:Int)-(a:Int)=1:=by omega
 have am2:((m:Int)-(a:Int)==1)=false:=by simpa using am
 have bm:(b:Int)-(m:Int)=1:=by omega
 have HM:Hid _:=hm;have l0:m<b:=by omega
 clear hm;have mx:=mixed;go_enter func261,ntmps261
 go_wp2_with fail
 clear am bm am2
 go_loopg [14,15] (m-a) (fun kx s14 s15 wr=>∃i j:Nat,s14=.int .i64 i/\s15=.int .i64 j/\a<=i/\i<=j/\j<=m/\j-i<=kx/\Aside (SE w0 blk off d wr)/\Aside (i=a\/ltE d[m]! d[i-1]! = false)/\Aside (j=m\/ltE d[m]! d[j]! = true))
 case atStart=>exact⟨a,m,rfl,rfl,le_refl _,by omega,le_refl _,le_refl _,S0,.inl rfl,.inl rfl⟩
 case round=>
  obtain⟨i,j,rfl,rfl,hi,hij,hjb,hkx,S1,A1,A2⟩:=hrel;clear S0;by_cases hlt:i<j
  ·obtain⟨h,hh⟩:∃h:Nat,((i:Int)+(j:Int))/2=(h:Int):=⟨(i+j)/2,by omega⟩;have l1:i<=h:=by omega
   have l2:h<j:=by omega
   obtain⟨x,hx⟩:∃x,d[m]! = x:=⟨_,rfl⟩;obtain⟨y,hy⟩:∃y,d[h]! = y:=⟨_,rfl⟩;have c1:∀n os,(grow (wr.drewN n) os).cell? ⟨blk,off+m*2,none⟩=some (.int .u64 x.1):=fun n os=>by rw[<-hx];exact se_c0 (S1.out.grown n os) R (by omega) (by omega)
   have c2:∀n os,(grow (wr.drewN n) os).cell? ⟨blk,off+m*2+1,none⟩=some (.int .i64 x.2):=fun n os=>by rw[<-hx];exact se_c1 (S1.out.grown n os) R (by omega) (by omega)
   have c3:∀n os,(grow (wr.drewN n) os).cell? ⟨blk,off+h*2,none⟩=some (.int .u64 y.1):=fun n os=>by rw[<-hy];exact se_c0 (S1.out.grown n os) R (by omega) (by omega)
   have c4:∀n os,(grow (wr.drewN n) os).cell? ⟨blk,off+h*2+1,none⟩=some (.int .i64 y.2):=fun n os=>by rw[<-hy];exact se_c1 (S1.out.grown n os) R (by omega) (by omega)
   have hz:(h:Int)<(d.size:Int):=by omega
   have az:(m:Int)<(d.size:Int):=by omega
   cases hL:ltE x y with
   | true=>
    have hv:=cfE_neg x y hL;have hd:decide (cfE x y<0)=true:=decide_eq_true hv;have HL:Hid (ltE d[m]! d[h]! = true):=by show ltE d[m]! d[h]! = true;rw[hx,hy];exact hL
    clear hx hy hL
    go_wp2_with fail
    go_quiet_grown (first|(go_at_call 226;exact cmp_grown x y _ _ _))
    have S2:Aside (SE w0 blk off d (grow (wr.drewN nq) osq)):=S1.out.grown nq osq;clear c1 c2 c3 c4 S1 hh;generalize grow (wr.drewN nq) osq=w2 at S2⊢
    go_wp2
    go_roundg (h-i)
    case measure=>omega
    case rel=>exact⟨i,h,rfl,rfl,hi,l1,by omega,le_refl _,S2,A1,.inr HL.out⟩
   | false=>
    have hv:=cfE_not x y hL;have hd:decide (cfE x y<0)=false:=decide_eq_false hv;have HL:Hid (ltE d[m]! d[h]! = false):=by show ltE d[m]! d[h]! = false;rw[hx,hy];exact hL
    clear hx hy hL
    go_wp2_with fail
    go_quiet_grown (first|(go_at_call 226;exact cmp_grown x y _ _ _))
    have S2:Aside (SE w0 blk off d (grow (wr.drewN nq) osq)):=S1.out.grown nq osq;clear c1 c2 c3 c4 S1 hh;generalize grow (wr.drewN nq) osq=w2 at S2⊢
    go_wp2
    go_roundg (j-(h+1))
    case measure=>omega
    case rel=>exact⟨h+1,j,by go_num,rfl,by omega,by omega,hjb,le_refl _,S2,.inr HL.out,A2⟩
  ·obtain rfl:i=j:=by omega
   go_wp2_with fail
   go_loopg [17] (m-i) (fun kx s17 wr2=>∃(k:Nat)(dk:Array Ent),s17=.int .i64 k/\i<=k/\k<=m/\k-i<=kx/\dk.size=d.size/\Aside (SE w0 blk off dk wr2)/\Aside (∀t,dk[t]! = if k<t/\t<=m then d[t-1]! else if t=k then d[m]! else d[t]!)/\Aside (PermIn a b d dk))
   case atStart=>
    refine⟨m,d,rfl,by omega,le_refl _,le_refl _,rfl,S1,(fun t=>?_:∀t,d[t]! = if m<t/\t<=m then d[t-1]! else if t=m then d[m]! else d[t]!),permIn_refl d a b⟩;rw[if_neg (by omega)]
    split
    ·next e=>rw[e]
    ·rfl
   case round=>
    obtain⟨k,dk,rfl,hak,hki,hkx2,hds,S2,G2,P2⟩:=hrel;by_cases hk:i<k
    ·obtain⟨l,rfl⟩:∃l,k=l+1:=⟨k-1,by omega⟩;have kz:(i:Int)<(l:Int)+1:=by omega
     have kz1:(l:Int)+1<(d.size:Int):=by omega
     have kz0:(l:Int)<(d.size:Int):=by omega
     have e1:((l:Int)+1).toNat=l+1:=by omega
     have p1:(0:Int)<=(l:Int)+1:=by omega
     have wl:IntKind.i64.wrap (l:Int)=(l:Int):=by rw[IntKind.wrap_i64];omega
     obtain⟨x,hx⟩:∃x,dk[l+1]! = x:=⟨_,rfl⟩;obtain⟨y,hy⟩:∃y,dk[l]! = y:=⟨_,rfl⟩;have c1:=se_c0 S2.out R (by omega) (show l+1<dk.size by omega);have c2:=se_c1 S2.out R (by omega) (show l+1<dk.size by omega);have c3:=se_c0 S2.out R (by omega) (show l<dk.size by omega);have c4:=se_c1 S2.out R (by omega) (show l<dk.size by omega);have f1:=se_f0 S2.out R (by omega) (show l+1<dk.size by omega);have f2:=se_f1 S2.out R (by omega) (show l+1<dk.size by omega);have f3:=se_f0 S2.out R (by omega) (show l<dk.size by omega);have f4:=se_f1 S2.out R (by omega) (show l<dk.size by omega);have sw:=se_swap S2.out R (show l+1<dk.size by omega) (show l<dk.size by omega);rw[hx] at c1 c2 sw;rw[hy] at c3 c4 sw;have S3:Aside _:=sw;clear sw S2 hx hy
     go_wp2_with fail
     go_region
     clear c1 c2 c3 c4 f1 f2 f3 f4;generalize World.drew _=w3 at S3⊢
     go_wp2
     go_roundg (l-i)
     case measure=>omega
     case rel=>
      refine⟨l,swp dk (l+1) l,by first|rfl|go_num,by omega,by omega,le_refl _,by rw[size_swp];exact hds,S3,(fun t=>?_:∀t,(swp dk (l+1) l)[t]! = if l<t/\t<=m then d[t-1]! else if t=l then d[m]! else d[t]!),permIn_trans _ _ _ _ _ P2.out (swp_permIn dk a b _ _ (by omega) (by omega) (by omega) (by omega) (by omega))⟩;have g:=G2.out;have ga:dk[l+1]! = d[m]!:=by rw[g,if_neg (by omega),if_pos rfl]
      have gb:dk[l]! = d[l]!:=by rw[g,if_neg (by omega),if_neg (by omega)]
      rw[swp_get dk (by omega) (by omega),ga,gb,g t];by_cases t1:t=l
      ·subst t1;rw[if_pos rfl,if_neg (by omega),if_pos rfl]
      ·rw[if_neg t1];by_cases t2:t=l+1
       ·subst t2;rw[if_pos rfl,if_pos (by omega)];rfl
       ·rw[if_neg t2,if_neg t2,if_neg t1];by_cases t3:l+1<t/\t<=m
        ·rw[if_pos t3,if_pos (by omega)]
        ·rw[if_neg t3,if_neg (by omega)]
    ·have kz:¬(i:Int)<(k:Int):=by omega
     obtain rfl:i=k:=by omega
     go_wp2_with fail
     (try simp only[Exit.inBlock,Exit.then]);refine bodyPost_ret (results_none rfl _ _ _) rfl ?_
     have hm:=HM.out;subst hm;exact⟨rfl,dk,S2.out,P2.out,ins_right swoE HS.out hi hjb A1.out A2.out G2.out⟩
def SymPost(w0:World)(blk off a b:Nat)(d:Array Ent)(e:Ending)(w':World):Prop:=e=.returned (.tuple #[])/\∃d':Array Ent,SE w0 blk off d' w'/\PermIn a b d d'/\SortedIn ltE a b d'
theorem Halves.rest{lt:Ent->Ent->Bool}{a s mid e b:Nat}{d d2:Array Ent}(H:Halves lt a s mid e b d)(p2:PermIn a mid d d2)(hme:mid<=e)(c:e=mid\/e=b):SortedIn lt mid b d2:=by
 rcases H.right p2 with⟨r3,r4⟩|h
 ·rcases c with rfl|rfl
  ·exact r4
  ·exact r3
 ·omega
set_option maxRecDepth 1000000 in
theorem symM_step(blk off cap a m b:Nat)(d0 d:Array Ent)(w0 w:World)(R:RE w0 blk off d0)(hs:d0.size=d.size)(S:SE w0 blk off d w)(ham:a+1<m)(hmb:m+1<b)(hb:b<=d.size)(hsz:d.size<1152921504606846976)(hL:SortedIn ltE a m d)(hR:SortedIn ltE m b d)
  (ih:∀(a' m' b':Nat)(d':Array Ent)(W:World),b'-a'<b-a->d'.size=d.size->SE w0 blk off d' W->a'<m'->m'<b'->b'<=d.size->SortedIn ltE a' m' d'->SortedIn ltE m' b' d'->
   Calls prog 261 #[.slice (some ⟨blk,off,none⟩) d.size cap,.int .i64 a',.int .i64 m',.int .i64 b',.func (.func 226) #[] #[]] W (SymPost w0 blk off a' b' d')) :
  Calls prog 261 #[.slice (some ⟨blk,off,none⟩) d.size cap,.int .i64 a,.int .i64 m,.int .i64 b,.func (.func 226) #[] #[]] w (SymPost w0 blk off a b d):=by
 have rc:=fun(s e:Nat)(W:World)(h1:SE w0 blk off d W)(h2:s<m)(h3:m<e)(h4:e<=b)=>rotate_any blk off cap s m e d0 d w0 W (.func (.func 226) #[] #[]) R hs h1 h2 h3 (by omega) hsz;have RC:Aside _:=rc;have IH:Aside _:=ih;have S0:Aside _:=S;have HL:Aside _:=hL;have HR:Aside _:=hR;clear S hL hR ih rc;have am:¬(m:Int)-(a:Int)=1:=by omega
 have am2:((m:Int)-(a:Int)==1)=false:=by simpa using am
 have bm:¬(b:Int)-(m:Int)=1:=by omega
 have bm2:((b:Int)-(m:Int)==1)=false:=by simpa using bm
 have mx:=mixed;obtain⟨mid,hmid⟩:∃mid:Nat,((a:Int)+(b:Int))/2=(mid:Int):=⟨(a+b)/2,by omega⟩;obtain⟨N,hN⟩:∃N:Nat,(mid:Int)+(m:Int)=(N:Int):=⟨mid+m,by omega⟩;obtain⟨P,hP⟩:∃P:Nat,(N:Int)-1=(P:Int):=⟨N-1,by omega⟩;have amid:a<mid:=by omega
 have midb:mid<b:=by omega
 have two1:2*mid<=a+b:=by omega
 have two2:a+b<=2*mid+1:=by omega
 have HN:Hid (N=mid+m):=by show N=mid+m;omega
 have HP:Hid (P+1=N):=by show P+1=N;omega
 obtain⟨lo,hi,hc⟩:∃lo hi:Nat,(mid<m/\lo+b=N/\hi=mid)\/(¬mid<m/\lo=a/\hi=m):=by
  by_cases c:mid<m
  ·exact⟨N-b,mid,.inl ⟨c,by omega,rfl⟩⟩
  ·exact⟨a,m,.inr ⟨c,rfl,rfl⟩⟩
 have HC:Hid _:=hc;have lo1:a<=lo:=by omega
 have lo2:lo<=hi:=by omega
 have hi1:hi<=mid:=by omega
 have hi2:hi<=m:=by omega
 have loN:N<=lo+b:=by omega
 go_enter func261,ntmps261
 go_upto_if 140 with fail
 go_cut [20,21] from 140 to 146 (fun s r wr=>s=.int .i64 lo/\r=.int .i64 hi/\wr=w)
 case first=>
  rcases hc with⟨c,c1,c2⟩|⟨c,c1,c2⟩
  ·have cz:(mid:Int)<(m:Int):=by omega
   have hlo:(N:Int)-(b:Int)=(lo:Int):=by omega
   clear c1 HC;subst c2
   go_wp2_with fail
   go_meet
   exact⟨rfl,rfl,rfl⟩
  ·have cz:¬(mid:Int)<(m:Int):=by omega
   have C1:Hid _:=c1;have C2:Hid _:=c2;clear HC c1 c2
   go_wp2_with fail
   go_meet
   exact⟨by rw[C1.out],by rw[C2.out],rfl⟩
 case rest=>
  obtain⟨rfl,rfl,rfl⟩:=hcut;clear hc am am2 bm bm2
  go_wp2_with fail
  go_loopg [20,21] (hi-lo) (fun kx s20 s21 wr=>∃i j:Nat,s20=.int .i64 i/\s21=.int .i64 j/\lo<=i/\i<=j/\j<=hi/\j-i<=kx/\Aside (SE w0 blk off d wr)/\Aside (i=lo\/ltE d[P-(i-1)]! d[i-1]! = false)/\Aside (j=hi\/ltE d[P-j]! d[j]! = true))
  case atStart=>exact⟨lo,hi,rfl,rfl,le_refl _,lo2,le_refl _,le_refl _,S0,.inl rfl,.inl rfl⟩
  case round=>
   obtain⟨i,j,rfl,rfl,hil,hij,hjb,hkx,S1,A1,A2⟩:=hrel;clear S0;by_cases hlt:i<j
   ·obtain⟨c,hc⟩:∃c:Nat,((i:Int)+(j:Int))/2=(c:Int):=⟨(i+j)/2,by omega⟩;have l1:i<=c:=by omega
    have l2:c<j:=by omega
    obtain⟨q,hq⟩:∃q:Nat,(P:Int)-(c:Int)=(q:Int):=⟨P-c,by omega⟩;have hq2:Hid (P-c=q):=by show P-c=q;omega
    have q1:q<d.size:=by omega
    have wq:IntKind.i64.wrap (q:Int)=(q:Int):=by rw[IntKind.wrap_i64];omega
    have q2:(q:Int)<(d.size:Int):=by omega
    have cz:(c:Int)<(d.size:Int):=by omega
    obtain⟨x,hx⟩:∃x,d[q]! = x:=⟨_,rfl⟩;obtain⟨y,hy⟩:∃y,d[c]! = y:=⟨_,rfl⟩;have c1:∀n os,(grow (wr.drewN n) os).cell? ⟨blk,off+q*2,none⟩=some (.int .u64 x.1):=fun n os=>by rw[<-hx];exact se_c0 (S1.out.grown n os) R (by omega) (by omega)
    have c2:∀n os,(grow (wr.drewN n) os).cell? ⟨blk,off+q*2+1,none⟩=some (.int .i64 x.2):=fun n os=>by rw[<-hx];exact se_c1 (S1.out.grown n os) R (by omega) (by omega)
    have c3:∀n os,(grow (wr.drewN n) os).cell? ⟨blk,off+c*2,none⟩=some (.int .u64 y.1):=fun n os=>by rw[<-hy];exact se_c0 (S1.out.grown n os) R (by omega) (by omega)
    have c4:∀n os,(grow (wr.drewN n) os).cell? ⟨blk,off+c*2+1,none⟩=some (.int .i64 y.2):=fun n os=>by rw[<-hy];exact se_c1 (S1.out.grown n os) R (by omega) (by omega)
    cases hLt:ltE x y with
    | true=>
     have hv:=cfE_neg x y hLt;have hd:decide (cfE x y<0)=true:=decide_eq_true hv;have HB:Hid (ltE d[P-c]! d[c]! = true):=by show ltE d[P-c]! d[c]! = true;rw[hq2.out,hx,hy];exact hLt
     clear hx hy hLt
     go_wp2_with fail
     go_quiet_grown (first|(go_at_call 226;exact cmp_grown x y _ _ _))
     have S2:Aside (SE w0 blk off d (grow (wr.drewN nq) osq)):=S1.out.grown nq osq;clear c1 c2 c3 c4 S1 hc;generalize grow (wr.drewN nq) osq=w2 at S2⊢
     go_wp2
     go_roundg (c-i)
     case measure=>omega
     case rel=>exact⟨i,c,rfl,rfl,hil,l1,by omega,le_refl _,S2,A1,.inr HB.out⟩
    | false=>
     have hv:=cfE_not x y hLt;have hd:decide (cfE x y<0)=false:=decide_eq_false hv;have HB:Hid (ltE d[P-c]! d[c]! = false):=by show ltE d[P-c]! d[c]! = false;rw[hq2.out,hx,hy];exact hLt
     clear hx hy hLt
     go_wp2_with fail
     go_quiet_grown (first|(go_at_call 226;exact cmp_grown x y _ _ _))
     have S2:Aside (SE w0 blk off d (grow (wr.drewN nq) osq)):=S1.out.grown nq osq;clear c1 c2 c3 c4 S1 hc;generalize grow (wr.drewN nq) osq=w2 at S2⊢
     go_wp2
     go_roundg (j-(c+1))
     case measure=>omega
     case rel=>exact⟨c+1,j,by go_num,rfl,by omega,by omega,hjb,le_refl _,S2,.inr HB.out,A2⟩
   ·obtain rfl:i=j:=by omega
    obtain⟨e,he⟩:∃e:Nat,(N:Int)-(i:Int)=(e:Int):=⟨N-i,by omega⟩;have e1:mid<=e:=by omega
    have e2:m<=e:=by omega
    have e3:e<=b:=by omega
    have e4:Hid (mid+m-i=e):=by have:=HN.out;show mid+m-i=e;omega
    have e5:e+i=mid+m:=by have:=HN.out;omega
    have ai:a<=i:=by omega
    have im:i<=m:=by omega
    have id:i<=mid:=by omega
    have HV:Aside (∀d1:Array Ent,(∀t,d1[t]! = rotF (fun t=>d[t]!) i m e t)->Halves ltE a i mid e b d1):=by
     intro d1 h1;have k1:=HC.out;have k2:=HN.out;have k3:=HP.out;have k4:=e4.out
     have h:=halves (mid:=mid) (s:=i) (lo:=lo) (hi:=hi) (d:=d) (d':=d1) swoE HL.out HR.out (by omega) (by omega) ai im id (by omega) (by omega) (by omega) (by omega)
      (by
       by_cases z:i=lo
       ·exact .inl z
       ·refine .inr ?_;rw[show mid+m-i=P-(i-1) by omega];exact A1.out.resolve_left z)
      (by
       by_cases z:i=hi
       ·exact .inl z
       ·refine .inr ?_;rw[show mid+m-i-1=P-i by omega];exact A2.out.resolve_left z)
      (by rw[k4];exact h1)
     rw[k4] at h;exact h
    clear A1 A2 HC hkx hlt lo1 lo2 hi1 hi2 loN hil hjb;by_cases p:i<m
    ·by_cases q:i<mid
     ·by_cases l:a<i
      ·by_cases r:e<b
       ·as_aux_lemma=>
         have tp:(i:Int)<(m:Int):=by omega
         have tme:(m:Int)<(e:Int):=by omega
         have tq:(i:Int)<(mid:Int):=by omega
         have tl:(a:Int)<(i:Int):=by omega
         have tmd:(mid:Int)<(e:Int):=by omega
         have tr:(e:Int)<(b:Int):=by omega
         go_wp2_with fail
         refine(RC.out i e wr S1.out (by omega) (by omega) e3).mono ?_;rintro ev w1 ⟨rfl,d1,z1,s1,g1,p1⟩;have H1:Aside (Halves ltE a i mid e b d1):=HV.out d1 g1;have P1:Aside (PermIn a b d d1):=permIn_mono _ _ _ _ _ _ ai e3 hb p1;have T1:Aside (SE w0 blk off d1 w1):=s1;clear s1 g1 p1 S1
         go_wp2_with fail
         refine(IH.out a i mid d1 w1 (by omega) z1 T1.out (by omega) (by omega) (by omega) H1.out.r1 H1.out.r2).mono ?_;rintro ev w2 ⟨rfl,d2,s2,p2,o2⟩;have P2:Aside (PermIn a mid d1 d2):=p2;have O2:Aside (SortedIn ltE a mid d2):=o2;have T2:Aside (SE w0 blk off d2 w2):=s2;have z2:d2.size=d.size:=p2.1.trans z1;clear s2 p2 o2
         go_wp2_with fail
         have HRT:Aside _:=H1.out.right P2.out;refine(IH.out mid e b d2 w2 (by omega) z2 T2.out (by omega) (by omega) hb (HRT.out.resolve_right (by omega)).1 (HRT.out.resolve_right (by omega)).2).mono ?_;rintro ev w3 ⟨rfl,d3,s3,p3,o3⟩;have P3:Aside (PermIn mid b d2 d3):=p3;have O3:Aside (SortedIn ltE mid b d3):=o3;have T3:Aside (SE w0 blk off d3 w3):=s3;clear s3 p3 o3
         go_wp2
         go_end0
         obtain⟨q1,q2⟩:=halves_end swoE H1.out (by omega) (by omega) (by omega) P2.out O2.out P3.out O3.out;exact⟨rfl,d3,T3.out,permIn_trans _ _ _ _ _ P1.out q1,q2⟩
       ·as_aux_lemma=>
         have tp:(i:Int)<(m:Int):=by omega
         have tme:(m:Int)<(e:Int):=by omega
         have tq:(i:Int)<(mid:Int):=by omega
         have tl:(a:Int)<(i:Int):=by omega
         have tmd:(mid:Int)<(e:Int):=by omega
         have tr:¬(e:Int)<(b:Int):=by omega
         go_wp2_with fail
         refine(RC.out i e wr S1.out (by omega) (by omega) e3).mono ?_;rintro ev w1 ⟨rfl,d1,z1,s1,g1,p1⟩;have H1:Aside (Halves ltE a i mid e b d1):=HV.out d1 g1;have P1:Aside (PermIn a b d d1):=permIn_mono _ _ _ _ _ _ ai e3 hb p1;have T1:Aside (SE w0 blk off d1 w1):=s1;clear s1 g1 p1 S1
         go_wp2_with fail
         refine(IH.out a i mid d1 w1 (by omega) z1 T1.out (by omega) (by omega) (by omega) H1.out.r1 H1.out.r2).mono ?_;rintro ev w2 ⟨rfl,d2,s2,p2,o2⟩;have P2:Aside (PermIn a mid d1 d2):=p2;have O2:Aside (SortedIn ltE a mid d2):=o2;have T2:Aside (SE w0 blk off d2 w2):=s2;have z2:d2.size=d.size:=p2.1.trans z1;clear s2 p2 o2
         go_wp2
         have P3:Aside (PermIn mid b d2 d2):=permIn_refl _ mid b;have O3:Aside (SortedIn ltE mid b d2):=H1.out.rest P2.out e1 (by omega);have T3:=T2
         go_end0
         obtain⟨q1,q2⟩:=halves_end swoE H1.out (by omega) (by omega) (by omega) P2.out O2.out P3.out O3.out;exact⟨rfl,d2,T3.out,permIn_trans _ _ _ _ _ P1.out q1,q2⟩
      ·by_cases r:e<b
       ·as_aux_lemma=>
         have tp:(i:Int)<(m:Int):=by omega
         have tme:(m:Int)<(e:Int):=by omega
         have tq:(i:Int)<(mid:Int):=by omega
         have tl:¬(a:Int)<(i:Int):=by omega
         have tmd:(mid:Int)<(e:Int):=by omega
         have tr:(e:Int)<(b:Int):=by omega
         go_wp2_with fail
         refine(RC.out i e wr S1.out (by omega) (by omega) e3).mono ?_;rintro ev w1 ⟨rfl,d1,z1,s1,g1,p1⟩;have H1:Aside (Halves ltE a i mid e b d1):=HV.out d1 g1;have P1:Aside (PermIn a b d d1):=permIn_mono _ _ _ _ _ _ ai e3 hb p1;have T1:Aside (SE w0 blk off d1 w1):=s1;clear s1 g1 p1 S1
         go_wp2_with fail
         have P2:Aside (PermIn a mid d1 d1):=permIn_refl _ a mid;have O2:Aside (SortedIn ltE a mid d1):=H1.out.left (by omega) ai id;have T2:=T1;have z2:=z1;have HRT:Aside _:=H1.out.right P2.out;refine(IH.out mid e b d1 w1 (by omega) z2 T2.out (by omega) (by omega) hb (HRT.out.resolve_right (by omega)).1 (HRT.out.resolve_right (by omega)).2).mono ?_;rintro ev w3 ⟨rfl,d3,s3,p3,o3⟩;have P3:Aside (PermIn mid b d1 d3):=p3;have O3:Aside (SortedIn ltE mid b d3):=o3;have T3:Aside (SE w0 blk off d3 w3):=s3;clear s3 p3 o3
         go_wp2
         go_end0
         obtain⟨q1,q2⟩:=halves_end swoE H1.out (by omega) (by omega) (by omega) P2.out O2.out P3.out O3.out;exact⟨rfl,d3,T3.out,permIn_trans _ _ _ _ _ P1.out q1,q2⟩
       ·as_aux_lemma=>
         have tp:(i:Int)<(m:Int):=by omega
         have tme:(m:Int)<(e:Int):=by omega
         have tq:(i:Int)<(mid:Int):=by omega
         have tl:¬(a:Int)<(i:Int):=by omega
         have tmd:(mid:Int)<(e:Int):=by omega
         have tr:¬(e:Int)<(b:Int):=by omega
         go_wp2_with fail
         refine(RC.out i e wr S1.out (by omega) (by omega) e3).mono ?_;rintro ev w1 ⟨rfl,d1,z1,s1,g1,p1⟩;have H1:Aside (Halves ltE a i mid e b d1):=HV.out d1 g1;have P1:Aside (PermIn a b d d1):=permIn_mono _ _ _ _ _ _ ai e3 hb p1;have T1:Aside (SE w0 blk off d1 w1):=s1;clear s1 g1 p1 S1
         go_wp2
         have P2:Aside (PermIn a mid d1 d1):=permIn_refl _ a mid;have O2:Aside (SortedIn ltE a mid d1):=H1.out.left (by omega) ai id;have T2:=T1;have z2:=z1;have P3:Aside (PermIn mid b d1 d1):=permIn_refl _ mid b;have O3:Aside (SortedIn ltE mid b d1):=H1.out.rest P2.out e1 (by omega);have T3:=T2
         go_end0
         obtain⟨q1,q2⟩:=halves_end swoE H1.out (by omega) (by omega) (by omega) P2.out O2.out P3.out O3.out;exact⟨rfl,d1,T3.out,permIn_trans _ _ _ _ _ P1.out q1,q2⟩
     ·as_aux_lemma=>
       have tp:(i:Int)<(m:Int):=by omega
       have tme:¬(m:Int)<(e:Int):=by omega
       have tq:¬(i:Int)<(mid:Int):=by omega
       have tl:(a:Int)<(i:Int):=by omega
       have tmd:(mid:Int)<(e:Int):=by omega
       have tr:(e:Int)<(b:Int):=by omega
       go_wp2_with fail
       have H1:Aside (Halves ltE a i mid e b d):=HV.out d (fun t=>by have k:=e5;rw[show e=m by omega,rot_right]);have P1:Aside (PermIn a b d d):=permIn_refl d a b;have z1:d.size=d.size:=rfl;have T1:Aside (SE w0 blk off d wr):=S1.out;clear S1;have P2:Aside (PermIn a mid d d):=permIn_refl _ a mid;have O2:Aside (SortedIn ltE a mid d):=H1.out.left (by omega) ai id;have T2:=T1;have z2:=z1;have HRT:Aside _:=H1.out.right P2.out;refine(IH.out mid e b d wr (by omega) z2 T2.out (by omega) (by omega) hb (HRT.out.resolve_right (by omega)).1 (HRT.out.resolve_right (by omega)).2).mono ?_;rintro ev w3 ⟨rfl,d3,s3,p3,o3⟩;have P3:Aside (PermIn mid b d d3):=p3;have O3:Aside (SortedIn ltE mid b d3):=o3;have T3:Aside (SE w0 blk off d3 w3):=s3;clear s3 p3 o3
       go_wp2
       go_end0
       obtain⟨q1,q2⟩:=halves_end swoE H1.out (by omega) (by omega) (by omega) P2.out O2.out P3.out O3.out;exact⟨rfl,d3,T3.out,permIn_trans _ _ _ _ _ P1.out q1,q2⟩
    ·by_cases q:i<mid
     ·as_aux_lemma=>
       have tp:¬(i:Int)<(m:Int):=by omega
       have tme:(m:Int)<(e:Int):=by omega
       have tq:(i:Int)<(mid:Int):=by omega
       have tl:(a:Int)<(i:Int):=by omega
       have tmd:¬(mid:Int)<(e:Int):=by omega
       go_wp2_with fail
       have H1:Aside (Halves ltE a i mid e b d):=HV.out d (fun t=>by have k:=e5;rw[show i=m by omega,rot_left]);have P1:Aside (PermIn a b d d):=permIn_refl d a b;have z1:d.size=d.size:=rfl;have T1:Aside (SE w0 blk off d wr):=S1.out;clear S1;refine(IH.out a i mid d wr (by omega) z1 T1.out (by omega) (by omega) (by omega) H1.out.r1 H1.out.r2).mono ?_;rintro ev w2 ⟨rfl,d2,s2,p2,o2⟩;have P2:Aside (PermIn a mid d d2):=p2;have O2:Aside (SortedIn ltE a mid d2):=o2;have T2:Aside (SE w0 blk off d2 w2):=s2;have z2:d2.size=d.size:=p2.1.trans z1;clear s2 p2 o2
       go_wp2
       have P3:Aside (PermIn mid b d2 d2):=permIn_refl _ mid b;have O3:Aside (SortedIn ltE mid b d2):=H1.out.rest P2.out e1 (by omega);have T3:=T2
       go_end0
       obtain⟨q1,q2⟩:=halves_end swoE H1.out (by omega) (by omega) (by omega) P2.out O2.out P3.out O3.out;exact⟨rfl,d2,T3.out,permIn_trans _ _ _ _ _ P1.out q1,q2⟩
     ·as_aux_lemma=>
       have tp:¬(i:Int)<(m:Int):=by omega
       have tme:¬(m:Int)<(e:Int):=by omega
       have tq:¬(i:Int)<(mid:Int):=by omega
       have tl:(a:Int)<(i:Int):=by omega
       have tmd:¬(mid:Int)<(e:Int):=by omega
       go_wp2
       have H1:Aside (Halves ltE a i mid e b d):=HV.out d (fun t=>by have k:=e5;rw[show i=m by omega,rot_left]);have P1:Aside (PermIn a b d d):=permIn_refl d a b;have z1:d.size=d.size:=rfl;have T1:Aside (SE w0 blk off d wr):=S1.out;clear S1;have P2:Aside (PermIn a mid d d):=permIn_refl _ a mid;have O2:Aside (SortedIn ltE a mid d):=H1.out.left (by omega) ai id;have T2:=T1;have z2:=z1;have P3:Aside (PermIn mid b d d):=permIn_refl _ mid b;have O3:Aside (SortedIn ltE mid b d):=H1.out.rest P2.out e1 (by omega);have T3:=T2
       go_end0
       obtain⟨q1,q2⟩:=halves_end swoE H1.out (by omega) (by omega) (by omega) P2.out O2.out P3.out O3.out;exact⟨rfl,d,T3.out,permIn_trans _ _ _ _ _ P1.out q1,q2⟩
theorem symMerge_any(blk off cap:Nat)(d0:Array Ent)(w0:World)(R:RE w0 blk off d0)(hsz:d0.size<1152921504606846976):∀(k a m b:Nat)(d:Array Ent)(w:World),b-a<=k->d.size=d0.size->SE w0 blk off d w->a<m->m<b->b<=d.size->SortedIn ltE a m d->SortedIn ltE m b d->
  Calls prog 261 #[.slice (some ⟨blk,off,none⟩) d.size cap,.int .i64 a,.int .i64 m,.int .i64 b,.func (.func 226) #[] #[]] w (SymPost w0 blk off a b d):=by
 intro k
 induction k with
 | zero=>intro a m b d w hk;omega
 | succ k ih=>
  intro a m b d w hk hs S ham hmb hb hL hR;by_cases c1:m=a+1
  ·exact symL_any blk off cap a m b d0 d w0 w R hs.symm S c1 (by omega) hb (by omega) hR
  ·by_cases c2:b=m+1
   ·exact symR_any blk off cap a m b d0 d w0 w R hs.symm S (by omega) c2 hb (by omega) hL
   ·exact symM_step blk off cap a m b d0 d w0 w R hs.symm S (by omega) (by omega) hb (by omega) hL hR (fun a' m' b' d' W h1 h2 h3 h4 h5 h6 h7 h8=>by
     have:=ih a' m' b' d' W (by omega) (h2.trans hs) h3 h4 h5 (by omega) h7 h8;rw[h2] at this;exact this)
theorem insert_none(p:Option Addr)(cap:Nat)(fv:Value)(w:World) :
  Calls prog 260 #[.slice p 0 cap,.int .i64 0,.int .i64 0,fv] w fun e w'=>e=.returned (.tuple #[])/\w'=w:=by
 go_enter func260,ntmps260
 go_wp2
 refine wp_loop_rounds 1 ?_;rw[rounds_succ]
 go_wp2
 go_end0
 exact⟨rfl,rfl⟩
set_option maxRecDepth 1000000 in
theorem insert_any(blk off cap a b:Nat)(d0 d:Array Ent)(w0 w:World)(R:RE w0 blk off d0)(hs:d0.size=d.size)(S:SE w0 blk off d w)(hab:a<=b)(hb:b<=d.size)(hsz:d.size<1152921504606846976) :
  Calls prog 260 #[.slice (some ⟨blk,off,none⟩) d.size cap,.int .i64 a,.int .i64 b,.func (.func 226) #[] #[]] w fun e w'=>e=.returned (.tuple #[])/\
   ∃d':Array Ent,SE w0 blk off d' w'/\PermIn a b d d'/\SortedIn ltE a b d':=by
 have S0:Aside _:=S;clear S;have mx:=mixed;go_enter func260,ntmps260
 go_wp2
 go_loopg [8] (b-a) (fun g1 vi wr=>∃(i:Nat)(dk:Array Ent),vi=.int .i64 i/\a<i/\i<=b+1/\b+1-i<=g1+1/\dk.size=d.size/\Aside (SE w0 blk off dk wr)/\Hid (insOuter ltE a b i dk=insOuter ltE a b (a+1) d))
 case atStart=>exact⟨a+1,d,by go_num,by omega,by omega,by omega,rfl,S0,rfl⟩
 case round=>
  obtain⟨i,dk,rfl,hai,hib,hg1,hsk,S1,HO⟩:=hrel;clear S0;by_cases hlt:i<b
  ·have hltz:(i:Int)<(b:Int):=by omega
   go_wp2
   go_loopg [9] i (fun g2 vj wr2=>∃(j:Nat)(dj:Array Ent),vj=.int .i64 j/\a<=j/\j<=i/\j<=g2/\dj.size=d.size/\Aside (SE w0 blk off dj wr2)/\Hid (insInner ltE a j dj=insInner ltE a i dk))
   case atStart=>exact⟨i,dk,rfl,by omega,le_refl _,le_refl _,hsk,S1,rfl⟩
   case round=>
    obtain⟨j,dj,rfl,haj,hji,hg2,hsj,S2,HI⟩:=hrel;clear S1
    have OUT:Aside ((j<=a\/ltE dj[j]! dj[j-1]! = false)->Hid (insOuter ltE a b (i+1) dj=insOuter ltE a b (a+1) d)):=fun hs=>by
     show _=_;rw[<-HO.out,insOuter_go _ _ _ _ _ hlt,<-HI.out,insInner_stop _ _ _ _ hs]
    by_cases hja:a<j
    ·have hjaz:(a:Int)<(j:Int):=by omega
     obtain⟨l,rfl⟩:∃l,j=l+1:=⟨j-1,by omega⟩;have hjaz':(a:Int)<(l:Int)+1:=by omega
     have hjd:decide ((a:Int)<(l:Int)+1)=true:=decide_eq_true hjaz';have kz1:(l:Int)+1<(d.size:Int):=by omega
     have kz0:(l:Int)<(d.size:Int):=by omega
     have e1:((l:Int)+1).toNat=l+1:=by omega
     have p1:(0:Int)<=(l:Int)+1:=by omega
     have wl:IntKind.i64.wrap (l:Int)=(l:Int):=by rw[IntKind.wrap_i64];omega
     obtain⟨x,hx⟩:∃x,dj[l+1]! = x:=⟨_,rfl⟩;obtain⟨y,hy⟩:∃y,dj[l]! = y:=⟨_,rfl⟩;have c1:∀n os,(grow (wr.drewN n) os).cell? ⟨blk,off+(l+1)*2,none⟩=some (.int .u64 x.1):=fun n os=>by rw[<-hx];exact se_c0 (S2.out.grown n os) R (by omega) (by omega)
     have c2:∀n os,(grow (wr.drewN n) os).cell? ⟨blk,off+(l+1)*2+1,none⟩=some (.int .i64 x.2):=fun n os=>by rw[<-hx];exact se_c1 (S2.out.grown n os) R (by omega) (by omega)
     have c3:∀n os,(grow (wr.drewN n) os).cell? ⟨blk,off+l*2,none⟩=some (.int .u64 y.1):=fun n os=>by rw[<-hy];exact se_c0 (S2.out.grown n os) R (by omega) (by omega)
     have c4:∀n os,(grow (wr.drewN n) os).cell? ⟨blk,off+l*2+1,none⟩=some (.int .i64 y.2):=fun n os=>by rw[<-hy];exact se_c1 (S2.out.grown n os) R (by omega) (by omega)
     have HX:Hid _:=hx;have HY:Hid _:=hy;clear hx hy
     cases hL:ltE x y with
     | true=>
      have hv:=cfE_neg x y hL;have hd:decide (cfE x y<0)=true:=decide_eq_true hv;have HL:Hid (ltE dj[l+1]! dj[l+1-1]! = true):=by show ltE dj[l+1]! dj[l]! = true;rw[HX.out,HY.out];exact hL
      clear hL
      go_wp2_with fail
      go_quiet_grown (first|(go_at_call 226;exact cmp_grown x y _ _ _))
      have S3:Aside (SE w0 blk off dj (grow (wr.drewN nq) osq)):=S2.out.grown nq osq;clear c1 c2 c3 c4 S2;generalize grow (wr.drewN nq) osq=w3 at S3⊢;have c1:=se_c0 S3.out R (by omega) (show l+1<dj.size by omega);have c2:=se_c1 S3.out R (by omega) (show l+1<dj.size by omega);have c3:=se_c0 S3.out R (by omega) (show l<dj.size by omega);have c4:=se_c1 S3.out R (by omega) (show l<dj.size by omega);have f1:=se_f0 S3.out R (by omega) (show l+1<dj.size by omega);have f2:=se_f1 S3.out R (by omega) (show l+1<dj.size by omega);have f3:=se_f0 S3.out R (by omega) (show l<dj.size by omega);have f4:=se_f1 S3.out R (by omega) (show l<dj.size by omega);have sw:=se_swap S3.out R (show l+1<dj.size by omega) (show l<dj.size by omega);rw[HX.out] at c1 c2 sw;rw[HY.out] at c3 c4 sw;have S4:Aside _:=sw;clear sw S3
      go_wp2_with fail
      go_region
      clear c1 c2 c3 c4 f1 f2 f3 f4;generalize World.drew _=w4 at S4⊢
      go_wp2
      go_roundg l
      case measure=>omega
      case rel=>
       refine⟨l,swp dj (l+1) l,by first|rfl|go_num,by omega,by omega,le_refl _,by rw[size_swp];exact hsj,S4,(show Hid _ from ?_)⟩;show _=_;rw[<-HI.out,insInner_go ltE a (l+1) dj hja HL.out]
       rfl
     | false=>
      have hv:=cfE_not x y hL;have hd:decide (cfE x y<0)=false:=decide_eq_false hv;have HL:Hid (ltE dj[l+1]! dj[l+1-1]! = false):=by show ltE dj[l+1]! dj[l]! = false;rw[HX.out,HY.out];exact hL
      clear hL
      go_wp2_with fail
      go_quiet_grown (first|(go_at_call 226;exact cmp_grown x y _ _ _))
      have S3:Aside (SE w0 blk off dj (grow (wr.drewN nq) osq)):=S2.out.grown nq osq;clear c1 c2 c3 c4 S2;generalize grow (wr.drewN nq) osq=w3 at S3⊢
      go_wp2
      go_roundg (b-(i+1))
      case measure=>omega
      case rel=>exact⟨i+1,dj,by go_num,by omega,by omega,by omega,hsj,S3,OUT.out (.inr HL.out)⟩
    ·have hjaz:decide ((a:Int)<(j:Int))=false:=decide_eq_false (by omega);have hjaz':¬(a:Int)<(j:Int):=by omega
     go_wp2_with fail
     go_quiet (fail)
     have S3:Aside (SE w0 blk off dj (wr.drewN nq)):=S2.out.drewN nq;clear S2;generalize wr.drewN nq=w3 at S3⊢
     go_wp2
     go_roundg (b-(i+1))
     case measure=>omega
     case rel=>exact⟨i+1,dj,by go_num,by omega,by omega,by omega,hsj,S3,OUT.out (.inl (by omega))⟩
  ·have hltz:¬(i:Int)<(b:Int):=by omega
   go_wp2
   go_end0
   have:=insertionSort_holds (lt:=ltE) swoE d a b hab hb;refine⟨rfl,dk,S1.out,?_⟩;have e:insertionSort ltE d a b=dk:=by unfold Sort.insertionSort;rw[<-HO.out,insOuter_stop _ _ _ _ _ hlt]
   rw[e] at this;exact this
theorem stable_none(p:Option Addr)(cap:Nat)(fv:Value)(w:World) :
  Calls prog 246 #[.slice p 0 cap,.int .i64 0,fv] w fun e w'=>e=.returned (.tuple #[])/\w'=w:=by
 go_enter func246,ntmps246
 go_wp2_with fail
 refine wp_loop_rounds 1 ?_;rw[rounds_succ]
 go_wp2_with fail
 refine(insert_none p cap fv w).mono ?_;rintro e w1 ⟨rfl,rfl⟩
 go_wp2_with fail
 refine wp_loop_rounds 1 ?_;rw[rounds_succ]
 go_wp2
 go_end0
 exact⟨rfl,rfl⟩
set_option maxRecDepth 1000000 in
theorem stable_any(blk off cap:Nat)(d:Array Ent)(w:World)(R:RE w blk off d)(hsz:d.size<288230376151711744) :
  Calls prog 246 #[.slice (some ⟨blk,off,none⟩) d.size cap,.int .i64 d.size,.func (.func 226) #[] #[]] w fun e w'=>e=.returned (.tuple #[])/\
   ∃d':Array Ent,SE w blk off d' w'/\PermIn 0 d.size d d'/\SortedIn ltE 0 d.size d':=by
 obtain⟨n,hn⟩:∃n,d.size=n:=⟨_,rfl⟩;have S0:Aside (SE w blk off d w):=SWK.start R.hH
 have IN:Aside (∀(a b:Nat)(dk:Array Ent)(W:World),dk.size=n->SE w blk off dk W->a<=b->b<=n->Calls prog 260 #[.slice (some ⟨blk,off,none⟩) n cap,.int .i64 a,.int .i64 b,.func (.func 226) #[] #[]] W fun e w'=>e=.returned (.tuple #[])/\
   ∃d':Array Ent,SE w blk off d' w'/\PermIn a b dk d'/\SortedIn ltE a b d'):=by
  intro a b dk W h1 h2 h3 h4;rw[<-h1];exact insert_any blk off cap a b d dk w W R (by omega) h2 h3 (by omega) (by omega)
 have SY:Aside (∀(a m b:Nat)(dk:Array Ent)(W:World),dk.size=n->SE w blk off dk W->a<m->m<b->b<=n->SortedIn ltE a m dk->SortedIn ltE m b dk->Calls prog 261 #[.slice (some ⟨blk,off,none⟩) n cap,.int .i64 a,.int .i64 m,.int .i64 b,.func (.func 226) #[] #[]] W (SymPost w blk off a b dk)):=by
  intro a m b dk W h1 h2 h3 h4 h5 h6 h7;rw[<-h1];exact symMerge_any blk off cap d w R (by omega) (b-a) a m b dk W (le_refl _) (by omega) h2 h3 h4 (by omega) h6 h7
 have HN:Hid _:=hn;rw[hn] at hsz⊢;clear hn R;go_enter func246,ntmps246
 go_wp2_with fail
 go_loopg [7,8] n (fun kx s7 s8 wr=>∃(q A B:Nat)(dk:Array Ent),s7=.int .i64 A/\s8=.int .i64 B/\Hid (A=q*20)/\Hid (B=A+20)/\A<B/\A<=n/\B<=A+20/\n-A<=kx/\dk.size=n/\Aside (SE w blk off dk wr)/\Aside (PermIn 0 n d dk)/\Aside (BlkTo ltE 20 n q dk))
 case atStart=>exact⟨0,0,20,d,rfl,rfl,rfl,rfl,by omega,by omega,by omega,by omega,HN.out,S0,permIn_refl d 0 n,BlkTo.zero 20 n d⟩
 case round=>
  obtain⟨q,A,B,dk,rfl,rfl,HA,HB,hAB,hAn,hBA,hkx,hds,S1,P1,B1⟩:=hrel;clear S0;by_cases c:B<=n
  ·have cz:(B:Int)<=(n:Int):=by omega
   go_wp2_with fail
   refine(IN.out A B dk wr hds S1.out (by omega) c).mono ?_;rintro e w1 ⟨rfl,d1,s1,p1,o1⟩;have S2:Aside _:=s1;have P2:Aside (PermIn 0 n d d1):=permIn_trans _ _ _ _ _ P1.out (permIn_mono _ _ _ _ _ _ (by omega) c (by omega) p1)
   have B2:Aside (BlkTo ltE 20 n (q+1) d1):=by
    have h1:=HA.out;have h2:=HB.out;rw[h1] at p1 o1;exact B1.out.next p1 o1 (.inl (by omega))
   have z1:d1.size=n:=p1.1.trans hds;clear s1 p1 o1 S1 P1 B1
   go_wp2
   go_roundg (n-B)
   case measure=>omega
   case rel=>
    have h1:=HA.out;have h2:=HB.out;exact⟨q+1,B,B+20,d1,rfl,by go_num,(show B=(q+1)*20 by omega),rfl,by omega,c,by omega,le_refl _,z1,S2,P2,B2⟩
  ·have cz:¬(B:Int)<=(n:Int):=by omega
   go_wp2_with fail
   refine(IN.out A n dk wr hds S1.out (by omega) (le_refl _)).mono ?_;rintro e w1 ⟨rfl,d1,s1,p1,o1⟩;have S2:Aside _:=s1;have P2:Aside (PermIn 0 n d d1):=permIn_trans _ _ _ _ _ P1.out (permIn_mono _ _ _ _ _ _ (by omega) (le_refl _) (by omega) p1)
   have B2:Aside (Blk ltE 20 n d1):=by
    have h1:=HA.out;have h2:=HB.out;rw[h1] at p1 o1;exact(B1.out.next p1 o1 (.inr (le_refl _))).done (by omega)
   have z1:d1.size=n:=p1.1.trans hds;clear s1 p1 o1 S1 P1 B1 cz HA HB
   go_wp2_with fail
   go_loopg [6] n (fun kx s6 wr=>∃(bs:Nat)(dk:Array Ent),s6=.int .i64 bs/\1<=bs/\bs<=2*n+20/\n-bs<=kx/\dk.size=n/\Aside (SE w blk off dk wr)/\Aside (PermIn 0 n d dk)/\Aside (Blk ltE bs n dk))
   case atStart=>exact⟨20,d1,rfl,by omega,by omega,by omega,z1,S2,P2,B2⟩
   case round=>
    clear hds hkx hAB hAn hBA c;obtain⟨bs,dB,rfl,hb1,hb2,hkx,hds,S3,P3,B3⟩:=hrel;clear S2 P2 B2;by_cases c:bs<n
    ·have cz:(bs:Int)<(n:Int):=by omega
     go_wp2_with fail
     go_loopg [7,8] n (fun kx s7 s8 wr=>∃(q A B:Nat)(dk:Array Ent),s7=.int .i64 A/\s8=.int .i64 B/\Hid (A=q*(2*bs))/\Hid (B=A+2*bs)/\A<B/\A<=n/\B<=A+2*bs/\n-A<=kx/\dk.size=n/\Aside (SE w blk off dk wr)/\Aside (PermIn 0 n d dk)/\Aside (BlkTo ltE (2*bs) n q dk)/\Aside (∀t,A<=t->dk[t]! = dB[t]!))
     case atStart=>exact⟨0,0,2*bs,dB,rfl,by go_num,(show 0=0*(2*bs) by omega),(show 2*bs=0+2*bs by omega),by omega,by omega,by omega,by omega,hds,S3,P3,BlkTo.zero _ n dB,(fun _ _=>rfl:∀t,0<=t->dB[t]! = dB[t]!)⟩
     case round=>
      obtain⟨q,A,B,dk,rfl,rfl,HA,HB,hAB,hAn,hBA,hkx2,hdk,S4,P4,B4,E4⟩:=hrel;clear S3 P3;obtain⟨M,hM⟩:∃M:Nat,(A:Int)+(bs:Int)=(M:Int):=⟨A+bs,by omega⟩;have hM2:Hid (M=A+bs):=by show M=A+bs;omega
      have hAM:A<M:=by omega
      have hMA:M<=A+bs:=by omega
      by_cases c2:B<=n
      ·have c2z:(B:Int)<=(n:Int):=by omega
       have hMB:M<B:=by have:=HB.out;omega
       go_wp2_with fail
       refine(SY.out A M B dk wr hdk S4.out hAM hMB c2 (by have:=hM2.out;subst this;exact B3.out.run1 HA.out E4.out (by omega)) (by have:=hM2.out;subst this;exact B3.out.run2 HA.out E4.out hBA c2)).mono ?_;rintro e w2 ⟨rfl,d2,s2,p2,o2⟩;have S5:Aside _:=s2;have P5:Aside (PermIn 0 n d d2):=permIn_trans _ _ _ _ _ P4.out (permIn_mono _ _ _ _ _ _ (by omega) c2 (by omega) p2);have E5:Aside (∀t,B<=t->d2[t]! = dB[t]!):=fun t ht=>(p2.2.1 t (.inr ht)).trans (E4.out t (by omega))
       have B5:Aside (BlkTo ltE (2*bs) n (q+1) d2):=by
        have h1:=HA.out;have h2:=HB.out;rw[h1] at p2 o2;exact B4.out.next p2 o2 (.inl (by omega))
       have z2:d2.size=n:=p2.1.trans hdk;clear s2 p2 o2 S4 P4 B4 E4 hM
       go_wp2
       go_roundg (n-B)
       case measure=>omega
       case rel=>
        have h1:=HA.out;have h2:=HB.out;exact⟨q+1,B,B+2*bs,d2,rfl,by go_num,(show B=(q+1)*(2*bs) by rw[Nat.add_mul,Nat.one_mul];omega),rfl,by omega,c2,by omega,le_refl _,z2,S5,P5,B5,E5⟩
      ·have c2z:¬(B:Int)<=(n:Int):=by omega
       by_cases c3:M<n
       ·have c3z:(M:Int)<(n:Int):=by omega
        go_wp2_with fail
        refine(SY.out A M n dk wr hdk S4.out hAM c3 (le_refl _) (by have:=hM2.out;subst this;exact B3.out.run1 HA.out E4.out (by omega)) (by have:=hM2.out;have:=HB.out;subst M;exact B3.out.run2 HA.out E4.out (by omega) (le_refl _))).mono ?_;rintro e w2 ⟨rfl,d2,s2,p2,o2⟩;have S5:Aside _:=s2;have P5:Aside (PermIn 0 n d d2):=permIn_trans _ _ _ _ _ P4.out (permIn_mono _ _ _ _ _ _ (by omega) (le_refl _) (by omega) p2)
        have B5:Aside (Blk ltE (2*bs) n d2):=by
         have h1:=HA.out;have h2:=HB.out;rw[h1] at p2 o2;exact(B4.out.next p2 o2 (.inr (le_refl _))).done (by rw[Nat.add_mul,Nat.one_mul];omega)
        have z2:d2.size=n:=p2.1.trans hdk;clear s2 p2 o2 S4 P4 B4 E4 hM
        go_wp2
        go_roundg (n-2*bs)
        case measure=>omega
        case rel=>exact⟨2*bs,d2,by first|go_num|(congr 1;omega),by omega,by omega,le_refl _,z2,S5,P5,B5⟩
       ·have c3z:¬(M:Int)<(n:Int):=by omega
        have B5:Aside (Blk ltE (2*bs) n dk):=by
         have h1:=HA.out;have h2:=hM2.out;exact B4.out.last dB B3.out (fun t ht=>E4.out t (by omega)) (by omega)
        go_wp2
        go_roundg (n-2*bs)
        case measure=>omega
        case rel=>exact⟨2*bs,dk,by first|go_num|(congr 1;omega),by omega,by omega,le_refl _,hdk,S4,P4,B5⟩
    ·have cz:¬(bs:Int)<(n:Int):=by omega
     go_wp2
     go_end0
     exact⟨rfl,dB,S3.out,P3.out,B3.out.all (by omega)⟩
end Go.Proofs.YtjpbngiddjkjiaaGreatDoor.Qu
