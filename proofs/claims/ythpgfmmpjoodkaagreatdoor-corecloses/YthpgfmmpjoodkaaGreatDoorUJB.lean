import Derived.Test.YthpgfmmpjoodkaaGreatDoorProg
import Derived.Test.YthpgfmmpjoodkaaGreatDoorUJA
import Derived.Shelf.SlSortCmp.KitK
import Derived.WalkKit
import Derived.BigRegion
import Derived.Deep.LoopGhost
import Derived.Deep.QuietTactic
import Derived.BigQuiet
namespace Go.Proofs.YthpgfmmpjoodkaaGreatDoor.Qu
set_option maxHeartbeats 8000000
set_option maxRecDepth 100000
set_option linter.unusedVariables false
open Go.RowKit Go.Lib Go.Sort
section
def encE(x:Ent):List Value:=[.int .u64 x.1,.int .i64 x.2]
theorem encE_len(x:Ent):(encE x).length=2:=rfl
theorem encE_one(x:Ent):∀v∈encE x,v.oneCell'=true:=by
 intro v hv;simp[encE] at hv;rcases hv with rfl|rfl<;>rfl
abbrev SE(w0:World)(blk off:Nat)(d:Array Ent)(W:World):Prop:=SWK encE 2 w0 blk off d W
abbrev RE(w0:World)(blk off:Nat)(d:Array Ent):Prop:=RowK encE 2 w0 blk off d
variable {w0 W:World}{blk off:Nat}{d0 d dk:Array Ent}
theorem se_c0(S:SE w0 blk off dk W)(R:RE w0 blk off d0)(hs:dk.size=d0.size){i:Nat}(hi:i<dk.size):W.cell? ⟨blk,off+i*2,none⟩=some (.int .u64 dk[i]!.1):=
 ((S.holds R.hblk R.hH hs).cell hi (show 0<2 by omega)).1
theorem se_c1(S:SE w0 blk off dk W)(R:RE w0 blk off d0)(hs:dk.size=d0.size){i:Nat}(hi:i<dk.size):W.cell? ⟨blk,off+i*2+1,none⟩=some (.int .i64 dk[i]!.2):=
 ((S.holds R.hblk R.hH hs).cell hi (show 1<2 by omega)).1
theorem se_f0(S:SE w0 blk off dk W)(R:RE w0 blk off d0)(hs:dk.size=d0.size){i:Nat}(hi:i<dk.size):W.frozen? ⟨blk,off+i*2,none⟩=false:=
 ((S.holds R.hblk R.hH hs).cell hi (show 0<2 by omega)).2
theorem se_f1(S:SE w0 blk off dk W)(R:RE w0 blk off d0)(hs:dk.size=d0.size){i:Nat}(hi:i<dk.size):W.frozen? ⟨blk,off+i*2+1,none⟩=false:=
 ((S.holds R.hblk R.hH hs).cell hi (show 1<2 by omega)).2
theorem se_swap(S:SE w0 blk off dk W)(R:RE w0 blk off d0){i j:Nat}(hi:i<dk.size)(hj:j<dk.size) :
  SE w0 blk off (swp dk i j) ((((W.setCell ⟨blk,off+i*2,none⟩ (.int .u64 dk[j]!.1)).setCell ⟨blk,off+i*2+1,none⟩ (.int .i64 dk[j]!.2)).setCell ⟨blk,off+j*2,none⟩ (.int .u64 dk[i]!.1)).setCell ⟨blk,off+j*2+1,none⟩ (.int .i64 dk[i]!.2)).drew:=
 (S.swap R.hk R.hblk i j hi hj).drew
theorem mixed:Tryz.prog.follows .mixedOrders=true:=by kernel_rfl
end
set_option maxRecDepth 1000000 in
theorem swapRange_any(blk off cap a b n:Nat)(d0 d:Array Ent)(w0 w:World)(fv:Value)(R:RE w0 blk off d0)(hs:d0.size=d.size)(S:SE w0 blk off d w)(hab:a+n<=b)(hb:b+n<=d.size)(hsz:d.size<1152921504606846976) :
  Calls Tryz.prog 319 #[.slice (some ⟨blk,off,none⟩) d.size cap,.int .i64 a,.int .i64 b,.int .i64 n,fv] w fun e w'=>e=.returned (.tuple #[])/\
   ∃d':Array Ent,d'.size=d.size/\SE w0 blk off d' w'/\(∀t,d'[t]! = swR (fun t=>d[t]!) a b n t)/\∀lo hi,lo<=a->b+n<=hi->hi<=d.size->PermIn lo hi d d':=by
 have S0:Aside _:=S;clear S;go_enter Tryz.func319,Tryz.ntmps319
 go_wp2
 go_loopg [10] n (fun kx s10 wr=>∃(i:Nat)(dk:Array Ent),s10=.int .i64 i/\i<=n/\n-i<=kx/\dk.size=d.size/\Aside (SE w0 blk off dk wr)/\Aside (∀t,dk[t]! = swR (fun t=>d[t]!) a b i t)/\Aside (∀lo hi,lo<=a->b+n<=hi->hi<=d.size->PermIn lo hi d dk))
 case atStart=>exact⟨0,d,rfl,Nat.zero_le _,Nat.le_refl _,rfl,S0,(fun t=>(swR_zero _ a b t).symm:∀t,d[t]! = swR (fun t=>d[t]!) a b 0 t),(fun lo hi _ _ _=>permIn_refl d lo hi:∀lo hi,lo<=a->b+n<=hi->hi<=d.size->PermIn lo hi d d)⟩
 case round=>
  obtain⟨i,dk,rfl,hin,hkx,hds,S1,G1,P1⟩:=hrel;clear S0;by_cases hlt:i<n
  ·have e1:((a:Int)+(i:Int)).toNat=a+i:=by omega
   have e2:((b:Int)+(i:Int)).toNat=b+i:=by omega
   have p1:(0:Int)<=(a:Int)+(i:Int):=by omega
   have p2:(0:Int)<=(b:Int)+(i:Int):=by omega
   have b1:(a:Int)+(i:Int)<(d.size:Int):=by omega
   have b2:(b:Int)+(i:Int)<(d.size:Int):=by omega
   have r1:IntKind.i64.wrap ((a:Int)+(i:Int))=(a:Int)+(i:Int):=by rw[IntKind.wrap_i64];omega
   have r2:IntKind.i64.wrap ((b:Int)+(i:Int))=(b:Int)+(i:Int):=by rw[IntKind.wrap_i64];omega
   obtain⟨x,hx⟩:∃x,dk[a+i]! = x:=⟨_,rfl⟩;obtain⟨y,hy⟩:∃y,dk[b+i]! = y:=⟨_,rfl⟩;have c1:=se_c0 S1.out R (by omega) (show a+i<dk.size by omega);have c2:=se_c1 S1.out R (by omega) (show a+i<dk.size by omega);have c3:=se_c0 S1.out R (by omega) (show b+i<dk.size by omega);have c4:=se_c1 S1.out R (by omega) (show b+i<dk.size by omega);have f1:=se_f0 S1.out R (by omega) (show a+i<dk.size by omega);have f2:=se_f1 S1.out R (by omega) (show a+i<dk.size by omega);have f3:=se_f0 S1.out R (by omega) (show b+i<dk.size by omega);have f4:=se_f1 S1.out R (by omega) (show b+i<dk.size by omega);have sw:=se_swap S1.out R (show a+i<dk.size by omega) (show b+i<dk.size by omega);rw[hx] at c1 c2 sw;rw[hy] at c3 c4 sw;have S2:Aside _:=sw;have HX:Hid _:=hx;have HY:Hid _:=hy;clear sw S1 hx hy
   go_wp2_with fail
   go_region
   clear c1 c2 c3 c4 f1 f2 f3 f4;generalize World.drew _=w2 at S2⊢
   go_wp2
   go_roundg (n-(i+1))
   case measure=>omega
   case rel=>
    refine⟨i+1,swp dk (a+i) (b+i),by go_num,by omega,Nat.le_refl _,by rw[size_swp];exact hds,S2,(fun t=>?_:∀t,(swp dk (a+i) (b+i))[t]! = swR (fun t=>d[t]!) a b (i+1) t),(fun lo hi h1 h2 h3=>permIn_trans _ _ _ _ _ (P1.out lo hi h1 h2 h3) (swp_permIn dk lo hi _ _ (by omega) (by omega) (by omega) (by omega) (by omega)):∀lo hi,lo<=a->b+n<=hi->hi<=d.size->PermIn lo hi d (swp dk (a+i) (b+i)))⟩;have g:=G1.out;have ga:dk[a+i]! = d[a+i]!:=by rw[g];unfold swR;rw[if_neg (by omega),if_neg (by omega)]
    have gb:dk[b+i]! = d[b+i]!:=by rw[g];unfold swR;rw[if_neg (by omega),if_neg (by omega)]
    rw[swp_get dk (by omega) (by omega),swR_succ _ _ _ _ _ (by omega),g t,ga,gb]
  ·go_wp2
   go_end0
   obtain rfl:i=n:=by omega
   exact⟨rfl,dk,hds,S1.out,G1.out,P1.out⟩
set_option maxRecDepth 1000000 in
theorem rotate_any(blk off cap a m b:Nat)(d0 d:Array Ent)(w0 w:World)(fv:Value)(R:RE w0 blk off d0)(hs:d0.size=d.size)(S:SE w0 blk off d w)(ham:a<m)(hmb:m<b)(hb:b<=d.size)(hsz:d.size<1152921504606846976) :
  Calls Tryz.prog 315 #[.slice (some ⟨blk,off,none⟩) d.size cap,.int .i64 a,.int .i64 m,.int .i64 b,fv] w fun e w'=>e=.returned (.tuple #[])/\
   ∃d':Array Ent,d'.size=d.size/\SE w0 blk off d' w'/\(∀t,d'[t]! = rotF (fun t=>d[t]!) a m b t)/\PermIn a b d d':=by
 have S0:Aside _:=S;clear S;have sr:=fun(x y k:Nat)(dk:Array Ent)(W:World)(z:dk.size=d.size)(h1:SE w0 blk off dk W)(h2:x+k<=y)(h3:y+k<=dk.size)=>swapRange_any blk off cap x y k d0 dk w0 W fv R (by omega) h1 h2 h3 (by omega);have SR:Aside _:=sr;clear sr;go_enter Tryz.func315,Tryz.ntmps315
 go_wp2
 go_loopg [10,11] (b-a) (fun kx s10 s11 wr=>∃(i j:Nat)(dk:Array Ent),s10=.int .i64 i/\s11=.int .i64 j/\1<=i/\1<=j/\a+i<=m/\m+j<=b/\i+j<=kx/\dk.size=d.size/\Aside (SE w0 blk off dk wr)/\Aside (∀t,rotF (fun t=>dk[t]!) (m-i) m (m+j) t=rotF (fun t=>d[t]!) a m b t)/\Aside (PermIn a b d dk))
 case atStart=>exact⟨m-a,b-m,d,by congr 1;omega,by congr 1;omega,by omega,by omega,by omega,by omega,by omega,rfl,S0,(fun t=>by rw[show m-(m-a)=a by omega,show m+(b-m)=b by omega]:∀t,rotF (fun t=>d[t]!) (m-(m-a)) m (m+(b-m)) t=rotF (fun t=>d[t]!) a m b t),permIn_refl d a b⟩
 case round=>
  obtain⟨i,j,dk,rfl,rfl,hi,hj,him,hjb,hkx,hds,S1,G1,P1⟩:=hrel;clear S0;have wi:(m:Int)-(i:Int)=((m-i:Nat):Int):=by omega
  by_cases c:i=j
  ·subst c
   go_wp2_with fail
   rw[<-hds];refine(SR.out (m-i) m i dk wr hds S1.out (by omega) (by omega)).mono ?_;rintro e w1 ⟨rfl,d1,z1,s1,g1,p1⟩
   go_wp2
   go_end0
   refine⟨rfl,d1,by omega,s1,fun t=>?_,permIn_trans _ _ _ _ _ P1.out (p1 a b (by omega) (by omega) (by omega))⟩;rw[g1 t,rot_eq _ _ _ _ (by omega)];exact G1.out t
  ·have cz:¬(i:Int)=(j:Int):=by omega
   by_cases c2:j<i
   ·have c2z:(j:Int)<(i:Int):=by omega
    go_wp2_with fail
    rw[<-hds];refine(SR.out (m-i) m j dk wr hds S1.out (by omega) (by omega)).mono ?_;rintro e w1 ⟨rfl,d1,z1,s1,g1,p1⟩;have S2:Aside _:=s1;have G2:Aside _:=g1;have P2:Aside _:=p1;clear s1 g1 p1 S1
    go_wp2
    go_roundg (i+j-j)
    case measure=>omega
    case rel=>
     refine⟨i-j,j,d1,by congr 1;omega,rfl,by omega,by omega,by omega,by omega,by omega,by omega,S2,(fun t=>?_:∀t,rotF (fun t=>d1[t]!) (m-(i-j)) m (m+j) t=rotF (fun t=>d[t]!) a m b t),permIn_trans _ _ _ _ _ P1.out (P2.out a b (by omega) (by omega) (by omega))⟩;rw[rotF_congr G2.out,rot_gt _ _ _ _ _ c2 (by omega)];exact G1.out t
   ·have c2z:¬(j:Int)<(i:Int):=by omega
    have wj:(m:Int)+(j:Int)-(i:Int)=((m+j-i:Nat):Int):=by omega
    go_wp2_with fail
    rw[<-hds];refine(SR.out (m-i) (m+j-i) i dk wr hds S1.out (by omega) (by omega)).mono ?_;rintro e w1 ⟨rfl,d1,z1,s1,g1,p1⟩;have S2:Aside _:=s1;have G2:Aside _:=g1;have P2:Aside _:=p1;clear s1 g1 p1 S1
    go_wp2
    go_roundg (i+j-i)
    case measure=>omega
    case rel=>
     refine⟨i,j-i,d1,rfl,by congr 1;omega,by omega,by omega,by omega,by omega,by omega,by omega,S2,(fun t=>?_:∀t,rotF (fun t=>d1[t]!) (m-i) m (m+(j-i)) t=rotF (fun t=>d[t]!) a m b t),permIn_trans _ _ _ _ _ P1.out (P2.out a b (by omega) (by omega) (by omega))⟩;rw[rotF_congr G2.out,rot_lt _ _ _ _ _ (by omega) (by omega)];exact G1.out t
def Grown(w w':World):Prop:=∃q os,w'=grow (w.drewN q) os
theorem Grown.refl(w:World):Grown w w:=⟨0,#[],by rw[grow_empty];rfl⟩
theorem Grown.trans{u v w:World}(h:Grown u v)(k:Grown v w):Grown u w:=by
 obtain⟨q,os,rfl⟩:=h;obtain⟨q',os',rfl⟩:=k;exact⟨q+q',os++os',by show grow (grow ((u.drewN q).drewN q') os) os'=_;rw[grow_grow,World.drewN_drewN]⟩
theorem Grown.alloc{u v:World}(h:Grown u v)(o:Obj):Grown u (v.alloc o):=h.trans ⟨0,#[o],by rw[alloc_eq_grow];rfl⟩
theorem Grown.drewN{u v:World}(h:Grown u v)(q:Nat):Grown u (v.drewN q):=h.trans ⟨q,#[],by rw[grow_empty]⟩
theorem Grown.below{u v:World}(h:Grown u v):Below u.heap.size u v:=by
 obtain⟨q,os,rfl⟩:=h;exact⟨rfl,rfl,rfl,by simp[grow],fun k hk=>heap_grow_old _ _ hk⟩
theorem Grown.cells{u v:World}(h:Grown u v)(b o:Nat)(hb:b<u.heap.size):v.cell? ⟨b,o,none⟩=u.cell? ⟨b,o,none⟩:=h.below.cell (p:=⟨b,o,none⟩) hb
def cfE(x y:Ent):Int:=if ltE x y then -1 else if ltE y x then 1 else 0
theorem ltOf_cfE(x y:Ent):decide (cfE x y<0)=ltE x y:=by
 unfold cfE
 cases h:ltE x y<;>cases h':ltE y x<;>simp
theorem cfE_neg(x y:Ent)(h:ltE x y=true):cfE x y<0:=of_decide_eq_true ((ltOf_cfE x y).trans h)
theorem cfE_not(x y:Ent)(h:ltE x y=false):¬cfE x y<0:=of_decide_eq_false ((ltOf_cfE x y).trans h)
theorem less_any(x y:Ent)(w:World) :
  Calls Tryz.prog 229 #[.agg #[.int .u64 x.1,.int .i64 x.2],.agg #[.int .u64 y.1,.int .i64 y.2]] w fun e w'=>e=.returned (.bool (ltE x y))/\Grown w w':=by
 obtain⟨k1,i1⟩:=x;obtain⟨k2,i2⟩:=y;by_cases h:k1=k2
 ·have e:ltE (k1,i1) (k2,i2)=decide (i1<i2):=by unfold ltE;rw[if_pos h]
  rw[e];clear e;go_enter Tryz.func229,Tryz.ntmps229
  go_wp2
  go_ret;exact⟨rfl,((Grown.refl w).alloc _).alloc _⟩
 ·have e:ltE (k1,i1) (k2,i2)=decide (k1<k2):=by unfold ltE;rw[if_neg h]
  rw[e];clear e;go_enter Tryz.func229,Tryz.ntmps229
  go_wp2
  go_ret;exact⟨rfl,((Grown.refl w).alloc _).alloc _⟩
theorem cmp_any(x y:Ent)(w:World) :
  Calls Tryz.prog 276 #[.agg #[.int .u64 x.1,.int .i64 x.2],.agg #[.int .u64 y.1,.int .i64 y.2]] w fun e w'=>e=.returned (.int .i64 (cfE x y))/\Grown w w':=by
 obtain⟨B,hB⟩:∃B,ltE x y=B:=⟨_,rfl⟩;obtain⟨C,hC⟩:∃C,ltE y x=C:=⟨_,rfl⟩;have HC:Hid (cfE x y=if B then -1 else if C then 1 else 0):=by show cfE x y=_;unfold cfE;rw[hB,hC]
 have l1:=fun w=>less_any x y w;have l2:=fun w=>less_any y x w;rw[hB] at l1;rw[hC] at l2;go_enter Tryz.func276,Tryz.ntmps276
 go_wp2_with fail
 refine(l1 _).mono ?_;rintro e w1 ⟨rfl,g1⟩;have hc:=g1.cells
 cases B with
 | true=>
  go_wp2_with fail
  go_ret;exact⟨by rw[HC.out];rfl,(((Grown.refl w).alloc _).alloc _).trans g1⟩
 | false=>
  go_wp2_with fail
  refine(l2 _).mono ?_;rintro e w2 ⟨rfl,g2⟩
  cases C with
  | true=>
   go_wp2_with fail
   go_ret;exact⟨by rw[HC.out];rfl,((((Grown.refl w).alloc _).alloc _).trans g1).trans g2⟩
  | false=>
   go_wp2_with fail
   go_ret;exact⟨by rw[HC.out];rfl,((((Grown.refl w).alloc _).alloc _).trans g1).trans g2⟩
theorem cmp_grown(x y:Ent)(w:World)(n:Nat)(os:Array Obj) :
  Calls Tryz.prog 276 #[.agg #[.int .u64 x.1,.int .i64 x.2],.agg #[.int .u64 y.1,.int .i64 y.2]] (grow (w.drewN n) os) fun e w'=>e=.returned (.int .i64 (cfE x y))/\∃p:GrownBy,w'=grow (w.drewN p.n) p.os:=
 Calls.grown_of (cmp_any x y _)
end Go.Proofs.YthpgfmmpjoodkaaGreatDoor.Qu
