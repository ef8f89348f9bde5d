import Derived.Shelf.SlSortCmp.NoneTotal
import Derived.Shelf.SlGeneric
import Derived.Ground.SlsfProg
import Derived.Test.YthpgfmmpjoodkaaGreatDoorProg
import Derived.Sort.LotA
import Derived.Shelf.SlSortCmp.KitK
import Derived.WalkKit
import Derived.Deep.QuietTactic
import Derived.BigQuiet
import Derived.Lib.AppendZeros
import Derived.Laws.OwnMore
import Derived.Below
namespace Go.Proofs.YthpgfmmpjoodkaaGreatDoor.Wl
set_option maxRecDepth 100000
set_option linter.unusedVariables false
section
open Go.Shelf
def sortT_ren:Go.Shelf.Ren:=⟨fun|6=>107|15=>121|14=>150|28=>175|29=>176|20=>218|21=>219|22=>220|23=>221|24=>222|25=>223|26=>224|27=>225|46=>271|47=>236|48=>237|49=>272|50=>273|57=>298|n=>n,fun|22=>39|24=>131|25=>197|3=>3|39=>68|0=>0|53=>271|55=>34|4=>4|46=>265|45=>264|50=>63|5=>5|9=>9|66=>318|70=>321|76=>351|77=>274|n=>n,fun|n=>n⟩
theorem sortT:Go.Proofs.SlLaysF0.n6 Tryz.prog sortT_ren:={
 mixed:=by kernel_rfl
 f6:=⟨Tryz.f107.name,by decide,Tryz.func107.trans (congrArg some (by kernel_rfl))⟩
 f14:=⟨Tryz.f150.name,by decide,Tryz.func150.trans (congrArg some (by kernel_rfl))⟩
 f15:=Tryz.func121.trans (congrArg some (by kernel_rfl))
 f20:=⟨Tryz.f218.name,by decide,Tryz.func218.trans (congrArg some (by kernel_rfl))⟩
 f21:=⟨Tryz.f219.name,by decide,Tryz.func219.trans (congrArg some (by kernel_rfl))⟩
 f22:=⟨Tryz.f220.name,by decide,Tryz.func220.trans (congrArg some (by kernel_rfl))⟩
 f23:=⟨Tryz.f221.name,by decide,Tryz.func221.trans (congrArg some (by kernel_rfl))⟩
 f24:=⟨Tryz.f222.name,by decide,Tryz.func222.trans (congrArg some (by kernel_rfl))⟩
 f25:=⟨Tryz.f223.name,by decide,Tryz.func223.trans (congrArg some (by kernel_rfl))⟩
 f26:=⟨Tryz.f224.name,by decide,Tryz.func224.trans (congrArg some (by kernel_rfl))⟩
 f27:=⟨Tryz.f225.name,by decide,Tryz.func225.trans (congrArg some (by kernel_rfl))⟩
 f28:=Tryz.func175.trans (congrArg some (by kernel_rfl))
 f29:=Tryz.func176.trans (congrArg some (by kernel_rfl))
 f46:=⟨Tryz.f271.name,by decide,Tryz.func271.trans (congrArg some (by kernel_rfl))⟩
 f47:=Tryz.func236.trans (congrArg some (by kernel_rfl))
 f48:=Tryz.func237.trans (congrArg some (by kernel_rfl))
 f49:=⟨Tryz.f272.name,by decide,Tryz.func272.trans (congrArg some (by kernel_rfl))⟩
 f50:=⟨Tryz.f273.name,by decide,Tryz.func273.trans (congrArg some (by kernel_rfl))⟩
 f57:=⟨Tryz.f298.name,by decide,Tryz.func298.trans (congrArg some (by kernel_rfl))⟩
 t0:=Tryz.underlying0
 a0:=Tryz.isAgg0
 z0:=Tryz.sizeOf0
 v0:=Tryz.zeroValue0
 t3:=Tryz.underlying3
 a3:=Tryz.isAgg3
 z3:=Tryz.sizeOf3
 v3:=Tryz.zeroValue3
 t4:=Tryz.underlying4
 a4:=Tryz.isAgg4
 z4:=Tryz.sizeOf4
 v4:=Tryz.zeroValue4
 t5:=Tryz.underlying5
 a5:=Tryz.isAgg5
 z5:=Tryz.sizeOf5
 v5:=Tryz.zeroValue5
 t9:=Tryz.underlying9
 a9:=Tryz.isAgg9
 z9:=Tryz.sizeOf9
 v9:=Tryz.zeroValue9
 t22:=Tryz.underlying39
 a22:=Tryz.isAgg39
 z22:=Tryz.sizeOf39
 v22:=Tryz.zeroValue39
 t25:=Tryz.underlying197
 a25:=Tryz.isAgg197
 z25:=Tryz.sizeOf197
 v25:=Tryz.zeroValue197
 t39:=Tryz.underlying68
 a39:=Tryz.isAgg68
 z39:=Tryz.sizeOf68
 v39:=Tryz.zeroValue68
 t45:=Tryz.underlying264
 a45:=Tryz.isAgg264
 z45:=Tryz.sizeOf264
 v45:=Tryz.zeroValue264
 t46:=Tryz.underlying265
 a46:=Tryz.isAgg265
 z46:=Tryz.sizeOf265
 v46:=Tryz.zeroValue265
 t50:=Tryz.underlying63
 a50:=Tryz.isAgg63
 z50:=Tryz.sizeOf63
 v50:=Tryz.zeroValue63
 t53:=Tryz.underlying271
 a53:=Tryz.isAgg271
 z53:=Tryz.sizeOf271
 v53:=Tryz.zeroValue271
 t55:=Tryz.underlying34
 a55:=Tryz.isAgg34
 z55:=Tryz.sizeOf34
 v55:=Tryz.zeroValue34
 t66:=Tryz.underlying318
 a66:=Tryz.isAgg318
 z66:=Tryz.sizeOf318
 v66:=Tryz.zeroValue318
 t70:=Tryz.underlying321
 a70:=Tryz.isAgg321
 z70:=Tryz.sizeOf321
 v70:=Tryz.zeroValue321
 t76:=Tryz.underlying351
 a76:=Tryz.isAgg351
 z76:=Tryz.sizeOf351
 v76:=Tryz.zeroValue351
 t77:=Tryz.underlying274
 a77:=Tryz.isAgg274
 z77:=Tryz.sizeOf274
 v77:=Tryz.zeroValue274}
end
section
open Go.Sort
abbrev Ent:=Int×Int
def ltE(x y:Ent):Bool:=if x.1=y.1 then decide (x.2<y.2) else decide (x.1<y.1)
theorem ltE_iff(x y:Ent):ltE x y=true↔(x.1<y.1\/x.1=y.1/\x.2<y.2):=by
 unfold ltE;split<;>simp<;>omega
theorem ltE_not(x y:Ent):ltE x y=false↔(y.1<x.1\/x.1=y.1/\y.2<=x.2):=by
 unfold ltE;split<;>simp<;>omega
theorem swoE:SWO ltE where
 irrefl x:=by rw[ltE_not];omega
 trans x y z h1 h2:=by rw[ltE_iff] at *;omega
 ntrans x y z h1 h2:=by rw[ltE_not] at *;omega
theorem totE(x y:Ent)(h1:ltE x y=false)(h2:ltE y x=false):x=y:=by
 rw[ltE_not] at *;exact Prod.ext (by omega) (by omega)
section
variable {α:Type}
variable [Inhabited α] {lt:α->α->Bool}
variable {a s mid e b bs n q0:Nat}{d:Array α}
end
end
section
open Go.RowKit Go.Lib Go.Sort
def encE(x:Ent):List Value:=[.int .u64 x.1,.int .i64 x.2]
theorem encE_len(x:Ent):(encE x).length=2:=rfl
theorem encE_one(x:Ent):∀v∈encE x,v.oneCell'=true:=by
 intro v hv;simp[encE] at hv;rcases hv with rfl|rfl<;>rfl
abbrev SE(w0:World)(blk off:Nat)(d:Array Ent)(W:World):Prop:=SWK encE 2 w0 blk off d W
abbrev RE(w0:World)(blk off:Nat)(d:Array Ent):Prop:=RowK encE 2 w0 blk off d
variable {w0 W:World}{blk off:Nat}{d0 d dk:Array Ent}
theorem se_c0(S:SE w0 blk off dk W)(R:RE w0 blk off d0)(hs:dk.size=d0.size){i:Nat}(hi:i<dk.size):W.cell? ⟨blk,off+i*2,none⟩=some (.int .u64 dk[i]!.1):=
 ((S.holds R.hblk R.hH hs).cell hi (show 0<2 by omega)).1
theorem se_c1(S:SE w0 blk off dk W)(R:RE w0 blk off d0)(hs:dk.size=d0.size){i:Nat}(hi:i<dk.size):W.cell? ⟨blk,off+i*2+1,none⟩=some (.int .i64 dk[i]!.2):=
 ((S.holds R.hblk R.hH hs).cell hi (show 1<2 by omega)).1
theorem mixed:Tryz.prog.follows .mixedOrders=true:=by kernel_rfl
end
section
open Go.RowKit Go.Lib Go.Sort
def Grown(w w':World):Prop:=∃q os,w'=grow (w.drewN q) os
theorem Grown.refl(w:World):Grown w w:=⟨0,#[],by rw[grow_empty];rfl⟩
theorem Grown.trans{u v w:World}(h:Grown u v)(k:Grown v w):Grown u w:=by
 obtain⟨q,os,rfl⟩:=h;obtain⟨q',os',rfl⟩:=k;exact⟨q+q',os++os',by show grow (grow ((u.drewN q).drewN q') os) os'=_;rw[grow_grow,World.drewN_drewN]⟩
theorem Grown.alloc{u v:World}(h:Grown u v)(o:Obj):Grown u (v.alloc o):=h.trans ⟨0,#[o],by rw[alloc_eq_grow];rfl⟩
theorem Grown.drewN{u v:World}(h:Grown u v)(q:Nat):Grown u (v.drewN q):=h.trans ⟨q,#[],by rw[grow_empty]⟩
theorem Grown.drew{u v:World}(h:Grown u v):Grown u v.drew:=h.drewN 1
theorem Grown.below{u v:World}(h:Grown u v):Below u.heap.size u v:=by
 obtain⟨q,os,rfl⟩:=h;exact⟨rfl,rfl,rfl,by simp[grow],fun k hk=>heap_grow_old _ _ hk⟩
theorem Grown.cells{u v:World}(h:Grown u v)(b o:Nat)(hb:b<u.heap.size):v.cell? ⟨b,o,none⟩=u.cell? ⟨b,o,none⟩:=h.below.cell (p:=⟨b,o,none⟩) hb
def cfE(x y:Ent):Int:=if ltE x y then -1 else if ltE y x then 1 else 0
theorem ltOf_cfE(x y:Ent):decide (cfE x y<0)=ltE x y:=by
 unfold cfE
 cases h:ltE x y<;>cases h':ltE y x<;>simp
end
section
open Go.RowKit Go.Lib Go.Sort
def flat(d:List Ent):List Value:=d.flatMap encE
@[simp] theorem flat_nil:flat []=[]:=rfl
theorem flat_cons(x:Ent)(d:List Ent):flat (x::d)=.int .u64 x.1::.int .i64 x.2::flat d:=rfl
theorem flat_append(c d:List Ent):flat (c++d)=flat c++flat d:=by simp[flat]
theorem flat_len(d:List Ent):(flat d).length=d.length*2:=by
 induction d with
 | nil=>rfl
 | cons x d ih=>simp only[flat_cons,List.length_cons,ih];omega
theorem flat_one(d:List Ent):∀u∈flat d,u.oneCell'=true:=by
 intro u hu;obtain⟨x,_,h⟩:=List.mem_flatMap.1 hu;exact encE_one x u h
theorem flat_at(d:List Ent):∀(i:Nat)(x:Ent),d[i]?=some x->(flat d)[i*2]?=some (.int .u64 x.1)/\(flat d)[i*2+1]?=some (.int .i64 x.2):=by
 induction d with
 | nil=>intro i x h;simp at h
 | cons y d ih=>
  intro i x h
  cases i with
  | zero=>simp at h;subst h;exact⟨rfl,rfl⟩
  | succ i=>
   obtain⟨h1,h2⟩:=ih i x (by simpa using h);rw[show(i+1)*2=i*2+1+1 by omega,flat_cons];exact⟨by simpa using h1,by simpa using h2⟩
theorem flat_get(d:List Ent)(f:Nat->Option Value)(h:∀i x,d[i]?=some x->f (i*2)=some (.int .u64 x.1)/\f (i*2+1)=some (.int .i64 x.2)):∀j u,(flat d)[j]?=some u->f j=some u:=by
 intro j u hj;have hl:j<(flat d).length:=(List.getElem?_eq_some_iff.1 hj).1;rw[flat_len] at hl;obtain⟨x,hx⟩:∃x,d[j/2]?=some x:=⟨_,List.getElem?_eq_getElem (by omega)⟩;obtain⟨h1,h2⟩:=h _ x hx;obtain⟨g1,g2⟩:=flat_at d _ x hx;by_cases e:j=j/2*2
 ·rw[<-e] at h1 g1;rw[h1,<-g1,hj]
 ·have e':j/2*2+1=j:=by omega
  rw[e'] at h2 g2;rw[h2,<-g2,hj]
structure IsL(w:World)(a:Option Addr)(cap:Nat)(d:List Ent):Prop where
 le:d.length<=cap
 big:cap<=maxLen
 elem:∀i x,d[i]?=some x->∃b off,a=some ⟨b,off,none⟩/\b<w.heap.size/\w.cell? ⟨b,off+i*2,none⟩=some (.int .u64 x.1)/\w.cell? ⟨b,off+i*2+1,none⟩=some (.int .i64 x.2)
variable {w w':World}{a:Option Addr}{cap base:Nat}{d c:List Ent}{v:Value}
theorem IsL.nil(w:World):IsL w none 0 []:=⟨by simp,by simp,fun i x h=>by simp at h⟩
theorem IsL.below(h:IsL w a cap d)(hw:Below w.heap.size w w'):IsL w' a cap d:=
 ⟨h.le,h.big,fun i x hx=>by
  obtain⟨b,off,e,hb,h1,h2⟩:=h.elem i x hx;exact⟨b,off,e,by have:=hw.size;omega,(hw.cell (p:=⟨b,off+i*2,none⟩) hb).trans h1,(hw.cell (p:=⟨b,off+i*2+1,none⟩) hb).trans h2⟩⟩
theorem IsL.len(h:IsL w a cap d):d.length<=9223372036854775807:=by
 have h1:=h.le;have h2:=h.big;unfold maxLen at h2;omega
theorem infoE:∃i,Tryz.prog.info? 131=some i/\i.zero=some (.agg #[.int .u64 0,.int .i64 0])/\i.size=2/\i.bytes=16:=by
 have h:(Tryz.prog.info? 131).map (fun i=>(i.zero,i.size,i.bytes))=some (some (.agg #[.int .u64 0,.int .i64 0]),2,16):=by kernel_rfl
 obtain⟨i,h1,h2⟩:=Option.map_eq_some_iff.1 h;simp at h2;exact⟨i,h1,h2.1,h2.2.1,h2.2.2⟩
end
end Go.Proofs.YthpgfmmpjoodkaaGreatDoor.Wl
