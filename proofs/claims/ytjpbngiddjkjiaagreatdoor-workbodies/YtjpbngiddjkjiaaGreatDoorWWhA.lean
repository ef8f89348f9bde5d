import Derived.Test.YtjpbngiddjkjiaaGreatDoorProg
import Derived.Test.YtjpbngiddjkjiaaGreatDoorWWhM
import Derived.WalkKit
import Derived.Laws.Bits64
import Derived.Laws.Bits64b
import Derived.Shelf.Spec.TrailingZeros
import Derived.Sort.LotA
import Derived.Shelf.SlSortCmp.KitK
import Derived.Deep.QuietTactic
import Derived.BigQuiet
import Derived.Lib.AppendZeros
import Derived.Laws.OwnMore
import Derived.Below
open Go.Proofs.Tryz
namespace Go.Proofs.YtjpbngiddjkjiaaGreatDoor.Wl
set_option maxRecDepth 100000
set_option linter.unusedVariables false
section
open Go.RowKit Go.Lib
theorem ret_i64{a b:Int}(h:a=b):Ending.returned (.int .i64 a)=Ending.returned (.int .i64 b):=by rw[h]
theorem slotOf_any(t l:Nat)(ht:t<B64)(hl:l<=10)(w:World) :
  Calls prog 250 #[.int .u64 t,.int .i64 l] w fun e w'=>e=.returned (.int .i64 (slt t l:Nat))/\w'=w:=by
 have hB:B64=18446744073709551616:=rfl
 have key:wrap64 (bits BinOp.and IntKind.u64 (↑t/2^(l*6)) 63)=((slt t l:Nat):Int):=by
  have e1:((t:Int)/2^(l*6))=((t/2^(l*6):Nat):Int):=by push_cast;rfl
  have h1:t/2^(l*6)<=t:=Nat.div_le_self _ _;rw[e1,show(63:Int)=((63:Nat):Int) from rfl,bits_and_u64_nat _ _ (by omega) (by omega),show(63:Nat)=2^6-1 from rfl,Nat.and_two_pow_sub_one_eq_mod];unfold slt;rw[show(64:Nat)^l=2^(l*6) by rw[Nat.mul_comm,Nat.pow_mul]];have:t/2^(l*6)%2^6<64:=Nat.mod_lt _ (by omega);unfold wrap64;omega
 go_enter func250,ntmps250
 go_wp2
 go_ret;exact⟨rfl,rfl⟩
end
section
open Go.Sort
abbrev Ent:=Int×Int
def ltE(x y:Ent):Bool:=if x.1=y.1 then decide (x.2<y.2) else decide (x.1<y.1)
theorem ltE_iff(x y:Ent):ltE x y=true↔(x.1<y.1\/x.1=y.1/\x.2<y.2):=by
 unfold ltE;split<;>simp<;>omega
theorem ltE_not(x y:Ent):ltE x y=false↔(y.1<x.1\/x.1=y.1/\y.2<=x.2):=by
 unfold ltE;split<;>simp<;>omega
theorem swoE:SWO ltE where
 irrefl x:=by rw[ltE_not];omega
 trans x y z h1 h2:=by rw[ltE_iff] at *;omega
 ntrans x y z h1 h2:=by rw[ltE_not] at *;omega
theorem totE(x y:Ent)(h1:ltE x y=false)(h2:ltE y x=false):x=y:=by
 rw[ltE_not] at *;exact Prod.ext (by omega) (by omega)
section
variable {α:Type}
variable [Inhabited α] {lt:α->α->Bool}
variable {a s mid e b bs n q0:Nat}{d:Array α}
end
end
section
open Go.RowKit Go.Lib Go.Sort
def encE(x:Ent):List Value:=[.int .u64 x.1,.int .i64 x.2]
theorem encE_one(x:Ent):∀v∈encE x,v.oneCell'=true:=by
 intro v hv;simp[encE] at hv;rcases hv with rfl|rfl<;>rfl
variable {w0 W:World}{blk off:Nat}{d0 d dk:Array Ent}
theorem mixed:prog.follows .mixedOrders=true:=by kernel_rfl
end
section
open Go.RowKit Go.Lib Go.Sort
def Grown(w w':World):Prop:=∃q os,w'=grow (w.drewN q) os
theorem Grown.refl(w:World):Grown w w:=⟨0,#[],by rw[grow_empty];rfl⟩
theorem Grown.trans{u v w:World}(h:Grown u v)(k:Grown v w):Grown u w:=by
 obtain⟨q,os,rfl⟩:=h;obtain⟨q',os',rfl⟩:=k;exact⟨q+q',os++os',by show grow (grow ((u.drewN q).drewN q') os) os'=_;rw[grow_grow,World.drewN_drewN]⟩
theorem Grown.alloc{u v:World}(h:Grown u v)(o:Obj):Grown u (v.alloc o):=h.trans ⟨0,#[o],by rw[alloc_eq_grow];rfl⟩
theorem Grown.drewN{u v:World}(h:Grown u v)(q:Nat):Grown u (v.drewN q):=h.trans ⟨q,#[],by rw[grow_empty]⟩
theorem Grown.drew{u v:World}(h:Grown u v):Grown u v.drew:=h.drewN 1
theorem Grown.below{u v:World}(h:Grown u v):Below u.heap.size u v:=by
 obtain⟨q,os,rfl⟩:=h;exact⟨rfl,rfl,rfl,by simp[grow],fun k hk=>heap_grow_old _ _ hk⟩
theorem Grown.cells{u v:World}(h:Grown u v)(b o:Nat)(hb:b<u.heap.size):v.cell? ⟨b,o,none⟩=u.cell? ⟨b,o,none⟩:=h.below.cell (p:=⟨b,o,none⟩) hb
def cfE(x y:Ent):Int:=if ltE x y then -1 else if ltE y x then 1 else 0
theorem ltOf_cfE(x y:Ent):decide (cfE x y<0)=ltE x y:=by
 unfold cfE
 cases h:ltE x y<;>cases h':ltE y x<;>simp
end
section
open Go.RowKit Go.Lib Go.Sort
def flat(d:List Ent):List Value:=d.flatMap encE
@[simp] theorem flat_nil:flat []=[]:=rfl
theorem flat_cons(x:Ent)(d:List Ent):flat (x::d)=.int .u64 x.1::.int .i64 x.2::flat d:=rfl
theorem flat_append(c d:List Ent):flat (c++d)=flat c++flat d:=by simp[flat]
theorem flat_len(d:List Ent):(flat d).length=d.length*2:=by
 induction d with
 | nil=>rfl
 | cons x d ih=>simp only[flat_cons,List.length_cons,ih];omega
theorem flat_one(d:List Ent):∀u∈flat d,u.oneCell'=true:=by
 intro u hu;obtain⟨x,_,h⟩:=List.mem_flatMap.1 hu;exact encE_one x u h
theorem flat_at(d:List Ent):∀(i:Nat)(x:Ent),d[i]?=some x->(flat d)[i*2]?=some (.int .u64 x.1)/\(flat d)[i*2+1]?=some (.int .i64 x.2):=by
 induction d with
 | nil=>intro i x h;simp at h
 | cons y d ih=>
  intro i x h
  cases i with
  | zero=>simp at h;subst h;exact⟨rfl,rfl⟩
  | succ i=>
   obtain⟨h1,h2⟩:=ih i x (by simpa using h);rw[show(i+1)*2=i*2+1+1 by omega,flat_cons];exact⟨by simpa using h1,by simpa using h2⟩
theorem flat_get(d:List Ent)(f:Nat->Option Value)(h:∀i x,d[i]?=some x->f (i*2)=some (.int .u64 x.1)/\f (i*2+1)=some (.int .i64 x.2)):∀j u,(flat d)[j]?=some u->f j=some u:=by
 intro j u hj;have hl:j<(flat d).length:=(List.getElem?_eq_some_iff.1 hj).1;rw[flat_len] at hl;obtain⟨x,hx⟩:∃x,d[j/2]?=some x:=⟨_,List.getElem?_eq_getElem (by omega)⟩;obtain⟨h1,h2⟩:=h _ x hx;obtain⟨g1,g2⟩:=flat_at d _ x hx;by_cases e:j=j/2*2
 ·rw[<-e] at h1 g1;rw[h1,<-g1,hj]
 ·have e':j/2*2+1=j:=by omega
  rw[e'] at h2 g2;rw[h2,<-g2,hj]
structure IsL(w:World)(a:Option Addr)(cap:Nat)(d:List Ent):Prop where
 le:d.length<=cap
 big:cap<=maxLen
 elem:∀i x,d[i]?=some x->∃b off,a=some ⟨b,off,none⟩/\b<w.heap.size/\w.cell? ⟨b,off+i*2,none⟩=some (.int .u64 x.1)/\w.cell? ⟨b,off+i*2+1,none⟩=some (.int .i64 x.2)
variable {w w':World}{a:Option Addr}{cap base:Nat}{d c:List Ent}{v:Value}
theorem IsL.nil(w:World):IsL w none 0 []:=⟨by simp,by simp,fun i x h=>by simp at h⟩
theorem IsL.below(h:IsL w a cap d)(hw:Below w.heap.size w w'):IsL w' a cap d:=
 ⟨h.le,h.big,fun i x hx=>by
  obtain⟨b,off,e,hb,h1,h2⟩:=h.elem i x hx;exact⟨b,off,e,by have:=hw.size;omega,(hw.cell (p:=⟨b,off+i*2,none⟩) hb).trans h1,(hw.cell (p:=⟨b,off+i*2+1,none⟩) hb).trans h2⟩⟩
theorem IsL.len(h:IsL w a cap d):d.length<=9223372036854775807:=by
 have h1:=h.le;have h2:=h.big;unfold maxLen at h2;omega
def OwnE(w:World)(base:Nat)(v:Value)(d:List Ent):Prop:=w.ownsRow base 282 2 v d.length (flat d)
theorem OwnE.isL(h:OwnE w base v d):∃a cap,v=.slice a d.length cap/\IsL w a cap d:=by
 obtain⟨h1,h2⟩:=h;rcases h2 with⟨rfl,h0⟩|⟨g,cap,cur,rfl,hb,hg,hn,hc,hs,ht⟩
 ·obtain rfl:d=[]:=List.length_eq_zero_iff.1 h0;exact⟨none,0,rfl,IsL.nil w⟩
 ·have own:OwnE w base (.slice (some ⟨g,0,none⟩) d.length cap) d:=⟨h1,.inr ⟨g,cap,cur,rfl,hb,hg,hn,hc,hs,ht⟩⟩;refine⟨some ⟨g,0,none⟩,cap,rfl,hn,hc,fun i x hx=>?_⟩;have hi:i<d.length:=(List.getElem?_eq_some_iff.1 hx).1;obtain⟨g1,g2⟩:=flat_at d i x hx;refine⟨g,0,rfl,lt_of_block hg,?_,?_⟩
  ·rw[Nat.zero_add,World.ownsRow.cellAt own (i*2) (by omega),g1]
  ·rw[Nat.zero_add,World.ownsRow.cellAt own (i*2+1) (by omega),g2]
theorem OwnE.one(w:World)(x:Ent)(hb:base<=w.heap.size):OwnE (w.alloc (.cells #[.int .u64 x.1,.int .i64 x.2] 282)) base (.slice (some ⟨w.heap.size,0,none⟩) 1 1) [x]:=
 World.ownsRow_lit w #[.int .u64 x.1,.int .i64 x.2] 1 hb (by unfold maxLen;omega) rfl
theorem IsL.one(w:World)(x:Ent):IsL (w.alloc (.cells #[.int .u64 x.1,.int .i64 x.2] 282)) (some ⟨w.heap.size,0,none⟩) 1 [x]:=by
 obtain⟨a,cap,e,h⟩:=(OwnE.one w x (base:=0) (Nat.zero_le _)).isL
 cases e
 exact h
theorem infoE:∃i,prog.info? 282=some i/\i.zero=some (.agg #[.int .u64 0,.int .i64 0])/\i.size=2/\i.bytes=16:=by
 have h:(prog.info? 282).map (fun i=>(i.zero,i.size,i.bytes))=some (some (.agg #[.int .u64 0,.int .i64 0]),2,16):=by kernel_rfl
 obtain⟨i,h1,h2⟩:=Option.map_eq_some_iff.1 h;simp at h2;exact⟨i,h1,h2.1,h2.2.1,h2.2.2⟩
end
end Go.Proofs.YtjpbngiddjkjiaaGreatDoor.Wl
