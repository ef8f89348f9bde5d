import Derived.Test.YtdboknkfhbhniaaGreatDoorProg
import Derived.Test.YtdboknkfhbhniaaGreatDoorWWhM
import Derived.WalkKit
import Derived.Laws.Bits64
import Derived.Laws.Bits64b
import Derived.Shelf.Spec.TrailingZeros
import Derived.Shelf.SlSortCmp.NoneTotal
import Derived.Shelf.SlGeneric
import Derived.Ground.SlsfProg
import Derived.Sort.LotA
import Derived.Shelf.SlSortCmp.KitK
import Derived.Deep.QuietTactic
import Derived.BigQuiet
import Derived.Lib.AppendZeros
import Derived.Laws.OwnMore
import Derived.Below
namespace Go.Proofs.YtdboknkfhbhniaaGreatDoor.Wl
set_option maxRecDepth 100000
set_option linter.unusedVariables false
section
open Go.RowKit Go.Lib
theorem ret_i64{a b:Int}(h:a=b):Ending.returned (.int .i64 a)=Ending.returned (.int .i64 b):=by rw[h]
theorem slotOf_any(t l:Nat)(ht:t<B64)(hl:l≤10)(w:World) :
  Calls Tryz.prog 190 #[.int .u64 t,.int .i64 l] w fun e w'=>e=.returned (.int .i64 (slt t l:Nat))∧w'=w:=by
 have hB:B64=18446744073709551616:=rfl
 have key:wrap64 (bits BinOp.and IntKind.u64 (↑t/2^(l*6)) 63)=((slt t l:Nat):Int):=by
  have e1:((t:Int)/2^(l*6))=((t/2^(l*6):Nat):Int):=by push_cast;rfl
  have h1:t/2^(l*6)≤t:=Nat.div_le_self _ _
  rw[e1,show(63:Int)=((63:Nat):Int) from rfl,bits_and_u64_nat _ _ (by omega) (by omega),show(63:Nat)=2^6-1 from rfl,Nat.and_two_pow_sub_one_eq_mod]
  unfold slt
  rw[show(64:Nat)^l=2^(l*6) by rw[Nat.mul_comm,Nat.pow_mul]]
  have:t/2^(l*6)%2^6<64:=Nat.mod_lt _ (by omega)
  unfold wrap64
  omega
 go_enter Tryz.func190,Tryz.ntmps190
 go_wp2
 go_ret
 exact⟨rfl,rfl⟩
end
section
open Go.Shelf
def sortT_ren:Go.Shelf.Ren:=⟨fun|6=>87|15=>138|14=>137|28=>202|29=>203|20=>194|21=>195|22=>196|23=>197|24=>198|25=>199|26=>200|27=>201|46=>241|47=>242|48=>243|49=>244|50=>245|57=>283|n=>n,fun|22=>36|24=>108|25=>185|3=>3|39=>69|0=>0|53=>311|55=>31|4=>4|46=>305|45=>304|50=>70|5=>5|9=>9|66=>330|70=>333|76=>357|77=>241|n=>n,fun|n=>n⟩
theorem sortT:Go.Proofs.SlLaysF0.n6 Tryz.prog sortT_ren:={
 mixed:=by kernel_rfl
 f6:=⟨Tryz.f87.name,by decide,Tryz.func87.trans (congrArg some (by kernel_rfl))⟩
 f14:=⟨Tryz.f137.name,by decide,Tryz.func137.trans (congrArg some (by kernel_rfl))⟩
 f15:=Tryz.func138.trans (congrArg some (by kernel_rfl))
 f20:=⟨Tryz.f194.name,by decide,Tryz.func194.trans (congrArg some (by kernel_rfl))⟩
 f21:=⟨Tryz.f195.name,by decide,Tryz.func195.trans (congrArg some (by kernel_rfl))⟩
 f22:=⟨Tryz.f196.name,by decide,Tryz.func196.trans (congrArg some (by kernel_rfl))⟩
 f23:=⟨Tryz.f197.name,by decide,Tryz.func197.trans (congrArg some (by kernel_rfl))⟩
 f24:=⟨Tryz.f198.name,by decide,Tryz.func198.trans (congrArg some (by kernel_rfl))⟩
 f25:=⟨Tryz.f199.name,by decide,Tryz.func199.trans (congrArg some (by kernel_rfl))⟩
 f26:=⟨Tryz.f200.name,by decide,Tryz.func200.trans (congrArg some (by kernel_rfl))⟩
 f27:=⟨Tryz.f201.name,by decide,Tryz.func201.trans (congrArg some (by kernel_rfl))⟩
 f28:=Tryz.func202.trans (congrArg some (by kernel_rfl))
 f29:=Tryz.func203.trans (congrArg some (by kernel_rfl))
 f46:=⟨Tryz.f241.name,by decide,Tryz.func241.trans (congrArg some (by kernel_rfl))⟩
 f47:=Tryz.func242.trans (congrArg some (by kernel_rfl))
 f48:=Tryz.func243.trans (congrArg some (by kernel_rfl))
 f49:=⟨Tryz.f244.name,by decide,Tryz.func244.trans (congrArg some (by kernel_rfl))⟩
 f50:=⟨Tryz.f245.name,by decide,Tryz.func245.trans (congrArg some (by kernel_rfl))⟩
 f57:=⟨Tryz.f283.name,by decide,Tryz.func283.trans (congrArg some (by kernel_rfl))⟩
 t0:=Tryz.underlying0
 a0:=Tryz.isAgg0
 z0:=Tryz.sizeOf0
 v0:=Tryz.zeroValue0
 t3:=Tryz.underlying3
 a3:=Tryz.isAgg3
 z3:=Tryz.sizeOf3
 v3:=Tryz.zeroValue3
 t4:=Tryz.underlying4
 a4:=Tryz.isAgg4
 z4:=Tryz.sizeOf4
 v4:=Tryz.zeroValue4
 t5:=Tryz.underlying5
 a5:=Tryz.isAgg5
 z5:=Tryz.sizeOf5
 v5:=Tryz.zeroValue5
 t9:=Tryz.underlying9
 a9:=Tryz.isAgg9
 z9:=Tryz.sizeOf9
 v9:=Tryz.zeroValue9
 t22:=Tryz.underlying36
 a22:=Tryz.isAgg36
 z22:=Tryz.sizeOf36
 v22:=Tryz.zeroValue36
 t25:=Tryz.underlying185
 a25:=Tryz.isAgg185
 z25:=Tryz.sizeOf185
 v25:=Tryz.zeroValue185
 t39:=Tryz.underlying69
 a39:=Tryz.isAgg69
 z39:=Tryz.sizeOf69
 v39:=Tryz.zeroValue69
 t45:=Tryz.underlying304
 a45:=Tryz.isAgg304
 z45:=Tryz.sizeOf304
 v45:=Tryz.zeroValue304
 t46:=Tryz.underlying305
 a46:=Tryz.isAgg305
 z46:=Tryz.sizeOf305
 v46:=Tryz.zeroValue305
 t50:=Tryz.underlying70
 a50:=Tryz.isAgg70
 z50:=Tryz.sizeOf70
 v50:=Tryz.zeroValue70
 t53:=Tryz.underlying311
 a53:=Tryz.isAgg311
 z53:=Tryz.sizeOf311
 v53:=Tryz.zeroValue311
 t55:=Tryz.underlying31
 a55:=Tryz.isAgg31
 z55:=Tryz.sizeOf31
 v55:=Tryz.zeroValue31
 t66:=Tryz.underlying330
 a66:=Tryz.isAgg330
 z66:=Tryz.sizeOf330
 v66:=Tryz.zeroValue330
 t70:=Tryz.underlying333
 a70:=Tryz.isAgg333
 z70:=Tryz.sizeOf333
 v70:=Tryz.zeroValue333
 t76:=Tryz.underlying357
 a76:=Tryz.isAgg357
 z76:=Tryz.sizeOf357
 v76:=Tryz.zeroValue357
 t77:=Tryz.underlying241
 a77:=Tryz.isAgg241
 z77:=Tryz.sizeOf241
 v77:=Tryz.zeroValue241}
end
section
open Go.Sort
abbrev Ent:=Int×Int
def ltE(x y:Ent):Bool:=if x.1=y.1 then decide (x.2<y.2) else decide (x.1<y.1)
section
variable {α:Type}
variable [Inhabited α] {lt:α→α→Bool}
variable {a s mid e b bs n q0:Nat}{d:Array α}
end
end
section
open Go.RowKit Go.Lib Go.Sort
def encE(x:Ent):List Value:=[.int .u64 x.1,.int .i64 x.2]
variable {w0 W:World}{blk off:Nat}{d0 d dk:Array Ent}
theorem mixed:Tryz.prog.follows .mixedOrders=true:=by kernel_rfl
end
section
open Go.RowKit Go.Lib Go.Sort
def Grown(w w':World):Prop:=∃q os,w'=grow (w.drewN q) os
theorem Grown.refl(w:World):Grown w w:=⟨0,#[],by rw[grow_empty];rfl⟩
theorem Grown.trans{u v w:World}(h:Grown u v)(k:Grown v w):Grown u w:=by
 obtain⟨q,os,rfl⟩:=h
 obtain⟨q',os',rfl⟩:=k
 exact⟨q+q',os++os',by show grow (grow ((u.drewN q).drewN q') os) os'=_;rw[grow_grow,World.drewN_drewN]⟩
theorem Grown.alloc{u v:World}(h:Grown u v)(o:Obj):Grown u (v.alloc o):=h.trans ⟨0,#[o],by rw[alloc_eq_grow];rfl⟩
theorem Grown.drewN{u v:World}(h:Grown u v)(q:Nat):Grown u (v.drewN q):=h.trans ⟨q,#[],by rw[grow_empty]⟩
theorem Grown.below{u v:World}(h:Grown u v):Below u.heap.size u v:=by
 obtain⟨q,os,rfl⟩:=h
 exact⟨rfl,rfl,rfl,by simp[grow],fun k hk=>heap_grow_old _ _ hk⟩
theorem Grown.cells{u v:World}(h:Grown u v)(b o:Nat)(hb:b<u.heap.size):v.cell? ⟨b,o,none⟩=u.cell? ⟨b,o,none⟩:=h.below.cell (p:=⟨b,o,none⟩) hb
end
section
open Go.RowKit Go.Lib Go.Sort
def flat(d:List Ent):List Value:=d.flatMap encE
@[simp] theorem flat_nil:flat []=[]:=rfl
theorem flat_cons(x:Ent)(d:List Ent):flat (x::d)=.int .u64 x.1::.int .i64 x.2::flat d:=rfl
theorem flat_append(c d:List Ent):flat (c++d)=flat c++flat d:=by simp[flat]
theorem flat_len(d:List Ent):(flat d).length=d.length*2:=by
 induction d with
 | nil=>rfl
 | cons x d ih=>simp only[flat_cons,List.length_cons,ih];omega
theorem flat_at(d:List Ent):∀(i:Nat)(x:Ent),d[i]?=some x→(flat d)[i*2]?=some (.int .u64 x.1)∧(flat d)[i*2+1]?=some (.int .i64 x.2):=by
 induction d with
 | nil=>intro i x h;simp at h
 | cons y d ih=>
  intro i x h
  cases i with
  | zero=>simp at h;subst h;exact⟨rfl,rfl⟩
  | succ i=>
   obtain⟨h1,h2⟩:=ih i x (by simpa using h)
   rw[show(i+1)*2=i*2+1+1 by omega,flat_cons]
   exact⟨by simpa using h1,by simpa using h2⟩
structure IsL(w:World)(a:Option Addr)(cap:Nat)(d:List Ent):Prop where
 le:d.length≤cap
 big:cap≤maxLen
 elem:∀i x,d[i]?=some x→∃b off,a=some ⟨b,off,none⟩∧b<w.heap.size∧w.cell? ⟨b,off+i*2,none⟩=some (.int .u64 x.1)∧w.cell? ⟨b,off+i*2+1,none⟩=some (.int .i64 x.2)
variable {w w':World}{a:Option Addr}{cap base:Nat}{d c:List Ent}{v:Value}
theorem IsL.nil(w:World):IsL w none 0 []:=⟨by simp,by simp,fun i x h=>by simp at h⟩
theorem IsL.len(h:IsL w a cap d):d.length≤9223372036854775807:=by
 have h1:=h.le
 have h2:=h.big
 unfold maxLen at h2
 omega
end
end Go.Proofs.YtdboknkfhbhniaaGreatDoor.Wl
