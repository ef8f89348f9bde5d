import Derived.Test.YtjpbngiddjkjiaaGreatDoorAnyF
import Derived.Shelf.Sort.AssemblyIn
import Derived.Shelf.Slices.Clone
import Derived.Shelf.Slices.CompactI
import Derived.Sort.EveryDepth
import Derived.Shelf.Slices.In.SortNone
import Derived.Test.YtjpbngiddjkjiaaGreatDoorProg
import Derived.WalkKit
import Derived.Lib.AppendZeros
import Derived.Lib.AppendZerosOnto
import Derived.Maps.AppendAt
import Derived.OwnWalk
import Derived.Laws.OwnMore
import Derived.Below
import Derived.Deep.QuietTactic
import Derived.BigQuiet
import Derived.Maps.OwnSet
import Derived.Maps.Keyed
import Derived.DeepKeys4
import Derived.Deep.RegionHeld3
import Derived.StillTail
open Go.Proofs.Tryz
open List(getElem?_eq_getElem)
open Nat(le_refl zero_add)
namespace Go.Proofs.YtjpbngiddjkjiaaGreatDoor.Da
set_option maxHeartbeats 8000000
set_option maxRecDepth 100000
set_option linter.unusedVariables false
section
open Go.Shelf
def laySort_ren:Go.Shelf.Ren:=⟨fun|189=>78|125=>110|257=>109|128=>164|129=>165|294=>155|295=>156|296=>157|297=>158|298=>159|299=>160|216=>161|300=>162|301=>163|328=>203|329=>204|330=>205|331=>206|332=>207|215=>208|343=>240|n=>n,fun|28=>49|3=>3|46=>207|0=>0|51=>255|53=>33|4=>4|183=>248|182=>247|131=>252|5=>5|9=>9|218=>286|222=>289|228=>314|229=>306|n=>n,fun|n=>n⟩
theorem laySort:Go.Proofs.Lays.n189 prog laySort_ren:={
 mixed:=by kernel_rfl
 f125:=func110.trans (congrArg some (by kernel_rfl))
 f128:=func164.trans (congrArg some (by kernel_rfl))
 f129:=func165.trans (congrArg some (by kernel_rfl))
 f189:=func78.trans (congrArg some (by kernel_rfl))
 f215:=func208.trans (congrArg some (by kernel_rfl))
 f216:=func161.trans (congrArg some (by kernel_rfl))
 f257:=func109.trans (congrArg some (by kernel_rfl))
 f294:=func155.trans (congrArg some (by kernel_rfl))
 f295:=func156.trans (congrArg some (by kernel_rfl))
 f296:=func157.trans (congrArg some (by kernel_rfl))
 f297:=func158.trans (congrArg some (by kernel_rfl))
 f298:=func159.trans (congrArg some (by kernel_rfl))
 f299:=func160.trans (congrArg some (by kernel_rfl))
 f300:=func162.trans (congrArg some (by kernel_rfl))
 f301:=func163.trans (congrArg some (by kernel_rfl))
 f328:=func203.trans (congrArg some (by kernel_rfl))
 f329:=func204.trans (congrArg some (by kernel_rfl))
 f330:=func205.trans (congrArg some (by kernel_rfl))
 f331:=func206.trans (congrArg some (by kernel_rfl))
 f332:=func207.trans (congrArg some (by kernel_rfl))
 f343:=func240.trans (congrArg some (by kernel_rfl))
 t0:=underlying0
 a0:=isAgg0
 z0:=sizeOf0
 v0:=zeroValue0
 t3:=underlying3
 a3:=isAgg3
 z3:=sizeOf3
 v3:=zeroValue3
 t4:=underlying4
 a4:=isAgg4
 z4:=sizeOf4
 v4:=zeroValue4
 t5:=underlying5
 a5:=isAgg5
 z5:=sizeOf5
 v5:=zeroValue5
 t9:=underlying9
 a9:=isAgg9
 z9:=sizeOf9
 v9:=zeroValue9
 t28:=underlying49
 a28:=isAgg49
 z28:=sizeOf49
 v28:=zeroValue49
 t46:=underlying207
 a46:=isAgg207
 z46:=sizeOf207
 v46:=zeroValue207
 t51:=underlying255
 a51:=isAgg255
 z51:=sizeOf255
 v51:=zeroValue255
 t53:=underlying33
 a53:=isAgg33
 z53:=sizeOf33
 v53:=zeroValue33
 t131:=underlying252
 a131:=isAgg252
 z131:=sizeOf252
 v131:=zeroValue252
 t182:=underlying247
 a182:=isAgg247
 z182:=sizeOf247
 v182:=zeroValue247
 t183:=underlying248
 a183:=isAgg248
 z183:=sizeOf248
 v183:=zeroValue248
 t218:=underlying286
 a218:=isAgg286
 z218:=sizeOf286
 v218:=zeroValue286
 t222:=underlying289
 a222:=isAgg289
 z222:=sizeOf289
 v222:=zeroValue289
 t228:=underlying314
 a228:=isAgg314
 z228:=sizeOf314
 v228:=zeroValue314
 t229:=underlying306
 a229:=isAgg306
 z229:=sizeOf306
 v229:=zeroValue306}
def layClone_ren:Go.Shelf.Ren:=⟨fun|15=>77|n=>n,fun|22=>49|3=>3|4=>4|n=>n,fun|n=>n⟩
theorem layClone:Go.Proofs.Lays2.n15 prog layClone_ren:={
 mixed:=by kernel_rfl
 f15:=func77.trans (congrArg some (by kernel_rfl))
 t3:=underlying3
 a3:=isAgg3
 z3:=sizeOf3
 v3:=zeroValue3
 t4:=underlying4
 a4:=isAgg4
 z4:=sizeOf4
 v4:=zeroValue4
 t22:=underlying49
 a22:=isAgg49
 z22:=sizeOf49
 v22:=zeroValue49
 i3:=by kernel_rfl}
end
section
open Go.RowKit Go.Lib
abbrev wfI(a:Int):Prop:=(Lit.int .i64 a).wf=true
theorem wfI_of{a:Int}(h1 : -9223372036854775808<=a)(h2:a<=9223372036854775807):wfI a:=by
 unfold wfI;simp[Lit.wf,IntKind.min,IntKind.max,IntKind.bits,IntKind.signed];omega
structure Fr(X:Nat->Prop)(w w':World):Prop where
 os:w'.os=w.os
 tape:w'.tape=w.tape
 output:w'.output=w.output
 size:w.heap.size<=w'.heap.size
 block:∀k,k<w.heap.size->¬X k->w'.heap[k]?=w.heap[k]?
theorem Fr.refl(X:Nat->Prop)(w:World):Fr X w w:=⟨rfl,rfl,rfl,le_refl _,fun _ _ _=>rfl⟩
theorem Fr.trans{X Y:Nat->Prop}{u v w:World}(h:Fr X u v)(k:Fr Y v w)(hY:∀j,Y j->X j\/u.heap.size<=j):Fr X u w:=
 ⟨k.os.trans h.os,k.tape.trans h.tape,k.output.trans h.output,Nat.le_trans h.size k.size,fun j hj hx=>(k.block j (Nat.lt_of_lt_of_le hj h.size) (fun hy=>by rcases hY j hy with hy|hy;exact hx hy;omega)).trans (h.block j hj hx)⟩
theorem Fr.mono{X Y:Nat->Prop}{w w':World}(h:Fr X w w')(hxy:∀j,X j->Y j):Fr Y w w':=⟨h.os,h.tape,h.output,h.size,fun j hj hy=>h.block j hj (fun hx=>hy (hxy j hx))⟩
theorem Fr.of_grown{row:Option Nat}{w w':World}(h:w.grownBy w' row):Fr (fun k=>row=some k) w w':=⟨h.os,h.tape,h.output,h.size,fun j hj hx=>h.block j hj (fun e=>hx e.symm)⟩
theorem Fr.below{X:Nat->Prop}{w w':World}(h:Below w.heap.size w w'):Fr X w w':=⟨h.os,h.tape,h.output,h.size,fun j hj _=>h.block j hj⟩
theorem Fr.setCell(X:Nat->Prop)(w:World)(B k:Nat)(v:Value)(hB:X B):Fr X w (w.setCell ⟨B,k,none⟩ v):=⟨rfl,rfl,rfl,by simp,fun j _ hj=>heap_setCell_other _ _ j _ (fun e=>hj (by rw[e];exact hB))⟩
theorem Fr.drew{X:Nat->Prop}{w w':World}(h:Fr X w w'):Fr X w w'.drew:=⟨h.os,h.tape,h.output,h.size,h.block⟩
abbrev cz(d:List Int):List Value:=d.map (Value.int .i64)
theorem cz_one(d:List Int):∀u∈cz d,u.oneCell'=true:=by
 intro u hu;obtain⟨x,_,rfl⟩:=List.mem_map.1 hu
 rfl
theorem cz_at{d:List Int}{i:Nat}{x:Int}(h:d[i]?=some x):(cz d)[i]?=some (.int .i64 x):=by simp[cz,h]
structure IsI(w:World)(a:Option Addr)(cap:Nat)(d:List Int):Prop where
 le:d.length<=cap
 big:cap<=maxLen
 elem:∀i x,d[i]?=some x->∃b off,a=some ⟨b,off,none⟩/\b<w.heap.size/\w.cell? ⟨b,off+i,none⟩=some (.int .i64 x)
variable {w w':World}{a:Option Addr}{cap base:Nat}{d c:List Int}{v:Value}
theorem IsI.nil(w:World):IsI w none 0 []:=⟨by simp,by simp,fun i x h=>by simp at h⟩
theorem IsI.fr{X:Nat->Prop}(h:IsI w a cap d)(hw:Fr X w w')(hx:∀b off,a=some ⟨b,off,none⟩->¬X b):IsI w' a cap d:=
 ⟨h.le,h.big,fun i x hi=>by
  obtain⟨b,off,e,hb,h1⟩:=h.elem i x hi;refine⟨b,off,e,by have:=hw.size;omega,?_⟩;rw[<-h1];exact World.cell?_of_block (hw.block b hb (hx b off e))⟩
theorem IsI.below(h:IsI w a cap d)(hw:Below w.heap.size w w'):IsI w' a cap d:=h.fr (Fr.below (X:=fun _=>False) hw) (fun _ _ _=>id)
theorem IsI.len(h:IsI w a cap d):d.length<=9223372036854775807:=by
 have h1:=h.le;have h2:=h.big;unfold maxLen at h2;omega
theorem IsI.drop(h:IsI w a cap d)(k:Nat)(hk:k<=d.length):IsI w (if cap=k then a else a.map (·.add k)) (cap-k) (d.drop k):=
 ⟨by have:=h.le;simp;omega,by have:=h.big;unfold maxLen at *;omega,fun i x hx=>by
  rw[List.getElem?_drop] at hx;obtain⟨b,off,e,hb,h1⟩:=h.elem _ x hx;have hl:=(List.getElem?_eq_some_iff.1 hx).1;have:=h.le;refine⟨b,off+k,?_,hb,?_⟩
  ·rw[if_neg (by omega),e,Option.map_some,Addr.add_lit]
  ·rw[<-h1];congr 2;omega⟩
theorem IsI.at(h:IsI w a cap d){j:Nat}(hj:j<d.length):∃b off,a=some ⟨b,off,none⟩/\b<w.heap.size/\w.cell? ⟨b,off+j,none⟩=some (.int .i64 (d.getD j 0)):=by
 have e:d[j]?=some (d.getD j 0):=by rw[List.getD,getElem?_eq_getElem hj];rfl
 exact h.elem j _ e
def OwnI(w:World)(base:Nat)(v:Value)(d:List Int):Prop:=w.ownsRow base 3 1 v d.length (cz d)
theorem OwnI.nil(w:World)(base:Nat):OwnI w base (.slice none 0 0) []:=World.ownsRow_nil w base _ _
theorem OwnI.isI(h:OwnI w base v d):∃a cap,v=.slice a d.length cap/\IsI w a cap d:=by
 obtain⟨h1,h2⟩:=h;rcases h2 with⟨rfl,h0⟩|⟨g,cap,cur,rfl,hb,hg,hn,hc,hs,ht⟩
 ·obtain rfl:d=[]:=List.length_eq_zero_iff.1 h0;exact⟨none,0,rfl,IsI.nil w⟩
 ·have own:OwnI w base (.slice (some ⟨g,0,none⟩) d.length cap) d:=⟨h1,.inr ⟨g,cap,cur,rfl,hb,hg,hn,hc,hs,ht⟩⟩;refine⟨some ⟨g,0,none⟩,cap,rfl,hn,hc,fun i x hx=>⟨g,0,rfl,lt_of_block hg,?_⟩⟩;have hi:i<d.length:=(List.getElem?_eq_some_iff.1 hx).1;rw[zero_add,World.ownsRow.cellAt own i (by omega),cz_at hx]
theorem OwnI.low(h:OwnI w base v d){b':Nat}(hb:b'<=base):OwnI w b' v d:=by
 obtain⟨h1,h2⟩:=h;refine⟨h1,?_⟩;rcases h2 with h2|⟨g,cap,cur,r1,r2,r3⟩
 ·exact .inl h2
 ·exact .inr ⟨g,cap,cur,r1,by omega,r3⟩
theorem OwnI.of_block(h:OwnI w base v d)(hk:∀k,v.ownBlock=some k->w'.heap[k]?=w.heap[k]?):OwnI w' base v d:=by
 obtain⟨h1,h2⟩:=h;refine⟨h1,?_⟩;rcases h2 with h2|⟨g,cap,cur,r1,r2,r3,r4⟩
 ·exact .inl h2
 ·exact .inr ⟨g,cap,cur,r1,r2,(hk g (by rw[r1];rfl)).trans r3,r4⟩
theorem OwnI.rowLt(h:OwnI w base v d){k:Nat}(hk:v.ownBlock=some k):base<=k/\k<w.heap.size:=World.ownsRow.lt h k hk
theorem OwnI.rowT(h:OwnI w base v d){k:Nat}(hk:v.ownBlock=some k):∃cs,w.heap[k]?=some (.cells cs 3 (0,0)):=by
 obtain⟨h1,h2⟩:=h;rcases h2 with⟨rfl,_⟩|⟨g,cap,cur,r1,r2,r3,r4⟩
 ·cases hk
 ·rw[r1] at hk;injection hk with hk
  subst hk;exact⟨cur,r3⟩
theorem OwnI.fr{X:Nat->Prop}(h:OwnI w base v d)(hw:Fr X w w')(hx:∀k,v.ownBlock=some k->¬X k):OwnI w' base v d:=
 h.of_block fun k hk=>hw.block k (h.rowLt hk).2 (hx k hk)
theorem OwnI.below(h:OwnI w base v d)(hw:Below w.heap.size w w'):OwnI w' base v d:=h.of_block fun k hk=>hw.block k (h.rowLt hk).2
theorem OwnI.isIv(h:OwnI w base (.slice a d.length cap) d):IsI w a cap d:=by
 obtain⟨a',cap',e,hi⟩:=h.isI;injection e with e1 e2 e3
 rw[e1,e3];exact hi
theorem OwnI.one(w:World)(x:Int)(hb:base<=w.heap.size):OwnI (w.alloc (.cells #[.int .i64 x] 3)) base (.slice (some ⟨w.heap.size,0,none⟩) 1 1) [x]:=
 World.ownsRow_lit w #[.int .i64 x] 1 hb (by unfold maxLen;omega) rfl
theorem OwnI.lit(w:World)(l:List Int)(hb:base<=w.heap.size)(hl:l.length<=1000):OwnI (w.alloc (.cells (cz l).toArray 3)) base (.slice (some ⟨w.heap.size,0,none⟩) l.length l.length) l:=
 World.ownsRow_lit w (cz l).toArray l.length hb (by unfold maxLen;omega) (by simp)
theorem OwnI.cut(h:OwnI w base (.slice a d.length cap) d){k:Nat}(hk:k<=d.length):OwnI w base (.slice a (d.take k).length cap) (d.take k):=by
 obtain⟨h1,h2⟩:=h;refine⟨by simp,?_⟩;rcases h2 with⟨e,h0⟩|⟨g,cap',cur,r1,r2,r3,r4,r5,r6,r7⟩
 ·injection e with e1 e2 e3
  subst e1 e3;exact .inl ⟨by simp;omega,by simp;omega⟩
 ·injection r1 with e1 e2 e3
  subst e1 e3;refine .inr ⟨g,cap,cur,rfl,r2,r3,by simp;omega,r5,r6,?_⟩;rw[List.length_take,Nat.min_eq_left hk,Nat.mul_one,cz,List.map_take];show _=List.take k (cz d);rw[<-r7,List.take_take,Nat.min_eq_left (by omega)]
theorem OwnI.set{g:Nat}(h:OwnI w base (.slice (some ⟨g,0,none⟩) d.length cap) d)(j:Nat)(x:Int):OwnI (w.setCell ⟨g,j,none⟩ (.int .i64 x)) base (.slice (some ⟨g,0,none⟩) (d.set j x).length cap) (d.set j x):=by
 have:=(World.ownsRow.stored h j (.int .i64 x)).1;unfold OwnI;rw[List.length_set,cz,List.map_set];exact this
theorem OwnI.frozen{g:Nat}(h:OwnI w base (.slice (some ⟨g,0,none⟩) d.length cap) d)(j:Nat):w.frozen? ⟨g,j,none⟩=false:=World.ownsRow.frozenAt h j
theorem OwnI.addr(h:OwnI w base v d)(hd:d≠[]):∃g cap,v=.slice (some ⟨g,0,none⟩) d.length cap:=by
 rcases h.2 with⟨_,h0⟩|⟨g,cap,cur,r1,_⟩
 ·exact absurd (List.length_eq_zero_iff.1 h0) hd
 ·exact⟨g,cap,r1⟩
theorem infoI:∃i,prog.info? 3=some i/\i.zero=some (.int .i64 0)/\i.size=1/\i.bytes=8:=by
 have h:(prog.info? 3).map (fun i=>(i.zero,i.size,i.bytes))=some (some (.int .i64 0),1,8):=by kernel_rfl
 obtain⟨i,h1,h2⟩:=Option.map_eq_some_iff.1 h;simp at h2;exact⟨i,h1,h2.1,h2.2.1,h2.2.2⟩
theorem app_run(h:OwnI w base v d)(hc:IsI w a cap c)(hb:d.length+c.length<=1000000)(hbase:base<=w.heap.size)(ty:TypeId) :
  ∃v' w',(Builtin.append_ #[49,49] ty #[v,.slice a c.length cap]).run prog w=.ok v' w'/\OwnI w' base v' (d++c)/\w.grownBy w' v.ownBlock/\∀k,v'.ownBlock=some k->v.ownBlock=some k\/w.heap.size<=k:=by
 obtain⟨i,hi,hz,hs,hby⟩:=infoI;by_cases e:a=none
 ·subst e
  obtain rfl:c=[]:=by
   cases c with
   | nil=>rfl
   | cons x c=>obtain⟨b,off,h1,_⟩:=hc.elem 0 x rfl;cases h1
  refine⟨v,w,?_,by rw[List.append_nil];exact h,⟨rfl,rfl,rfl,le_refl _,fun _ _ _=>rfl⟩,fun k hk=>.inl hk⟩;rcases h.2 with⟨rfl,h0⟩|⟨g,cap',cur,rfl,_,_,hnc,_⟩
  ·simp[Builtin.append_,run_underlying underlying49,sizeOf,typeInfo,hi,Builtin.lenOf,Builtin.firstCells]
  ·simp[Builtin.append_,run_underlying underlying49,sizeOf,typeInfo,hi,Builtin.lenOf,Builtin.firstCells,hnc,storeCells]
 ·obtain⟨ad,rfl⟩:=Option.ne_none_iff_exists'.1 e
  obtain⟨v',w',h1,h2,h3,h4,h5⟩:=run_append_own_at (P:=prog) w base 49 ty 3 i _ 1 8 underlying49 hi hz hs hby rfl (by omega) v d.length (cz d) h ad c.length cap (cz c) (by simp)
   (fun j u hj=>by
    rw[List.getElem?_map] at hj;obtain⟨x,hx,rfl⟩:=Option.map_eq_some_iff.1 hj;obtain⟨b,off,e,_,h1⟩:=hc.elem j x hx
    cases e
    rw[<-h1,Addr.add_lit]) (cz_one c) (by unfold maxLen;omega) (by omega) hbase
  refine⟨v',w',h1,?_,h3,?_⟩
  ·unfold OwnI;rw[List.length_append,cz,List.map_append];exact h2
  ·intro k hk;rcases h5 with h5|h5
   ·exact .inl (by rw[<-h5];exact hk)
   ·rw[h5] at hk;injection hk with hk
    exact .inr (by omega)
end
section
open Go.RowKit Go.Lib Go.WideMaps Go.Maps
def heldR(v:Value):Option (DataW Value×List MemPlace):=some (.held v,[])
structure KeyT(κ:Type)(kt:TypeId) where
 ek:κ->Value
 ok:κ->Prop
 lk:κ->Lit
 K:Keyed prog kt
 key:∀x,ok x->keyOf prog kt (ek x)=some (lk x)
 inj:∀x y,ek x=ek y->x=y
section
variable {κ:Type}{kt t e:TypeId}{k:KeyT κ kt}{w w':World}{M n:Nat}{f:κ->Option Value}{x:κ}{z:Value}
theorem KeyT.lk_is(k:KeyT κ kt)(h:k.ok x):keyOf prog kt (k.ek x)=some (k.lk x):=k.key x h
theorem KeyT.lk_ne(k:KeyT κ kt){x y:κ}(hx:k.ok x)(hy:k.ok y)(h:x≠y):k.lk x≠k.lk y:=fun e=>h (k.inj x y (k.K.inj (k.lk_is hx) (by rw[k.lk_is hy,e])))
def fput [DecidableEq κ] (f:κ->Option Value) (i:κ) (v:Value):κ->Option Value:=fun a=>if a=i then some v else f a
def fdel [DecidableEq κ] (f:κ->Option Value) (i:κ):κ->Option Value:=fun a=>if a=i then none else f a
def MapG(k:KeyT κ kt)(w:World)(M:Nat)(f:κ->Option Value)(n:Nat):Prop:=
 ∃D:DataW Value,w.ownsMap prog kt heldR M n D/\Maps.size D=n/\(∃ks:List κ,ks.Nodup/\ks.length=n/\∀x,x∈ks↔(f x).isSome=true)/\(∀x v,f x=some v->k.ok x)/\
  ∀x,k.ok x->Maps.has D (k.lk x)=(f x).isSome/\∀v,f x=some v->∀z,D.atKey (k.lk x) z=.held v
theorem own_tight{D:DataW Value}(h:w.ownsMap prog kt heldR M n D):w.ownsMap prog kt heldR M (Maps.size D) D:=by
 obtain⟨es,cl,h1,h2,h3,rfl⟩:=h;exact⟨es,cl,h1,h2,by simp[Maps.size,length_sorted],rfl⟩
theorem MapG.lt(h:MapG k w M f n):M<w.heap.size:=by
 obtain⟨D,h1,_⟩:=h;exact h1.lt
theorem MapG.isMap(h:MapG k w M f n):∃es c,w.heap[M]?=some (.map es c):=by
 obtain⟨D,⟨es,c,hb,_⟩,_⟩:=h;exact⟨es,c,hb⟩
theorem MapG.of_block(h:MapG k w M f n)(e:w'.heap[M]?=w.heap[M]?):MapG k w' M f n:=by
 obtain⟨D,⟨es,c,hb,r⟩,h3⟩:=h;exact⟨D,⟨es,c,e.trans hb,r⟩,h3⟩
theorem MapG.keys(h:MapG k w M f n):∃ks:List κ,ks.Nodup/\ks.length=n/\∀x,x∈ks↔(f x).isSome=true:=by
 obtain⟨D,_,_,h3,_⟩:=h;exact h3
theorem MapG.okey(h:MapG k w M f n){v:Value}(hx:f x=some v):k.ok x:=by
 obtain⟨D,_,_,_,h4,_⟩:=h;exact h4 x v hx
theorem MapG.made(k:KeyT κ kt)(w:World):MapG k (w.alloc (.map #[] 0)) w.heap.size (fun _=>none) 0:=
 ⟨.map [],World.ownsMap_made w _ _ _,rfl,⟨[],List.nodup_nil,rfl,fun x=>by simp⟩,fun x v h=>(by cases h),fun i _=>⟨rfl,fun v hv=>by cases hv⟩⟩
theorem MapG.look(h:MapG k w M f n)(ht:prog.underlying t=some (.map kt e))(hz:(zeroValue e).run prog w=.ok z w)(hx:k.ok x) :
  (Instr.lookup t (.map (some M)) (k.ek x) false).run prog w=.ok ((f x).getD z) w:=by
 obtain⟨D,h1,h2,_,_,h3⟩:=h;obtain⟨v',ps,hr,hv'⟩:=h1.lookup k.K ht hz (zd:=.held z) (zp:=[]) rfl (k.lk_is hx);rw[hr];unfold heldR at hv';simp only[Option.some.injEq,Prod.mk.injEq] at hv';obtain⟨q1,q2⟩:=h3 x hx
 cases hf:f x with
 | none=>
  rw[hf] at q1;rw[Maps.atKey_of_not_has q1] at hv';injection hv'.1 with e
  rw[e];rfl
 | some u=>
  rw[q2 u hf] at hv';injection hv'.1 with e
  rw[e];rfl
theorem MapG.store [DecidableEq κ] (h:MapG k w M f n) (ht:prog.underlying t=some (.map kt e)) (hn:n<=1000000) (hx:k.ok x) (v:Value) :
  ∃w' m,(Instr.mapUpdate t (.map (some M)) (k.ek x) v).run prog w=.ok () w'/\MapG k w' M (fput f x v) m/\m=(if (f x).isSome=true then n else n+1)/\w.grownBy w' (some M):=by
 obtain⟨D,h1,h2,⟨ks,k1,k2,k3⟩,h4,h3⟩:=h;obtain⟨w',hr,ho,hm⟩:=h1.store k.K ht (by unfold maxLen;omega) (k.lk_is hx) (val:=v) (d:=.held v) (ps:=[]) rfl;have hk:=k.K.key (k.lk_is hx)
 have hsz:Maps.size (D.put (k.lk x) (.held v))=if (f x).isSome then n else n+1:=by
  rw[Maps.size_put (h1.tidy k.K),(h3 x hx).1,h2]
 refine⟨w',_,hr,⟨_,by have:=own_tight ho;rw[hsz] at this;exact this,hsz,?_,fun y u hy=>?_,fun y hy=>?_⟩,rfl,hm.grown⟩
 ·cases hf:(f x).isSome with
  | true=>
   refine⟨ks,k1,by simp[k2],fun y=>?_⟩;rw[k3];unfold fput;by_cases c:y=x
   ·subst c;simp[hf]
   ·rw[if_neg c]
  | false=>
   refine⟨x::ks,List.nodup_cons.2 ⟨fun hm=>(by rw[k3,hf] at hm;cases hm),k1⟩,by simp[k2],fun y=>?_⟩;rw[List.mem_cons,k3];unfold fput;by_cases c:y=x
   ·subst c;simp
   ·rw[if_neg c];simp[c]
 ·unfold fput at hy;by_cases c:y=x
  ·subst c;exact hx
  ·rw[if_neg c] at hy;exact h4 y u hy
 ·by_cases c:y=x
  ·subst c;refine⟨by rw[Maps.has_put_same h1.isMap hk];simp[fput],fun u hu z=>?_⟩;rw[Maps.atKey_put_same h1.isMap hk];simp[fput] at hu;rw[hu]
  ·have ne:=k.lk_ne hy hx c;rw[Maps.has_put_other ne];have:fput f x v y=f y:=by unfold fput;rw[if_neg c]
   rw[this];refine⟨(h3 y hy).1,fun u hu z=>?_⟩;rw[Maps.atKey_put_other ne];exact(h3 y hy).2 u hu z
theorem MapG.drop [DecidableEq κ] (h:MapG k w M f n) (ht:prog.underlying t=some (.map kt e)) {u:Value} (hx:f x=some u) (ty:TypeId) :
  ∃w' m,(Builtin.delete_ #[t,kt] ty #[.map (some M),k.ek x]).run prog w=.ok (.tuple #[]) w'/\MapG k w' M (fdel f x) m/\m+1=n/\w.grownBy w' (some M):=by
 obtain⟨D,h1,h2,⟨ks,k1,k2,k3⟩,h4,h3⟩:=h;have ox:=h4 x u hx;obtain⟨w',hr,ho,hm⟩:=h1.drop k.K ht (k.lk_is ox) ty;have hmem:x∈ks:=(k3 x).2 (by rw[hx];rfl);have hpos:0<n:=by rw[<-k2];exact List.length_pos_of_mem hmem
 have hsz:Maps.size (D.del (k.lk x))=n-1:=by
  have:=Maps.size_del (k:=k.lk x) (h1.tidy k.K);rw[(h3 x ox).1,hx] at this;simp at this;omega
 refine⟨w',n-1,hr,⟨_,by have:=own_tight ho;rw[hsz] at this;exact this,hsz,?_,fun y u hy=>?_,fun y hy=>?_⟩,by omega,hm.grown⟩
 ·refine⟨ks.erase x,k1.erase _,by rw[List.length_erase_of_mem hmem,k2],fun y=>?_⟩;rw[k1.mem_erase_iff,k3];unfold fdel;by_cases c:y=x
  ·subst c;simp
  ·rw[if_neg c];simp[c]
 ·unfold fdel at hy;by_cases c:y=x
  ·subst c;exact ox
  ·rw[if_neg c] at hy;exact h4 y u hy
 ·by_cases c:y=x
  ·subst c;exact⟨by rw[Maps.has_del_same];simp[fdel],fun u hu z=>by simp[fdel] at hu⟩
  ·have ne:=k.lk_ne hy ox c;rw[Maps.has_del_other ne];have:fdel f x y=f y:=by unfold fdel;rw[if_neg c]
   rw[this];refine⟨(h3 y hy).1,fun u hu z=>?_⟩;rw[Maps.atKey_del_other ne];exact(h3 y hy).2 u hu z
end
def keyI:KeyT Int 3 where
 ek:=fun a=>.int .i64 a
 ok:=wfI
 lk:=fun a=>.int .i64 a
 K:=int_keyed underlying3
 key:=fun x h=>keyOf_int_mk underlying3 h
 inj:=fun x y h=>by injection h
theorem laidOut:laidOutB prog=true:=by kernel_rfl
theorem keyedP:Keyed prog 78:=Keyed.of_law (deep_law_laid laidOut (m:=2) (by omega) (of_decide_eq_true (by kernel_rfl)) (by kernel_rfl) (by kernel_rfl))
def prV(p:Int×Int):Value:=.agg #[.int .i64 p.1,.int .i64 p.2]
theorem prV_key(a b:Int)(ha:wfI a)(hb:wfI b):keyOf prog 78 (prV (a,b))=some (.string (keyBytes [.int .i64 a,.int .i64 b])):=by
 have k1:prog.keyType 78=true:=by kernel_rfl
 have k2:(prV (a,b)).formed prog 78=true:=by kernel_rfl
 have lit:∀(d:Nat)(x:Int),wfI x->prog.keyLits (d+1) 3 [.int .i64 x]=some [.int .i64 x]:=fun d x hx=>by
  unfold Program.keyLits;rw[underlying3];show(if _ then _ else _)=_;rw[if_pos ⟨rfl,hx⟩]
 have c1:prog.cellsOf 3=1:=by kernel_rfl
 have c2:prog.cellsOf 78=2:=by kernel_rfl
 have lits:∀d,prog.keyLits (d+2) 78 [.int .i64 a,.int .i64 b]=some [.int .i64 a,.int .i64 b]:=fun d=>by
  rw[Program.keyLits.eq_def];simp only[underlying78,c1,c2];have r2:List.range 2=[0,1]:=by decide
  simp[r2,lit d a ha,lit d b hb]
 unfold keyOf;rw[underlying78];simp only[k1,k2,Bool.and_self,if_true];obtain⟨q,hq⟩:∃q,prog.types.size+1=q+2:=⟨prog.types.size-1,by have:0<prog.types.size:=of_decide_eq_true (by kernel_rfl);omega⟩;rw[hq];rw[show(prV (a,b)).cells.toList=[.int .i64 a,.int .i64 b] from rfl,lits q]
 rfl
def keyP:KeyT (Int×Int) 78 where
 ek:=prV
 ok:=fun p=>wfI p.1/\wfI p.2
 lk:=fun p=>.string (keyBytes [.int .i64 p.1,.int .i64 p.2])
 K:=keyedP
 key:=fun x h=>prV_key x.1 x.2 h.1 h.2
 inj:=fun x y h=>by
  unfold prV at h;injection h with h
  simp at h;exact Prod.ext h.1 h.2
end
section
open Go.RowKit Go.Lib
def lset(l:Bool->Int->List Int)(s:Bool)(i:Int)(d:List Int):Bool->Int->List Int:=fun a b=>if a=s/\b=i then d else l a b
theorem lset_same(l:Bool->Int->List Int)(s:Bool)(i:Int)(d:List Int):lset l s i d s i=d:=if_pos ⟨rfl,rfl⟩
theorem lset_ne(l:Bool->Int->List Int){s a:Bool}{i b:Int}(d:List Int)(h:¬(a=s/\b=i)):lset l s i d a b=l a b:=if_neg h
theorem lset_tf(l:Bool->Int->List Int){i b:Int}(d:List Int):lset l true i d false b=l false b:=lset_ne l d (fun h=>by cases h.1)
theorem lset_ft(l:Bool->Int->List Int){i b:Int}(d:List Int):lset l false i d true b=l true b:=lset_ne l d (fun h=>by cases h.1)
def lastI(L:List Int):Int:=L.getD (L.length-1) 0
def rm(L:List Int)(a:Nat):List Int:=(L.set a (lastI L)).take (L.length-1)
theorem lastI_at{L:List Int}(h:L≠[]):L[L.length-1]?=some (lastI L):=by
 have:0<L.length:=List.length_pos_iff.2 h;unfold lastI;rw[List.getD,getElem?_eq_getElem (by omega)]
 rfl
theorem nodup_at{L:List Int}(h:L.Nodup){i j:Nat}{x:Int}(hi:L[i]?=some x)(hj:L[j]?=some x):i=j:=by
 obtain⟨h1,e1⟩:=List.getElem?_eq_some_iff.1 hi;obtain⟨h2,e2⟩:=List.getElem?_eq_some_iff.1 hj;have q:=List.pairwise_iff_getElem.1 h;rcases Nat.lt_trichotomy i j with c|c|c
 ·exact absurd (e1.trans e2.symm) (q i j h1 h2 c)
 ·exact c
 ·exact absurd (e2.trans e1.symm) (q j i h2 h1 c)
theorem nodup_of{L:List Int}(h:∀(i j:Nat)(x:Int),L[i]?=some x->L[j]?=some x->i=j):L.Nodup:=by
 refine List.pairwise_iff_getElem.2 fun i j hi hj hij e=>?_;have:=h i j L[i] (getElem?_eq_getElem hi) (by rw[e];exact getElem?_eq_getElem hj);omega
theorem nodup_le{α:Type} [DecidableEq α]:∀(ks ks':List α),ks.Nodup->(∀x∈ks,x∈ks')->ks.length<=ks'.length
 | [],_,_,_=>Nat.zero_le _
 | x::r,ks',h,hs=>by
  obtain⟨h1,h2⟩:=List.nodup_cons.1 h;have hx:=hs x (by simp);have:=nodup_le r (ks'.erase x) h2 (fun y hy=>(List.mem_erase_of_ne (fun e=>h1 (by rw[<-e];exact hy))).2 (hs y (by simp[hy])));rw[List.length_erase_of_mem hx] at this;have:0<ks'.length:=List.length_pos_of_mem hx;simp;omega
theorem rm_len(L:List Int)(a:Nat):(rm L a).length=L.length-1:=by simp[rm]
theorem rm_at{L:List Int}{a:Nat}(ha:a<L.length)(c:Nat)(y:Int):(rm L a)[c]?=some y↔(c=a/\a≠L.length-1/\y=lastI L)\/(c≠a/\c≠L.length-1/\L[c]?=some y):=by
 unfold rm;rw[List.getElem?_take,List.getElem?_set];by_cases h1:c<L.length-1
 ·rw[if_pos h1];by_cases h2:a=c
  ·subst h2;rw[if_pos rfl,if_pos ha];constructor
   ·intro h;injection h with h;exact .inl ⟨rfl,by omega,h.symm⟩
   ·rintro(⟨_,_,h⟩|⟨h,_⟩)
    ·rw[h]
    ·exact absurd rfl h
  ·rw[if_neg h2];constructor
   ·intro h;exact .inr ⟨fun e=>h2 e.symm,by omega,h⟩
   ·rintro(⟨h,_⟩|⟨_,_,h⟩)
    ·exact absurd h.symm h2
    ·exact h
 ·rw[if_neg h1];constructor
  ·intro h;cases h
  ·rintro(⟨h,h',_⟩|⟨_,h',h⟩)
   ·omega
   ·have:=(List.getElem?_eq_some_iff.1 h).1;omega
theorem rm_nodup{L:List Int}(h:L.Nodup){a:Nat}(ha:a<L.length):(rm L a).Nodup:=by
 have hl:=lastI_at (L:=L) (fun e=>by rw[e] at ha;simp at ha);refine nodup_of fun i j x hi hj=>?_;rcases (rm_at ha i x).1 hi with⟨e1,e2,e3⟩|⟨e1,e2,e3⟩<;>rcases (rm_at ha j x).1 hj with⟨f1,f2,f3⟩|⟨f1,f2,f3⟩
 ·omega
 ·rw[e3] at f3;exact absurd (nodup_at h f3 hl) f2
 ·rw[f3] at e3;exact absurd (nodup_at h e3 hl) e2
 ·exact nodup_at h e3 f3
theorem rm_mem{L:List Int}(h:L.Nodup){a:Nat}{x:Int}(ha:L[a]?=some x)(y:Int):y∈rm L a↔y∈L/\y≠x:=by
 have hal:=(List.getElem?_eq_some_iff.1 ha).1;have hl:=lastI_at (L:=L) (fun e=>by rw[e] at hal;simp at hal);rw[List.mem_iff_getElem?,List.mem_iff_getElem?];constructor
 ·rintro⟨c,hc⟩;rcases (rm_at hal c y).1 hc with⟨e1,e2,e3⟩|⟨e1,e2,e3⟩
  ·rw[e3];exact⟨⟨_,hl⟩,fun e=>e2 (nodup_at h ha (by rw[<-e];exact hl))⟩
  ·exact⟨⟨c,e3⟩,fun e=>e1 (nodup_at h e3 (by rw[e];exact ha))⟩
 ·rintro⟨⟨c,hc⟩,hne⟩;have hca:c≠a:=fun e=>hne (by rw[e,ha] at hc;injection hc with hc;exact hc.symm);by_cases c1:c=L.length-1
  ·refine⟨a,(rm_at hal a y).2 (.inl ⟨rfl,by omega,?_⟩)⟩;rw[c1,hl] at hc;injection hc with hc
   exact hc.symm
  ·exact⟨c,(rm_at hal c y).2 (.inr ⟨hca,c1,hc⟩)⟩
structure Inv(E:Int->Int->Prop)(fp:Int×Int->Option Value)(l:Bool->Int->List Int):Prop where
 eb:∀p i,i∈l true p↔E p i
 ew:∀p i,p∈l false i↔E p i
 nd:∀s i,(l s i).Nodup
 fp:∀p i,E p i->∃a b:Nat,fp (p,i)=some (prV (a,b))/\(l true p)[a]?=some i/\(l false i)[b]?=some p
 ord:∀p i,E p i->1<=p/\p<i/\i<=9223372036854775807
def Epart(E:Int->Int->Prop)(p i:Int):Int->Int->Prop:=fun q j=>E q j/\¬(q=p/\j=i)
variable {E:Int->Int->Prop}{fp:Int×Int->Option Value}{l:Bool->Int->List Int}{p i:Int}
theorem Inv.none:Inv (fun _ _=>False) (fun _=>none) (fun _ _=>[]):=⟨fun _ _=>by simp,fun _ _=>by simp,fun _ _=>List.nodup_nil,fun _ _ h=>h.elim,fun _ _ h=>h.elim⟩
theorem Inv.wf(h:Inv E fp l)(he:E p i):wfI p/\wfI i:=by
 obtain⟨h1,h2,h3⟩:=h.ord p i he;exact⟨wfI_of (by omega) (by omega),wfI_of (by omega) (by omega)⟩
theorem Inv.moved(h:Inv E fp l){a b:Nat}(he:E p i)(ha:(l true p)[a]?=some i)(hb:(l false i)[b]?=some p) :
  (a≠(l true p).length-1->∃b1:Nat,lastI (l true p)≠i/\E p (lastI (l true p))/\fp (p,lastI (l true p))=some (prV (((l true p).length-1:Nat),b1))/\(l false (lastI (l true p)))[b1]?=some p)/\
  (b≠(l false i).length-1->∃a2:Nat,lastI (l false i)≠p/\E (lastI (l false i)) i/\fp (lastI (l false i),i)=some (prV (a2,((l false i).length-1:Nat)))/\(l true (lastI (l false i)))[a2]?=some i):=by
 have na:l true p≠[]:=fun e=>by rw[e] at ha;simp at ha
 have nb:l false i≠[]:=fun e=>by rw[e] at hb;simp at hb
 have la:=lastI_at na;have lb:=lastI_at nb;refine⟨fun hne=>?_,fun hne=>?_⟩
 ·have e1:E p (lastI (l true p)):=(h.eb _ _).1 (List.mem_of_getElem? la);obtain⟨x,b1,g1,g2,g3⟩:=h.fp _ _ e1;have:=nodup_at (h.nd _ _) g2 la;subst this;exact⟨b1,fun e=>hne (nodup_at (h.nd _ _) ha (by rw[<-e];exact la)),e1,g1,g3⟩
 ·have e1:E (lastI (l false i)) i:=(h.ew _ _).1 (List.mem_of_getElem? lb);obtain⟨a2,x,g1,g2,g3⟩:=h.fp _ _ e1;have:=nodup_at (h.nd _ _) g3 lb;subst this;exact⟨a2,fun e=>hne (nodup_at (h.nd _ _) hb (by rw[<-e];exact lb)),e1,g1,g2⟩
theorem Inv.part(h:Inv E fp l){a b:Nat}(he:E p i)(ha:(l true p)[a]?=some i)(hb:(l false i)[b]?=some p){f1 f2:Int×Int->Option Value}
  (h1:(a=(l true p).length-1/\f1=fdel fp (p,i))\/(a≠(l true p).length-1/\∃b1:Nat,(l false (lastI (l true p)))[b1]?=some p/\f1=fput (fdel fp (p,i)) (p,lastI (l true p)) (prV (a,b1))))
  (h2:(b=(l false i).length-1/\f2=f1)\/(b≠(l false i).length-1/\∃a2:Nat,(l true (lastI (l false i)))[a2]?=some i/\f2=fput f1 (lastI (l false i),i) (prV (a2,b)))) :
  Inv (Epart E p i) f2 (lset (lset l true p (rm (l true p) a)) false i (rm (l false i) b)):=by
 have al:=(List.getElem?_eq_some_iff.1 ha).1;have bl:=(List.getElem?_eq_some_iff.1 hb).1;have na:l true p≠[]:=fun e=>by rw[e] at ha;simp at ha
 have nb:l false i≠[]:=fun e=>by rw[e] at hb;simp at hb
 have la:=lastI_at na;have lb:=lastI_at nb
 have tr:∀q,lset (lset l true p (rm (l true p) a)) false i (rm (l false i) b) true q=if q=p then rm (l true p) a else l true q:=fun q=>by
  rw[lset_ft];unfold lset;simp
 have fl:∀j,lset (lset l true p (rm (l true p) a)) false i (rm (l false i) b) false j=if j=i then rm (l false i) b else l false j:=fun j=>by
  unfold lset;simp
 refine⟨fun q j=>?_,fun q j=>?_,fun s j=>?_,fun q j hq=>?_,fun q j hq=>h.ord q j hq.1⟩
 ·rw[tr];unfold Epart;by_cases c:q=p
  ·subst c;rw[if_pos rfl,rm_mem (h.nd _ _) ha,h.eb];simp
  ·rw[if_neg c,h.eb];simp[c]
 ·rw[fl];unfold Epart;by_cases c:j=i
  ·subst c;rw[if_pos rfl,rm_mem (h.nd _ _) hb,h.ew];simp
  ·rw[if_neg c,h.ew];simp[c]
 ·cases s with
  | true=>rw[tr];split;exact rm_nodup (h.nd _ _) al;exact h.nd _ _
  | false=>rw[fl];split;exact rm_nodup (h.nd _ _) bl;exact h.nd _ _
 ·obtain⟨hE,hne⟩:=hq;obtain⟨a',b',g1,g2,g3⟩:=h.fp q j hE
  -- where q's list has j now
  have pa:(if q=p then rm (l true p) a else l true q)[if q=p/\j=lastI (l true p)/\a≠(l true p).length-1 then a else a']?=some j:=by
   by_cases c:q=p
   ·subst c;have hji:j≠i:=fun e=>hne ⟨rfl,e⟩;have aa:a'≠a:=fun e=>hji (by rw[e,ha] at g2;injection g2 with g2;exact g2.symm);rw[if_pos rfl,rm_at al];by_cases c2:j=lastI (l true q)/\a≠(l true q).length-1
    ·rw[if_pos ⟨rfl,c2⟩];exact .inl ⟨rfl,c2.2,c2.1⟩
    ·rw[if_neg (fun x=>c2 x.2)];refine .inr ⟨aa,fun e=>?_,g2⟩;rw[e,la] at g2;injection g2 with g2
     exact c2 ⟨g2.symm,fun e2=>aa (by omega)⟩
   ·rw[if_neg c,if_neg (fun x=>c x.1)];exact g2
  have pb:(if j=i then rm (l false i) b else l false j)[if j=i/\q=lastI (l false i)/\b≠(l false i).length-1 then b else b']?=some q:=by
   by_cases c:j=i
   ·subst c;have hqp:q≠p:=fun e=>hne ⟨e,rfl⟩;have bb:b'≠b:=fun e=>hqp (by rw[e,hb] at g3;injection g3 with g3;exact g3.symm);rw[if_pos rfl,rm_at bl];by_cases c2:q=lastI (l false j)/\b≠(l false j).length-1
    ·rw[if_pos ⟨rfl,c2⟩];exact .inl ⟨rfl,c2.2,c2.1⟩
    ·rw[if_neg (fun x=>c2 x.2)];refine .inr ⟨bb,fun e=>?_,g3⟩;rw[e,lb] at g3;injection g3 with g3
     exact c2 ⟨g3.symm,fun e2=>bb (by omega)⟩
   ·rw[if_neg c,if_neg (fun x=>c x.1)];exact g3
  rw[tr,fl]
  have hd:fdel fp (p,i) (q,j)=some (prV (a',b')):=by
   unfold fdel;rw[if_neg (fun e=>by injection e with e1 e2;exact hne ⟨e1,e2⟩)];exact g1
  have hf1:f1 (q,j)=some (prV ((if q=p/\j=lastI (l true p)/\a≠(l true p).length-1 then a else a':Nat),b')):=by
   rcases h1 with⟨e1,rfl⟩|⟨e1,b1,e2,rfl⟩
   ·rw[if_neg (fun x=>x.2.2 e1)];exact hd
   ·unfold fput;by_cases c:(q,j)=(p,lastI (l true p))
    ·rw[if_pos c];injection c with c1 c2
     subst c1;rw[if_pos ⟨rfl,c2,e1⟩];have:b1=b':=nodup_at (h.nd _ _) e2 (by rw[<-c2];exact g3);rw[this]
    ·rw[if_neg c,if_neg (fun x=>c (by rw[x.1,<-x.2.1]))];exact hd
  obtain⟨A,hA⟩:∃A:Nat,(if q=p/\j=lastI (l true p)/\a≠(l true p).length-1 then a else a')=A:=⟨_,rfl⟩;rw[hA] at pa hf1;refine⟨A,_,?_,pa,pb⟩;rcases h2 with⟨e1,rfl⟩|⟨e1,a2,e2,rfl⟩
  ·rw[if_neg (fun x=>x.2.2 e1)];exact hf1
  ·unfold fput;by_cases c:(q,j)=(lastI (l false i),i)
   ·rw[if_pos c];injection c with c1 c2
    subst c2;rw[if_pos ⟨rfl,c1,e1⟩];have:a2=a':=nodup_at (h.nd _ _) e2 (by rw[<-c1];exact g2);subst this;have hqp:q≠p:=fun e=>hne ⟨e,rfl⟩;rw[if_neg (fun x=>hqp x.1)] at hA;rw[hA]
   ·rw[if_neg c,if_neg (fun x=>c (by rw[x.1,<-x.2.1]))];exact hf1
end
section
open Go.RowKit Go.Lib Go.WideMaps Go.Maps
structure DgA(w:World)(B M0:Nat)(M:Bool->Nat)(fp:Int×Int->Option Value)(f:Bool->Int->Option Value)(l:Bool->Int->List Int)(N:Nat):Prop where
 head:w.heap[B]?=some (.cells #[.map (some M0),.map (some (M true)),.map (some (M false))] 119 (0,0))
 mp:∃n,MapG keyP w M0 fp n/\n<=N
 mi:∀s,∃n,MapG keyI w (M s) (f s) n/\n<=N
 own:∀s i v,f s i=some v->OwnI w 0 v (l s i)/\l s i≠[]
 non:∀s i,f s i=none->l s i=[]
 len:∀s i,(l s i).length<=N
 sep:∀s i s' i' v v' k,f s i=some v->f s' i'=some v'->v.ownBlock=some k->v'.ownBlock=some k->s=s'/\i=i'
 m0:∀s,M s≠M0
 m1:M true≠M false
def ft(B M0:Nat)(M:Bool->Nat)(f:Bool->Int->Option Value)(k:Nat):Prop:=k=B\/k=M0\/(∃s,k=M s)\/∃s i v,f s i=some v/\v.ownBlock=some k
variable {w w':World}{B M0 N N':Nat}{M:Bool->Nat}{fp gp:Int×Int->Option Value}{f:Bool->Int->Option Value}{l:Bool->Int->List Int}
theorem cells_no_map{k:Nat}{cs:Array Value}{t:TypeId}{z:Nat×Nat}{es:Array MapEntry}{c:Nat}(h:w.heap[k]?=some (.cells cs t z))(h':w.heap[k]?=some (.map es c)):False:=by
 rw[h] at h'
 cases h'
theorem DgA.mlt(h:DgA w B M0 M fp f l N)(s:Bool):M s<w.heap.size:=by
 obtain⟨n,q,_⟩:=h.mi s;exact q.lt
theorem DgA.m0lt(h:DgA w B M0 M fp f l N):M0<w.heap.size:=by
 obtain⟨n,q,_⟩:=h.mp;exact q.lt
theorem DgA.blt(h:DgA w B M0 M fp f l N):B<w.heap.size:=lt_of_block h.head
theorem DgA.bm(h:DgA w B M0 M fp f l N):B≠M0/\∀s,B≠M s:=by
 refine⟨fun e=>?_,fun s e=>?_⟩
 ·obtain⟨n,q,_⟩:=h.mp;obtain⟨es,c,q⟩:=q.isMap;exact cells_no_map h.head (by rw[e];exact q)
 ·obtain⟨n,q,_⟩:=h.mi s;obtain⟨es,c,q⟩:=q.isMap;exact cells_no_map h.head (by rw[e];exact q)
theorem DgA.row(h:DgA w B M0 M fp f l N){s:Bool}{i:Int}{v:Value}{k:Nat}(hf:f s i=some v)(hk:v.ownBlock=some k):k<w.heap.size/\k≠B/\k≠M0/\∀s,k≠M s:=by
 have o:=(h.own s i v hf).1;obtain⟨cs,hc⟩:=o.rowT hk;refine⟨(o.rowLt hk).2,fun e=>?_,fun e=>?_,fun s' e=>?_⟩
 ·have:=h.head;rw[<-e,hc] at this;simp only[Option.some.injEq,Obj.cells.injEq] at this;exact absurd this.2.1 (by decide)
 ·obtain⟨n,q,_⟩:=h.mp;obtain⟨es,c,q⟩:=q.isMap;exact cells_no_map hc (by rw[e];exact q)
 ·obtain⟨n,q,_⟩:=h.mi s';obtain⟨es,c,q⟩:=q.isMap;exact cells_no_map hc (by rw[e];exact q)
theorem DgA.ftLt(h:DgA w B M0 M fp f l N){k:Nat}(hk:ft B M0 M f k):k<w.heap.size:=by
 rcases hk with rfl|rfl|⟨s,rfl⟩|⟨s,i,v,h1,h2⟩
 ·exact h.blt
 ·exact h.m0lt
 ·exact h.mlt s
 ·exact(h.row h1 h2).1
theorem DgA.fr(h:DgA w B M0 M fp f l N){X:Nat->Prop}(hf:Fr X w w')(hx:∀k,ft B M0 M f k->¬X k):DgA w' B M0 M fp f l N:=by
 refine⟨(hf.block B h.blt (hx B (.inl rfl))).trans h.head,?_,fun s=>?_,fun s i v hv=>?_,h.non,h.len,h.sep,h.m0,h.m1⟩
 ·obtain⟨n,q,hn⟩:=h.mp;exact⟨n,q.of_block (hf.block M0 q.lt (hx M0 (.inr (.inl rfl)))),hn⟩
 ·obtain⟨n,q,hn⟩:=h.mi s;exact⟨n,q.of_block (hf.block _ q.lt (hx _ (.inr (.inr (.inl ⟨s,rfl⟩))))),hn⟩
 ·obtain⟨o,hne⟩:=h.own s i v hv;exact⟨o.fr hf (fun k hk=>hx k (.inr (.inr (.inr ⟨s,i,v,hv,hk⟩)))),hne⟩
theorem DgA.below(h:DgA w B M0 M fp f l N)(hw:Below w.heap.size w w'):DgA w' B M0 M fp f l N:=h.fr (Fr.below (X:=fun _=>False) hw) (fun _ _=>id)
theorem DgA.setP(h:DgA w B M0 M fp f l N){n:Nat}(hm:MapG keyP w' M0 gp n)(hn:n<=N)(hg:w.grownBy w' (some M0)):DgA w' B M0 M gp f l N:=by
 have hf:Fr (fun k=>k=M0) w w':=(Fr.of_grown hg).mono (fun j hj=>by injection hj with hj;exact hj.symm);refine⟨(hf.block B h.blt h.bm.1).trans h.head,⟨n,hm,hn⟩,fun s=>?_,fun s i v hv=>?_,h.non,h.len,h.sep,h.m0,h.m1⟩
 ·obtain⟨n,q,hn⟩:=h.mi s;exact⟨n,q.of_block (hf.block _ q.lt (h.m0 s)),hn⟩
 ·obtain⟨o,hne⟩:=h.own s i v hv;exact⟨o.fr hf (fun k hk=>(h.row hv hk).2.2.1),hne⟩
def fset(f:Bool->Int->Option Value)(s:Bool)(g:Int->Option Value):Bool->Int->Option Value:=fun a=>if a=s then g else f a
theorem fset_same(f:Bool->Int->Option Value)(s:Bool)(g:Int->Option Value):fset f s g s=g:=if_pos rfl
theorem fset_ne(f:Bool->Int->Option Value){s a:Bool}(g:Int->Option Value)(h:a≠s):fset f s g a=f a:=if_neg h
theorem DgA.turn(h:DgA w B M0 M fp f l N){s:Bool}{id:Int}{g:Int->Option Value}{n:Nat}{d:List Int}(hm:MapG keyI w' (M s) g n)(hn:n<=N)(hd:d.length<=N)
  (hf:Fr (fun k=>k=M s\/∃v,f s id=some v/\v.ownBlock=some k) w w') (hg:∀j,j≠id->g j=f s j)
  (hv:(g id=none/\d=[])\/∃v,g id=some v/\OwnI w' 0 v d/\d≠[]/\∀k,v.ownBlock=some k->(∃u,f s id=some u/\u.ownBlock=some k)\/w.heap.size<=k) :
  DgA w' B M0 M fp (fset f s g) (lset l s id d) N/\∀k,ft B M0 M (fset f s g) k->ft B M0 M f k\/w.heap.size<=k:=by
 have key:∀a i v,fset f s g a i=some v->(a=s/\i=id/\g id=some v)\/(¬(a=s/\i=id)/\f a i=some v):=fun a i v hq=>by
  by_cases c:a=s
  ·subst c;rw[fset_same] at hq;by_cases c2:i=id
   ·subst c2;exact .inl ⟨rfl,rfl,hq⟩
   ·rw[hg i c2] at hq;exact .inr ⟨fun x=>c2 x.2,hq⟩
  ·rw[fset_ne _ _ c] at hq;exact .inr ⟨fun x=>c x.1,hq⟩
 have new:∀v,g id=some v->OwnI w' 0 v d/\d≠[]/\∀k,v.ownBlock=some k->(∃u,f s id=some u/\u.ownBlock=some k)\/w.heap.size<=k:=fun v hgv=>by
  rcases hv with⟨h1,_⟩|⟨v',h1,h2⟩
  ·rw[hgv] at h1;cases h1
  ·rw[hgv] at h1;injection h1 with h1;rw[h1];exact h2
 refine⟨⟨(hf.block B h.blt (fun hx=>?_)).trans h.head,?_,fun a=>?_,fun a i v hv=>?_,fun a i hq=>?_,fun a i=>?_,fun a i a' i' v v' k e1 e2 k1 k2=>?_,h.m0,h.m1⟩,fun k hk=>?_⟩
 ·rcases hx with hx|⟨v,h1,h2⟩
  ·exact h.bm.2 s hx
  ·exact(h.row h1 h2).2.1 rfl
 ·obtain⟨n,q,hn⟩:=h.mp;refine⟨n,q.of_block (hf.block M0 q.lt (fun hx=>?_)),hn⟩;rcases hx with hx|⟨v,h1,h2⟩
  ·exact h.m0 s hx.symm
  ·exact(h.row h1 h2).2.2.1 rfl
 ·by_cases c:a=s
  ·subst c;rw[fset_same];exact⟨n,hm,hn⟩
  ·rw[fset_ne _ _ c];obtain⟨n,q,hn⟩:=h.mi a;refine⟨n,q.of_block (hf.block _ q.lt (fun hx=>?_)),hn⟩;rcases hx with hx|⟨v,h1,h2⟩
   ·have:∀a s:Bool,a≠s->M a≠M s:=fun a s c=>by
     cases a<;>cases s
     ·exact absurd rfl c
     ·exact fun e=>h.m1 e.symm
     ·exact h.m1
     ·exact absurd rfl c
    exact this a s c hx
   ·exact(h.row h1 h2).2.2.2 a rfl
 ·rcases key a i v hv with⟨rfl,rfl,hg'⟩|⟨hne,hv⟩
  ·rw[lset_same];exact⟨(new v hg').1,(new v hg').2.1⟩
  ·rw[lset_ne _ _ hne];obtain⟨o,o2⟩:=h.own a i v hv;refine⟨o.fr hf (fun k hk hx=>?_),o2⟩;rcases hx with hx|⟨u,h1,h2⟩
   ·exact(h.row hv hk).2.2.2 s hx
   ·exact hne (h.sep a i s id v u k hv h1 hk h2)
 ·by_cases c:a=s/\i=id
  ·obtain⟨rfl,rfl⟩:=c;rw[fset_same] at hq;rw[lset_same];rcases hv with⟨_,h2⟩|⟨v,h1,_⟩
   ·exact h2
   ·rw[hq] at h1;cases h1
  ·rw[lset_ne _ _ c];refine h.non a i ?_;by_cases c1:a=s
   ·subst c1;rw[fset_same,hg i (fun e=>c ⟨rfl,e⟩)] at hq;exact hq
   ·rw[fset_ne _ _ c1] at hq;exact hq
 ·by_cases c:a=s/\i=id
  ·obtain⟨rfl,rfl⟩:=c;rw[lset_same];exact hd
  ·rw[lset_ne _ _ c];exact h.len a i
 ·rcases key a i v e1 with⟨rfl,rfl,g1⟩|⟨n1,g1⟩<;>rcases key a' i' v' e2 with⟨rfl,rfl,g2⟩|⟨n2,g2⟩
  ·exact⟨rfl,rfl⟩
  ·rcases (new v g1).2.2 k k1 with⟨u,u1,u2⟩|hk
   ·exact h.sep _ _ _ _ u v' k u1 g2 u2 k2
   ·have:=(h.row g2 k2).1;omega
  ·rcases (new v' g2).2.2 k k2 with⟨u,u1,u2⟩|hk
   ·exact h.sep _ _ _ _ v u k g1 u1 k1 u2
   ·have:=(h.row g1 k1).1;omega
  ·exact h.sep _ _ _ _ v v' k g1 g2 k1 k2
 ·rcases hk with hk|hk|hk|⟨a,i,v,h1,h2⟩
  ·exact .inl (.inl hk)
  ·exact .inl (.inr (.inl hk))
  ·exact .inl (.inr (.inr (.inl hk)))
  ·rcases key a i v h1 with⟨rfl,rfl,g1⟩|⟨n1,g1⟩
   ·rcases (new v g1).2.2 k h2 with⟨u,u1,u2⟩|hk
    ·exact .inl (.inr (.inr (.inr ⟨_,_,u,u1,u2⟩)))
    ·exact .inr hk
   ·exact .inl (.inr (.inr (.inr ⟨a,i,v,g1,h2⟩)))
theorem zeroS(w:World):(zeroValue 49).run prog w=.ok (.slice none 0 0) w:=zeroValue49 w
theorem zeroP(w:World):(zeroValue 78).run prog w=.ok (prV (0,0)) w:=by kernel_rfl
def lv(f:Bool->Int->Option Value)(s:Bool)(i:Int):Value:=(f s i).getD (.slice none 0 0)
theorem DgA.look(h:DgA w B M0 M fp f l N)(s:Bool){i:Int}(hi:wfI i):(Instr.lookup 117 (.map (some (M s))) (.int .i64 i) false).run prog w=.ok (lv f s i) w:=by
 obtain⟨n,q,_⟩:=h.mi s;exact q.look underlying117 (zeroS w) (x:=i) hi
theorem DgA.lookP(h:DgA w B M0 M fp f l N){p i:Int}(hp:wfI p)(hi:wfI i){v:Value}(hv:fp (p,i)=some v):(Instr.lookup 116 (.map (some M0)) (.agg #[.int .i64 p,.int .i64 i]) false).run prog w=.ok v w:=by
 obtain⟨n,q,_⟩:=h.mp;have:=q.look underlying116 (zeroP w) (x:=(p,i)) ⟨hp,hi⟩;rw[hv] at this;exact this
theorem DgA.ownv(h:DgA w B M0 M fp f l N)(s:Bool)(i:Int):OwnI w 0 (lv f s i) (l s i):=by
 unfold lv
 cases hf:f s i with
 | none=>rw[h.non s i hf];exact OwnI.nil _ _
 | some v=>exact(h.own s i v hf).1
theorem DgA.lvlen(h:DgA w B M0 M fp f l N)(s:Bool)(i:Int):∃a cap,lv f s i=.slice a (l s i).length cap/\IsI w a cap (l s i):=(h.ownv s i).isI
end
section
open Go.RowKit Go.Lib Go.Sort Go.Shelf
variable {w w':World}{a:Option Addr}{cap base:Nat}{d c:List Int}{v:Value}
def sortI(d:List Int):List Int:=d.mergeSort fun x y=>decide (x<=y)
theorem sortI_len(d:List Int):(sortI d).length=d.length:=List.length_mergeSort ..
theorem sortI_mem(d:List Int)(x:Int):x∈sortI d↔x∈d:=List.mem_mergeSort
theorem sortI_le(d:List Int):(sortI d).Pairwise (·<=·):=by
 have:=List.pairwise_mergeSort (le:=fun x y:Int=>decide (x<=y)) (fun a b c h1 h2=>by simp at *;omega) (fun a b=>by simp;omega) d;exact this.imp (fun h=>by simpa using h)
theorem sortI_nodup(d:List Int)(h:d.Nodup):(sortI d).Nodup:=((List.mergeSort_perm d _).nodup_iff).2 h
abbrev Up(d:List Int):Prop:=d.Pairwise (·<·)
theorem sortI_up{d:List Int}(h:d.Nodup):Up (sortI d):=by
 have h1:=sortI_le d;have h2:=sortI_nodup d h;exact(h1.and h2).imp (fun⟨a,b⟩=>by omega)
theorem Up.nodup{d:List Int}(h:Up d):d.Nodup:=h.imp (fun h=>by omega)
theorem clone_any(h:IsI w a cap d)(hl:d.length<=1000000):Calls prog 77 #[.slice a d.length cap] w fun e w'=>∃v',e=.returned v'/\OwnI w' w.heap.size v' d/\Below w.heap.size w w':=by
 have hle:=h.le;have hbig:=h.big;by_cases hd:d=[]
 ·subst hd
  cases a with
  | none=>
   have hc:=Any.slices_Clone_int_nil layClone 0 cap w
   change Calls prog 77 _ _ _ at hc
   refine hc.mono ?_;rintro e w' ⟨rfl,rfl⟩;exact⟨_,rfl,OwnI.nil _ _,Below.refl _ _⟩
  | some x=>
   obtain⟨i,hi,hz,hs,hby⟩:=infoI
   have hr:∀(g:Nat)(u:World),(Builtin.append_ #[49,49] 49 #[.slice (some ⟨g,0,none⟩) 0 0,.slice (some x) 0 cap]).run prog u=.ok (.slice (some ⟨g,0,none⟩) 0 0) u:=fun g u=>by
    have:=run_firstCells_some (P:=prog) u i.size 0 x 0 cap [] (by simp) (fun j u hj=>by simp at hj);simp[Builtin.append_,run_underlying underlying49,sizeOf,typeInfo,hi,Builtin.lenOf,this,storeCells]
   have q22:∀(w:World)(a:Option Addr)(n c n' c':Nat),(binOp .eql 49 (.slice a n c) (.slice none n' c')).run prog w=.ok (.bool a.isNone) w:=fun w a n c n' c'=>Lib.run_eql_slice_nil w _ _ a n c n' c' underlying49;go_enter func77,ntmps77
   go_wp2
   go_ret;exact⟨_,rfl,OwnI.lit w [] (le_refl _) (by simp),(Below.refl _ _).alloc (le_refl _) _⟩
 ·obtain⟨x,r,rfl⟩:=List.exists_cons_of_ne_nil hd;obtain⟨b,off,rfl,_,_⟩:=h.elem 0 x rfl
  have hc:=Any.slices_Clone_int layClone b off (x::r).length cap (x::r) w (le_refl _) (by omega) (fun j hj=>by
   obtain⟨b',off',e,_,h1⟩:=h.at hj
   cases e
   exact h1)
  change Calls prog 77 _ _ _ at hc
  refine hc.mono ?_;rintro e w' ⟨v',rfl,ho,_,hb⟩;rw[List.take_length] at ho;exact⟨v',rfl,ho,hb⟩
theorem OwnI.of_cells{g:Nat}{cur:Array Value}(hb:base<=g)(hl:d.length<=cap)(hm:cap<=maxLen)(hg:w.heap[g]?=some (.cells cur 3 (0,0)))(hs:cur.size=cap)(hc:∀(j:Nat)(x:Int),d[j]?=some x->cur[j]?=some (Value.int .i64 x)) :
  OwnI w base (.slice (some ⟨g,0,none⟩) d.length cap) d:=by
 refine⟨by simp,.inr ⟨g,cap,cur,rfl,hb,hg,hl,hm,by omega,?_⟩⟩;apply List.ext_getElem?;intro j;rw[Nat.mul_one];by_cases hj:j<d.length
 ·rw[List.getElem?_take_of_lt hj];have e:d[j]?=some d[j]:=getElem?_eq_getElem hj;rw[cz_at e,<-hc j _ e];simp
 ·rw[List.getElem?_eq_none (by simp;omega),List.getElem?_eq_none (by simp;omega)]
theorem OwnI.holds{g:Nat}(h:OwnI w base (.slice (some ⟨g,0,none⟩) d.length cap) d):Holds (Value.int .i64) w g 0 d.toArray:=by
 intro j hj;have hj':j<d.length:=by simpa using hj
 have e:d[j]?=some d[j]:=getElem?_eq_getElem hj';refine⟨?_,by rw[zero_add];exact h.frozen j⟩;rw[zero_add,World.ownsRow.cellAt h j (by omega),cz_at e,getElem!_pos d.toArray j hj];simp
theorem OwnI.put{g:Nat}(h:OwnI w base (.slice (some ⟨g,0,none⟩) d.length cap) d)(n:Nat)(f:List Int)(hf:f.length=d.length)(os:Array Obj)(k:Nat)(hk:c.length<=f.length)(hc:∀(j:Nat)(x:Int),c[j]?=some x->f[j]?=some x) :
  OwnI (grow (putRow (Value.int .i64) (Sort.ahead w n) g 0 f.toArray) os) base (.slice (some ⟨g,0,none⟩) c.length cap) c/\w.grownBy (grow (putRow (Value.int .i64) (Sort.ahead w n) g 0 f.toArray) os) (some g):=by
 have hT:=h;obtain⟨h1,h2⟩:=h;rcases h2 with⟨h2,_⟩|⟨g',cap',cur,e,hb,hg,hn,hcp,hz,ht⟩
 ·simp at h2
 ·simp only[Value.slice.injEq,Option.some.injEq,Addr.mk.injEq,and_true,true_and] at e;obtain⟨rfl,rfl⟩:=e;have hlt:g<w.heap.size:=lt_of_block hg
  have hW:(grow (putRow (Value.int .i64) (Sort.ahead w n) g 0 f.toArray) os).heap[g]?=some (.cells (putCells (Value.int .i64) 0 f.toArray cur) 3 (0,0)):=by
   rw[heap_grow_old _ _ (by simpa [putRow,mapBlock,Sort.ahead] using hlt)];show(w.heap.modify g _)[g]?=_;rw[Array.getElem?_modify,if_pos rfl,hg]
   rfl
  refine⟨OwnI.of_cells hb (by omega) hcp hW (by simp[putCells];omega) (fun j x hx=>?_),⟨rfl,rfl,rfl,by simp[grow,putRow,mapBlock,Sort.ahead],fun i hi hne=>?_⟩⟩
  ·have hj:=(List.getElem?_eq_some_iff.1 (hc j x hx)).1;have hcs:j<cur.size:=by omega
   have e:=hc j x hx
   have e2:f.toArray[j]! = x:=by
    rw[getElem!_pos f.toArray j (by simpa using hj)];simpa using (List.getElem?_eq_some_iff.1 e).2
   simp[putCells,hcs,hj];simpa using (List.getElem?_eq_some_iff.1 e).2
  ·rw[heap_grow_old _ _ (by simpa [putRow,mapBlock,Sort.ahead] using hi)];show(w.heap.modify g _)[i]?=_;rw[Array.getElem?_modify,if_neg (fun e=>hne (by rw[e]))]
theorem sort_any(h:OwnI w base v d)(hl:d.length<4611686018427387904):Calls prog 78 #[v] w fun e w'=>e=.returned (.tuple #[])/\OwnI w' base v (sortI d)/\w.grownBy w' v.ownBlock:=by
 by_cases hd:d=[]
 ·subst hd;obtain⟨a,cap,rfl,_⟩:=h.isI;have hc:=Any.slices_Sort_int_none laySort a cap w
  change Calls prog 78 _ _ _ at hc
  refine hc.mono ?_;rintro e w' ⟨rfl,rfl⟩;exact⟨rfl,by simpa [sortI] using h,⟨rfl,rfl,rfl,le_refl _,fun _ _ _=>rfl⟩⟩
 ·obtain⟨g,cap,rfl⟩:=h.addr hd;have hc:Calls prog (laySort_ren.f 189) _ _ _:=calls_of_every_depth fun D=>AnyS.slices_Sort_int_in laySort D g 0 cap d w h.holds (h.rowLt rfl).2 hl
  change Calls prog 78 _ _ _ at hc
  refine hc.mono ?_;rintro e w' ⟨rfl,n,os,rfl⟩;obtain⟨q1,q2⟩:=h.put (c:=sortI d) n (sortI d) (sortI_len d) os 0 (le_refl _) (fun _ _ h=>h);rw[sortI_len] at q1;exact⟨rfl,q1,q2⟩
theorem rising_any(h:IsI w a cap d)(hl:d.length<=1000000):Calls prog 51 #[.slice a d.length cap] w fun e w'=>∃v',e=.returned v'/\OwnI w' w.heap.size v' (sortI d)/\Below w.heap.size w w':=by
 have hc:=clone_any h hl;go_enter func51,ntmps51
 go_wp2_with fail
 refine hc.mono ?_;rintro e w1 ⟨v1,rfl,o1,b1⟩;have hs:=sort_any o1 (by omega);clear hc
 go_wp2_with fail
 refine hs.mono ?_;rintro e w2 ⟨rfl,o2,g2⟩;have b2:Below w.heap.size w w2:=b1.grown g2 b1.size (fun k hk=>(o1.rowLt hk).1);clear hs g2
 go_wp2_with fail
 go_ret;exact⟨_,rfl,o2,b2⟩
end
section
open Go.RowKit Go.Lib Go.WideMaps Go.Maps
variable {w w':World}{B M0 N N':Nat}{M:Bool->Nat}{fp gp:Int×Int->Option Value}{f:Bool->Int->Option Value}{l:Bool->Int->List Int}
theorem DgA.cell0(h:DgA w B M0 M fp f l N):w.cell? ⟨B,0,none⟩=some (.map (some M0))/\w.cell? ⟨B,1,none⟩=some (.map (some (M true)))/\w.cell? ⟨B,2,none⟩=some (.map (some (M false))):=by
 have:=h.head;refine⟨?_,?_,?_⟩<;>(rw[cell_of_row _ _ _ _ _ _ this];rfl)
theorem waits_any(h:DgA w B M0 M fp f l N)(hN:N<=1000000)(i:Int)(hi:wfI i):Calls prog 239 #[.pointer (some ⟨B,0,none⟩),.int .i64 i] w fun e w'=>∃v',e=.returned v'/\OwnI w' w.heap.size v' (sortI (l false i))/\Below w.heap.size w w':=by
 obtain⟨c0,c1,c2⟩:=h.cell0;have hl:=h.look false hi;obtain⟨a,cap,e,q⟩:=h.lvlen false i;rw[e] at hl;have hr:=rising_any q (by have:=h.len false i;omega);clear c0 c1;go_enter func239,ntmps239
 go_wp2_with fail
 refine hr.mono ?_;rintro e w1 ⟨v1,rfl,o1,b1⟩;clear hr hl c2
 go_wp2_with fail
 go_ret;exact⟨_,rfl,o1,b1⟩
theorem behind_any(h:DgA w B M0 M fp f l N)(hN:N<=1000000)(i:Int)(hi:wfI i):Calls prog 200 #[.pointer (some ⟨B,0,none⟩),.int .i64 i] w fun e w'=>∃v',e=.returned v'/\OwnI w' w.heap.size v' (sortI (l true i))/\Below w.heap.size w w':=by
 obtain⟨c0,c1,c2⟩:=h.cell0;have hl:=h.look true hi;obtain⟨a,cap,e,q⟩:=h.lvlen true i;rw[e] at hl;have hr:=rising_any q (by have:=h.len true i;omega);clear c0 c2;go_enter func200,ntmps200
 go_wp2_with fail
 refine hr.mono ?_;rintro e w1 ⟨v1,rfl,o1,b1⟩;clear hr hl c1
 go_wp2_with fail
 go_ret;exact⟨_,rfl,o1,b1⟩
theorem new_any(w:World):Calls prog 33 #[] w fun e w'=>∃B M0 M,e=.returned (.pointer (some ⟨B,0,none⟩))/\DgA w' B M0 M (fun _=>none) (fun _ _=>none) (fun _ _=>[]) 0/\(∀k,ft B M0 M (fun _ _=>none) k->w.heap.size<=k)/\Below w.heap.size w w':=by
 have hmm:=@run_makeMap prog;obtain⟨S,hS⟩:∃S,w.heap.size=S:=⟨_,rfl⟩;have b1:Below S w (w.alloc (.map #[] 0)):=(Below.refl _ _).alloc (by omega) _;have b2:Below S w ((w.alloc (.map #[] 0)).alloc (.map #[] 0)):=b1.alloc (by simp;omega) _;have b3:Below S w (((w.alloc (.map #[] 0)).alloc (.map #[] 0)).alloc (.map #[] 0)):=b2.alloc (by simp;omega) _;obtain⟨w4,hw4⟩:∃w4,(((w.alloc (.map #[] 0)).alloc (.map #[] 0)).alloc (.map #[] 0)).alloc (.cells #[.map (some S),.map (some (S+1)),.map (some (S+1+1))] 119)=w4:=⟨_,rfl⟩;have b4:Below S w w4:=by rw[<-hw4];exact b3.alloc (by simp;omega) _
 have hB:w4.heap[S+1+1+1]?=some (.cells #[.map (some S),.map (some (S+1)),.map (some (S+1+1))] 119 (0,0)):=by
  rw[<-hw4];have:=heap_alloc_new (((w.alloc (.map #[] 0)).alloc (.map #[] 0)).alloc (.map #[] 0)) (.cells #[.map (some S),.map (some (S+1)),.map (some (S+1+1))] 119);simpa [hS] using this
 have old:∀k,k<S+1+1+1->w4.heap[k]?=(((w.alloc (.map #[] 0)).alloc (.map #[] 0)).alloc (.map #[] 0)).heap[k]?:=fun k hk=>by
  rw[<-hw4];exact heap_alloc_old _ _ (by simp[hS];omega)
 have m0:MapG keyP w4 S (fun _=>none) 0:=by
  have:=MapG.made keyP w;rw[hS] at this;exact this.of_block ((old S (by omega)).trans ((heap_alloc_old _ _ (by simp[hS];omega)).trans (heap_alloc_old _ _ (by simp[hS]))))
 have m1:MapG keyI w4 (S+1) (fun _=>none) 0:=by
  have:=MapG.made keyI (w.alloc (.map #[] 0));rw[show(w.alloc (.map #[] 0)).heap.size=S+1 by simp[hS]] at this;exact this.of_block ((old (S+1) (by omega)).trans (heap_alloc_old _ _ (by simp[hS])))
 have m2:MapG keyI w4 (S+1+1) (fun _=>none) 0:=by
  have:=MapG.made keyI ((w.alloc (.map #[] 0)).alloc (.map #[] 0));rw[show((w.alloc (.map #[] 0)).alloc (.map #[] 0)).heap.size=S+1+1 by simp[hS]] at this;exact this.of_block (old (S+1+1) (by omega))
 have D:DgA w4 (S+1+1+1) S (fun s=>if s then S+1 else S+1+1) (fun _=>none) (fun _ _=>none) (fun _ _=>[]) 0:=
  ⟨hB,⟨0,m0,le_refl _⟩,fun s=>⟨0,by cases s;exact m2;exact m1,le_refl _⟩,fun _ _ _ h=>(by cases h),fun _ _ _=>rfl,fun _ _=>le_refl _,fun _ _ _ _ _ _ _ h=>(by cases h),fun s=>by cases s<;>simp<;>omega,by simp⟩
 have F:∀k,ft (S+1+1+1) S (fun s=>if s then S+1 else S+1+1) (fun _ _=>none) k->S<=k:=by
  rintro k (rfl|rfl|⟨s,rfl⟩|⟨s,i,v,h,_⟩)
  ·omega
  ·omega
  ·cases s<;>simp<;>omega
  ·cases h
 have H4:Hid _:=hw4;clear hw4 hB old m0 m1 m2 b1 b2 b3;go_enter func33,ntmps33
 go_wp2_with fail
 rw[H4.out];go_ret;exact⟨_,_,_,rfl,D,by rw[hS];exact F,by rw[hS];exact b4⟩
theorem bneN(a b:Nat):((a:Int) != (b:Int))=!decide (a=b):=by
 by_cases h:a=b
 ·subst h;simp
 ·simp[h,bne];omega
theorem leave_any(h:DgA w B M0 M fp f l N)(hN:N<=1000000)(s:Bool)(id:Int)(place:Nat)(hp:place<(l s id).length) :
  Calls prog 238 #[.map (some (M s)),.int .i64 id,.int .i64 place] w fun e w'=>e=.returned (.tuple #[.int .i64 (lastI (l s id)),.bool (decide (place≠(l s id).length-1))])/\
   ∃f',DgA w' B M0 M fp f' (lset l s id (rm (l s id) place)) N/\Fr (ft B M0 M f) w w'/\∀k,ft B M0 M f' k->ft B M0 M f k:=by
 obtain⟨L,hL⟩:∃L,l s id=L:=⟨_,rfl⟩
 obtain⟨v,hv⟩:∃v,f s id=some v:=by
  cases hf:f s id with
  | none=>rw[h.non s id hf] at hp;simp at hp
  | some v=>exact⟨v,rfl⟩
 obtain⟨o,one⟩:=h.own s id v hv;rw[hL] at o one hp⊢;obtain⟨m,hm⟩:∃m,L.length=m+1:=⟨L.length-1,by omega⟩;obtain⟨g,cap,rfl⟩:=o.addr one;obtain⟨n0,q,hn0⟩:=h.mi s;have wid:wfI id:=q.okey hv;have hlk:=h.look s wid;have elv:lv f s id=.slice (some ⟨g,0,none⟩) (m+1) cap:=by unfold lv;rw[hv,hm];rfl
 rw[elv] at hlk;have hlast:=lastI_at one;obtain⟨x,hx⟩:∃x,lastI L=x:=⟨_,rfl⟩;rw[hx] at hlast⊢
 have cell:w.cell? ⟨g,m,none⟩=some (.int .i64 x):=by
  obtain⟨b,off,e,_,hc⟩:=o.isIv.elem _ _ hlast
  cases e
  rw[zero_add,show L.length-1=m by omega] at hc;exact hc
 have cellp:w.cell? ⟨g,place,none⟩=some (.int .i64 (L.getD place 0)):=by
  obtain⟨b,off,e,_,hc⟩:=o.isIv.at hp
  cases e
  rw[zero_add] at hc;exact hc
 have frz:=o.frozen place;have hcap:m+1<=cap/\cap<=9223372036854775807:=by have:=o.isIv.le;have:=o.isIv.big;unfold maxLen at this;omega
 have hgM:=(h.row hv rfl).2.2.2 s;have q1:MapG keyI (w.setCell ⟨g,place,none⟩ (.int .i64 x)) (M s) (f s) n0:=q.of_block (heap_setCell_other _ _ _ _ (fun e=>hgM e.symm));obtain⟨w2,n2,hr2,q2,hn2,g2⟩:=q1.store underlying117 (by omega) (x:=id) wid (.slice (some ⟨g,0,none⟩) m cap);rw[hv] at hn2;have hn2:n2=n0:=by simpa using hn2
 change (Instr.mapUpdate 117 (.map (some (M s))) (.int .i64 id) _).run _ _=_ at hr2
 have er:rm L place=(L.set place x).take m:=by unfold rm;rw[hx,show L.length-1=m by omega]
 have o1:=(o.set place x).cut (k:=m) (by rw[List.length_set];omega);rw[<-er,rm_len,show L.length-1=m by omega] at o1;have F1:Fr (fun k=>k=M s\/∃v,f s id=some v/\v.ownBlock=some k) w (w.setCell ⟨g,place,none⟩ (.int .i64 x)):=Fr.setCell _ _ _ _ _ (.inr ⟨_,hv,rfl⟩);have F2:Fr (fun k=>k=M s\/∃v,f s id=some v/\v.ownBlock=some k) w w2:=F1.trans (Fr.of_grown g2) (fun j hj=>by injection hj with hj;exact .inl (.inl hj.symm));have o2:OwnI w2 0 (.slice (some ⟨g,0,none⟩) m cap) (rm L place):=o1.fr (Fr.of_grown g2) (fun k hk e=>by injection hk with hk;injection e with e;exact hgM (by rw[e];exact hk))
 have hft:∀k,(k=M s\/∃v,f s id=some v/\v.ownBlock=some k)->ft B M0 M f k:=fun k hk=>by
  rcases hk with hk|⟨v,h1,h2⟩
  ·exact .inr (.inr (.inl ⟨s,hk⟩))
  ·exact .inr (.inr (.inr ⟨s,id,v,h1,h2⟩))
 have lenr:(rm L place).length<=N:=by rw[rm_len];have:=h.len s id;rw[hL] at this;omega
 have edec:(place≠L.length-1)=(place≠m):=by rw[show L.length-1=m by omega]
 simp only[edec];have ew1:((m+1:Nat):Int)-1=(m:Int):=by omega
 by_cases c0:m=0
 ·subst c0;obtain⟨w3,n3,hr3,q3,hn3,g3⟩:=q2.drop underlying117 (x:=id) (u:=.slice (some ⟨g,0,none⟩) 0 cap) (by simp[fput]) 0
  change (Builtin.delete_ #[117,3] 0 #[.map (some (M s)),.int .i64 id]).run _ _=_ at hr3
  have F3:Fr (fun k=>k=M s\/∃v,f s id=some v/\v.ownBlock=some k) w w3:=F2.trans (Fr.of_grown g3) (fun j hj=>by injection hj with hj;exact .inl (.inl hj.symm));have er0:rm L place=[]:=List.length_eq_zero_iff.1 (by rw[rm_len];omega);obtain⟨D,hD⟩:=h.turn (s:=s) (id:=id) (d:=rm L place) q3 (by omega) lenr F3 (fun j hj=>by simp[fdel,fput,hj]) (.inl ⟨by simp[fdel],er0⟩)
  have hD':∀k,ft B M0 M (fset f s (fdel (fput (f s) id (.slice (some ⟨g,0,none⟩) 0 cap)) id)) k->ft B M0 M f k:=fun k hk=>by
   rcases hk with hk|hk|hk|⟨a,i,v,h1,h2⟩
   ·exact .inl hk
   ·exact .inr (.inl hk)
   ·exact .inr (.inr (.inl hk))
   ·by_cases c:a=s
    ·subst c;rw[fset_same] at h1;simp[fdel,fput] at h1;obtain⟨h0,h1⟩:=h1;rw[if_neg h0] at h1;exact .inr (.inr (.inr ⟨a,i,v,h1,h2⟩))
    ·rw[fset_ne _ _ c] at h1;exact .inr (.inr (.inr ⟨a,i,v,h1,h2⟩))
  have FIN:Aside (∃f',DgA w3 B M0 M fp f' (lset l s id (rm L place)) N/\Fr (ft B M0 M f) w w3/\∀k,ft B M0 M f' k->ft B M0 M f k):=⟨_,D,F3.mono hft,hD'⟩;have hp0:place=0:=by omega
  subst hp0;clear h o q q1 q2 q3 g2 g3 o1 o2 F1 F2 F3 D hD hD' hft hlast hgM hn2 hn3 er0 er elv hv hL hn0 edec;go_enter func238,ntmps238
  go_wp2_with fail
  refine bodyPost_ret (v:=.tuple #[.int .i64 x,.bool (decide (0≠0))]) (by simp[results,results238,go_sem]) rfl ⟨rfl,FIN.out⟩
 ·have nem:rm L place≠[]:=fun e=>c0 (by have:=rm_len L place;rw[e] at this;simp at this;omega);have oo:=o2;rw[show m=(rm L place).length by rw[rm_len];omega] at oo;obtain⟨D,hD⟩:=h.turn (s:=s) (id:=id) (d:=rm L place) q2 (by omega) lenr F2 (fun j hj=>by simp[fput,hj]) (.inr ⟨_,by simp[fput],o2,nem,fun k hk=>.inl ⟨_,hv,hk⟩⟩)
  have hD':∀k,ft B M0 M (fset f s (fput (f s) id (.slice (some ⟨g,0,none⟩) m cap))) k->ft B M0 M f k:=fun k hk=>by
   rcases hk with hk|hk|hk|⟨a,i,v,h1,h2⟩
   ·exact .inl hk
   ·exact .inr (.inl hk)
   ·exact .inr (.inr (.inl hk))
   ·by_cases c:a=s
    ·subst c;rw[fset_same] at h1;unfold fput at h1
     split at h1
     ·injection h1 with h1
      subst h1;exact .inr (.inr (.inr ⟨a,id,_,hv,h2⟩))
     ·exact .inr (.inr (.inr ⟨a,i,v,h1,h2⟩))
    ·rw[fset_ne _ _ c] at h1;exact .inr (.inr (.inr ⟨a,i,v,h1,h2⟩))
  have FIN:Aside (∃f',DgA w2 B M0 M fp f' (lset l s id (rm L place)) N/\Fr (ft B M0 M f) w w2/\∀k,ft B M0 M f' k->ft B M0 M f k):=⟨_,D,F2.mono hft,hD'⟩;clear h o q q1 q2 g2 o1 o2 F1 F2 D hD hD' hft hlast hgM hn2 er elv hv hL hn0 edec oo nem;go_enter func238,ntmps238
  go_wp2_with fail
  refine bodyPost_ret (v:=.tuple #[.int .i64 x,.bool (decide (place≠m))]) (by simp[results,results238,go_sem,bneN]) rfl ⟨rfl,FIN.out⟩
end
section
section
variable {P:Program}{ops:Array Oper}{Q:Exit->Act->World->Prop}{md:Region.Mode}{S:World->Prop}{L:Nat}
theorem anyE_t{i:Nat}{oi:Oper}{v:Value}{f:Nat}{lst:Array Bool}{a:Act}{w:World}(hi:ops[i]?=some oi)(hh:(Region.noSelect ops&&Region.waitsFor md ops L i&&Region.free md ops lst i&&(Region.ready md ops lst).contains i)=true)
  (hQ:∀c a w,Q (.panic c) (a.put oi.dst v) w->Q (.panic c) a w) (hy:YieldsIf P ops S oi v a) (hS:S w) (h:wpAnyE P md ops Q S L f (lst.setIfInBounds i true) (a.put oi.dst v) w):wpAnyE P md ops Q S L (f+1) lst a w:=by
 simp only[Bool.and_eq_true] at hh;exact anyE_take hi hh.1.1.1 hh.1.1.2 hh.1.2 hh.2 hQ hy hS h
end
end
end Go.Proofs.YtjpbngiddjkjiaaGreatDoor.Da
