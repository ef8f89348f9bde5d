import Derived.WalkKit
import Derived.Test.YtjpbngiddjkjiaaGreatDoorProg
import Derived.Lib.AppendZeros
import Derived.Lib.AppendZerosOnto
import Derived.Maps.AppendAt
import Derived.OwnWalk
import Derived.Laws.OwnMore
import Derived.Below
import Derived.Deep.QuietTactic
import Derived.BigQuiet
import Derived.Maps.OwnSet
import Derived.Orders
import Derived.WalkLawsBesides
import Derived.WalkSpells
import Derived.WideKeyPair
import Derived.DeepKeys4
import Derived.Outline
import Derived.Maps.Keyed
import Derived.WideKeyEntry
import Derived.Deep.OwnRows
import Derived.WalkSmall
import Derived.Laws.BitsAllLaws
import Derived.Laws.Bits64
import Derived.Deep.RegionHeld3
import Derived.BigRegion
open Go.Proofs.Tryz
open List(all_eq_true mem_cons not_mem_nil)
open Nat(add_comm le_refl succ_mul zero_add)
namespace Go.Proofs.YtjpbngiddjkjiaaGreatDoor.Ta
set_option maxRecDepth 100000
set_option linter.unusedVariables false
section
open Go.RowKit Go.Lib
structure RowT(α:Type) where
 enc:α->List Value
 k:Nat
 et:TypeId
 st:TypeId
 z:Value
 nb:Nat
 kpos:0<k
 len:∀x,(enc x).length=k
 one:∀x,∀u∈enc x,u.oneCell'=true
 und:prog.underlying st=some (.slice et)
 info:∃i,prog.info? et=some i/\i.zero=some z/\i.size=k/\i.bytes=nb
 zs:z.cells.size=k
 small:nb<=1000
section
variable {α:Type}{R:RowT α}{w w':World}{a:Option Addr}{cap base:Nat}{d c:List α}{v:Value}
def RowT.flat(R:RowT α)(d:List α):List Value:=d.flatMap R.enc
theorem flat_nil(R:RowT α):R.flat []=[]:=rfl
theorem flat_cons(x:α)(d:List α):R.flat (x::d)=R.enc x++R.flat d:=rfl
theorem flat_append(c d:List α):R.flat (c++d)=R.flat c++R.flat d:=by simp[RowT.flat]
theorem flat_len(d:List α):(R.flat d).length=d.length*R.k:=by
 induction d with
 | nil=>simp[RowT.flat]
 | cons x d ih=>rw[flat_cons,List.length_append,ih,R.len,List.length_cons,succ_mul];omega
theorem flat_one(d:List α):∀u∈R.flat d,u.oneCell'=true:=by
 intro u hu;obtain⟨x,_,h⟩:=List.mem_flatMap.1 hu;exact R.one x u h
theorem flat_at(d:List α):∀(i:Nat)(x:α),d[i]?=some x->∀j u,(R.enc x)[j]?=some u->(R.flat d)[i*R.k+j]?=some u:=by
 induction d with
 | nil=>intro i x h;simp at h
 | cons y d ih=>
  intro i x h j u hu
  cases i with
  | zero=>
   simp at h;subst h
   have:=(List.getElem?_eq_some_iff.1 hu).1;rw[flat_cons,Nat.zero_mul,zero_add,List.getElem?_append_left this,hu]
  | succ i=>
   have:=ih i x (by simpa using h) j u hu;rw[flat_cons,List.getElem?_append_right (by rw[R.len,succ_mul];omega),R.len,<-this];congr 1;rw[succ_mul];omega
structure IsG(R:RowT α)(w:World)(a:Option Addr)(cap:Nat)(d:List α):Prop where
 le:d.length<=cap
 big:cap<=maxLen
 elem:∀j u,(R.flat d)[j]?=some u->∃b off,a=some ⟨b,off,none⟩/\b<w.heap.size/\w.cell? ⟨b,off+j,none⟩=some u
theorem IsG.nil(R:RowT α)(w:World):IsG R w none 0 []:=⟨by simp,by simp,fun i x h=>by simp[flat_nil] at h⟩
theorem IsG.below(h:IsG R w a cap d)(hw:Below w.heap.size w w'):IsG R w' a cap d:=
 ⟨h.le,h.big,fun j u hu=>by
  obtain⟨b,off,e,hb,h1⟩:=h.elem j u hu;exact⟨b,off,e,by have:=hw.size;omega,(hw.cell (p:=⟨b,off+j,none⟩) hb).trans h1⟩⟩
theorem IsG.len(h:IsG R w a cap d):d.length<=9223372036854775807:=by
 have h1:=h.le;have h2:=h.big;unfold maxLen at h2;omega
theorem IsG.at(h:IsG R w a cap d){i:Nat}{x:α}(hi:d[i]?=some x):∃b off,a=some ⟨b,off,none⟩/\b<w.heap.size/\∀j u,(R.enc x)[j]?=some u->w.cell? ⟨b,off+(i*R.k+j),none⟩=some u:=by
 have h0:0<(R.enc x).length:=by rw[R.len];exact R.kpos
 obtain⟨b,off,e,hb,_⟩:=h.elem _ _ (flat_at d i x hi 0 _ (List.getElem?_eq_getElem h0));refine⟨b,off,e,hb,fun j u hu=>?_⟩;obtain⟨b',off',e',_,hc⟩:=h.elem _ _ (flat_at d i x hi j u hu);rw[e] at e'
 cases e'
 exact hc
def OwnG(R:RowT α)(w:World)(base:Nat)(v:Value)(d:List α):Prop:=w.ownsRow base R.et R.k v d.length (R.flat d)
theorem OwnG.nil(R:RowT α)(w:World)(base:Nat):OwnG R w base (.slice none 0 0) []:=World.ownsRow_nil w base _ _
theorem OwnG.isG(h:OwnG R w base v d):∃a cap,v=.slice a d.length cap/\IsG R w a cap d:=by
 obtain⟨h1,h2⟩:=h;rcases h2 with⟨rfl,h0⟩|⟨g,cap,cur,rfl,hb,hg,hn,hc,hs,ht⟩
 ·obtain rfl:d=[]:=List.length_eq_zero_iff.1 h0;exact⟨none,0,rfl,IsG.nil R w⟩
 ·have own:OwnG R w base (.slice (some ⟨g,0,none⟩) d.length cap) d:=⟨h1,.inr ⟨g,cap,cur,rfl,hb,hg,hn,hc,hs,ht⟩⟩;refine⟨some ⟨g,0,none⟩,cap,rfl,hn,hc,fun j u hu=>?_⟩;have hj:=(List.getElem?_eq_some_iff.1 hu).1;rw[flat_len] at hj;refine⟨g,0,rfl,lt_of_block hg,?_⟩;rw[zero_add,World.ownsRow.cellAt own j hj,hu]
theorem OwnG.made(w:World)(cur:Array Value)(cap:Nat)(hb:base<=w.heap.size)(hm:cap<=maxLen)(hs:cur.size=cap*R.k):OwnG R (w.alloc (.cells cur R.et)) base (.slice (some ⟨w.heap.size,0,none⟩) 0 cap) []:=
 World.ownsRow_made w cur cap hb hm hs
theorem OwnG.low(h:OwnG R w base v d){b':Nat}(hb:b'<=base):OwnG R w b' v d:=by
 obtain⟨h1,h2⟩:=h;refine⟨h1,?_⟩;rcases h2 with h2|⟨g,cap,cur,r1,r2,r3⟩
 ·exact .inl h2
 ·exact .inr ⟨g,cap,cur,r1,by omega,r3⟩
theorem OwnG.below(h:OwnG R w base v d)(hw:Below w.heap.size w w'):OwnG R w' base v d:=by
 obtain⟨h1,h2⟩:=h;refine⟨h1,?_⟩;rcases h2 with h2|⟨g,cap,cur,r1,r2,r3,r4⟩
 ·exact .inl h2
 ·exact .inr ⟨g,cap,cur,r1,r2,(hw.block g (lt_of_block r3)).trans r3,r4⟩
theorem bel1(w:World)(o:Obj):Below w.heap.size w (w.alloc o):=(Below.refl _ _).alloc (le_refl _) _
theorem alloc_sz(w:World)(o:Obj):(w.alloc o).heap.size=w.heap.size+1:=by unfold World.alloc;simp
theorem Below.tr{u v w:World}(h:Below u.heap.size u v)(k:Below v.heap.size v w):Below u.heap.size u w:=h.trans (k.mono h.size)
theorem cell_fresh(w:World)(cs:Array Value)(t:TypeId)(j:Nat):(w.alloc (.cells cs t)).cell? ⟨w.heap.size,j,none⟩=cs[j]?:=cell_of_row _ _ _ cs t (0,0) (heap_alloc_new w _)
end
end
section
open Go.RowKit Go.Lib
abbrev wfI(a:Int):Prop:=(Lit.int .i64 a).wf=true
theorem wfI_of{a:Int}(h1 : -9223372036854775808<=a)(h2:a<=9223372036854775807):wfI a:=by
 unfold wfI;simp[Lit.wf,IntKind.min,IntKind.max,IntKind.bits,IntKind.signed];omega
structure Fr(X:Nat->Prop)(w w':World):Prop where
 os:w'.os=w.os
 tape:w'.tape=w.tape
 output:w'.output=w.output
 size:w.heap.size<=w'.heap.size
 block:∀k,k<w.heap.size->¬X k->w'.heap[k]?=w.heap[k]?
theorem Fr.refl(X:Nat->Prop)(w:World):Fr X w w:=⟨rfl,rfl,rfl,le_refl _,fun _ _ _=>rfl⟩
theorem Fr.trans{X Y:Nat->Prop}{u v w:World}(h:Fr X u v)(k:Fr Y v w)(hY:∀j,Y j->X j\/u.heap.size<=j):Fr X u w:=
 ⟨k.os.trans h.os,k.tape.trans h.tape,k.output.trans h.output,Nat.le_trans h.size k.size,fun j hj hx=>(k.block j (Nat.lt_of_lt_of_le hj h.size) (fun hy=>by rcases hY j hy with hy|hy;exact hx hy;omega)).trans (h.block j hj hx)⟩
theorem Fr.mono{X Y:Nat->Prop}{w w':World}(h:Fr X w w')(hxy:∀j,X j->Y j):Fr Y w w':=⟨h.os,h.tape,h.output,h.size,fun j hj hy=>h.block j hj (fun hx=>hy (hxy j hx))⟩
theorem Fr.of_grown{row:Option Nat}{w w':World}(h:w.grownBy w' row):Fr (fun k=>row=some k) w w':=⟨h.os,h.tape,h.output,h.size,fun j hj hx=>h.block j hj (fun e=>hx e.symm)⟩
theorem Fr.below{X:Nat->Prop}{w w':World}(h:Below w.heap.size w w'):Fr X w w':=⟨h.os,h.tape,h.output,h.size,fun j hj _=>h.block j hj⟩
theorem Fr.toBelow{X:Nat->Prop}{w w':World}(h:Fr X w w'){b:Nat}(hb:∀k,X k->b<=k)(hw:b<=w.heap.size):Below b w w':=⟨h.os,h.tape,h.output,h.size,fun j hj=>h.block j (by omega) (fun hx=>by have:=hb j hx;omega)⟩
theorem Fr.setCell(X:Nat->Prop)(w:World)(B k:Nat)(v:Value)(hB:X B):Fr X w (w.setCell ⟨B,k,none⟩ v):=⟨rfl,rfl,rfl,by simp,fun j _ hj=>heap_setCell_other _ _ j _ (fun e=>hj (by rw[e];exact hB))⟩
theorem Fr.drew{X:Nat->Prop}{w w':World}(h:Fr X w w'):Fr X w w'.drew:=⟨h.os,h.tape,h.output,h.size,h.block⟩
variable {w w':World}{a:Option Addr}{cap base:Nat}{d c:List Int}{v:Value}
end
section
open Go.Maps (Keyed)
section
variable {P:Program}{ops:Array Oper}{Q:Exit->Act->World->Prop}{H:Type}
def litOk(ops:Array Oper)(J:List Nat)(m:Nat):Bool:=
 decide (m<=ops.size)&&(J.all fun j=>decide (j<m)&&match ops[j]? with
  | some o=>o.guard.isNone&&o.dst.isNone&&o.after.toList.all (fun e=>decide (e.on<m)&&!J.contains e.on)
  | none=>false) &&
 (List.range ops.size).all fun j=>decide (j<m)||match ops[j]? with
  | some o=>J.all fun r=>o.after.toList.any fun e=>Region.binds .any e&&(e.on==r||decide (m<=e.on))
  | none=>false
theorem has_put_iff{D:DataW H}(hD:Maps.IsMap D){k:Lit}(hk:WideAt.IsKeyLit k)(d:DataW H)(kl:Lit) :
  Maps.has (D.put k d) kl=true↔Maps.has D kl=true\/k=kl:=by
 by_cases h:kl=k
 ·subst h;simp[Maps.has_put_same hD hk d]
 ·rw[Maps.has_put_other h d];constructor
  ·exact Or.inl
  ·rintro(h1|h1)
   ·exact h1
   ·exact absurd h1.symm h
theorem getD_false{l:Array Bool}{j:Nat}(h:l.getD j false=true):l.getD j true=true/\j<l.size:=by
 by_cases hj:j<l.size
 ·simp[hj] at h⊢;exact h
 ·simp[hj] at h
theorem listed_eq{L M:Array Bool}(hs:L.size=M.size)(h:∀j,L.getD j true=false↔M.getD j true=false):L=M:=by
 refine Array.ext hs fun i h1 h2=>?_;have:=h i;simp[h1,h2] at this
 cases hL:L[i]<;>cases hM:M[i]<;>simp[hL,hM] at this⊢
theorem wpAny_fill{t K E:TypeId}(law:Keyed P K)(ht:P.underlying t=some (.map K E)){R:Value->Option (DataW H×List MemPlace)}{B:Nat}{a:Act}{J:List Nat}{m:Nat}(hok:litOk ops J m=true)
  (key:Nat->Lit)
  (hop:∀j∈J,∃o x kx vx d ps,ops[j]?=some o/\o.op=Op.insert t x kx vx/\a.eval x=.map (some B)/\keyOf P K (a.eval kx)=some (key j)/\R (a.eval vx)=some (d,ps))
  (fuelEnd:Nat) :
  ∀(n:Nat)(rem:List Nat)(listed:Array Bool)(w:World)(c:Nat)(D:DataW H),rem.length=n->(∀j∈rem,j∈J)->rem.Nodup->listed.size=ops.size->
   (∀j,listed.getD j true=false↔(j∈rem\/(m<=j/\j<ops.size)))->w.ownsMap P K R B c D->c+n<maxLen->
   (∀(L:Array Bool)(w':World)(D':DataW H),L.size=ops.size->(∀j,L.getD j true=false↔(m<=j/\j<ops.size))->w'.ownsMap P K R B (c+n) D'->
    (∀kl,Maps.has D' kl=true↔Maps.has D kl=true\/∃j∈rem,key j=kl)->w.grownBy w' (some B)->wpAny P .any ops Q fuelEnd L a w')->
   wpAny P .any ops Q (fuelEnd+n) listed a w:=by
 simp only[litOk,Bool.and_eq_true,decide_eq_true_eq,all_eq_true,List.mem_range,Bool.or_eq_true] at hok;obtain⟨⟨hm,hJ⟩,hend⟩:=hok;intro n
 induction n with
 | zero=>
  intro rem listed w c D hn hsub hnd hsz hl hown hc hfin;have hr:rem=[]:=List.length_eq_zero_iff.1 hn;subst hr;exact hfin listed w D hsz (fun j=>by rw[hl j];simp) hown (fun kl=>by simp) (World.grownBy.refl _ _)
 | succ n ih=>
  intro rem listed w c D hn hsub hnd hsz hl hown hc hfin
  have inRem:∀i∈Region.ready .any ops listed,i∈rem:=by
   intro i hi;obtain⟨h0,o,ho,hall⟩:=mem_ready.1 hi;rcases (hl i).1 h0 with h|⟨h1,h2⟩
   ·exact h
   ·exfalso
    have h3:=hend i h2;rcases h3 with h3|h3
    ·omega
    ·rw[ho] at h3
     obtain⟨r,hr⟩:∃r,r∈rem:=by
      cases rem with
      | nil=>simp at hn
      | cons r _=>exact⟨r,List.mem_cons_self⟩
     simp only[all_eq_true] at h3;have h4:=h3 r (hsub r hr);simp only[List.any_eq_true,Bool.and_eq_true,Bool.or_eq_true,beq_iff_eq,decide_eq_true_eq] at h4;obtain⟨e,he,hb,h5⟩:=h4;have h6:=getD_false (hall e (Array.mem_toList_iff.1 he) hb)
     have h7:listed.getD e.on true=false:=(hl e.on).2 (by
      rcases h5 with h5|h5
      ·rw[h5];exact Or.inl hr
      ·exact Or.inr ⟨h5,by rw[<-hsz];exact h6.2⟩)
     rw[h7] at h6
     cases h6.1
  refine⟨fun hnil=>?_,fun i hi=>?_⟩
  ·exfalso
   obtain⟨r,hr⟩:∃r,r∈rem:=by
    cases rem with
    | nil=>simp at hn
    | cons r _=>exact⟨r,List.mem_cons_self⟩
   obtain⟨hrm,hro⟩:=hJ r (hsub r hr);obtain⟨o,x,kx,vx,d,ps,ho,_⟩:=hop r (hsub r hr);rw[ho] at hro;simp only[Bool.and_eq_true,all_eq_true,decide_eq_true_eq,Bool.not_eq_true',<-Bool.not_eq_true,List.contains_iff_mem] at hro
   have:r∈Region.ready .any ops listed:=mem_ready.2 ⟨(hl r).2 (Or.inl hr),o,ho,fun e he _=>by
    obtain⟨h1,h2⟩:=hro.2 e (Array.mem_toList_iff.2 he)
    have h3:¬listed.getD e.on true=false:=fun hh=>by
     rcases (hl e.on).1 hh with h|h
     ·exact h2 (hsub _ h)
     ·omega
    have h4:e.on<listed.size:=by rw[hsz];omega
    simp[h4] at h3⊢;exact h3⟩
   rw[hnil] at this
   cases this
  ·have hir:=inRem i hi;obtain⟨o,x,kx,vx,d,ps,ho,hoi,hx,hk,hv⟩:=hop i (hsub i hir);obtain⟨hrm,hro⟩:=hJ i (hsub i hir);rw[ho] at hro;simp only[Bool.and_eq_true,Option.isNone_iff_eq_none] at hro;obtain⟨⟨hg,hd⟩,_⟩:=hro;obtain⟨w1,hrun,hown1,hturn⟩:=hown.store law ht (by omega) hk hv;unfold wpOp;simp only[ho];rw[if_pos (by simp[Region.wanted,hg])];refine Or.inl ?_;unfold Oper.wp;simp[execOp,hoi,hx,hrun,Result.andThen];rw[Oper.upon_skip,hd];show wpAny P .any ops Q (fuelEnd+n) (listed.setIfInBounds i true) a w1;have hlen:(rem.erase i).length=n:=by rw[List.length_erase_of_mem hir,hn];rfl
   refine ih (rem.erase i) _ w1 (c+1) (D.put (key i) d) hlen (fun j hj=>hsub j (List.mem_of_mem_erase hj)) (hnd.erase i) (by simp[hsz]) ?_ hown1 (by omega) ?_
   ·intro j;by_cases hji:i=j
    ·subst hji;have hlt:i<listed.size:=by rw[hsz];omega
     simp[hlt,hnd.mem_erase_iff];omega
    ·rw[getD_set_ne true hji,hl j,hnd.mem_erase_iff];constructor
     ·rintro(h|h)
      ·exact Or.inl ⟨fun e=>hji e.symm,h⟩
      ·exact Or.inr h
     ·rintro(h|h)
      ·exact Or.inl h.2
      ·exact Or.inr h
   ·intro L w' D' hL1 hL2 hown' hhas hgr;refine hfin L w' D' hL1 hL2 (by rw[show c+(n+1)=c+1+n by omega];exact hown') (fun kl=>?_) (hturn.grown.trans hgr);rw[hhas kl,has_put_iff hown.isMap (law.key hk) d kl];constructor
    ·rintro((h|h)|⟨j,hj,h⟩)
     ·exact Or.inl h
     ·exact Or.inr ⟨i,hir,h⟩
     ·exact Or.inr ⟨j,List.mem_of_mem_erase hj,h⟩
    ·rintro(h|⟨j,hj,h⟩)
     ·exact Or.inl (Or.inl h)
     ·by_cases hji:j=i
      ·subst hji;exact Or.inl (Or.inr h)
      ·exact Or.inr ⟨j,(hnd.mem_erase_iff).2 ⟨hji,hj⟩,h⟩
end
end
section
open Go.RowKit Go.WideMaps Go.Maps
theorem laidOut:laidOutB prog=true:=by kernel_rfl
theorem rowPair:(78:TypeId)<prog.types.size:=of_decide_eq_true (by kernel_rfl)
theorem widePair:(match prog.underlying 78 with|some (.array _ _)|some (.struct _)=>true|_=>false)=true:=by kernel_rfl
theorem lawPair:Keyed prog 78:=Keyed.of_law (deep_law_laid laidOut (m:=2) (by omega) rowPair (by kernel_rfl) widePair)
theorem cellsPair:prog.cellsOf 78=2:=by kernel_rfl
theorem arrPair:ArrKey prog 78 3 2:=⟨underlying78,by kernel_rfl,by kernel_rfl,cellsPair⟩
abbrev pairKey(a b:Int):Lit:=.string (keyBytes [.int .i64 a,.int .i64 b])
theorem key_pair{a b:Int}(wa:(Lit.int .i64 a).wf=true)(wb:(Lit.int .i64 b).wf=true):keyOf prog 78 (.agg #[.int .i64 a,.int .i64 b])=some (pairKey a b):=
 keyOf_pair arrPair underlying3 ⟨_,rfl⟩ wa wb
theorem undSteps:prog.underlying 240=some (.map 78 238):=underlying240
def pairAt:Nat->Int×Int
 | 3=>(0,1)|6=>(0,2)|9=>(0,6)|12=>(1,2)|15=>(1,6)|18=>(2,3)|21=>(2,6)|24=>(3,1)|27=>(3,4)|_=>(3,5)
def places:List Nat:=[3,6,9,12,15,18,21,24,27,30]
def listedA:Array Bool:=#[true,true,true,false,true,true,false,true,true,false,true,true,false,true,true,false,true,true,false,true,true,false,true,true,false,true,true,false,true,true,false,false,false]
def listedB:Array Bool:=#[true,true,true,true,true,true,true,true,true,true,true,true,true,true,true,true,true,true,true,true,true,true,true,true,true,true,true,true,true,true,true,false,false]
theorem getD_out{L:Array Bool}{j:Nat}(h:L.size<=j):L.getD j true=true:=by
 simp[Nat.not_lt.2 h]
theorem steps_any(w:World):Calls prog 142 #[] w fun e w'=>e=.returned (.map (some w.heap.size))/\Below w.heap.size w w'/\
  ∃D,w'.ownsMap prog 78 (unitElem (H:=Unit)) w.heap.size 10 D/\∀kl,Maps.has D kl=true↔∃j∈places,pairKey (pairAt j).1 (pairAt j).2=kl:=by
 have hmm:=@run_makeMap prog;go_enter func142,ntmps142
 go_wp2
 refine wp_region_any (by kernel_rfl) ?_;refine wpAny_take (i:=1) (v:=.agg #[.int .i64 0,.int .i64 1]) rfl (by kernel_rfl) (by kernel_rfl) (by kernel_rfl) (fun _ _ _ h=>h) (Or.inl ⟨by rfl,fun _=>by kernel_rfl⟩) ?_;refine wpAny_take (i:=2) (v:=.agg #[]) rfl (by kernel_rfl) (by kernel_rfl) (by kernel_rfl) (fun _ _ _ h=>h) (Or.inl ⟨by rfl,fun _=>by kernel_rfl⟩) ?_;refine wpAny_take (i:=4) (v:=.agg #[.int .i64 0,.int .i64 2]) rfl (by kernel_rfl) (by kernel_rfl) (by kernel_rfl) (fun _ _ _ h=>h) (Or.inl ⟨by rfl,fun _=>by kernel_rfl⟩) ?_;refine wpAny_take (i:=5) (v:=.agg #[]) rfl (by kernel_rfl) (by kernel_rfl) (by kernel_rfl) (fun _ _ _ h=>h) (Or.inl ⟨by rfl,fun _=>by kernel_rfl⟩) ?_;refine wpAny_take (i:=7) (v:=.agg #[.int .i64 0,.int .i64 6]) rfl (by kernel_rfl) (by kernel_rfl) (by kernel_rfl) (fun _ _ _ h=>h) (Or.inl ⟨by rfl,fun _=>by kernel_rfl⟩) ?_;refine wpAny_take (i:=8) (v:=.agg #[]) rfl (by kernel_rfl) (by kernel_rfl) (by kernel_rfl) (fun _ _ _ h=>h) (Or.inl ⟨by rfl,fun _=>by kernel_rfl⟩) ?_;refine wpAny_take (i:=10) (v:=.agg #[.int .i64 1,.int .i64 2]) rfl (by kernel_rfl) (by kernel_rfl) (by kernel_rfl) (fun _ _ _ h=>h) (Or.inl ⟨by rfl,fun _=>by kernel_rfl⟩) ?_;refine wpAny_take (i:=11) (v:=.agg #[]) rfl (by kernel_rfl) (by kernel_rfl) (by kernel_rfl) (fun _ _ _ h=>h) (Or.inl ⟨by rfl,fun _=>by kernel_rfl⟩) ?_;refine wpAny_take (i:=13) (v:=.agg #[.int .i64 1,.int .i64 6]) rfl (by kernel_rfl) (by kernel_rfl) (by kernel_rfl) (fun _ _ _ h=>h) (Or.inl ⟨by rfl,fun _=>by kernel_rfl⟩) ?_;refine wpAny_take (i:=14) (v:=.agg #[]) rfl (by kernel_rfl) (by kernel_rfl) (by kernel_rfl) (fun _ _ _ h=>h) (Or.inl ⟨by rfl,fun _=>by kernel_rfl⟩) ?_;refine wpAny_take (i:=16) (v:=.agg #[.int .i64 2,.int .i64 3]) rfl (by kernel_rfl) (by kernel_rfl) (by kernel_rfl) (fun _ _ _ h=>h) (Or.inl ⟨by rfl,fun _=>by kernel_rfl⟩) ?_;refine wpAny_take (i:=17) (v:=.agg #[]) rfl (by kernel_rfl) (by kernel_rfl) (by kernel_rfl) (fun _ _ _ h=>h) (Or.inl ⟨by rfl,fun _=>by kernel_rfl⟩) ?_;refine wpAny_take (i:=19) (v:=.agg #[.int .i64 2,.int .i64 6]) rfl (by kernel_rfl) (by kernel_rfl) (by kernel_rfl) (fun _ _ _ h=>h) (Or.inl ⟨by rfl,fun _=>by kernel_rfl⟩) ?_;refine wpAny_take (i:=20) (v:=.agg #[]) rfl (by kernel_rfl) (by kernel_rfl) (by kernel_rfl) (fun _ _ _ h=>h) (Or.inl ⟨by rfl,fun _=>by kernel_rfl⟩) ?_;refine wpAny_take (i:=22) (v:=.agg #[.int .i64 3,.int .i64 1]) rfl (by kernel_rfl) (by kernel_rfl) (by kernel_rfl) (fun _ _ _ h=>h) (Or.inl ⟨by rfl,fun _=>by kernel_rfl⟩) ?_;refine wpAny_take (i:=23) (v:=.agg #[]) rfl (by kernel_rfl) (by kernel_rfl) (by kernel_rfl) (fun _ _ _ h=>h) (Or.inl ⟨by rfl,fun _=>by kernel_rfl⟩) ?_;refine wpAny_take (i:=25) (v:=.agg #[.int .i64 3,.int .i64 4]) rfl (by kernel_rfl) (by kernel_rfl) (by kernel_rfl) (fun _ _ _ h=>h) (Or.inl ⟨by rfl,fun _=>by kernel_rfl⟩) ?_;refine wpAny_take (i:=26) (v:=.agg #[]) rfl (by kernel_rfl) (by kernel_rfl) (by kernel_rfl) (fun _ _ _ h=>h) (Or.inl ⟨by rfl,fun _=>by kernel_rfl⟩) ?_;refine wpAny_take (i:=28) (v:=.agg #[.int .i64 3,.int .i64 5]) rfl (by kernel_rfl) (by kernel_rfl) (by kernel_rfl) (fun _ _ _ h=>h) (Or.inl ⟨by rfl,fun _=>by kernel_rfl⟩) ?_;refine wpAny_take (i:=29) (v:=.agg #[]) rfl (by kernel_rfl) (by kernel_rfl) (by kernel_rfl) (fun _ _ _ h=>h) (Or.inl ⟨by rfl,fun _=>by kernel_rfl⟩) ?_;refine wpAny_all (rs:=[0]) (by kernel_rfl) (by simp) (fun i hi=>?_);obtain rfl:i=0:=by simpa using hi
 refine wpOp_step rfl (fun K hK=>?_);go_simp
 refine hK _ _ ?_;clear hK K;show wpAny prog .any _ _ (2+10) listedA _ _;refine wpAny_fill (H:=Unit) (t:=240) (K:=78) (E:=238) lawPair underlying240 (R:=unitElem) (B:=w.heap.size) (J:=places) (m:=31) (by kernel_rfl) (fun j=>pairKey (pairAt j).1 (pairAt j).2) ?hop 2 10 places _ _ 0 (.map []) rfl (fun _ h=>h) (by decide) rfl ?hl (World.ownsMap_made _ _ _ _) (by decide) ?fin
 case hop=>
  intro j hj;simp only[places,mem_cons,not_mem_nil,or_false] at hj;rcases hj with rfl|rfl|rfl|rfl|rfl|rfl|rfl|rfl|rfl|rfl
  all_goals exact⟨_,_,_,_,_,_,rfl,rfl,rfl,key_pair (by decide) (by decide),unitElem_mk⟩
 case hl=>
  intro j;by_cases hj:j<33
  ·have h:∀j,j<33->(listedA.getD j true=false↔(j∈places\/(31<=j/\j<33))):=by decide +kernel
   exact h j hj
  ·constructor
   ·intro h;exact absurd h (by rw[getD_out (by exact Nat.le_of_not_lt hj)];simp)
   ·rintro(h|h)
    ·simp only[places,mem_cons,not_mem_nil,or_false] at h;omega
    ·exact absurd h.2 hj
 case fin=>
  intro L w' D hL1 hL2 hown hhas hgr;have hb:Below w.heap.size w w':=(((Below.refl w.heap.size w).alloc (le_refl _) (.map #[] 0)).drew).grown hgr (by simp) (fun j hj=>by cases hj;exact le_refl _)
  obtain rfl:L=listedB:=listed_eq hL1 (fun j=>by
   rw[hL2 j];by_cases hj:j<33
   ·have h:∀j,j<33->((31<=j/\j<33)↔listedB.getD j true=false):=by decide +kernel
    exact h j hj
   ·constructor
    ·intro h;exact absurd h.2 hj
    ·intro h;exact absurd h (by rw[getD_out (by exact Nat.le_of_not_lt hj)];simp))
  clear hL1 hL2 hgr hmm;refine wpAny_take (i:=31) (v:=.map (some w.heap.size)) rfl (by kernel_rfl) (by kernel_rfl) (by kernel_rfl) (fun _ _ _ h=>h) (Or.inl ⟨by rfl,fun _=>rfl⟩) ?_;refine wpAny_take (i:=32) (v:=.map (some w.heap.size)) rfl (by kernel_rfl) (by kernel_rfl) (by kernel_rfl) (fun _ _ _ h=>h) (Or.inl ⟨by rfl,fun _=>rfl⟩) ?_;refine wpAny_done (by kernel_rfl) ?_ _
  go_wp2
  go_ret;exact⟨rfl,hb,D,hown,fun kl=>by rw[hhas kl];simp[Maps.has]⟩
end
section
open Go.RowKit Go.Lib Go.WideMaps Go.Maps
def heldR(v:Value):Option (DataW Value×List MemPlace):=some (.held v,[])
structure KeyT(κ:Type)(kt:TypeId) where
 ek:κ->Value
 ok:κ->Prop
 lk:κ->Lit
 K:Keyed prog kt
 key:∀x,ok x->keyOf prog kt (ek x)=some (lk x)
 inj:∀x y,ek x=ek y->x=y
section
variable {κ:Type}{kt t e:TypeId}{k:KeyT κ kt}{w w':World}{M n:Nat}{f:κ->Option Value}{x:κ}{z:Value}
theorem KeyT.lk_is(k:KeyT κ kt)(h:k.ok x):keyOf prog kt (k.ek x)=some (k.lk x):=k.key x h
theorem KeyT.lk_ne(k:KeyT κ kt){x y:κ}(hx:k.ok x)(hy:k.ok y)(h:x≠y):k.lk x≠k.lk y:=fun e=>h (k.inj x y (k.K.inj (k.lk_is hx) (by rw[k.lk_is hy,e])))
def fput [DecidableEq κ] (f:κ->Option Value) (i:κ) (v:Value):κ->Option Value:=fun a=>if a=i then some v else f a
def MapG(k:KeyT κ kt)(w:World)(M:Nat)(f:κ->Option Value)(n:Nat):Prop:=
 ∃D:DataW Value,w.ownsMap prog kt heldR M n D/\Maps.size D=n/\(∃ks:List κ,ks.Nodup/\ks.length=n/\∀x,x∈ks↔(f x).isSome=true)/\(∀x v,f x=some v->k.ok x)/\
  ∀x,k.ok x->Maps.has D (k.lk x)=(f x).isSome/\∀v,f x=some v->∀z,D.atKey (k.lk x) z=.held v
theorem own_tight{D:DataW Value}(h:w.ownsMap prog kt heldR M n D):w.ownsMap prog kt heldR M (Maps.size D) D:=by
 obtain⟨es,cl,h1,h2,h3,rfl⟩:=h;exact⟨es,cl,h1,h2,by simp[Maps.size,length_sorted],rfl⟩
theorem MapG.lt(h:MapG k w M f n):M<w.heap.size:=by
 obtain⟨D,h1,_⟩:=h;exact h1.lt
theorem MapG.isMap(h:MapG k w M f n):∃es c,w.heap[M]?=some (.map es c):=by
 obtain⟨D,⟨es,c,hb,_⟩,_⟩:=h;exact⟨es,c,hb⟩
theorem MapG.of_block(h:MapG k w M f n)(e:w'.heap[M]?=w.heap[M]?):MapG k w' M f n:=by
 obtain⟨D,⟨es,c,hb,r⟩,h3⟩:=h;exact⟨D,⟨es,c,e.trans hb,r⟩,h3⟩
theorem MapG.keys(h:MapG k w M f n):∃ks:List κ,ks.Nodup/\ks.length=n/\∀x,x∈ks↔(f x).isSome=true:=by
 obtain⟨D,_,_,h3,_⟩:=h;exact h3
theorem MapG.made(k:KeyT κ kt)(w:World):MapG k (w.alloc (.map #[] 0)) w.heap.size (fun _=>none) 0:=
 ⟨.map [],World.ownsMap_made w _ _ _,rfl,⟨[],List.nodup_nil,rfl,fun x=>by simp⟩,fun x v h=>(by cases h),fun i _=>⟨rfl,fun v hv=>by cases hv⟩⟩
theorem MapG.look(h:MapG k w M f n)(ht:prog.underlying t=some (.map kt e))(hz:(zeroValue e).run prog w=.ok z w)(hx:k.ok x) :
  (Instr.lookup t (.map (some M)) (k.ek x) false).run prog w=.ok ((f x).getD z) w:=by
 obtain⟨D,h1,h2,_,_,h3⟩:=h;obtain⟨v',ps,hr,hv'⟩:=h1.lookup k.K ht hz (zd:=.held z) (zp:=[]) rfl (k.lk_is hx);rw[hr];unfold heldR at hv';simp only[Option.some.injEq,Prod.mk.injEq] at hv';obtain⟨q1,q2⟩:=h3 x hx
 cases hf:f x with
 | none=>
  rw[hf] at q1;rw[Maps.atKey_of_not_has q1] at hv';injection hv'.1 with e
  rw[e];rfl
 | some u=>
  rw[q2 u hf] at hv';injection hv'.1 with e
  rw[e];rfl
theorem MapG.store [DecidableEq κ] (h:MapG k w M f n) (ht:prog.underlying t=some (.map kt e)) (hn:n<=1000000) (hx:k.ok x) (v:Value) :
  ∃w' m,(Instr.mapUpdate t (.map (some M)) (k.ek x) v).run prog w=.ok () w'/\MapG k w' M (fput f x v) m/\m=(if (f x).isSome=true then n else n+1)/\w.grownBy w' (some M):=by
 obtain⟨D,h1,h2,⟨ks,k1,k2,k3⟩,h4,h3⟩:=h;obtain⟨w',hr,ho,hm⟩:=h1.store k.K ht (by unfold maxLen;omega) (k.lk_is hx) (val:=v) (d:=.held v) (ps:=[]) rfl;have hk:=k.K.key (k.lk_is hx)
 have hsz:Maps.size (D.put (k.lk x) (.held v))=if (f x).isSome then n else n+1:=by
  rw[Maps.size_put (h1.tidy k.K),(h3 x hx).1,h2]
 refine⟨w',_,hr,⟨_,by have:=own_tight ho;rw[hsz] at this;exact this,hsz,?_,fun y u hy=>?_,fun y hy=>?_⟩,rfl,hm.grown⟩
 ·cases hf:(f x).isSome with
  | true=>
   refine⟨ks,k1,by simp[k2],fun y=>?_⟩;rw[k3];unfold fput;by_cases c:y=x
   ·subst c;simp[hf]
   ·rw[if_neg c]
  | false=>
   refine⟨x::ks,List.nodup_cons.2 ⟨fun hm=>(by rw[k3,hf] at hm;cases hm),k1⟩,by simp[k2],fun y=>?_⟩;rw[mem_cons,k3];unfold fput;by_cases c:y=x
   ·subst c;simp
   ·rw[if_neg c];simp[c]
 ·unfold fput at hy;by_cases c:y=x
  ·subst c;exact hx
  ·rw[if_neg c] at hy;exact h4 y u hy
 ·by_cases c:y=x
  ·subst c;refine⟨by rw[Maps.has_put_same h1.isMap hk];simp[fput],fun u hu z=>?_⟩;rw[Maps.atKey_put_same h1.isMap hk];simp[fput] at hu;rw[hu]
  ·have ne:=k.lk_ne hy hx c;rw[Maps.has_put_other ne];have:fput f x v y=f y:=by unfold fput;rw[if_neg c]
   rw[this];refine⟨(h3 y hy).1,fun u hu z=>?_⟩;rw[Maps.atKey_put_other ne];exact(h3 y hy).2 u hu z
end
theorem keyedP:Keyed prog 78:=Keyed.of_law (deep_law_laid laidOut (m:=2) (by omega) (of_decide_eq_true (by kernel_rfl)) (by kernel_rfl) (by kernel_rfl))
def prV(p:Int×Int):Value:=.agg #[.int .i64 p.1,.int .i64 p.2]
theorem prV_key(a b:Int)(ha:wfI a)(hb:wfI b):keyOf prog 78 (prV (a,b))=some (.string (keyBytes [.int .i64 a,.int .i64 b])):=by
 have k1:prog.keyType 78=true:=by kernel_rfl
 have k2:(prV (a,b)).formed prog 78=true:=by kernel_rfl
 have lit:∀(d:Nat)(x:Int),wfI x->prog.keyLits (d+1) 3 [.int .i64 x]=some [.int .i64 x]:=fun d x hx=>by
  unfold Program.keyLits;rw[underlying3];show(if _ then _ else _)=_;rw[if_pos ⟨rfl,hx⟩]
 have c1:prog.cellsOf 3=1:=by kernel_rfl
 have c2:prog.cellsOf 78=2:=by kernel_rfl
 have lits:∀d,prog.keyLits (d+2) 78 [.int .i64 a,.int .i64 b]=some [.int .i64 a,.int .i64 b]:=fun d=>by
  rw[Program.keyLits.eq_def];simp only[underlying78,c1,c2];have r2:List.range 2=[0,1]:=by decide
  simp[r2,lit d a ha,lit d b hb]
 unfold keyOf;rw[underlying78];simp only[k1,k2,Bool.and_self,if_true];obtain⟨q,hq⟩:∃q,prog.types.size+1=q+2:=⟨prog.types.size-1,by have:0<prog.types.size:=of_decide_eq_true (by kernel_rfl);omega⟩;rw[hq];rw[show(prV (a,b)).cells.toList=[.int .i64 a,.int .i64 b] from rfl,lits q]
 rfl
def keyP:KeyT (Int×Int) 78 where
 ek:=prV
 ok:=fun p=>wfI p.1/\wfI p.2
 lk:=fun p=>.string (keyBytes [.int .i64 p.1,.int .i64 p.2])
 K:=keyedP
 key:=fun x h=>prV_key x.1 x.2 h.1 h.2
 inj:=fun x y h=>by
  unfold prV at h;injection h with h
  simp at h;exact Prod.ext h.1 h.2
end
section
open Go.RowKit Go.Lib Go.WideMaps Go.Maps
structure TR where
 prio:Int
 due:Int
 key:Int
 oa:Option Addr
 on:Nat
 oc:Nat
 f:Int
 p:Int
 d:Int
 r:Int
 m:Int
 s:Int
def rT:RowT TR where
 enc:=fun x=>[.int .i64 x.prio,.int .u64 x.due,.int .u64 x.key,.slice x.oa x.on x.oc,.int .u64 x.f,.int .u64 x.p,.int .u64 x.d,.int .u64 x.r,.int .u64 x.m]
 k:=9
 et:=126
 st:=128
 z:=.agg #[.int .i64 0,.int .u64 0,.int .u64 0,.slice none 0 0,.int .u64 0,.int .u64 0,.int .u64 0,.int .u64 0,.int .u64 0]
 nb:=88
 kpos:=by decide
 len:=fun x=>rfl
 one:=fun x u hu=>by
  simp at hu;rcases hu with rfl|rfl|rfl|rfl|rfl|rfl|rfl|rfl|rfl<;>rfl
 und:=underlying128
 info:=by
  have h:(prog.info? 126).map (fun i=>(i.zero,i.size,i.bytes))=some (some (.agg #[.int .i64 0,.int .u64 0,.int .u64 0,.slice none 0 0,.int .u64 0,.int .u64 0,.int .u64 0,.int .u64 0,.int .u64 0]),9,88):=by kernel_rfl
  obtain⟨i,h1,h2⟩:=Option.map_eq_some_iff.1 h;simp at h2;exact⟨i,h1,h2.1,h2.2.1,h2.2.2⟩
 zs:=rfl
 small:=by decide
section
variable {α:Type}{R:RowT α}{w w':World}{a:Option Addr}{cap base:Nat}{d c:List α}{v:Value}
theorem flat_set(d:List α):∀(i:Nat)(x y:α)(j:Nat)(u:Value),d[i]?=some x->R.enc y=(R.enc x).set j u->j<R.k->R.flat (d.set i y)=(R.flat d).set (i*R.k+j) u:=by
 induction d with
 | nil=>intro i x y j u h;simp at h
 | cons z d ih=>
  intro i x y j u h he hj
  cases i with
  | zero=>
   simp at h;subst h
   rw[List.set_cons_zero,flat_cons,flat_cons,he,Nat.zero_mul,zero_add,List.set_append_left _ _ (by rw[R.len];exact hj)]
  | succ i=>
   have:=ih i x y j u (by simpa using h) he hj;rw[List.set_cons_succ,flat_cons,flat_cons,this,List.set_append_right _ _ (by rw[R.len,succ_mul];omega),R.len];congr 2;rw[succ_mul];omega
theorem OwnG.of_block(h:OwnG R w base v d)(hk:∀k,v.ownBlock=some k->w'.heap[k]?=w.heap[k]?):OwnG R w' base v d:=by
 obtain⟨h1,h2⟩:=h;refine⟨h1,?_⟩;rcases h2 with h2|⟨g,cap,cur,r1,r2,r3,r4⟩
 ·exact .inl h2
 ·exact .inr ⟨g,cap,cur,r1,r2,(hk g (by rw[r1];rfl)).trans r3,r4⟩
theorem OwnG.rowLt(h:OwnG R w base v d){k:Nat}(hk:v.ownBlock=some k):base<=k/\k<w.heap.size:=World.ownsRow.lt h k hk
theorem OwnG.rowT(h:OwnG R w base v d){k:Nat}(hk:v.ownBlock=some k):∃cs,w.heap[k]?=some (.cells cs R.et (0,0)):=by
 obtain⟨h1,h2⟩:=h;rcases h2 with⟨rfl,_⟩|⟨g,cap,cur,r1,r2,r3,r4⟩
 ·cases hk
 ·rw[r1] at hk;injection hk with hk
  subst hk;exact⟨cur,r3⟩
theorem OwnG.addr(h:OwnG R w base v d)(hd:d≠[]):∃g cap,v=.slice (some ⟨g,0,none⟩) d.length cap:=by
 rcases h.2 with⟨_,h0⟩|⟨g,cap,cur,r1,_⟩
 ·exact absurd (List.length_eq_zero_iff.1 h0) hd
 ·exact⟨g,cap,r1⟩
theorem OwnG.frozen{g:Nat}(h:OwnG R w base (.slice (some ⟨g,0,none⟩) d.length cap) d)(j:Nat):w.frozen? ⟨g,j,none⟩=false:=World.ownsRow.frozenAt h j
theorem OwnG.cell{g:Nat}(h:OwnG R w base (.slice (some ⟨g,0,none⟩) d.length cap) d){i:Nat}{x:α}(hi:d[i]?=some x){j:Nat}{u:Value}(hu:(R.enc x)[j]?=some u):w.cell? ⟨g,i*R.k+j,none⟩=some u:=by
 obtain⟨a',cap',e,hg⟩:=h.isG;injection e with e1 e2 e3
 subst e1 e3;obtain⟨b,off,e,_,hc⟩:=hg.at hi
 cases e
 have:=hc j u hu;rw[zero_add] at this;exact this
theorem OwnG.setAt{g:Nat}(h:OwnG R w base (.slice (some ⟨g,0,none⟩) d.length cap) d){i j:Nat}{x y:α}{u:Value}(hi:d[i]?=some x)(he:R.enc y=(R.enc x).set j u)(hj:j<R.k) :
  OwnG R (w.setCell ⟨g,i*R.k+j,none⟩ u) base (.slice (some ⟨g,0,none⟩) (d.set i y).length cap) (d.set i y):=by
 have:=(World.ownsRow.stored h (i*R.k+j) u).1;unfold OwnG;rw[List.length_set,flat_set d i x y j u hi he hj];exact this
theorem OwnG.push2(o:OwnG R w base v d)(x:α)(hd:d.length<1000000)(hb:base<=w.heap.size)(ty:TypeId) :
  ∃v' w',(Builtin.append_ #[R.st,R.st] ty #[v,.slice (some ⟨w.heap.size,0,none⟩) 1 1]).run prog (w.alloc (.cells (R.enc x).toArray R.et))=.ok v' w'/\OwnG R w' base v' (d++[x])/\Fr (fun k=>v.ownBlock=some k) w w'/\∀k,v'.ownBlock=some k->v.ownBlock=some k\/w.heap.size<=k:=by
 obtain⟨i,hi,hz,hs,hby⟩:=R.info;have b1:=bel1 w (.cells (R.enc x).toArray R.et);have o1:=o.below b1;have sz:(d.length+1)*R.nb<=1000000*1000:=Nat.mul_le_mul (by omega) R.small
 obtain⟨v',w',h1,h2,h3,h4,h5⟩:=run_append_own_at (P:=prog) (w.alloc (.cells (R.enc x).toArray R.et)) base R.st ty R.et i _ R.k R.nb R.und hi hz hs hby R.zs R.kpos v d.length (R.flat d) o1 ⟨w.heap.size,0,none⟩ 1 1 (R.enc x) (by rw[R.len,Nat.one_mul])
  (fun j u hu=>by
   rw[Addr.add_lit,zero_add,cell_fresh,List.getElem?_toArray,hu]) (R.one x) (by unfold maxLen;omega) (by omega) (by have:=b1.size;omega)
 refine⟨v',w',h1,?_,?_,fun k hk=>?_⟩
 ·unfold OwnG;rw[List.length_append,List.length_singleton,flat_append,show R.flat [x]=R.enc x by simp[RowT.flat]];exact h2
 ·exact(Fr.below (X:=fun k=>v.ownBlock=some k) b1).trans (Fr.of_grown h3) (fun j hj=>.inl hj)
 ·rcases h5 with h5|h5
  ·exact .inl (by rw[<-h5];exact hk)
  ·rw[h5] at hk;injection hk with hk
   have:=b1.size;exact .inr (by omega)
end
theorem entry_is{P:Program}{w:World}{t k e:TypeId}{R:Value->Option (DataW Value×List MemPlace)}{b:Nat}{es:Array MapEntry}{clock:Nat}(K:Keyed P k)(ht:P.underlying t=some (.map k e)){z:Value}(hz:∀u:World,(zeroValue e).run P u=.ok z u)(hb:w.heap[b]?=some (.map es clock))(F:WideElems.Fit P k R es clock)
  {key:Value} {kl:Lit} (hkey:keyOf P k key=some kl):∃(v0:Value)(st:Nat)(w1:World),(Instr.mapEntry t (.map (some b)) key).run P w=.ok (.tuple #[v0,goInt st]) w1/\(Instr.mapUpdate t (.map (some b)) key v0).run P w=.ok () w1/\(Instr.lookup t (.map (some b)) key false).run P w=.ok v0 w:=by
 rcases K.find w hkey es.toList F.keys with⟨h1,h2⟩|⟨j,e0,h1,h2,h3⟩
 ·refine⟨z,clock,ChangeMaps.setBlock w b (.map (es.push ⟨key,z,clock⟩) (clock+1)),?_,?_,?_⟩
  ·simp[Instr.mapEntry,run_underlying ht,MapKept.run_getObj_map hb,K.check w false hkey,h1,hz,MapKept.run_setObj_map _ hb,Result.andThen,ChangeMaps.setBlock]
  ·simp[Instr.mapUpdate,run_underlying ht,MapKept.run_getObj_map hb,K.check w false hkey,h1,MapKept.run_setObj_map _ hb,Result.andThen,ChangeMaps.setBlock]
  ·simp[Instr.lookup,run_underlying ht,MapKept.run_getObj_map hb,K.check w _ hkey,h1,hz,Result.andThen]
 ·have hj:es[j]?=some e0:=by simpa using h2
  have hs1:es.modify j (fun e=>{e with key:=key})=es:=by
   apply Array.ext';rw[Array.toList_modify,ChangeMaps.modify_eq_set _ _ _ _ h2];have:({e0 with key:=key}:MapEntry)=e0:=by rw[<-h3]
   rw[this];exact WideElems.set_self _ _ _ h2
  have hs2:es.modify j (fun e'=>{e' with key:=key,val:=e0.val})=es:=by
   apply Array.ext';rw[Array.toList_modify,ChangeMaps.modify_eq_set _ _ _ _ h2];have:({e0 with key:=key,val:=e0.val}:MapEntry)=e0:=by rw[<-h3]
   rw[this];exact WideElems.set_self _ _ _ h2
  refine⟨e0.val,e0.born,ChangeMaps.setBlock w b (.map es clock),?_,?_,?_⟩
  ·simp[Instr.mapEntry,run_underlying ht,MapKept.run_getObj_map hb,K.check w false hkey,h1,hj,h3,K.stays w hkey,hs1,MapKept.run_setObj_map _ hb,Result.andThen,ChangeMaps.setBlock]
  ·simp[Instr.mapUpdate,run_underlying ht,MapKept.run_getObj_map hb,K.check w false hkey,h1,hj,h3,K.stays w hkey,hs2,MapKept.run_setObj_map _ hb,Result.andThen,ChangeMaps.setBlock]
  ·simp[Instr.lookup,run_underlying ht,MapKept.run_getObj_map hb,K.check w _ hkey,h1,Result.andThen]
theorem lawP:KeyLaw prog 78:=deep_law_laid laidOut (m:=2) (by omega) (of_decide_eq_true (by kernel_rfl)) (by kernel_rfl) (by kernel_rfl)
theorem zeroInt(u:World):(zeroValue 3).run prog u=.ok (.int .i64 0) u:=by kernel_rfl
theorem st_eq{a b:Value}{i j:Nat}(h:Value.tuple #[a,goInt i]=Value.tuple #[b,goInt j]):i=j:=by
 injection h with h
 simp[goInt] at h;omega
theorem MapG.bump{w:World}{M n:Nat}{f:Int×Int->Option Value}{x:Int×Int}(h:MapG keyP w M f n)(hn:n<=1000000)(hx:keyP.ok x)(c:Int)(hc:(f x).getD (.int .i64 0)=.int .i64 c)(val:Value) :
  ∃(st:Nat)(w1 w2:World)(m:Nat),(Instr.lookup 129 (.map (some M)) (prV x) false).run prog w=.ok (.int .i64 c) w/\
   (Instr.mapEntry 129 (.map (some M)) (prV x)).run prog w=.ok (.tuple #[.int .i64 c,.int .i64 st]) w1/\
   (Instr.lookup 129 (.map (some M)) (prV x) false).run prog w1=.ok (.int .i64 c) w1/\
   (Instr.entryStore 129 (.map (some M)) (.int .i64 st) val).run prog w1=.ok () w2/\MapG keyP w2 M (fput f x val) m/\w.grownBy w2 (some M)/\w.grownBy w1 (some M):=by
 have ht:prog.underlying 129=some (.map 78 3):=underlying129;have hk:keyOf prog 78 (prV x)=some (keyP.lk x):=keyP.lk_is hx;have l0:=h.look ht (zeroInt w) hx;rw[hc] at l0;have h':=h;obtain⟨D,⟨es,cl,hb,F,hs,hD⟩,h2⟩:=h;obtain⟨v0,st,w1,e1,u1,l2⟩:=entry_is keyedP ht zeroInt hb F hk;have l0':(Instr.lookup 129 (.map (some M)) (prV x) false).run prog w=.ok (.int .i64 c) w:=l0;rw[l2] at l0';injection l0' with l0' _
 subst l0';obtain⟨v0',st',es1,cl1,e2,hv,S⟩:=WideElems.entry_then_store lawP ht zeroInt hb F hk;rw[e1] at e2;injection e2 with q1 q2
 obtain rfl:st=st':=st_eq q1;subst q2;have hw:(ChangeMaps.setBlock w M (.map es1 cl1)).heap[M]?=some (.map es1 cl1):=ChangeMaps.heap_setBlock_same hb _;obtain⟨es2,cl2,s1,s2⟩:=S _ val hw;obtain⟨w',m,r1,r2,r3,r4⟩:=h'.store ht hn hx val;have s2':(Instr.mapUpdate 129 (.map (some M)) (keyP.ek x) val).run prog w=.ok () (ChangeMaps.setBlock w M (.map es2 cl2)):=s2;rw[s2'] at r1;injection r1 with _ r1
 subst r1;obtain⟨w'',m',p1,p2,p3,p4⟩:=h'.store ht hn hx (.int .i64 c);have u1':(Instr.mapUpdate 129 (.map (some M)) (keyP.ek x) (.int .i64 c)).run prog w=.ok () (ChangeMaps.setBlock w M (.map es1 cl1)):=u1;rw[u1'] at p1;injection p1 with _ p1
 subst p1;have l1:=p2.look ht (zeroInt _) hx;have:(fput f x (.int .i64 c) x).getD (.int .i64 0)=.int .i64 c:=by simp[fput]
 rw[this] at l1;refine⟨st,_,_,m,l2,e1,l1,s1,?_,?_,p4⟩
 ·exact r2.of_block (by rw[ChangeMaps.heap_setBlock_same hw,ChangeMaps.heap_setBlock_same hb])
 ·exact⟨rfl,rfl,rfl,by simp[ChangeMaps.setBlock],fun i _ hi=>(ChangeMaps.heap_setBlock_other hw _ (fun e=>hi (by rw[e]))).trans (ChangeMaps.heap_setBlock_other hb _ (fun e=>hi (by rw[e])))⟩
end
section
open Go.RowKit
def putW(ws:Nat->Int)(i:Nat)(v:Int):Nat->Int:=fun j=>if j=i then v else ws j
@[simp] theorem putW_same(ws:Nat->Int)(i:Nat)(v:Int):putW ws i v i=v:=by simp[putW]
theorem putW_other(ws:Nat->Int)(i j:Nat)(v:Int)(h:j≠i):putW ws i v j=ws j:=by simp[putW,h]
def cnt(ws:Nat->Int)(s:Int):Nat->Nat
 | 0=>0
 | n+1=>cnt ws s n+(if ws n%8=s then 1 else 0)
theorem cnt_le(ws:Nat->Int)(s:Int)(n:Nat):cnt ws s n<=n:=by
 induction n with
 | zero=>simp[cnt]
 | succ n ih=>simp only[cnt];split<;>omega
theorem cnt_congr{ws us:Nat->Int}{s:Int}{n:Nat}(h:∀i,i<n->ws i=us i):cnt ws s n=cnt us s n:=by
 induction n with
 | zero=>rfl
 | succ n ih=>simp only[cnt,ih fun i hi=>h i (by omega),h n (by omega)]
theorem cnt_put(ws:Nat->Int)(s:Int)(n i:Nat)(v:Int)(hi:i<n) :
  cnt (putW ws i v) s n+(if ws i%8=s then 1 else 0)=cnt ws s n+(if v%8=s then 1 else 0):=by
 induction n with
 | zero=>omega
 | succ n ih=>
  by_cases e:i=n
  ·subst e;have:cnt (putW ws i v) s i=cnt ws s i:=cnt_congr fun j hj=>putW_other _ _ _ _ (by omega);simp only[cnt,this,putW_same];omega
  ·have h1:=ih (by omega);simp only[cnt,putW_other ws i n v (by omega)];omega
theorem cnt_none{ws:Nat->Int}{s:Int}{n:Nat}(h:∀i,i<n->ws i%8≠s):cnt ws s n=0:=by
 induction n with
 | zero=>rfl
 | succ n ih=>simp[cnt,ih fun i hi=>h i (by omega),h n (by omega)]
theorem cnt_pos{ws:Nat->Int}{s:Int}{n i:Nat}(hi:i<n)(h:ws i%8=s):0<cnt ws s n:=by
 induction n with
 | zero=>omega
 | succ n ih=>
  by_cases e:i=n
  ·subst e;simp[cnt,h]
  ·have:=ih (by omega);simp only[cnt];omega
theorem cnt_all{ws:Nat->Int}{s:Int}{n:Nat}(h:∀i,i<n->ws i%8=s):cnt ws s n=n:=by
 induction n with
 | zero=>rfl
 | succ n ih=>simp[cnt,ih fun i hi=>h i (by omega),h n (by omega)]
structure Kept(a b r:Nat)(w w':World):Prop where
 os:w'.os=w.os
 tape:w'.tape=w.tape
 output:w'.output=w.output
 size:w.heap.size<=w'.heap.size
 block:∀k,k<w.heap.size->k≠a->k≠b->k≠r->w'.heap[k]?=w.heap[k]?
theorem Kept.refl(a b r:Nat)(w:World):Kept a b r w w:=⟨rfl,rfl,rfl,le_refl _,fun _ _ _ _ _=>rfl⟩
theorem Kept.trans{a b r:Nat}{u v w:World}(h:Kept a b r u v)(k:Kept a b r v w):Kept a b r u w:=
 ⟨k.os.trans h.os,k.tape.trans h.tape,k.output.trans h.output,Nat.le_trans h.size k.size,fun i hi ha hb hr=>(k.block i (by have:=h.size;omega) ha hb hr).trans (h.block i hi ha hb hr)⟩
theorem Kept.of_below{a b r:Nat}{u v:World}(h:Below u.heap.size u v):Kept a b r u v:=⟨h.os,h.tape,h.output,h.size,fun k hk _ _ _=>h.block k hk⟩
theorem Kept.set{a b r c:Nat}{u v:World}(h:Kept a b r u v)(i:Nat)(x:Value)(hc:c=a\/c=b\/c=r):Kept a b r u (v.setCell ⟨c,i,none⟩ x):=
 h.trans ⟨rfl,rfl,rfl,by simp[World.setCell],fun k _ ha hb hr=>Below.heap_setCell _ _ _ _ (show k≠c by rcases hc with rfl|rfl|rfl<;>assumption)⟩
theorem Kept.drew{a b r:Nat}{u v:World}(h:Kept a b r u v):Kept a b r u v.drew:=⟨h.os,h.tape,h.output,h.size,h.block⟩
theorem Kept.cell{a b r:Nat}{w w':World}(h:Kept a b r w w'){p:Addr}(hp:p.block<w.heap.size)(ha:p.block≠a)(hb:p.block≠b)(hr:p.block≠r):w'.cell? p=w.cell? p:=World.cell?_of_block (w:=w) (h.block p.block hp ha hb hr)
theorem Kept.frozen{a b r:Nat}{w w':World}(h:Kept a b r w w'){p:Addr}(hp:p.block<w.heap.size)(ha:p.block≠a)(hb:p.block≠b)(hr:p.block≠r):w'.frozen? p=w.frozen? p:=World.frozen?_of_block (w:=w) (h.block p.block hp ha hb hr)
structure WMem(t e:TypeId)(w:World)(b r n:Nat)(ws:Nat->Int):Prop where
 ne:b≠r
 head:∃s q l k:Int,w.heap[b]?=some (.cells #[.slice (some ⟨r,0,none⟩) n n,.int .u64 s,.int .u64 q,.int .i64 l,.int .i64 k] t (0,0))
 row:w.rowIs r e n (fun i=>.int .u64 (ws i))
 fits:∀i,i<n->0<=ws i/\ws i<18446744073709551616
 size:n<=4096
variable {t e:TypeId}{w w':World}{a b r n:Nat}{ws:Nat->Int}
theorem set_head{c:Array Value}{b i:Nat}{x:Value}{t:TypeId}(h:w.heap[b]?=some (.cells c t (0,0))):(w.setCell ⟨b,i,none⟩ x).heap[b]?=some (.cells (c.setIfInBounds i x) t (0,0)):=by
 simp[World.setCell,Array.getElem?_modify,h]
theorem WMem.c0(h:WMem t e w b r n ws):w.cell? ⟨b,0,none⟩=some (.slice (some ⟨r,0,none⟩) n n):=by
 obtain⟨s,q,l,k,hh⟩:=h.head;simp[World.cell?,hh]
theorem WMem.cells(h:WMem t e w b r n ws):∃s q l k:Int,w.cell? ⟨b,1,none⟩=some (.int .u64 s)/\w.cell? ⟨b,2,none⟩=some (.int .u64 q)/\w.cell? ⟨b,3,none⟩=some (.int .i64 l)/\w.cell? ⟨b,4,none⟩=some (.int .i64 k):=by
 obtain⟨s,q,l,k,hh⟩:=h.head;exact⟨s,q,l,k,by simp[World.cell?,hh],by simp[World.cell?,hh],by simp[World.cell?,hh],by simp[World.cell?,hh]⟩
theorem WMem.free(h:WMem t e w b r n ws)(i:Nat):w.frozen? ⟨b,i,none⟩=false:=by
 obtain⟨s,q,l,k,hh⟩:=h.head;simp[World.frozen?,hh]
theorem WMem.word(h:WMem t e w b r n ws){i:Nat}(hi:i<n):w.cell? ⟨r,i,none⟩=some (.int .u64 (ws i)):=h.row.cell hi
theorem WMem.free'(h:WMem t e w b r n ws)(i:Nat):w.frozen? ⟨r,i,none⟩=false:=h.row.frozen i
theorem WMem.blt(h:WMem t e w b r n ws):b<w.heap.size:=by
 obtain⟨s,q,l,k,hh⟩:=h.head;exact lt_of_block hh
theorem WMem.rlt(h:WMem t e w b r n ws):r<w.heap.size:=h.row.lt
theorem WMem.of_blocks(h:WMem t e w b r n ws)(hb:w'.heap[b]?=w.heap[b]?)(hr:w'.heap[r]?=w.heap[r]?):WMem t e w' b r n ws:=by
 obtain⟨s,q,l,k,hh⟩:=h.head;exact⟨h.ne,⟨s,q,l,k,hb.trans hh⟩,h.row.of_block hr,h.fits,h.size⟩
theorem WMem.drew(h:WMem t e w b r n ws):WMem t e w.drew b r n ws:=h.of_blocks rfl rfl
theorem WMem.u1(h:WMem t e w b r n ws)(x:Int):WMem t e (w.setCell ⟨b,1,none⟩ (.int .u64 x)) b r n ws:=by
 obtain⟨s,q,l,k,hh⟩:=h.head;exact⟨h.ne,⟨x,q,l,k,by rw[set_head hh];simp⟩,h.row.setOther (Ne.symm h.ne) _,h.fits,h.size⟩
theorem WMem.u2(h:WMem t e w b r n ws)(x:Int):WMem t e (w.setCell ⟨b,2,none⟩ (.int .u64 x)) b r n ws:=by
 obtain⟨s,q,l,k,hh⟩:=h.head;exact⟨h.ne,⟨s,x,l,k,by rw[set_head hh];simp⟩,h.row.setOther (Ne.symm h.ne) _,h.fits,h.size⟩
theorem WMem.u3(h:WMem t e w b r n ws)(x:Int):WMem t e (w.setCell ⟨b,3,none⟩ (.int .i64 x)) b r n ws:=by
 obtain⟨s,q,l,k,hh⟩:=h.head;exact⟨h.ne,⟨s,q,x,k,by rw[set_head hh];simp⟩,h.row.setOther (Ne.symm h.ne) _,h.fits,h.size⟩
theorem WMem.u4(h:WMem t e w b r n ws)(x:Int):WMem t e (w.setCell ⟨b,4,none⟩ (.int .i64 x)) b r n ws:=by
 obtain⟨s,q,l,k,hh⟩:=h.head;exact⟨h.ne,⟨s,q,l,x,by rw[set_head hh];simp⟩,h.row.setOther (Ne.symm h.ne) _,h.fits,h.size⟩
theorem WMem.put(h:WMem t e w b r n ws)(i:Nat)(v:Int)(h0:0<=v)(h1:v<18446744073709551616) :
  WMem t e (w.setCell ⟨r,i,none⟩ (.int .u64 v)) b r n (putW ws i v):=by
 obtain⟨s,q,l,k,hh⟩:=h.head;refine⟨h.ne,⟨s,q,l,k,?_⟩,(h.row.set i (.int .u64 v)).congr fun j hj=>?_,fun j hj=>?_,h.size⟩
 ·rw[Below.heap_setCell _ _ _ _ h.ne];exact hh
 ·by_cases e:j=i<;>simp[putW,e]
 ·by_cases e:j=i
  ·simp[putW,e,h0,h1]
  ·simpa [putW,e] using h.fits j hj
structure Arn(ta t e:TypeId)(w:World)(a b r n:Nat)(ws:Nat->Int):Prop where
 nb:a≠b
 nr:a≠r
 head:∃cs:Array Value,w.heap[a]?=some (.cells cs ta (0,0))/\cs.size=8/\cs[0]?=some (.pointer (some ⟨b,0,none⟩))/\∀s:Nat,s<7->cs[s+1]?=some (.int .i64 (cnt ws s n))
 mem:WMem t e w b r n ws
 ok:∀i,i<n->ws i%8<7
 one:1<=n
 most:n<=1000
variable {ta:TypeId}
theorem Arn.c0(h:Arn ta t e w a b r n ws):w.cell? ⟨a,0,none⟩=some (.pointer (some ⟨b,0,none⟩)):=by
 obtain⟨cs,h1,h2,h3,h4⟩:=h.head;simpa [World.cell?,h1] using h3
theorem Arn.cs(h:Arn ta t e w a b r n ws)(s:Nat)(hs:s<7):w.cell? ⟨a,s+1,none⟩=some (.int .i64 (cnt ws s n)):=by
 obtain⟨cs,h1,h2,h3,h4⟩:=h.head;simpa [World.cell?,h1] using h4 s hs
theorem Arn.cs'(h:Arn ta t e w a b r n ws)(s:Nat)(hs:s<7):w.cell? ⟨a,1+s,none⟩=some (.int .i64 (cnt ws s n)):=by
 rw[add_comm];exact h.cs s hs
theorem Arn.free(h:Arn ta t e w a b r n ws)(i:Nat):w.frozen? ⟨a,i,none⟩=false:=by
 obtain⟨cs,h1,h2,h3,h4⟩:=h.head;simp[World.frozen?,h1]
theorem Arn.alt(h:Arn ta t e w a b r n ws):a<w.heap.size:=by
 obtain⟨cs,h1,h2,h3,h4⟩:=h.head;exact lt_of_block h1
theorem Arn.of_blocks(h:Arn ta t e w a b r n ws)(ha:w'.heap[a]?=w.heap[a]?)(hb:w'.heap[b]?=w.heap[b]?)(hr:w'.heap[r]?=w.heap[r]?):Arn ta t e w' a b r n ws:=by
 obtain⟨cs,h1,h2⟩:=h.head;exact⟨h.nb,h.nr,⟨cs,ha.trans h1,h2⟩,h.mem.of_blocks hb hr,h.ok,h.one,h.most⟩
theorem Arn.of_mem{b' r':Nat}(h:Arn ta t e w a b r n ws)(m:WMem t e w' b r n ws)(k:Kept b b r w w'):Arn ta t e w' a b r n ws:=by
 obtain⟨cs,h1,h2⟩:=h.head;exact⟨h.nb,h.nr,⟨cs,(k.block a h.alt h.nb h.nb h.nr).trans h1,h2⟩,m,h.ok,h.one,h.most⟩
theorem Arn.drew(h:Arn ta t e w a b r n ws):Arn ta t e w.drew a b r n ws:=h.of_blocks rfl rfl rfl
theorem Arn.below{B:Nat}(h:Arn ta t e w a b r n ws)(hw:Below B w w')(h1:a<B)(h2:b<B)(h3:r<B):Arn ta t e w' a b r n ws:=
 h.of_blocks (hw.block a h1) (hw.block b h2) (hw.block r h3)
theorem Arn.grew(h:Arn ta t e w a b r n ws)(hw:Below w.heap.size w w'):Arn ta t e w' a b r n ws:=h.below hw h.alt h.mem.blt h.mem.rlt
theorem Arn.fits(h:Arn ta t e w a b r n ws)(i:Nat)(hi:i<n):0<=ws i/\ws i<18446744073709551616:=h.mem.fits i hi
theorem Arn.turned(h:Arn ta t e w a b r n ws){i s q:Nat}{v:Int}(hi:i<n)(hs:ws i%8=s)(hq:v%8=q)(hs7:s<7)(hq7:q<7)(hne:s≠q)
  (m:WMem t e w' b r n (putW ws i v)) (k:Kept b b r w w') (x y:Int) (hx:x=(cnt ws s n:Int)-1) (hy:y=(cnt ws q n:Int)+1) :
  Arn ta t e ((w'.setCell ⟨a,s+1,none⟩ (.int .i64 x)).setCell ⟨a,q+1,none⟩ (.int .i64 y)) a b r n (putW ws i v):=by
 obtain⟨cs,h1,h2,h3,h4⟩:=h.head;have ha:=(k.block a h.alt h.nb h.nb h.nr).trans h1;refine⟨h.nb,h.nr,⟨_,set_head (set_head ha),by simp[h2],?_,fun j hj=>?_⟩,?_,fun j hj=>?_,h.one,h.most⟩
 ·simpa [Array.getElem?_setIfInBounds] using h3
 ·have hc:=cnt_put ws j n i v hi;have h5:=h4 j hj;rw[hs,hq] at hc;rw[Array.getElem?_setIfInBounds,Array.getElem?_setIfInBounds];by_cases e1:q=j
  ·subst e1;have:¬(s:Int)=(q:Int):=by omega
   simp[this] at hc;simp[h2,hj,hy,hc]
  ·by_cases e2:s=j
   ·subst e2;have:¬(q:Int)=(s:Int):=by omega
    simp[this] at hc;simp[h2,hx,e1];omega
   ·have g1:¬(s:Int)=(j:Int):=by omega
    have g2:¬(q:Int)=(j:Int):=by omega
    simp[g1,g2] at hc;simp[e1,e2,hc,h5]
 ·exact m.of_blocks (by rw[Below.heap_setCell _ _ _ _ h.nb.symm,Below.heap_setCell _ _ _ _ h.nb.symm]) (by rw[Below.heap_setCell _ _ _ _ h.nr.symm,Below.heap_setCell _ _ _ _ h.nr.symm])
 ·by_cases e:j=i
  ·subst e;rw[putW_same];omega
  ·rw[putW_other _ _ _ _ e];exact h.ok j hj
end
section
open Go.RowKit
abbrev WAt:=WMem 174 33
theorem infoU64:(prog.info? 33).map (fun i=>(i.zero,i.size,i.bytes))=some (some (.int .u64 0),1,8):=by kernel_rfl
theorem mnew_at(w:World)(n:Nat)(hn:n<=4096) :
  WAt ((w.alloc (.cells (madeCells #[.int .u64 0] n) 33)).alloc (.cells #[.slice (some ⟨w.heap.size,0,none⟩) n n,.int .u64 0,.int .u64 0,.int .i64 0,.int .i64 0] 174)) (w.heap.size+1) w.heap.size n (fun _=>0):=by
 refine⟨by omega,⟨0,0,0,0,?_⟩,(World.rowIs_made w (.int .u64 0) n 33).alloc _,fun i hi=>by simp,hn⟩;have:=heap_alloc_new (w.alloc (.cells (madeCells #[.int .u64 0] n) 33)) (.cells #[.slice (some ⟨w.heap.size,0,none⟩) n n,.int .u64 0,.int .u64 0,.int .i64 0,.int .i64 0] 174);simpa using this
theorem mnew_in(n:Nat)(w:World)(h1:1<=n)(h2:n<=4096) :
  Calls prog 63 #[.int .i64 n] w fun e w'=>e=.returned (.tuple #[.pointer (some ⟨w.heap.size+1,0,none⟩),.int .i64 0])/\
   WAt w' (w.heap.size+1) w.heap.size n (fun _=>0)/\Below w.heap.size w w'/\w'.heap.size=w.heap.size+2:=by
 have g1:¬(n:Int)<1:=by omega
 have g2:¬(4096:Int)<(n:Int):=by omega
 have hmk:=run_make_row' (P:=prog) 172 33 (.int .u64 0) 8 underlying172 infoU64 rfl .i64 .i64 n (by omega) (by omega);have hat:=mnew_at w n h2;go_enter func63,ntmps63
 go_wp2_with fail
 go_ret2;exact⟨rfl,hat,((Below.refl _ _).alloc (le_refl _) _).alloc (by simp) _,by simp⟩
theorem mreach_in(w:World)(b r n:Nat)(ws:Nat->Int)(i:Nat)(c:Int)(h:WAt w b r n ws)(hi:i<n) :
  Calls prog 76 #[.pointer (some ⟨b,0,none⟩),.int .i64 i,.int .i64 c] w fun e w'=>e=.returned (.bool true)/\WAt w' b r n ws/\Kept b b r w w':=by
 have c0:=h.c0;obtain⟨s,q,l,k,c1,c2,c3,c4⟩:=h.cells;have f1:=h.free 1;have f3:=h.free 3;have f4:=h.free 4;have h0:¬(i:Int)<0:=by omega
 have h1:¬(n:Int)<=(i:Int):=by omega
 have H:Hid (WAt w b r n ws):=h;obtain⟨X,hX⟩:∃X,IntKind.u64.wrap (s+1)=X:=⟨_,rfl⟩;go_enter func76,ntmps76
 go_wp2_with fail
 go_ret;exact⟨rfl,((H.out.u1 _).u3 _).u4 _,(((Kept.refl _ _ _ _).set _ _ (.inl rfl)).set _ _ (.inl rfl)).set _ _ (.inl rfl)⟩
theorem mload_in(w:World)(b r n:Nat)(ws:Nat->Int)(i:Nat)(h:WAt w b r n ws)(hi:i<n) :
  Calls prog 48 #[.pointer (some ⟨b,0,none⟩),.int .i64 i] w fun e w'=>e=.returned (.int .u64 (ws i))/\WAt w' b r n ws/\Kept b b r w w':=by
 have g1:(i:Int)<(n:Int):=by omega
 go_enter func48,ntmps48
 go_wp2_with fail
 refine(mreach_in w b r n ws i 1 h hi).mono ?_;rintro e w1 ⟨rfl,h1,hw⟩;have c0:=h1.c0;have cw:=h1.word hi
 go_wp2_with fail
 go_ret;exact⟨rfl,h1,hw⟩
theorem mcas_won(w:World)(b r n:Nat)(ws:Nat->Int)(i:Nat)(o v:Int)(h:WAt w b r n ws)(hi:i<n)(ho:ws i=o)(v0:0<=v)(v1:v<18446744073709551616) :
  Calls prog 143 #[.pointer (some ⟨b,0,none⟩),.int .i64 i,.int .u64 o,.int .u64 v] w fun e w'=>e=.returned (.bool true)/\WAt w' b r n (putW ws i v)/\Kept b b r w w':=by
 have g1:(i:Int)<(n:Int):=by omega
 go_enter func143,ntmps143
 go_wp2_with fail
 refine(mreach_in w b r n ws i 3 h hi).mono ?_;rintro e w1 ⟨rfl,h1,hw⟩;have c0:=h1.c0;have cw:w1.cell? ⟨r,i,none⟩=some (.int .u64 o):=by rw[<-ho];exact h1.word hi
 have fw:=h1.free' i;have h2:=h1.put i v v0 v1;obtain⟨s,q,l,k,c1,c2,c3,c4⟩:=h2.cells;have f2:=h2.free 2;clear ho c1 c3 c4;have H:Hid _:=And.intro h2 hw;clear h2 hw h h1
 go_wp2_with fail
 go_ret;exact⟨rfl,H.out.1.u2 _,(H.out.2.set _ _ (.inr (.inr rfl))).set _ _ (.inl rfl)⟩
theorem mlen_any(w:World)(b r n:Nat)(ws:Nat->Int)(h:WAt w b r n ws) :
  Calls prog 97 #[.pointer (some ⟨b,0,none⟩)] w fun e w'=>e=.returned (.int .i64 n)/\w'=w:=by
 have c1:=h.c0;go_enter func97,ntmps97
 go_wp2_with fail
 go_ret;exact⟨rfl,rfl⟩
end
section
open Go.RowKit Go.WideMaps Go.Maps
def canB(a b:Int):Bool:=(a==0&&(b==1||b==2||b==6))||(a==1&&(b==2||b==6))||(a==2&&(b==3||b==6))||(a==3&&(b==1||b==4||b==5))
theorem zeroUnit(w:World):(zeroValue 238).run prog w=.ok (.agg #[]) w:=by kernel_rfl
theorem can_has{a b:Int}(wa:(Lit.int .i64 a).wf=true)(wb:(Lit.int .i64 b).wf=true){D:DataW Unit}(hhas:∀kl,Maps.has D kl=true↔∃j∈places,pairKey (pairAt j).1 (pairAt j).2=kl):Maps.has D (pairKey a b)=canB a b:=by
 have inj:∀x y:Int,(Lit.int .i64 x).wf=true->(Lit.int .i64 y).wf=true->(pairKey x y=pairKey a b↔x=a/\y=b):=by
  intro x y wx wy;constructor
  ·intro h;have h1:=key_pair wx wy;rw[h] at h1;have h2:=lawPair.inj h1 (key_pair wa wb);simpa using h2
  ·rintro⟨rfl,rfl⟩;rfl
 rw[Bool.eq_iff_iff,hhas];simp only[places,mem_cons,not_mem_nil,or_false,exists_eq_or_imp,exists_eq_left,pairAt];rw[inj 0 1 (by decide) (by decide),inj 0 2 (by decide) (by decide),inj 0 6 (by decide) (by decide),inj 1 2 (by decide) (by decide),inj 1 6 (by decide) (by decide),inj 2 3 (by decide) (by decide),inj 2 6 (by decide) (by decide),inj 3 1 (by decide) (by decide),inj 3 4 (by decide) (by decide),inj 3 5 (by decide) (by decide)];simp only[canB,Bool.or_eq_true,Bool.and_eq_true,beq_iff_eq];omega
theorem can_any(a b:Int)(w:World)(wa:(Lit.int .i64 a).wf=true)(wb:(Lit.int .i64 b).wf=true) :
  Calls prog 96 #[.int .i64 a,.int .i64 b] w fun e w'=>e=.returned (.bool (canB a b))/\Below w.heap.size w w':=by
 go_enter func96,ntmps96
 go_wp2_with fail
 refine(steps_any _).mono ?_;rintro e w1 ⟨rfl,hb,D,hown,hhas⟩;obtain⟨v,ps,hrun,hv⟩:=hown.look_ok lawPair undSteps (zeroUnit _) unitElem_mk (key_pair wa wb);obtain rfl:=(unitElem_inv hv).1;rw[can_has wa wb hhas] at hrun;clear hhas hv hown
 go_wp2_with fail
 go_ret;exact⟨rfl,hb.alloc hb.size _⟩
end
section
open Go
theorem and7_u64(n:Int)(h0:0<=n)(h1:n<18446744073709551616):bits .and .u64 n 7=n%8:=by
 rw[u64_and n 7 h0 h1 (by decide) (by decide)];show((n.toNat &&& 7:Nat):Int)=_;rw[nat_mask3];omega
def packI(s v:Int):Int:=v%2305843009213693952*8+s%8
theorem pack_or(s v:Int) :
  bits .or .u64 (IntKind.u64.wrap (v*8)) (bits .and .u64 (IntKind.u64.wrap s) 7)=packI s v:=by
 rw[IntKind.wrap_u64,IntKind.wrap_u64,and7_u64 _ (by omega) (by omega),u64_or _ _ (by omega) (by omega) (by omega) (by omega)];rw[nat_join 3 _ _ (by show _%8=0;omega) (by show _<8;omega)];unfold packI;omega
theorem packI_bound(s v:Int):0<=packI s v/\packI s v<18446744073709551616:=by
 unfold packI;omega
theorem packI_state(s v:Int):packI s v%8=s%8:=by unfold packI;omega
end
section
open Go.RowKit
theorem ret_int{k:IntKind}{a b:Int}(h:a=b):Ending.returned (.int k a)=.returned (.int k b):=by rw[h]
theorem ret_bool{a b:Bool}(h:a=b):Ending.returned (.bool a)=.returned (.bool b):=by rw[h]
theorem pack_any(s v:Int)(w:World) :
  Calls prog 193 #[.int .i64 s,.int .u64 v] w fun e w'=>e=.returned (.int .u64 (packI s v))/\w'=w:=by
 go_enter func193,ntmps193
 go_wp2
 go_ret;exact⟨ret_int (pack_or s v),rfl⟩
theorem state_num(v:Int)(h0:0<=v)(h1:v<18446744073709551616):wrap64 (bits .and .u64 v 7)=v%8:=by
 rw[and7_u64 v h0 h1];exact IntWalk.wrap64_in _ ⟨by omega,by omega⟩
theorem state_any(v:Int)(w:World)(h0:0<=v)(h1:v<18446744073709551616) :
  Calls prog 85 #[.int .u64 v] w fun e w'=>e=.returned (.int .i64 (v%8))/\w'=w:=by
 go_enter func85,ntmps85
 go_wp2
 go_ret;exact⟨ret_int (state_num v h0 h1),rfl⟩
theorem version_any(v:Int)(w:World) :
  Calls prog 194 #[.int .u64 v] w fun e w'=>e=.returned (.int .u64 (v/8))/\w'=w:=by
 go_enter func194,ntmps194
 go_wp2
 go_ret;exact⟨rfl,rfl⟩
theorem next_any(v s:Int)(w:World)(h0:0<=v)(h1:v<18446744073709551616) :
  Calls prog 144 #[.int .u64 v,.int .i64 s] w fun e w'=>e=.returned (.int .u64 (packI s (v/8+1)))/\w'=w:=by
 go_enter func144,ntmps144
 go_wp2_with fail
 refine(version_any _ _).mono ?_;rintro e w1 ⟨rfl,rfl⟩
 go_wp2_with fail
 refine(pack_any _ _ _).mono ?_;rintro e w2 ⟨rfl,rfl⟩
 go_wp2_with fail
 go_ret;exact⟨rfl,rfl⟩
end
section
open Go.RowKit
abbrev AAt:=Arn 198 174 33
theorem Kept.up{a b r:Nat}{w w':World}(h:Kept b b r w w'):Kept a b r w w':=⟨h.os,h.tape,h.output,h.size,fun k h0 h1 h2 h3=>h.block k h0 h2 h2 h3⟩
theorem wf_i64{x:Int}(h0 : -9223372036854775808<=x)(h1:x<=9223372036854775807):(Lit.int .i64 x).wf=true:=by
 simp[Lit.wf,IntKind.min,IntKind.max,IntKind.bits,IntKind.signed];omega
theorem cnt_zero(s n:Nat)(hs:s<7):(cnt (fun _=>0) s n:Int)=if s=0 then(n:Int) else 0:=by
 by_cases e:s=0
 ·subst e;have:cnt (fun _=>0) ((0:Nat):Int) n=n:=cnt_all fun i hi=>rfl;rw[if_pos rfl,this]
 ·have:cnt (fun _=>0) s n=0:=cnt_none fun i hi=>by
   show(0:Int)%8≠s;omega
  simp[e,this]
theorem new_at(w w1:World)(n:Nat)(h1:1<=n)(h2:n<=1000)(h:WAt w1 (w.heap.size+1) w.heap.size n (fun _=>0))(z:w1.heap.size=w.heap.size+2) :
  AAt (w1.alloc (.cells #[.pointer (some ⟨w.heap.size+1,0,none⟩),.int .i64 n,.int .i64 0,.int .i64 0,.int .i64 0,.int .i64 0,.int .i64 0,.int .i64 0] 198)) (w.heap.size+2) (w.heap.size+1) w.heap.size n (fun _=>0):=by
 have hh:=heap_alloc_new w1 (.cells #[.pointer (some ⟨w.heap.size+1,0,none⟩),.int .i64 n,.int .i64 0,.int .i64 0,.int .i64 0,.int .i64 0,.int .i64 0,.int .i64 0] 198);rw[z] at hh;refine⟨by omega,by omega,⟨_,hh,rfl,rfl,fun s hs=>?_⟩,h.of_blocks (Below.heap_alloc _ _ _ h.blt) (Below.heap_alloc _ _ _ h.rlt),fun i hi=>by simp,h1,h2⟩
 ·rw[cnt_zero s n hs];have:s=0\/s=1\/s=2\/s=3\/s=4\/s=5\/s=6:=by omega
  rcases this with rfl|rfl|rfl|rfl|rfl|rfl|rfl<;>rfl
theorem new_in(n:Nat)(w:World)(h1:1<=n)(h2:n<=1000) :
  Calls prog 64 #[.int .i64 n] w fun e w'=>e=.returned (.tuple #[.pointer (some ⟨w.heap.size+2,0,none⟩),.int .i64 0])/\
   AAt w' (w.heap.size+2) (w.heap.size+1) w.heap.size n (fun _=>0)/\Below w.heap.size w w'/\w'.heap.size=w.heap.size+3:=by
 have g1:¬(n:Int)<1:=by omega
 have g2:¬(1000:Int)<(n:Int):=by omega
 go_enter func64,ntmps64
 go_wp2_with fail
 refine(mnew_in n w h1 (by omega)).mono ?_;rintro e w1 ⟨rfl,hm,hb,hz⟩;have hA:Hid _:=new_at w w1 n h1 h2 hm hz;have hB:Hid (Below w.heap.size w w1):=hb;clear hm hb
 go_wp2_with fail
 go_ret2;exact⟨rfl,hA.out,hB.out.alloc (by omega) _,by simp[hz]⟩
theorem len_any(w:World)(a b r n:Nat)(ws:Nat->Int)(h:AAt w a b r n ws) :
  Calls prog 68 #[.pointer (some ⟨a,0,none⟩)] w fun e w'=>e=.returned (.int .i64 n)/\w'=w:=by
 have c0:=h.c0;go_enter func68,ntmps68
 go_wp2_with fail
 refine(mlen_any w b r n ws h.mem).mono ?_;rintro e w1 ⟨rfl,rfl⟩
 go_wp2_with fail
 go_ret;exact⟨rfl,rfl⟩
theorem has_in(w:World)(a b r n:Nat)(ws:Nat->Int)(h:AAt w a b r n ws)(x:Int)(x1:1<=x)(x2:x<=n) :
  Calls prog 243 #[.pointer (some ⟨a,0,none⟩),.int .i64 x] w fun e w'=>e=.returned (.bool true)/\w'=w:=by
 go_enter func243,ntmps243
 go_wp2_with fail
 refine(len_any w a b r n ws h).mono ?_;rintro e w1 ⟨rfl,rfl⟩
 go_wp2_with fail
 go_ret;exact⟨rfl,rfl⟩
theorem word_in(w:World)(a b r n:Nat)(ws:Nat->Int)(h:AAt w a b r n ws)(i:Nat)(hi:i<n) :
  Calls prog 86 #[.pointer (some ⟨a,0,none⟩),.int .i64 ((i:Int)+1)] w fun e w'=>e=.returned (.int .u64 (ws i))/\AAt w' a b r n ws/\Kept a b r w w':=by
 have c0:=h.c0;have hn:=h.most;go_enter func86,ntmps86
 go_wp2_with fail
 refine(mload_in w b r n ws i h.mem hi).mono ?_;rintro e w1 ⟨rfl,h1,k1⟩;have H:Hid _:=And.intro (h.of_mem (b':=0) (r':=0) h1 k1) (k1.up (a:=a));clear h1 k1
 go_wp2_with fail
 go_ret;exact⟨rfl,H.out⟩
theorem state_in(w:World)(a b r n:Nat)(ws:Nat->Int)(h:AAt w a b r n ws)(i:Nat)(hi:i<n) :
  Calls prog 58 #[.pointer (some ⟨a,0,none⟩),.int .i64 ((i:Int)+1)] w fun e w'=>e=.returned (.int .i64 (ws i%8))/\AAt w' a b r n ws/\Kept a b r w w':=by
 have F:=h.fits i hi;go_enter func58,ntmps58
 go_wp2_with fail
 refine(word_in w a b r n ws h i hi).mono ?_;rintro e w1 ⟨rfl,h1,k1⟩
 go_wp2_with fail
 refine(state_any _ _ F.1 F.2).mono ?_;rintro e w2 ⟨rfl,rfl⟩
 go_wp2_with fail
 go_ret;exact⟨rfl,h1,k1⟩
end
section
open Go.RowKit
theorem change_won(w:World)(a b r n:Nat)(ws:Nat->Int)(h:AAt w a b r n ws)(i:Nat)(hi:i<n)(o:Int)(q:Nat)(ho:ws i=o)(hq:q<7)(hne:o%8≠q) :
  Calls prog 99 #[.pointer (some ⟨a,0,none⟩),.int .i64 ((i:Int)+1),.int .u64 o,.int .i64 q] w fun e w'=>e=.returned (.bool true)/\AAt w' a b r n (putW ws i (packI q (o/8+1)))/\Kept a b r w w':=by
 have c0:=h.c0;have hn:=h.most;obtain⟨o0,o1⟩:=h.fits i hi;have ok:=h.ok i hi;rw[ho] at o0 o1 ok;obtain⟨s,hs,hs7⟩:∃s:Nat,o%8=s/\s<7:=⟨(o%8).toNat,by omega,by omega⟩;have hsq:s≠q:=by omega
 obtain⟨V,hV,V0,V1,V8⟩:∃V,packI q (o/8+1)=V/\0<=V/\V<18446744073709551616/\V%8=q:=⟨_,rfl,(packI_bound _ _).1,(packI_bound _ _).2,by rw[packI_state];omega⟩;rw[hV];have H:Hid (AAt w a b r n ws):=h;have ho':Hid (ws i=o):=ho;have hV':Hid (packI q (o/8+1)=V):=hV;have hs8:Hid (ws i%8=s):=by show ws i%8=s;rw[ho];exact hs
 have C1:Hid (0<cnt ws s n):=cnt_pos hi hs8.out;have C2:Hid (cnt ws q n<=n):=cnt_le _ _ _;have C3:Hid (cnt ws s n<=n):=cnt_le _ _ _;have hsI:(s:Int)<7:=by omega
 have hqI:(q:Int)<7:=by omega
 clear h ho hV hne ok;have hw1:IntKind.i64.wrap (i:Int)=(i:Int):=by rw[IntKind.wrap_i64];omega
 have KC:Hid (∀v:World,Kept b b r w.drew v->v.cell? ⟨a,0,none⟩=some (.pointer (some ⟨b,0,none⟩))):=fun v k=>(k.cell (p:=⟨a,0,none⟩) H.out.alt H.out.nb H.out.nb H.out.nr).trans c0;go_enter func99,ntmps99
 go_wp2_with fail
 go_region_held3 (fun w'=>w'.cell? ⟨a,0,none⟩=some (.pointer (some ⟨b,0,none⟩))) (go_keep) ((first|(go_at_call 144;refine(next_any o q _ o0 o1).mono ?_;rintro e v ⟨rfl,rfl⟩;rw[hV'.out])|(go_at_call 143;refine(mcas_won _ b r n ws i o V H.out.mem.drew hi ho'.out V0 V1).mono ?_;rintro e v1 ⟨rfl,h1,k1⟩;have x0:=KC.out v1 k1)))
 have K:Hid _:=And.intro h1 k1;have d1:v1.cell? ⟨a,1+s,none⟩=some (.int .i64 (cnt ws s n)):=(k1.cell (p:=⟨a,1+s,none⟩) H.out.alt H.out.nb H.out.nb H.out.nr).trans (H.out.cs' s hs7);have d2:v1.cell? ⟨a,1+q,none⟩=some (.int .i64 (cnt ws q n)):=(k1.cell (p:=⟨a,1+q,none⟩) H.out.alt H.out.nb H.out.nb H.out.nr).trans (H.out.cs' q hq);have fz:∀j,v1.frozen? ⟨a,j,none⟩=false:=fun j=>(k1.frozen (p:=⟨a,j,none⟩) H.out.alt H.out.nb H.out.nb H.out.nr).trans (H.out.free j);clear h1 k1 c0 x0;obtain⟨X,hX,hX'⟩:∃X,IntKind.i64.wrap ((cnt ws s n:Int)-1)=X/\X=(cnt ws s n:Int)-1:=⟨_,rfl,by rw[IntKind.wrap_i64];have:=C1.out;have:=C3.out;omega⟩;obtain⟨Y,hY,hY'⟩:∃Y,IntKind.i64.wrap ((cnt ws q n:Int)+1)=Y/\Y=(cnt ws q n:Int)+1:=⟨_,rfl,by rw[IntKind.wrap_i64];have:=C2.out;omega⟩;have hXY:Hid (X=(cnt ws s n:Int)-1/\Y=(cnt ws q n:Int)+1):=⟨hX',hY'⟩
 have e2:(v1.setCell ⟨a,1+s,none⟩ (.int .i64 X)).cell? ⟨a,1+q,none⟩=some (.int .i64 (cnt ws q n)):=by
  rw[World.cell?_setCell_other (h:=by intro h;injection h with h1 h2;omega)];exact d2
 have hA:Hid (AAt ((v1.setCell ⟨a,1+s,none⟩ (.int .i64 X)).setCell ⟨a,1+q,none⟩ (.int .i64 Y)) a b r n (putW ws i V)):=by
  show AAt _ a b r n (putW ws i V);rw[add_comm 1 s,add_comm 1 q];exact H.out.drew.turned hi hs8.out V8 hs7 hq hsq K.out.1 K.out.2 X Y hX' hY'
 clear hX' hY'
 go_wp2_with fail
 go_region_with ((go_at_call 85;refine(state_any o _ o0 o1).mono ?_;rw[hs];rintro e v ⟨rfl,rfl⟩))
 go_wp2_with fail
 go_region
 go_wp2_with fail
 go_ret;exact⟨rfl,hA.out.of_blocks rfl rfl rfl,((((((Kept.refl _ _ _ _).drew.trans K.out.2.up).set _ _ (.inl rfl)).drew).set _ _ (.inl rfl)).drew)⟩
theorem least_some(w:World)(a b r n:Nat)(ws:Nat->Int)(h:AAt w a b r n ws)(i:Nat)(hi:i<n)(h0:ws i%8=0)(hl:∀j,j<i->ws j%8≠0) :
  Calls prog 98 #[.pointer (some ⟨a,0,none⟩)] w fun e w'=>e=.returned (.int .i64 ((i:Int)+1))/\AAt w' a b r n ws/\Kept a b r w w':=by
 have c1:=h.cs 0 (by omega);obtain⟨C,hC,hC0,hC1⟩:∃C:Nat,cnt ws ((0:Nat):Int) n=C/\0<C/\C<=n:=⟨_,rfl,cnt_pos hi h0,cnt_le _ _ _⟩;rw[hC] at c1;have hn:=h.most;have hC2:((C:Int)==0)=false:=by simp;omega
 have H:Hid (AAt w a b r n ws):=h;have HL:Hid (ws i%8=0/\∀j,j<i->ws j%8≠0):=⟨h0,hl⟩;clear h h0 hl hC;go_enter func98,ntmps98
 go_wp2_with fail
 go_loopw [3] (fun x wr=>∃k:Nat,k<=i/\x=.int .i64 ((k:Int)+1)/\AAt wr a b r n ws/\Kept a b r w wr)
  (fun x _=>(n+1:Nat)-(intOf x).toNat)
 case atStart=>exact⟨0,by omega,rfl,H.out,Kept.refl _ _ _ _⟩
 case round=>
  obtain⟨k,hk,rfl,hA,hK⟩:=hrel;have k1:(k:Int)+1<=(n:Int):=by omega
  clear c1
  go_wp2_with fail
  refine(len_any wr a b r n ws hA).mono ?_;rintro e w1 ⟨rfl,rfl⟩
  go_wp2_with fail
  refine(state_in _ a b r n ws hA k (by omega)).mono ?_;rintro e w2 ⟨rfl,hA2,hK2⟩;by_cases e:k=i
  ·subst e;rw[HL.out.1]
   go_wp2_with fail
   go_ret;exact⟨rfl,hA2,hK.trans hK2⟩
  ·have e2:(ws k%8==0)=false:=by simpa using HL.out.2 k (by omega)
   obtain⟨S,hS⟩:∃S,ws k%8=S:=⟨_,rfl⟩;rw[hS] at e2⊢
   go_wp2_with fail
   go_roundw
   case rel=>exact⟨k+1,by omega,by go_num,hA2,hK.trans hK2⟩
   case measure=>simp[intOf];omega
theorem can_range{x s:Int}(h:canB x s=true):∃q:Nat,s=q/\q<7/\x≠q/\1<=q/\x%8=x:=by
 simp only[canB,Bool.or_eq_true,Bool.and_eq_true,beq_iff_eq] at h;exact⟨s.toNat,by omega,by omega,by omega,by omega,by omega⟩
theorem alloc_ok(w:World)(a b r n:Nat)(ws:Nat->Int)(h:AAt w a b r n ws)(s:Int)(hs:canB 0 s=true)(i:Nat)(hi:i<n)(h0:ws i%8=0)(hl:∀j,j<i->ws j%8≠0) :
  Calls prog 71 #[.pointer (some ⟨a,0,none⟩),.int .i64 s] w fun e w'=>e=.returned (.tuple #[.int .i64 ((i:Int)+1),.int .i64 0])/\AAt w' a b r n (putW ws i (packI s (ws i/8+1)))/\Kept a b r w w':=by
 obtain⟨q,rfl,hq,hne,_,_⟩:=can_range hs;have HL:Hid (ws i%8=0/\∀j,j<i->ws j%8≠0):=⟨h0,hl⟩;clear h0 hl;have hi0:(((i:Int)+1)==0)=false:=by simp;omega
 have hn:=h.most;go_enter func71,ntmps71
 go_wp2_with fail
 refine(can_any 0 q _ (by decide) (wf_i64 (by omega) (by omega))).mono ?_;rw[hs];rintro e w1 ⟨rfl,hb⟩
 go_wp2_with fail
 refine(least_some w1 a b r n ws (h.grew hb) i hi HL.out.1 HL.out.2).mono ?_;rintro e w2 ⟨rfl,h2,k2⟩
 go_wp2_with fail
 refine(word_in w2 a b r n ws h2 i hi).mono ?_;rintro e w3 ⟨rfl,h3,k3⟩
 go_wp2_with fail
 refine(change_won w3 a b r n ws h3 i hi (ws i) q rfl hq (by rw[HL.out.1];omega)).mono ?_;rintro e w4 ⟨rfl,h4,k4⟩
 go_wp2_with fail
 go_ret2;exact⟨rfl,h4,(((Kept.of_below hb).trans k2).trans k3).trans k4⟩
theorem turn_ok(w:World)(a b r n:Nat)(ws:Nat->Int)(h:AAt w a b r n ws)(i:Nat)(hi:i<n)(o s:Int)(hc:canB (o%8) s=true)(ho:ws i=o) :
  Calls prog 213 #[.pointer (some ⟨a,0,none⟩),.int .i64 ((i:Int)+1),.int .u64 o,.int .i64 s] w fun e w'=>e=.returned (.tuple #[.int .u64 (packI s (o/8+1)),.int .i64 0])/\AAt w' a b r n (putW ws i (packI s (o/8+1)))/\Kept a b r w w':=by
 obtain⟨q,rfl,hq,hne,q1,_⟩:=can_range hc;obtain⟨o0,o1⟩:=h.fits i hi;rw[ho] at o0 o1;have t1:¬(q:Int)<=0:=by omega
 have t2:¬(7:Int)<=(q:Int):=by omega
 have HO:Hid (ws i=o/\o%8≠q):=⟨ho,hne⟩;obtain⟨T,hT,T0,T1⟩:∃T,o%8=T/\0<=T/\T<8:=⟨_,rfl,by omega,by omega⟩;rw[hT] at hc;clear ho hne;obtain⟨V,hV⟩:∃V,packI q (o/8+1)=V:=⟨_,rfl⟩;rw[hV];have HV:Hid (packI q (o/8+1)=V):=hV;clear hV;go_enter func213,ntmps213
 go_wp2_with fail
 refine(has_in w a b r n ws h _ (by omega) (by omega)).mono ?_;rintro e w1 ⟨rfl,rfl⟩
 go_wp2_with fail
 refine(state_any o _ o0 o1).mono ?_;rw[hT];rintro e w2 ⟨rfl,rfl⟩
 go_wp2_with fail
 refine(can_any T q _ (wf_i64 (by omega) (by omega)) (wf_i64 (by omega) (by omega))).mono ?_;rw[hc];rintro e w3 ⟨rfl,hb⟩
 go_wp2_with fail
 refine(change_won w3 a b r n ws (h.grew hb) i hi o q HO.out.1 hq HO.out.2).mono ?_;rw[HV.out];rintro e w4 ⟨rfl,h4,k4⟩
 go_wp2_with fail
 refine(word_in w4 a b r n _ h4 i hi).mono ?_;rw[putW_same];rintro e w5 ⟨rfl,h5,k5⟩
 go_wp2_with fail
 go_ret2;exact⟨rfl,h5,((Kept.of_below hb).trans k4).trans k5⟩
end
end Go.Proofs.YtjpbngiddjkjiaaGreatDoor.Ta
