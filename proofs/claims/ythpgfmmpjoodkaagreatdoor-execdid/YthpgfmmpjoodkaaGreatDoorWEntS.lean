import Derived.Test.YthpgfmmpjoodkaaGreatDoorA0
import Derived.Test.YthpgfmmpjoodkaaGreatDoorWTmF
import Derived.Shelf.Strconv.Itoa0
import Derived.Test.YthpgfmmpjoodkaaGreatDoorWWhM
import Derived.Laws.Bits64
import Derived.Laws.Bits64b
import Derived.Shelf.Spec.TrailingZeros
import Derived.Deep.LoopGhost
import Derived.Laws.CopyRow
import Derived.StillTail
import Derived.Laws.BitsAllLaws
import Derived.Maps.OwnSet
import Derived.Maps.Keyed
import Derived.Maps.AppendAt
import Derived.Maps.OwnOps
import Derived.Deep.MidRow
open Array(getElem?_setIfInBounds)
open Nat(le_refl)
namespace Go.Proofs.YthpgfmmpjoodkaaGreatDoor.Wl
set_option maxHeartbeats 8000000
set_option maxRecDepth 100000
set_option linter.unusedVariables false
section
open Go.Sort
def Srt(d:List Ent):Prop:=d.Pairwise (fun x y=>ltE y x=false)
theorem Srt.uniq{c d:List Ent}(hc:Srt c)(hd:Srt d)(hp:c.Perm d):c=d:=
 List.Perm.eq_of_pairwise (le:=fun x y=>ltE y x=false) (fun a b _ _ h1 h2=>totE a b h2 h1) hc hd hp
theorem Srt.nil:Srt []:=List.Pairwise.nil
theorem Srt.get{d:List Ent}(h:Srt d){i j:Nat}(hij:i<j)(hj:j<d.length):ltE d[j] d[i]=false:=List.pairwise_iff_getElem.1 h i j (by omega) hj hij
theorem Srt.le{d:List Ent}(h:Srt d){i j:Nat}(hij:i<=j)(hj:j<d.length):ltE d[j] d[i]=false:=by
 by_cases e:i=j
 ·subst e;exact swoE.irrefl _
 ·exact h.get (by omega) hj
def sortE(d:List Ent):List Ent:=d.mergeSort (fun x y=>!ltE y x)
theorem sortE_perm(d:List Ent):(sortE d).Perm d:=List.mergeSort_perm _ _
theorem sortE_len(d:List Ent):(sortE d).length=d.length:=(sortE_perm d).length_eq
theorem sortE_srt(d:List Ent):Srt (sortE d):=by
 have h:=List.pairwise_mergeSort (le:=fun x y=>!ltE y x) (fun a b c h1 h2=>by
   simp only[Bool.not_eq_true'] at h1 h2⊢;exact swoE.ntrans c b a h2 h1) (fun a b=>by
   cases h:ltE b a with
   | false=>simp
   | true=>simp[swoE.asymmA h]) d
 exact h.imp (fun h=>by simpa using h)
theorem sortE_of{c d:List Ent}(h:Srt c)(p:c.Perm d):c=sortE d:=h.uniq (sortE_srt d) (p.trans (sortE_perm d).symm)
theorem sortE_id{d:List Ent}(h:Srt d):sortE d=d:=(sortE_of h (List.Perm.refl _)).symm
end
section
open Go.RowKit Go.Lib Go.Sort Go.Shelf
theorem RowF.of_cells{w:World}{base g off cap:Nat}{d:List Ent}{cur:Array Value}(hb:base<=g)(hp:0<cap)(hl:d.length<=cap)(hm:cap<=maxLen)(hg:w.heap[g]?=some (.cells cur 131 (0,0)))(hs:cur.size=off+cap*2)(hc:∀j,j<d.length*2->cur[off+j]?=(flat d)[j]?) :
  RowF w base g off cap d:=by
 refine⟨hb,hp,hl,hm,cur.toList.take off,cur.toList.drop off,by rw[List.take_append_drop];exact hg,by simp;omega,by simp;omega,?_⟩;apply List.ext_getElem?;intro j;by_cases hj:j<d.length*2
 ·rw[List.getElem?_take_of_lt hj,List.getElem?_drop,<-hc j hj];simp
 ·rw[List.getElem?_eq_none (by simp;omega),List.getElem?_eq_none (by rw[flat_len];omega)]
theorem RowF.row{w:World}{base g off cap:Nat}{d:List Ent}(h:RowF w base g off cap d):RE w g off d.toArray:=by
 refine⟨encE_len,encE_one,?_,h.lt⟩;intro j hj;have hj':j<d.length*2:=by simpa using hj
 rw[get_flatK _ _ _ _ (by simpa using hj')];have hx:d[j/2]?=some (d[j/2]'(by omega)):=List.getElem?_eq_getElem (by omega);have e1:d.toArray[j/2]! = d[j/2]'(by omega):=by rw[getElem!_pos d.toArray (j/2) (by simpa using (by omega:j/2<d.length))];rfl
 obtain⟨g1,g2⟩:=flat_at d _ _ hx;constructor
 ·rw[h.cell j hj',e1];by_cases e:j=j/2*2
  ·have:j%2=0:=by omega
   rw[<-e] at g1;rw[g1,this];rfl
  ·have e':j/2*2+1=j:=by omega
   have:j%2=1:=by omega
   rw[e'] at g2;rw[g2,this];rfl
 ·exact h.frozen _
theorem RowF.sorted{w:World}{base g off cap n:Nat}{d c:List Ent}{os:Array Obj}(h:RowF w base g off cap d)(hl:c.length=d.length) :
  RowF (sortWorldK encE 2 w g off n c.toArray os) base g off cap c/\w.grownBy (sortWorldK encE 2 w g off n c.toArray os) (some g):=by
 have R:=h.row;have S:SE w g off c.toArray (sortWorldK encE 2 w g off n c.toArray os):=⟨n,os,rfl⟩;obtain⟨P,Q,m1,m2,m3,m4⟩:=h.mem
 have hW:(sortWorldK encE 2 w g off n c.toArray os).heap[g]?=some (.cells (putCells id off (flatK encE 2 c.toArray) (P++Q).toArray) 131 (0,0)):=by
  unfold sortWorldK;rw[heap_grow_old _ _ (by rw[size_putRowK];exact R.hblk)];show(w.heap.modify g _)[g]?=_;rw[Array.getElem?_modify,if_pos rfl,m1]
  rfl
 have hsz:c.toArray.size=d.toArray.size:=by simpa using hl
 refine⟨RowF.of_cells h.low h.pos (by rw[hl];exact h.le) h.big hW (by simp[putCells];omega) (fun j hj=>?_),⟨rfl,rfl,rfl,SWK.le S,fun k hk hne=>?_⟩⟩
 ·rw[<-cell_of_row _ g _ _ _ _ hW];have hu:(flat c)[j]?=some ((flat c)[j]'(by rw[flat_len];exact hj)):=List.getElem?_eq_getElem _;refine(flat_get c (fun j=>(sortWorldK encE 2 w g off n c.toArray os).cell? ⟨g,off+j,none⟩) (fun i x hx=>?_) j _ hu).trans hu.symm;have hi:i<c.toArray.size:=by simpa using (List.getElem?_eq_some_iff.1 hx).1
  have e:c.toArray[i]! = x:=by
   rw[getElem!_pos c.toArray i hi];have:=(List.getElem?_eq_some_iff.1 hx).2;simpa using this
  have h0:=se_c0 S R hsz hi;have h1:=se_c1 S R hsz hi;rw[e] at h0 h1;exact⟨h0,h1⟩
 ·unfold sortWorldK;rw[heap_grow_old _ _ (by rw[size_putRowK];exact hk)];show(w.heap.modify g _)[k]?=_;rw[Array.getElem?_modify,if_neg (fun e=>hne (by rw[e]))]
theorem ltOf_eq:ltOf cfE=ltE:=funext fun x=>funext fun y=>ltOf_cfE x y
theorem aggT:∀w,(isAgg 131).run Tryz.prog w=.ok true w:=Tryz.isAgg131
theorem sizeT:∀w,(Go.sizeOf 131).run Tryz.prog w=.ok 2 w:=Tryz.sizeOf131
theorem sort_any(v:Value)(base:Nat)(d:List Ent)(w:World)(h:OwnF w base v d)(hdl:d.length<=1000000) :
  Calls Tryz.prog 107 #[v,.func (.func 108) #[] #[]] w fun e w'=>e=.returned (.tuple #[])/\OwnF w' base v (sortE d)/\w.grownBy w' (rowB v):=by
 have eg:=enters_of Tryz.func108 (by kernel_rfl) rfl
 have none:∀(p:Option Addr)(cap:Nat),d=[]->v=.slice p 0 cap->Calls Tryz.prog 107 #[v,.func (.func 108) #[] #[]] w fun e w'=>e=.returned (.tuple #[])/\OwnF w' base v (sortE d)/\w.grownBy w' (rowB v):=fun p cap hd hv=>by
  have hc:=AnyF.slices_SortFunc_none sortT p cap (.func (.func 108) #[] #[]) w
  change Calls Tryz.prog 107 _ _ _ at hc
  rw[hv];refine hc.mono ?_;rintro e w' ⟨rfl,rfl⟩;rw[<-hv];refine⟨rfl,?_,grown_refl _ _⟩;rw[hd] at h⊢;rw[sortE_id Srt.nil];exact h
 by_cases hd:d=[]
 ·obtain⟨a,cap,hv,_⟩:=h.isL;rw[hd] at hv;exact none a cap hd hv
 ·rcases h with⟨h0,_⟩|⟨g,off,cap,rfl,hr⟩
  ·exact absurd h0 hd
  have hlen:=hr.isL.len;have R:=hr.row;have hsz:d.toArray.size<4611686018427387904:=by simp;omega
  have hc:=AnyQ.slices_SortFunc_total sortT 2 aggT sizeT encE encE_len encE_one cfE (by rw[ltOf_eq];exact swoE) 108 #[] g off cap d.toArray w eg (fun _ _ _ _ x y=>order_any x y _) R.hH R.hblk hsz (by rw[ltOf_eq];exact totE)
  change Calls Tryz.prog 107 _ _ _ at hc
  rw[ltOf_eq] at hc;rw[hr.rowB];have e1:d.toArray.size=d.length:=by simp
  rw[e1] at hc;refine hc.mono ?_;rintro e w' ⟨rfl,n,os,rfl⟩;obtain⟨r1,r2⟩:=hr.sorted (n:=n) (os:=os) (sortE_len d);exact⟨rfl,.inr ⟨g,off,cap,by rw[sortE_len],r1⟩,r2⟩
end
section
open Go.RowKit Go.Lib Go.Sort
def Hd(w:World)(B:Nat)(hd:Nat->Value):Prop:=∃cs:Array Value,w.heap[B]?=some (.cells cs 176 (0,0))/\cs.size=263/\∀k,k<263->cs[k]?=some (hd k)
theorem Hd.cell{w:World}{B:Nat}{hd:Nat->Value}(h:Hd w B hd){k:Nat}(hk:k<263):w.cell? ⟨B,k,none⟩=some (hd k):=by
 obtain⟨cs,h1,h2,h3⟩:=h;rw[cell_of_row _ _ _ _ _ _ h1,h3 k hk]
theorem Hd.lt{w:World}{B:Nat}{hd:Nat->Value}(h:Hd w B hd):B<w.heap.size:=by
 obtain⟨cs,h1,h2,h3⟩:=h;exact lt_of_block h1
theorem Hd.of_block{w w':World}{B:Nat}{hd:Nat->Value}(h:Hd w B hd)(e:w'.heap[B]?=w.heap[B]?):Hd w' B hd:=by
 obtain⟨cs,h1,h2,h3⟩:=h;exact⟨cs,e.trans h1,h2,h3⟩
theorem Hd.typ{w:World}{B:Nat}{hd:Nat->Value}(h:Hd w B hd):∃cs,w.heap[B]?=some (.cells cs 176 (0,0)):=by
 obtain⟨cs,h1,_⟩:=h;exact⟨cs,h1⟩
end
section
open Go.RowKit Go.Lib Go.Sort
theorem IsL.at{w:World}{a:Option Addr}{cap:Nat}{d:List Ent}(h:IsL w a cap d){i:Nat}(hi:i<d.length):∃b off,a=some ⟨b,off,none⟩/\∀W,Grown w W->∀n os,(grow (W.drewN n) os).cell? ⟨b,off+i*2,none⟩=some (.int .u64 d[i].1)/\(grow (W.drewN n) os).cell? ⟨b,off+i*2+1,none⟩=some (.int .i64 d[i].2):=by
 obtain⟨b,off,e,hb,h1,h2⟩:=h.elem i d[i] (List.getElem?_eq_getElem hi);refine⟨b,off,e,fun W hW n os=>?_⟩;have g:Grown w (grow (W.drewN n) os):=hW.trans ⟨n,os,rfl⟩;exact⟨(g.below.cell (p:=⟨b,off+i*2,none⟩) hb).trans h1,(g.below.cell (p:=⟨b,off+i*2+1,none⟩) hb).trans h2⟩
end
section
open Go.RowKit Go.Lib Go.Sort
theorem clone_any(v:Value)(base:Nat)(d:List Ent)(w:World)(h:OwnF w base v d)(hd:d.length<=100000) :
  Calls Tryz.prog 106 #[v] w fun r w'=>∃v',r=.returned v'/\OwnF w' w.heap.size v' d/\Below w.heap.size w w'/\∀k,rowB v'=some k->w.heap.size<=k:=by
 have q22:∀(w:World)(a:Option Addr)(n c n' c':Nat),(binOp .eql 39 (.slice a n c) (.slice none n' c')).run Tryz.prog w=.ok (.bool a.isNone) w:=fun w a n c n' c'=>Lib.run_eql_slice_nil w _ _ a n c n' c' Tryz.underlying39;obtain⟨a,cap,rfl,ha,hc1,hc2,hL⟩:=h.isL;rcases ha with⟨rfl,rfl⟩|⟨g,off,rfl⟩
 ·obtain rfl:d=[]:=List.length_eq_zero_iff.1 (by omega);go_enter Tryz.func106,Tryz.ntmps106
  go_wp2
  go_ret;exact⟨_,rfl,OwnF.nil _ _,Below.refl _ _,fun k hk=>by cases hk⟩
 ·obtain⟨v',w',hr,o,k1,k2⟩:=appF (d:=[]) (c:=d) (OwnF.zero (w.alloc (.cells #[] 131)) w.heap.size w.heap.size 0) (hL.below ((Below.refl _ _).alloc (le_refl _) _)) (by simp;omega) (by simp) 39
  have F:Aside (OwnF w' w.heap.size v' d/\Below w.heap.size w w'/\∀k,rowB v'=some k->w.heap.size<=k):=by
   refine⟨o,((Below.refl _ _).alloc (le_refl _) _).trans ⟨k1.os,k1.tape,k1.output,k1.size,fun k hk=>k1.block k (by simp;omega) (fun e=>by cases e)⟩,fun k hk=>?_⟩;rcases k2 k hk with h|h
   ·cases h
   ·simp at h;omega
  clear o k1 k2 h hL;go_enter Tryz.func106,Tryz.ntmps106
  go_wp2_with (at_builtin;refine Lib.wpList_append_run _ rfl _ _ 39 39 rfl _ _ rfl rfl v' w' hr ?_)
  go_ret;exact⟨_,rfl,F.out⟩
end
section
open Go.RowKit Go.Lib Go.Sort
structure Fr(X:Nat->Prop)(w w':World):Prop where
 os:w'.os=w.os
 tape:w'.tape=w.tape
 output:w'.output=w.output
 size:w.heap.size<=w'.heap.size
 block:∀k,k<w.heap.size->¬X k->w'.heap[k]?=w.heap[k]?
theorem Fr.of_grown{row:Option Nat}{w w':World}(h:w.grownBy w' row):Fr (fun k=>row=some k) w w':=⟨h.os,h.tape,h.output,h.size,fun j hj hx=>h.block j hj (fun e=>hx e.symm)⟩
theorem Fr.below{X:Nat->Prop}{w w':World}(h:Below w.heap.size w w'):Fr X w w':=⟨h.os,h.tape,h.output,h.size,fun j hj _=>h.block j hj⟩
theorem Fr.toBelow{X:Nat->Prop}{w w':World}(h:Fr X w w'){b:Nat}(hb:∀k,X k->b<=k)(hw:b<=w.heap.size):Below b w w':=⟨h.os,h.tape,h.output,h.size,fun j hj=>h.block j (by omega) (fun hx=>by have:=hb j hx;omega)⟩
theorem Hd.fr{X:Nat->Prop}{w w':World}{B:Nat}{hd:Nat->Value}(h:Hd w B hd)(f:Fr X w w')(hB:¬X B):Hd w' B hd:=h.of_block (f.block B h.lt hB)
theorem OwnF.fr{X:Nat->Prop}{w w':World}{base:Nat}{v:Value}{d:List Ent}(h:OwnF w base v d)(f:Fr X w w')(hk:∀k,rowB v=some k->¬X k):OwnF w' base v d:=h.of_block fun k e=>f.block k (h.rowLt e).2 (hk k e)
theorem Hd.ne{w:World}{B base:Nat}{hd:Nat->Value}{v:Value}{d:List Ent}(h:Hd w B hd)(o:OwnF w base v d):rowB v≠some B:=fun e=>by
 obtain⟨cs,h1⟩:=o.rowT e;obtain⟨ds,h2⟩:=h.typ;rw[h1] at h2;simp only[Option.some.injEq,Obj.cells.injEq] at h2;exact absurd h2.2.1 (by decide)
end
section
open Go.RowKit Go.Lib Go.Sort Go.WideMaps Go.Maps
abbrev wfI(a:Int):Prop:=(Lit.int .i64 a).wf=true
def heldR(v:Value):Option (DataW Value×List MemPlace):=some (.held v,[])
def DuM(w:World)(M:Nat)(f:Int->Option Int)(n:Nat):Prop:=
 ∃D:DataW Value,w.ownsMap Tryz.prog 3 heldR M n D/\Maps.size D=n/\∀i,wfI i->Maps.has D (.int .i64 i)=(f i).isSome/\∀v,f i=some v->∀z,D.atKey (.int .i64 i) z=.held (.int .u64 v)
theorem DuM.lt{w:World}{M n:Nat}{f:Int->Option Int}(h:DuM w M f n):M<w.heap.size:=by
 obtain⟨D,h1,_⟩:=h;exact h1.lt
theorem DuM.isMap{w:World}{M n:Nat}{f:Int->Option Int}(h:DuM w M f n):∃es c,w.heap[M]?=some (.map es c):=by
 obtain⟨D,⟨es,c,hb,_⟩,_⟩:=h;exact⟨es,c,hb⟩
theorem DuM.of_block{w w':World}{M n:Nat}{f:Int->Option Int}(h:DuM w M f n)(e:w'.heap[M]?=w.heap[M]?):DuM w' M f n:=by
 obtain⟨D,⟨es,c,hb,r⟩,h3⟩:=h;exact⟨D,⟨es,c,e.trans hb,r⟩,h3⟩
theorem DuM.made(w:World):DuM (w.alloc (.map #[] 0)) w.heap.size (fun _=>none) 0:=
 ⟨.map [],World.ownsMap_made w _ _ _,rfl,fun i _=>⟨rfl,fun v hv=>by cases hv⟩⟩
structure WhA(w:World)(B M base:Nat)(hd:Nat->Value)(now:Nat)(u:Nat->Nat)(c:Nat->Nat->List Ent)(far:List Ent)(f:Int->Option Int)(n:Nat):Prop where
 head:Hd w B hd
 h0:hd 0=.int .u64 now
 h1:hd 1=.map (some M)
 hu:∀l,l<4->hd (2+l*65)=.int .u64 (u l)
 slot:∀l s,l<4->s<64->OwnF w base (hd (2+l*65+1+s)) (c l s)
 far:OwnF w base (hd 262) far
 map:DuM w M f n
 inj:∀i j,i<263->j<263->i≠j->∀k,rowB (hd i)=some k->rowB (hd j)≠some k
 ub:∀l,l<4->u l<B64
 nb:now<B64
 lowB:base<=B
 lowM:base<=M
def foot(B M:Nat)(hd:Nat->Value)(k:Nat):Prop:=k=B\/k=M\/∃i,i<263/\rowB (hd i)=some k
variable {w w':World}{B M base now n:Nat}{hd:Nat->Value}{u:Nat->Nat}{c:Nat->Nat->List Ent}{far:List Ent}{f:Int->Option Int}
theorem cellCase(i:Nat)(hi:i<263):i=0\/i=1\/(∃l,l<4/\i=2+l*65)\/(∃l s,l<4/\s<64/\i=2+l*65+1+s)\/i=262:=by
 by_cases h0:i=0;· exact .inl h0
 by_cases h1:i=1;· exact .inr (.inl h1)
 by_cases h2:i=262;· exact .inr (.inr (.inr (.inr h2)))
 by_cases h3:(i-2)%65=0
 ·exact .inr (.inr (.inl ⟨(i-2)/65,by omega,by omega⟩))
 ·exact .inr (.inr (.inr (.inl ⟨(i-2)/65,(i-2)%65-1,by omega,by omega,by omega⟩)))
theorem WhA.own(h:WhA w B M base hd now u c far f n){i:Nat}(hi:i<263){k:Nat}(hk:rowB (hd i)=some k):∃d,OwnF w base (hd i) d:=by
 rcases cellCase i hi with rfl|rfl|⟨l,hl,rfl⟩|⟨l,s,hl,hs,rfl⟩|rfl
 ·rw[h.h0] at hk;cases hk
 ·rw[h.h1] at hk;cases hk
 ·rw[h.hu l hl] at hk;cases hk
 ·exact⟨_,h.slot l s hl hs⟩
 ·exact⟨_,h.far⟩
theorem WhA.rowLt(h:WhA w B M base hd now u c far f n){i:Nat}(hi:i<263){k:Nat}(hk:rowB (hd i)=some k):base<=k/\k<w.heap.size/\k≠B/\k≠M:=by
 obtain⟨d,o⟩:=h.own hi hk;refine⟨(o.rowLt hk).1,(o.rowLt hk).2,fun e=>Hd.ne h.head o (by rw[hk,e]),fun e=>?_⟩;obtain⟨cs,h1⟩:=o.rowT hk;obtain⟨es,cl,h2⟩:=h.map.isMap;rw[<-e,h1] at h2
 cases h2
theorem WhA.footLt(h:WhA w B M base hd now u c far f n){k:Nat}(hk:foot B M hd k):base<=k/\k<w.heap.size:=by
 rcases hk with rfl|rfl|⟨i,hi,hk⟩
 ·exact⟨h.lowB,h.head.lt⟩
 ·exact⟨h.lowM,h.map.lt⟩
 ·exact⟨(h.rowLt hi hk).1,(h.rowLt hi hk).2.1⟩
theorem WhA.fr(h:WhA w B M base hd now u c far f n){X:Nat->Prop}(hf:Fr X w w')(hx:∀k,foot B M hd k->¬X k):WhA w' B M base hd now u c far f n:=
 ⟨h.head.fr hf (hx B (.inl rfl)),h.h0,h.h1,h.hu,fun l s hl hs=>(h.slot l s hl hs).fr hf (fun k hk=>hx k (.inr (.inr ⟨_,by omega,hk⟩))),h.far.fr hf (fun k hk=>hx k (.inr (.inr ⟨_,by omega,hk⟩))),h.map.of_block (hf.block M h.map.lt (hx M (.inr (.inl rfl)))),h.inj,h.ub,h.nb,h.lowB,h.lowM⟩
end
section
open Go.RowKit Go.Lib Go.Sort
theorem slt_lt'(now D:Nat):(plc now D).2<64:=slt_lt _ _
end
section
open Go.Lib Go.Sort
theorem perm_of_mem{a b:List Ent}(ha:a.Nodup)(hb:b.Nodup)(h:∀x,x∈a↔x∈b):a.Perm b:=by
 rw[List.perm_iff_count];intro x;have h1:=List.nodup_iff_count.1 ha x;have h2:=List.nodup_iff_count.1 hb x;have h3:0<a.count x↔0<b.count x:=by rw[List.count_pos_iff,List.count_pos_iff];exact h x
 omega
theorem nodup_of_ids{T:List Ent}(h:(T.map Prod.snd).Nodup):T.Nodup:=List.Pairwise.of_map Prod.snd (fun a b h e=>h (by rw[e])) h
structure WhL(now:Nat)(u:Nat->Nat)(c:Nat->Nat->List Ent)(far:List Ent)(S:Ent->Prop):Prop where
 rng:∀x,S x->∃D:Nat,x.1=(D:Int)/\D<B64
 slotM:∀l s,l<4->s<64->∀x,x∈c l s↔S x/\plc now x.1.toNat=(l,s)
 slotN:∀l s,l<4->s<64->(c l s).Nodup
 farM:∀x,x∈far↔S x/\4<=(plc now x.1.toNat).1
 farS:Srt far
 farN:far.Nodup
 used:∀l s,l<4->s<64->(u l).testBit s=!(c l s).isEmpty
variable {now:Nat}{u:Nat->Nat}{c:Nat->Nat->List Ent}{far:List Ent}{S S':Ent->Prop}{u':Nat->Nat}{c':Nat->Nat->List Ent}{far':List Ent}{t:Ent}{D:Nat}
theorem WhL.at(h:WhL now u c far S)(htD:t.1=(D:Int))(ht:S t):((plc now D).1<4->(c (plc now D).1 (plc now D).2).Nodup/\t∈c (plc now D).1 (plc now D).2)/\(4<=(plc now D).1->far.Nodup/\t∈far):=by
 have eD:t.1.toNat=D:=by omega
 refine⟨fun hl=>⟨h.slotN _ _ hl (slt_lt' now D),(h.slotM _ _ hl (slt_lt' now D) t).2 ⟨ht,by rw[eD]⟩⟩,fun hl=>⟨h.farN,(h.farM t).2 ⟨ht,by rw[eD];exact hl⟩⟩⟩
end
section
open Go.RowKit Go.Lib Go.Sort Go.WideMaps Go.Maps
structure TOk(T:List Ent):Prop where
 srt:Srt T
 ids:(T.map Prod.snd).Nodup
 wf:∀x∈T,wfI x.2
 len:T.length<=1000
def Whl(w:World)(F:Nat->Prop)(B base now:Nat)(T:List Ent):Prop:=
 ∃M hd u c far f,WhA w B M base hd now u c far f T.length/\WhL now u c far (fun x=>x∈T)/\(∀i v,f i=some v↔(v,i)∈T)/\TOk T/\∀k,F k↔foot B M hd k
variable {w w':World}{F:Nat->Prop}{B base now:Nat}{T:List Ent}
theorem Whl.low(h:Whl w F B base now T):∀k,F k->base<=k/\k<w.heap.size:=fun k hk=>by
 obtain⟨M,hd,u,c,far,f,h1,h2,h3,h4,h5⟩:=h;exact h1.footLt ((h5 k).1 hk)
theorem Whl.fr(h:Whl w F B base now T){X:Nat->Prop}(hf:Fr X w w')(hx:∀k,F k->¬X k):Whl w' F B base now T:=by
 obtain⟨M,hd,u,c,far,f,h1,h2,h3,h4,h5⟩:=h;exact⟨M,hd,u,c,far,f,h1.fr hf (fun k hk=>hx k ((h5 k).2 hk)),h2,h3,h4,h5⟩
theorem Whl.below(h:Whl w F B base now T)(hw:Below w.heap.size w w'):Whl w' F B base now T:=h.fr (Fr.below (X:=fun _=>False) hw) (fun _ _=>id)
theorem len_le{d:List Ent}(hd:d.Nodup)(hs:∀x∈d,x∈T)(hT:T.length<=1000):d.length<=1000:=Nat.le_trans (List.Nodup.length_le_of_subset hd hs) hT
def isNil:Option Value->Bool
 | some (.slice none 0 0)=>true
 | _=>false
def isZero:Option Value->Bool
 | some (.int .u64 0)=>true
 | _=>false
theorem isNil_eq{v:Option Value}(h:isNil v=true):v=some (.slice none 0 0):=by
 unfold isNil at h
 split at h
 ·rfl
 ·cases h
theorem isZero_eq{v:Option Value}(h:isZero v=true):v=some (.int .u64 0):=by
 unfold isZero at h
 split at h
 ·rfl
 ·cases h
theorem zc_size:Tryz.zeroCells176.size=263:=by kernel_rfl
theorem zc_used:(List.range 4).all (fun l=>isZero Tryz.zeroCells176[2+l*65]?)=true:=by kernel_rfl
theorem zc_slot:(List.range 4).all (fun l=>(List.range 64).all (fun s=>isNil Tryz.zeroCells176[2+l*65+1+s]?))=true:=by kernel_rfl
theorem zc_far:isNil Tryz.zeroCells176[262]?=true:=by kernel_rfl
theorem new_any(now:Nat)(hn:now<B64)(w:World) :
  Calls Tryz.prog 38 #[.int .u64 now] w fun e w'=>e=.returned (.pointer (some ⟨w.heap.size+1,0,none⟩))/\Below w.heap.size w w'/\∃F,Whl w' F (w.heap.size+1) w.heap.size now []/\∀k,F k->w.heap.size<=k:=by
 have hmm:=@run_makeMap Tryz.prog;obtain⟨S,hS⟩:∃S,w.heap.size=S:=⟨_,rfl⟩;obtain⟨cs,hcs⟩:∃cs,(Tryz.zeroCells176.setIfInBounds 0 (.int .u64 now)).setIfInBounds 1 (.map (some S))=cs:=⟨_,rfl⟩;obtain⟨w2,hw2⟩:∃w2,(w.alloc (.map #[] 0)).alloc (.cells cs 176)=w2:=⟨_,rfl⟩;have b1:Below w.heap.size w (w.alloc (.map #[] 0)):=(Below.refl _ _).alloc (le_refl _) _;have b2:Below w.heap.size w w2:=by rw[<-hw2];exact b1.alloc b1.size _
 have hsz:cs.size=263:=by rw[<-hcs,Array.size_setIfInBounds,Array.size_setIfInBounds];exact zc_size
 have cell:∀k,2<=k->cs[k]?=Tryz.zeroCells176[k]?:=fun k hk=>by
  rw[<-hcs,getElem?_setIfInBounds,if_neg (by omega),getElem?_setIfInBounds,if_neg (by omega)]
 have c0:cs[0]?=some (.int .u64 now):=by
  rw[<-hcs,getElem?_setIfInBounds,if_neg (by omega),getElem?_setIfInBounds,if_pos rfl,if_pos (by rw[zc_size];omega)]
 have c1:cs[1]?=some (.map (some S)):=by
  rw[<-hcs,getElem?_setIfInBounds,if_pos rfl,if_pos (by rw[Array.size_setIfInBounds,zc_size];omega)]
 have cu:∀l,l<4->cs[2+l*65]?=some (.int .u64 0):=fun l hl=>by
  rw[cell _ (by omega)];exact isZero_eq (List.all_eq_true.1 zc_used l (List.mem_range.2 hl))
 have cl:∀l s,l<4->s<64->cs[2+l*65+1+s]?=some (.slice none 0 0):=fun l s hl hs=>by
  rw[cell _ (by omega)];exact isNil_eq (List.all_eq_true.1 (List.all_eq_true.1 zc_slot l (List.mem_range.2 hl)) s (List.mem_range.2 hs))
 have cf:cs[262]?=some (.slice none 0 0):=by rw[cell _ (by omega)];exact isNil_eq zc_far
 have hB:w2.heap[S+1]?=some (.cells cs 176 (0,0)):=by
  rw[<-hw2,<-hS];have:=heap_alloc_new (w.alloc (.map #[] 0)) (.cells cs 176);simpa using this
 have hM:w2.heap[S]?=(w.alloc (.map #[] 0)).heap[S]?:=by rw[<-hw2];exact heap_alloc_old _ _ (by rw[<-hS];simp)
 have dm:DuM w2 S (fun _=>none) 0:=by
  have:=DuM.made w;rw[hS] at this;exact this.of_block hM
 have wa:WhA w2 (S+1) S S (fun k=>(cs[k]?).getD undef) now (fun _=>0) (fun _ _=>[]) [] (fun _=>none) 0:=by
  have rb:∀i,i<263->rowB ((cs[i]?).getD undef)=none:=fun i hi=>by
   rcases cellCase i hi with rfl|rfl|⟨l,hl,rfl⟩|⟨l,s,hl,hs,rfl⟩|rfl
   ·rw[c0];rfl
   ·rw[c1];rfl
   ·rw[cu l hl];rfl
   ·rw[cl l s hl hs];rfl
   ·rw[cf];rfl
  refine⟨⟨cs,hB,hsz,fun k hk=>(by show cs[k]?=some ((cs[k]?).getD undef);rw[Array.getElem?_eq_getElem (by omega)];rfl)⟩,by rw[c0];rfl,by rw[c1];rfl,fun l hl=>(by rw[cu l hl];rfl),fun l s hl hs=>(by rw[cl l s hl hs];exact OwnF.nil _ _),by rw[cf];exact OwnF.nil _ _,dm,fun i j hi hj _ k hk=>(by rw[rb i hi] at hk;cases hk),fun l hl=>(by decide),hn,by omega,le_refl _⟩
 have wl:WhL now (fun _=>0) (fun _ _=>[]) [] (fun x=>x∈([]:List Ent)):=
  ⟨fun x hx=>(by cases hx),fun l s _ _ x=>(by simp),fun _ _ _ _=>(by simp),fun x=>(by simp),Srt.nil,by simp,fun l s _ _=>(by simp)⟩
 have FIN:Aside (Below w.heap.size w w2/\∃F,Whl w2 F (S+1) S now []/\∀k,F k->S<=k):=
  ⟨b2,foot (S+1) S (fun k=>(cs[k]?).getD undef),⟨S,_,_,_,_,_,wa,wl,fun i v=>(by simp),⟨Srt.nil,by simp,fun x hx=>(by cases hx),by simp⟩,fun k=>Iff.rfl⟩,fun k hk=>(wa.footLt hk).1⟩
 have HW2:Hid _:=hw2;have HCS:Hid _:=hcs;clear b1 b2 hsz cell c0 c1 cu cl cf hB hM dm wa wl hw2 hcs hn;rw[hS];go_enter Tryz.func38,Tryz.ntmps38
 go_wp2
 rw[HCS.out,HW2.out];go_ret;refine⟨rfl,by rw[<-hS];exact FIN.out.1,FIN.out.2⟩
theorem now_any(h:Whl w F B base now T):Calls Tryz.prog 50 #[.pointer (some ⟨B,0,none⟩)] w fun e w'=>e=.returned (.int .u64 now)/\w'=w:=by
 obtain⟨M,hd,u,c,far,f,h1,h2,h3,h4,h5⟩:=h;have c0:=h1.head.cell (k:=0) (by omega);rw[h1.h0] at c0;clear h1 h2 h3 h4 h5;go_enter Tryz.func50,Tryz.ntmps50
 go_wp2
 go_ret;exact⟨rfl,rfl⟩
end
section
open Go.RowKit Go.Lib Go.Sort Go.WideMaps Go.Maps
section
variable {now:Nat}{u:Nat->Nat}{c:Nat->Nat->List Ent}{far:List Ent}{T:List Ent}
theorem plc_slot(now e:Nat):(plc now e).2<64:=by
 unfold plc slt;exact Nat.mod_lt _ (by decide)
end
end
section
open Go.RowKit Go.Lib Go.Sort Go.WideMaps Go.Maps
def accL(c:Nat->Nat->List Ent)(far:List Ent):Nat->List Ent
 | 0=>far
 | m+1=>accL c far m++c (m/64) (m%64)
section
variable {now:Nat}{u:Nat->Nat}{c:Nat->Nat->List Ent}{far:List Ent}{T:List Ent}
theorem accL_mem(c:Nat->Nat->List Ent)(far:List Ent)(x:Ent):∀m,x∈accL c far m↔x∈far\/∃i,i<m/\x∈c (i/64) (i%64)
 | 0=>by simp[accL]
 | m+1=>by
  rw[accL,List.mem_append,accL_mem c far x m];constructor
  ·rintro((h|⟨i,h1,h2⟩)|h)
   ·exact .inl h
   ·exact .inr ⟨i,by omega,h2⟩
   ·exact .inr ⟨m,by omega,h⟩
  ·rintro(h|⟨i,h1,h2⟩)
   ·exact .inl (.inl h)
   ·by_cases e:i=m
    ·subst e;exact .inr h2
    ·exact .inl (.inr ⟨i,by omega,h2⟩)
theorem WhL.accN(h:WhL now u c far (fun x=>x∈T)):∀m,m<=256->(accL c far m).Nodup/\∀x∈accL c far m,x∈T
 | 0,_=>⟨h.farN,fun x hx=>((h.farM x).1 hx).1⟩
 | m+1,hm=>by
  obtain⟨h1,h2⟩:=h.accN m (by omega);have hl:m/64<4:=by omega
  have hs:m%64<64:=by omega
  rw[accL];refine⟨List.nodup_append.2 ⟨h1,h.slotN _ _ hl hs,fun a ha b hb e=>?_⟩,fun x hx=>?_⟩
  ·subst e;obtain⟨_,p1⟩:=(h.slotM _ _ hl hs a).1 hb;rcases (accL_mem c far a m).1 ha with q|⟨i,q1,q2⟩
   ·have:=((h.farM a).1 q).2;rw[p1] at this;simp only at this;omega
   ·obtain⟨_,p2⟩:=(h.slotM _ _ (by omega) (by omega) a).1 q2;rw[p1] at p2;injection p2 with e1 e2
    omega
  ·rcases List.mem_append.1 hx with q|q
   ·exact h2 x q
   ·exact((h.slotM _ _ hl hs x).1 q).1
theorem WhL.accAll(h:WhL now u c far (fun x=>x∈T))(hT:TOk T):sortE (accL c far 256)=T:=by
 obtain⟨h1,h2⟩:=h.accN 256 (le_refl _);refine(sortE_of hT.srt (perm_of_mem (nodup_of_ids hT.ids) h1 (fun x=>⟨fun hx=>?_,h2 x⟩))).symm;rw[accL_mem];by_cases hc:(plc now x.1.toNat).1<4
 ·right
  have hs:=plc_slot now x.1.toNat;refine⟨(plc now x.1.toNat).1*64+(plc now x.1.toNat).2,by omega,?_⟩;rw[show((plc now x.1.toNat).1*64+(plc now x.1.toNat).2)/64=(plc now x.1.toNat).1 by omega,show((plc now x.1.toNat).1*64+(plc now x.1.toNat).2)%64=(plc now x.1.toNat).2 by omega];exact(h.slotM _ _ hc hs x).2 ⟨hx,rfl⟩
 ·left
  exact(h.farM x).2 ⟨hx,by omega⟩
end
def slotsV(hd:Nat->Value)(l:Nat):List Value:=(List.range 64).map (fun s=>hd (2+l*65+1+s))
theorem slotsV_at(hd:Nat->Value)(l:Nat){s:Nat}(hs:s<64):(slotsV hd l)[s]?=some (hd (2+l*65+1+s)):=by
 unfold slotsV;rw[List.getElem?_map,List.getElem?_range hs]
 rfl
theorem idx_any(hd:Nat->Value)(l:Nat){s:Nat}(hs:s<64){a:Option Addr}{n cap:Nat}(e:hd (2+l*65+1+s)=.slice a n cap)(w:World):(Instr.index 171 (.agg (slotsV hd l).toArray) (.int .i64 (s:Int))).run Tryz.prog w=.ok (.slice a n cap) w:=by
 have hn:(0:Int)<=(s:Int)/\(s:Int)<64:=by omega
 have hg:=slotsV_at hd l hs;rw[e] at hg;simp[Instr.index,run_underlying Tryz.underlying171,asIntOf,hn,hg,go_sem];intro h;omega
end
section
open Go.RowKit Go.Lib Go.Sort Go.WideMaps Go.Maps
theorem slots_range{hd:Nat->Value}{w:World}{B l:Nat}(h:Hd w B hd)(hl:l<4):w.rangeAt B (2+l*65+1) (slotsV hd l):=fun j v hj=>by
 have hj64:j<64:=by
  have:=(List.getElem?_eq_some_iff.1 hj).1;simpa [slotsV] using this
 rw[slotsV_at hd l hj64] at hj;rw[<-hj];exact h.cell (k:=2+l*65+1+j) (by omega)
theorem all_any{w:World}{F:Nat->Prop}{B base now:Nat}{T:List Ent}(h:Whl w F B base now T) :
  Calls Tryz.prog 56 #[.pointer (some ⟨B,0,none⟩)] w fun e w'=>∃v,e=.returned v/\OwnF w' w.heap.size v T/\Below w.heap.size w w':=by
 obtain⟨M,hd,u,c,far,f,h1,h2,h3,h4,h5⟩:=h;have cF:=h1.head.cell (k:=262) (by omega);obtain⟨fa,fc,ef,-,-,-,fL⟩:=h1.far.isL;rw[ef] at cF;have fl:far.length<=1000:=len_le h2.farN (fun x hx=>((h2.farM x).1 hx).1) h4.len
 have CL:Aside (Calls Tryz.prog 106 #[.slice fa far.length fc] w fun r w'=>∃a n cap,r=.returned (.slice a n cap)/\OwnF w' w.heap.size (.slice a n cap) (accL c far 0)/\Below w.heap.size w w'):=by
  refine Calls.mono (clone_any (.slice fa far.length fc) base far w (by rw[<-ef];exact h1.far) (by omega)) ?_;rintro e w' ⟨v',rfl,q1,q2,q3⟩;obtain⟨a,cap,rfl,-⟩:=q1.isL;exact⟨a,_,cap,rfl,q1,q2⟩
 have W:Aside (WhA w B M base hd now u c far f T.length/\WhL now u c far (fun x=>x∈T)/\TOk T):=⟨h1,h2,h4⟩;clear h1 h2 h3 h4 h5 fl fL ef;go_enter Tryz.func56,Tryz.ntmps56
 go_wp2_with fail
 refine CL.out.mono ?_;rintro e w1 ⟨a1,n1,c1,rfl,o1,b1⟩;have O1:Aside (OwnF w1 w.heap.size (.slice a1 n1 c1) (accL c far 0)/\Below w.heap.size w w1):=⟨o1,b1⟩;clear o1 b1 CL
 go_wp2_with fail
 go_loopg [3,4,6,12] 4 (fun kx s3 s4 s6 s12 wr=>∃(l:Nat)(a:Option Addr)(n cap:Nat),s12=.int .i64 l/\s3=.slice a n cap/\l<=4/\4-l<=kx/\Aside (OwnF wr w.heap.size (.slice a n cap) (accL c far (l*64))/\Below w.heap.size w wr))
 case atStart=>exact⟨0,a1,n1,c1,rfl,rfl,by omega,by omega,O1⟩
 case round=>
  clear O1;obtain⟨l,a2,n2,c2,rfl,rfl,hl,hkx,O⟩:=hrel;by_cases hlt:l<4
  ·have hz:(l:Int)<4:=by omega
   have rg:wr.rangeAt B (2+l*65+1) (slotsV hd l):=slots_range (W.out.1.head.of_block (O.out.2.block B W.out.1.head.lt)) hlt;have O1:Aside (OwnF wr w.heap.size (.slice a2 n2 c2) (accL c far (l*64+0))/\Below w.heap.size w wr):=O.out;clear O;go_upto_region 5 with fail
   refine wp_region_lit ?_
   iterate 6
    refine wpList_plain rfl (fun K hK=>?_);go_simp
    refine hK _ _ ?_;clear hK K;try simp only[Act.put,sA,sB,sC]
   refine wpList_load_mid rfl 171 _ rfl B (2+l*65+1) rfl (slotsV hd l) _ rg Tryz.underlying171 rfl (by kernel_rfl) ?_;try simp only[Act.put,sA,sB,sC]
   obtain⟨SV,hSV⟩:∃SV,(slotsV hd l).toArray=SV:=⟨_,rfl⟩;rw[hSV];refine wpList_plain rfl (fun K hK=>?_);go_simp
   refine hK _ _ ?_;clear hK K;try simp only[Act.put,sA,sB,sC]
   refine wpList_nil ?_
   have IX:Aside (∀(s:Nat),s<64->∃a n cap,(∀W,(Instr.index 171 (.agg SV) (.int .i64 (s:Int))).run Tryz.prog W=.ok (.slice a n cap) W)/\n=(c l s).length/\IsL w a cap (c l s)):=fun s hs=>by
    obtain⟨a,cap,e,-,-,-,il⟩:=(W.out.1.slot l s hlt hs).isL;exact⟨a,_,cap,fun W=>by rw[<-hSV];exact idx_any hd l hs e W,rfl,il⟩
   clear hSV rg
   go_wp2_with fail
   go_loopg [3,6,22] 64 (fun ky s3 s6 s22 wr=>∃(s:Nat)(a:Option Addr)(n cap:Nat),s22=.int .i64 s/\s3=.slice a n cap/\s<=64/\64-s<=ky/\Aside (OwnF wr w.heap.size (.slice a n cap) (accL c far (l*64+s))/\Below w.heap.size w wr))
   case atStart=>exact⟨0,a2,n2,c2,rfl,rfl,by omega,by omega,O1⟩
   case round=>
    clear O1;obtain⟨s,a3,n3,c3,rfl,rfl,hs,hky,O⟩:=hrel;by_cases hst:s<64
    ·have hzs:(s:Int)<64:=by omega
     obtain⟨xa,xn,xc,ix,hxn,il⟩:=IX.out s hst;have ixw:=ix wr;obtain⟨nd,sub⟩:=W.out.2.1.accN (l*64+s) (by omega);have hal:(accL c far (l*64+s)).length<=1000:=len_le nd sub W.out.2.2.len;have hcl:(c l s).length<=1000:=len_le (W.out.2.1.slotN l s hlt hst) (fun x hx=>((W.out.2.1.slotM l s hlt hst x).1 hx).1) W.out.2.2.len;obtain⟨v',w',hr,o',g',-⟩:=appF O.out.1 (il.below O.out.2) (by omega) O.out.2.size 39;rw[<-hxn] at hr
     have ea:accL c far (l*64+s)++c l s=accL c far (l*64+(s+1)):=by
      show _=accL c far (l*64+s)++c ((l*64+s)/64) ((l*64+s)%64);rw[show(l*64+s)/64=l by omega,show(l*64+s)%64=s by omega]
     rw[ea] at o';have bl:Below w.heap.size w w':=O.out.2.trans ((Fr.of_grown g').toBelow (fun k hk=>(O.out.1.rowLt hk).1) O.out.2.size);obtain⟨pa,pc,e',-⟩:=o'.isL;obtain⟨pn,hpn⟩:∃pn,(accL c far (l*64+(s+1))).length=pn:=⟨_,rfl⟩;rw[hpn] at e';subst e';have O2:Aside (OwnF w' w.heap.size (.slice pa pn pc) (accL c far (l*64+(s+1)))/\Below w.heap.size w w'):=⟨o',bl⟩;clear ix hxn il nd sub hal hcl o' g' ea bl hpn O
     go_wp2_with (at_builtin;refine Lib.wpList_append_run wr rfl _ _ 39 39 rfl _ _ rfl rfl _ w' hr ?_)
     go_roundg (64-(s+1))
     case measure=>omega
     case rel=>exact⟨s+1,pa,pn,pc,by go_num,rfl,by omega,le_refl _,O2⟩
    ·have e0:s=64:=by omega
     subst e0
     have O2:Aside (OwnF wr w.heap.size (.slice a3 n3 c3) (accL c far ((l+1)*64))/\Below w.heap.size w wr):=by
      have:=O.out;rw[show l*64+64=(l+1)*64 by omega] at this;exact this
     clear O IX
     go_wp2_with fail
     go_roundg (4-(l+1))
     case measure=>omega
     case rel=>exact⟨l+1,a3,n3,c3,by go_num,rfl,by omega,le_refl _,O2⟩
  ·have e0:l=4:=by omega
   subst e0;obtain⟨nd,sub⟩:=W.out.2.1.accN 256 (le_refl _);have hal:(accL c far 256).length<=1000:=len_le nd sub W.out.2.2.len
   have ST:Aside (Calls Tryz.prog 107 #[.slice a2 n2 c2,.func (.func 108) #[] #[]] wr fun e w'=>e=.returned (.tuple #[])/\OwnF w' w.heap.size (.slice a2 n2 c2) T/\Below w.heap.size w w'):=by
    refine Calls.mono (sort_any (.slice a2 n2 c2) w.heap.size (accL c far 256) wr O.out.1 (by omega)) ?_;rintro e w' ⟨rfl,q1,q2⟩;rw[W.out.2.1.accAll W.out.2.2] at q1;exact⟨rfl,q1,O.out.2.trans ((Fr.of_grown q2).toBelow (fun k hk=>(O.out.1.rowLt hk).1) O.out.2.size)⟩
   clear nd sub hal O
   go_wp2_with fail
   refine ST.out.mono ?_;rintro e w3 ⟨rfl,q1,q2⟩;clear ST
   go_wp2_with fail
   go_ret;exact⟨_,rfl,q1,q2⟩
end
end Go.Proofs.YthpgfmmpjoodkaaGreatDoor.Wl
