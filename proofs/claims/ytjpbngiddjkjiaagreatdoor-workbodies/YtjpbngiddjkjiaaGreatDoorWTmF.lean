import Derived.Test.YtjpbngiddjkjiaaGreatDoorWTmO
import Derived.Laws.CopyOwn
import Derived.Lib.SliceRun
import Derived.Deep.RegionLaw
import Derived.Lib.Overlaps
import Derived.Laws.Externs
import Derived.BigRegion
import Derived.Deep.AppendSrc
import Derived.Lib.AppendZerosOnto
open Go.Proofs.Tryz
open List(append_assoc length_append)
namespace Go.Proofs.YtjpbngiddjkjiaaGreatDoor.Wl
set_option maxRecDepth 100000
set_option linter.unusedVariables false
open Go.RowKit Go.Lib Go.Sort
theorem splice_pre{α:Type}(P R:List α)(k:Nat)(X:List α):splice (P++R) (P.length+k) X=P++splice R k X:=by
 unfold splice;rw[List.take_length_add_append,append_assoc,show P.length+k+X.length=P.length+(k+X.length) by omega,List.drop_length_add_append]
structure RowF(w:World)(base g off cap:Nat)(d:List Ent):Prop where
 low:base<=g
 pos:0<cap
 le:d.length<=cap
 big:cap<=maxLen
 mem:∃P R:List Value,w.heap[g]?=some (.cells (P++R).toArray 282 (0,0))/\P.length=off/\R.length=cap*2/\R.take (d.length*2)=flat d
def rowB:Value->Option Nat
 | .slice (some a) _ (_+1)=>some a.block
 | _=>none
def OwnF(w:World)(base:Nat)(v:Value)(d:List Ent):Prop:=
 (d=[]/\(v=.slice none 0 0\/∃g off,v=.slice (some ⟨g,off,none⟩) 0 0))\/∃g off cap,v=.slice (some ⟨g,off,none⟩) d.length cap/\RowF w base g off cap d
variable {w w':World}{base g off cap:Nat}{d c:List Ent}{v:Value}
theorem RowF.rowB(h:RowF w base g off cap d)(n:Nat):rowB (.slice (some ⟨g,off,none⟩) n cap)=some g:=by
 obtain⟨c,hc⟩:∃c,cap=c+1:=⟨cap-1,by have:=h.pos;omega⟩;rw[hc];rfl
theorem RowF.lt(h:RowF w base g off cap d):g<w.heap.size:=by
 obtain⟨P,R,h1,_⟩:=h.mem;exact lt_of_block h1
theorem RowF.of_block(h:RowF w base g off cap d)(e:w'.heap[g]?=w.heap[g]?):RowF w' base g off cap d:=by
 obtain⟨P,R,h1,h2⟩:=h.mem;exact⟨h.low,h.pos,h.le,h.big,P,R,e.trans h1,h2⟩
theorem RowF.cell(h:RowF w base g off cap d)(j:Nat)(hj:j<d.length*2):w.cell? ⟨g,off+j,none⟩=(flat d)[j]?:=by
 obtain⟨P,R,h1,rfl,h3,h4⟩:=h.mem;rw[cell_of_row _ _ _ _ _ _ h1,<-h4,List.getElem?_take_of_lt hj,List.getElem?_toArray,List.getElem?_append_right (by omega),Nat.add_sub_cancel_left]
theorem RowF.frozen(h:RowF w base g off cap d)(j:Nat):w.frozen? ⟨g,j,none⟩=false:=by
 obtain⟨P,R,h1,_⟩:=h.mem;simp[World.frozen?,h1]
theorem RowF.at(h:RowF w base g off cap d)(i:Nat)(x:Ent)(hx:d[i]?=some x):w.cell? ⟨g,off+i*2,none⟩=some (.int .u64 x.1)/\w.cell? ⟨g,off+i*2+1,none⟩=some (.int .i64 x.2):=by
 have hi:=(List.getElem?_eq_some_iff.1 hx).1;obtain⟨g1,g2⟩:=flat_at d i x hx;exact⟨(h.cell (i*2) (by omega)).trans g1,(h.cell (i*2+1) (by omega)).trans g2⟩
theorem RowF.isL(h:RowF w base g off cap d):IsL w (some ⟨g,off,none⟩) cap d:=
 ⟨h.le,h.big,fun i x hx=>⟨g,off,rfl,h.lt,(h.at i x hx).1,(h.at i x hx).2⟩⟩
theorem OwnF.nil(w:World)(base:Nat):OwnF w base (.slice none 0 0) []:=.inl ⟨rfl,.inl rfl⟩
theorem OwnF.isL(h:OwnF w base v d):∃a cap,v=.slice a d.length cap/\((a=none/\cap=0)\/∃g off,a=some ⟨g,off,none⟩)/\d.length<=cap/\cap<=maxLen/\IsL w a cap d:=by
 rcases h with⟨rfl,rfl|⟨g,off,rfl⟩⟩|⟨g,off,cap,rfl,hr⟩
 ·exact⟨none,0,rfl,.inl ⟨rfl,rfl⟩,by simp,by simp,IsL.nil w⟩
 ·exact⟨_,0,rfl,.inr ⟨g,off,rfl⟩,by simp,by simp,by simp,by simp,fun i x h=>by simp at h⟩
 ·exact⟨_,cap,rfl,.inr ⟨g,off,rfl⟩,hr.le,hr.big,hr.isL⟩
theorem OwnF.rowLt(h:OwnF w base v d){k:Nat}(hk:rowB v=some k):base<=k/\k<w.heap.size:=by
 rcases h with⟨rfl,rfl|⟨g,off,rfl⟩⟩|⟨g,off,cap,rfl,hr⟩
 ·cases hk
 ·cases hk
 ·rw[hr.rowB] at hk;injection hk with hk
  exact hk▸⟨hr.low,hr.lt⟩
theorem OwnF.rowT(h:OwnF w base v d){k:Nat}(hk:rowB v=some k):∃cs,w.heap[k]?=some (.cells cs 282 (0,0)):=by
 rcases h with⟨rfl,rfl|⟨g,off,rfl⟩⟩|⟨g,off,cap,rfl,hr⟩
 ·cases hk
 ·cases hk
 ·rw[hr.rowB] at hk;injection hk with hk
  obtain⟨P,R,h1,_⟩:=hr.mem;exact⟨_,hk▸h1⟩
theorem OwnF.of_block(h:OwnF w base v d)(e:∀k,rowB v=some k->w'.heap[k]?=w.heap[k]?):OwnF w' base v d:=by
 rcases h with h|⟨g,off,cap,rfl,hr⟩
 ·exact .inl h
 ·exact .inr ⟨g,off,cap,rfl,hr.of_block (e g (hr.rowB _))⟩
theorem OwnF.below(h:OwnF w base v d)(hw:Below w.heap.size w w'):OwnF w' base v d:=h.of_block fun k hk=>hw.block k (h.rowLt hk).2
theorem RowF.made(w:World)(cur:Array Value)(d:List Ent)(cap:Nat)(hb:base<=w.heap.size)(hp:0<cap)(hl:d.length<=cap)(hm:cap<=maxLen)(hs:cur.size=cap*2)(ht:cur.toList.take (d.length*2)=flat d) :
  RowF (w.alloc (.cells cur 282)) base w.heap.size 0 cap d:=
 ⟨hb,hp,hl,hm,[],cur.toList,by rw[heap_alloc_new];simp,rfl,by simpa using hs,ht⟩
theorem grown_set{w w1:World}{g:Nat}{row:Option Nat}(cur:Array Value)(h:w.grownBy w1 row)(hr:row=some g\/w.heap.size<=g):w.grownBy (w1.setRow g cur) row:=
 ⟨h.os,h.tape,h.output,by simpa [World.setRow] using h.size,fun k hk hne=>(setRow_other w1 g k _ (fun e=>by rcases hr with hr|hr;exact hne (by rw[e,hr]);omega)).trans (h.block k hk hne)⟩
theorem grown_refl(w:World)(row:Option Nat):w.grownBy w row:=⟨rfl,rfl,rfl,Nat.le_refl _,fun _ _ _=>rfl⟩
theorem grown_trans{u v w:World}{row:Option Nat}(h:u.grownBy v row)(k:v.grownBy w row):u.grownBy w row:=
 ⟨k.os.trans h.os,k.tape.trans h.tape,k.output.trans h.output,Nat.le_trans h.size k.size,fun i hi hne=>(k.block i (Nat.lt_of_lt_of_le hi h.size) hne).trans (h.block i hi hne)⟩
theorem grown_below{u v:World}(row:Option Nat)(h:Below u.heap.size u v):u.grownBy v row:=⟨h.os,h.tape,h.output,h.size,fun i hi _=>h.block i hi⟩
theorem grown_of_grown{u v:World}(row:Option Nat)(h:Grown u v):u.grownBy v row:=grown_below row h.below
theorem growW{need old:Nat}(h:old<need)(hn:need<=1000000):Builtin.nextslicecap need old*16<=281474976710656:=growslice_fits h (by omega)
theorem appF(h:OwnF w base v d){a:Option Addr}{cc:Nat}(hc:IsL w a cc c)(hb:d.length+c.length<=1000000)(hbase:base<=w.heap.size)(ty:TypeId) :
  ∃v' w',(Builtin.append_ #[94,94] ty #[v,.slice a c.length cc]).run prog w=.ok v' w'/\OwnF w' base v' (d++c)/\w.grownBy w' (rowB v)/\∀k,rowB v'=some k->rowB v=some k\/w.heap.size<=k:=by
 obtain⟨i,hi,hz,hs,hby⟩:=infoE
 have hsrc:Src prog i.size 94 (.slice a c.length cc) c.length (flat c) w:=by
  cases c with
  | nil=>
   cases a with
   | none=>exact Src.ofNil w underlying94 cc
   | some ad=>exact Src.ofSlice w underlying94 ad 0 cc [] (by simp) (fun j u hj=>by simp at hj) (fun u hu=>by cases hu)
  | cons x c=>
   obtain⟨b,off,e,_,_,_⟩:=hc.elem 0 x rfl;subst e;refine Src.ofSlice w underlying94 ⟨b,off,none⟩ _ cc _ (by rw[flat_len,hs]) (flat_get _ _ (fun i x hx=>?_)) (flat_one _);obtain⟨b',off',e,_,h1,h2⟩:=hc.elem i x hx
   cases e
   exact⟨by rw[<-h1,Addr.add_lit],by rw[<-h2,Addr.add_lit,Nat.add_assoc]⟩
 by_cases hc0:c=[]
 ·subst hc0;refine⟨v,w,?_,by rw[List.append_nil];exact h,grown_refl _ _,fun k hk=>.inl hk⟩;obtain⟨av,cv,rfl,ha,hlc,_,_⟩:=h.isL;have hl:=hsrc.len;have hf:=hsrc.cells;simp only[List.length_nil] at hl hf⊢;rcases ha with⟨rfl,rfl⟩|⟨g,off,rfl⟩
  ·obtain rfl:d=[]:=List.length_eq_zero_iff.1 (by omega);simp[Builtin.append_,run_underlying underlying94,sizeOf,typeInfo,hi,hl,hf]
  ·simp[Builtin.append_,run_underlying underlying94,sizeOf,typeInfo,hi,hl,hf,hlc,storeCells]
 have hcl:0<c.length:=List.length_pos_iff.2 hc0
 have fresh:∀(av:Option Addr)(cv:Nat),IsL w av cv d->d.length<=cv->cv<d.length+c.length->((av=none/\cv=0)\/∃g off,av=some ⟨g,off,none⟩)->
   ∃v' w',(Builtin.append_ #[94,94] ty #[.slice av d.length cv,.slice a c.length cc]).run prog w=.ok v' w'/\OwnF w' base v' (d++c)/\Below w.heap.size w w'/\∀k,rowB v'=some k->w.heap.size<=k:=by
  intro av cv hL hle hlt hav
  have hold:(Builtin.firstCells i.size d.length (.slice av d.length cv)).run prog w.drew=.ok (flat d).toArray w.drew:=by
   rcases hav with⟨rfl,rfl⟩|⟨g,off,rfl⟩
   ·obtain rfl:d=[]:=List.length_eq_zero_iff.1 (by omega);exact run_firstCells_none _ _ _ _ _
   ·refine run_firstCells_some _ _ _ _ _ _ _ (by rw[flat_len,hs]) (flat_get _ _ (fun i x hx=>?_));obtain⟨b',off',e,_,h1,h2⟩:=hL.elem i x hx
    cases e
    exact⟨by rw[<-h1,Addr.add_lit];rfl,by rw[<-h2,Addr.add_lit,Nat.add_assoc];rfl⟩
  have hr:=run_append_grow_src (P:=prog) w 94 94 ty 282 i _ underlying94 hi hz av d.length cv (flat d) hold _ _ _ hsrc hlt (by omega) (by rw[hby];exact growW hlt hb);have hge:=grownCap_ge w (d.length+c.length) cv 282;have hm:=grownCap_le_maxLen w (d.length+c.length) cv 282 (by unfold maxLen;omega);obtain⟨C,hC⟩:∃C,grownCap w (d.length+c.length) cv 282=C:=⟨_,rfl⟩;rw[hC] at hr hge hm;refine⟨_,_,hr,.inr ⟨w.heap.size,0,C,by rw[length_append],RowF.made w.drew _ (d++c) C hbase (by omega) (by rw[length_append];exact hge) hm ?_ ?_⟩,((Below.refl _ _).drew).alloc (Nat.le_refl _) _,fun k hk=>?_⟩
  ·rw[Array.size_append,size_zeroCells];simp[flat_len,Value.cells];omega
  ·rw[length_append,flat_append];simp only[Array.toList_append];rw[List.take_append_of_le_length (by simp[flat_len];omega),List.take_of_length_le (by simp[flat_len];omega)]
  ·obtain⟨C',rfl⟩:∃c',C=c'+1:=⟨C-1,by omega⟩;injection hk with hk
   exact Nat.le_of_eq hk
 rcases h with⟨rfl,rfl|⟨g,off,rfl⟩⟩|⟨g,off,cap,rfl,hr⟩
 ·obtain⟨v',w',k1,k2,k3,k4⟩:=fresh none 0 (IsL.nil w) (by simp) (by simpa using hcl) (.inl ⟨rfl,rfl⟩);exact⟨v',w',k1,k2,grown_below _ k3,fun k hk=>.inr (k4 k hk)⟩
 ·obtain⟨v',w',k1,k2,k3,k4⟩:=fresh (some ⟨g,off,none⟩) 0 ⟨by simp,by simp,fun i x h=>by simp at h⟩ (by simp) (by simpa using hcl) (.inr ⟨g,off,rfl⟩);exact⟨v',w',k1,k2,grown_below _ k3,fun k hk=>.inr (k4 k hk)⟩
 ·by_cases hroom:d.length+c.length<=cap
  ·obtain⟨P,R,m1,m2,m3,m4⟩:=hr.mem;have hst:=run_storeCells_at prog g (off+d.length*2) 282 (flat c) 0 _ w m1 (by simp[flat_len];omega) (flat_one c);simp only[Nat.add_zero,append_assoc] at hst;have hf:=hsrc.cells;have hl:=hsrc.len;rw[hs] at hf;refine⟨.slice (some ⟨g,off,none⟩) (d.length+c.length) cap,w.setRow g (P++splice R (d.length*2) (flat c)).toArray,?_,.inr ⟨g,off,cap,by rw[length_append],hr.low,hr.pos,by rw[length_append];exact hroom,hr.big,P,splice R (d.length*2) (flat c),setRow_heap _ _ _ _ _ _ m1,m2,?_,?_⟩,?_,fun k hk=>.inl ?_⟩
   ·rw[<-splice_pre,m2];simp[Builtin.append_,run_underlying underlying94,sizeOf,typeInfo,hi,hl,hroom,hf,Addr.add_lit,hs,hst,splice]
   ·rw[length_splice _ _ _ (by rw[flat_len,m3];omega),m3]
   ·rw[length_append,flat_append,<-m4];unfold splice;rw[<-append_assoc,List.take_append_of_le_length (by rw[length_append,List.length_take,flat_len,m3];omega),List.take_of_length_le (by rw[length_append,List.length_take,flat_len,m3];omega)]
   ·rw[hr.rowB];exact grown_set _ (grown_refl _ _) (.inl rfl)
   ·rw[hr.rowB];rw[hr.rowB] at hk;exact hk
  ·obtain⟨v',w',k1,k2,k3,k4⟩:=fresh (some ⟨g,off,none⟩) cap hr.isL hr.le (by omega) (.inr ⟨g,off,rfl⟩);exact⟨v',w',k1,k2,grown_below _ k3,fun k hk=>.inr (k4 k hk)⟩
end Go.Proofs.YtjpbngiddjkjiaaGreatDoor.Wl
