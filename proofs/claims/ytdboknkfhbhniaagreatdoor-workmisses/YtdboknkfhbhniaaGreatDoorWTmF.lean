import Derived.Test.YtdboknkfhbhniaaGreatDoorWWhA
import Derived.Deep.RegionHeld3
import Derived.Deep.CutBlock
import Derived.Deep.DeepCutAuto
import Derived.Laws.CopyOwn
import Derived.Lib.SliceRun
import Derived.Deep.RegionLaw
import Derived.Lib.Overlaps
import Derived.Laws.Externs
import Derived.BigRegion
import Derived.Deep.AppendSrc
import Derived.Lib.AppendZerosOnto
namespace Go.Proofs.YtdboknkfhbhniaaGreatDoor.Wl
set_option maxRecDepth 100000
set_option linter.unusedVariables false
open Go.RowKit Go.Lib Go.Sort
theorem splice_pre{α:Type}(P R:List α)(k:Nat)(X:List α):splice (P++R) (P.length+k) X=P++splice R k X:=by
 unfold splice
 rw[List.take_length_add_append,List.append_assoc,show P.length+k+X.length=P.length+(k+X.length) by omega,List.drop_length_add_append]
structure RowF(w:World)(base g off cap:Nat)(d:List Ent):Prop where
 low:base≤g
 pos:0<cap
 le:d.length≤cap
 big:cap≤maxLen
 mem:∃P R:List Value,w.heap[g]?=some (.cells (P++R).toArray 108 (0,0))∧P.length=off∧R.length=cap*2∧R.take (d.length*2)=flat d
def rowB:Value→Option Nat
 | .slice (some a) _ (_+1)=>some a.block
 | _=>none
def OwnF(w:World)(base:Nat)(v:Value)(d:List Ent):Prop:=
 (d=[]∧(v=.slice none 0 0∨∃g off,v=.slice (some ⟨g,off,none⟩) 0 0))∨∃g off cap,v=.slice (some ⟨g,off,none⟩) d.length cap∧RowF w base g off cap d
variable {w w':World}{base g off cap:Nat}{d c:List Ent}{v:Value}
theorem RowF.rowB(h:RowF w base g off cap d)(n:Nat):rowB (.slice (some ⟨g,off,none⟩) n cap)=some g:=by
 obtain⟨c,hc⟩:∃c,cap=c+1:=⟨cap-1,by have:=h.pos;omega⟩
 rw[hc];rfl
theorem RowF.lt(h:RowF w base g off cap d):g<w.heap.size:=by
 obtain⟨P,R,h1,_⟩:=h.mem
 exact lt_of_block h1
theorem RowF.of_block(h:RowF w base g off cap d)(e:w'.heap[g]?=w.heap[g]?):RowF w' base g off cap d:=by
 obtain⟨P,R,h1,h2⟩:=h.mem
 exact⟨h.low,h.pos,h.le,h.big,P,R,e.trans h1,h2⟩
theorem RowF.cell(h:RowF w base g off cap d)(j:Nat)(hj:j<d.length*2):w.cell? ⟨g,off+j,none⟩=(flat d)[j]?:=by
 obtain⟨P,R,h1,rfl,h3,h4⟩:=h.mem
 rw[cell_of_row _ _ _ _ _ _ h1,←h4,List.getElem?_take_of_lt hj,List.getElem?_toArray,List.getElem?_append_right (by omega),Nat.add_sub_cancel_left]
theorem RowF.frozen(h:RowF w base g off cap d)(j:Nat):w.frozen? ⟨g,j,none⟩=false:=by
 obtain⟨P,R,h1,_⟩:=h.mem
 simp[World.frozen?,h1]
theorem RowF.at(h:RowF w base g off cap d)(i:Nat)(x:Ent)(hx:d[i]?=some x):w.cell? ⟨g,off+i*2,none⟩=some (.int .u64 x.1)∧w.cell? ⟨g,off+i*2+1,none⟩=some (.int .i64 x.2):=by
 have hi:=(List.getElem?_eq_some_iff.1 hx).1
 obtain⟨g1,g2⟩:=flat_at d i x hx
 exact⟨(h.cell (i*2) (by omega)).trans g1,(h.cell (i*2+1) (by omega)).trans g2⟩
theorem RowF.isL(h:RowF w base g off cap d):IsL w (some ⟨g,off,none⟩) cap d:=
 ⟨h.le,h.big,fun i x hx=>⟨g,off,rfl,h.lt,(h.at i x hx).1,(h.at i x hx).2⟩⟩
theorem OwnF.nil(w:World)(base:Nat):OwnF w base (.slice none 0 0) []:=.inl ⟨rfl,.inl rfl⟩
theorem OwnF.isL(h:OwnF w base v d):∃a cap,v=.slice a d.length cap∧((a=none∧cap=0)∨∃g off,a=some ⟨g,off,none⟩)∧d.length≤cap∧cap≤maxLen∧IsL w a cap d:=by
 rcases h with⟨rfl,rfl|⟨g,off,rfl⟩⟩|⟨g,off,cap,rfl,hr⟩
 ·exact⟨none,0,rfl,.inl ⟨rfl,rfl⟩,by simp,by simp,IsL.nil w⟩
 ·exact⟨_,0,rfl,.inr ⟨g,off,rfl⟩,by simp,by simp,by simp,by simp,fun i x h=>by simp at h⟩
 ·exact⟨_,cap,rfl,.inr ⟨g,off,rfl⟩,hr.le,hr.big,hr.isL⟩
theorem OwnF.rowLt(h:OwnF w base v d){k:Nat}(hk:rowB v=some k):base≤k∧k<w.heap.size:=by
 rcases h with⟨rfl,rfl|⟨g,off,rfl⟩⟩|⟨g,off,cap,rfl,hr⟩
 ·cases hk
 ·cases hk
 ·rw[hr.rowB] at hk
  injection hk with hk
  exact hk▸⟨hr.low,hr.lt⟩
theorem OwnF.rowT(h:OwnF w base v d){k:Nat}(hk:rowB v=some k):∃cs,w.heap[k]?=some (.cells cs 108 (0,0)):=by
 rcases h with⟨rfl,rfl|⟨g,off,rfl⟩⟩|⟨g,off,cap,rfl,hr⟩
 ·cases hk
 ·cases hk
 ·rw[hr.rowB] at hk
  injection hk with hk
  obtain⟨P,R,h1,_⟩:=hr.mem
  exact⟨_,hk▸h1⟩
theorem OwnF.of_block(h:OwnF w base v d)(e:∀k,rowB v=some k→w'.heap[k]?=w.heap[k]?):OwnF w' base v d:=by
 rcases h with h|⟨g,off,cap,rfl,hr⟩
 ·exact .inl h
 ·exact .inr ⟨g,off,cap,rfl,hr.of_block (e g (hr.rowB _))⟩
theorem OwnF.below(h:OwnF w base v d)(hw:Below w.heap.size w w'):OwnF w' base v d:=h.of_block fun k hk=>hw.block k (h.rowLt hk).2
theorem grown_set{w w1:World}{g:Nat}{row:Option Nat}(cur:Array Value)(h:w.grownBy w1 row)(hr:row=some g∨w.heap.size≤g):w.grownBy (w1.setRow g cur) row:=
 ⟨h.os,h.tape,h.output,by simpa [World.setRow] using h.size,fun k hk hne=>(setRow_other w1 g k _ (fun e=>by rcases hr with hr|hr;exact hne (by rw[e,hr]);omega)).trans (h.block k hk hne)⟩
theorem grown_refl(w:World)(row:Option Nat):w.grownBy w row:=⟨rfl,rfl,rfl,Nat.le_refl _,fun _ _ _=>rfl⟩
theorem grown_trans{u v w:World}{row:Option Nat}(h:u.grownBy v row)(k:v.grownBy w row):u.grownBy w row:=
 ⟨k.os.trans h.os,k.tape.trans h.tape,k.output.trans h.output,Nat.le_trans h.size k.size,fun i hi hne=>(k.block i (Nat.lt_of_lt_of_le hi h.size) hne).trans (h.block i hi hne)⟩
theorem grown_below{u v:World}(row:Option Nat)(h:Below u.heap.size u v):u.grownBy v row:=⟨h.os,h.tape,h.output,h.size,fun i hi _=>h.block i hi⟩
theorem grown_of_grown{u v:World}(row:Option Nat)(h:Grown u v):u.grownBy v row:=grown_below row h.below
end Go.Proofs.YtdboknkfhbhniaaGreatDoor.Wl
