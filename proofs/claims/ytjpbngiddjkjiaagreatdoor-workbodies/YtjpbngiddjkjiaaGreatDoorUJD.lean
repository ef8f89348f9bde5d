import Derived.Test.YtjpbngiddjkjiaaGreatDoorUJB
import Derived.Lib.AppendZeros
import Derived.Laws.OwnMore
import Derived.Lib.SliceRun
import Derived.Deep.RegionHeld3
import Derived.Test.YtjpbngiddjkjiaaGreatDoorUJG0
open Go.Proofs.Tryz
open List(getElem?_eq_getElem length_append length_cons take_of_length_le)
open Nat(le_of_lt le_refl le_trans zero_add)
namespace Go.Proofs.YtjpbngiddjkjiaaGreatDoor.Qu
set_option maxHeartbeats 8000000
set_option maxRecDepth 100000
set_option linter.unusedVariables false
open Go.RowKit Go.Lib Go.Sort
section
def flat(d:List Ent):List Value:=d.flatMap encE
@[simp] theorem flat_nil:flat []=[]:=rfl
theorem flat_cons(x:Ent)(d:List Ent):flat (x::d)=.int .u64 x.1::.int .i64 x.2::flat d:=rfl
theorem flat_append(c d:List Ent):flat (c++d)=flat c++flat d:=by simp[flat]
theorem flat_len(d:List Ent):(flat d).length=d.length*2:=by
 induction d with
 | nil=>rfl
 | cons x d ih=>simp only[flat_cons,length_cons,ih];omega
theorem flat_one(d:List Ent):∀u∈flat d,u.oneCell'=true:=by
 intro u hu;obtain⟨x,_,h⟩:=List.mem_flatMap.1 hu;exact encE_one x u h
theorem flat_at(d:List Ent):∀(i:Nat)(x:Ent),d[i]?=some x->(flat d)[i*2]?=some (.int .u64 x.1)/\(flat d)[i*2+1]?=some (.int .i64 x.2):=by
 induction d with
 | nil=>intro i x h;simp at h
 | cons y d ih=>
  intro i x h
  cases i with
  | zero=>simp at h;subst h;exact⟨rfl,rfl⟩
  | succ i=>
   obtain⟨h1,h2⟩:=ih i x (by simpa using h);rw[show(i+1)*2=i*2+1+1 by omega,flat_cons];exact⟨by simpa using h1,by simpa using h2⟩
theorem flat_get(d:List Ent)(f:Nat->Option Value)(h:∀i x,d[i]?=some x->f (i*2)=some (.int .u64 x.1)/\f (i*2+1)=some (.int .i64 x.2)):∀j u,(flat d)[j]?=some u->f j=some u:=by
 intro j u hj;have hl:j<(flat d).length:=(List.getElem?_eq_some_iff.1 hj).1;rw[flat_len] at hl;obtain⟨x,hx⟩:∃x,d[j/2]?=some x:=⟨_,getElem?_eq_getElem (by omega)⟩;obtain⟨h1,h2⟩:=h _ x hx;obtain⟨g1,g2⟩:=flat_at d _ x hx;by_cases e:j=j/2*2
 ·rw[<-e] at h1 g1;rw[h1,<-g1,hj]
 ·have e':j/2*2+1=j:=by omega
  rw[e'] at h2 g2;rw[h2,<-g2,hj]
structure IsL(w:World)(a:Option Addr)(cap:Nat)(d:List Ent):Prop where
 le:d.length<=cap
 big:cap<=maxLen
 elem:∀i x,d[i]?=some x->∃b off,a=some ⟨b,off,none⟩/\b<w.heap.size/\w.cell? ⟨b,off+i*2,none⟩=some (.int .u64 x.1)/\w.cell? ⟨b,off+i*2+1,none⟩=some (.int .i64 x.2)
variable {w w':World}{a:Option Addr}{cap base:Nat}{d c:List Ent}{v:Value}
theorem IsL.nil(w:World):IsL w none 0 []:=⟨by simp,by simp,fun i x h=>by simp at h⟩
theorem IsL.below(h:IsL w a cap d)(hw:Below w.heap.size w w'):IsL w' a cap d:=
 ⟨h.le,h.big,fun i x hx=>by
  obtain⟨b,off,e,hb,h1,h2⟩:=h.elem i x hx;exact⟨b,off,e,by have:=hw.size;omega,(hw.cell (p:=⟨b,off+i*2,none⟩) hb).trans h1,(hw.cell (p:=⟨b,off+i*2+1,none⟩) hb).trans h2⟩⟩
theorem IsL.len(h:IsL w a cap d):d.length<=9223372036854775807:=by
 have h1:=h.le;have h2:=h.big;unfold maxLen at h2;omega
def OwnE(w:World)(base:Nat)(v:Value)(d:List Ent):Prop:=w.ownsRow base 35 2 v d.length (flat d)
theorem OwnE.nil(w:World)(base:Nat):OwnE w base (.slice none 0 0) []:=World.ownsRow_nil w base _ _
theorem OwnE.isL(h:OwnE w base v d):∃a cap,v=.slice a d.length cap/\IsL w a cap d:=by
 obtain⟨h1,h2⟩:=h;rcases h2 with⟨rfl,h0⟩|⟨g,cap,cur,rfl,hb,hg,hn,hc,hs,ht⟩
 ·obtain rfl:d=[]:=List.length_eq_zero_iff.1 h0;exact⟨none,0,rfl,IsL.nil w⟩
 ·have own:OwnE w base (.slice (some ⟨g,0,none⟩) d.length cap) d:=⟨h1,.inr ⟨g,cap,cur,rfl,hb,hg,hn,hc,hs,ht⟩⟩;refine⟨some ⟨g,0,none⟩,cap,rfl,hn,hc,fun i x hx=>?_⟩;have hi:i<d.length:=(List.getElem?_eq_some_iff.1 hx).1;obtain⟨g1,g2⟩:=flat_at d i x hx;refine⟨g,0,rfl,lt_of_block hg,?_,?_⟩
  ·rw[zero_add,World.ownsRow.cellAt own (i*2) (by omega),g1]
  ·rw[zero_add,World.ownsRow.cellAt own (i*2+1) (by omega),g2]
theorem OwnE.made(w:World)(cur:Array Value)(cap:Nat)(hb:base<=w.heap.size)(hm:cap<=maxLen)(hs:cur.size=cap*2):OwnE (w.alloc (.cells cur 35)) base (.slice (some ⟨w.heap.size,0,none⟩) 0 cap) []:=
 World.ownsRow_made w cur cap hb hm hs
theorem OwnE.one(w:World)(x:Ent)(hb:base<=w.heap.size):OwnE (w.alloc (.cells #[.int .u64 x.1,.int .i64 x.2] 35)) base (.slice (some ⟨w.heap.size,0,none⟩) 1 1) [x]:=
 World.ownsRow_lit w #[.int .u64 x.1,.int .i64 x.2] 1 hb (by unfold maxLen;omega) rfl
theorem IsL.one(w:World)(x:Ent):IsL (w.alloc (.cells #[.int .u64 x.1,.int .i64 x.2] 35)) (some ⟨w.heap.size,0,none⟩) 1 [x]:=by
 obtain⟨a,cap,e,h⟩:=(OwnE.one w x (base:=0) (Nat.zero_le _)).isL
 cases e
 exact h
theorem OwnE.low(h:OwnE w base v d){b':Nat}(hb:b'<=base):OwnE w b' v d:=by
 obtain⟨h1,h2⟩:=h;refine⟨h1,?_⟩;rcases h2 with h2|⟨g,cap,cur,r1,r2,r3⟩
 ·exact .inl h2
 ·exact .inr ⟨g,cap,cur,r1,by omega,r3⟩
theorem OwnE.below(h:OwnE w base v d)(hw:Below w.heap.size w w'):OwnE w' base v d:=by
 obtain⟨h1,h2⟩:=h;refine⟨h1,?_⟩;rcases h2 with h2|⟨g,cap,cur,r1,r2,r3,r4⟩
 ·exact .inl h2
 ·exact .inr ⟨g,cap,cur,r1,r2,(hw.block g (lt_of_block r3)).trans r3,r4⟩
theorem infoE:∃i,prog.info? 35=some i/\i.zero=some (.agg #[.int .u64 0,.int .i64 0])/\i.size=2/\i.bytes=16:=by
 have h:(prog.info? 35).map (fun i=>(i.zero,i.size,i.bytes))=some (some (.agg #[.int .u64 0,.int .i64 0]),2,16):=by kernel_rfl
 obtain⟨i,h1,h2⟩:=Option.map_eq_some_iff.1 h;simp at h2;exact⟨i,h1,h2.1,h2.2.1,h2.2.2⟩
theorem app_run(h:OwnE w base v d)(hc:IsL w a cap c)(hb:d.length+c.length<=1000000)(hbase:base<=w.heap.size)(ty:TypeId) :
  ∃v' w',(Builtin.append_ #[157,157] ty #[v,.slice a c.length cap]).run prog w=.ok v' w'/\OwnE w' base v' (d++c)/\w.grownBy w' v.ownBlock:=by
 obtain⟨i,hi,hz,hs,hby⟩:=infoE;by_cases e:a=none
 ·subst e
  obtain rfl:c=[]:=by
   cases c with
   | nil=>rfl
   | cons x c=>obtain⟨b,off,h1,_⟩:=hc.elem 0 x rfl;cases h1
  refine⟨v,w,?_,by rw[List.append_nil];exact h,⟨rfl,rfl,rfl,le_refl _,fun _ _ _=>rfl⟩⟩;rcases h.2 with⟨rfl,h0⟩|⟨g,cap',cur,rfl,_,_,hnc,_⟩
  ·simp[Builtin.append_,run_underlying underlying157,sizeOf,typeInfo,hi,Builtin.lenOf,Builtin.firstCells]
  ·simp[Builtin.append_,run_underlying underlying157,sizeOf,typeInfo,hi,Builtin.lenOf,Builtin.firstCells,hnc,storeCells]
 ·obtain⟨ad,rfl⟩:=Option.ne_none_iff_exists'.1 e
  obtain⟨v',w',h1,h2,h3,h4⟩:=run_append_own (P:=prog) w base 157 ty 35 i _ 2 16 underlying157 hi hz hs hby rfl (by omega) v d.length (flat d) h ad c.length cap (flat c) (by rw[flat_len])
   (flat_get c _ (fun i x hx=>by
    obtain⟨b,off,e,_,h1,h2⟩:=hc.elem i x hx
    cases e
    exact⟨by rw[<-h1,Addr.add_lit],by rw[<-h2,Addr.add_lit,Nat.add_assoc]⟩)) (flat_one c) (by unfold maxLen;omega) (by omega) hbase
  refine⟨v',w',h1,?_,h3⟩;unfold OwnE;rw[length_append,flat_append];exact h2
theorem OwnE.grown(h:OwnE w base v d){u:World}(hu:Below base u w)(hg:w.grownBy w' v.ownBlock)(hbase:base<=w.heap.size):Below base u w':=
 hu.grown hg hbase (fun k hk=>(World.ownsRow.lt h k hk).1)
theorem OwnE.row(h:OwnE w base (.slice a d.length cap) d)(hd:d≠[]):∃g,a=some ⟨g,0,none⟩/\base<=g/\RE w g 0 d.toArray:=by
 have hl:0<d.length:=List.length_pos_iff.2 hd;rcases h.2 with⟨h1,h0⟩|⟨g,cap',cur,h1,hb,hg,hn,hc,hs,ht⟩
 ·omega
 ·simp only[Value.slice.injEq,true_and] at h1;obtain⟨rfl,rfl⟩:=h1;refine⟨g,rfl,hb,encE_len,encE_one,?_,lt_of_block hg⟩;intro j hj;have hj':j<d.length*2:=by simpa using hj
  rw[get_flatK _ _ _ _ (by simpa using hj')];have hx:d[j/2]?=some (d[j/2]'(by omega)):=getElem?_eq_getElem (by omega);have e1:d.toArray[j/2]! = d[j/2]'(by omega):=by rw[getElem!_pos d.toArray (j/2) (by simpa using (by omega:j/2<d.length))];rfl
  obtain⟨g1,g2⟩:=flat_at d _ _ hx;constructor
  ·rw[zero_add,World.ownsRow.cellAt h j hj',e1];by_cases e:j=j/2*2
   ·have:j%2=0:=by omega
    rw[<-e] at g1;rw[g1,this];rfl
   ·have e':j/2*2+1=j:=by omega
    have:j%2=1:=by omega
    rw[e'] at g2;rw[g2,this];rfl
  ·simp[World.frozen?,hg]
theorem se_isL{w0 W:World}{blk:Nat}{d0 dk:Array Ent}(S:SE w0 blk 0 dk W)(R:RE w0 blk 0 d0)(hs:dk.size=d0.size)(hc:dk.size<=cap)(hb:cap<=maxLen):IsL W (some ⟨blk,0,none⟩) cap dk.toList:=by
 refine⟨by simpa using hc,hb,fun i x hx=>?_⟩;have hi:i<dk.size:=by simpa using (List.getElem?_eq_some_iff.1 hx).1
 have e:dk[i]! = x:=by
  rw[getElem!_pos dk i hi];have:=(List.getElem?_eq_some_iff.1 hx).2;simpa using this
 have h0:=se_c0 S R hs hi;have h1:=se_c1 S R hs hi;rw[e] at h0 h1;exact⟨blk,0,rfl,S.lt R.hblk,h0,h1⟩
theorem se_own{w0 W:World}{blk:Nat}{dk:Array Ent}(S:SE w0 blk 0 dk W)(R:RE w0 blk 0 d.toArray)(o:OwnE w0 base (.slice (some ⟨blk,0,none⟩) d.length cap) d)(hs:dk.size=d.length) :
  OwnE W base (.slice (some ⟨blk,0,none⟩) dk.toList.length cap) dk.toList:=by
 obtain⟨h1,h2⟩:=o;rcases h2 with⟨h2,_⟩|⟨g,cap',cur,e,hb,hg,hn,hc,hz,ht⟩
 ·simp at h2
 ·simp only[Value.slice.injEq,Option.some.injEq,Addr.mk.injEq,and_true,true_and] at e;obtain⟨rfl,rfl⟩:=e;have L:=se_isL S R (cap:=cap) (by simpa using hs) (by omega) hc;obtain⟨n,os,rfl⟩:=S
  have hW:(sortWorldK encE 2 w0 blk 0 n dk os).heap[blk]?=some (.cells (putCells id 0 (flatK encE 2 dk) cur) 35 (0,0)):=by
   unfold sortWorldK;rw[heap_grow_old _ _ (by rw[size_putRowK];exact R.hblk)];show(w0.heap.modify blk _)[blk]?=_;rw[Array.getElem?_modify,if_pos rfl,hg]
   rfl
  have hz':(putCells id 0 (flatK encE 2 dk) cur).size=cap*2:=by simp[putCells,hz]
  refine⟨by rw[flat_len],.inr ⟨blk,cap,_,rfl,hb,hW,by simp;omega,hc,hz',?_⟩⟩;have hlen:dk.toList.length=dk.size:=by simp
  apply List.ext_getElem?;intro j;by_cases hj:j<dk.toList.length*2
  ·have hu:(flat dk.toList)[j]?=some ((flat dk.toList)[j]'(by rw[flat_len];exact hj)):=getElem?_eq_getElem _
   have:=flat_get dk.toList (fun j=>(sortWorldK encE 2 w0 blk 0 n dk os).cell? ⟨blk,j,none⟩) (fun i x hx=>by
    obtain⟨b,off,e,_,c1,c2⟩:=L.elem i x hx
    cases e
    simp only[zero_add] at c1 c2;exact⟨c1,c2⟩) j _ hu
   rw[hu,<-this,cell_of_row _ _ _ _ _ _ hW,List.getElem?_take_of_lt hj];simp
  ·rw[List.getElem?_eq_none (by simp;omega),List.getElem?_eq_none (by rw[flat_len];omega)]
theorem se_below{w0 W:World}{blk off B:Nat}{dk:Array Ent}(S:SE w0 blk off dk W)(hB:B<=blk)(hb:B<=w0.heap.size):Below B w0 W:=by
 obtain⟨n,os,rfl⟩:=S;refine⟨rfl,rfl,rfl,SWK.le ⟨n,os,rfl⟩,fun k hk=>?_⟩;unfold sortWorldK;rw[heap_grow_old _ _ (by rw[size_putRowK];show k<w0.heap.size;omega)];show(w0.heap.modify blk _)[k]?=_;rw[Array.getElem?_modify,if_neg (by omega)]
end
def Made(w:World)(d:List Ent)(r:Ending)(w':World):Prop:=∃a cap,r=.returned (.slice a d.length cap)/\OwnE w' w.heap.size (.slice a d.length cap) d/\Below w.heap.size w w'
theorem clone_any(a:Option Addr)(cap:Nat)(d:List Ent)(w:World)(h:IsL w a cap d)(hd:d.length<=1000000) :
  Calls prog 218 #[.slice a d.length cap] w (Made w d):=by
 have hl:=h.len;have q22:∀(w:World)(a:Option Addr)(n c n' c':Nat),(binOp .eql 157 (.slice a n c) (.slice none n' c')).run prog w=.ok (.bool a.isNone) w:=fun w a n c n' c'=>Lib.run_eql_slice_nil w _ _ a n c n' c' underlying157;by_cases ha:a=none
 ·subst ha
  obtain rfl:d=[]:=by
   cases d with
   | nil=>rfl
   | cons x d=>obtain⟨b,off,e,_⟩:=h.elem 0 x rfl;cases e
  go_enter func218,ntmps218
  go_wp2
  go_ret;exact⟨none,0,rfl,OwnE.nil _ _,Below.refl _ _⟩
 ·obtain⟨ad,rfl⟩:=Option.ne_none_iff_exists'.1 ha;obtain⟨v',w',hr,own,gr⟩:=app_run (d:=[]) (c:=d) (OwnE.made w #[] 0 (le_refl _) (by omega) rfl) (h.below ((Below.refl _ _).alloc (le_refl _) _)) (by simpa using hd) (by simp) 157;have B:Aside (Below w.heap.size w w'):=OwnE.grown (OwnE.made w #[] 0 (le_refl _) (by omega) rfl) ((Below.refl _ _).alloc (le_refl _) _) gr (by simp);have O:Aside (OwnE w' w.heap.size v' d):=own;clear own gr h;go_enter func218,ntmps218
  go_wp2_with (at_builtin;refine Lib.wpList_append_run _ rfl _ _ 157 157 rfl _ _ rfl rfl v' w' hr ?_)
  go_ret;obtain⟨a',cap',e,_⟩:=O.out.isL;subst e;exact⟨a',cap',rfl,O.out,B.out⟩
theorem stableFunc_none(p:Option Addr)(cap:Nat)(w:World) :
  Calls prog 225 #[.slice p 0 cap,.func (.func 226) #[] #[]] w fun e w'=>e=.returned (.tuple #[])/\w'=w:=by
 go_enter func225,ntmps225
 go_wp2_with fail
 refine(stable_none p cap _ w).mono ?_;rintro e w1 ⟨rfl,rfl⟩
 go_wp2
 go_end0
 exact⟨rfl,rfl⟩
theorem stableFunc_any(blk off cap:Nat)(d:Array Ent)(w:World)(R:RE w blk off d)(hsz:d.size<288230376151711744) :
  Calls prog 225 #[.slice (some ⟨blk,off,none⟩) d.size cap,.func (.func 226) #[] #[]] w fun e w'=>e=.returned (.tuple #[])/\
   ∃d':Array Ent,SE w blk off d' w'/\PermIn 0 d.size d d'/\SortedIn ltE 0 d.size d':=by
 have st:=stable_any blk off cap d w R hsz;clear R;go_enter func225,ntmps225
 go_wp2_with fail
 refine st.mono ?_;rintro e w1 ⟨rfl,d1,s1,p1,o1⟩;have X:Aside (∃d':Array Ent,SE w blk off d' w1/\PermIn 0 d.size d d'/\SortedIn ltE 0 d.size d'):=⟨d1,s1,p1,o1⟩;clear s1 p1 o1
 go_wp2
 go_end0
 exact⟨rfl,X.out⟩
theorem sort_made(a:Option Addr)(cap:Nat)(d:List Ent)(w:World)(h:IsL w a cap d)(hd:d.length<=1000000) :
  Calls prog 188 #[.slice a d.length cap] w (Made w (sortE d)):=by
 have cl:=clone_any a cap d w h hd;go_enter func188,ntmps188
 go_wp2_with fail
 refine cl.mono ?_;rintro e w1 ⟨a1,cap1,rfl,o1,b1⟩;obtain⟨a2,cap2,e2,l1⟩:=o1.isL
 cases e2
 by_cases hn:d=[]
 ·subst hn
  go_wp2_with fail
  refine(stableFunc_none a1 cap1 w1).mono ?_;rintro e w2 ⟨rfl,rfl⟩;have L:Aside (OwnE w2 w.heap.size (.slice a1 (sortE []).length cap1) (sortE [])):=by rw[sortE_id Srt.nil];exact o1
  clear l1 o1
  go_wp2
  go_ret;exact⟨a1,cap1,by rw[sortE_len];rfl,L.out,b1⟩
 ·obtain⟨g,rfl,hg,R⟩:=o1.row hn;have st:=stableFunc_any g 0 cap1 d.toArray w1 R (by simpa using (by omega:d.length<288230376151711744));simp only[List.size_toArray] at st;have l2:=l1.le;have l3:=l1.big
  go_wp2_with fail
  refine st.mono ?_;rintro e w2 ⟨rfl,d2,s2,p2,o2⟩;have ez:d2.size=d.length:=by simpa using p2.1
  have eq:d2.toList=sortE d:=by
   have:=sorted_unique_holds (lt:=ltE) swoE totE d.toArray d2 (by simpa using p2) (by simpa using o2);exact this
  have L:Aside (OwnE w2 w.heap.size (.slice (some ⟨g,0,none⟩) (sortE d).length cap1) (sortE d)):=by
   rw[<-eq];exact se_own s2 R o1 ez
  have B:Aside (Below w.heap.size w w2):=b1.trans (se_below s2 hg (by have:=b1.size;omega));clear s2 p2 o2 R l1 o1 b1 st
  go_wp2
  go_ret;exact⟨_,cap1,by rw[sortE_len];rfl,L.out,B.out⟩
theorem less_grown(x y:Ent)(w:World)(n:Nat)(os:Array Obj) :
  Calls prog 210 #[.agg #[.int .u64 x.1,.int .i64 x.2],.agg #[.int .u64 y.1,.int .i64 y.2]] (grow (w.drewN n) os) fun e w'=>e=.returned (.bool (ltE x y))/\∃p:GrownBy,w'=grow (w.drewN p.n) p.os:=
 Calls.grown_of (less_any x y _)
theorem IsL.at{w:World}{a:Option Addr}{cap:Nat}{d:List Ent}(h:IsL w a cap d){i:Nat}(hi:i<d.length):∃b off,a=some ⟨b,off,none⟩/\∀W,Grown w W->∀n os,(grow (W.drewN n) os).cell? ⟨b,off+i*2,none⟩=some (.int .u64 d[i].1)/\(grow (W.drewN n) os).cell? ⟨b,off+i*2+1,none⟩=some (.int .i64 d[i].2):=by
 obtain⟨b,off,e,hb,h1,h2⟩:=h.elem i d[i] (getElem?_eq_getElem hi);refine⟨b,off,e,fun W hW n os=>?_⟩;have g:Grown w (grow (W.drewN n) os):=hW.trans ⟨n,os,rfl⟩;exact⟨(g.below.cell (p:=⟨b,off+i*2,none⟩) hb).trans h1,(g.below.cell (p:=⟨b,off+i*2+1,none⟩) hb).trans h2⟩
theorem sorted_any(a:Option Addr)(cap:Nat)(d:List Ent)(w:World)(h:IsL w a cap d) :
  Calls prog 245 #[.slice a d.length cap] w fun e w'=>e=.returned (.bool (srtB d))/\Grown w w':=by
 have hl:=h.len;have H:Aside _:=h;have mx:=mixed;clear h;go_enter func245,ntmps245
 go_wp2
 go_loopg [3] (d.length+1) (fun kx s3 wr=>∃k:Nat,s3=.int .i64 (k+1:Nat)/\(k<d.length\/k=0)/\d.length-k<=kx/\Aside (Grown w wr)/\Aside (∀i (hi:i+1<d.length),i<k->ltE d[i+1] (d[i]'(by omega))=false))
 case atStart=>exact⟨0,rfl,.inr rfl,by omega,Grown.refl w,(fun i _ h=>absurd h (by omega):∀i (hi:i+1<d.length),i<0->ltE d[i+1] (d[i]'(by omega))=false)⟩
 case round=>
  obtain⟨k,rfl,hk,hkx,G,A⟩:=hrel;by_cases hlt:k+1<d.length
  ·have hz:(k:Int)+1<(d.length:Int):=by omega
   have hz0:(k:Int)<(d.length:Int):=by omega
   have e1:((k:Int)+1).toNat=k+1:=by omega
   have p1:(0:Int)<=(k:Int)+1:=by omega
   have wk:IntKind.i64.wrap (k:Int)=(k:Int):=by rw[IntKind.wrap_i64];omega
   obtain⟨b,off,ha,hc⟩:=H.out.at hlt;obtain⟨b',off',ha',hc'⟩:=H.out.at (show k<d.length by omega);obtain⟨rfl,rfl⟩:b'=b/\off'=off:=by rw[ha] at ha';cases ha';exact⟨rfl,rfl⟩
   subst ha;have c1:=fun n os=>(hc wr G.out n os).1;have c2:=fun n os=>(hc wr G.out n os).2;have c3:=fun n os=>(hc' wr G.out n os).1;have c4:=fun n os=>(hc' wr G.out n os).2;clear hc hc' ha';obtain⟨x,hx⟩:∃x,d[k+1]=x:=⟨_,rfl⟩;obtain⟨y,hy⟩:∃y,d[k]'(by omega)=y:=⟨_,rfl⟩;rw[hx] at c1 c2;rw[hy] at c3 c4;have HX:Hid _:=hx;have HY:Hid _:=hy;clear hx hy;have lg:=less_grown x y wr
   cases hL:ltE x y with
   | true=>
    simp only[hL] at lg
    go_wp2_with fail
    go_quiet_grown (first|(go_at_call 210;exact lg _ _))
    have G2:Aside (Grown w (grow (wr.drewN nq) osq)):=G.out.trans ⟨nq,osq,rfl⟩;clear c1 c2 c3 c4 G;generalize grow (wr.drewN nq) osq=w2 at G2⊢
    go_wp2
    go_ret;have:=srtB_false (d:=d) k hlt (by rw[HX.out,HY.out];exact hL);exact⟨by rw[this];rfl,G2.out⟩
   | false=>
    simp only[hL] at lg
    go_wp2_with fail
    go_quiet_grown (first|(go_at_call 210;exact lg _ _))
    have G2:Aside (Grown w (grow (wr.drewN nq) osq)):=G.out.trans ⟨nq,osq,rfl⟩;clear c1 c2 c3 c4 G;generalize grow (wr.drewN nq) osq=w2 at G2⊢
    go_wp2
    go_roundg (d.length-(k+1))
    case measure=>omega
    case rel=>
     refine⟨k+1,by go_num,by omega,le_refl _,G2,(fun i hi hik=>?_:∀i (hi:i+1<d.length),i<k+1->ltE d[i+1] (d[i]'(by omega))=false)⟩;by_cases e:i=k
     ·subst e;rw[HX.out,HY.out];exact hL
     ·exact A.out i hi (by omega)
  ·have hz:¬(k:Int)+1<(d.length:Int):=by omega
   go_wp2
   go_ret;have:=srtB_true (d:=d) (fun i hi=>A.out i hi (by omega));exact⟨by rw[this];rfl,G.out⟩
structure IsLL(w:World)(a:Option Addr)(ls:List (List Ent)):Prop where
 len:ls.length<=9223372036854775807
 elem:∀i d,ls[i]?=some d->∃b off p k,a=some ⟨b,off,none⟩/\b<w.heap.size/\w.cell? ⟨b,off+i,none⟩=some (.slice p d.length k)/\IsL w p k d
theorem IsLL.below{w w':World}{a:Option Addr}{ls:List (List Ent)}(h:IsLL w a ls)(hw:Below w.heap.size w w'):IsLL w' a ls:=
 ⟨h.len,fun i d hd=>by
  obtain⟨b,off,p,k,e,hb,h1,h2⟩:=h.elem i d hd;exact⟨b,off,p,k,e,by have:=hw.size;omega,(hw.cell (p:=⟨b,off+i,none⟩) hb).trans h1,h2.below hw⟩⟩
def unl:Option (Nat×Ent)->Ent
 | none=>(0,0)
 | some (_,y)=>y
def unj:Option (Nat×Ent)->Nat
 | none=>0
 | some (j,_)=>j
def unb:Option (Nat×Ent)->Bool
 | none=>false
 | some _=>true
theorem least_j(ls:List (List Ent)):∀k,unj (leastL ls k)<=k
 | 0=>le_refl _
 | k+1=>by
  have ih:=least_j ls k;simp only[leastL];generalize leastL ls k=st at ih⊢;unfold least1
  split
  ·simp[unj]
  ·split
   ·simp[unj]
   ·simp[unj] at ih⊢;omega
  ·omega
def LeastIs(w:World)(ls:List (List Ent))(r:Ending)(w':World):Prop:=
 r=.returned (.tuple #[.agg #[.int .u64 (unl (leastL ls ls.length)).1,.int .i64 (unl (leastL ls ls.length)).2],.int .i64 (unj (leastL ls ls.length)),.bool (unb (leastL ls ls.length))])/\Below w.heap.size w w'
structure Box(S:Nat)(x:Ent)(w:World):Prop where
 lt:S<w.heap.size
 c0:w.cell? ⟨S,0,none⟩=some (.int .u64 x.1)
 c1:w.cell? ⟨S,1,none⟩=some (.int .i64 x.2)
 f0:w.frozen? ⟨S,0,none⟩=false
 f1:w.frozen? ⟨S,1,none⟩=false
theorem Box.grown{S:Nat}{x:Ent}{w W:World}(h:Box S x w)(g:Grown w W):Box S x W:=
 ⟨by have:=g.below.size;have:=h.lt;omega,(g.cells _ _ h.lt).trans h.c0,(g.cells _ _ h.lt).trans h.c1,(g.below.frozen (p:=⟨S,0,none⟩) h.lt).trans h.f0,(g.below.frozen (p:=⟨S,1,none⟩) h.lt).trans h.f1⟩
theorem Box.set{S:Nat}{x:Ent}{w:World}(h:Box S x w)(y:Ent):Box S y ((w.setCell ⟨S,0,none⟩ (.int .u64 y.1)).setCell ⟨S,1,none⟩ (.int .i64 y.2)):=by
 have k1:((w.setCell ⟨S,0,none⟩ (.int .u64 y.1)).cell? ⟨S,1,none⟩).isSome:=by
  rw[World.cell?_setCell_other _ _ _ _ (by simp),h.c1];rfl
 refine⟨by simpa [World.setCell] using h.lt,?_,?_,?_,?_⟩
 ·rw[World.cell?_setCell_other _ _ _ _ (by simp),World.cell?_setCell_same' _ _ _ (by rw[h.c0];rfl)]
 ·rw[World.cell?_setCell_same' _ _ _ k1]
 ·rw[World.frozen?_setCell,World.frozen?_setCell];exact h.f0
 ·rw[World.frozen?_setCell,World.frozen?_setCell];exact h.f1
theorem least_any(a:Option Addr)(cap:Nat)(ls:List (List Ent))(w:World)(h:IsLL w a ls) :
  Calls prog 170 #[.slice a ls.length cap] w (LeastIs w ls):=by
 have hl:=h.len;have H:Aside (IsLL w a ls):=h;have mx:=mixed;obtain⟨S,hS⟩:∃S,w.heap.size=S:=⟨_,rfl⟩;have HS:Hid _:=hS;clear h;go_enter func170,ntmps170
 go_wp2
 go_loopg [3,4,9] ls.length (fun kx s3 s4 s9 wr=>∃k:Nat,s9=.int .i64 k/\s3=.int .i64 (unj (leastL ls k))/\s4=.bool (unb (leastL ls k))/\k<=ls.length/\ls.length-k<=kx/\Aside (Below S w wr)/\Aside (Box S (unl (leastL ls k)) wr))
 case atStart=>
  refine⟨0,rfl,rfl,rfl,by omega,by omega,(Below.refl _ _).alloc (by omega) _,?_⟩;subst hS;exact⟨by simp,by simp[unl,leastL],by simp[unl,leastL],by simp,by simp⟩
 case round=>
  obtain⟨k,rfl,rfl,rfl,hk,hkx,B,X⟩:=hrel;clear hS;have hj:=least_j ls k;obtain⟨st,hst⟩:∃st,leastL ls k=st:=⟨_,rfl⟩;have ST:Hid _:=hst;rw[hst] at hj X⊢;clear hst;by_cases hlt:k<ls.length
  ·have hz:(k:Int)<(ls.length:Int):=by omega
   have H2:Aside (IsLL wr a ls):=H.out.below (by rw[HS.out];exact B.out);obtain⟨d,hd⟩:∃d,ls[k]?=some d:=⟨_,getElem?_eq_getElem hlt⟩;have hd2:ls.getD k []=d:=by rw[List.getD_eq_getElem?_getD,hd];rfl
   obtain⟨b,off,p,q,rfl,hb,cc,L⟩:=H2.out.elem k d hd;have hdl:=L.len;have LL:Aside (IsL wr p q d):=L;have NX:Hid (leastL ls (k+1)=least1 st k d):=by show leastL ls (k+1)=_;simp only[leastL,ST.out,hd2]
   clear L H2 hd hd2
   cases d with
   | nil=>
    have NX2:Hid (leastL ls (k+1)=st):=by show _=_;rw[NX.out];unfold least1;split<;>simp_all
    have z0:decide ((0:Int)<0)=false:=by decide
    go_wp2_with fail
    go_quiet (fail)
    have B2:Aside (Below S w (wr.drewN nq)):=B.out.trans ((Grown.below ⟨nq,#[],by rw[grow_empty]⟩).mono (le_of_lt X.out.lt));have X2:Aside (Box S (unl st) (wr.drewN nq)):=X.out.grown ⟨nq,#[],by rw[grow_empty]⟩;clear B X cc;generalize wr.drewN nq=w2 at B2 X2⊢
    go_wp2
    go_roundg (ls.length-(k+1))
    case measure=>omega
    case rel=>exact⟨k+1,by go_num,by rw[NX2.out],by rw[NX2.out],by omega,le_refl _,B2,by rw[NX2.out];exact X2⟩
   | cons x d=>
    obtain⟨b',off',ha',hc'⟩:=LL.out.at (show 0<(x::d).length by simp);subst ha';have c1:=fun n os=>(hc' wr (Grown.refl wr) n os).1;have c2:=fun n os=>(hc' wr (Grown.refl wr) n os).2;simp only[List.getElem_cons_zero,Nat.zero_mul,Nat.add_zero] at c1 c2;clear hc' LL;simp only[length_cons] at cc hdl⊢;have z1:(0:Int)<(d.length:Int)+1:=by omega
    have z2:decide ((0:Int)<(d.length:Int)+1)=true:=decide_eq_true z1
    cases st with
    | none=>
     have NX2:Hid (leastL ls (k+1)=some (k,x)):=NX.out
     go_wp2_with fail
     simp only[unb,unj,unl] at X⊢;go_quiet (fail)
     have B2:Aside (Below S w (wr.drewN nq)):=B.out.trans ((Grown.below ⟨nq,#[],by rw[grow_empty]⟩).mono (le_of_lt X.out.lt));have X2:Aside (Box S (0,0) (wr.drewN nq)):=X.out.grown ⟨nq,#[],by rw[grow_empty]⟩;have e1:(wr.drewN nq).cell? ⟨b',off',none⟩=some (.int .u64 x.1):=by have:=c1 nq #[];rwa [grow_empty] at this
     have e2:(wr.drewN nq).cell? ⟨b',off'+1,none⟩=some (.int .i64 x.2):=by have:=c2 nq #[];rwa [grow_empty] at this
     clear B X cc c1 c2;generalize wr.drewN nq=w2 at B2 X2 e1 e2⊢;have x0:=X2.out.c0;have x1:=X2.out.c1;have x2:=X2.out.f0;have x3:=X2.out.f1;have B3:Aside (Below S w ((w2.setCell ⟨S,0,none⟩ (.int .u64 x.1)).setCell ⟨S,1,none⟩ (.int .i64 x.2))):=(B2.out.setCell (le_refl _) _).setCell (le_refl _) _;have X3:Aside (Box S x ((w2.setCell ⟨S,0,none⟩ (.int .u64 x.1)).setCell ⟨S,1,none⟩ (.int .i64 x.2))):=X2.out.set x;clear B2 X2
     go_wp2_with fail
     go_roundg (ls.length-(k+1))
     case measure=>omega
     case rel=>exact⟨k+1,by go_num,by rw[NX2.out];rfl,by rw[NX2.out];rfl,by omega,le_refl _,B3,by rw[NX2.out];exact X3⟩
    | some jy=>
     obtain⟨jj,y⟩:=jy;simp only[unb,unj,unl] at X hj⊢;have c3:=fun n os=>(X.out.grown (W:=grow (wr.drewN n) os) ⟨n,os,rfl⟩).c0;have c4:=fun n os=>(X.out.grown (W:=grow (wr.drewN n) os) ⟨n,os,rfl⟩).c1;have lg:=less_grown x y wr
     cases hL:ltE x y with
     | true=>
      simp only[hL] at lg;have NX2:Hid (leastL ls (k+1)=some (k,x)):=by show _=_;rw[NX.out];simp[least1,hL]
      have hok:(!true)=false:=rfl
      go_wp2_with fail
      go_quiet_grown (first|(go_at_call 210;exact lg _ _))
      have B2:Aside (Below S w (grow (wr.drewN nq) osq)):=B.out.trans ((Grown.below ⟨nq,osq,rfl⟩).mono (le_of_lt X.out.lt));have X2:Aside (Box S y (grow (wr.drewN nq) osq)):=X.out.grown ⟨nq,osq,rfl⟩;have e1:=c1 nq osq;have e2:=c2 nq osq;clear B X cc c1 c2 c3 c4 lg;generalize grow (wr.drewN nq) osq=w2 at B2 X2 e1 e2⊢;have x0:=X2.out.c0;have x1:=X2.out.c1;have x2:=X2.out.f0;have x3:=X2.out.f1;have B3:Aside (Below S w ((w2.setCell ⟨S,0,none⟩ (.int .u64 x.1)).setCell ⟨S,1,none⟩ (.int .i64 x.2))):=(B2.out.setCell (le_refl _) _).setCell (le_refl _) _;have X3:Aside (Box S x ((w2.setCell ⟨S,0,none⟩ (.int .u64 x.1)).setCell ⟨S,1,none⟩ (.int .i64 x.2))):=X2.out.set x;clear B2 X2
      go_wp2_with fail
      go_roundg (ls.length-(k+1))
      case measure=>omega
      case rel=>exact⟨k+1,by go_num,by rw[NX2.out];rfl,by rw[NX2.out];rfl,by omega,le_refl _,B3,by rw[NX2.out];exact X3⟩
     | false=>
      simp only[hL] at lg;have NX2:Hid (leastL ls (k+1)=some (jj,y)):=by show _=_;rw[NX.out];simp[least1,hL]
      go_wp2_with fail
      go_quiet_grown (first|(go_at_call 210;exact lg _ _))
      have B2:Aside (Below S w (grow (wr.drewN nq) osq)):=B.out.trans ((Grown.below ⟨nq,osq,rfl⟩).mono (le_of_lt X.out.lt));have X2:Aside (Box S y (grow (wr.drewN nq) osq)):=X.out.grown ⟨nq,osq,rfl⟩;clear B X cc c1 c2 c3 c4 lg;generalize grow (wr.drewN nq) osq=w2 at B2 X2⊢
      go_wp2
      go_roundg (ls.length-(k+1))
      case measure=>omega
      case rel=>exact⟨k+1,by go_num,by rw[NX2.out];rfl,by rw[NX2.out];rfl,by omega,le_refl _,B2,by rw[NX2.out];exact X2⟩
  ·have hz:¬(k:Int)<(ls.length:Int):=by omega
   obtain rfl:k=ls.length:=by omega
   have x0:=X.out.c0;have x1:=X.out.c1;have x2:=X.out.f0;have x3:=X.out.f1;have B3:Aside (Below S w ((wr.setCell ⟨S,0,none⟩ (.int .u64 (unl st).1)).setCell ⟨S,1,none⟩ (.int .i64 (unl st).2))):=(B.out.setCell (le_refl _) _).setCell (le_refl _) _;have X3:Aside (Box S (unl st) ((wr.setCell ⟨S,0,none⟩ (.int .u64 (unl st).1)).setCell ⟨S,1,none⟩ (.int .i64 (unl st).2))):=X.out.set _;clear B X;obtain⟨Y,hY⟩:∃Y,unl st=Y:=⟨_,rfl⟩;obtain⟨J,hJ⟩:∃J,unj st=J:=⟨_,rfl⟩;obtain⟨T,hT⟩:∃T,unb st=T:=⟨_,rfl⟩;rw[hY] at x0 x1 B3 X3;have HY:Hid _:=hY;have HJ:Hid _:=hJ;have HT:Hid _:=hT;rw[hJ,hT];clear hY hJ hT
   go_wp2_with fail
   generalize World.setCell _ _ _=w3 at B3 X3⊢;have y0:=X3.out.c0;have y1:=X3.out.c1;refine bodyPost_ret (v:=.tuple #[.agg #[.int .u64 Y.1,.int .i64 Y.2],.int .i64 J,.bool T]) (by simp[results,results170,go_sem,y0,y1]) rfl ⟨?_,by rw[HS.out];exact B3.out⟩;rw[ST.out,HY.out,HJ.out,HT.out]
theorem zeros_run(w:World)(n:Nat)(h0:0<n)(hn:n<=1000000) :
  ∃w' cap,(Builtin.append_ #[157,3] 157 #[.slice none 0 0,.int .i64 n]).run prog w=.ok (.slice (some ⟨w.heap.size,0,none⟩) n cap) w'/\n<=cap/\OwnE w' w.heap.size (.slice (some ⟨w.heap.size,0,none⟩) 0 cap) []/\Below w.heap.size w w':=by
 obtain⟨i,hi,hz,hs,hby⟩:=infoE;have hr:=Lib.run_append_nil_zeros (P:=prog) w 157 3 157 35 i _ .i64 .i64 underlying157 underlying3 hi hz n h0 (by omega) (by omega) (by rw[hby];omega);have h1:=grownCap_ge w n 0 35;have h2:=grownCap_le_maxLen w n 0 35 (by unfold maxLen;omega);refine⟨_,_,hr,h1,?_,?_⟩
 ·refine OwnE.made w.drew _ _ (le_refl _) h2 ?_;rw[Array.size_append,size_zeroCells,size_zeroCells];simp only[Value.cells];show n*2+(grownCap w n 0 35-n)*2=grownCap w n 0 35*2;omega
 ·exact((Below.refl _ w).drew).alloc (le_refl _) _
theorem grow_any(n:Nat)(w:World)(hn:n<=1000000) :
  Calls prog 247 #[.slice none 0 0,.int .i64 n] w (Made w []):=by
 by_cases h0:n=0
 ·subst h0;go_enter func247,ntmps247
  go_wp2
  go_ret;exact⟨none,0,rfl,OwnE.nil _ _,Below.refl _ _⟩
 ·obtain⟨w',cap,hr,hc,o,b⟩:=zeros_run w n (by omega) hn;have O:Aside (OwnE w' w.heap.size (.slice (some ⟨w.heap.size,0,none⟩) 0 cap) []):=o;have B:Aside (Below w.heap.size w w'):=b;have hz:(0:Int)<(n:Int):=by omega
  clear o b;go_enter func247,ntmps247
  go_wp2_with (at_builtin;refine Lib.wpList_append_run w rfl _ _ 157 3 rfl _ _ rfl rfl _ w' hr ?_)
  go_ret;exact⟨some ⟨w.heap.size,0,none⟩,cap,rfl,O.out,B.out⟩
theorem flat_take{ls:List (List Ent)}{k:Nat}(h:k<ls.length):(ls.take (k+1)).flatten=(ls.take k).flatten++ls[k]:=by
 rw[List.take_succ_eq_append_getElem h,List.flatten_append];simp
theorem flat_take_le(ls:List (List Ent))(k:Nat):(ls.take k).flatten.length<=ls.flatten.length:=by
 conv=>rhs;rw[<-List.take_append_drop k ls,List.flatten_append,length_append]
 omega
theorem concat_any(a:Option Addr)(cap:Nat)(ls:List (List Ent))(w:World)(h:IsLL w a ls)(hd:ls.flatten.length<=1000000) :
  Calls prog 227 #[.slice a ls.length cap] w (Made w ls.flatten):=by
 have hl:=h.len;have H:Aside (IsLL w a ls):=h;clear h;go_enter func227,ntmps227
 go_wp2
 go_loop [3,11] (fun s3 s11=>∃k m:Nat,s11=.int .i64 k/\s3=.int .i64 m/\Hid ((ls.take k).flatten.length=m)/\k<=ls.length/\m<=1000000) (fun _ s11=>ls.length-(intOf s11).toNat)
 case atStart=>exact⟨0,0,rfl,rfl,rfl,by omega,by omega⟩
 case round=>
  obtain⟨k,m,rfl,rfl,HM,hk,hm⟩:=hrel;by_cases hlt:k<ls.length
  ·have hz:(k:Int)<(ls.length:Int):=by omega
   obtain⟨b,off,p,q,rfl,hb,cc,L⟩:=H.out.elem k ls[k] (getElem?_eq_getElem hlt);have e1:=flat_take hlt;have e2:=flat_take_le ls (k+1);obtain⟨d,hdk⟩:∃d,ls[k]=d:=⟨_,rfl⟩;rw[hdk] at e1 cc L;have e3:m+d.length<=1000000:=by rw[e1,length_append,HM.out] at e2;omega
   have E1:Hid ((ls.take (k+1)).flatten.length=m+d.length):=by show _=_;rw[e1,length_append,HM.out]
   clear e1 e2 L hdk;have hneg:¬(m:Int)+(d.length:Int)<0:=by omega
   go_wp2
   go_round
   case rel=>exact⟨k+1,m+d.length,by go_num,by go_num,E1,by omega,e3⟩
   case measure=>simp[intOf];omega
  ·have hz:¬(k:Int)<(ls.length:Int):=by omega
   have hm2:Hid (ls.flatten.length=m):=by show _=_;rw[<-HM.out,take_of_length_le (by omega)]
   go_wp2_with fail
   refine(grow_any m w hm).mono ?_;rintro e w1 ⟨r1,t1,rfl,o1,b1⟩;have O1:Aside (OwnE w1 w.heap.size (.slice r1 0 t1) []):=o1;have B1:Aside (Below w.heap.size w w1):=b1;clear o1 b1;simp only[List.length_nil]
   go_wp2_with fail
   go_loopg [6,27] ls.length (fun kx s6 s27 wr=>∃(k n:Nat)(r:Option Addr)(t:Nat),s27=.int .i64 k/\s6=.slice r n t/\Hid ((ls.take k).flatten.length=n)/\k<=ls.length/\ls.length-k<=kx/\Aside (OwnE wr w.heap.size (.slice r n t) (ls.take k).flatten)/\Aside (Below w.heap.size w wr))
   case atStart=>exact⟨0,0,r1,t1,rfl,rfl,rfl,by omega,by omega,O1,B1⟩
   case round=>
    obtain⟨k,n,r,t,rfl,rfl,HN,hk,hkx,O,B⟩:=hrel;clear O1 B1;by_cases hlt:k<ls.length
    ·have hz:(k:Int)<(ls.length:Int):=by omega
     obtain⟨b,off,p,q,rfl,hb,cc,L⟩:=(H.out.below B.out).elem k ls[k] (getElem?_eq_getElem hlt);have e1:=flat_take hlt;have e2:=flat_take_le ls (k+1);obtain⟨d,hdk⟩:∃d,ls[k]=d:=⟨_,rfl⟩;rw[hdk] at e1 cc L;have e3:(ls.take k).flatten.length+d.length<=1000000:=by rw[e1,length_append] at e2;omega
     obtain⟨v2,w2,hr,o2,g2⟩:=app_run (d:=(ls.take k).flatten) (c:=d) O.out L e3 B.out.size 157;obtain⟨r2,t2,rfl,_⟩:=o2.isL;have B2:Aside (Below w.heap.size w w2):=OwnE.grown O.out B.out g2 B.out.size;rw[<-e1] at o2 hr;obtain⟨n2,hn2⟩:∃n2,(ls.take (k+1)).flatten.length=n2:=⟨_,rfl⟩;rw[hn2] at hr;have O2:Aside (OwnE w2 w.heap.size (.slice r2 n2 t2) (ls.take (k+1)).flatten):=by rw[<-hn2];exact o2
     have HN2:Hid _:=hn2;clear o2 g2 e1 e2 e3 hdk hn2 L O B
     go_wp2_with (at_builtin;refine Lib.wpList_append_run wr rfl _ _ 157 157 rfl _ _ rfl rfl _ w2 hr ?_)
     go_roundg (ls.length-(k+1))
     case measure=>omega
     case rel=>exact⟨k+1,n2,r2,t2,by go_num,rfl,HN2,by omega,le_refl _,O2,B2⟩
    ·have hz:¬(k:Int)<(ls.length:Int):=by omega
     have e:(ls.take k).flatten=ls.flatten:=by rw[take_of_length_le (by omega)]
     rw[e] at HN O
     go_wp2
     go_ret;have o:=O.out;have hn:=HN.out;rw[<-hn] at o;exact⟨r,t,by rw[hn];rfl,o,B.out⟩
theorem cell_new(w:World)(cs:Array Value)(T:TypeId)(i:Nat):(w.alloc (.cells cs T)).cell? ⟨w.heap.size,i,none⟩=cs[i]?:=cell_of_row _ _ _ cs T (0,0) (heap_alloc_new w _)
theorem cell_old(w:World)(o:Obj){b:Nat}(i:Nat)(hb:b<w.heap.size):(w.alloc o).cell? ⟨b,i,none⟩=w.cell? ⟨b,i,none⟩:=World.cell?_of_block (w:=w) (Below.heap_alloc _ _ _ hb)
theorem cells3(w:World)(cs ds es:Array Value)(T T' T'':TypeId)(i:Nat) :
  (((w.alloc (.cells cs T)).alloc (.cells ds T')).alloc (.cells es T'')).cell? ⟨w.heap.size,i,none⟩=cs[i]?/\
  (((w.alloc (.cells cs T)).alloc (.cells ds T')).alloc (.cells es T'')).cell? ⟨w.heap.size+1,i,none⟩=ds[i]?/\
  (((w.alloc (.cells cs T)).alloc (.cells ds T')).alloc (.cells es T'')).cell? ⟨w.heap.size+2,i,none⟩=es[i]?:=by
 have s1:(w.alloc (.cells cs T)).heap.size=w.heap.size+1:=by simp
 have s2:((w.alloc (.cells cs T)).alloc (.cells ds T')).heap.size=w.heap.size+2:=by simp
 refine⟨?_,?_,?_⟩
 ·rw[cell_old _ _ _ (by omega),cell_old _ _ _ (by omega),cell_new]
 ·rw[cell_old _ _ _ (by omega),<-s1,cell_new]
 ·rw[<-s2,cell_new]
theorem IsLL.of_block{W:World}{g:Nat}{cs:Array Value}{T:TypeId}{fr:Nat×Nat}{ls:List (List Ent)}(h:W.heap[g]?=some (.cells cs T fr))(hl:ls.length<=9223372036854775807)
  (he:∀(i:Nat)(d:List Ent),ls[i]?=some d->∃p k,cs[i]?=some (Value.slice p d.length k)/\IsL W p k d):IsLL W (some ⟨g,0,none⟩) ls:=
 ⟨hl,fun i d hd=>by
  obtain⟨p,k,h1,h2⟩:=he i d hd;exact⟨g,0,p,k,rfl,lt_of_block h,by rw[zero_add,cell_of_row _ _ _ cs T fr h];exact h1,h2⟩⟩
theorem step_app{ops:Array Oper}{o:Oper}{a:Act}{K:Act->World->Prop}{Q:Exit->Act->World->Prop}{E:Prop}(w:World)(hgd:o.guard=none)(s x:Operand)(t tn:TypeId)
  (ho:o.op=.call {callee:=.builtin .append,args:=#[s,x],argTypes:=#[t,tn]}) (vs vx:Value) (hs:a.eval s=vs) (hx:a.eval x=vx)
  (v':Value) (w':World) (hr:(Builtin.append_ #[t,tn] o.type #[vs,vx]).run prog w=.ok v' w') (h:K (a.put o.dst v') w') :
  if Region.wanted o (yielded ops a.tmps)=true then Oper.wp prog o a w K Q else E:=by
 have hw:Region.wanted o (yielded ops a.tmps)=true:=by simp[Region.wanted,hgd]
 rw[if_pos hw];exact Lib.wp_append_run w s x t tn ho vs vx hs hx v' w' hr h
def FirstIs(d:List Ent)(p:Ent->Bool)(z:Int):Prop:=(z = -1/\∀i (hi:i<d.length),p d[i]=false)\/∃k:Nat,∃hk:k<d.length,z=k/\p d[k]=true/\∀i (hi:i<k),p (d[i]'(by omega))=false
theorem indexFunc_any(a:Option Addr)(cap:Nat)(d:List Ent)(g:Nat)(cb:Array Value)(p:Ent->Bool)(w:World)(h:IsL w a cap d)
  (eg:∀args w,(callFunc g args).run prog w=.ok (.enter g args) w)
  (hg:∀(x:Ent)(W:World),Grown w W->Calls prog g (#[.agg #[.int .u64 x.1,.int .i64 x.2]]++cb) W fun e w'=>e=.returned (.bool (p x))/\Grown W w') :
  Calls prog 219 #[.slice a d.length cap,.func (.func g) #[] cb] w fun r w'=>∃z:Int,r=.returned (.int .i64 z)/\FirstIs d p z/\Grown w w':=by
 have hl:=h.len;have H:Aside (IsL w a cap d):=h;have HG:Aside (∀(x:Ent)(W:World),Grown w W->Calls prog g (#[.agg #[.int .u64 x.1,.int .i64 x.2]]++cb) W fun e w'=>e=.returned (.bool (p x))/\Grown W w'):=hg;clear h hg;go_enter func219,ntmps219
 go_wp2
 go_loopg [8] d.length (fun kx s8 wr=>∃k:Nat,s8=.int .i64 k/\k<=d.length/\d.length-k<=kx/\Aside (Grown w wr)/\Aside (∀i (hi:i<d.length),i<k->p d[i]=false))
 case atStart=>exact⟨0,rfl,by omega,by omega,Grown.refl w,(fun i _ h=>absurd h (by omega):∀i (hi:i<d.length),i<0->p d[i]=false)⟩
 case round=>
  obtain⟨k,rfl,hk,hkx,G,A⟩:=hrel;by_cases hlt:k<d.length
  ·have hz:(k:Int)<(d.length:Int):=by omega
   obtain⟨b,off,ha,hc⟩:=H.out.at hlt;subst ha;have c1:=(hc wr G.out 0 #[]).1;have c2:=(hc wr G.out 0 #[]).2;simp only[grow_empty,show wr.drewN 0=wr from rfl] at c1 c2;clear hc;obtain⟨x,hx⟩:∃x,d[k]=x:=⟨_,rfl⟩;rw[hx] at c1 c2;have HX:Hid _:=hx;clear hx;obtain⟨B,hB⟩:∃B,p x=B:=⟨_,rfl⟩;have HB:Hid _:=hB;have pc:=HG.out x wr G.out;rw[hB] at pc;clear hB
   go_wp2_with fail
   refine pc.mono ?_;rintro r w1 ⟨rfl,g1⟩;have G2:Aside (Grown w w1):=G.out.trans g1;clear g1 G c1 c2 pc
   cases B with
   | true=>
    go_wp2
    go_ret;refine⟨k,rfl,.inr ⟨k,hlt,rfl,?_,fun i hi=>A.out i (by omega) hi⟩,G2.out⟩;rw[HX.out];exact HB.out
   | false=>
    go_wp2
    go_roundg (d.length-(k+1))
    case measure=>omega
    case rel=>
     refine⟨k+1,by go_num,by omega,le_refl _,G2,(fun i hi hik=>?_:∀i (hi:i<d.length),i<k+1->p d[i]=false)⟩;by_cases e:i=k
     ·subst e;rw[HX.out];exact HB.out
     ·exact A.out i hi (by omega)
  ·have hz:¬(k:Int)<(d.length:Int):=by omega
   go_wp2
   go_ret;exact⟨-1,rfl,.inl ⟨rfl,fun i hi=>A.out i hi (by omega)⟩,G.out⟩
def MadeB(w:World)(d:List Ent)(r:Ending)(w':World):Prop:=∃a cap,r=.returned (.agg #[.int .i64 (lvl d.length),.slice a d.length cap])/\OwnE w' w.heap.size (.slice a d.length cap) d/\Below w.heap.size w w'
theorem OwnE.set{w:World}{base:Nat}{v:Value}{d:List Ent}(h:OwnE w base v d){p:Addr}(hp:p.block<base)(u:Value):OwnE (w.setCell p u) base v d:=by
 obtain⟨h1,h2⟩:=h;refine⟨h1,?_⟩;rcases h2 with h2|⟨g,cap,cur,r1,r2,r3,r4⟩
 ·exact .inl h2
 ·exact .inr ⟨g,cap,cur,r1,r2,(Below.heap_setCell w p u g (by omega)).trans r3,r4⟩
theorem OwnE.is{w:World}{base cap:Nat}{a:Option Addr}{n:Nat}{d:List Ent}(h:OwnE w base (.slice a n cap) d):IsL w a cap d:=by
 obtain⟨a',cap',e,l⟩:=h.isL;injection e with e1 e2 e3
 subst e1 e3;exact l
structure Box2(S:Nat)(x y:Value)(w:World):Prop where
 lt:S<w.heap.size
 c0:w.cell? ⟨S,0,none⟩=some x
 c1:w.cell? ⟨S,1,none⟩=some y
 f0:w.frozen? ⟨S,0,none⟩=false
 f1:w.frozen? ⟨S,1,none⟩=false
theorem Box2.new(w:World)(x y:Value)(T:TypeId):Box2 w.heap.size x y (w.alloc (.cells #[x,y] T)):=⟨by simp,by simp,by simp,by simp,by simp⟩
theorem Box2.below{S B:Nat}{x y:Value}{w w':World}(h:Box2 S x y w)(hw:Below B w w')(hB:S<B):Box2 S x y w':=
 ⟨by have:=hw.size;have:=h.lt;omega,(hw.cell (p:=⟨S,0,none⟩) hB).trans h.c0,(hw.cell (p:=⟨S,1,none⟩) hB).trans h.c1,(hw.frozen (p:=⟨S,0,none⟩) hB).trans h.f0,(hw.frozen (p:=⟨S,1,none⟩) hB).trans h.f1⟩
theorem Box2.set{S:Nat}{x y:Value}{w:World}(h:Box2 S x y w)(x' y':Value):Box2 S x' y' ((w.setCell ⟨S,0,none⟩ x').setCell ⟨S,1,none⟩ y'):=by
 have k1:((w.setCell ⟨S,0,none⟩ x').cell? ⟨S,1,none⟩).isSome:=by
  rw[World.cell?_setCell_other _ _ _ _ (by simp),h.c1];rfl
 refine⟨by simpa [World.setCell] using h.lt,?_,?_,?_,?_⟩
 ·rw[World.cell?_setCell_other _ _ _ _ (by simp),World.cell?_setCell_same' _ _ _ (by rw[h.c0];rfl)]
 ·rw[World.cell?_setCell_same' _ _ _ k1]
 ·rw[World.frozen?_setCell,World.frozen?_setCell];exact h.f0
 ·rw[World.frozen?_setCell,World.frozen?_setCell];exact h.f1
theorem Box2.other{S:Nat}{x y:Value}{w:World}(h:Box2 S x y w){p:Addr}(hp:p.block≠S)(u:Value):Box2 S x y (w.setCell p u):=by
 refine⟨by simpa [World.setCell] using h.lt,?_,?_,?_,?_⟩
 ·rw[World.cell?_setCell_other _ _ _ _ (by intro e;exact hp (by rw[e])),h.c0]
 ·rw[World.cell?_setCell_other _ _ _ _ (by intro e;exact hp (by rw[e])),h.c1]
 ·rw[World.frozen?_setCell];exact h.f0
 ·rw[World.frozen?_setCell];exact h.f1
theorem of_any(a:Option Addr)(cap:Nat)(l:List Ent)(w:World)(h:IsL w a cap l)(hd:l.length<=1000000) :
  Calls prog 184 #[.slice a l.length cap] w (MadeB w (sortE l)):=by
 have lv:=level_any l.length hd;have sl:=sortE_len l;obtain⟨S,hS⟩:∃S,w.heap.size=S:=⟨_,rfl⟩;have HS:Hid _:=hS;obtain⟨u,hu⟩:∃u,w.alloc (.cells #[.int .i64 0,.slice none 0 0] 223)=u:=⟨_,rfl⟩;have HU:Hid _:=hu;have b0:Below S w u:=by rw[<-hu];exact(Below.refl _ _).alloc (by omega) _
 have su:u.heap.size=S+1:=by rw[<-hu,<-hS];simp
 have x0:Box2 S (.int .i64 0) (.slice none 0 0) u:=by rw[<-hu,<-hS];exact Box2.new _ _ _ _
 have st:=sort_made a cap l u (h.below (by rw[hS];exact b0)) hd;have B0:Aside (Below S w u):=b0;have X0:Aside (Box2 S (.int .i64 0) (.slice none 0 0) u):=x0;have SL:Hid _:=sl;have SU:Hid _:=su;obtain⟨m,hm⟩:∃m,lvl l.length=m:=⟨_,rfl⟩;have HM:Hid _:=hm;rw[hm] at lv;clear h b0 x0 sl su hm hu;go_enter func184,ntmps184
 go_wp2_with fail
 rw[HU.out];refine(lv _).mono ?_;rintro e w1 ⟨rfl,rfl⟩
 go_wp2_with fail
 refine st.mono ?_;rintro e w2 ⟨r,t,rfl,o2,b2⟩;rw[SL.out];have x2:=X0.out.below b2 (by rw[SU.out];omega);have q0:=x2.c0;have q1:=x2.c1;have q2:=x2.f0;have q3:=x2.f1
 have B3:Aside (Below S w ((w2.setCell ⟨S,0,none⟩ (.int .i64 m)).setCell ⟨S,1,none⟩ (.slice r l.length t))):=
  ((B0.out.trans (b2.mono (by rw[SU.out];omega))).setCell (le_refl _) _).setCell (le_refl _) _
 have X3:Aside (Box2 S (.int .i64 m) (.slice r l.length t) ((w2.setCell ⟨S,0,none⟩ (.int .i64 m)).setCell ⟨S,1,none⟩ (.slice r l.length t))):=x2.set _ _
 have O3:Aside (OwnE ((w2.setCell ⟨S,0,none⟩ (.int .i64 m)).setCell ⟨S,1,none⟩ (.slice r l.length t)) S (.slice r (sortE l).length t) (sortE l)):=
  ((o2.set (by rw[SU.out];exact Nat.lt_succ_self S) _).set (by rw[SU.out];exact Nat.lt_succ_self S) _).low (by rw[SU.out];exact Nat.le_succ S)
 clear x2 o2 b2 st X0 B0 lv
 go_wp2
 generalize World.setCell _ _ _=w3 at B3 X3 O3⊢;have y0:=X3.out.c0;have y1:=X3.out.c1;refine bodyPost_ret (v:=.agg #[.int .i64 m,.slice r l.length t]) (by simp[results,results184,go_sem,y0,y1]) rfl ⟨r,t,?_,by rw[HS.out];exact O3.out,by rw[HS.out];exact B3.out⟩;rw[SL.out,HM.out]
theorem app_one{w:World}{base k:Nat}{r:Option Addr}{t:Nat}{d:List Ent}(x:Ent)(h:OwnE w base (.slice r k t) d)(hl:d.length=k)(hk:k<=100000)(hb:base<=w.heap.size) :
  ∃r' t' w',(Builtin.append_ #[157,157] 157 #[.slice r k t,.slice (some ⟨w.heap.size,0,none⟩) 1 1]).run prog (w.alloc (.cells #[.int .u64 x.1,.int .i64 x.2] 35))=.ok (.slice r' (k+1) t') w'/\OwnE w' base (.slice r' (k+1) t') (d++[x])/\Below base w w':=by
 have bv:Below w.heap.size w (w.alloc (.cells #[.int .u64 x.1,.int .i64 x.2] 35)):=(Below.refl _ _).alloc (le_refl _) _;obtain⟨v',w',hr,o,g⟩:=app_run (c:=[x]) (h.below bv) (IsL.one w x) (by simp;omega) (le_trans hb bv.size) 157;obtain⟨r',t',e,_⟩:=o.isL;have e2:(d++[x]).length=k+1:=by simp[hl]
 rw[e2] at e;subst e;exact⟨r',t',w',hr,o,OwnE.grown (h.below bv) (bv.mono hb) g (le_trans hb bv.size)⟩
theorem two_lists{w:World}{a b:Option Addr}{p q:Nat}{c d:List Ent}(hc:IsL w a p c)(hd:IsL w b q d) :
  IsLL (w.alloc (.cells #[.slice a c.length p,.slice b d.length q] 157)) (some ⟨w.heap.size,0,none⟩) [c,d]:=by
 have b1:Below w.heap.size w (w.alloc (.cells #[.slice a c.length p,.slice b d.length q] 157)):=(Below.refl _ _).alloc (le_refl _) _;refine IsLL.of_block (cs:=#[.slice a c.length p,.slice b d.length q]) (T:=157) (fr:=(0,0)) (heap_alloc_new w _) (by simp) (fun i z hz=>?_);have hi:i<2:=by simpa using (List.getElem?_eq_some_iff.1 hz).1
 have:i=0\/i=1:=by omega
 rcases this with rfl|rfl
 ·simp at hz;subst hz;exact⟨a,p,rfl,hc.below b1⟩
 ·simp at hz;subst hz;exact⟨b,q,rfl,hd.below b1⟩
theorem mergeB_any(i j:Int)(a b:Option Addr)(p q:Nat)(c d:List Ent)(w:World)(hc:IsL w a p c)(hd:IsL w b q d)(hl:c.length+d.length<=1000000) :
  Calls prog 191 #[.agg #[.int .i64 i,.slice a c.length p],.agg #[.int .i64 j,.slice b d.length q]] w (MadeB w (sortE (c++d))):=by
 obtain⟨S,hS⟩:∃S,w.heap.size=S:=⟨_,rfl⟩;have HS:Hid _:=hS;obtain⟨u,hu⟩:∃u,((w.alloc (.cells #[.int .i64 i,.slice a c.length p] 223)).alloc (.cells #[.int .i64 j,.slice b d.length q] 223)).alloc (.cells #[.int .i64 0,.slice none 0 0] 223)=u:=⟨_,rfl⟩;have HU:Hid _:=hu;have b0:Below S w u:=by rw[<-hu,<-hS];exact(((Below.refl _ _).alloc (le_refl _) _).alloc (by simp) _).alloc (by simp;omega) _
 have su:u.heap.size=S+3:=by rw[<-hu,<-hS];simp
 have x0:Box2 (S+2) (.int .i64 0) (.slice none 0 0) u:=by
  rw[<-hu,<-hS];have:=Box2.new ((w.alloc (.cells #[.int .i64 i,.slice a c.length p] 223)).alloc (.cells #[.int .i64 j,.slice b d.length q] 223)) (.int .i64 0) (.slice none 0 0) 223;simpa using this
 have k1:u.cell? ⟨S,1,none⟩=some (.slice a c.length p):=by rw[<-hu,<-hS];exact(cells3 w _ _ _ _ _ _ 1).1
 have k2:u.cell? ⟨S+1,1,none⟩=some (.slice b d.length q):=by rw[<-hu,<-hS];exact(cells3 w _ _ _ _ _ _ 1).2.1
 have tl:=two_lists (hc.below (by rw[hS];exact b0)) (hd.below (by rw[hS];exact b0));rw[su] at tl;have con:=concat_any _ 2 _ _ tl (by simpa using hl);simp only[length_cons,List.length_nil,List.flatten_cons,List.flatten_nil,List.append_nil,zero_add,Nat.reduceAdd] at con;have B0:Aside (Below S w u):=b0;have X0:Aside (Box2 (S+2) (.int .i64 0) (.slice none 0 0) u):=x0;have SU:Hid _:=su;obtain⟨n,hn⟩:∃n,(c++d).length=n:=⟨_,rfl⟩;have HN:Hid _:=hn;have hn':n<=1000000:=by rw[<-hn,length_append];exact hl
 obtain⟨U,hU⟩:∃U,u.alloc (.cells #[.slice a c.length p,.slice b d.length q] 157)=U:=⟨_,rfl⟩;have HUU:Hid _:=hU;have bU:Aside (Below (S+3) u U):=by rw[<-hU];exact(Below.refl _ _).alloc (by omega) _
 have sU:U.heap.size=S+4:=by rw[<-hU];simp[su]
 rw[hU] at con;have SUU:Hid _:=sU;clear b0 x0 su hu tl hn hU sU hc hd hl;go_enter func191,ntmps191
 go_wp2_with fail
 rw[HU.out,HUU.out];refine con.mono ?_;rintro e w1 ⟨r,t,rfl,o1,b1⟩;have ofa:=of_any r t (c++d) w1 o1.is (by rw[HN.out];exact hn');rw[HN.out] at ofa⊢;have B1:Aside (Below (S+3) u w1):=bU.out.trans (b1.mono (by rw[SUU.out];omega));clear con o1 b1 bU
 go_wp2_with fail
 refine ofa.mono ?_;rintro e w2 ⟨r2,t2,rfl,o2,b2⟩;have sl:(sortE (c++d)).length=n:=by rw[sortE_len,HN.out]
 have SL:Hid _:=sl;rw[sl];have sz:S+3<=w1.heap.size:=by have:=B1.out.size;rw[SU.out] at this;exact this
 have B2:Aside (Below (S+3) u w2):=B1.out.trans (b2.mono sz);have x2:=X0.out.below B2.out (by omega);have q0:=x2.c0;have q1:=x2.c1;have q2:=x2.f0;have q3:=x2.f1;obtain⟨m,hm⟩:∃m,lvl n=m:=⟨_,rfl⟩;have HM:Hid _:=hm;rw[hm]
 have B3:Aside (Below S w ((w2.setCell ⟨S+2,0,none⟩ (.int .i64 m)).setCell ⟨S+2,1,none⟩ (.slice r2 n t2))):=
  ((B0.out.trans (B2.out.mono (by omega))).setCell (by show S<=S+2;omega) _).setCell (by show S<=S+2;omega) _
 have X3:Aside (Box2 (S+2) (.int .i64 m) (.slice r2 n t2) ((w2.setCell ⟨S+2,0,none⟩ (.int .i64 m)).setCell ⟨S+2,1,none⟩ (.slice r2 n t2))):=x2.set _ _
 have O3:Aside (OwnE ((w2.setCell ⟨S+2,0,none⟩ (.int .i64 m)).setCell ⟨S+2,1,none⟩ (.slice r2 n t2)) S (.slice r2 (sortE (c++d)).length t2) (sortE (c++d))):=
  ((o2.set (by show S+2<_;omega) _).set (by show S+2<_;omega) _).low (by omega)
 clear x2 o2 b2 ofa X0 B0 B1 B2 hm sl
 go_wp2
 generalize World.setCell _ _ _=w3 at B3 X3 O3⊢;have y0:=X3.out.c0;have y1:=X3.out.c1;refine bodyPost_ret (v:=.agg #[.int .i64 m,.slice r2 n t2]) (by simp[results,results191,go_sem,y0,y1]) rfl ⟨r2,t2,?_,by rw[HS.out];exact O3.out,by rw[HS.out];exact B3.out⟩;rw[SL.out,HM.out]
def MinIs(w:World)(x:Ent)(r:Ending)(w':World):Prop:=r=.returned (.tuple #[.agg #[.int .u64 x.1,.int .i64 x.2],.bool true])/\Below w.heap.size w w'
theorem minB_any(i:Int)(a:Option Addr)(cap:Nat)(x:Ent)(d:List Ent)(w:World)(h:IsL w a cap (x::d)) :
  Calls prog 211 #[.agg #[.int .i64 i,.slice a (x::d).length cap]] w (MinIs w x):=by
 obtain⟨S,hS⟩:∃S,w.heap.size=S:=⟨_,rfl⟩;have HS:Hid _:=hS;have hl:=h.len;obtain⟨n,hn⟩:∃n,(x::d).length=n:=⟨_,rfl⟩;have n0:0<n:=by rw[<-hn];simp
 rw[hn] at hl⊢;obtain⟨b,off,rfl,hb,c0,c1⟩:=h.elem 0 x rfl;simp only[Nat.zero_mul,Nat.add_zero] at c0 c1;have t1:¬(n:Int)=0:=by omega
 have t2:((n:Int)==0)=false:=by simp;omega
 have t3:(0:Int)<(n:Int):=by omega
 have hb2:b<S:=by omega
 clear h hn;go_enter func211,ntmps211
 go_wp2
 refine bodyPost_ret (v:=.tuple #[.agg #[.int .u64 x.1,.int .i64 x.2],.bool true]) (by simp[results,results211,go_sem,hS]) rfl ⟨rfl,((Below.refl _ _).alloc (le_refl _) _).alloc (by simp) _⟩
section
def MadeN(w:World)(m n:Nat)(d:List Ent)(r:Ending)(w':World):Prop:=∃a cap,r=.returned (.agg #[.int .i64 m,.slice a n cap])/\IsL w' a cap d/\Below w.heap.size w w'
theorem MadeB.n{w w':World}{d:List Ent}{r:Ending}(h:MadeB w d r w'){n m:Nat}(hn:d.length=n)(hm:lvl n=m):MadeN w m n d r w':=by
 obtain⟨a,cap,h1,h2,h3⟩:=h;rw[hn,hm] at h1;exact⟨a,cap,h1,h2.is,h3⟩
variable {w:World}{a b:Option Addr}{p q:Nat}{c d e:List Ent}
theorem Box2.on{S:Nat}{x y:Value}{w w':World}(h:Box2 S x y w)(hw:Below w.heap.size w w'):Box2 S x y w':=h.below hw h.lt
end
structure IsBs(w:World)(a:Option Addr)(ls:List (List Ent)):Prop where
 len:ls.length<=9223372036854775807
 elem:∀i d,ls[i]?=some d->∃b off p k m,a=some ⟨b,off,none⟩/\b<w.heap.size/\w.cell? ⟨b,off+i*2,none⟩=some (.int .i64 m)/\w.cell? ⟨b,off+i*2+1,none⟩=some (.slice p d.length k)/\IsL w p k d
theorem IsBs.below{w w':World}{a:Option Addr}{ls:List (List Ent)}(h:IsBs w a ls)(hw:Below w.heap.size w w'):IsBs w' a ls:=
 ⟨h.len,fun i d hd=>by
  obtain⟨b,off,p,k,m,e,hb,h1,h2,h3⟩:=h.elem i d hd;exact⟨b,off,p,k,m,e,by have:=hw.size;omega,(hw.cell (p:=⟨b,off+i*2,none⟩) hb).trans h1,(hw.cell (p:=⟨b,off+i*2+1,none⟩) hb).trans h2,h3.below hw⟩⟩
def PivO(w:World)(K:Nat)(d:List Ent)(r:Ending)(w':World):Prop:=∃a cap,r=.returned (.slice a K cap)/\OwnE w' w.heap.size (.slice a K cap) d/\Below w.heap.size w w'
theorem OwnE.take{w:World}{base n cap:Nat}{a:Option Addr}{d:List Ent}(h:OwnE w base (.slice a n cap) d)(k:Nat)(hk:k<=n)(hn:d.length=n):OwnE w base (.slice a k cap) (d.take k):=by
 have e:(d.take k).length=k:=by rw[List.length_take];omega
 have hf:flat (d.take k)=(flat d).take (k*2):=by
  conv=>rhs;rw[<-List.take_append_drop k d,flat_append]
  rw[List.take_append_of_le_length (by rw[flat_len,e];omega)];exact(take_of_length_le (by rw[flat_len,e];omega)).symm
 subst hn;refine⟨by rw[flat_len],?_⟩;rw[e];rcases h.2 with⟨h1,h0⟩|⟨g,cap',cur,h1,hb,hg,hn,hc,hs,ht⟩
 ·injection h1 with e1 e2 e3
  subst e1 e3;have:k=0:=by omega
  subst this;exact .inl ⟨rfl,rfl⟩
 ·injection h1 with e1 e2 e3
  subst e1 e3;exact .inr ⟨g,cap,cur,rfl,hb,hg,by omega,hc,hs,by rw[hf,<-ht,List.take_take];congr 1;omega⟩
theorem pivotO_any(a:Option Addr)(cap:Nat)(ls:List (List Ent))(n:Int)(w:World)(h:IsBs w a ls)(hd:ls.flatten.length<=1000000) :
  Calls prog 136 #[.slice a ls.length cap,.int .i64 n] w (PivO w (wth n ls.flatten.length) ((sortE ls.flatten).take (wth n ls.flatten.length))):=by
 have hl:=h.len;have H:Aside (IsBs w a ls):=h;clear h;go_enter func136,ntmps136
 go_wp2
 go_loopg [5,10] ls.length (fun kx s5 s10 wr=>∃(k n:Nat)(r:Option Addr)(t:Nat),s10=.int .i64 k/\s5=.slice r n t/\Hid ((ls.take k).flatten.length=n)/\k<=ls.length/\ls.length-k<=kx/\Aside (OwnE wr w.heap.size (.slice r n t) (ls.take k).flatten)/\Aside (Below w.heap.size w wr))
 case atStart=>exact⟨0,0,none,0,rfl,rfl,rfl,by omega,by omega,OwnE.nil w _,Below.refl _ _⟩
 case round=>
  obtain⟨k,z,r,t,rfl,rfl,HN,hk,hkx,O,B⟩:=hrel;by_cases hlt:k<ls.length
  ·have hz:(k:Int)<(ls.length:Int):=by omega
   obtain⟨b,off,p,q,m,rfl,hb,c0,c1,L⟩:=(H.out.below B.out).elem k ls[k] (getElem?_eq_getElem hlt);have e1:=flat_take hlt;have e2:=flat_take_le ls (k+1);obtain⟨d,hdk⟩:∃d,ls[k]=d:=⟨_,rfl⟩;rw[hdk] at e1 c1 L;have e3:(ls.take k).flatten.length+d.length<=1000000:=by rw[e1,length_append] at e2;omega
   have bv:Below wr.heap.size wr (wr.alloc (.cells #[.int .i64 m,.slice p d.length q] 223)):=(Below.refl _ _).alloc (le_refl _) _;obtain⟨v2,w2,hr,o2,g2⟩:=app_run (d:=(ls.take k).flatten) (c:=d) (O.out.below bv) (L.below bv) e3 (le_trans B.out.size bv.size) 157;obtain⟨r2,t2,rfl,_⟩:=o2.isL;have B2:Aside (Below w.heap.size w w2):=OwnE.grown (O.out.below bv) (B.out.trans (bv.mono B.out.size)) g2 (le_trans B.out.size bv.size);rw[<-e1] at o2 hr;obtain⟨n2,hn2⟩:∃n2,(ls.take (k+1)).flatten.length=n2:=⟨_,rfl⟩;rw[hn2] at hr;have O2:Aside (OwnE w2 w.heap.size (.slice r2 n2 t2) (ls.take (k+1)).flatten):=by rw[<-hn2];exact o2
   have HN2:Hid _:=hn2;clear o2 g2 e1 e2 e3 hdk hn2 L O B bv
   go_wp2_with (at_builtin;refine Lib.wpList_append_run (World.alloc wr _) rfl _ _ 157 157 rfl _ _ rfl rfl _ w2 hr ?_)
   go_roundg (ls.length-(k+1))
   case measure=>omega
   case rel=>exact⟨k+1,n2,r2,t2,by go_num,rfl,HN2,by omega,le_refl _,O2,B2⟩
  ·have hz:¬(k:Int)<(ls.length:Int):=by omega
   have e:(ls.take k).flatten=ls.flatten:=by rw[take_of_length_le (by omega)]
   rw[e] at HN O;have hz2:z<=1000000:=by have:=HN.out;omega
   have so:=sort_made r t ls.flatten wr O.out.is hd;have wi:=within_any n z (by omega);have k0:=wth_le n z;rw[HN.out] at so;obtain⟨K,hK⟩:∃K,wth n z=K:=⟨_,rfl⟩;have HK:Hid _:=hK;rw[hK] at wi k0;have sl:(sortE ls.flatten).length=z:=by rw[sortE_len,HN.out]
   have SL:Hid _:=sl;have B0:=B.out.size;clear e sl hK O
   go_wp2_with fail
   refine so.mono ?_;rintro e w1 ⟨r1,t1,rfl,o1,b1⟩;rw[SL.out] at o1⊢;have t0:=o1.is.le;have t3:=o1.is.big;rw[SL.out] at t0;unfold maxLen at t3;have B1:Aside (Below w.heap.size w w1):=B.out.trans (b1.mono B0);have O1:Aside (OwnE w1 w.heap.size (.slice r1 K t1) ((sortE ls.flatten).take K)):=(o1.take K (by omega) SL.out).low B0;have j1:(K:Int)<=(t1:Int):=by omega
   have j2:(K:Int)<=(z:Int):=by omega
   have j3:(0:Int)<=(K:Int):=by omega
   clear o1 b1 so B
   go_wp2_with fail
   refine(wi _).mono ?_;rintro e w2 ⟨rfl,rfl⟩
   go_wp2
   go_ret;exact⟨r1,t1,by rw[HN.out,HK.out];rfl,by rw[HN.out,HK.out];exact O1.out,B1.out⟩
end Go.Proofs.YtjpbngiddjkjiaaGreatDoor.Qu
