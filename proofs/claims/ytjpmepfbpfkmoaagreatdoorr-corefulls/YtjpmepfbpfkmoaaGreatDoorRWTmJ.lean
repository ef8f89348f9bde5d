import Derived.Test.YtjpmepfbpfkmoaaGreatDoorRA0
import Derived.Test.YtjpmepfbpfkmoaaGreatDoorRWEntS
import Derived.StillTail
import Derived.Laws.BitsAllLaws
namespace Go.Proofs.YtjpmepfbpfkmoaaGreatDoorR.Wl
set_option maxHeartbeats 8000000
set_option maxRecDepth 100000
set_option linter.unusedVariables false
section
open Go.RowKit Go.Lib Go.Sort
theorem insert_full(g off i base G:Nat)(d:List Ent)(x:Ent)(w:World)(h:RowF w base g off d.length d)(hi:i<d.length)(hN:d.length≤100000)
  (hG:w.heap[G]?=some (.cells #[.int .u64 x.1,.int .i64 x.2] 117 (0,0))) (hbase:base≤w.heap.size) :
  Calls Tryz.prog 156 #[.slice (some ⟨g,off,none⟩) d.length d.length,.int .i64 i,.slice (some ⟨G,0,none⟩) 1 1] w (InsF w base (.slice (some ⟨g,off,none⟩) d.length d.length) (d.take i++x::d.drop i)):=by
 obtain⟨inf,hinf,hzr,hsz,hby⟩:=infoE
 have hgl:=h.lt
 have hGl:=lt_of_block hG
 obtain⟨n,hn⟩:∃n,d.length=n:=⟨_,rfl⟩
 obtain⟨S,hS⟩:∃S,w.heap.size=S:=⟨_,rfl⟩
 obtain⟨X0,hX0⟩:∃X,flat (d.take i)=X:=⟨_,rfl⟩
 obtain⟨X1,hX1⟩:∃X,flat (d.drop i)=X:=⟨_,rfl⟩
 obtain⟨Y,hY⟩:∃Y,flat [x]=Y:=⟨_,rfl⟩
 have l0:X0.length=i*2:=by rw[←hX0,flat_len,List.length_take];omega
 have l1:X1.length=(n-i)*2:=by rw[←hX1,flat_len,List.length_drop,hn]
 have lY:Y.length=2:=by rw[←hY];rfl
 obtain⟨C,hC⟩:∃C,grownCap w (i+(n+1-i)) n 117=C:=⟨_,rfl⟩
 have hC1:n+1≤C:=by rw[←hC];have:=grownCap_ge w (i+(n+1-i)) n 117;omega
 have hC2:C≤maxLen:=by rw[←hC];exact grownCap_le_maxLen w _ n _ (by unfold maxLen;omega)
 have hz2:(Value.agg #[.int .u64 0,.int .i64 0]).cells=#[.int .u64 0,.int .i64 0]:=rfl
 obtain⟨cur1,hcur1⟩:∃c,X0.toArray++Builtin.zeroCells #[.int .u64 0,.int .i64 0] (n+1-i)++Builtin.zeroCells #[.int .u64 0,.int .i64 0] (C-(i+(n+1-i)))=c:=⟨_,rfl⟩
 have s1:cur1.size=C*2:=by
  rw[←hcur1]
  simp only[Array.size_append,List.size_toArray,size_zeroCells,l0]
  show i*2+(n+1-i)*2+(C-(i+(n+1-i)))*2=C*2
  omega
 have t1:cur1.toList.take (i*2)=X0:=by
  rw[←hcur1]
  simp only[Array.toList_append,List.append_assoc]
  rw[←l0]
  exact List.take_left
 obtain⟨w1,hw1⟩:∃W,w.drew.alloc (.cells cur1 117)=W:=⟨_,rfl⟩
 have hold:(Builtin.firstCells inf.size i (.slice (some ⟨g,off,none⟩) i n)).run Tryz.prog w.drew=.ok X0.toArray w.drew:=by
  refine run_firstCells_some _ _ _ _ _ _ _ (by rw[l0,hsz]) (fun j v hj=>?_)
  have hjl:=(List.getElem?_eq_some_iff.1 hj).1
  rw[Addr.add_lit]
  show w.cell? _=_
  rw[h.cell j (by omega),←hj,←hX0,flat_take,List.getElem?_take_of_lt (by omega)]
 have hap:∀ty,(Builtin.append_ #[36,3] ty #[.slice (some ⟨g,off,none⟩) i n,.int .i64 ((n:Int)+1-(i:Int))]).run Tryz.prog w=.ok (.slice (some ⟨S,0,none⟩) (n+1) C) w1:=fun ty=>by
  have:=Lib.run_append_grow_zeros (P:=Tryz.prog) w 36 3 ty 117 inf _ .i64 .i64 Tryz.underlying36 Tryz.underlying3 hinf hzr (some ⟨g,off,none⟩) i n X0 hold (n+1-i) (by omega) (by omega) (by omega) (by omega) (by rw[hby];omega) (by rw[hby];exact growslice_fits (by omega) (by omega))
  rw[hz2,hC,hcur1,hS,show i+(n+1-i)=n+1 by omega,hw1] at this
  rw[show(n:Int)+1-(i:Int)=((n+1-i:Nat):Int) by omega]
  exact this
 have b1:Below w.heap.size w w1:=by rw[←hw1];exact((Below.refl _ _).drew).alloc (Nat.le_refl _) _
 have g1:w1.heap[S]?=some (.cells cur1 117 (0,0)):=by rw[←hw1,←hS];exact heap_alloc_new w.drew _
 have hG1:=(b1.block G hGl).trans hG
 have R1:RowF w1 base g off d.length d:=h.of_block (b1.block g hgl)
 have hcs:cur1.toList.length=C*2:=by simpa using s1
 have hcp1:∀ty dc,(Builtin.copy_ #[36,36] ty #[.slice (some ⟨S,i*2,none⟩) (n+1-i) dc,.slice (some ⟨G,0,none⟩) 1 1]).run Tryz.prog w1=.ok (goInt 1) (w1.setRow S (splice cur1.toList (i*2) Y).toArray):=fun ty dc=>by
  have e:Nat.min 1 (n+1-i)=1:=by show min _ _=_;omega
  have:=run_copy2 w1 ty S (i*2) (n+1-i) dc ⟨G,0,none⟩ 1 1 _ Y g1 (by rw[e,lY]) (fun j v hj=>by
   have:j=0∨j=1:=by have:=(List.getElem?_eq_some_iff.1 hj).1;omega
   rw[Addr.add_lit,Nat.zero_add,cell_of_row _ _ _ _ _ _ hG1,←hj,←hY]
   rcases this with rfl|rfl<;>rfl) (by rw[s1,lY];omega) (by rw[←hY];exact flat_one _)
  rw[e] at this
  exact this
 have hSg:g≠S:=by omega
 obtain⟨w2,hw2⟩:∃w2,w1.setRow S (splice cur1.toList (i*2) Y).toArray=w2:=⟨_,rfl⟩
 have g2:w2.heap[S]?=some (.cells (splice cur1.toList (i*2) Y).toArray 117 (0,0)):=by rw[←hw2];exact setRow_heap w1 _ _ _ _ _ g1
 have R2:RowF w2 base g off d.length d:=R1.of_block (by rw[←hw2];exact setRow_other w1 S g _ hSg)
 have gw2:w.grownBy w2 none:=by rw[←hw2];exact grown_set _ (grown_below _ b1) (.inr (by omega))
 simp only[hw2] at hcp1
 have m1:(splice cur1.toList (i*2) Y).length=C*2:=by rw[length_splice _ _ _ (by rw[lY,hcs];omega),hcs]
 have hcp2:∀ty dc sc,(Builtin.copy_ #[36,36] ty #[.slice (some ⟨S,(i+1)*2,none⟩) (n+1-(i+1)) dc,.slice (some ⟨g,off+i*2,none⟩) (n-i) sc]).run Tryz.prog w2.drew=.ok (goInt ((n-i:Nat):Int)) (w2.drew.setRow S (splice (splice cur1.toList (i*2) Y) ((i+1)*2) X1).toArray):=fun ty dc sc=>by
  have e:Nat.min (n-i) (n+1-(i+1))=n-i:=by show min _ _=_;omega
  have:=run_copy2 w2.drew ty S ((i+1)*2) (n+1-(i+1)) dc ⟨g,off+i*2,none⟩ (n-i) sc _ X1 g2 (by rw[e,l1]) (fun j v hj=>by
   have hjl:=(List.getElem?_eq_some_iff.1 hj).1
   rw[Addr.add_lit]
   show w2.cell? _=_
   rw[Nat.add_assoc,R2.cell (i*2+j) (by omega),←hj,←hX1,flat_drop,List.getElem?_drop]) (by simp only[List.size_toArray];rw[m1,l1];omega) (by rw[←hX1];exact flat_one _)
  rw[e] at this
  exact this
 obtain⟨w3,hw3⟩:∃w3,w2.drew.setRow S (splice (splice cur1.toList (i*2) Y) ((i+1)*2) X1).toArray=w3:=⟨_,rfl⟩
 have g3:w3.heap[S]?=some (.cells (splice (splice cur1.toList (i*2) Y) ((i+1)*2) X1).toArray 117 (0,0)):=by rw[←hw3];exact setRow_heap w2.drew _ _ _ _ _ g2
 have gw3:w.grownBy w3 none:=by rw[←hw3];exact grown_set _ (grown_trans gw2 (grown_below _ ((Below.refl _ _).drew))) (.inr (by omega))
 simp only[hw3] at hcp2
 have le:(d.take i++x::d.drop i).length=n+1:=by simp;omega
 have hfin:RowF w3 base S 0 C (d.take i++x::d.drop i):=by
  refine⟨by omega,by omega,by omega,hC2,[],splice (splice cur1.toList (i*2) Y) ((i+1)*2) X1,g3,rfl,by rw[length_splice _ _ _ (by rw[l1,m1];omega),m1],?_⟩
  have e1:flat (d.take i++x::d.drop i)=X0++(Y++X1):=by rw[←hX0,←hY,←hX1,←flat_append,←flat_append];rfl
  rw[le,e1,←t1]
  show List.take _ ((splice cur1.toList (i*2) Y).take ((i+1)*2)++(X1++(splice cur1.toList (i*2) Y).drop ((i+1)*2+X1.length)))=_
  have e2:(splice cur1.toList (i*2) Y).take ((i+1)*2)=cur1.toList.take (i*2)++Y:=by
   unfold splice
   rw[←List.append_assoc,List.take_append_of_le_length (by rw[List.length_append,List.length_take,hcs,lY];omega),List.take_of_length_le (by rw[List.length_append,List.length_take,hcs,lY];omega)]
  rw[e2,←List.append_assoc,List.take_append_of_le_length (by simp[lY,l1,s1];omega),List.take_of_length_le (by simp[lY,l1,s1];omega),List.append_assoc]
 have F:Aside (InsF w base (.slice (some ⟨g,off,none⟩) n n) (d.take i++x::d.drop i) (.returned (.slice (some ⟨S,0,none⟩) (n+1) C)) w3):=
  ⟨_,rfl,.inr ⟨S,0,C,by rw[le],hfin⟩,⟨gw3.os,gw3.tape,gw3.output,gw3.size,fun k hk _=>gw3.block k hk (by simp)⟩,fun k hk=>.inr (by rw[hfin.rowB] at hk;injection hk with hk;omega)⟩
 have mx:=mixed
 rw[hn] at hi hN⊢
 have z1:¬((i:Int)=(n:Int)):=by omega
 have z2:((i:Int)==(n:Int))=false:=by simp;omega
 have z3:(i:Int)≤(n:Int):=by omega
 have z4:¬n=i:=by omega
 have z5:¬C=i:=by omega
 have z6:(n:Int)<(n:Int)+1:=by omega
 have z7:¬C=i+1:=by omega
 have z8:(i:Int)≤(n:Int)+1:=by omega
 have z9:(i:Int)+1≤(n:Int)+1:=by omega
 have z10:((i:Int)+1).toNat=i+1:=by omega
 have z11:(0:Int)≤(i:Int)+1:=by omega
 have z13:IntKind.i64.wrap ((i:Int)+1)=(i:Int)+1:=by rw[IntKind.wrap_i64];omega
 have z14:IntKind.i64.wrap ((n:Int)+1)=(n:Int)+1:=by rw[IntKind.wrap_i64];omega
 have z15:IntKind.i64.wrap ((n:Int)+1-(i:Int))=(n:Int)+1-(i:Int):=by rw[IntKind.wrap_i64];omega
 have hC3:(C:Int)≤9223372036854775807:=by unfold maxLen at hC2;omega
 clear h hG hcs hX1 hX0 hY l1 l0 lY b1 g1 hG1 m1 hw1 g2 hw2 hfin hinf hn g3 hw3 s1 t1 hcur1 hC hC2 hzr R1 R2 gw2 gw3 le hold
 go_enter Tryz.func156,Tryz.ntmps156
 go_wp2_with (first
  | (at_builtin;refine Lib.wpList_append_run w rfl _ _ 36 3 rfl _ _ rfl rfl _ _ (hap _) ?_)
  | (at_builtin;refine wpList_copy_run2 w1 rfl _ _ 36 36 rfl _ _ rfl rfl (hcp1 _ _) ?_))
 go_region_law_o (refine step_copy_run2 w2.drew rfl _ _ 36 36 rfl _ _ (by simp[Act.eval,Act.put];rfl) (by simp[Act.eval,Act.put];rfl) (hcp2 _ _ _) ?_)
 go_wp2
 go_ret
 exact F.out
theorem insert_any(v:Value)(base i G:Nat)(d:List Ent)(x:Ent)(w:World)(h:OwnF w base v d)(hi:i≤d.length)(hN:d.length≤100000)
  (hG:w.heap[G]?=some (.cells #[.int .u64 x.1,.int .i64 x.2] 117 (0,0))) (hne:rowB v≠some G) (hbase:base≤w.heap.size) :
  Calls Tryz.prog 156 #[v,.int .i64 i,.slice (some ⟨G,0,none⟩) 1 1] w (InsF w base v (d.take i++x::d.drop i)):=by
 by_cases c:i=d.length
 ·subst c
  rw[List.take_of_length_le (Nat.le_refl _),List.drop_eq_nil_of_le (Nat.le_refl _)]
  exact insert_end v base G d x w h (by rw[cell_of_row _ _ _ _ _ _ hG];rfl) (by rw[cell_of_row _ _ _ _ _ _ hG];rfl) (lt_of_block hG) hN hbase
 ·rcases h with⟨rfl,_⟩|⟨g,off,cap,rfl,hr⟩
  ·simp at hi c;omega
  ·have hle:=hr.le
   by_cases hroom:d.length<cap
   ·exact insert_mid g off cap i base G d x w hr (by omega) hroom hG (fun e=>hne (by rw[hr.rowB,e]))
   ·obtain rfl:cap=d.length:=by omega
    exact insert_full g off i base G d x w hr (by omega) hN hG hbase
theorem clone_any(v:Value)(base:Nat)(d:List Ent)(w:World)(h:OwnF w base v d)(hd:d.length≤100000) :
  Calls Tryz.prog 92 #[v] w fun r w'=>∃v',r=.returned v'∧OwnF w' w.heap.size v' d∧Below w.heap.size w w'∧∀k,rowB v'=some k→w.heap.size≤k:=by
 have q22:∀(w:World)(a:Option Addr)(n c n' c':Nat),(binOp .eql 36 (.slice a n c) (.slice none n' c')).run Tryz.prog w=.ok (.bool a.isNone) w:=fun w a n c n' c'=>Lib.run_eql_slice_nil w _ _ a n c n' c' Tryz.underlying36
 obtain⟨a,cap,rfl,ha,hc1,hc2,hL⟩:=h.isL
 rcases ha with⟨rfl,rfl⟩|⟨g,off,rfl⟩
 ·obtain rfl:d=[]:=List.length_eq_zero_iff.1 (by omega)
  go_enter Tryz.func92,Tryz.ntmps92
  go_wp2
  go_ret
  exact⟨_,rfl,OwnF.nil _ _,Below.refl _ _,fun k hk=>by cases hk⟩
 ·obtain⟨v',w',hr,o,k1,k2⟩:=appF (d:=[]) (c:=d) (OwnF.zero (w.alloc (.cells #[] 117)) w.heap.size w.heap.size 0) (hL.below ((Below.refl _ _).alloc (Nat.le_refl _) _)) (by simp;omega) (by simp) 36
  have F:Aside (OwnF w' w.heap.size v' d∧Below w.heap.size w w'∧∀k,rowB v'=some k→w.heap.size≤k):=by
   refine⟨o,((Below.refl _ _).alloc (Nat.le_refl _) _).trans ⟨k1.os,k1.tape,k1.output,k1.size,fun k hk=>k1.block k (by simp;omega) (fun e=>by cases e)⟩,fun k hk=>?_⟩
   rcases k2 k hk with h|h
   ·cases h
   ·simp at h;omega
  clear o k1 k2 h hL
  go_enter Tryz.func92,Tryz.ntmps92
  go_wp2_with (at_builtin;refine Lib.wpList_append_run _ rfl _ _ 36 36 rfl _ _ rfl rfl v' w' hr ?_)
  go_ret
  exact⟨_,rfl,F.out⟩
end
section
section
variable {P:Program}{ops:Array Oper}{Q:Exit→Act→World→Prop}{md:Region.Mode}{S:World→Prop}{L:Nat}
def wpAnyE(P:Program)(md:Region.Mode)(ops:Array Oper)(Q:Exit→Act→World→Prop)(S:World→Prop)(L:Nat):Nat→Array Bool→Act→World→Prop
 | 0,lst,a,w=>Region.ready md ops lst=[]∧Q .normal a w
 | f+1,lst,a,w=>(Region.ready md ops lst=[]→Q .normal a w)∧
   ∀i∈Region.ready md ops lst,wpOp P ops Q i (fun b u=>(i≠L→S u)∧wpAnyE P md ops Q S L f (lst.setIfInBounds i true) b u) a w
theorem anyE_any:∀(f:Nat)(lst:Array Bool)(a:Act)(w:World),wpAnyE P md ops Q S L f lst a w→wpAny P md ops Q f lst a w
 | 0,_,_,_,h=>h
 | f+1,_,_,_,h=>⟨h.1,fun i hi=>wpOp_mono (fun b u g=>anyE_any f _ b u g.2) (h.2 i hi)⟩
theorem anyE_start{id:Nat}{a:Act}{w:World}(hm:P.follows .mixedOrders=true)(h:wpAnyE P .any ops Q S L ops.size (Array.replicate ops.size false) a w.drew):(Code.region id ops true).wp P Q a w:=
 wp_region_any hm (anyE_any _ _ _ _ h)
theorem anyE_first{i:Nat}{oi:Oper}{v:Value}(hi:ops[i]?=some oi)(hsel:Region.noSelect ops=true)(hL:Region.waitsFor md ops L i=true)(hQ:∀c a w,Q (.panic c) (a.put oi.dst v) w→Q (.panic c) a w) :
  ∀(f:Nat)(lst:Array Bool)(a:Act)(w:World),(∀j oj,ops[j]?=some oj→j≠i→lst.getD j true=false→(∀e∈oj.after,Region.binds md e=true→e.on≠i)→oi.apart ops oj=true)→
   i∈Region.ready md ops lst→YieldsIf P ops S oi v a→S w→wpAnyE P md ops Q S L f (lst.setIfInBounds i true) (a.put oi.dst v) w→wpAnyE P md ops Q S L (f+1) lst a w:=by
 intro f
 induction f with
 | zero=>
  intro lst a w _ hr hy hS H
  refine⟨fun h=>(by rw[h] at hr;cases hr),fun j hj=>?_⟩
  by_cases e:j=i
  ·subst e;exact hy.wpOp hi hS ⟨fun _=>hS,H⟩
  ·have:=ready_mono hj e
   rw[H.1] at this
   cases this
 | succ f ih=>
  intro lst a w hfree hr hy hS H
  refine⟨fun h=>(by rw[h] at hr;cases hr),fun j hj=>?_⟩
  by_cases e:j=i
  ·subst e;exact hy.wpOp hi hS ⟨fun _=>hS,H⟩
  ·obtain⟨hjun,oj,hoj,hall⟩:=mem_ready.1 hj
   have hr0:=(mem_ready.1 hr).1
   have hnot:∀x∈oj.after,Region.binds md x=true→x.on≠i:=fun x hx hb he=>by
    have h1:=hall x hx hb
    rw[he] at h1
    rcases Nat.lt_or_ge i lst.size with c|c
    ·simp[c] at hr0 h1;rw[hr0] at h1;cases h1
    ·simp[Array.getElem?_eq_none c] at h1
   have ns:=Region.noSelect_spec hsel
   have step:=wpOp_putIf hoj (hfree j oj hoj e hjun hnot) (fun cs b=>ns i oi cs b hi) (fun cs b=>ns j oj cs b hoj) hQ hy (H.2 j (ready_mono hj e))
   have hri:=ready_mono hr (Ne.symm e)
   have hfree':∀k ok,ops[k]?=some ok→k≠i→(lst.setIfInBounds j true).getD k true=false→(∀x∈ok.after,Region.binds md x=true→x.on≠i)→oi.apart ops ok=true:=fun k ok hk hki hun hno=>by
    refine hfree k ok hk hki ?_ hno
    by_cases c:j=k
    ·subst c;exact hjun
    ·rw[getD_set_ne true c] at hun;exact hun
   refine wpOp_mono (fun b u g=>?_) step
   have jL:j≠L:=by
    rintro rfl
    obtain⟨o',ho',x,hx,hb,he⟩:=Region.waitsFor_spec hL
    rw[hoj] at ho'
    injection ho' with ho'
    subst ho'
    exact hnot x hx hb he
   have hS':=g.2.1 jL
   refine⟨fun _=>hS',ih (lst.setIfInBounds j true) b u hfree' hri g.1 hS' ?_⟩
   rw[Array.setIfInBounds_comm _ _ e]
   exact g.2.2
theorem anyE_take{i:Nat}{oi:Oper}{v:Value}{f:Nat}{lst:Array Bool}{a:Act}{w:World}(hi:ops[i]?=some oi)(hs:Region.noSelect ops=true)(hL:Region.waitsFor md ops L i=true)(hf:Region.free md ops lst i=true)(hr:(Region.ready md ops lst).contains i=true)
  (hQ:∀c a w,Q (.panic c) (a.put oi.dst v) w→Q (.panic c) a w) (hy:YieldsIf P ops S oi v a) (hS:S w) (h:wpAnyE P md ops Q S L f (lst.setIfInBounds i true) (a.put oi.dst v) w):wpAnyE P md ops Q S L (f+1) lst a w:=
 anyE_first hi hs hL hQ f lst a w (Region.free_spec hi hf) (by simpa using hr) hy hS h
theorem anyE_t{i:Nat}{oi:Oper}{v:Value}{f:Nat}{lst:Array Bool}{a:Act}{w:World}(hi:ops[i]?=some oi)(hh:(Region.noSelect ops&&Region.waitsFor md ops L i&&Region.free md ops lst i&&(Region.ready md ops lst).contains i)=true)
  (hQ:∀c a w,Q (.panic c) (a.put oi.dst v) w→Q (.panic c) a w) (hy:YieldsIf P ops S oi v a) (hS:S w) (h:wpAnyE P md ops Q S L f (lst.setIfInBounds i true) (a.put oi.dst v) w):wpAnyE P md ops Q S L (f+1) lst a w:=by
 simp only[Bool.and_eq_true] at hh
 exact anyE_take hi hh.1.1.1 hh.1.1.2 hh.1.2 hh.2 hQ hy hS h
def AllE(P:Program)(md:Region.Mode)(ops:Array Oper)(Q:Exit→Act→World→Prop)(S:World→Prop)(L f:Nat)(lst:Array Bool)(a:Act)(w:World)(rs:List Nat):Prop:=
 ∀i∈rs,wpOp P ops Q i (fun b u=>(i≠L→S u)∧wpAnyE P md ops Q S L f (lst.setIfInBounds i true) b u) a w
theorem anyE_ready{rs:List Nat}{f:Nat}{lst:Array Bool}{a:Act}{w:World}(hr:Region.ready md ops lst=rs)(hne:rs≠[])(h:AllE P md ops Q S L f lst a w rs):wpAnyE P md ops Q S L (f+1) lst a w:=
 ⟨fun c=>absurd (hr.symm.trans c) hne,fun i hi=>h i (by rw[←hr];exact hi)⟩
theorem AllE.nil{f:Nat}{lst:Array Bool}{a:Act}{w:World}:AllE P md ops Q S L f lst a w []:=fun _ h=>by cases h
theorem AllE.cons{f:Nat}{lst:Array Bool}{a:Act}{w:World}{i:Nat}{o:Oper}{rs:List Nat}(ho:ops[i]?=some o)
  (h:∀K:Act→World→Prop,Shut (∀a w,(i≠L→S w)→wpAnyE P md ops Q S L f (lst.setIfInBounds i true) a w→K a w)→if Region.wanted o (yielded ops a.tmps)=true then Oper.wp P o a w K Q else K (a.put o.dst undef) w)
  (hs:AllE P md ops Q S L f lst a w rs):AllE P md ops Q S L f lst a w (i::rs):=fun j hj=>by
 rcases List.mem_cons.1 hj with rfl|hj
 ·exact wpOp_step ho (fun K hK=>h K (fun a w h1 h2=>hK a w ⟨h1,h2⟩))
 ·exact hs j hj
theorem anyE_done{lst:Array Bool}{a:Act}{w:World}(hr:Region.ready md ops lst=[])(h:Q .normal a w):∀f,wpAnyE P md ops Q S L f lst a w
 | 0=>⟨hr,h⟩
 | _+1=>⟨fun _=>h,by rw[hr];simp⟩
end
end
section
section
variable {P:Program}{ops:Array Oper}{Q:Exit→Act→World→Prop}{md:Region.Mode}{S:World→Prop}{L:Nat}
def chainOk(md:Region.Mode)(ops:Array Oper):Nat→List Nat→Nat→Bool
 | i,[],L=>Region.waitsFor md ops L i
 | i,m::ms,L=>Region.waitsFor md ops m i&&chainOk md ops m ms L
theorem not_ready{lst:Array Bool}{a b:Nat}(hw:Region.waitsFor md ops a b=true)(hb:lst.getD b true=false):a∉Region.ready md ops lst:=fun h=>by
 obtain⟨_,oj,hoj,hall⟩:=mem_ready.1 h
 obtain⟨o',ho',x,hx,hbd,he⟩:=Region.waitsFor_spec hw
 rw[hoj] at ho'
 injection ho' with ho'
 subst ho'
 have h1:=hall x hx hbd
 rw[he] at h1
 rcases Nat.lt_or_ge b lst.size with c|c
 ·simp[c] at hb h1;rw[hb] at h1;cases h1
 ·simp[Array.getElem?_eq_none c] at h1
theorem chain_not{lst:Array Bool}{j:Nat}(hj:j∈Region.ready md ops lst):∀(ms:List Nat)(i:Nat),chainOk md ops i ms L=true→lst.getD i true=false→(∀m∈ms,lst.getD m true=false)→j∉ms∧j≠L
 | [],i,h,hi,_=>⟨by simp,fun e=>not_ready h hi (e▸hj)⟩
 | m::ms,i,h,hi,hu=>by
  simp only[chainOk,Bool.and_eq_true] at h
  obtain⟨h1,h2⟩:=chain_not hj ms m h.2 (hu m (by simp)) (fun x hx=>hu x (by simp[hx]))
  refine⟨fun hx=>?_,h2⟩
  rcases List.mem_cons.1 hx with e|hx
  ·exact not_ready h.1 hi (e▸hj)
  ·exact h1 hx
theorem anyF_first{i:Nat}{oi:Oper}{v:Value}(ms:List Nat)(hi:ops[i]?=some oi)(hsel:Region.noSelect ops=true)(hL:chainOk md ops i ms L=true)(hQ:∀c a w,Q (.panic c) (a.put oi.dst v) w→Q (.panic c) a w) :
  ∀(f:Nat)(lst:Array Bool)(a:Act)(w:World),(∀m∈ms,lst.getD m true=false)→(∀j oj,ops[j]?=some oj→j≠i→lst.getD j true=false→(∀e∈oj.after,Region.binds md e=true→e.on≠i)→oi.apart ops oj=true)→
   i∈Region.ready md ops lst→YieldsIf P ops S oi v a→S w→wpAnyE P md ops Q S L f (lst.setIfInBounds i true) (a.put oi.dst v) w→wpAnyE P md ops Q S L (f+1) lst a w:=by
 intro f
 induction f with
 | zero=>
  intro lst a w _ _ hr hy hS H
  refine⟨fun h=>(by rw[h] at hr;cases hr),fun j hj=>?_⟩
  by_cases e:j=i
  ·subst e;exact hy.wpOp hi hS ⟨fun _=>hS,H⟩
  ·have:=ready_mono hj e
   rw[H.1] at this
   cases this
 | succ f ih=>
  intro lst a w hu hfree hr hy hS H
  refine⟨fun h=>(by rw[h] at hr;cases hr),fun j hj=>?_⟩
  by_cases e:j=i
  ·subst e;exact hy.wpOp hi hS ⟨fun _=>hS,H⟩
  ·obtain⟨hjun,oj,hoj,hall⟩:=mem_ready.1 hj
   have hr0:=(mem_ready.1 hr).1
   have hnot:∀x∈oj.after,Region.binds md x=true→x.on≠i:=fun x hx hb he=>by
    have h1:=hall x hx hb
    rw[he] at h1
    rcases Nat.lt_or_ge i lst.size with c|c
    ·simp[c] at hr0 h1;rw[hr0] at h1;cases h1
    ·simp[Array.getElem?_eq_none c] at h1
   have ns:=Region.noSelect_spec hsel
   have step:=wpOp_putIf hoj (hfree j oj hoj e hjun hnot) (fun cs b=>ns i oi cs b hi) (fun cs b=>ns j oj cs b hoj) hQ hy (H.2 j (ready_mono hj e))
   have hri:=ready_mono hr (Ne.symm e)
   have hfree':∀k ok,ops[k]?=some ok→k≠i→(lst.setIfInBounds j true).getD k true=false→(∀x∈ok.after,Region.binds md x=true→x.on≠i)→oi.apart ops ok=true:=fun k ok hk hki hun hno=>by
    refine hfree k ok hk hki ?_ hno
    by_cases c:j=k
    ·subst c;exact hjun
    ·rw[getD_set_ne true c] at hun;exact hun
   refine wpOp_mono (fun b u g=>?_) step
   obtain⟨jm,jL⟩:=chain_not (L:=L) hj ms i hL hr0 hu
   have hS':=g.2.1 jL
   have hu':∀m∈ms,(lst.setIfInBounds j true).getD m true=false:=fun m hm=>by
    have hc:j≠m:=fun c=>jm (by rw[c];exact hm)
    rw[getD_set_ne true hc];exact hu m hm
   refine⟨fun _=>hS',ih (lst.setIfInBounds j true) b u hu' hfree' hri g.1 hS' ?_⟩
   rw[Array.setIfInBounds_comm _ _ e]
   exact g.2.2
theorem anyF_take(ms:List Nat){i:Nat}{oi:Oper}{v:Value}{f:Nat}{lst:Array Bool}{a:Act}{w:World}(hi:ops[i]?=some oi)(hs:Region.noSelect ops=true)(hL:chainOk md ops i ms L=true)(hu:(ms.all fun m=>!lst.getD m true)=true)(hf:Region.free md ops lst i=true)(hr:(Region.ready md ops lst).contains i=true)
  (hQ:∀c a w,Q (.panic c) (a.put oi.dst v) w→Q (.panic c) a w) (hy:YieldsIf P ops S oi v a) (hS:S w) (h:wpAnyE P md ops Q S L f (lst.setIfInBounds i true) (a.put oi.dst v) w):wpAnyE P md ops Q S L (f+1) lst a w:=
 anyF_first ms hi hs hL hQ f lst a w (fun m hm=>by simpa using List.all_eq_true.1 hu m hm) (Region.free_spec hi hf) (by simpa using hr) hy hS h
end
end
section
open Go.RowKit Go.Lib Go.Sort
structure Fr(X:Nat→Prop)(w w':World):Prop where
 os:w'.os=w.os
 tape:w'.tape=w.tape
 output:w'.output=w.output
 size:w.heap.size≤w'.heap.size
 block:∀k,k<w.heap.size→¬X k→w'.heap[k]?=w.heap[k]?
theorem Fr.refl(X:Nat→Prop)(w:World):Fr X w w:=⟨rfl,rfl,rfl,Nat.le_refl _,fun _ _ _=>rfl⟩
theorem Fr.trans{X Y:Nat→Prop}{u v w:World}(h:Fr X u v)(k:Fr Y v w)(hY:∀j,Y j→X j∨u.heap.size≤j):Fr X u w:=
 ⟨k.os.trans h.os,k.tape.trans h.tape,k.output.trans h.output,Nat.le_trans h.size k.size,fun j hj hx=>(k.block j (Nat.lt_of_lt_of_le hj h.size) (fun hy=>by rcases hY j hy with hy|hy;exact hx hy;omega)).trans (h.block j hj hx)⟩
theorem Fr.mono{X Y:Nat→Prop}{w w':World}(h:Fr X w w')(hxy:∀j,X j→Y j):Fr Y w w':=⟨h.os,h.tape,h.output,h.size,fun j hj hy=>h.block j hj (fun hx=>hy (hxy j hx))⟩
theorem Fr.of_grown{row:Option Nat}{w w':World}(h:w.grownBy w' row):Fr (fun k=>row=some k) w w':=⟨h.os,h.tape,h.output,h.size,fun j hj hx=>h.block j hj (fun e=>hx e.symm)⟩
theorem Fr.below{X:Nat→Prop}{w w':World}(h:Below w.heap.size w w'):Fr X w w':=⟨h.os,h.tape,h.output,h.size,fun j hj _=>h.block j hj⟩
theorem Fr.toBelow{X:Nat→Prop}{w w':World}(h:Fr X w w'){b:Nat}(hb:∀k,X k→b≤k)(hw:b≤w.heap.size):Below b w w':=⟨h.os,h.tape,h.output,h.size,fun j hj=>h.block j (by omega) (fun hx=>by have:=hb j hx;omega)⟩
theorem Fr.setCell(X:Nat→Prop)(w:World)(B k:Nat)(v:Value)(hB:X B):Fr X w (w.setCell ⟨B,k,none⟩ v):=⟨rfl,rfl,rfl,by simp,fun j _ hj=>heap_setCell_other _ _ j _ (fun e=>hj (by rw[e];exact hB))⟩
theorem Hd.fr{X:Nat→Prop}{w w':World}{B:Nat}{hd:Nat→Value}(h:Hd w B hd)(f:Fr X w w')(hB:¬X B):Hd w' B hd:=h.of_block (f.block B h.lt hB)
theorem OwnF.fr{X:Nat→Prop}{w w':World}{base:Nat}{v:Value}{d:List Ent}(h:OwnF w base v d)(f:Fr X w w')(hk:∀k,rowB v=some k→¬X k):OwnF w' base v d:=h.of_block fun k e=>f.block k (h.rowLt e).2 (hk k e)
theorem Hd.ne{w:World}{B base:Nat}{hd:Nat→Value}{v:Value}{d:List Ent}(h:Hd w B hd)(o:OwnF w base v d):rowB v≠some B:=fun e=>by
 obtain⟨cs,h1⟩:=o.rowT e
 obtain⟨ds,h2⟩:=h.typ
 rw[h1] at h2
 simp only[Option.some.injEq,Obj.cells.injEq] at h2
 exact absurd h2.2.1 (by decide)
theorem step_app{ops:Array Oper}{o:Oper}{a:Act}{K:Act→World→Prop}{Q:Exit→Act→World→Prop}{E:Prop}(w:World)(hgd:o.guard=none)(s x:Operand)(t tn:TypeId)
  (ho:o.op=.call {callee:=.builtin .append,args:=#[s,x],argTypes:=#[t,tn]}) (vs vx:Value) (hs:a.eval s=vs) (hx:a.eval x=vx)
  (v':Value) (w':World) (hr:(Builtin.append_ #[t,tn] o.type #[vs,vx]).run Tryz.prog w=.ok v' w') (h:K (a.put o.dst v') w') :
  if Region.wanted o (yielded ops a.tmps)=true then Oper.wp Tryz.prog o a w K Q else E:=by
 have hw:Region.wanted o (yielded ops a.tmps)=true:=by simp[Region.wanted,hgd]
 rw[if_pos hw]
 exact Lib.wp_append_run w s x t tn ho vs vx hs hx v' w' hr h
theorem rput_any(B R s base u:Nat)(hd:Nat→Value)(v:Value)(d:List Ent)(t:Ent)(w:World)(h:Hd w B hd)(hR:R+65≤263)(hs:s<64)(hu:hd R=.int .u64 u)(hub:u<B64)(hv:hd (R+1+s)=v)(o:OwnF w base v d)(hdl:d.length≤100000)(hbase:base≤w.heap.size) :
  Calls Tryz.prog 154 #[.pointer (some ⟨B,R,none⟩),.int .i64 s,.agg #[.int .u64 t.1,.int .i64 t.2]] w fun e w'=>e=.returned (.tuple #[])∧
   ∃v',Hd w' B (hset (hset hd (R+1+s) v') R (.int .u64 ((u ||| 2^s:Nat):Int)))∧OwnF w' base v' (d++[t])∧Fr (fun k=>k=B∨rowB v=some k) w w'∧∀k,rowB v'=some k→rowB v=some k∨w.heap.size≤k:=by
 obtain⟨S,hS⟩:∃S,w.heap.size=S:=⟨_,rfl⟩
 obtain⟨u0,hu0⟩:∃u0,w.alloc (.cells #[.int .u64 t.1,.int .i64 t.2] 117)=u0:=⟨_,rfl⟩
 obtain⟨W1,hW1⟩:∃W1,(u0.alloc (.cells #[.int .u64 t.1,.int .i64 t.2] 117)).drew=W1:=⟨_,rfl⟩
 have b0:Below w.heap.size w u0:=by rw[←hu0];exact(Below.refl _ _).alloc (Nat.le_refl _) _
 have s0:u0.heap.size=S+1:=by rw[←hu0,←hS];simp
 have b1:Below u0.heap.size u0 W1:=by rw[←hW1];exact((Below.refl _ _).alloc (Nat.le_refl _) _).drew
 have b01:Below w.heap.size w W1:=b0.trans (b1.mono b0.size)
 have L1:IsL W1 (some ⟨S+1,0,none⟩) 1 [t]:=by
  rw[←hW1,←s0]
  exact(IsL.one u0 t).below ((Below.refl _ _).drew)
 obtain⟨v2,w2,hr,o2,g2,n2⟩:=appF (o.below b01) L1 (by simp;omega) (by have:=b01.size;omega) 36
 obtain⟨pa,pc,e2,_,_,_,_⟩:=o2.isL
 obtain⟨pn,hpn⟩:∃n,(d++[t]).length=n:=⟨_,rfl⟩
 rw[hpn] at e2
 subst e2
 have hBl:=h.lt
 have h1:Hd W1 B hd:=h.of_block (b01.block B hBl)
 have h2:Hd w2 B hd:=h1.of_block (g2.block B h1.lt (fun e=>Hd.ne h o e.symm))
 have h3:=h2.set (R+1+s) (.slice pa pn pc)
 obtain⟨w3,hw3⟩:∃w3,w2.setCell ⟨B,R+1+s,none⟩ (.slice pa pn pc)=w3:=⟨_,rfl⟩
 rw[hw3] at h3
 have h4:=h3.set R (.int .u64 ((u ||| 2^s:Nat):Int))
 obtain⟨va,vc,e0,_,hvc,hvm,_⟩:=o.isL
 obtain⟨vn,hvn⟩:∃n,d.length=n:=⟨_,rfl⟩
 rw[hvn] at e0
 have hv':hd (R+1+s)=.slice va vn vc:=hv.trans e0
 have K0:Aside (u0.drew.cell? ⟨B,R+1+s,none⟩=some (.slice va vn vc)∧u0.drew.cell? ⟨S,0,none⟩=some (.int .u64 t.1)∧u0.drew.cell? ⟨S,1,none⟩=some (.int .i64 t.2)):=by
  refine⟨?_,?_,?_⟩
  ·have:=(h.of_block (b0.block B hBl)).cell (k:=R+1+s) (by omega);rw[hv'] at this;exact this
  ·show u0.cell? _=_;rw[←hu0,←hS];simp[go_sem]
  ·show u0.cell? _=_;rw[←hu0,←hS];simp[go_sem]
 have K1:Aside (W1.cell? ⟨B,R+1+s,none⟩=some (.slice va vn vc)∧W1.cell? ⟨S,0,none⟩=some (.int .u64 t.1)∧W1.cell? ⟨S,1,none⟩=some (.int .i64 t.2)):=by
  refine⟨?_,?_,?_⟩
  ·have:=h1.cell (k:=R+1+s) (by omega);rw[hv'] at this;exact this
  ·exact(b1.cell (p:=⟨S,0,none⟩) (show S<u0.heap.size by omega)).trans K0.out.2.1
  ·exact(b1.cell (p:=⟨S,1,none⟩) (show S<u0.heap.size by omega)).trans K0.out.2.2
 have hne:∀k,S≤k→rowB v≠some k:=fun k hk e=>by have:=(o.rowLt e).2;omega
 have K2:Aside (w2.cell? ⟨B,R+1+s,none⟩=some (.slice va vn vc)∧w2.cell? ⟨S,0,none⟩=some (.int .u64 t.1)∧w2.cell? ⟨S,1,none⟩=some (.int .i64 t.2)):=by
  refine⟨?_,g2.cell K1.out.2.1 (fun e=>hne S (Nat.le_refl _) e.symm),g2.cell K1.out.2.2 (fun e=>hne S (Nat.le_refl _) e.symm)⟩
  have:=h2.cell (k:=R+1+s) (by omega);rw[hv'] at this;exact this
 have K3:Aside (w3.drew.cell? ⟨B,R,none⟩=some (.int .u64 u)):=by
  have:=h3.cell (k:=R) (by omega)
  rw[hset_ne _ _ (by omega),hu] at this
  exact this
 have f4:Fr (fun k=>k=B∨rowB v=some k) w (w3.setCell ⟨B,R,none⟩ (.int .u64 ((u ||| 2^s:Nat):Int))):=by
  have x1:Fr (fun k=>k=B∨rowB v=some k) w w2:=((Fr.below b01).trans (Fr.of_grown g2) (fun j hj=>.inl (.inr hj)))
  have x2:Fr (fun k=>k=B∨rowB v=some k) w2 w3:=by rw[←hw3];exact Fr.setCell _ _ _ _ _ (.inl rfl)
  exact(x1.trans x2 (fun j hj=>.inl hj)).trans (Fr.setCell _ _ _ _ _ (.inl rfl)) (fun j hj=>.inl hj)
 have o4:OwnF (w3.setCell ⟨B,R,none⟩ (.int .u64 ((u ||| 2^s:Nat):Int))) base (.slice pa pn pc) (d++[t]):=by
  have hk:∀k,rowB (.slice pa pn pc)=some k→k≠B:=fun k hk e=>by
   rcases n2 k hk with hk|hk
   ·exact Hd.ne h o (by rw[hk,e])
   ·have:=h1.lt;omega
  refine o2.of_block fun k e=>?_
  rw[heap_setCell_other _ _ _ _ (hk k e),←hw3,heap_setCell_other _ _ _ _ (hk k e)]
 have FIN:Aside (∃v',Hd (w3.setCell ⟨B,R,none⟩ (.int .u64 ((u ||| 2^s:Nat):Int))).drew B (hset (hset hd (R+1+s) v') R (.int .u64 ((u ||| 2^s:Nat):Int)))∧OwnF (w3.setCell ⟨B,R,none⟩ (.int .u64 ((u ||| 2^s:Nat):Int))).drew base v' (d++[t])∧Fr (fun k=>k=B∨rowB v=some k) w (w3.setCell ⟨B,R,none⟩ (.int .u64 ((u ||| 2^s:Nat):Int))).drew∧∀k,rowB v'=some k→rowB v=some k∨w.heap.size≤k):=
  ⟨.slice pa pn pc,h4.of_block rfl,o4.of_block (fun _ _=>rfl),f4.trans (Fr.below (X:=fun _=>False) ((Below.refl _ _).drew)) (fun j hj=>hj.elim),fun k hk=>by
   rcases n2 k hk with x|x
   ·exact .inl x
   ·have:=b01.size;exact .inr (by omega)⟩
 have HU0:Hid _:=hu0
 have HW1:Hid _:=hW1
 have HW3:Hid _:=hw3
 have c1:w2.frozen? ⟨B,R+1+s,none⟩=false:=h2.frozen _
 have c2:w3.frozen? ⟨B,R,none⟩=false:=h3.frozen _
 have z0:w3.cell? ⟨B,R,none⟩=some (.int .u64 u):=K3.out
 have z2:w2.cell? ⟨B,R+1+s,none⟩=some (.slice va vn vc):=K2.out.1
 have bB:B<w2.heap.size:=h2.lt
 have hs1:(s:Int)<64:=by omega
 have x1:IntKind.u64.wrap (2^s)=((2^s:Nat):Int):=by
  have:2^s<2^64:=Nat.pow_lt_pow_right (by omega) hs
  have e:(2^s:Int)=((2^s:Nat):Int):=by push_cast;rfl
  rw[e,IntKind.wrap_u64]
  generalize 2^s=P at this
  omega
 have x2:bits BinOp.or IntKind.u64 (u:Int) ((2^s:Nat):Int)=((u ||| 2^s:Nat):Int):=bits_or_u64_nat u (2^s) hub (Nat.pow_lt_pow_right (by omega) hs)
 have X1:Hid _:=x1
 have X2:Hid _:=x2
 have mx:=mixed
 rw[e0] at hr
 simp only[List.length_singleton] at hr
 clear h o b0 b1 b01 L1 o2 g2 n2 h1 h2 h3 h4 f4 o4 hne hu0 hW1 hw3 hu hv hv' e0 hub x1 x2
 go_enter Tryz.func154,Tryz.ntmps154
 go_upto_region 1 with fail
 rw[HU0.out]
 refine anyE_start (S:=(fun v0=>v0.cell? ⟨B,R+1+s,none⟩=some (.slice va vn vc)∧v0.cell? ⟨S,0,none⟩=some (.int .u64 t.1)∧v0.cell? ⟨S,1,none⟩=some (.int .i64 t.2))) (L:=14) (by kernel_rfl) ?_
 refine anyE_t (i:=0) (oi:=⟨some 6,Op.move (.tmp 0),307,"wheel.go:75",#[],none⟩) (v:=?_) rfl (by kernel_rfl) (fun _ _ _ h=>h) (Or.inl ⟨by rfl,?_⟩) (K0.out) ?_
 rotate_left
 ·intro w hSw;(try dsimp only at hSw);go_simp;try with_reducible rfl
 simp only[Act.put,sA,sB,sC]
 refine anyE_t (i:=1) (oi:=⟨some 7,Op.move (.tmp 1),3,"wheel.go:75",#[],none⟩) (v:=?_) rfl (by kernel_rfl) (fun _ _ _ h=>h) (Or.inl ⟨by rfl,?_⟩) (K0.out) ?_
 rotate_left
 ·intro w hSw;(try dsimp only at hSw);go_simp;try with_reducible rfl
 simp only[Act.put,sA,sB,sC]
 refine anyE_t (i:=2) (oi:=⟨some 8,Op.move (.tmp 0),307,"wheel.go:75",#[],none⟩) (v:=?_) rfl (by kernel_rfl) (fun _ _ _ h=>h) (Or.inl ⟨by rfl,?_⟩) (K0.out) ?_
 rotate_left
 ·intro w hSw;(try dsimp only at hSw);go_simp;try with_reducible rfl
 simp only[Act.put,sA,sB,sC]
 refine anyE_t (i:=3) (oi:=⟨some 9,Op.move (.tmp 1),3,"wheel.go:75",#[],none⟩) (v:=?_) rfl (by kernel_rfl) (fun _ _ _ h=>h) (Or.inl ⟨by rfl,?_⟩) (K0.out) ?_
 rotate_left
 ·intro w hSw;(try dsimp only at hSw);go_simp;try with_reducible rfl
 simp only[Act.put,sA,sB,sC]
 refine anyE_t (i:=4) (oi:=⟨some 10,Op.nilCheck (.tmp 8),0,"wheel.go:75",#[⟨2,.data⟩],none⟩) (v:=?_) rfl (by kernel_rfl) (fun _ _ _ h=>h) (Or.inl ⟨by rfl,?_⟩) (K0.out) ?_
 rotate_left
 ·intro w hSw;(try dsimp only at hSw);go_simp;try with_reducible rfl
 simp only[Act.put,sA,sB,sC]
 refine anyE_t (i:=5) (oi:=⟨some 11,Op.fieldAddr 160 (.tmp 10) 1,0,"wheel.go:75",#[⟨4,.data⟩],none⟩) (v:=?_) rfl (by kernel_rfl) (fun _ _ _ h=>h) (Or.inl ⟨by rfl,?_⟩) (K0.out) ?_
 rotate_left
 ·intro w hSw;(try dsimp only at hSw);go_simp;try with_reducible rfl
 simp only[Act.put,sA,sB,sC]
 refine anyE_t (i:=6) (oi:=⟨some 12,Op.indexAddr 158 (.tmp 11) (.tmp 9),0,"wheel.go:75",#[⟨5,.data⟩,⟨3,.data⟩],none⟩) (v:=?_) rfl (by kernel_rfl) (fun _ _ _ h=>h) (Or.inl ⟨by rfl,?_⟩) (K0.out) ?_
 rotate_left
 ·intro w hSw;(try dsimp only at hSw);go_simp;try with_reducible rfl
 simp only[Act.put,sA,sB,sC]
 refine anyE_t (i:=7) (oi:=⟨some 13,Op.load 36 (.tmp 12),36,"wheel.go:75",#[⟨6,.data⟩],none⟩) (v:=?_) rfl (by kernel_rfl) (fun _ _ _ h=>h) (Or.inl ⟨by rfl,?_⟩) (K0.out) ?_
 rotate_left
 ·intro w hSw;(try dsimp only at hSw);go_simp;try with_reducible rfl
 simp only[Act.put,sA,sB,sC]
 refine anyE_t (i:=8) (oi:=⟨some 14,Op.load 117 (.tmp 5),117,"wheel.go:75",#[],none⟩) (v:=?_) rfl (by kernel_rfl) (fun _ _ _ h=>h) (Or.inl ⟨by rfl,?_⟩) (K0.out) ?_
 rotate_left
 ·intro w hSw;(try dsimp only at hSw);go_simp;try with_reducible rfl
 simp only[Act.put,sA,sB,sC]
 refine anyF_take [12,13] (i:=11) (oi:=⟨some 17,Op.nilCheck (.tmp 6),0,"wheel.go:75",#[⟨0,.data⟩],none⟩) (v:=?_) rfl (by kernel_rfl) (by kernel_rfl) (by kernel_rfl) (by kernel_rfl) (by kernel_rfl) (fun _ _ _ h=>h) (Or.inl ⟨by rfl,?_⟩) (K0.out) ?_
 rotate_left
 ·intro w hSw;(try dsimp only at hSw);go_simp;try with_reducible rfl
 simp only[Act.put,sA,sB,sC]
 refine anyF_take [13] (i:=12) (oi:=⟨some 18,Op.fieldAddr 160 (.tmp 17) 1,0,"wheel.go:75",#[⟨11,.data⟩],none⟩) (v:=?_) rfl (by kernel_rfl) (by kernel_rfl) (by kernel_rfl) (by kernel_rfl) (by kernel_rfl) (fun _ _ _ h=>h) (Or.inl ⟨by rfl,?_⟩) (K0.out) ?_
 rotate_left
 ·intro w hSw;(try dsimp only at hSw);go_simp;try with_reducible rfl
 simp only[Act.put,sA,sB,sC]
 refine anyE_ready (rs:=[9]) (by kernel_rfl) (by simp) ?_
 refine AllE.cons (o:=⟨some 15,Op.buildSlice 36 1 #[(0,Operand.tmp 14)],36,"wheel.go:75",#[⟨8,.data⟩],none⟩) rfl (fun Kt hKt=>?_) ?_
 ·go_simp
  rw[HW1.out]
  refine hKt.out _ _ (fun _=>K1.out) ?_
  clear hKt Kt
  try simp only[Act.put,sA,sB,sC]
  refine anyE_ready (rs:=[10]) (by kernel_rfl) (by simp) ?_
  refine AllE.cons (o:={dst:=some 16,op:=Op.call {callee:=Callee.builtin Builtin.append,args:=#[Operand.tmp 13,Operand.tmp 15],argTypes:=#[36,36]},type:=36,pos:= "wheel.go:75",after:=#[⟨7,.data⟩,⟨9,.data⟩],guard:=none}) rfl (fun Kt hKt=>?_) ?_
  ·refine step_app W1 (by rfl) _ _ 36 36 (by rfl) (.slice va vn vc) (.slice (some ⟨S+1,0,none⟩) 1 1) (by rfl) (by rfl) (.slice pa pn pc) w2 hr ?_
   refine hKt.out _ _ (fun _=>K2.out) ?_
   clear hKt Kt
   try simp only[Act.put,sA,sB,sC]
   refine anyE_t (i:=13) (oi:=⟨some 19,Op.indexAddr 158 (.tmp 18) (.tmp 7),0,"wheel.go:75",#[⟨12,.data⟩,⟨1,.data⟩,⟨0,.phase⟩,⟨1,.phase⟩,⟨2,.phase⟩,⟨3,.phase⟩,⟨4,.phase⟩,⟨5,.phase⟩,⟨6,.phase⟩,⟨7,.phase⟩,⟨8,.phase⟩,⟨9,.phase⟩,⟨10,.phase⟩],none⟩) (v:=?_) rfl (by kernel_rfl) (fun _ _ _ h=>h) (Or.inl ⟨by rfl,?_⟩) (K2.out) ?_
   rotate_left
   ·intro w hSw;(try dsimp only at hSw);go_simp;try with_reducible rfl
   simp only[Act.put,sA,sB,sC]
   refine anyE_ready (rs:=[14]) (by kernel_rfl) (by simp) ?_
   refine AllE.cons (o:=⟨none,Op.store 36 (.tmp 19) (.tmp 16),0,"wheel.go:75",#[⟨13,.data⟩,⟨10,.data⟩,⟨10,.chain⟩,⟨0,.phase⟩,⟨1,.phase⟩,⟨2,.phase⟩,⟨3,.phase⟩,⟨4,.phase⟩,⟨5,.phase⟩,⟨6,.phase⟩,⟨7,.phase⟩,⟨8,.phase⟩,⟨9,.phase⟩,⟨10,.phase⟩],none⟩) rfl (fun Kt hKt=>?_) ?_
   ·go_simp
    rw[HW3.out]
    refine hKt.out _ _ (fun h=>absurd rfl h) ?_
    clear hKt Kt
    try simp only[Act.put,sA,sB,sC]
    refine anyE_done (by kernel_rfl) ?_ _
    go_wp2_with fail
    refine anyE_start (S:=(fun v0=>v0.cell? ⟨B,R,none⟩=some (.int .u64 u))) (L:=9) (by kernel_rfl) ?_
    refine anyE_t (i:=0) (oi:=⟨some 20,Op.move (.tmp 0),307,"wheel.go:76",#[],none⟩) (v:=?_) rfl (by kernel_rfl) (fun _ _ _ h=>h) (Or.inl ⟨by rfl,?_⟩) (K3.out) ?_
    rotate_left
    ·intro w hSw;(try dsimp only at hSw);go_simp;try with_reducible rfl
    simp only[Act.put,sA,sB,sC]
    refine anyE_t (i:=1) (oi:=⟨some 21,Op.nilCheck (.tmp 20),0,"wheel.go:76",#[⟨0,.data⟩],none⟩) (v:=?_) rfl (by kernel_rfl) (fun _ _ _ h=>h) (Or.inl ⟨by rfl,?_⟩) (K3.out) ?_
    rotate_left
    ·intro w hSw;(try dsimp only at hSw);go_simp;try with_reducible rfl
    simp only[Act.put,sA,sB,sC]
    refine anyE_t (i:=2) (oi:=⟨some 22,Op.fieldAddr 160 (.tmp 21) 0,0,"wheel.go:76",#[⟨1,.data⟩],none⟩) (v:=?_) rfl (by kernel_rfl) (fun _ _ _ h=>h) (Or.inl ⟨by rfl,?_⟩) (K3.out) ?_
    rotate_left
    ·intro w hSw;(try dsimp only at hSw);go_simp;try with_reducible rfl
    simp only[Act.put,sA,sB,sC]
    refine anyE_t (i:=3) (oi:=⟨some 23,Op.load 30 (.tmp 22),30,"wheel.go:76",#[⟨2,.data⟩],none⟩) (v:=?_) rfl (by kernel_rfl) (fun _ _ _ h=>h) (Or.inl ⟨by rfl,?_⟩) (K3.out) ?_
    rotate_left
    ·intro w hSw;(try dsimp only at hSw);go_simp;try with_reducible rfl
    simp only[Act.put,sA,sB,sC]
    refine anyE_t (i:=4) (oi:=⟨some 24,Op.move (.tmp 1),3,"wheel.go:76",#[],none⟩) (v:=?_) rfl (by kernel_rfl) (fun _ _ _ h=>h) (Or.inl ⟨by rfl,?_⟩) (K3.out) ?_
    rotate_left
    ·intro w hSw;(try dsimp only at hSw);go_simp;try with_reducible rfl
    simp only[Act.put,sA,sB,sC]
    refine anyE_t (i:=5) (oi:=⟨some 25,Op.binOp BinOp.shl 30 (Operand.const (Value.int IntKind.u64 1)) (.tmp 24) 3,30,"wheel.go:76",#[⟨4,.data⟩],none⟩) (v:=?_) rfl (by kernel_rfl) (fun _ _ _ h=>h) (Or.inl ⟨by rfl,?_⟩) (K3.out) ?_
    rotate_left
    ·intro w hSw;(try dsimp only at hSw);go_simp;try with_reducible rfl
    simp only[Act.put,sA,sB,sC]
    refine anyE_t (i:=6) (oi:=⟨some 26,Op.binOp BinOp.or 30 (.tmp 23) (.tmp 25) 30,30,"wheel.go:76",#[⟨3,.data⟩,⟨5,.data⟩],none⟩) (v:=?_) rfl (by kernel_rfl) (fun _ _ _ h=>h) (Or.inl ⟨by rfl,?_⟩) (K3.out) ?_
    rotate_left
    ·intro w hSw;(try dsimp only at hSw);go_simp;try with_reducible rfl
    simp only[Act.put,sA,sB,sC]
    refine anyF_take [8] (i:=7) (oi:=⟨some 27,Op.nilCheck (.tmp 20),0,"wheel.go:76",#[⟨0,.data⟩,⟨0,.phase⟩,⟨1,.phase⟩,⟨2,.phase⟩,⟨3,.phase⟩,⟨4,.phase⟩,⟨5,.phase⟩,⟨6,.phase⟩],none⟩) (v:=?_) rfl (by kernel_rfl) (by kernel_rfl) (by kernel_rfl) (by kernel_rfl) (by kernel_rfl) (fun _ _ _ h=>h) (Or.inl ⟨by rfl,?_⟩) (K3.out) ?_
    rotate_left
    ·intro w hSw;(try dsimp only at hSw);go_simp;try with_reducible rfl
    simp only[Act.put,sA,sB,sC]
    refine anyE_t (i:=8) (oi:=⟨some 28,Op.fieldAddr 160 (.tmp 27) 0,0,"wheel.go:76",#[⟨7,.data⟩,⟨0,.phase⟩,⟨1,.phase⟩,⟨2,.phase⟩,⟨3,.phase⟩,⟨4,.phase⟩,⟨5,.phase⟩,⟨6,.phase⟩],none⟩) (v:=?_) rfl (by kernel_rfl) (fun _ _ _ h=>h) (Or.inl ⟨by rfl,?_⟩) (K3.out) ?_
    rotate_left
    ·intro w hSw;(try dsimp only at hSw);go_simp;try with_reducible rfl
    simp only[Act.put,sA,sB,sC]
    refine anyE_ready (rs:=[9]) (by kernel_rfl) (by simp) ?_
    refine AllE.cons (o:=⟨none,Op.store 30 (.tmp 28) (.tmp 26),0,"wheel.go:76",#[⟨8,.data⟩,⟨6,.data⟩,⟨0,.phase⟩,⟨1,.phase⟩,⟨2,.phase⟩,⟨3,.phase⟩,⟨4,.phase⟩,⟨5,.phase⟩,⟨6,.phase⟩],none⟩) rfl (fun Kt hKt=>?_) ?_
    ·go_simp
     refine hKt.out _ _ (fun h=>absurd rfl h) ?_
     clear hKt Kt
     try simp only[Act.put,sA,sB,sC]
     refine anyE_done (by kernel_rfl) ?_ _
     rw[X1.out,X2.out]
     go_wp2
     go_end0
     exact⟨rfl,FIN.out⟩
    exact AllE.nil
   exact AllE.nil
  exact AllE.nil
 exact AllE.nil
end
section
open Go.Lib
def clr(u m:Nat):Nat:=u &&& (18446744073709551615-m)
theorem clr_lt(u m:Nat)(hu:u<B64):clr u m<B64:=Nat.lt_of_le_of_lt Nat.and_le_left hu
theorem clr_bit(u m i:Nat)(hm:m<B64)(hi:i<64):(clr u m).testBit i=(u.testBit i&&!m.testBit i):=by
 unfold clr
 rw[Nat.testBit_and,show 18446744073709551615-m=2^64-(m+1) by omega,Nat.testBit_two_pow_sub_succ hm]
 simp[hi]
theorem or_lt'(u s:Nat)(hu:u<B64)(hs:s<64):u ||| 2^s<B64:=Nat.or_lt_two_pow (n:=64) hu (Nat.pow_lt_pow_right (by omega) hs)
theorem or_bit(u s i:Nat):(u ||| 2^s).testBit i=(u.testBit i||decide (s=i)):=by
 rw[Nat.testBit_or,Nat.testBit_two_pow]
end
end Go.Proofs.YtjpmepfbpfkmoaaGreatDoorR.Wl
