import Derived.Test.YthpgfmmpjoodkaaGreatDoorAnyF
import Derived.Test.YthpgfmmpjoodkaaGreatDoorA0
import Derived.Laws.CopyRow
import Derived.StillTail
import Derived.Test.YthpgfmmpjoodkaaGreatDoorWEntS
open List(append_assoc length_take take_of_length_le)
open Nat(le_refl)
namespace Go.Proofs.YthpgfmmpjoodkaaGreatDoor.Wl
set_option linter.unusedSimpArgs false
set_option maxHeartbeats 8000000
set_option maxRecDepth 100000
set_option linter.unusedVariables false
section
open Go.RowKit Go.Lib Go.Sort
theorem wp_copy_run2(w:World){o:Oper}{a:Act}{K:Act->World->Prop}{Q:Exit->Act->World->Prop}(d s:Operand)(t t':TypeId)
  (ho:o.op=.call {callee:=.builtin .copy,args:=#[d,s],argTypes:=#[t,t']}) (v u:Value) (hd:a.eval d=v) (hs:a.eval s=u) {v':Value} {w':World}
  (hr:(Builtin.copy_ #[t,t'] o.type #[v,u]).run Tryz.prog w=.ok v' w') (h:K (a.put o.dst v') w'):o.wp Tryz.prog a w K Q:=by
 unfold Oper.wp execOp;simp only[ho,resolve,invoke,builtin,Sem.run_bind,Sem.run_pure,Result.andThen_ok,List.map_toArray,List.map_cons,List.map_nil,hd,hs,hr];exact h
theorem wpList_copy_run2(w:World){ops:Array Oper}{rest:List Oper}{o:Oper}{a:Act}{Q:Exit->Act->World->Prop}(hgd:o.guard=none)(d s:Operand)(t t':TypeId)
  (ho:o.op=.call {callee:=.builtin .copy,args:=#[d,s],argTypes:=#[t,t']}) (v u:Value) (hd:a.eval d=v) (hs:a.eval s=u) {v':Value} {w':World}
  (hr:(Builtin.copy_ #[t,t'] o.type #[v,u]).run Tryz.prog w=.ok v' w') (h:wpList Tryz.prog ops Q rest (a.put o.dst v') w'):wpList Tryz.prog ops Q (o::rest) a w:=
 wpList_plain hgd fun _ hK=>wp_copy_run2 w d s t t' ho v u hd hs hr (hK _ _ h)
theorem step_copy_run2{ops:Array Oper}{o:Oper}{a:Act}{K:Act->World->Prop}{Q:Exit->Act->World->Prop}{E:Prop}(w:World)
  (hg:o.guard=none) (d x:Operand) (dT sT:TypeId) (hop:o.op=Op.call {callee:=Callee.builtin Builtin.copy,args:=#[d,x],argTypes:=#[dT,sT]})
  (v u:Value) (hd:a.eval d=v) (hx:a.eval x=u) {v':Value} {w':World} (hr:(Builtin.copy_ #[dT,sT] o.type #[v,u]).run Tryz.prog w=.ok v' w') (hK:K (a.put o.dst v') w') :
  if Region.wanted o (yielded ops a.tmps)=true then Oper.wp Tryz.prog o a w K Q else E:=by
 have hw:Region.wanted o (yielded ops a.tmps)=true:=by simp[Region.wanted,hg]
 rw[if_pos hw];exact wp_copy_run2 w d x dT sT hop v u hd hx hr hK
theorem run_copy2(w:World)(ty:TypeId)(g o dLen dCap:Nat)(a:Addr)(sLen sCap:Nat)(cur:Array Value)(cs:List Value)
  (hg:w.heap[g]?=some (.cells cur 131 (0,0))) (hn:cs.length=Nat.min sLen dLen*2)
  (hsrc:∀j v,cs[j]?=some v->w.cell? (a.add j)=some v) (hfit:o+cs.length<=cur.size) (h1:∀v∈cs,v.oneCell'=true) :
  (Builtin.copy_ #[39,39] ty #[.slice (some ⟨g,o,none⟩) dLen dCap,.slice (some a) sLen sCap]).run Tryz.prog w =
   .ok (goInt (Nat.min sLen dLen)) (w.setRow g (splice cur.toList o cs).toArray):=by
 obtain⟨i,hi,_,hs,_⟩:=infoE;have hl:=run_loadCells_list (P:=Tryz.prog) w a cs hsrc;have hst:=run_storeCells_at Tryz.prog g o 131 cs 0 cur w hg (by simpa using hfit) h1;have e:Nat.min sLen dLen*i.size=cs.length:=by rw[hn,hs]
 simp only[Nat.add_zero,append_assoc] at hst;simp[Builtin.copy_,run_underlying Tryz.underlying39,Builtin.lenOf,Builtin.firstCells,sizeOf,typeInfo,hi,e,hl,hst,splice]
def InsF(w:World)(base:Nat)(v:Value)(d:List Ent)(r:Ending)(w':World):Prop:=∃v',r=.returned v'/\OwnF w' base v' d/\w.grownBy w' (rowB v)/\∀k,rowB v'=some k->rowB v=some k\/w.heap.size<=k
theorem insert_end(v:Value)(base G:Nat)(d:List Ent)(x:Ent)(w:World)(h:OwnF w base v d)(c0:w.cell? ⟨G,0,none⟩=some (.int .u64 x.1))(c1:w.cell? ⟨G,1,none⟩=some (.int .i64 x.2))(hG:G<w.heap.size)(hN:d.length<=100000)(hbase:base<=w.heap.size) :
  Calls Tryz.prog 183 #[v,.int .i64 d.length,.slice (some ⟨G,0,none⟩) 1 1] w (InsF w base v (d++[x])):=by
 have L:IsL w (some ⟨G,0,none⟩) 1 [x]:=⟨by simp,by unfold maxLen;omega,fun i y hy=>by
  cases i with
  | zero=>simp at hy;subst hy;exact⟨G,0,rfl,hG,by simpa using c0,by simpa using c1⟩
  | succ i=>simp at hy⟩
 obtain⟨v',w',hr,o,k1,k2⟩:=appF h L (by simp;omega) hbase 39;have F:Aside (OwnF w' base v' (d++[x])/\w.grownBy w' (rowB v)/\∀k,rowB v'=some k->rowB v=some k\/w.heap.size<=k):=⟨o,k1,k2⟩;obtain⟨a,cap,rfl,ha,hc1,hc2,_⟩:=h.isL;obtain⟨n,hn⟩:∃n,d.length=n:=⟨_,rfl⟩;rw[hn] at hc1 hr F hN⊢;simp only[List.length_singleton] at hr;unfold maxLen at hc2;have j1:(n:Int)<=(cap:Int):=by omega
 have j3:cap<=9223372036854775807:=by omega
 have mx:=mixed;clear o k1 k2 L c0 c1 h hn hG;rcases ha with⟨rfl,rfl⟩|⟨g,off,rfl⟩
 ·obtain rfl:n=0:=by omega
  go_enter Tryz.func183,Tryz.ntmps183
  go_wp2_with (at_builtin;refine Lib.wpList_append_run w rfl _ _ 39 39 rfl _ _ rfl rfl _ w' hr ?_)
  go_ret;exact⟨v',rfl,F.out⟩
 ·by_cases c:cap=n
  ·subst c;go_enter Tryz.func183,Tryz.ntmps183
   go_wp2_with (at_builtin;refine Lib.wpList_append_run w rfl _ _ 39 39 rfl _ _ rfl rfl _ w' hr ?_)
   go_ret;exact⟨v',rfl,F.out⟩
  ·go_enter Tryz.func183,Tryz.ntmps183
   go_wp2_with (at_builtin;refine Lib.wpList_append_run w rfl _ _ 39 39 rfl _ _ rfl rfl _ w' hr ?_)
   go_ret;exact⟨v',rfl,F.out⟩
theorem flat_take:∀(d:List Ent)(i:Nat),flat (d.take i)=(flat d).take (i*2)
 | d,0=>by simp
 | [],i+1=>by simp
 | x::d,i+1=>by rw[List.take_succ_cons,flat_cons,flat_cons,flat_take d i,show(i+1)*2=i*2+1+1 by omega,List.take_succ_cons,List.take_succ_cons]
theorem flat_drop:∀(d:List Ent)(i:Nat),flat (d.drop i)=(flat d).drop (i*2)
 | d,0=>by simp
 | [],i+1=>by simp
 | x::d,i+1=>by rw[List.drop_succ_cons,flat_cons,flat_drop d i,show(i+1)*2=i*2+1+1 by omega,List.drop_succ_cons,List.drop_succ_cons]
theorem insert_mid(g off cap i base G:Nat)(d:List Ent)(x:Ent)(w:World)(h:RowF w base g off cap d)(hi:i<d.length)(hroom:d.length<cap)
  (hG:w.heap[G]?=some (.cells #[.int .u64 x.1,.int .i64 x.2] 131 (0,0))) (hne:G≠g) :
  Calls Tryz.prog 183 #[.slice (some ⟨g,off,none⟩) d.length cap,.int .i64 i,.slice (some ⟨G,0,none⟩) 1 1] w (InsF w base (.slice (some ⟨g,off,none⟩) d.length cap) (d.take i++x::d.drop i)):=by
 obtain⟨inf,hinf,_,hsz,_⟩:=infoE;obtain⟨P,R,hg,hP,hR,ht⟩:=h.mem;have hc:=h.big;unfold maxLen at hc;obtain⟨X1,hX1⟩:∃X,flat (d.drop i)=X:=⟨_,rfl⟩;obtain⟨Y,hY⟩:∃Y,flat [x]=Y:=⟨_,rfl⟩;have l1:X1.length=(d.length-i)*2:=by rw[<-hX1,flat_len,List.length_drop]
 have lY:Y.length=2:=by rw[<-hY];rfl
 have hcp1:∀ty dc sc,(Builtin.copy_ #[39,39] ty #[.slice (some ⟨g,off+(i+1)*2,none⟩) (d.length+1-(i+1)) dc,.slice (some ⟨g,off+i*2,none⟩) (d.length+1-i) sc]).run Tryz.prog w.drew=.ok (goInt ((d.length-i:Nat):Int)) (w.drew.setRow g (P++splice R ((i+1)*2) X1).toArray):=fun ty dc sc=>by
  have e:Nat.min (d.length+1-i) (d.length+1-(i+1))=d.length-i:=by show min _ _=_;omega
  have:=run_copy2 w.drew ty g (off+(i+1)*2) (d.length+1-(i+1)) dc ⟨g,off+i*2,none⟩ (d.length+1-i) sc _ X1 hg (by rw[e,l1]) (fun j v hj=>by
   have hjl:=(List.getElem?_eq_some_iff.1 hj).1;rw[Addr.add_lit];show w.cell? _=_;rw[Nat.add_assoc,h.cell (i*2+j) (by omega),<-hj,<-hX1,flat_drop,List.getElem?_drop]) (by rw[l1];simp;omega) (by rw[<-hX1];exact flat_one _)
  rw[e,<-hP] at this;rw[<-hP,<-splice_pre];exact this
 have m1:(splice R ((i+1)*2) X1).length=cap*2:=by rw[length_splice _ _ _ (by rw[l1,hR];omega),hR]
 obtain⟨w1,hw1⟩:∃w1,w.drew.setRow g (P++splice R ((i+1)*2) X1).toArray=w1:=⟨_,rfl⟩;have gw1:w.grownBy w1 (some g):=by rw[<-hw1];exact grown_set _ (grown_below _ ((Below.refl _ _).drew)) (.inl rfl)
 have g1:w1.heap[g]?=some (.cells (P++splice R ((i+1)*2) X1).toArray 131 (0,0)):=by rw[<-hw1];exact setRow_heap w.drew _ _ _ _ _ hg
 have hG1:w1.heap[G]?=some (.cells #[.int .u64 x.1,.int .i64 x.2] 131 (0,0)):=by rw[<-hw1];exact(setRow_other w.drew g G _ hne).trans hG
 simp only[hw1] at hcp1
 have hcp2:∀ty dc,(Builtin.copy_ #[39,39] ty #[.slice (some ⟨g,off+i*2,none⟩) (d.length+1-i) dc,.slice (some ⟨G,0,none⟩) 1 1]).run Tryz.prog w1=.ok (goInt 1) (w1.setRow g (P++splice (splice R ((i+1)*2) X1) (i*2) Y).toArray):=fun ty dc=>by
  have e:Nat.min 1 (d.length+1-i)=1:=by show min _ _=_;omega
  have:=run_copy2 w1 ty g (off+i*2) (d.length+1-i) dc ⟨G,0,none⟩ 1 1 _ Y g1 (by rw[e,lY]) (fun j v hj=>by
   have:j=0\/j=1:=by have:=(List.getElem?_eq_some_iff.1 hj).1;omega
   rw[Addr.add_lit,Nat.zero_add,cell_of_row _ _ _ _ _ _ hG1,<-hj,<-hY];rcases this with rfl|rfl<;>rfl) (by rw[lY];simp;omega) (by rw[<-hY];exact flat_one _)
  rw[e,<-hP] at this;rw[<-hP,<-splice_pre];exact this
 obtain⟨w2,hw2⟩:∃w2,w1.setRow g (P++splice (splice R ((i+1)*2) X1) (i*2) Y).toArray=w2:=⟨_,rfl⟩;have gw2:w.grownBy w2 (some g):=by rw[<-hw2];exact grown_set _ gw1 (.inl rfl)
 have g2:w2.heap[g]?=some (.cells (P++splice (splice R ((i+1)*2) X1) (i*2) Y).toArray 131 (0,0)):=by rw[<-hw2];exact setRow_heap w1 _ _ _ _ _ g1
 simp only[hw2] at hcp2
 have hfin:RowF w2 base g off cap (d.take i++x::d.drop i):=by
  have le:(d.take i++x::d.drop i).length=d.length+1:=by simp;omega
  refine⟨h.low,h.pos,by omega,h.big,P,_,g2,hP,by rw[length_splice _ _ _ (by rw[lY,m1];omega),m1],?_⟩;have e0:R.take (i*2)=flat (d.take i):=by rw[flat_take,<-ht,List.take_take];congr 1;omega
  have e1:flat (d.take i++x::d.drop i)=flat (d.take i)++(Y++X1):=by rw[<-hY,<-hX1,<-flat_append,<-flat_append];rfl
  rw[le,e1,<-e0];show List.take _ ((splice R ((i+1)*2) X1).take (i*2)++(Y++(splice R ((i+1)*2) X1).drop (i*2+Y.length)))=_
  have e2:(splice R ((i+1)*2) X1).take (i*2)=R.take (i*2):=by
   unfold splice;rw[List.take_append_of_le_length (by rw[length_take,hR];omega),List.take_take];congr 1;omega
  have e3:(splice R ((i+1)*2) X1).drop (i*2+Y.length)=X1++R.drop ((i+1)*2+X1.length):=by
   unfold splice;rw[lY,show i*2+2=(i+1)*2 by omega,List.drop_append,List.drop_eq_nil_of_le (by rw[length_take];omega),length_take,hR,show(i+1)*2-min ((i+1)*2) (cap*2)=0 by omega];simp
  rw[e2,e3,<-append_assoc,<-append_assoc,List.take_append_of_le_length (by simp[lY,l1,hR];omega),take_of_length_le (by simp[lY,l1,hR];omega),append_assoc]
 have hlen:(d.take i++x::d.drop i).length=d.length+1:=by simp;omega
 have F:Aside (InsF w base (.slice (some ⟨g,off,none⟩) d.length cap) (d.take i++x::d.drop i) (.returned (.slice (some ⟨g,off,none⟩) (d.length+1) cap)) w2):=
  ⟨_,rfl,.inr ⟨g,off,cap,by rw[hlen],hfin⟩,by rw[h.rowB];exact gw2,fun k hk=>.inl (by rw[h.rowB];rw[h.rowB] at hk;exact hk)⟩
 have hsa:w.shape? G=some (131,2):=by simp[World.shape?,hG]
 have hsb:w.shape? g=some (131,off+cap*2):=by simp[World.shape?,hg,hP,hR]
 have hfa:w.frozen? ⟨G,0,none⟩=false:=by simp[World.frozen?,hG]
 have hfe:w.frozen? ⟨G,2,none⟩=false:=by simp[World.frozen?,hG]
 have hov:∀lb cb,(callFunc 243 #[.slice (some ⟨G,0,none⟩) 1 1,.slice (some ⟨g,off+(i+1)*2,none⟩) lb cb]).run Tryz.prog w=.ok (.value (.bool false)) w:=fun lb cb=>by
  rw[run_callFunc_extern Tryz.func243 (by kernel_rfl) (by kernel_rfl) (by kernel_rfl) (e:=Extern.SlicesOverlaps.overlaps #[39,39] #[4]) (by kernel_rfl),
   Lib.run_overlaps_apart w 39 4 131 Tryz.underlying39 2 (fun w=>by simp[sizeOf,typeInfo,hinf,hsz]) ⟨G,0,none⟩ ⟨g,off+(i+1)*2,none⟩ 1 1 lb cb hne _ _ _ _ hsa hsb (by omega) hfa hfe]
  rfl
 obtain⟨n,hn⟩:∃n,d.length=n:=⟨_,rfl⟩;rw[hn] at hcp1 hcp2 F hi hroom⊢;have mx:=mixed;have z1:¬((i:Int)=(n:Int)):=by omega
 have z2:((i:Int)==(n:Int))=false:=by simp;omega
 have z3:(i:Int)<=(n:Int):=by omega
 have z4:¬cap=i:=by omega
 have z5:¬cap=i+1:=by omega
 have z6:¬(cap:Int)<(n:Int)+1:=by omega
 have z7:(n:Int)+1<=(cap:Int):=by omega
 have z8:(i:Int)<=(n:Int)+1:=by omega
 have z9:((n:Int)+1).toNat=n+1:=by omega
 have z10:((i:Int)+1).toNat=i+1:=by omega
 have z11:(0:Int)<=(i:Int)+1:=by omega
 have z12:(0:Int)<=(n:Int)+1:=by omega
 have z13:IntKind.i64.wrap ((i:Int)+1)=(i:Int)+1:=by rw[IntKind.wrap_i64];omega
 clear h hg ht hG hX1 hY l1 lY g1 hG1 m1 hw1 g2 hw2 gw1 gw2 hfin hinf hsa hsb hfa hfe hn hlen hP hR;go_enter Tryz.func183,Tryz.ntmps183
 go_wp2_with (simp only[hov])
 go_region_law_o (refine step_copy_run2 w.drew rfl _ _ 39 39 rfl _ _ (by simp[Act.eval,Act.put];rfl) (by simp[Act.eval,Act.put];rfl) (hcp1 _ _ _) ?_)
 go_wp2_with (at_builtin;refine wpList_copy_run2 w1 rfl _ _ 39 39 rfl _ _ rfl rfl (hcp2 _ _) ?_)
 go_ret;exact F.out
theorem insert_full(g off i base G:Nat)(d:List Ent)(x:Ent)(w:World)(h:RowF w base g off d.length d)(hi:i<d.length)(hN:d.length<=100000)
  (hG:w.heap[G]?=some (.cells #[.int .u64 x.1,.int .i64 x.2] 131 (0,0))) (hbase:base<=w.heap.size) :
  Calls Tryz.prog 183 #[.slice (some ⟨g,off,none⟩) d.length d.length,.int .i64 i,.slice (some ⟨G,0,none⟩) 1 1] w (InsF w base (.slice (some ⟨g,off,none⟩) d.length d.length) (d.take i++x::d.drop i)):=by
 obtain⟨inf,hinf,hzr,hsz,hby⟩:=infoE;have hgl:=h.lt;have hGl:=lt_of_block hG;obtain⟨n,hn⟩:∃n,d.length=n:=⟨_,rfl⟩;obtain⟨S,hS⟩:∃S,w.heap.size=S:=⟨_,rfl⟩;obtain⟨X0,hX0⟩:∃X,flat (d.take i)=X:=⟨_,rfl⟩;obtain⟨X1,hX1⟩:∃X,flat (d.drop i)=X:=⟨_,rfl⟩;obtain⟨Y,hY⟩:∃Y,flat [x]=Y:=⟨_,rfl⟩;have l0:X0.length=i*2:=by rw[<-hX0,flat_len,length_take];omega
 have l1:X1.length=(n-i)*2:=by rw[<-hX1,flat_len,List.length_drop,hn]
 have lY:Y.length=2:=by rw[<-hY];rfl
 obtain⟨C,hC⟩:∃C,grownCap w (i+(n+1-i)) n 131=C:=⟨_,rfl⟩;have hC1:n+1<=C:=by rw[<-hC];have:=grownCap_ge w (i+(n+1-i)) n 131;omega
 have hC2:C<=maxLen:=by rw[<-hC];exact grownCap_le_maxLen w _ n _ (by unfold maxLen;omega)
 have hz2:(Value.agg #[.int .u64 0,.int .i64 0]).cells=#[.int .u64 0,.int .i64 0]:=rfl;obtain⟨cur1,hcur1⟩:∃c,X0.toArray++Builtin.zeroCells #[.int .u64 0,.int .i64 0] (n+1-i)++Builtin.zeroCells #[.int .u64 0,.int .i64 0] (C-(i+(n+1-i)))=c:=⟨_,rfl⟩
 have s1:cur1.size=C*2:=by
  rw[<-hcur1];simp only[Array.size_append,List.size_toArray,size_zeroCells,l0];show i*2+(n+1-i)*2+(C-(i+(n+1-i)))*2=C*2;omega
 have t1:cur1.toList.take (i*2)=X0:=by
  rw[<-hcur1];simp only[Array.toList_append,append_assoc];rw[<-l0];exact List.take_left
 obtain⟨w1,hw1⟩:∃W,w.drew.alloc (.cells cur1 131)=W:=⟨_,rfl⟩
 have hold:(Builtin.firstCells inf.size i (.slice (some ⟨g,off,none⟩) i n)).run Tryz.prog w.drew=.ok X0.toArray w.drew:=by
  refine run_firstCells_some _ _ _ _ _ _ _ (by rw[l0,hsz]) (fun j v hj=>?_);have hjl:=(List.getElem?_eq_some_iff.1 hj).1;rw[Addr.add_lit];show w.cell? _=_;rw[h.cell j (by omega),<-hj,<-hX0,flat_take,List.getElem?_take_of_lt (by omega)]
 have hap:∀ty,(Builtin.append_ #[39,3] ty #[.slice (some ⟨g,off,none⟩) i n,.int .i64 ((n:Int)+1-(i:Int))]).run Tryz.prog w=.ok (.slice (some ⟨S,0,none⟩) (n+1) C) w1:=fun ty=>by
  have:=Lib.run_append_grow_zeros (P:=Tryz.prog) w 39 3 ty 131 inf _ .i64 .i64 Tryz.underlying39 Tryz.underlying3 hinf hzr (some ⟨g,off,none⟩) i n X0 hold (n+1-i) (by omega) (by omega) (by omega) (by omega) (by rw[hby];omega) (by rw[hby];exact growslice_fits (by omega) (by omega));rw[hz2,hC,hcur1,hS,show i+(n+1-i)=n+1 by omega,hw1] at this;rw[show(n:Int)+1-(i:Int)=((n+1-i:Nat):Int) by omega];exact this
 have b1:Below w.heap.size w w1:=by rw[<-hw1];exact((Below.refl _ _).drew).alloc (le_refl _) _
 have g1:w1.heap[S]?=some (.cells cur1 131 (0,0)):=by rw[<-hw1,<-hS];exact heap_alloc_new w.drew _
 have hG1:=(b1.block G hGl).trans hG;have R1:RowF w1 base g off d.length d:=h.of_block (b1.block g hgl);have hcs:cur1.toList.length=C*2:=by simpa using s1
 have hcp1:∀ty dc,(Builtin.copy_ #[39,39] ty #[.slice (some ⟨S,i*2,none⟩) (n+1-i) dc,.slice (some ⟨G,0,none⟩) 1 1]).run Tryz.prog w1=.ok (goInt 1) (w1.setRow S (splice cur1.toList (i*2) Y).toArray):=fun ty dc=>by
  have e:Nat.min 1 (n+1-i)=1:=by show min _ _=_;omega
  have:=run_copy2 w1 ty S (i*2) (n+1-i) dc ⟨G,0,none⟩ 1 1 _ Y g1 (by rw[e,lY]) (fun j v hj=>by
   have:j=0\/j=1:=by have:=(List.getElem?_eq_some_iff.1 hj).1;omega
   rw[Addr.add_lit,Nat.zero_add,cell_of_row _ _ _ _ _ _ hG1,<-hj,<-hY];rcases this with rfl|rfl<;>rfl) (by rw[s1,lY];omega) (by rw[<-hY];exact flat_one _)
  rw[e] at this;exact this
 have hSg:g≠S:=by omega
 obtain⟨w2,hw2⟩:∃w2,w1.setRow S (splice cur1.toList (i*2) Y).toArray=w2:=⟨_,rfl⟩;have g2:w2.heap[S]?=some (.cells (splice cur1.toList (i*2) Y).toArray 131 (0,0)):=by rw[<-hw2];exact setRow_heap w1 _ _ _ _ _ g1
 have R2:RowF w2 base g off d.length d:=R1.of_block (by rw[<-hw2];exact setRow_other w1 S g _ hSg);have gw2:w.grownBy w2 none:=by rw[<-hw2];exact grown_set _ (grown_below _ b1) (.inr (by omega))
 simp only[hw2] at hcp1;have m1:(splice cur1.toList (i*2) Y).length=C*2:=by rw[length_splice _ _ _ (by rw[lY,hcs];omega),hcs]
 have hcp2:∀ty dc sc,(Builtin.copy_ #[39,39] ty #[.slice (some ⟨S,(i+1)*2,none⟩) (n+1-(i+1)) dc,.slice (some ⟨g,off+i*2,none⟩) (n-i) sc]).run Tryz.prog w2.drew=.ok (goInt ((n-i:Nat):Int)) (w2.drew.setRow S (splice (splice cur1.toList (i*2) Y) ((i+1)*2) X1).toArray):=fun ty dc sc=>by
  have e:Nat.min (n-i) (n+1-(i+1))=n-i:=by show min _ _=_;omega
  have:=run_copy2 w2.drew ty S ((i+1)*2) (n+1-(i+1)) dc ⟨g,off+i*2,none⟩ (n-i) sc _ X1 g2 (by rw[e,l1]) (fun j v hj=>by
   have hjl:=(List.getElem?_eq_some_iff.1 hj).1;rw[Addr.add_lit];show w2.cell? _=_;rw[Nat.add_assoc,R2.cell (i*2+j) (by omega),<-hj,<-hX1,flat_drop,List.getElem?_drop]) (by simp only[List.size_toArray];rw[m1,l1];omega) (by rw[<-hX1];exact flat_one _)
  rw[e] at this;exact this
 obtain⟨w3,hw3⟩:∃w3,w2.drew.setRow S (splice (splice cur1.toList (i*2) Y) ((i+1)*2) X1).toArray=w3:=⟨_,rfl⟩;have g3:w3.heap[S]?=some (.cells (splice (splice cur1.toList (i*2) Y) ((i+1)*2) X1).toArray 131 (0,0)):=by rw[<-hw3];exact setRow_heap w2.drew _ _ _ _ _ g2
 have gw3:w.grownBy w3 none:=by rw[<-hw3];exact grown_set _ (grown_trans gw2 (grown_below _ ((Below.refl _ _).drew))) (.inr (by omega))
 simp only[hw3] at hcp2;have le:(d.take i++x::d.drop i).length=n+1:=by simp;omega
 have hfin:RowF w3 base S 0 C (d.take i++x::d.drop i):=by
  refine⟨by omega,by omega,by omega,hC2,[],splice (splice cur1.toList (i*2) Y) ((i+1)*2) X1,g3,rfl,by rw[length_splice _ _ _ (by rw[l1,m1];omega),m1],?_⟩;have e1:flat (d.take i++x::d.drop i)=X0++(Y++X1):=by rw[<-hX0,<-hY,<-hX1,<-flat_append,<-flat_append];rfl
  rw[le,e1,<-t1];show List.take _ ((splice cur1.toList (i*2) Y).take ((i+1)*2)++(X1++(splice cur1.toList (i*2) Y).drop ((i+1)*2+X1.length)))=_
  have e2:(splice cur1.toList (i*2) Y).take ((i+1)*2)=cur1.toList.take (i*2)++Y:=by
   unfold splice;rw[<-append_assoc,List.take_append_of_le_length (by rw[List.length_append,length_take,hcs,lY];omega),take_of_length_le (by rw[List.length_append,length_take,hcs,lY];omega)]
  rw[e2,<-append_assoc,List.take_append_of_le_length (by simp[lY,l1,s1];omega),take_of_length_le (by simp[lY,l1,s1];omega),append_assoc]
 have F:Aside (InsF w base (.slice (some ⟨g,off,none⟩) n n) (d.take i++x::d.drop i) (.returned (.slice (some ⟨S,0,none⟩) (n+1) C)) w3):=
  ⟨_,rfl,.inr ⟨S,0,C,by rw[le],hfin⟩,⟨gw3.os,gw3.tape,gw3.output,gw3.size,fun k hk _=>gw3.block k hk (by simp)⟩,fun k hk=>.inr (by rw[hfin.rowB] at hk;injection hk with hk;omega)⟩
 have mx:=mixed;rw[hn] at hi hN⊢;have z1:¬((i:Int)=(n:Int)):=by omega
 have z2:((i:Int)==(n:Int))=false:=by simp;omega
 have z3:(i:Int)<=(n:Int):=by omega
 have z4:¬n=i:=by omega
 have z5:¬C=i:=by omega
 have z6:(n:Int)<(n:Int)+1:=by omega
 have z7:¬C=i+1:=by omega
 have z8:(i:Int)<=(n:Int)+1:=by omega
 have z9:(i:Int)+1<=(n:Int)+1:=by omega
 have z10:((i:Int)+1).toNat=i+1:=by omega
 have z11:(0:Int)<=(i:Int)+1:=by omega
 have z13:IntKind.i64.wrap ((i:Int)+1)=(i:Int)+1:=by rw[IntKind.wrap_i64];omega
 have z14:IntKind.i64.wrap ((n:Int)+1)=(n:Int)+1:=by rw[IntKind.wrap_i64];omega
 have z15:IntKind.i64.wrap ((n:Int)+1-(i:Int))=(n:Int)+1-(i:Int):=by rw[IntKind.wrap_i64];omega
 have hC3:(C:Int)<=9223372036854775807:=by unfold maxLen at hC2;omega
 clear h hG hcs hX1 hX0 hY l1 l0 lY b1 g1 hG1 m1 hw1 g2 hw2 hfin hinf hn g3 hw3 s1 t1 hcur1 hC hC2 hzr R1 R2 gw2 gw3 le hold;go_enter Tryz.func183,Tryz.ntmps183
 go_wp2_with (first
  | (at_builtin;refine Lib.wpList_append_run w rfl _ _ 39 3 rfl _ _ rfl rfl _ _ (hap _) ?_)
  | (at_builtin;refine wpList_copy_run2 w1 rfl _ _ 39 39 rfl _ _ rfl rfl (hcp1 _ _) ?_))
 go_region_law_o (refine step_copy_run2 w2.drew rfl _ _ 39 39 rfl _ _ (by simp[Act.eval,Act.put];rfl) (by simp[Act.eval,Act.put];rfl) (hcp2 _ _ _) ?_)
 go_wp2
 go_ret;exact F.out
theorem insert_any(v:Value)(base i G:Nat)(d:List Ent)(x:Ent)(w:World)(h:OwnF w base v d)(hi:i<=d.length)(hN:d.length<=100000)
  (hG:w.heap[G]?=some (.cells #[.int .u64 x.1,.int .i64 x.2] 131 (0,0))) (hne:rowB v≠some G) (hbase:base<=w.heap.size) :
  Calls Tryz.prog 183 #[v,.int .i64 i,.slice (some ⟨G,0,none⟩) 1 1] w (InsF w base v (d.take i++x::d.drop i)):=by
 by_cases c:i=d.length
 ·subst c;rw[take_of_length_le (le_refl _),List.drop_eq_nil_of_le (le_refl _)];exact insert_end v base G d x w h (by rw[cell_of_row _ _ _ _ _ _ hG];rfl) (by rw[cell_of_row _ _ _ _ _ _ hG];rfl) (lt_of_block hG) hN hbase
 ·rcases h with⟨rfl,_⟩|⟨g,off,cap,rfl,hr⟩
  ·simp at hi c;omega
  ·have hle:=hr.le;by_cases hroom:d.length<cap
   ·exact insert_mid g off cap i base G d x w hr (by omega) hroom hG (fun e=>hne (by rw[hr.rowB,e]))
   ·obtain rfl:cap=d.length:=by omega
    exact insert_full g off i base G d x w hr (by omega) hN hG hbase
theorem clone_any(v:Value)(base:Nat)(d:List Ent)(w:World)(h:OwnF w base v d)(hd:d.length<=100000) :
  Calls Tryz.prog 106 #[v] w fun r w'=>∃v',r=.returned v'/\OwnF w' w.heap.size v' d/\Below w.heap.size w w'/\∀k,rowB v'=some k->w.heap.size<=k:=by
 have q22:∀(w:World)(a:Option Addr)(n c n' c':Nat),(binOp .eql 39 (.slice a n c) (.slice none n' c')).run Tryz.prog w=.ok (.bool a.isNone) w:=fun w a n c n' c'=>Lib.run_eql_slice_nil w _ _ a n c n' c' Tryz.underlying39;obtain⟨a,cap,rfl,ha,hc1,hc2,hL⟩:=h.isL;rcases ha with⟨rfl,rfl⟩|⟨g,off,rfl⟩
 ·obtain rfl:d=[]:=List.length_eq_zero_iff.1 (by omega);go_enter Tryz.func106,Tryz.ntmps106
  go_wp2
  go_ret;exact⟨_,rfl,OwnF.nil _ _,Below.refl _ _,fun k hk=>by cases hk⟩
 ·obtain⟨v',w',hr,o,k1,k2⟩:=appF (d:=[]) (c:=d) (OwnF.zero (w.alloc (.cells #[] 131)) w.heap.size w.heap.size 0) (hL.below ((Below.refl _ _).alloc (le_refl _) _)) (by simp;omega) (by simp) 39
  have F:Aside (OwnF w' w.heap.size v' d/\Below w.heap.size w w'/\∀k,rowB v'=some k->w.heap.size<=k):=by
   refine⟨o,((Below.refl _ _).alloc (le_refl _) _).trans ⟨k1.os,k1.tape,k1.output,k1.size,fun k hk=>k1.block k (by simp;omega) (fun e=>by cases e)⟩,fun k hk=>?_⟩;rcases k2 k hk with h|h
   ·cases h
   ·simp at h;omega
  clear o k1 k2 h hL;go_enter Tryz.func106,Tryz.ntmps106
  go_wp2_with (at_builtin;refine Lib.wpList_append_run _ rfl _ _ 39 39 rfl _ _ rfl rfl v' w' hr ?_)
  go_ret;exact⟨_,rfl,F.out⟩
end
section
section
variable {P:Program}{ops:Array Oper}{Q:Exit->Act->World->Prop}{md:Region.Mode}{S:World->Prop}{L:Nat}
theorem anyE_t{i:Nat}{oi:Oper}{v:Value}{f:Nat}{lst:Array Bool}{a:Act}{w:World}(hi:ops[i]?=some oi)(hh:(Region.noSelect ops&&Region.waitsFor md ops L i&&Region.free md ops lst i&&(Region.ready md ops lst).contains i)=true)
  (hQ:∀c a w,Q (.panic c) (a.put oi.dst v) w->Q (.panic c) a w) (hy:YieldsIf P ops S oi v a) (hS:S w) (h:wpAnyE P md ops Q S L f (lst.setIfInBounds i true) (a.put oi.dst v) w):wpAnyE P md ops Q S L (f+1) lst a w:=by
 simp only[Bool.and_eq_true] at hh;exact anyE_take hi hh.1.1.1 hh.1.1.2 hh.1.2 hh.2 hQ hy hS h
end
end
section
section
variable {P:Program}{ops:Array Oper}{Q:Exit->Act->World->Prop}{md:Region.Mode}{S:World->Prop}{L:Nat}
end
end
section
open Go.RowKit Go.Lib Go.Sort
structure Fr(X:Nat->Prop)(w w':World):Prop where
 os:w'.os=w.os
 tape:w'.tape=w.tape
 output:w'.output=w.output
 size:w.heap.size<=w'.heap.size
 block:∀k,k<w.heap.size->¬X k->w'.heap[k]?=w.heap[k]?
theorem Fr.refl(X:Nat->Prop)(w:World):Fr X w w:=⟨rfl,rfl,rfl,le_refl _,fun _ _ _=>rfl⟩
theorem Fr.trans{X Y:Nat->Prop}{u v w:World}(h:Fr X u v)(k:Fr Y v w)(hY:∀j,Y j->X j\/u.heap.size<=j):Fr X u w:=
 ⟨k.os.trans h.os,k.tape.trans h.tape,k.output.trans h.output,Nat.le_trans h.size k.size,fun j hj hx=>(k.block j (Nat.lt_of_lt_of_le hj h.size) (fun hy=>by rcases hY j hy with hy|hy;exact hx hy;omega)).trans (h.block j hj hx)⟩
theorem Fr.mono{X Y:Nat->Prop}{w w':World}(h:Fr X w w')(hxy:∀j,X j->Y j):Fr Y w w':=⟨h.os,h.tape,h.output,h.size,fun j hj hy=>h.block j hj (fun hx=>hy (hxy j hx))⟩
theorem Fr.of_grown{row:Option Nat}{w w':World}(h:w.grownBy w' row):Fr (fun k=>row=some k) w w':=⟨h.os,h.tape,h.output,h.size,fun j hj hx=>h.block j hj (fun e=>hx e.symm)⟩
theorem Fr.below{X:Nat->Prop}{w w':World}(h:Below w.heap.size w w'):Fr X w w':=⟨h.os,h.tape,h.output,h.size,fun j hj _=>h.block j hj⟩
theorem Fr.toBelow{X:Nat->Prop}{w w':World}(h:Fr X w w'){b:Nat}(hb:∀k,X k->b<=k)(hw:b<=w.heap.size):Below b w w':=⟨h.os,h.tape,h.output,h.size,fun j hj=>h.block j (by omega) (fun hx=>by have:=hb j hx;omega)⟩
theorem Fr.setCell(X:Nat->Prop)(w:World)(B k:Nat)(v:Value)(hB:X B):Fr X w (w.setCell ⟨B,k,none⟩ v):=⟨rfl,rfl,rfl,by simp,fun j _ hj=>heap_setCell_other _ _ j _ (fun e=>hj (by rw[e];exact hB))⟩
theorem Hd.fr{X:Nat->Prop}{w w':World}{B:Nat}{hd:Nat->Value}(h:Hd w B hd)(f:Fr X w w')(hB:¬X B):Hd w' B hd:=h.of_block (f.block B h.lt hB)
theorem OwnF.fr{X:Nat->Prop}{w w':World}{base:Nat}{v:Value}{d:List Ent}(h:OwnF w base v d)(f:Fr X w w')(hk:∀k,rowB v=some k->¬X k):OwnF w' base v d:=h.of_block fun k e=>f.block k (h.rowLt e).2 (hk k e)
theorem Hd.ne{w:World}{B base:Nat}{hd:Nat->Value}{v:Value}{d:List Ent}(h:Hd w B hd)(o:OwnF w base v d):rowB v≠some B:=fun e=>by
 obtain⟨cs,h1⟩:=o.rowT e;obtain⟨ds,h2⟩:=h.typ;rw[h1] at h2;simp only[Option.some.injEq,Obj.cells.injEq] at h2;exact absurd h2.2.1 (by decide)
theorem step_app{ops:Array Oper}{o:Oper}{a:Act}{K:Act->World->Prop}{Q:Exit->Act->World->Prop}{E:Prop}(w:World)(hgd:o.guard=none)(s x:Operand)(t tn:TypeId)
  (ho:o.op=.call {callee:=.builtin .append,args:=#[s,x],argTypes:=#[t,tn]}) (vs vx:Value) (hs:a.eval s=vs) (hx:a.eval x=vx)
  (v':Value) (w':World) (hr:(Builtin.append_ #[t,tn] o.type #[vs,vx]).run Tryz.prog w=.ok v' w') (h:K (a.put o.dst v') w') :
  if Region.wanted o (yielded ops a.tmps)=true then Oper.wp Tryz.prog o a w K Q else E:=by
 have hw:Region.wanted o (yielded ops a.tmps)=true:=by simp[Region.wanted,hgd]
 rw[if_pos hw];exact Lib.wp_append_run w s x t tn ho vs vx hs hx v' w' hr h
theorem rput_any(B R s base u:Nat)(hd:Nat->Value)(v:Value)(d:List Ent)(t:Ent)(w:World)(h:Hd w B hd)(hR:R+65<=263)(hs:s<64)(hu:hd R=.int .u64 u)(hub:u<B64)(hv:hd (R+1+s)=v)(o:OwnF w base v d)(hdl:d.length<=100000)(hbase:base<=w.heap.size) :
  Calls Tryz.prog 181 #[.pointer (some ⟨B,R,none⟩),.int .i64 s,.agg #[.int .u64 t.1,.int .i64 t.2]] w fun e w'=>e=.returned (.tuple #[])/\
   ∃v',Hd w' B (hset (hset hd (R+1+s) v') R (.int .u64 ((u ||| 2^s:Nat):Int)))/\OwnF w' base v' (d++[t])/\Fr (fun k=>k=B\/rowB v=some k) w w'/\∀k,rowB v'=some k->rowB v=some k\/w.heap.size<=k:=by
 obtain⟨S,hS⟩:∃S,w.heap.size=S:=⟨_,rfl⟩;obtain⟨u0,hu0⟩:∃u0,w.alloc (.cells #[.int .u64 t.1,.int .i64 t.2] 131)=u0:=⟨_,rfl⟩;obtain⟨W1,hW1⟩:∃W1,(u0.alloc (.cells #[.int .u64 t.1,.int .i64 t.2] 131)).drew=W1:=⟨_,rfl⟩;have b0:Below w.heap.size w u0:=by rw[<-hu0];exact(Below.refl _ _).alloc (le_refl _) _
 have s0:u0.heap.size=S+1:=by rw[<-hu0,<-hS];simp
 have b1:Below u0.heap.size u0 W1:=by rw[<-hW1];exact((Below.refl _ _).alloc (le_refl _) _).drew
 have b01:Below w.heap.size w W1:=b0.trans (b1.mono b0.size)
 have L1:IsL W1 (some ⟨S+1,0,none⟩) 1 [t]:=by
  rw[<-hW1,<-s0];exact(IsL.one u0 t).below ((Below.refl _ _).drew)
 obtain⟨v2,w2,hr,o2,g2,n2⟩:=appF (o.below b01) L1 (by simp;omega) (by have:=b01.size;omega) 39;obtain⟨pa,pc,e2,_,_,_,_⟩:=o2.isL;obtain⟨pn,hpn⟩:∃n,(d++[t]).length=n:=⟨_,rfl⟩;rw[hpn] at e2;subst e2;have hBl:=h.lt;have h1:Hd W1 B hd:=h.of_block (b01.block B hBl);have h2:Hd w2 B hd:=h1.of_block (g2.block B h1.lt (fun e=>Hd.ne h o e.symm));have h3:=h2.set (R+1+s) (.slice pa pn pc);obtain⟨w3,hw3⟩:∃w3,w2.setCell ⟨B,R+1+s,none⟩ (.slice pa pn pc)=w3:=⟨_,rfl⟩;rw[hw3] at h3;have h4:=h3.set R (.int .u64 ((u ||| 2^s:Nat):Int));obtain⟨va,vc,e0,_,hvc,hvm,_⟩:=o.isL;obtain⟨vn,hvn⟩:∃n,d.length=n:=⟨_,rfl⟩;rw[hvn] at e0;have hv':hd (R+1+s)=.slice va vn vc:=hv.trans e0
 have K0:Aside (u0.drew.cell? ⟨B,R+1+s,none⟩=some (.slice va vn vc)/\u0.drew.cell? ⟨S,0,none⟩=some (.int .u64 t.1)/\u0.drew.cell? ⟨S,1,none⟩=some (.int .i64 t.2)):=by
  refine⟨?_,?_,?_⟩
  ·have:=(h.of_block (b0.block B hBl)).cell (k:=R+1+s) (by omega);rw[hv'] at this;exact this
  ·show u0.cell? _=_;rw[<-hu0,<-hS];simp[go_sem]
  ·show u0.cell? _=_;rw[<-hu0,<-hS];simp[go_sem]
 have K1:Aside (W1.cell? ⟨B,R+1+s,none⟩=some (.slice va vn vc)/\W1.cell? ⟨S,0,none⟩=some (.int .u64 t.1)/\W1.cell? ⟨S,1,none⟩=some (.int .i64 t.2)):=by
  refine⟨?_,?_,?_⟩
  ·have:=h1.cell (k:=R+1+s) (by omega);rw[hv'] at this;exact this
  ·exact(b1.cell (p:=⟨S,0,none⟩) (show S<u0.heap.size by omega)).trans K0.out.2.1
  ·exact(b1.cell (p:=⟨S,1,none⟩) (show S<u0.heap.size by omega)).trans K0.out.2.2
 have hne:∀k,S<=k->rowB v≠some k:=fun k hk e=>by have:=(o.rowLt e).2;omega
 have K2:Aside (w2.cell? ⟨B,R+1+s,none⟩=some (.slice va vn vc)/\w2.cell? ⟨S,0,none⟩=some (.int .u64 t.1)/\w2.cell? ⟨S,1,none⟩=some (.int .i64 t.2)):=by
  refine⟨?_,g2.cell K1.out.2.1 (fun e=>hne S (le_refl _) e.symm),g2.cell K1.out.2.2 (fun e=>hne S (le_refl _) e.symm)⟩;have:=h2.cell (k:=R+1+s) (by omega);rw[hv'] at this;exact this
 have K3:Aside (w3.drew.cell? ⟨B,R,none⟩=some (.int .u64 u)):=by
  have:=h3.cell (k:=R) (by omega);rw[hset_ne _ _ (by omega),hu] at this;exact this
 have f4:Fr (fun k=>k=B\/rowB v=some k) w (w3.setCell ⟨B,R,none⟩ (.int .u64 ((u ||| 2^s:Nat):Int))):=by
  have x1:Fr (fun k=>k=B\/rowB v=some k) w w2:=((Fr.below b01).trans (Fr.of_grown g2) (fun j hj=>.inl (.inr hj)));have x2:Fr (fun k=>k=B\/rowB v=some k) w2 w3:=by rw[<-hw3];exact Fr.setCell _ _ _ _ _ (.inl rfl)
  exact(x1.trans x2 (fun j hj=>.inl hj)).trans (Fr.setCell _ _ _ _ _ (.inl rfl)) (fun j hj=>.inl hj)
 have o4:OwnF (w3.setCell ⟨B,R,none⟩ (.int .u64 ((u ||| 2^s:Nat):Int))) base (.slice pa pn pc) (d++[t]):=by
  have hk:∀k,rowB (.slice pa pn pc)=some k->k≠B:=fun k hk e=>by
   rcases n2 k hk with hk|hk
   ·exact Hd.ne h o (by rw[hk,e])
   ·have:=h1.lt;omega
  refine o2.of_block fun k e=>?_;rw[heap_setCell_other _ _ _ _ (hk k e),<-hw3,heap_setCell_other _ _ _ _ (hk k e)]
 have FIN:Aside (∃v',Hd (w3.setCell ⟨B,R,none⟩ (.int .u64 ((u ||| 2^s:Nat):Int))).drew B (hset (hset hd (R+1+s) v') R (.int .u64 ((u ||| 2^s:Nat):Int)))/\OwnF (w3.setCell ⟨B,R,none⟩ (.int .u64 ((u ||| 2^s:Nat):Int))).drew base v' (d++[t])/\Fr (fun k=>k=B\/rowB v=some k) w (w3.setCell ⟨B,R,none⟩ (.int .u64 ((u ||| 2^s:Nat):Int))).drew/\∀k,rowB v'=some k->rowB v=some k\/w.heap.size<=k):=
  ⟨.slice pa pn pc,h4.of_block rfl,o4.of_block (fun _ _=>rfl),f4.trans (Fr.below (X:=fun _=>False) ((Below.refl _ _).drew)) (fun j hj=>hj.elim),fun k hk=>by
   rcases n2 k hk with x|x
   ·exact .inl x
   ·have:=b01.size;exact .inr (by omega)⟩
 have HU0:Hid _:=hu0;have HW1:Hid _:=hW1;have HW3:Hid _:=hw3;have c1:w2.frozen? ⟨B,R+1+s,none⟩=false:=h2.frozen _;have c2:w3.frozen? ⟨B,R,none⟩=false:=h3.frozen _;have z0:w3.cell? ⟨B,R,none⟩=some (.int .u64 u):=K3.out;have z2:w2.cell? ⟨B,R+1+s,none⟩=some (.slice va vn vc):=K2.out.1;have bB:B<w2.heap.size:=h2.lt;have hs1:(s:Int)<64:=by omega
 have x1:IntKind.u64.wrap (2^s)=((2^s:Nat):Int):=by
  have:2^s<2^64:=Nat.pow_lt_pow_right (by omega) hs;have e:(2^s:Int)=((2^s:Nat):Int):=by push_cast;rfl
  rw[e,IntKind.wrap_u64];generalize 2^s=P at this;omega
 have x2:bits BinOp.or IntKind.u64 (u:Int) ((2^s:Nat):Int)=((u ||| 2^s:Nat):Int):=bits_or_u64_nat u (2^s) hub (Nat.pow_lt_pow_right (by omega) hs);have X1:Hid _:=x1;have X2:Hid _:=x2;have mx:=mixed;rw[e0] at hr;simp only[List.length_singleton] at hr;clear h o b0 b1 b01 L1 o2 g2 n2 h1 h2 h3 h4 f4 o4 hne hu0 hW1 hw3 hu hv hv' e0 hub x1 x2;go_enter Tryz.func181,Tryz.ntmps181
 go_upto_region 1 with fail
 rw[HU0.out];refine anyE_start (S:=(fun v0=>v0.cell? ⟨B,R+1+s,none⟩=some (.slice va vn vc)/\v0.cell? ⟨S,0,none⟩=some (.int .u64 t.1)/\v0.cell? ⟨S,1,none⟩=some (.int .i64 t.2))) (L:=14) (by kernel_rfl) ?_;refine anyE_u (i:=0) K0.out rfl (by kernel_rfl) (fun w z=>by go_simp<;>rfl) (fun _ _ _ h=>h) ?_;refine anyE_u (i:=1) K0.out rfl (by kernel_rfl) (fun w z=>by go_simp<;>rfl) (fun _ _ _ h=>h) ?_;refine anyE_u (i:=2) K0.out rfl (by kernel_rfl) (fun w z=>by go_simp<;>rfl) (fun _ _ _ h=>h) ?_;refine anyE_u (i:=3) K0.out rfl (by kernel_rfl) (fun w z=>by go_simp<;>rfl) (fun _ _ _ h=>h) ?_;refine anyE_u (i:=4) K0.out rfl (by kernel_rfl) (fun w z=>by go_simp<;>rfl) (fun _ _ _ h=>h) ?_;refine anyE_u (i:=5) K0.out rfl (by kernel_rfl) (fun w z=>by go_simp<;>rfl) (fun _ _ _ h=>h) ?_;refine anyE_u (i:=6) K0.out rfl (by kernel_rfl) (fun w z=>by go_simp<;>rfl) (fun _ _ _ h=>h) ?_;refine anyE_u (i:=7) K0.out rfl (by kernel_rfl) (fun w z=>by go_simp<;>rfl) (fun _ _ _ h=>h) ?_;refine anyE_u (i:=8) K0.out rfl (by kernel_rfl) (fun w z=>by go_simp<;>rfl) (fun _ _ _ h=>h) ?_;refine anyF_u [12,13] (i:=11) K0.out rfl (by kernel_rfl) (fun w z=>by go_simp<;>rfl) (fun _ _ _ h=>h) ?_;refine anyF_u [13] (i:=12) K0.out rfl (by kernel_rfl) (fun w z=>by go_simp<;>rfl) (fun _ _ _ h=>h) ?_;simp only[Act.put,sA,sB,sC];refine anyE_ready (rs:=[9]) (by kernel_rfl) (by simp) ?_;refine AllE.cons rfl (fun Kt hKt=>?_) ?_
 ·go_simp
  rw[HW1.out];refine hKt.out _ _ (fun _=>K1.out) ?_;clear hKt Kt;try simp only[Act.put,sA,sB,sC]
  refine anyE_ready (rs:=[10]) (by kernel_rfl) (by simp) ?_;refine AllE.cons (o:={dst:=some 16,op:=Op.call {callee:=Callee.builtin Builtin.append,args:=#[Operand.tmp 13,Operand.tmp 15],argTypes:=#[39,39]},type:=39,pos:= "wheel.go:75",after:=#[⟨7,.data⟩,⟨9,.data⟩],guard:=none}) rfl (fun Kt hKt=>?_) ?_
  ·refine step_app W1 (by rfl) _ _ 39 39 (by rfl) (.slice va vn vc) (.slice (some ⟨S+1,0,none⟩) 1 1) (by rfl) (by rfl) (.slice pa pn pc) w2 hr ?_;refine hKt.out _ _ (fun _=>K2.out) ?_;clear hKt Kt;try simp only[Act.put,sA,sB,sC]
   refine anyE_u (i:=13) K2.out rfl (by kernel_rfl) (fun w z=>by go_simp<;>rfl) (fun _ _ _ h=>h) ?_;simp only[Act.put,sA,sB,sC];refine anyE_ready (rs:=[14]) (by kernel_rfl) (by simp) ?_;refine AllE.cons rfl (fun Kt hKt=>?_) ?_
   ·go_simp
    rw[HW3.out];refine hKt.out _ _ (fun h=>absurd rfl h) ?_;clear hKt Kt;try simp only[Act.put,sA,sB,sC]
    refine anyE_done (by kernel_rfl) ?_ _
    go_wp2_with fail
    refine anyE_start (S:=(fun v0=>v0.cell? ⟨B,R,none⟩=some (.int .u64 u))) (L:=9) (by kernel_rfl) ?_;refine anyE_u (i:=0) K3.out rfl (by kernel_rfl) (fun w z=>by go_simp<;>rfl) (fun _ _ _ h=>h) ?_;refine anyE_u (i:=1) K3.out rfl (by kernel_rfl) (fun w z=>by go_simp<;>rfl) (fun _ _ _ h=>h) ?_;refine anyE_u (i:=2) K3.out rfl (by kernel_rfl) (fun w z=>by go_simp<;>rfl) (fun _ _ _ h=>h) ?_;refine anyE_u (i:=3) K3.out rfl (by kernel_rfl) (fun w z=>by go_simp<;>rfl) (fun _ _ _ h=>h) ?_;refine anyE_u (i:=4) K3.out rfl (by kernel_rfl) (fun w z=>by go_simp<;>rfl) (fun _ _ _ h=>h) ?_;refine anyE_u (i:=5) K3.out rfl (by kernel_rfl) (fun w z=>by go_simp<;>rfl) (fun _ _ _ h=>h) ?_;refine anyE_u (i:=6) K3.out rfl (by kernel_rfl) (fun w z=>by go_simp<;>rfl) (fun _ _ _ h=>h) ?_;refine anyF_u [8] (i:=7) K3.out rfl (by kernel_rfl) (fun w z=>by go_simp<;>rfl) (fun _ _ _ h=>h) ?_;refine anyE_u (i:=8) K3.out rfl (by kernel_rfl) (fun w z=>by go_simp<;>rfl) (fun _ _ _ h=>h) ?_;simp only[Act.put,sA,sB,sC];refine anyE_ready (rs:=[9]) (by kernel_rfl) (by simp) ?_;refine AllE.cons rfl (fun Kt hKt=>?_) ?_
    ·go_simp
     refine hKt.out _ _ (fun h=>absurd rfl h) ?_;clear hKt Kt;try simp only[Act.put,sA,sB,sC]
     refine anyE_done (by kernel_rfl) ?_ _;rw[X1.out,X2.out]
     go_wp2
     go_end0
     exact⟨rfl,FIN.out⟩
    exact AllE.nil
   exact AllE.nil
  exact AllE.nil
 exact AllE.nil
end
end Go.Proofs.YthpgfmmpjoodkaaGreatDoor.Wl
