import Derived.Test.YthpgfmmpjoodkaaGreatDoorUQ6
open List(append_assoc append_nil cons_append flatMap_append flatMap_cons flatMap_nil mem_append_right nil_append perm_append_comm range_succ)
open Nat(le_refl le_trans)
namespace Go.Proofs.YthpgfmmpjoodkaaGreatDoor.Qu
set_option linter.unusedSimpArgs false
set_option maxHeartbeats 8000000
set_option maxRecDepth 100000
set_option linter.unusedVariables false
open Go.RowKit Go.Lib Go.Sort
section
structure NewI(w:World)(S T K k:Nat)(a:Option Addr)(cap:Nat)(L:Nat->Nat)(wr:World):Prop where
 low:Below S w wr
 head:wr.heap[S+3]?=some (.cells #[.int .i64 K,ptr (S+1),.slice a k cap,ptr (S+2),.map none] 154 (0,0))
 slt:Slt wr (S+1) S T (fun _=>Pl.zero)
 shr:ShrA wr (S+2) 0 [] none
 row:wr.ownsRow (S+4) 155 1 (.slice a k cap) k ((List.range k).map fun i=>ptr (L i))
 own:∀i,i<k->LsmA wr S (L i) [] none
 inj:∀i j,i<k->j<k->L i=L j->i=j
theorem infoP:∃i,Tryz.prog.info? 155=some i/\i.zero=some (.pointer none)/\i.size=1/\i.bytes=8:=by
 have h:(Tryz.prog.info? 155).map (fun i=>(i.zero,i.size,i.bytes))=some (some (.pointer none),1,8):=by kernel_rfl
 obtain⟨i,h1,h2⟩:=Option.map_eq_some_iff.1 h;simp at h2;exact⟨i,h1,h2.1,h2.2.1,h2.2.2⟩
theorem que_set2{w:World}{B:Nat}{x0 x1 x2 x3 x4:Value}{U:TypeId}(h:w.heap[B]?=some (.cells #[x0,x1,x2,x3,x4] U (0,0)))(v:Value):(w.setCell ⟨B,2,none⟩ v).heap[B]?=some (.cells #[x0,x1,v,x3,x4] U (0,0)):=by
 simp[World.setCell,Array.getElem?_modify,h]
theorem que_set4{w:World}{B:Nat}{x0 x1 x2 x3 x4:Value}{U:TypeId}(h:w.heap[B]?=some (.cells #[x0,x1,x2,x3,x4] U (0,0)))(v:Value):(w.setCell ⟨B,4,none⟩ v).heap[B]?=some (.cells #[x0,x1,x2,x3,v] U (0,0)):=by
 simp[World.setCell,Array.getElem?_modify,h]
theorem que_cells{w:World}{B:Nat}{x0 x1 x2 x3 x4:Value}{U:TypeId}(h:w.heap[B]?=some (.cells #[x0,x1,x2,x3,x4] U (0,0))):w.cell? ⟨B,2,none⟩=some x2/\w.cell? ⟨B,4,none⟩=some x4:=⟨by rw[cell_of_row _ _ _ _ _ _ h];rfl,by rw[cell_of_row _ _ _ _ _ _ h];rfl⟩
theorem NewI.step{w wr:World}{S T K k cap:Nat}{a:Option Addr}{L:Nat->Nat}(h:NewI w S T K k a cap L wr)(hk:k<=100)(hS:S<=w.heap.size)(R:Nat)(hR:wr.heap.size=R)(ty:TypeId)(X:World)(hX:(wr.drew.alloc (.cells #[.slice none 0 0] 230)).alloc (.cells #[ptr R] 155)=X) :
  ∃r t' w4,(Builtin.append_ #[151,151] ty #[.slice a k cap,.slice (some ⟨R+1,0,none⟩) 1 1]).run Tryz.prog X=.ok (.slice r (k+1) t') w4/\
   w4.cell? ⟨S+3,2,none⟩=some (.slice a k cap)/\w4.frozen? ⟨S+3,2,none⟩=false/\NewI w S T K (k+1) r t' (lset L k R) (w4.setCell ⟨S+3,2,none⟩ (.slice r (k+1) t')):=by
 have b1:Below wr.heap.size wr X:=by rw[<-hX];exact((Below.refl wr.heap.size wr).drew.alloc (le_refl _) _).alloc (by show wr.heap.size<=(wr.alloc _).heap.size;simp) _
 have xz:X.heap.size=R+2:=by rw[<-hX,<-hR];show((wr.alloc _).alloc _).heap.size=_;simp
 have xR:X.heap[R]?=some (.cells #[.slice none 0 0] 230 (0,0)):=by
  rw[<-hX,<-hR];exact(Below.heap_alloc _ _ _ (by show wr.heap.size<(wr.alloc _).heap.size;simp)).trans (heap_alloc_new wr.drew _)
 have xP:X.heap[R+1]?=some (.cells #[ptr R] 155 (0,0)):=by
  have:=heap_alloc_new (wr.drew.alloc (.cells #[.slice none 0 0] 230)) (.cells #[ptr R] 155);rw[show(wr.drew.alloc (.cells #[.slice none 0 0] 230)).heap.size=R+1 by show(wr.alloc _).heap.size=_;simp[hR],hX] at this;exact this
 have S3:S+3<wr.heap.size:=lt_of_block h.head;obtain⟨i,hi,hz,hs,hby⟩:=infoP;have hrowX:=own_below h.row b1
 obtain⟨v',w4,k1,k2,k3,k4⟩:=run_append_own (P:=Tryz.prog) X (S+4) 151 ty 155 i _ 1 8 Tryz.underlying151 hi hz hs hby rfl (by omega) _ k _ hrowX ⟨R+1,0,none⟩ 1 1 [ptr R] rfl
  (fun j u hj=>by
   obtain⟨rfl,rfl⟩:j=0/\u=ptr R:=by
    cases j with
    | zero=>simp at hj;exact⟨rfl,hj.symm⟩
    | succ j=>simp at hj
   show X.cell? ⟨R+1,0+0,none⟩=_;rw[cell_of_row _ _ _ _ _ _ xP];rfl) (by intro u hu;simp at hu;subst hu;rfl) (by unfold maxLen;omega) (by omega) (by omega)
 have e:∃r t',v'=.slice r (k+1) t':=by
  rcases k2.2 with⟨e,e0⟩|⟨g,cap',cur,e,_⟩
  ·omega
  ·exact⟨_,_,e⟩
 obtain⟨r,t',rfl⟩:=e;have ne:∀{j:Nat} {ds:Array Value} {U:TypeId},X.heap[j]?=some (.cells ds U (0,0))->U≠155->some j≠(Value.slice a k cap).ownBlock:=fun hj hU=>own_ne hrowX hj (fun e=>hU e.symm);have hB4:=(k3.block (S+3) (by omega) (ne ((b1.block _ S3).trans h.head) (by decide))).trans ((b1.block _ S3).trans h.head);have nS:∀{j:Nat} {ds:Array Value} {U:TypeId},w4.heap[j]?=some (.cells ds U (0,0))->U≠154->j≠S+3:=fun hj hU=>ne_type hj hB4 hU;obtain⟨sc,hsc⟩:=h.slt.rowT;obtain⟨hc,hhc⟩:=h.shr.head;refine⟨r,t',w4,k1,(que_cells hB4).1,by simp[World.frozen?,hB4],?_⟩;have f1:Fr (fun j=>some j=(Value.slice a k cap).ownBlock) X w4:=⟨k3.size,fun j hj hx=>k3.block j hj hx⟩;have f2:Fr (fun j=>j=S+3) w4 (w4.setCell ⟨S+3,2,none⟩ (.slice r (k+1) t')):=⟨by simp[World.setCell],fun j hj hx=>Below.heap_setCell w4 ⟨S+3,2,none⟩ _ j hx⟩
 have keep:∀{j:Nat} {ds:Array Value} {U:TypeId},X.heap[j]?=some (.cells ds U (0,0))->U≠155->U≠154->(w4.setCell ⟨S+3,2,none⟩ (.slice r (k+1) t')).heap[j]?=X.heap[j]?:=fun {j} {ds} {U} hj h1 h2=>by
  have q1:=k3.block j (lt_of_block hj) (ne hj h1);exact(f2.2 j (lt_of_block (q1.trans hj)) (nS (q1.trans hj) h2)).trans q1
 have lk:∀(j:Nat),LsmA X S j [] none->LsmA (w4.setCell ⟨S+3,2,none⟩ (.slice r (k+1) t')) S j [] none:=fun j hj=>by
  obtain⟨cap',bs,e1,e2,e3,e4⟩:=hj;have:bs=[]:=List.map_eq_nil_iff.1 e1;subst this;refine⟨cap',[],rfl,e2,(keep e3 (by decide) (by decide)).trans e3,?_⟩;rcases e4.row.2 with⟨q,_⟩|⟨g,c9,cur,q,_⟩
  ·rw[q];exact RowB.nil _ _ _
  ·injection q with q;cases q
 refine⟨?_,que_set2 hB4 _,?_,?_,?_,fun i hi=>?_,fun i j hi hj hij=>?_⟩
 ·have b2:Below S w X:=h.low.trans (b1.mono (by omega));have b3:Below S X w4:=⟨k3.os,k3.tape,k3.output,k3.size,fun j hj=>k3.block j (by omega) (fun e=>by have:=(World.ownsRow.lt hrowX j e.symm).1;omega)⟩;exact(b2.trans b3).setCell (by show S<=S+3;omega) _
 ·have hs1:=(b1.block _ h.slt.blt).trans h.slt.head;have hs2:=(b1.block _ h.slt.rlt).trans hsc;exact h.slt.of_blocks ((keep hs1 (by decide) (by decide)).trans (b1.block _ h.slt.blt)) ((keep hs2 (by decide) (by decide)).trans (b1.block _ h.slt.rlt))
 ·have hs1:=(b1.block _ (lt_of_block hhc)).trans hhc;obtain⟨n,c9,e1,bs,e2,e3,e4⟩:=h.shr;have:bs=[]:=List.map_eq_nil_iff.1 e2;subst this;refine⟨n,c9,((keep hs1 (by decide) (by decide)).trans (b1.block _ (lt_of_block hhc))).trans e1,[],rfl,e3,?_⟩;rcases e4.row.2 with⟨q,_⟩|⟨g,c9,cur,q,_⟩
  ·rw[q];exact RowB.nil _ _ _
  ·injection q with q;cases q
 ·have k2':=own_fr k2 f2 (fun g cs hg _=>nS hg (by decide))
  have e:((List.range (k+1)).map fun i=>ptr (lset L k R i))=((List.range k).map fun i=>ptr (L i))++[ptr R]:=by
   rw[range_succ,List.map_append]
   have e9:((List.range k).map fun i=>ptr (lset L k R i))=(List.range k).map fun i=>ptr (L i):=List.map_congr_left fun i hi=>by
    rw[lset_ne _ _ (by have:=List.mem_range.1 hi;omega)]
   rw[e9];show _++[ptr (lset L k R k)]=_;rw[lset_same]
  rw[e];exact k2'
 ·by_cases e:i=k
  ·subst e;rw[lset_same];exact lk R ⟨0,[],rfl,by omega,xR,RowB.nil _ _ _⟩
  ·rw[lset_ne _ _ e];exact lk _ ((h.own i (by omega)).below b1)
 ·have lt:∀q,q<k->L q<R:=fun q hq=>by
   obtain⟨cs,hc⟩:=(h.own q hq).head;rw[<-hR];exact lt_of_block hc
  by_cases e1:i=k
  ·by_cases e2:j=k
   ·omega
   ·subst e1;rw[lset_same,lset_ne _ _ e2] at hij;have:=lt j (by omega);omega
  ·by_cases e2:j=k
   ·subst e2;rw[lset_same,lset_ne _ _ e1] at hij;have:=lt i (by omega);omega
   ·rw[lset_ne _ _ e1,lset_ne _ _ e2] at hij;exact h.inj i j (by omega) (by omega) hij
def NewIs(w:World)(T K:Nat)(r:Ending)(w':World):Prop:=∃A:QAd,r=.returned (.tuple #[ptr A.B,.int .i64 0])/\Que w' w.heap.size A T K newQ/\Below w.heap.size w w'
theorem NewI.done{w wr w':World}{S T K cap:Nat}{a:Option Addr}{L:Nat->Nat}(h:NewI w S T K T a cap L wr)(h1:1<=T)(hS:w.heap.size=S)(OR:Nat)(ha:a=some ⟨OR,0,none⟩)(M QC:Nat)(TC:Nat->Nat)(b:Below wr.heap.size wr w')
  (tb:Tab w' M (tabF ⟨S+3,S+1,S,OR,cap,L,S+2,M,QC,TC⟩ T)) (qc:w'.heap[QC]?=some (.cells #[ptr (S+3)] 83 (0,0))) (tc:∀i,i<T->w'.heap[TC i]?=some (.cells #[.int .i64 i] 3 (0,0))) :
  w'.cell? ⟨S+3,4,none⟩=some (.map none)/\w'.frozen? ⟨S+3,4,none⟩=false/\NewIs w T K (.returned (.tuple #[ptr (S+3),.int .i64 0])) (w'.setCell ⟨S+3,4,none⟩ (.map (some M))):=by
 have hB:=(b.block _ (lt_of_block h.head)).trans h.head;subst ha;refine⟨(que_cells hB).2,by simp[World.frozen?,hB],⟨S+3,S+1,S,OR,cap,L,S+2,M,QC,TC⟩,rfl,⟨fun _=>none,none,?_⟩,?_⟩
 ·have f:Fr (fun j=>j=S+3) w' (w'.setCell ⟨S+3,4,none⟩ (.map (some M))):=⟨by simp[World.setCell],fun j hj hx=>Below.heap_setCell w' ⟨S+3,4,none⟩ _ j hx⟩;have nS:∀{j:Nat} {ds:Array Value} {U:TypeId},w'.heap[j]?=some (.cells ds U (0,0))->U≠154->¬j=S+3:=fun hj hU=>ne_type hj hB hU;have kp:∀{j:Nat} {ds:Array Value} {U:TypeId},w'.heap[j]?=some (.cells ds U (0,0))->U≠154->(w'.setCell ⟨S+3,4,none⟩ (.map (some M))).heap[j]?=w'.heap[j]?:=fun hj hU=>f.2 _ (lt_of_block hj) (nS hj hU);have slt:=h.slt.below b;have shr:=h.shr.below b;obtain⟨sc,hsc⟩:=slt.rowT;obtain⟨hc,hhc⟩:=shr.head;have hrow:=own_below h.row b;refine⟨⟨que_set4 hB _,?_,?_,(kp qc (by decide)).trans qc,fun i hi=>(kp (tc i hi) (by decide)).trans (tc i hi)⟩,slt.of_blocks (kp slt.head (by decide)) (kp hsc (by decide)),fun i hi=>?_,?_,h.inj,fun i j hi hj hij x hx=>by(cases hx),fun i hi x hx=>by(cases hx),by show w.heap.size<=S;omega,by show w.heap.size<=S+2;omega⟩
  ·rcases hrow.2 with⟨e,e0⟩|⟨g,cap',cur,e,_,hg,hn,hc',hs,ht⟩
   ·omega
   ·injection e with e1 _ e3
    injection e1 with e1
    injection e1 with e1
    subst e1 e3;refine⟨cur,(kp hg (by decide)).trans hg,fun i hi=>?_⟩;have:=World.ownsRow.cellAt hrow i (by omega);rw[cell_of_row _ _ _ _ _ _ hg] at this;simp only[List.getElem?_map,List.getElem?_range hi,Option.map_some] at this;simpa using this
  ·refine tb.of_block (f.2 _ tb.lt fun e=>?_);obtain⟨es,c,hm⟩:=tb.isMap;have e':M=S+3:=e;rw[e',hB] at hm
   cases hm
  ·have li:=(h.own i hi).below b;rw[hS];obtain⟨cs,hcs⟩:=li.head;exact li.fr f (nS hcs (by decide)) (fun k hk=>by cases hk) (fun k es he=>nS he (by decide))
  ·exact shr.fr f (nS hhc (by decide)) (fun k hk=>by cases hk) (fun k es he=>nS he (by decide))
 ·rw[hS];exact(h.low.trans (b.mono (by have:=lt_of_block h.head;omega))).setCell (by show S<=S+3;omega) _
theorem qnew_in(T K:Nat)(w:World)(h1:1<=T)(h8:T<=8)(hK:K<=16) :
  Calls Tryz.prog 35 #[.int .i64 T,.int .i64 K] w (NewIs w T K):=by
 obtain⟨S,hS⟩:∃S,w.heap.size=S:=⟨_,rfl⟩;have sn:=slNew_in T w S hS h1 h8;have HS:Hid _:=hS;have g1:¬(K:Int)<0:=by omega
 have g2:¬(16:Int)<(K:Int):=by omega
 clear hS;go_enter Tryz.func35,Tryz.ntmps35
 go_wp2_with fail
 refine sn.mono ?_;rintro r w1 ⟨rfl,sl1,b1,z1⟩;have nw:=snew_any w1;obtain⟨w2,hw2⟩:∃x,w1.alloc (.cells #[.int .u64 0,.slice none 0 0] 228)=x:=⟨_,rfl⟩;have bw2:Below w1.heap.size w1 w2:=by rw[<-hw2];exact(Below.refl _ _).alloc (le_refl _) _
 have z2:w2.heap.size=S+3:=by rw[<-hw2];simp[z1]
 have h2:w2.heap[S+2]?=some (.cells #[.int .u64 0,.slice none 0 0] 228 (0,0)):=by rw[<-hw2,<-z1];exact heap_alloc_new w1 _
 obtain⟨w3,hw3⟩:∃x,w2.alloc (.cells #[.int .i64 K,ptr (S+1),.slice none 0 0,ptr (S+2),.map none] 154)=x:=⟨_,rfl⟩;have bw3:Below w2.heap.size w2 w3:=by rw[<-hw3];exact(Below.refl _ _).alloc (le_refl _) _
 have h3:w3.heap[S+3]?=some (.cells #[.int .i64 K,ptr (S+1),.slice none 0 0,ptr (S+2),.map none] 154 (0,0)):=by rw[<-hw3,<-z2];exact heap_alloc_new w2 _
 have I3:Aside (NewI w S T K 0 none 0 (fun _=>0) w3):=by
  refine⟨b1.trans ((bw2.trans (bw3.mono bw2.size)).mono (by omega)),h3,(sl1.below bw2).below bw3,⟨0,0,(bw3.block _ (by omega)).trans h2,[],rfl,rfl,RowB.nil _ _ _⟩,World.ownsRow_nil _ _ _ _,fun i hi=>absurd hi (by omega),fun i j hi=>absurd hi (by omega)⟩
 rw[z1] at nw;have HW2:Hid _:=hw2;have HW3:Hid _:=hw3;have Z2:Hid _:=z2;clear sl1 b1 bw2 bw3 h2 h3 hw3 sn
 go_wp2_with fail
 refine nw.mono ?_;rintro r wx ⟨rfl,hwx⟩;rw[hw2] at hwx;subst hwx;clear hw2 nw
 go_wp2_with fail
 rw[HW3.out]
 go_loopg [29] T (fun kx s29 wr=>∃(k cap:Nat)(a:Option Addr)(L:Nat->Nat),s29=.int .i64 k/\k<=T/\T-k<=kx/\Aside (NewI w S T K k a cap L wr))
 case atStart=>exact⟨0,0,none,fun _=>0,rfl,by omega,by omega,I3⟩
 case round=>
  clear I3;obtain⟨k,cap,a,L,rfl,hk,hkx,I⟩:=hrel;by_cases hlt:k<T
  ·have hz:(k:Int)<(T:Int):=by omega
   obtain⟨R,hR⟩:∃R,wr.heap.size=R:=⟨_,rfl⟩;obtain⟨r,t',w4,hr,q2,q3,i4⟩:=I.out.step (by omega) (by have:=HS.out;omega) R hR 151 _ rfl;have I4:Aside (NewI w S T K (k+1) r t' (lset L k R) (w4.setCell ⟨S+3,2,none⟩ (.slice r (k+1) t'))):=i4;have c2:=(que_cells I.out.head).1;have Sl:S+3<wr.heap.size:=lt_of_block I.out.head;have ln:=lnew_any wr.drew;rw[show wr.drew.heap.size=R from hR] at ln;have e0:wr.drew.cell? ⟨S+3,2,none⟩=some (.slice a k cap):=c2;have e1:(wr.drew.alloc (.cells #[.slice none 0 0] 230)).cell? ⟨S+3,2,none⟩=some (.slice a k cap):=(cell_old wr.drew _ 2 Sl).trans c2;have e2:((wr.drew.alloc (.cells #[.slice none 0 0] 230)).alloc (.cells #[ptr R] 155)).cell? ⟨S+3,2,none⟩=some (.slice a k cap):=(cell_old _ _ 2 (by show S+3<(wr.alloc _).heap.size;simp;omega)).trans e1;have mx:=mixed;clear i4
   go_wp2_with fail
   refine anyE_start (S:=(fun v=>v.cell? ⟨S+3,2,none⟩=some (.slice a k cap))) (L:=10) (by kernel_rfl) ?_;refine anyE_u (i:=0) e0 rfl (by kernel_rfl) (fun w z=>by go_simp<;>rfl) (fun _ _ _ h=>h) ?_;refine anyE_u (i:=1) e0 rfl (by kernel_rfl) (fun w z=>by go_simp<;>rfl) (fun _ _ _ h=>h) ?_;refine anyE_u (i:=2) e0 rfl (by kernel_rfl) (fun w z=>by go_simp<;>rfl) (fun _ _ _ h=>h) ?_;refine anyE_u (i:=3) e0 rfl (by kernel_rfl) (fun w z=>by go_simp<;>rfl) (fun _ _ _ h=>h) ?_;refine anyE_u (i:=4) e0 rfl (by kernel_rfl) (fun w z=>by go_simp<;>rfl) (fun _ _ _ h=>h) ?_;simp only[Act.put,sA,sB,sC];refine anyE_ready (rs:=[5]) (by kernel_rfl) (by simp) ?_;refine AllE.cons (o:={dst:=some 36,op:=Op.call {callee:=Callee.value (Operand.func 83),args:=#[],argTypes:=#[]},type:=155,pos:= "queue.go:43",after:=#[],guard:=none}) rfl (fun Kt hKt=>?_) ?_
   ·go_simp
    (with_reducible refine Calls.mono ln ?_)
    rintro r2 w2 ⟨rfl,rfl⟩
    go_wp2_with fail
    refine hKt.out _ _ (fun _=>e1) ?_;clear hKt Kt;try simp only[Act.put,sA,sB,sC]
    refine anyE_ready (rs:=[6]) (by kernel_rfl) (by simp) ?_;refine AllE.cons rfl (fun Kt hKt=>?_) ?_
    ·go_simp
     refine hKt.out _ _ (fun _=>e2) ?_;clear hKt Kt;try simp only[Act.put,sA,sB,sC]
     refine anyE_ready (rs:=[7]) (by kernel_rfl) (by simp) ?_;refine AllE.cons (o:={dst:=some 38,op:=Op.call {callee:=Callee.builtin Builtin.append,args:=#[Operand.tmp 35,Operand.tmp 37],argTypes:=#[151,151]},type:=151,pos:= "queue.go:43",after:=#[⟨4,.data⟩,⟨6,.data⟩,⟨5,.chain⟩],guard:=none}) rfl (fun Kt hKt=>?_) ?_
     ·refine step_app _ (by rfl) _ _ 151 151 (by rfl) (.slice a k cap) (.slice (some ⟨R+1,0,none⟩) 1 1) (by rfl) (by rfl) (.slice r (k+1) t') w4 hr ?_;refine hKt.out _ _ (fun _=>q2) ?_;clear hKt Kt;try simp only[Act.put,sA,sB,sC]
      refine anyE_ready (rs:=[8]) (by kernel_rfl) (by simp) ?_;refine AllE.cons rfl (fun Kt hKt=>?_) ?_
      ·go_simp
       refine hKt.out _ _ (fun _=>q2) ?_;clear hKt Kt;try simp only[Act.put,sA,sB,sC]
       refine anyE_ready (rs:=[9]) (by kernel_rfl) (by simp) ?_;refine AllE.cons rfl (fun Kt hKt=>?_) ?_
       ·go_simp
        refine hKt.out _ _ (fun _=>q2) ?_;clear hKt Kt;try simp only[Act.put,sA,sB,sC]
        refine anyE_ready (rs:=[10]) (by kernel_rfl) (by simp) ?_;refine AllE.cons rfl (fun Kt hKt=>?_) ?_
        ·go_simp
         refine hKt.out _ _ (fun h=>absurd rfl h) ?_;clear hKt Kt;try simp only[Act.put,sA,sB,sC]
         refine anyE_done (by kernel_rfl) ?_ _
         go_wp2
         go_roundg (T-(k+1))
         case measure=>omega
         case rel=>exact⟨k+1,t',r,lset L k R,by go_num,by omega,le_refl _,I4⟩
        exact AllE.nil
       exact AllE.nil
      exact AllE.nil
     exact AllE.nil
    exact AllE.nil
   exact AllE.nil
  ·have hz:¬(k:Int)<(T:Int):=by omega
   obtain rfl:k=T:=by omega
   obtain⟨OR,ha⟩:∃OR,a=some ⟨OR,0,none⟩:=by
    rcases I.out.row.2 with⟨e,e0⟩|⟨g,c',cur,e,_⟩
    ·omega
    ·injection e with e1;exact⟨g,e1⟩
   have hrow:∀i,i<k->wr.cell? ⟨OR,i,none⟩=some (ptr (L i)):=fun i hi=>by
    have:=World.ownsRow.cellAt (by rw[<-ha];exact I.out.row) i (by omega);rw[this];simp[hi]
   have hor:OR<wr.heap.size:=by
    rcases I.out.row.2 with⟨e,e0⟩|⟨g,c',cur,e,_,hg,_⟩
    ·omega
    ·injection e with e1;rw[ha] at e1;injection e1 with e1;injection e1 with e1;rw[e1];exact lt_of_block hg
   have hh:=I.out.head;rw[ha] at hh;have tbl:=table_any wr ⟨S+3,S+1,S,OR,cap,L,S+2,0,0,fun _=>0⟩ k _ _ hh hrow hor h8;have HA:Hid _:=ha;clear hh hrow hor ha
   go_wp2_with fail
   refine tbl.mono ?_;rintro r w5 ⟨M,QC,TC,rfl,b5,tb5,qc5,tc5⟩;obtain⟨f1,f2,fin⟩:=I.out.done h1 HS.out OR HA.out M QC TC b5 tb5 qc5 tc5;have FIN:Aside (NewIs w k K (.returned (.tuple #[ptr (S+3),.int .i64 0])) (w5.setCell ⟨S+3,4,none⟩ (.map (some M)))):=fin;clear fin tb5 qc5 tc5 b5 tbl
   go_wp2
   go_ret2;exact FIN.out
structure View(T:Nat)(s:QSt)(sl ow:Nat->List Ent)(sh:List Ent):Prop where
 sl:∀i,i<T->slotL (s.g i)=sl i
 ow:∀i,i<T->sortE (s.ls i).flatten=ow i
 sh:sortE s.hs.flatten=sh
theorem slotL_of{p:Pl}{e:Ent}(h:slotL p=[e]):p.f=true/\p.e=e:=by
 unfold slotL at h
 split at h
 ·rename_i hf;simp at h;exact⟨hf,h⟩
 ·cases h
theorem slotL_nil{p:Pl}(h:slotL p=[]):p.f=false:=by
 unfold slotL at h
 split at h
 ·cases h
 ·rename_i hf;simpa using hf
theorem View.new(T:Nat):View T newQ (fun _=>[]) (fun _=>[]) []:=⟨fun _ _=>rfl,fun _ _=>sortE_nil,sortE_nil⟩
variable {T K:Nat}{s:QSt}{sl ow:Nat->List Ent}{sh:List Ent}
theorem View.len(h:View T s sl ow sh){t:Nat}(ht:t<T):(s.ls t).flatten.length=(ow t).length:=by rw[<-h.ow t ht,sortE_len]
theorem View.hlen(h:View T s sl ow sh):s.hs.flatten.length=sh.length:=by rw[<-h.sh,sortE_len]
theorem View.osrt(h:View T s sl ow sh){t:Nat}(ht:t<T):Srt (ow t):=by rw[<-h.ow t ht];exact sortE_srt _
theorem View.ssrt(h:View T s sl ow sh):Srt sh:=by rw[<-h.sh];exact sortE_srt _
theorem View.f(h:View T s sl ow sh){t:Nat}(ht:t<T):(s.g t).f=!(sl t).isEmpty:=by
 rw[<-h.sl t ht];unfold slotL
 cases (s.g t).f<;>rfl
theorem settle_none{t:Nat}(hf:(s.g t).f=false):settleQ K s t=s:=by unfold settleQ;rw[if_neg (by rw[hf];simp)]
theorem View.settle_no(h:View T s sl ow sh){t:Nat}(ht:t<T)(hs:sl t=[]):settleQ K s t=s:=settle_none (slotL_nil (by rw[h.sl t ht,hs]))
theorem View.settle_fit(h:View T s sl ow sh){t:Nat}(ht:t<T){e:Ent}(hs:sl t=[e])(hl:(ow t).length+1<=K):View T (settleQ K s t) (lset sl t []) (lset ow t (sortE (ow t++[e]))) sh:=by
 obtain⟨hf,he⟩:=slotL_of (by rw[h.sl t ht,hs]:slotL (s.g t)=[e])
 have e1:settleQ K s t=⟨slSet s.g t ⟨(0,0),(s.g t).v+1,false⟩,lset s.ls t (putL (s.ls t) (s.g t).e),s.v,s.hs⟩:=by
  unfold settleQ;rw[if_pos hf,if_neg (by rw[putL_len,h.len ht];omega)]
 rw[e1];refine⟨fun i hi=>?_,fun i hi=>?_,h.sh⟩
 ·show slotL (slSet s.g t _ i)=_;by_cases c:i=t
  ·subst c;rw[slSet_same,lset_same];rfl
  ·rw[slSet_ne _ _ c,lset_ne _ _ c];exact h.sl i hi
 ·show sortE (lset s.ls t _ i).flatten=_;by_cases c:i=t
  ·subst c;rw[lset_same,lset_same,he];refine sortE_congr ?_;refine(putL_perm _ _).trans (List.Perm.append_right _ ?_);rw[<-h.ow i hi];exact(sortE_perm _).symm
  ·rw[lset_ne _ _ c,lset_ne _ _ c];exact h.ow i hi
theorem View.settle_spill(h:View T s sl ow sh){t:Nat}(ht:t<T){e:Ent}(hs:sl t=[e])(hl:K<(ow t).length+1):View T (settleQ K s t) (lset sl t []) (lset ow t []) (sortE (sh++(ow t++[e]))):=by
 obtain⟨hf,he⟩:=slotL_of (by rw[h.sl t ht,hs]:slotL (s.g t)=[e])
 have e1:settleQ K s t=⟨slSet s.g t ⟨(0,0),(s.g t).v+1,false⟩,lset s.ls t [],s.v+1,addS s.hs (sortE (putL (s.ls t) (s.g t).e).flatten)⟩:=by
  unfold settleQ;rw[if_pos hf,if_pos (by rw[putL_len,h.len ht];omega)]
 rw[e1];refine⟨fun i hi=>?_,fun i hi=>?_,?_⟩
 ·show slotL (slSet s.g t _ i)=_;by_cases c:i=t
  ·subst c;rw[slSet_same,lset_same];rfl
  ·rw[slSet_ne _ _ c,lset_ne _ _ c];exact h.sl i hi
 ·show sortE (lset s.ls t [] i).flatten=_;by_cases c:i=t
  ·subst c;rw[lset_same,lset_same];exact sortE_nil
  ·rw[lset_ne _ _ c,lset_ne _ _ c];exact h.ow i hi
 ·refine sortE_congr ?_;refine(addS_perm _ _).trans ?_;refine List.Perm.append ?_ ?_
  ·rw[<-h.sh];exact(sortE_perm _).symm
  ·rw[he];refine(sortE_perm _).trans ((putL_perm _ _).trans (List.Perm.append_right _ ?_));rw[<-h.ow t ht];exact(sortE_perm _).symm
theorem View.put{t:Nat}(h:View T (settleQ K s t) sl ow sh)(e:Ent):View T (putQ K s t e) (lset sl t [e]) ow sh:=by
 refine⟨fun i hi=>?_,h.ow,h.sh⟩;show slotL (slSet (settleQ K s t).g t _ i)=_;by_cases c:i=t
 ·subst c;rw[slSet_same,lset_same];rfl
 ·rw[slSet_ne _ _ c,lset_ne _ _ c];exact h.sl i hi
theorem View.spot(h:View T s sl ow sh)(j:Nat):spotL s T j=if j<T then sl j else if j<2*T then ow (j-T) else sh:=by
 unfold spotL;by_cases c1:j<T
 ·rw[if_pos c1,if_pos c1];exact h.sl j c1
 ·rw[if_neg c1,if_neg c1];by_cases c2:j<2*T
  ·rw[if_pos c2,if_pos c2];exact h.ow _ (by omega)
  ·rw[if_neg c2,if_neg c2];exact h.sh
theorem slAll_flat(g:Nat->Pl):∀k,slAll g k=(List.range k).flatMap (fun i=>slotL (g i))
 | 0=>rfl
 | k+1=>by
  rw[range_succ,flatMap_append,<-slAll_flat g k];show slAll g k++(if (g k).f then [(g k).e] else [])=_;simp[slotL]
theorem flatMap_congr'{f g:Nat->List Ent}{k:Nat}(h:∀i,i<k->f i=g i):(List.range k).flatMap f=(List.range k).flatMap g:=by
 induction k with
 | zero=>rfl
 | succ k ih=>rw[range_succ,flatMap_append,flatMap_append,ih (fun i hi=>h i (by omega))];simp[h k (by omega)]
theorem View.slots(h:View T s sl ow sh):slAll s.g T=(List.range T).flatMap sl:=by
 rw[slAll_flat];exact flatMap_congr' h.sl
theorem flatN_nil(k:Nat):(List.range k).flatMap (fun _=>([]:List Ent))=[]:=by simp
theorem View.lists(h:View T s sl ow sh):listsQ s T=(List.range T).map sl++(List.range T).map ow++[sh]:=by
 apply List.ext_getElem?;intro j;by_cases c:j<2*T+1
 ·rw[listsQ_at s T c,h.spot j];by_cases c1:j<T
  ·rw[if_pos c1,append_assoc,List.getElem?_append_left (by simpa using c1)];simp[c1]
  ·rw[if_neg c1];by_cases c2:j<2*T
   ·rw[if_pos c2,append_assoc,List.getElem?_append_right (by simp;omega),List.getElem?_append_left (by simp;omega)];have e:j-T<T:=by omega
    simp[e]
   ·rw[if_neg c2,List.getElem?_append_right (by simp;omega)];simp;rw[show j-(T+T)=0 by omega]
    rfl
 ·rw[List.getElem?_eq_none (by rw[listsQ_len];omega),List.getElem?_eq_none (by simp;omega)]
end
section
def allV(T:Nat)(sl ow:Nat->List Ent)(sh:List Ent):List Ent:=(List.range T).flatMap sl++((List.range T).flatMap ow++sh)
def ids(d:List Ent):List Int:=d.map Prod.snd
variable {T K:Nat}{s:QSt}{sl ow:Nat->List Ent}{sh:List Ent}
theorem take_ok{N:Nat}(ok:QOk K T N s)(id:Int):QOk K T (N+1) (takeQ s T id):=by
 unfold takeQ
 cases e:firstHit s T id with
 | none=>exact ok.mono (by omega)
 | some j=>
  show QOk K T (N+1) (dropQ s T id j);unfold dropQ;by_cases c1:j<T
  ·rw[if_pos c1];refine⟨fun i hi=>?_,ok.fall,ok.len,by have:=ok.sv;show s.v<=_;omega,by have:=ok.hlen;show s.hs.length<=_;omega,by have:=ok.hsum;show s.hs.flatten.length<=_;omega,ok.hsrt⟩;show(slDropQ s.g T id i).v<=_;unfold slDropQ;have hv:=ok.ver i hi
   cases slFirst s.g T id with
   | none=>show(s.g i).v<=_;omega
   | some k=>
    show(slSet s.g k _ i).v<=_;by_cases c:i=k
    ·subst c;rw[slSet_same];show(s.g i).v+1<=_;omega
    ·rw[slSet_ne _ _ c];omega
  ·rw[if_neg c1];by_cases c2:j<2*T
   ·rw[if_pos c2];refine⟨fun i hi=>by have:=ok.ver i hi;show(s.g i).v<=_;omega,fun i hi=>?_,fun i hi=>?_,by have:=ok.sv;show s.v<=_;omega,by have:=ok.hlen;show s.hs.length<=_;omega,by have:=ok.hsum;show s.hs.flatten.length<=_;omega,ok.hsrt⟩
    ·show Fall (lset s.ls (j-T) _ i);by_cases c:i=j-T
     ·subst c;rw[lset_same];exact dropLs_fall (ok.fall _ hi) id
     ·rw[lset_ne _ _ c];exact ok.fall i hi
    ·show(lset s.ls (j-T) _ i).flatten.length<=K;by_cases c:i=j-T
     ·subst c;rw[lset_same];exact le_trans (dropLs_len id) (ok.len _ hi)
     ·rw[lset_ne _ _ c];exact ok.len i hi
   ·rw[if_neg c2];refine⟨fun i hi=>by have:=ok.ver i hi;show(s.g i).v<=_;omega,ok.fall,ok.len,?_,?_,?_,dropS_srt id ok.hsrt⟩
    ·show(if hasL s.hs.flatten id then s.v+1 else s.v)<=_;have:=ok.sv
     split<;>omega
    ·show(dropS s.hs id).length<=_;have:=dropS_count s.hs id;have:=ok.hlen;omega
    ·show(dropS s.hs id).flatten.length<=_;have:=dropS_len s.hs id;have:=ok.hsum;omega
end
section
theorem leastL_is(ls:List (List Ent))(hs:∀d∈ls,Srt d):∀k,k<=ls.length->(leastL ls k=none/\(ls.take k).flatten=[])\/∃j x,leastL ls k=some (j,x)/\IsMin x (ls.take k).flatten
 | 0,_=>.inl ⟨rfl,rfl⟩
 | k+1,hk=>by
  have hk':k<ls.length:=by omega
  have ih:=leastL_is ls hs k (by omega);have e:ls.getD k []=ls[k]:=by rw[List.getD_eq_getElem?_getD,List.getElem?_eq_getElem hk'];rfl
  have srt:=hs ls[k] (List.getElem_mem hk');rw[flat_take hk'];show(least1 (leastL ls k) k (ls.getD k [])=none/\_)\/∃j x,least1 (leastL ls k) k (ls.getD k [])=some (j,x)/\_;rw[e]
  cases hd:ls[k] with
  | nil=>
   rw[append_nil];rcases ih with⟨i1,i2⟩|⟨j,x,i1,i2⟩
   ·rw[i1];exact .inl ⟨rfl,i2⟩
   ·rw[i1];exact .inr ⟨j,x,rfl,i2⟩
  | cons y r=>
   rw[hd] at srt;rcases ih with⟨i1,i2⟩|⟨j,x,i1,i2⟩
   ·rw[i1,i2];exact .inr ⟨k,y,rfl,by rw[nil_append];exact IsMin.head srt⟩
   ·rw[i1]
    cases c:ltE y x with
    | true=>
     refine .inr ⟨k,y,?_,i2.right (IsMin.head srt) c⟩;show(if ltE y x then some (k,y) else some (j,x))=_;rw[if_pos c]
    | false=>
     refine .inr ⟨j,x,?_,i2.left (IsMin.head srt) c⟩;show(if ltE y x then some (k,y) else some (j,x))=_;rw[if_neg (by rw[c];simp)]
variable {T K:Nat}{s:QSt}{sl ow:Nat->List Ent}{sh:List Ent}
theorem slotL_srt(p:Pl):Srt (slotL p):=by
 unfold slotL
 split
 ·simp[Srt]
 ·exact Srt.nil
theorem View.lists_srt(h:View T s sl ow sh):∀d∈listsQ s T,Srt d:=by
 intro d hd;unfold listsQ at hd;obtain⟨j,_,rfl⟩:=List.mem_map.1 hd;unfold spotL
 split
 ·exact slotL_srt _
 ·split
  ·exact sortE_srt _
  ·exact sortE_srt _
theorem View.flatten(h:View T s sl ow sh):(listsQ s T).flatten=allV T sl ow sh:=by
 rw[h.lists];unfold allV;rw[List.flatten_append,List.flatten_append,List.flatten_cons,List.flatten_nil,append_nil,append_assoc]
 rfl
theorem View.least(h:View T s sl ow sh):(leastQ s T=none/\allV T sl ow sh=[])\/∃j x,leastQ s T=some (j,x)/\IsMin x (allV T sl ow sh):=by
 have l:=leastL_is (listsQ s T) h.lists_srt (2*T+1) (by rw[listsQ_len];exact le_refl _);rw[List.take_of_length_le (by rw[listsQ_len];exact le_refl _),h.flatten] at l;exact l
end
section
variable {T K:Nat}{s:QSt}{sl ow:Nat->List Ent}{sh:List Ent}
theorem flat_lset(f:Nat->List Ent)(l:List Ent){t:Nat}:∀{k:Nat},t<k->((List.range k).flatMap (lset f t l)).Perm (l++(List.range k).flatMap (lset f t []))
 | 0,h=>by omega
 | k+1,h=>by
  rw[range_succ,flatMap_append,flatMap_append];by_cases c:t=k
  ·subst c;rw[flatMap_congr' (f:=lset f t l) (g:=f) (fun i hi=>lset_ne _ _ (by omega)),flatMap_congr' (f:=lset f t []) (g:=f) (fun i hi=>lset_ne _ _ (by omega))];simp only[flatMap_cons,flatMap_nil,append_nil,lset_same];exact perm_append_comm
  ·have ih:=flat_lset f l (k:=k) (t:=t) (by omega);simp only[flatMap_cons,flatMap_nil,append_nil,lset_ne f _ (show k≠t from fun e=>c e.symm)];rw[<-append_assoc];exact List.Perm.append_right _ ih
theorem lset_self(f:Nat->List Ent)(t:Nat):lset f t (f t)=f:=by
 funext i
 by_cases e:i=t
 ·subst e;rw[lset_same]
 ·rw[lset_ne _ _ e]
theorem flatV_at(f:Nat->List Ent){t k:Nat}(h:t<k):((List.range k).flatMap f).Perm (f t++(List.range k).flatMap (lset f t [])):=by
 have:=flat_lset f (f t) h;rw[lset_self] at this;exact this
theorem View.settle(h:View T s sl ow sh){t:Nat}(ht:t<T):∃sl' ow' sh',View T (settleQ K s t) sl' ow' sh'/\sl' t=[]/\(allV T sl' ow' sh').Perm (allV T sl ow sh):=by
 by_cases c:sl t=[]
 ·exact⟨sl,ow,sh,by rw[h.settle_no ht c];exact h,c,List.Perm.refl _⟩
 ·obtain⟨e,he⟩:∃e,sl t=[e]:=by
   have:=h.sl t ht;unfold slotL at this
   split at this
   ·exact⟨_,this.symm⟩
   ·exact absurd this.symm c
  have p1:=flatV_at sl ht;rw[he] at p1;have p2:=flatV_at ow ht;by_cases hl:(ow t).length+1<=K
  ·refine⟨_,_,_,h.settle_fit (K:=K) ht he hl,lset_same _ _ _,?_⟩;have p3:=flat_lset ow (sortE (ow t++[e])) ht;unfold allV;have q:(sortE (ow t++[e])).Perm (e::ow t):=(sortE_perm _).trans perm_append_comm;refine List.Perm.trans (List.Perm.append_left _ (List.Perm.append_right _ (p3.trans (List.Perm.append_right _ q)))) ?_;refine List.Perm.trans ?_ (List.Perm.append p1.symm (List.Perm.append_right _ p2.symm));simp only[cons_append,append_assoc,nil_append];exact List.perm_middle
  ·refine⟨_,_,_,h.settle_spill (K:=K) ht he (by omega),lset_same _ _ _,?_⟩;unfold allV
   have q:(sortE (sh++(ow t++[e]))).Perm (e::(ow t++sh)):=(sortE_perm _).trans (by
    rw[<-append_assoc];exact(perm_append_comm).trans (List.Perm.cons e (show(sh++ow t).Perm (ow t++sh) from perm_append_comm)))
   refine List.Perm.trans (List.Perm.append_left _ (List.Perm.append_left _ q)) ?_;refine List.Perm.trans ?_ (List.Perm.append p1.symm (List.Perm.append_right _ p2.symm));simp only[cons_append,append_assoc,nil_append];refine List.Perm.trans (List.Perm.append_left _ List.perm_middle) ?_;refine List.perm_middle.trans (List.Perm.cons _ (List.Perm.append_left _ ?_));rw[<-append_assoc,<-append_assoc];exact List.Perm.append_right _ perm_append_comm
theorem View.putAny(h:View T s sl ow sh){t:Nat}(ht:t<T)(e:Ent):∃sl' ow' sh',View T (putQ K s t e) sl' ow' sh'/\(allV T sl' ow' sh').Perm (e::allV T sl ow sh):=by
 obtain⟨sl',ow',sh',v,e0,p⟩:=h.settle (K:=K) ht;refine⟨_,_,_,v.put e,?_⟩;refine List.Perm.trans ?_ (List.Perm.cons e p);unfold allV;have p1:=flat_lset sl' [e] ht;have p2:=flatV_at sl' ht;rw[e0,nil_append] at p2;rw[<-cons_append];refine List.Perm.append_right _ ?_;exact p1.trans (List.Perm.cons e p2.symm)
end
section
variable {T K:Nat}{s:QSt}{sl ow:Nat->List Ent}{sh:List Ent}
theorem smal_app(c d:List Ent)(x:Ent):smal (c++d) x=smal c x+smal d x:=List.countP_append
theorem smal_at{d:List Ent}(hs:Srt d){i:Nat}(hi:i<d.length){x:Ent}(h:ltE d[i] x=false):smal d x<=i:=by
 have up:smal (d.drop i) x=0:=smal_none fun y hy=>by
  obtain⟨j,hj,rfl⟩:=List.mem_iff_getElem.1 hy;rw[List.getElem_drop];by_cases c:j=0
  ·subst c;exact h
  ·have h2:ltE (d[i+j]'(by simp at hj;omega)) d[i]=false:=hs.get (show i<i+j by omega) (by simp at hj;omega);rw[ltE_not] at h h2⊢;omega
 rw[smal_split d x i,up];have:=smal_le (d.take i) x;rw[List.length_take] at this;omega
theorem flat_most(f:Nat->List Ent):∀{k:Nat},(∀i,i<k->(f i).length<=K)->((List.range k).flatMap f).length<=k*K
 | 0,_=>by simp
 | k+1,hl=>by
  rw[range_succ,flatMap_append,List.length_append,Nat.add_mul,Nat.one_mul];have:=flat_most f (k:=k) (fun i hi=>hl i (by omega));simp only[flatMap_cons,flatMap_nil,append_nil];have:=hl k (by omega);omega
theorem flat_less(f:Nat->List Ent){t:Nat}:∀{k:Nat},t<k->(∀i,i<k->(f i).length<=K)->((List.range k).flatMap (lset f t [])).length+K<=k*K
 | 0,h,_=>by omega
 | k+1,h,hl=>by
  rw[range_succ,flatMap_append,List.length_append,Nat.add_mul,Nat.one_mul];by_cases c:t=k
  ·subst c;rw[flatMap_congr' (f:=lset f t []) (g:=f) (fun i hi=>lset_ne _ _ (by omega))];simp only[flatMap_cons,flatMap_nil,append_nil,lset_same,List.length_nil];have:=flat_most f (k:=t) (fun i hi=>hl i (by omega));omega
  ·have ih:=flat_less f (t:=t) (k:=k) (by omega) (fun i hi=>hl i (by omega));simp only[flatMap_cons,flatMap_nil,append_nil,lset_ne f _ (show k≠t from fun e=>c e.symm)];have:=hl k (by omega);omega
theorem allV_own{t:Nat}(ht:t<T){x:Ent}(h:x∈ow t):x∈allV T sl ow sh:=by
 unfold allV;exact mem_append_right _ (List.mem_append_left _ (List.mem_flatMap.2 ⟨t,List.mem_range.2 ht,h⟩))
theorem allV_sh{x:Ent}(h:x∈sh):x∈allV T sl ow sh:=by
 unfold allV;exact mem_append_right _ (mem_append_right _ h)
theorem View.less{N:Nat}(h:View T s sl ow sh)(ok:QOk K T N s){t:Nat}(ht:t<T){x:Ent}(h1:smal (ow t) x=0)(h2:smal sh x<=K):smal (allV T sl ow sh) x<=T*K+T:=by
 have a1:smal ((List.range T).flatMap sl) x<=T:=by
  refine le_trans (smal_le _ _) ?_;rw[<-h.slots];exact slAll_len s.g T
 have a2:smal ((List.range T).flatMap ow) x+K<=T*K:=by
  rw[smal_perm (flatV_at ow ht) x,smal_app,h1,Nat.zero_add];have:=flat_less (K:=K) ow ht (fun i hi=>by rw[<-h.len hi];exact ok.len i hi);have:=smal_le ((List.range T).flatMap (lset ow t [])) x;omega
 unfold allV;rw[smal_app,smal_app];omega
theorem take1_srt(d:List Ent):Srt (d.take 1):=by
 cases d with
 | nil=>exact Srt.nil
 | cons x d=>simp[Srt]
theorem candL_cases{N:Nat}(h:View T s sl ow sh)(dr:Nat):(sh=[]/\candL s K dr=[])\/∃i,∃hi:i<sh.length,i<=K/\candL s K dr=[sh[i]]:=by
 by_cases c:sh=[]
 ·refine .inl ⟨c,?_⟩;unfold candL;rw[h.sh,c]
  rfl
 ·have hp:0<sh.length:=List.length_pos_iff.2 c;have hl:s.hs.flatten.length=sh.length:=h.hlen;have dn:drawN ((K:Nat):Int) s.hs.flatten.length=min (min K sh.length+1) sh.length:=by unfold drawN;rw[hl,Int.toNat_natCast]
  have d0:0<min (min K sh.length+1) sh.length:=by omega
  have lt:=Nat.mod_lt dr d0;have hi:dr%min (min K sh.length+1) sh.length<sh.length:=by omega
  refine .inr ⟨dr%min (min K sh.length+1) sh.length,hi,by omega,?_⟩;unfold candL;rw[dn,h.sh,List.getElem?_eq_getElem hi];show(if s.hs.flatten.length=0 then [] else _)=_;rw[if_neg (by omega)]
theorem around{t j:Nat}(ht:t<T)(hj:j<T):∃i,i<T/\(t+1+i)%T=j:=by
 by_cases c:t+1<=j
 ·exact⟨j-t-1,by omega,by rw[show t+1+(j-t-1)=j by omega];exact Nat.mod_eq_of_lt hj⟩
 ·exact⟨T+j-t-1,by omega,by rw[show t+1+(T+j-t-1)=T+j by omega,Nat.add_mod_left];exact Nat.mod_eq_of_lt hj⟩
theorem headO_mem{d:List Ent}(h:d≠[]):(headO d).2=true/\(headO d).1∈d:=by
 cases d with
 | nil=>exact absurd rfl h
 | cons x d=>exact⟨rfl,List.mem_cons_self⟩
theorem View.relaxed{N:Nat}(h:View T s sl ow sh)(ok:QOk K T N s){t:Nat}(ht:t<T)(dr:Nat) :
  (allV T sl ow sh=[]/\(relaxQ s T K t dr).2=false)\/(allV T sl ow sh≠[]/\(relaxQ s T K t dr).2=true/\(relaxQ s T K t dr).1∈allV T sl ow sh/\smal (allV T sl ow sh) (relaxQ s T K t dr).1<=T*K+T):=by
 have o1:own1 s t=(ow t).take 1:=by unfold own1;rw[h.ow t ht]
 have cc:=candL_cases (N:=N) (K:=K) h dr
 have li:=leastL_is [own1 s t,candL s K dr] (fun d hd=>by
  simp only[List.mem_cons,List.not_mem_nil,or_false] at hd;rcases hd with rfl|rfl
  ·rw[o1];exact take1_srt _
  ·rcases cc with⟨_,e⟩|⟨i,hi,_,e⟩
   ·rw[e];exact Srt.nil
   ·rw[e];simp[Srt]) 2 (by simp)
 have e2:(List.take 2 [own1 s t,candL s K dr]).flatten=own1 s t++candL s K dr:=by simp
 rw[e2] at li;rcases li with⟨n1,n2⟩|⟨j,x,n1,n2⟩
 ·have u:relaxQ s T K t dr=headO (furtherL s T t):=by
   unfold relaxQ nearQ;rw[n1];rfl
  obtain⟨n3,n4⟩:=List.append_eq_nil_iff.1 n2
  have ot:ow t=[]:=by
   rw[o1] at n3
   cases hw:ow t with
   | nil=>rfl
   | cons y r=>rw[hw] at n3;cases n3
  have sh0:sh=[]:=by
   rcases cc with⟨e,_⟩|⟨i,hi,_,e⟩
   ·exact e
   ·rw[e] at n4;cases n4
  have less:∀x,smal (allV T sl ow sh) x<=T*K+T:=fun x=>h.less ok ht (by rw[ot];rfl) (by rw[sh0];exact Nat.zero_le _);rw[u];have fl:furtherL s T t=match furtherI s T t with|some i=>sortE (s.ls ((t+1+i)%T)).flatten|none=>sortE (slAll s.g T):=rfl
  cases f:furtherI s T t with
  | some i=>
   rw[f] at fl;unfold furtherI at f;rw[List.find?_range_eq_some] at f;have hT:(t+1+i)%T<T:=Nat.mod_lt _ (by omega);have e3:furtherL s T t=ow ((t+1+i)%T):=by rw[fl];exact h.ow _ hT
   have ne:ow ((t+1+i)%T)≠[]:=fun e=>by
    have:=of_decide_eq_true f.1;rw[h.len hT,e] at this;exact absurd this (by simp)
   rw[e3];obtain⟨m1,m2⟩:=headO_mem ne;have m3:(headO (ow ((t+1+i)%T))).1∈allV T sl ow sh:=allV_own hT m2;exact .inr ⟨List.ne_nil_of_mem m3,m1,m3,less _⟩
  | none=>
   rw[f] at fl;unfold furtherI at f;rw[List.find?_eq_none] at f
   have own0:∀j,j<T->ow j=[]:=fun j hj=>by
    obtain⟨i,hi,e⟩:=around ht hj;have:=f i (List.mem_range.2 hi);rw[e,h.len hj] at this;simpa using this
   have e4:(List.range T).flatMap ow=[]:=by rw[flatMap_congr' own0];exact flatN_nil T
   have e5:allV T sl ow sh=slAll s.g T:=by unfold allV;rw[e4,sh0,h.slots];simp
   by_cases c:slAll s.g T=[]
   ·refine .inl ⟨by rw[e5];exact c,?_⟩;have:furtherL s T t=[]:=by rw[fl];show sortE (slAll s.g T)=[];rw[c];exact sortE_nil
    rw[this];rfl
   ·have ne:furtherL s T t≠[]:=fun e=>c (by
     have l:=sortE_len (slAll s.g T);rw[show sortE (slAll s.g T)=furtherL s T t from fl.symm,e] at l;exact List.eq_nil_of_length_eq_zero l.symm)
    obtain⟨m1,m2⟩:=headO_mem ne
    have m3:(headO (furtherL s T t)).1∈allV T sl ow sh:=by
     rw[e5];refine(sortE_perm (slAll s.g T)).mem_iff.1 ?_;rw[show sortE (slAll s.g T)=furtherL s T t from fl.symm];exact m2
    exact .inr ⟨List.ne_nil_of_mem m3,m1,m3,less _⟩
 ·have u:relaxQ s T K t dr=(x,true):=by
   unfold relaxQ nearQ;rw[n1];rfl
  rw[u]
  have m:x∈allV T sl ow sh:=by
   rcases List.mem_append.1 n2.1 with hx|hx
   ·rw[o1] at hx;exact allV_own ht (List.mem_of_mem_take hx)
   ·rcases cc with⟨_,e⟩|⟨i,hi,_,e⟩
    ·rw[e] at hx;cases hx
    ·rw[e] at hx;rw[List.mem_singleton.1 hx];exact allV_sh (List.getElem_mem hi)
  refine .inr ⟨List.ne_nil_of_mem m,rfl,m,h.less ok ht ?_ ?_⟩
  ·cases hw:ow t with
   | nil=>rfl
   | cons y r=>
    have hy:ltE y x=false:=n2.2 y (List.mem_append_left _ (by rw[o1,hw];simp));have:=smal_at (d:=y::r) (by rw[<-hw];exact h.osrt ht) (i:=0) (by simp) (x:=x) hy;exact Nat.le_zero.1 this
  ·rcases cc with⟨e,_⟩|⟨i,hi,hK,e⟩
   ·rw[e];exact Nat.zero_le _
   ·have hy:ltE sh[i] x=false:=n2.2 _ (mem_append_right _ (by rw[e];simp));exact le_trans (smal_at h.ssrt hi hy) hK
end
end Go.Proofs.YthpgfmmpjoodkaaGreatDoor.Qu
