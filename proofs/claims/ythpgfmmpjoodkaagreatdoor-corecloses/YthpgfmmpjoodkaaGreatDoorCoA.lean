import Derived.Test.YthpgfmmpjoodkaaGreatDoorCoT
namespace Go.Proofs.YthpgfmmpjoodkaaGreatDoor
set_option linter.unusedSimpArgs false
set_option maxHeartbeats 8000000
set_option maxRecDepth 100000
set_option linter.unusedVariables false
open Go.RowKit Go.Lib Go.WideMaps Go.Maps Ta
variable {w w' u:World}{L:Nat}{D:CAd}{F:Nat->Nat->Prop}{g v:Value}{σ:CS}
def tellS(σ:CS)(kd t id key:Int):CS:={σ with ev:=σ.ev++[⟨kd,t,id,key,σ.tk,σ.now⟩]}
def STl(B K Bw:Nat)(v:Value)(key id tk:Int)(v0:World):Prop:=v0.cell? ⟨B,5,none⟩=some (.pointer (some ⟨Bw,0,none⟩))/\v0.cell? ⟨B,8,none⟩=some (.int .u64 tk)/\v0.cell? ⟨B,11,none⟩=some v/\v0.cell? ⟨K,0,none⟩=some (.int .u64 key)/\v0.cell? ⟨K,1,none⟩=some (.int .i64 id)
theorem Co.stl(C:Co w L D F g v σ){K:Nat}{key id:Int}(hK:w.heap[K]?=some (.cells #[.int .u64 key,.int .i64 id] 36 (0,0))):STl D.B K D.Bw v key id σ.tk w:=
 ⟨C.c5,C.c8,C.c11,by rw[cell_of_row _ _ _ _ _ _ hK];rfl,by rw[cell_of_row _ _ _ _ _ _ hK];rfl⟩
theorem tell_all(C:Co u L D F g v σ)(hl:σ.ev.length<1000000){K:Nat}{key id:Int}(hK:u.heap[K]?=some (.cells #[.int .u64 key,.int .i64 id] 36 (0,0)))(kd t:Int) :
  ∃a2 L2 c2 w2,(Builtin.append_ #[96,96] 96 #[v,.slice (some ⟨u.heap.size,0,none⟩) 1 1]).run Tryz.prog (u.alloc (.cells #[.int .i64 kd,.int .i64 t,.int .i64 id,.int .u64 key,.int .u64 σ.tk,.int .u64 σ.now] 206))=.ok (.slice a2 L2 c2) w2/\
   STl D.B K D.Bw v key id σ.tk (u.alloc (.cells #[.int .i64 kd,.int .i64 t,.int .i64 id,.int .u64 key,.int .u64 σ.tk,.int .u64 σ.now] 206))/\STl D.B K D.Bw v key id σ.tk w2/\w2.frozen? ⟨D.B,11,none⟩=false/\D.B<w2.heap.size/\
   Cox L D F u (tellS σ kd t id key) (w2.setCell ⟨D.B,11,none⟩ (.slice a2 L2 c2))/\Gq F u (w2.setCell ⟨D.B,11,none⟩ (.slice a2 L2 c2)):=by
 obtain⟨v2,w2,hr,o2,F2,n2⟩:=C.evs.push2 ⟨kd,t,id,key,σ.tk,σ.now⟩ hl C.lw 96;obtain⟨C3,G3⟩:=C.setEv o2 F2 n2;obtain⟨a2,c2,e2,_⟩:=o2.isG;have b1:=belA u (.cells #[.int .i64 kd,.int .i64 t,.int .i64 id,.int .u64 key,.int .u64 σ.tk,.int .u64 σ.now] 206);have eB:w2.heap[D.B]?=u.heap[D.B]?:=F2.block _ (lt_of_block C.head) (fun e=>C.fp.dis 0 6 D.B (by omega) ((C.f0 _).2 rfl) ((C.f6 _).2 e))
 have eK:w2.heap[K]?=u.heap[K]?:=F2.block _ (lt_of_block hK) (fun e=>by
  have:=C.nq (p:=6) (by omega) (by omega) ((C.f6 _).2 e) _ _ _ hK;exact this (.inr (.inr (.inr (.inr rfl)))))
 have hd:=eB.trans C.head;refine⟨a2,_,c2,w2,by rw[<-e2];exact hr,(C.below b1).stl ((b1.block K (lt_of_block hK)).trans hK),⟨?_,?_,?_,?_,?_⟩,?_,lt_of_block hd,?_,fun k hk hF=>?_⟩
 ·rw[cell_of_row _ _ _ _ _ _ hd];rfl
 ·rw[cell_of_row _ _ _ _ _ _ hd];rfl
 ·rw[cell_of_row _ _ _ _ _ _ hd];rfl
 ·rw[cell_of_row _ _ _ _ _ _ (eK.trans hK)];rfl
 ·rw[cell_of_row _ _ _ _ _ _ (eK.trans hK)];rfl
 ·simp[World.frozen?,hd]
 ·rw[<-e2];exact⟨_,_,_,C3,G3⟩
 ·rw[heap_setCell_other _ _ k _ (fun e=>hF 0 (by omega) ((C.f0 k).2 e))];exact F2.block k hk (fun e=>hF 6 (by omega) ((C.f6 k).2 e))
theorem tellC(C:Co w L D F g v σ)(hl:σ.ev.length<1000000)(kd t id key:Int) :
  Calls Tryz.prog 67 #[.pointer (some ⟨D.B,0,none⟩),.int .i64 kd,.int .i64 t,.agg #[.int .u64 key,.int .i64 id]] w fun e w'=>e=.returned (.tuple #[])/\Cox L D F w (tellS σ kd t id key) w'/\Gq F w w':=by
 obtain⟨K,hKS⟩:∃K,w.heap.size=K:=⟨_,rfl⟩;obtain⟨u0,hu0⟩:∃x,w.alloc (.cells #[.int .u64 key,.int .i64 id] 36)=x:=⟨_,rfl⟩;have b0:Below w.heap.size w u0:=by rw[<-hu0];exact belA _ _
 have hK:u0.drew.heap[K]?=some (.cells #[.int .u64 key,.int .i64 id] 36 (0,0)):=by rw[<-hu0,<-hKS];exact heap_alloc_new w _
 have C0:Co u0.drew L D F g v σ:=(C.below b0).drew;obtain⟨a2,L2,c2,w2,r7,s1,s2,f7,lt7,CX,QX⟩:=tell_all C0 hl hK kd t
 have FIN:Aside (Cox L D F w (tellS σ kd t id key) (w2.setCell ⟨D.B,11,none⟩ (.slice a2 L2 c2))/\Gq F w (w2.setCell ⟨D.B,11,none⟩ (.slice a2 L2 c2))):=by
  obtain⟨F',g',v',C',G'⟩:=CX;exact⟨⟨F',g',v',C',(Gc.below F C.lw b0.drew).trans G'⟩,(Gq.below F b0.drew).trans (Gc.below F C.lw b0.drew) QX⟩
 have NW:Aside (Calls Tryz.prog 50 #[.pointer (some ⟨D.Bw,0,none⟩)] u0.drew fun e w'=>e=.returned (.int .u64 σ.now)/\w'=u0.drew):=Wl.now_any C0.whl;have K0:Aside (STl D.B K D.Bw v key id σ.tk u0.drew):=C0.stl hK;have K1:Aside _:=s1;have K2:Aside (STl D.B K D.Bw v key id σ.tk w2):=s2;have R7:Aside _:=r7;have HU:Aside _:=hu0;clear hu0 s1 s2 r7 CX hK C0 C b0;unfold STl at K0 K1 K2;go_enter Tryz.func67,Tryz.ntmps67
 go_upto_region 1 with fail
 rw[HU.out];refine anyE_start (S:=(fun v0=>v0.cell? ⟨D.B,5,none⟩=some (.pointer (some ⟨D.Bw,0,none⟩))/\v0.cell? ⟨D.B,8,none⟩=some (.int .u64 σ.tk)/\v0.cell? ⟨D.B,11,none⟩=some v/\v0.cell? ⟨K,0,none⟩=some (.int .u64 key)/\v0.cell? ⟨K,1,none⟩=some (.int .i64 id))) (L:=25) (by kernel_rfl) ?_;refine anyE_u (i:=0) K0.out rfl (by kernel_rfl) (fun w z=>by go_simp<;>rfl) (fun _ _ _ h=>h) ?_;refine anyE_u (i:=1) K0.out rfl (by kernel_rfl) (fun w z=>by go_simp<;>rfl) (fun _ _ _ h=>h) ?_;refine anyE_u (i:=2) K0.out rfl (by kernel_rfl) (fun w z=>by go_simp<;>rfl) (fun _ _ _ h=>h) ?_;refine anyE_u (i:=3) K0.out rfl (by kernel_rfl) (fun w z=>by go_simp<;>rfl) (fun _ _ _ h=>h) ?_;refine anyE_u (i:=4) K0.out rfl (by kernel_rfl) (fun w z=>by go_simp<;>rfl) (fun _ _ _ h=>h) ?_;refine anyE_u (i:=5) K0.out rfl (by kernel_rfl) (fun w z=>by go_simp<;>rfl) (fun _ _ _ h=>h) ?_;refine anyE_u (i:=6) K0.out rfl (by kernel_rfl) (fun w z=>by go_simp<;>rfl) (fun _ _ _ h=>h) ?_;refine anyE_u (i:=7) K0.out rfl (by kernel_rfl) (fun w z=>by go_simp<;>rfl) (fun _ _ _ h=>h) ?_;refine anyE_u (i:=8) K0.out rfl (by kernel_rfl) (fun w z=>by go_simp<;>rfl) (fun _ _ _ h=>h) ?_;refine anyE_u (i:=9) K0.out rfl (by kernel_rfl) (fun w z=>by go_simp<;>rfl) (fun _ _ _ h=>h) ?_;refine anyE_u (i:=10) K0.out rfl (by kernel_rfl) (fun w z=>by go_simp<;>rfl) (fun _ _ _ h=>h) ?_;refine anyE_u (i:=11) K0.out rfl (by kernel_rfl) (fun w z=>by go_simp<;>rfl) (fun _ _ _ h=>h) ?_;refine anyE_u (i:=12) K0.out rfl (by kernel_rfl) (fun w z=>by go_simp<;>rfl) (fun _ _ _ h=>h) ?_;refine anyE_u (i:=13) K0.out rfl (by kernel_rfl) (fun w z=>by go_simp<;>rfl) (fun _ _ _ h=>h) ?_;refine anyE_u (i:=14) K0.out rfl (by kernel_rfl) (fun w z=>by go_simp<;>rfl) (fun _ _ _ h=>h) ?_;refine anyE_u (i:=15) K0.out rfl (by kernel_rfl) (fun w z=>by go_simp<;>rfl) (fun _ _ _ h=>h) ?_;refine anyE_u (i:=16) K0.out rfl (by kernel_rfl) (fun w z=>by go_simp<;>rfl) (fun _ _ _ h=>h) ?_;refine anyE_u (i:=17) K0.out rfl (by kernel_rfl) (fun w z=>by go_simp<;>rfl) (fun _ _ _ h=>h) ?_;refine anyE_u (i:=18) K0.out rfl (by kernel_rfl) (fun w z=>by go_simp<;>rfl) (fun _ _ _ h=>h) ?_;simp only[Act.put,sA,sB,sC];refine anyE_ready (rs:=[19]) (by kernel_rfl) (by simp) ?_;refine AllE.cons (o:={dst:=some 27,op:=Op.call {callee:=Callee.value (Operand.func 50),args:=#[Operand.tmp 26],argTypes:=#[92]},type:=34,pos:= "core.go:275",after:=#[⟨18,.data⟩],guard:=none}) rfl (fun Kt hKt=>?_) ?_
 ·go_simp
  (with_reducible refine Calls.mono NW.out ?_)
  rintro x_ wc ⟨rfl,rfl⟩;dsimp only;refine hKt.out _ _ (fun _=>K0.out) ?_;clear hKt Kt;try simp only[Act.put,sA,sB,sC]
  refine anyE_u (i:=20) K0.out rfl (by kernel_rfl) (fun w z=>by go_simp<;>rfl) (fun _ _ _ h=>h) ?_;simp only[Act.put,sA,sB,sC];refine anyE_ready (rs:=[21]) (by kernel_rfl) (by simp) ?_;refine AllE.cons rfl (fun Kt hKt=>?_) ?_
  ·go_simp
   try go_wp2_with fail
   refine hKt.out _ _ (fun _=>K1.out) ?_;clear hKt Kt;try simp only[Act.put,sA,sB,sC]
   refine anyE_ready (rs:=[22]) (by kernel_rfl) (by simp) ?_;refine AllE.cons (o:={dst:=some 30,op:=Op.call {callee:=Callee.builtin Builtin.append,args:=#[Operand.tmp 12,Operand.tmp 29],argTypes:=#[96,96]},type:=96,pos:= "core.go:275",after:=#[⟨4,.data⟩,⟨21,.data⟩,⟨19,.chain⟩],guard:=none}) rfl (fun Kt hKt=>?_) ?_
   ·refine step_app _ (by rfl) _ _ 96 96 (by rfl) v (.slice (some ⟨u0.drew.heap.size,0,none⟩) 1 1) (by rfl) (by rfl) (.slice a2 L2 c2) w2 R7.out ?_;refine hKt.out _ _ (fun _=>K2.out) ?_;clear hKt Kt;try simp only[Act.put,sA,sB,sC]
    refine anyF_u [24] (i:=23) K2.out rfl (by kernel_rfl) (fun w z=>by go_simp<;>rfl) (fun _ _ _ h=>h) ?_;refine anyE_u (i:=24) K2.out rfl (by kernel_rfl) (fun w z=>by go_simp<;>rfl) (fun _ _ _ h=>h) ?_;simp only[Act.put,sA,sB,sC];refine anyE_ready (rs:=[25]) (by kernel_rfl) (by simp) ?_;refine AllE.cons rfl (fun Kt hKt=>?_) ?_
    ·obtain⟨k1,_⟩:=K2.out;go_simp
     refine hKt.out _ _ (fun h=>absurd rfl h) ?_;clear hKt Kt;try simp only[Act.put,sA,sB,sC]
     refine anyE_done (by kernel_rfl) ?_ _
     go_wp2_with fail
     go_end0
     exact⟨rfl,FIN.out⟩
    exact AllE.nil
   exact AllE.nil
  exact AllE.nil
 exact AllE.nil
end Go.Proofs.YthpgfmmpjoodkaaGreatDoor
