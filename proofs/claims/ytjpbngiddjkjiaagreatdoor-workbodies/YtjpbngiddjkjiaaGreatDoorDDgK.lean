import Derived.Test.YtjpbngiddjkjiaaGreatDoorA0
import Derived.Test.YtjpbngiddjkjiaaGreatDoorDAnyF
open Go.Proofs.Tryz
namespace Go.Proofs.YtjpbngiddjkjiaaGreatDoor.Da
set_option linter.unusedSimpArgs false
set_option maxHeartbeats 8000000
set_option maxRecDepth 100000
set_option linter.unusedVariables false
open Go.RowKit Go.Lib Go.WideMaps Go.Maps
section
variable {w w':World}{B M0 N N':Nat}{M:Bool->Nat}{fp gp:Int×Int->Option Value}{f:Bool->Int->Option Value}{l:Bool->Int->List Int}{E:Int->Int->Prop}{p i:Int}
def Bx(w:World)(S:Nat)(x y:Int):Prop:=w.heap[S]?=some (.cells #[.int .i64 x,.int .i64 y] 78 (0,0))
theorem Bx.cell{S:Nat}{x y:Int}(h:Bx w S x y):w.cell? ⟨S,0,none⟩=some (.int .i64 x)/\w.cell? ⟨S,1,none⟩=some (.int .i64 y):=by
 refine⟨?_,?_⟩<;>(rw[cell_of_row _ _ _ _ _ _ h];rfl)
theorem Bx.fr{S:Nat}{x y:Int}{X:Nat->Prop}(h:Bx w S x y)(hf:Fr X w w')(hx:¬X S):Bx w' S x y:=(hf.block S (lt_of_block h) hx).trans h
theorem Bx.new(w:World)(x y:Int):Bx (w.alloc (.cells #[.int .i64 x,.int .i64 y] 78)) w.heap.size x y:=heap_alloc_new w _
theorem idx0(w:World)(x y:Int):(Instr.index 78 (.agg #[.int .i64 x,.int .i64 y]) (.int .i64 0)).run prog w=.ok (.int .i64 x) w:=by kernel_rfl
theorem idx1(w:World)(x y:Int):(Instr.index 78 (.agg #[.int .i64 x,.int .i64 y]) (.int .i64 1)).run prog w=.ok (.int .i64 y) w:=by kernel_rfl
theorem part_any(h:DgA w B M0 M fp f l N)(hN:N<=1000000)(I:Inv E fp l)(he:E p i) :
  Calls prog 201 #[.pointer (some ⟨B,0,none⟩),.int .i64 p,.int .i64 i] w fun e w'=>e=.returned (.tuple #[])/\
   ∃fp' f' l',DgA w' B M0 M fp' f' l' N/\Inv (Epart E p i) fp' l'/\Fr (ft B M0 M f) w w'/\∀k,ft B M0 M f' k->ft B M0 M f k:=by
 obtain⟨hp,hi⟩:=I.wf he;obtain⟨a,b,e0,ha,hb⟩:=I.fp p i he;obtain⟨mv1,mv2⟩:=I.moved he ha hb;have al:=(List.getElem?_eq_some_iff.1 ha).1;have bl:=(List.getElem?_eq_some_iff.1 hb).1;obtain⟨S,hS⟩:∃S,w.heap.size=S:=⟨_,rfl⟩;obtain⟨u0,hu0⟩:∃u,w.alloc (.cells #[.int .i64 p,.int .i64 i] 78)=u:=⟨_,rfl⟩;have b0:Below w.heap.size w u0:=by rw[<-hu0];exact(Below.refl _ _).alloc (Nat.le_refl _) _
 have s0:u0.heap.size=S+1:=by rw[<-hu0,<-hS];simp
 have x0:Bx u0 S p i:=by rw[<-hu0,<-hS];exact Bx.new _ _ _
 have D0:=h.below b0;obtain⟨u1,hu1⟩:∃u,(u0.alloc (.cells #[.int .i64 a,.int .i64 b] 78)).drew=u:=⟨_,rfl⟩;have b1:Below u0.heap.size u0 u1:=by rw[<-hu1];exact((Below.refl _ _).alloc (Nat.le_refl _) _).drew
 have s1:u1.heap.size=S+1+1:=by rw[<-hu1,<-s0];simp
 have x1:Bx u1 S p i:=(b1.block S (by omega)).trans x0;have y1:Bx u1 (S+1) a b:=by rw[<-hu1,<-s0];exact Bx.new _ _ _
 have D1:=D0.below b1;have notft:∀k,ft B M0 M f k->k<S:=fun k hk=>by rw[<-hS];exact h.ftLt hk
 have D1d:=D1.drew;obtain⟨n1,q1,hn1⟩:=D1d.mp;obtain⟨u2,n2,hr2,q2,hn2,g2⟩:=q1.drop underlying116 (x:=(p,i)) e0 0
 change (Builtin.delete_ #[116,78] 0 #[.map (some M0),.agg #[.int .i64 p,.int .i64 i]]).run _ _=_ at hr2
 have D2:=D1d.setP q2 (by omega) g2;have F2:Fr (ft B M0 M f) w u2:=((Fr.below b0).trans (Fr.below (X:=ft B M0 M f) b1) (fun j hj=>.inl hj)).drew.trans (Fr.of_grown g2) (fun j hj=>by injection hj with hj;exact .inl (.inr (.inl hj.symm)));have F12:Fr (fun k=>k=M0) u1 u2:=((Fr.refl _ _).drew).trans (Fr.of_grown g2) (fun j hj=>by injection hj with hj;exact .inl hj.symm);have hM0:M0<S:=notft _ (.inr (.inl rfl));have x2:Bx u2 S p i:=x1.fr F12 (by omega);have y2:Bx u2 (S+1) a b:=y1.fr F12 (by omega)
 have K0:Aside (u0.drew.cell? ⟨B,0,none⟩=some (.map (some M0))/\u0.drew.cell? ⟨S,0,none⟩=some (.int .i64 p)/\u0.drew.cell? ⟨S,1,none⟩=some (.int .i64 i)/\(Instr.lookup 116 (.map (some M0)) (.agg #[.int .i64 p,.int .i64 i]) false).run prog u0.drew=.ok (.agg #[.int .i64 a,.int .i64 b]) u0.drew):=
  ⟨D0.drew.cell0.1,x0.cell.1,x0.cell.2,D0.drew.lookP hp hi e0⟩
 have K0a:Aside (∀o:Obj,(u0.drew.alloc o).cell? ⟨B,0,none⟩=some (.map (some M0))/\(u0.drew.alloc o).cell? ⟨S,0,none⟩=some (.int .i64 p)/\(u0.drew.alloc o).cell? ⟨S,1,none⟩=some (.int .i64 i)/\(Instr.lookup 116 (.map (some M0)) (.agg #[.int .i64 p,.int .i64 i]) false).run prog (u0.drew.alloc o)=.ok (.agg #[.int .i64 a,.int .i64 b]) (u0.drew.alloc o)):=fun ob=>by
  have bb:Below u0.drew.heap.size u0.drew (u0.drew.alloc ob):=(Below.refl _ _).alloc (Nat.le_refl _) _;have D:=D0.drew.below bb;have x:Bx (u0.drew.alloc ob) S p i:=(bb.block S (by show S<u0.heap.size;omega)).trans x0;exact⟨D.cell0.1,x.cell.1,x.cell.2,D.lookP hp hi e0⟩
 have K1:Aside (u1.drew.cell? ⟨B,0,none⟩=some (.map (some M0))/\u1.drew.cell? ⟨S,0,none⟩=some (.int .i64 p)/\u1.drew.cell? ⟨S,1,none⟩=some (.int .i64 i)):=⟨D1d.cell0.1,x1.cell.1,x1.cell.2⟩;have ix0:=idx0;have ix1:=idx1;have U0:Hid _:=hu0;have U1:Hid _:=hu1;have R2:Hid _:=hr2;clear hu0 hu1 q1 q2 g2 D0 D1 D1d b0 b1 x0 x1 y1 hn1 hn2 F12 hr2;go_enter func201,ntmps201
 go_upto_region 1 with fail
 rw[U0.out];have hr2:=R2.out;refine anyE_start (S:=(fun v0=>v0.cell? ⟨B,0,none⟩=some (.map (some M0))/\v0.cell? ⟨S,0,none⟩=some (.int .i64 p)/\v0.cell? ⟨S,1,none⟩=some (.int .i64 i)/\(Instr.lookup 116 (.map (some M0)) (.agg #[.int .i64 p,.int .i64 i]) false).run prog v0=.ok (.agg #[.int .i64 a,.int .i64 b]) v0)) (L:=7) (by kernel_rfl) ?_;refine anyE_u (i:=0) K0.out rfl (by kernel_rfl) (fun w z=>by go_simp<;>rfl) (fun _ _ _ h=>h) ?_;refine anyE_u (i:=1) K0.out rfl (by kernel_rfl) (fun w z=>by go_simp<;>rfl) (fun _ _ _ h=>h) ?_;refine anyE_u (i:=2) K0.out rfl (by kernel_rfl) (fun w z=>by go_simp<;>rfl) (fun _ _ _ h=>h) ?_;refine anyE_u (i:=3) K0.out rfl (by kernel_rfl) (fun w z=>by go_simp<;>rfl) (fun _ _ _ h=>h) ?_;refine anyE_u (i:=4) K0.out rfl (by kernel_rfl) (fun w z=>by go_simp<;>rfl) (fun _ _ _ h=>h) ?_;refine anyE_u (i:=5) K0.out rfl (by kernel_rfl) (fun w z=>by go_simp<;>rfl) (fun _ _ _ h=>h) ?_;simp only[Act.put,sA,sB,sC];refine anyE_ready (rs:=[6]) (by kernel_rfl) (by simp) ?_;refine AllE.cons rfl (fun Kt hKt=>?_) ?_
 ·go_simp
  refine hKt.out _ _ (fun _=>K0a.out _) ?_;clear hKt Kt;try simp only[Act.put,sA,sB,sC]
  refine anyE_ready (rs:=[7]) (by kernel_rfl) (by simp) ?_;refine AllE.cons rfl (fun Kt hKt=>?_) ?_
  ·go_simp
   refine hKt.out _ _ (fun h=>absurd rfl h) ?_;clear hKt Kt;try simp only[Act.put,sA,sB,sC]
   refine anyE_done (by kernel_rfl) ?_ _;rw[U1.out];go_upto_region 2 with fail
   refine anyE_start (S:=(fun v0=>v0.cell? ⟨B,0,none⟩=some (.map (some M0))/\v0.cell? ⟨S,0,none⟩=some (.int .i64 p)/\v0.cell? ⟨S,1,none⟩=some (.int .i64 i))) (L:=5) (by kernel_rfl) ?_;refine anyF_u [1,2,3] (i:=0) K1.out rfl (by kernel_rfl) (fun w z=>by go_simp<;>rfl) (fun _ _ _ h=>h) ?_;refine anyF_u [2,3] (i:=1) K1.out rfl (by kernel_rfl) (fun w z=>by go_simp<;>rfl) (fun _ _ _ h=>h) ?_;refine anyF_u [3] (i:=2) K1.out rfl (by kernel_rfl) (fun w z=>by go_simp<;>rfl) (fun _ _ _ h=>h) ?_;refine anyE_u (i:=3) K1.out rfl (by kernel_rfl) (fun w z=>by go_simp<;>rfl) (fun _ _ _ h=>h) ?_;refine anyE_u (i:=4) K1.out rfl (by kernel_rfl) (fun w z=>by go_simp<;>rfl) (fun _ _ _ h=>h) ?_;simp only[Act.put,sA,sB,sC];refine anyE_ready (rs:=[5]) (by kernel_rfl) (by simp) ?_;refine AllE.cons (o:={dst:=none,op:=Op.call {callee:=Callee.builtin Builtin.delete,args:=#[Operand.tmp 24,Operand.tmp 25],argTypes:=#[116,78]},type:=0,pos:= "dag.go:54",after:=#[⟨3,.data⟩,⟨4,.data⟩],guard:=none}) rfl (fun Kt hKt=>?_) ?_
   ·go_simp
    refine hKt.out _ _ (fun h=>absurd rfl h) ?_;clear hKt Kt;try simp only[Act.put,sA,sB,sC]
    refine anyE_done (by kernel_rfl) ?_ _;clear hr2 R2 K0 K0a K1 U0 U1;have L1:=leave_any D2.drew hN true p a al;obtain⟨X,hX⟩:∃X,lastI (l true p)=X:=⟨_,rfl⟩;obtain⟨o1,ho1⟩:∃o1,decide (a≠(l true p).length-1)=o1:=⟨_,rfl⟩;rw[hX,ho1] at L1;have LV1:Aside (Calls _ _ _ _ _):=L1;have K3:Aside (u2.drew.cell? ⟨B,1,none⟩=some (.map (some (M true)))/\u2.drew.cell? ⟨S+1,0,none⟩=some (.int .i64 a)):=⟨D2.cell0.2.1,y2.cell.1⟩;have HX:Hid _:=hX;have HO1:Hid _:=ho1;clear L1 hX ho1;go_upto_region 3 with fail
    refine wp_region_held_drew (S:=(fun v0=>v0.cell? ⟨B,1,none⟩=some (.map (some (M true)))/\v0.cell? ⟨S+1,0,none⟩=some (.int .i64 a))) (by kernel_rfl) (K3.out) (fun hHeld=>?_);refine anyH_u (i:=0) (by assumption) rfl (by kernel_rfl) (fun w z=>by go_simp<;>rfl) (fun _ _ _ h=>h) ?_;refine anyH_u (i:=1) (by assumption) rfl (by kernel_rfl) (fun w z=>by go_simp<;>rfl) (fun _ _ _ h=>h) ?_;refine anyH_u (i:=2) (by assumption) rfl (by kernel_rfl) (fun w z=>by go_simp<;>rfl) (fun _ _ _ h=>h) ?_;refine anyH_u (i:=3) (by assumption) rfl (by kernel_rfl) (fun w z=>by go_simp<;>rfl) (fun _ _ _ h=>h) ?_;refine anyH_u (i:=4) (by assumption) rfl (by kernel_rfl) (fun w z=>by go_simp<;>rfl) (fun _ _ _ h=>h) ?_;refine anyH_u (i:=5) (by assumption) rfl (by kernel_rfl) (fun w z=>by go_simp<;>rfl) (fun _ _ _ h=>h) ?_;refine anyH_u (i:=6) (by assumption) rfl (by kernel_rfl) (fun w z=>by go_simp<;>rfl) (fun _ _ _ h=>h) ?_;simp only[Act.put,sA,sB,sC];refine wpAnyH_ready (rs:=[7]) (by kernel_rfl) (by simp) ?_;refine AllReadyH.cons (o:={dst:=some 34,op:=Op.call {callee:=Callee.value (Operand.func 238),args:=#[Operand.tmp 30,Operand.tmp 31,Operand.tmp 33],argTypes:=#[117,3,3]},type:=252,pos:= "dag.go:55",after:=#[⟨3,.data⟩,⟨4,.data⟩,⟨6,.data⟩],guard:=none}) rfl (fun Kt hKt=>?_) AllReadyH.nil;go_simp
    (with_reducible refine Calls.mono LV1.out ?_)
    rintro x_ v3 ⟨rfl,f3,D3,G3,T3⟩;have v3y:Bx v3 (S+1) a b:=Bx.fr (w:=u2.drew) y2 G3 (fun hk=>by have:=notft _ hk;omega);have F3:Fr (ft B M0 M f) w v3:=F2.drew.trans G3 (fun j hj=>.inl hj);clear G3
    go_wp2_with fail
    refine hKt.out _ _ (⟨D3.cell0.2.1,v3y.cell.1⟩) (fun hHeld=>?_);clear hKt Kt;try simp only[Act.put,sA,sB,sC]
    refine anyH_u (i:=8) (by assumption) rfl (by kernel_rfl) (fun w z=>by go_simp<;>rfl) (fun _ _ _ h=>h) ?_;refine anyH_u (i:=9) (by assumption) rfl (by kernel_rfl) (fun w z=>by go_simp<;>rfl) (fun _ _ _ h=>h) ?_;refine anyH_u (i:=10) (by assumption) rfl (by kernel_rfl) (fun w z=>by go_simp<;>rfl) (fun _ _ _ h=>h) ?_;refine anyH_u (i:=11) (by assumption) rfl (by kernel_rfl) (fun w z=>by go_simp<;>rfl) (fun _ _ _ h=>h) ?_;refine anyH_u (i:=12) (by assumption) rfl (by kernel_rfl) (fun w z=>by go_simp<;>rfl) (fun _ _ _ h=>h) ?_;simp only[Act.put,sA,sB,sC];refine wpAnyH_done (by kernel_rfl) ?_ _;clear hHeld LV1 K3 D2 y2 x2 F2
    cases o1
    ·obtain⟨f1,hf1⟩:∃x,x=fdel fp (p,i):=⟨_,rfl⟩;rw[<-hf1] at D3;have H1:Aside ((a=(l true p).length-1/\f1=fdel fp (p,i))\/(a≠(l true p).length-1/\∃b1':Nat,(l false (lastI (l true p)))[b1']?=some p/\f1=fput (fdel fp (p,i)) (p,lastI (l true p)) (prV (a,b1')))):=.inl ⟨Decidable.not_not.1 (of_decide_eq_false HO1.out),hf1⟩
     have F1e:Aside (∀(a2:Nat),lastI (l false i)≠p->fp (lastI (l false i),i)=some (prV (a2,((l false i).length-1:Nat)))->f1 (lastI (l false i),i)=some (prV (a2,((l false i).length-1:Nat)))):=fun a2 ne h=>by
      rw[hf1];unfold fdel;rw[if_neg (fun e=>by injection e with e1 e2;exact ne e1)];exact h
     clear hf1;have L2:=leave_any D3.drew hN false i b (by rw[lset_tf];exact bl);rw[lset_tf] at L2;obtain⟨Y,hY⟩:∃Y,lastI (l false i)=Y:=⟨_,rfl⟩;obtain⟨o2,ho2⟩:∃o2,decide (b≠(l false i).length-1)=o2:=⟨_,rfl⟩;rw[hY,ho2] at L2;have LV2:Aside (Calls _ _ _ _ _):=L2;have K6:Aside (v3.drew.cell? ⟨B,2,none⟩=some (.map (some (M false)))/\v3.drew.cell? ⟨S+1,1,none⟩=some (.int .i64 b)):=⟨D3.cell0.2.2,v3y.cell.2⟩;have HY:Hid _:=hY;have HO2:Hid _:=ho2;clear L2 hY ho2;go_upto_region 6 with fail
     refine wp_region_held_drew (S:=(fun v0=>v0.cell? ⟨B,2,none⟩=some (.map (some (M false)))/\v0.cell? ⟨S+1,1,none⟩=some (.int .i64 b))) (by kernel_rfl) (K6.out) (fun hHeld=>?_);refine anyH_u (i:=0) (by assumption) rfl (by kernel_rfl) (fun w z=>by go_simp<;>rfl) (fun _ _ _ h=>h) ?_;refine anyH_u (i:=1) (by assumption) rfl (by kernel_rfl) (fun w z=>by go_simp<;>rfl) (fun _ _ _ h=>h) ?_;refine anyH_u (i:=2) (by assumption) rfl (by kernel_rfl) (fun w z=>by go_simp<;>rfl) (fun _ _ _ h=>h) ?_;refine anyH_u (i:=3) (by assumption) rfl (by kernel_rfl) (fun w z=>by go_simp<;>rfl) (fun _ _ _ h=>h) ?_;refine anyH_u (i:=4) (by assumption) rfl (by kernel_rfl) (fun w z=>by go_simp<;>rfl) (fun _ _ _ h=>h) ?_;refine anyH_u (i:=5) (by assumption) rfl (by kernel_rfl) (fun w z=>by go_simp<;>rfl) (fun _ _ _ h=>h) ?_;refine anyH_u (i:=6) (by assumption) rfl (by kernel_rfl) (fun w z=>by go_simp<;>rfl) (fun _ _ _ h=>h) ?_;simp only[Act.put,sA,sB,sC];refine wpAnyH_ready (rs:=[7]) (by kernel_rfl) (by simp) ?_;refine AllReadyH.cons (o:={dst:=some 65,op:=Op.call {callee:=Callee.value (Operand.func 238),args:=#[Operand.tmp 61,Operand.tmp 62,Operand.tmp 64],argTypes:=#[117,3,3]},type:=252,pos:= "dag.go:58",after:=#[⟨3,.data⟩,⟨4,.data⟩,⟨6,.data⟩],guard:=none}) rfl (fun Kt hKt=>?_) AllReadyH.nil;go_simp
     (with_reducible refine Calls.mono LV2.out ?_)
     rintro x_ v5 ⟨rfl,f5,D5,G5,T5'⟩;have y5:Bx v5 (S+1) a b:=Bx.fr (w:=v3.drew) v3y G5 (fun hk=>by have:=notft _ (T3 _ hk);omega);have F5:Aside (Fr (ft B M0 M f) w v5):=F3.drew.trans G5 (fun j hj=>.inl (T3 j hj));have T5:Aside (∀k,ft B M0 M f5 k->ft B M0 M f k):=fun k hk=>T3 k (T5' k hk);clear G5 T5'
     go_wp2_with fail
     refine hKt.out _ _ (⟨D5.cell0.2.2,y5.cell.2⟩) (fun hHeld=>?_);clear hKt Kt;try simp only[Act.put,sA,sB,sC]
     refine anyH_u (i:=8) (by assumption) rfl (by kernel_rfl) (fun w z=>by go_simp<;>rfl) (fun _ _ _ h=>h) ?_;refine anyH_u (i:=9) (by assumption) rfl (by kernel_rfl) (fun w z=>by go_simp<;>rfl) (fun _ _ _ h=>h) ?_;refine anyH_u (i:=10) (by assumption) rfl (by kernel_rfl) (fun w z=>by go_simp<;>rfl) (fun _ _ _ h=>h) ?_;refine anyH_u (i:=11) (by assumption) rfl (by kernel_rfl) (fun w z=>by go_simp<;>rfl) (fun _ _ _ h=>h) ?_;refine anyH_u (i:=12) (by assumption) rfl (by kernel_rfl) (fun w z=>by go_simp<;>rfl) (fun _ _ _ h=>h) ?_;simp only[Act.put,sA,sB,sC];refine wpAnyH_done (by kernel_rfl) ?_ _;clear hHeld LV2 K6
     cases o2
     ·have FIN:Aside (∃fp' f' l',DgA v5 B M0 M fp' f' l' N/\Inv (Epart E p i) fp' l'/\Fr (ft B M0 M f) w v5/\∀k,ft B M0 M f' k->ft B M0 M f k):=
       ⟨_,_,_,D5,I.part he ha hb H1.out (.inl ⟨Decidable.not_not.1 (of_decide_eq_false HO2.out),rfl⟩),F5.out,T5.out⟩
      clear D5 y5
      go_wp2
      go_end0
      exact⟨rfl,FIN.out⟩
     ·obtain⟨a2,ne2,E2,P2,A2⟩:=mv2 (of_decide_eq_true HO2.out);have D5d:=D5.drew;have P2':f1 (Y,i)=some (prV (a2,((l false i).length-1:Nat))):=by rw[<-HY.out];exact F1e.out a2 ne2 P2
      obtain⟨LY,hLY⟩:∃z:Int,((((l false i).length-1:Nat)):Int)=z:=⟨_,rfl⟩;rw[hLY] at P2';have wY:wfI Y:=by rw[<-HY.out];exact(I.wf E2).1
      obtain⟨n6,q6,hn6⟩:=D5d.mp;obtain⟨v6,m6,hr6,q6',hm6,g6⟩:=q6.store underlying116 (by omega) (x:=(Y,i)) ⟨wY,hi⟩ (prV (a2,b));rw[P2'] at hm6;have hm6:m6=n6:=by simpa using hm6
      change (Instr.mapUpdate 116 (.map (some M0)) (.agg #[.int .i64 Y,.int .i64 i]) (.agg #[.int .i64 a2,.int .i64 b])).run _ _=_ at hr6
      have D6:=D5d.setP q6' (by omega) g6;have F6:Fr (ft B M0 M f) w v6:=F5.out.drew.trans (Fr.of_grown g6) (fun j hj=>by injection hj with hj;exact .inl (.inr (.inl hj.symm)));have K8:Aside (v5.drew.cell? ⟨B,0,none⟩=some (.map (some M0))/\v5.drew.cell? ⟨S+1,1,none⟩=some (.int .i64 b)/\(Instr.lookup 116 (.map (some M0)) (.agg #[.int .i64 Y,.int .i64 i]) false).run prog v5.drew=.ok (.agg #[.int .i64 a2,.int .i64 LY]) v5.drew):=⟨D5d.cell0.1,y5.cell.2,D5d.lookP wY hi P2'⟩
      have FIN:Aside (∃fp' f' l',DgA v6 B M0 M fp' f' l' N/\Inv (Epart E p i) fp' l'/\Fr (ft B M0 M f) w v6/\∀k,ft B M0 M f' k->ft B M0 M f k):=
       ⟨_,_,_,D6,I.part he ha hb H1.out (.inr ⟨of_decide_eq_true HO2.out,a2,A2,by rw[HY.out]⟩),F6,T5.out⟩
      clear D5d q6 q6' g6 D6 F6 P2' hm6 hn6 hLY;go_upto_region 8 with fail
      refine anyE_start (S:=(fun v0=>v0.cell? ⟨B,0,none⟩=some (.map (some M0))/\v0.cell? ⟨S+1,1,none⟩=some (.int .i64 b)/\(Instr.lookup 116 (.map (some M0)) (.agg #[.int .i64 Y,.int .i64 i]) false).run prog v0=.ok (.agg #[.int .i64 a2,.int .i64 LY]) v0)) (L:=19) (by kernel_rfl) ?_;refine anyE_u (i:=0) K8.out rfl (by kernel_rfl) (fun w z=>by go_simp<;>rfl) (fun _ _ _ h=>h) ?_;refine anyE_u (i:=1) K8.out rfl (by kernel_rfl) (fun w z=>by go_simp<;>rfl) (fun _ _ _ h=>h) ?_;refine anyE_u (i:=2) K8.out rfl (by kernel_rfl) (fun w z=>by go_simp<;>rfl) (fun _ _ _ h=>h) ?_;refine anyE_u (i:=3) K8.out rfl (by kernel_rfl) (fun w z=>by go_simp<;>rfl) (fun _ _ _ h=>h) ?_;refine anyE_u (i:=4) K8.out rfl (by kernel_rfl) (fun w z=>by go_simp<;>rfl) (fun _ _ _ h=>h) ?_;refine anyE_u (i:=5) K8.out rfl (by kernel_rfl) (fun w z=>by go_simp<;>rfl) (fun _ _ _ h=>h) ?_;refine anyE_u (i:=6) K8.out rfl (by kernel_rfl) (fun w z=>by go_simp<;>rfl) (fun _ _ _ h=>h) ?_;refine anyE_u (i:=7) K8.out rfl (by kernel_rfl) (fun w z=>by go_simp<;>rfl) (fun _ _ _ h=>h) ?_;refine anyE_u (i:=8) K8.out rfl (by kernel_rfl) (fun w z=>by go_simp<;>rfl) (fun _ _ _ h=>h) ?_;refine anyE_u (i:=9) K8.out rfl (by kernel_rfl) (fun w z=>by go_simp<;>rfl) (fun _ _ _ h=>h) ?_;refine anyE_u (i:=10) K8.out rfl (by kernel_rfl) (fun w z=>by go_simp<;>rfl) (fun _ _ _ h=>h) ?_;refine anyE_u (i:=11) K8.out rfl (by kernel_rfl) (fun w z=>by go_simp<;>rfl) (fun _ _ _ h=>h) ?_;refine anyE_u (i:=12) K8.out rfl (by kernel_rfl) (fun w z=>by go_simp<;>rfl) (fun _ _ _ h=>h) ?_;refine anyE_u (i:=13) K8.out rfl (by kernel_rfl) (fun w z=>by go_simp<;>rfl) (fun _ _ _ h=>h) ?_;refine anyE_u (i:=14) K8.out rfl (by kernel_rfl) (fun w z=>by go_simp<;>rfl) (fun _ _ _ h=>h) ?_;refine anyE_u (i:=15) K8.out rfl (by kernel_rfl) (fun w z=>by go_simp<;>rfl) (fun _ _ _ h=>h) ?_;refine anyE_u (i:=16) K8.out rfl (by kernel_rfl) (fun w z=>by go_simp<;>rfl) (fun _ _ _ h=>h) ?_;refine anyE_u (i:=17) K8.out rfl (by kernel_rfl) (fun w z=>by go_simp<;>rfl) (fun _ _ _ h=>h) ?_;refine anyE_u (i:=18) K8.out rfl (by kernel_rfl) (fun w z=>by go_simp<;>rfl) (fun _ _ _ h=>h) ?_;simp only[Act.put,sA,sB,sC];refine anyE_ready (rs:=[19]) (by kernel_rfl) (by simp) ?_;refine AllE.cons rfl (fun Kt hKt=>?_) ?_
      ·go_simp
       refine hKt.out _ _ (fun h=>absurd rfl h) ?_;clear hKt Kt;try simp only[Act.put,sA,sB,sC]
       refine anyE_done (by kernel_rfl) ?_ _
       go_wp2
       go_end0
       exact⟨rfl,FIN.out⟩
      exact AllE.nil
    ·obtain⟨b1,ne1,E1,P1,A1⟩:=mv1 (of_decide_eq_true HO1.out);have D3d:=D3.drew
     have P1':fdel fp (p,i) (p,X)=some (prV (((l true p).length-1:Nat),b1)):=by
      rw[<-HX.out];unfold fdel;rw[if_neg (fun e=>by injection e with e1 e2;exact ne1 e2)];exact P1
     obtain⟨LX,hLX⟩:∃z:Int,((((l true p).length-1:Nat)):Int)=z:=⟨_,rfl⟩;rw[hLX] at P1';have wX:wfI X:=by rw[<-HX.out];exact(I.wf E1).2
     obtain⟨n4,q4,hn4⟩:=D3d.mp;obtain⟨v4,m4,hr4,q4',hm4,g4⟩:=q4.store underlying116 (by omega) (x:=(p,X)) ⟨hp,wX⟩ (prV (a,b1));rw[P1'] at hm4;have hm4:m4=n4:=by simpa using hm4
     change (Instr.mapUpdate 116 (.map (some M0)) (.agg #[.int .i64 p,.int .i64 X]) (.agg #[.int .i64 a,.int .i64 b1])).run _ _=_ at hr4
     have D4:=D3d.setP q4' (by omega) g4;have F34:Fr (fun k=>k=M0) v3 v4:=((Fr.refl _ _).drew).trans (Fr.of_grown g4) (fun j hj=>by injection hj with hj;exact .inl hj.symm);have v4y:Bx v4 (S+1) a b:=v3y.fr F34 (by omega);have F4:Fr (ft B M0 M f) w v4:=F3.trans F34 (fun j hj=>.inl (.inr (.inl hj)));have K5:Aside (v3.drew.cell? ⟨B,0,none⟩=some (.map (some M0))/\v3.drew.cell? ⟨S+1,0,none⟩=some (.int .i64 a)/\(Instr.lookup 116 (.map (some M0)) (.agg #[.int .i64 p,.int .i64 X]) false).run prog v3.drew=.ok (.agg #[.int .i64 LX,.int .i64 b1]) v3.drew):=⟨D3d.cell0.1,v3y.cell.1,D3d.lookP hp wX P1'⟩;obtain⟨f1,hf1⟩:∃x,x=(fput (fdel fp (p,i)) (p,X) (prV (a,b1))):=⟨_,rfl⟩;rw[<-hf1] at D4;have H1:Aside ((a=(l true p).length-1/\f1=fdel fp (p,i))\/(a≠(l true p).length-1/\∃b1':Nat,(l false (lastI (l true p)))[b1']?=some p/\f1=fput (fdel fp (p,i)) (p,lastI (l true p)) (prV (a,b1')))):=.inr ⟨of_decide_eq_true HO1.out,b1,A1,by rw[HX.out];exact hf1⟩
     have F1e:Aside (∀(a2:Nat),lastI (l false i)≠p->fp (lastI (l false i),i)=some (prV (a2,((l false i).length-1:Nat)))->f1 (lastI (l false i),i)=some (prV (a2,((l false i).length-1:Nat)))):=fun a2 ne h=>by
      rw[hf1];unfold fput fdel;rw[if_neg (fun e=>by injection e with e1 e2;exact ne e1),if_neg (fun e=>by injection e with e1 e2;exact ne e1)];exact h
     clear D3d q4 q4' g4 F34 hm4 hn4 hLX D3 P1' hf1;go_upto_region 5 with fail
     refine anyE_start (S:=(fun v0=>v0.cell? ⟨B,0,none⟩=some (.map (some M0))/\v0.cell? ⟨S+1,0,none⟩=some (.int .i64 a)/\(Instr.lookup 116 (.map (some M0)) (.agg #[.int .i64 p,.int .i64 X]) false).run prog v0=.ok (.agg #[.int .i64 LX,.int .i64 b1]) v0)) (L:=19) (by kernel_rfl) ?_;refine anyE_u (i:=0) K5.out rfl (by kernel_rfl) (fun w z=>by go_simp<;>rfl) (fun _ _ _ h=>h) ?_;refine anyE_u (i:=1) K5.out rfl (by kernel_rfl) (fun w z=>by go_simp<;>rfl) (fun _ _ _ h=>h) ?_;refine anyE_u (i:=2) K5.out rfl (by kernel_rfl) (fun w z=>by go_simp<;>rfl) (fun _ _ _ h=>h) ?_;refine anyE_u (i:=3) K5.out rfl (by kernel_rfl) (fun w z=>by go_simp<;>rfl) (fun _ _ _ h=>h) ?_;refine anyE_u (i:=4) K5.out rfl (by kernel_rfl) (fun w z=>by go_simp<;>rfl) (fun _ _ _ h=>h) ?_;refine anyE_u (i:=5) K5.out rfl (by kernel_rfl) (fun w z=>by go_simp<;>rfl) (fun _ _ _ h=>h) ?_;refine anyE_u (i:=6) K5.out rfl (by kernel_rfl) (fun w z=>by go_simp<;>rfl) (fun _ _ _ h=>h) ?_;refine anyE_u (i:=7) K5.out rfl (by kernel_rfl) (fun w z=>by go_simp<;>rfl) (fun _ _ _ h=>h) ?_;refine anyE_u (i:=8) K5.out rfl (by kernel_rfl) (fun w z=>by go_simp<;>rfl) (fun _ _ _ h=>h) ?_;refine anyE_u (i:=9) K5.out rfl (by kernel_rfl) (fun w z=>by go_simp<;>rfl) (fun _ _ _ h=>h) ?_;refine anyE_u (i:=10) K5.out rfl (by kernel_rfl) (fun w z=>by go_simp<;>rfl) (fun _ _ _ h=>h) ?_;refine anyE_u (i:=11) K5.out rfl (by kernel_rfl) (fun w z=>by go_simp<;>rfl) (fun _ _ _ h=>h) ?_;refine anyE_u (i:=12) K5.out rfl (by kernel_rfl) (fun w z=>by go_simp<;>rfl) (fun _ _ _ h=>h) ?_;refine anyE_u (i:=13) K5.out rfl (by kernel_rfl) (fun w z=>by go_simp<;>rfl) (fun _ _ _ h=>h) ?_;refine anyE_u (i:=14) K5.out rfl (by kernel_rfl) (fun w z=>by go_simp<;>rfl) (fun _ _ _ h=>h) ?_;refine anyE_u (i:=15) K5.out rfl (by kernel_rfl) (fun w z=>by go_simp<;>rfl) (fun _ _ _ h=>h) ?_;refine anyE_u (i:=16) K5.out rfl (by kernel_rfl) (fun w z=>by go_simp<;>rfl) (fun _ _ _ h=>h) ?_;refine anyE_u (i:=17) K5.out rfl (by kernel_rfl) (fun w z=>by go_simp<;>rfl) (fun _ _ _ h=>h) ?_;refine anyE_u (i:=18) K5.out rfl (by kernel_rfl) (fun w z=>by go_simp<;>rfl) (fun _ _ _ h=>h) ?_;simp only[Act.put,sA,sB,sC];refine anyE_ready (rs:=[19]) (by kernel_rfl) (by simp) ?_;refine AllE.cons rfl (fun Kt hKt=>?_) ?_
     ·go_simp
      refine hKt.out _ _ (fun h=>absurd rfl h) ?_;clear hKt Kt;try simp only[Act.put,sA,sB,sC]
      refine anyE_done (by kernel_rfl) ?_ _;clear hr4 K5;have L2:=leave_any D4.drew hN false i b (by rw[lset_tf];exact bl);rw[lset_tf] at L2;obtain⟨Y,hY⟩:∃Y,lastI (l false i)=Y:=⟨_,rfl⟩;obtain⟨o2,ho2⟩:∃o2,decide (b≠(l false i).length-1)=o2:=⟨_,rfl⟩;rw[hY,ho2] at L2;have LV2:Aside (Calls _ _ _ _ _):=L2;have K6:Aside (v4.drew.cell? ⟨B,2,none⟩=some (.map (some (M false)))/\v4.drew.cell? ⟨S+1,1,none⟩=some (.int .i64 b)):=⟨D4.cell0.2.2,v4y.cell.2⟩;have HY:Hid _:=hY;have HO2:Hid _:=ho2;clear L2 hY ho2;go_upto_region 6 with fail
      refine wp_region_held_drew (S:=(fun v0=>v0.cell? ⟨B,2,none⟩=some (.map (some (M false)))/\v0.cell? ⟨S+1,1,none⟩=some (.int .i64 b))) (by kernel_rfl) (K6.out) (fun hHeld=>?_);refine anyH_u (i:=0) (by assumption) rfl (by kernel_rfl) (fun w z=>by go_simp<;>rfl) (fun _ _ _ h=>h) ?_;refine anyH_u (i:=1) (by assumption) rfl (by kernel_rfl) (fun w z=>by go_simp<;>rfl) (fun _ _ _ h=>h) ?_;refine anyH_u (i:=2) (by assumption) rfl (by kernel_rfl) (fun w z=>by go_simp<;>rfl) (fun _ _ _ h=>h) ?_;refine anyH_u (i:=3) (by assumption) rfl (by kernel_rfl) (fun w z=>by go_simp<;>rfl) (fun _ _ _ h=>h) ?_;refine anyH_u (i:=4) (by assumption) rfl (by kernel_rfl) (fun w z=>by go_simp<;>rfl) (fun _ _ _ h=>h) ?_;refine anyH_u (i:=5) (by assumption) rfl (by kernel_rfl) (fun w z=>by go_simp<;>rfl) (fun _ _ _ h=>h) ?_;refine anyH_u (i:=6) (by assumption) rfl (by kernel_rfl) (fun w z=>by go_simp<;>rfl) (fun _ _ _ h=>h) ?_;simp only[Act.put,sA,sB,sC];refine wpAnyH_ready (rs:=[7]) (by kernel_rfl) (by simp) ?_;refine AllReadyH.cons (o:={dst:=some 65,op:=Op.call {callee:=Callee.value (Operand.func 238),args:=#[Operand.tmp 61,Operand.tmp 62,Operand.tmp 64],argTypes:=#[117,3,3]},type:=252,pos:= "dag.go:58",after:=#[⟨3,.data⟩,⟨4,.data⟩,⟨6,.data⟩],guard:=none}) rfl (fun Kt hKt=>?_) AllReadyH.nil;go_simp
      (with_reducible refine Calls.mono LV2.out ?_)
      rintro x_ v5 ⟨rfl,f5,D5,G5,T5'⟩;have y5:Bx v5 (S+1) a b:=Bx.fr (w:=v4.drew) v4y G5 (fun hk=>by have:=notft _ (T3 _ hk);omega);have F5:Aside (Fr (ft B M0 M f) w v5):=F4.drew.trans G5 (fun j hj=>.inl (T3 j hj));have T5:Aside (∀k,ft B M0 M f5 k->ft B M0 M f k):=fun k hk=>T3 k (T5' k hk);clear G5 T5'
      go_wp2_with fail
      refine hKt.out _ _ (⟨D5.cell0.2.2,y5.cell.2⟩) (fun hHeld=>?_);clear hKt Kt;try simp only[Act.put,sA,sB,sC]
      refine anyH_u (i:=8) (by assumption) rfl (by kernel_rfl) (fun w z=>by go_simp<;>rfl) (fun _ _ _ h=>h) ?_;refine anyH_u (i:=9) (by assumption) rfl (by kernel_rfl) (fun w z=>by go_simp<;>rfl) (fun _ _ _ h=>h) ?_;refine anyH_u (i:=10) (by assumption) rfl (by kernel_rfl) (fun w z=>by go_simp<;>rfl) (fun _ _ _ h=>h) ?_;refine anyH_u (i:=11) (by assumption) rfl (by kernel_rfl) (fun w z=>by go_simp<;>rfl) (fun _ _ _ h=>h) ?_;refine anyH_u (i:=12) (by assumption) rfl (by kernel_rfl) (fun w z=>by go_simp<;>rfl) (fun _ _ _ h=>h) ?_;simp only[Act.put,sA,sB,sC];refine wpAnyH_done (by kernel_rfl) ?_ _;clear hHeld LV2 K6
      cases o2
      ·have FIN:Aside (∃fp' f' l',DgA v5 B M0 M fp' f' l' N/\Inv (Epart E p i) fp' l'/\Fr (ft B M0 M f) w v5/\∀k,ft B M0 M f' k->ft B M0 M f k):=
        ⟨_,_,_,D5,I.part he ha hb H1.out (.inl ⟨Decidable.not_not.1 (of_decide_eq_false HO2.out),rfl⟩),F5.out,T5.out⟩
       clear D5 y5
       go_wp2
       go_end0
       exact⟨rfl,FIN.out⟩
      ·obtain⟨a2,ne2,E2,P2,A2⟩:=mv2 (of_decide_eq_true HO2.out);have D5d:=D5.drew;have P2':f1 (Y,i)=some (prV (a2,((l false i).length-1:Nat))):=by rw[<-HY.out];exact F1e.out a2 ne2 P2
       obtain⟨LY,hLY⟩:∃z:Int,((((l false i).length-1:Nat)):Int)=z:=⟨_,rfl⟩;rw[hLY] at P2';have wY:wfI Y:=by rw[<-HY.out];exact(I.wf E2).1
       obtain⟨n6,q6,hn6⟩:=D5d.mp;obtain⟨v6,m6,hr6,q6',hm6,g6⟩:=q6.store underlying116 (by omega) (x:=(Y,i)) ⟨wY,hi⟩ (prV (a2,b));rw[P2'] at hm6;have hm6:m6=n6:=by simpa using hm6
       change (Instr.mapUpdate 116 (.map (some M0)) (.agg #[.int .i64 Y,.int .i64 i]) (.agg #[.int .i64 a2,.int .i64 b])).run _ _=_ at hr6
       have D6:=D5d.setP q6' (by omega) g6;have F6:Fr (ft B M0 M f) w v6:=F5.out.drew.trans (Fr.of_grown g6) (fun j hj=>by injection hj with hj;exact .inl (.inr (.inl hj.symm)));have K8:Aside (v5.drew.cell? ⟨B,0,none⟩=some (.map (some M0))/\v5.drew.cell? ⟨S+1,1,none⟩=some (.int .i64 b)/\(Instr.lookup 116 (.map (some M0)) (.agg #[.int .i64 Y,.int .i64 i]) false).run prog v5.drew=.ok (.agg #[.int .i64 a2,.int .i64 LY]) v5.drew):=⟨D5d.cell0.1,y5.cell.2,D5d.lookP wY hi P2'⟩
       have FIN:Aside (∃fp' f' l',DgA v6 B M0 M fp' f' l' N/\Inv (Epart E p i) fp' l'/\Fr (ft B M0 M f) w v6/\∀k,ft B M0 M f' k->ft B M0 M f k):=
        ⟨_,_,_,D6,I.part he ha hb H1.out (.inr ⟨of_decide_eq_true HO2.out,a2,A2,by rw[HY.out]⟩),F6,T5.out⟩
       clear D5d q6 q6' g6 D6 F6 P2' hm6 hn6 hLY;go_upto_region 8 with fail
       refine anyE_start (S:=(fun v0=>v0.cell? ⟨B,0,none⟩=some (.map (some M0))/\v0.cell? ⟨S+1,1,none⟩=some (.int .i64 b)/\(Instr.lookup 116 (.map (some M0)) (.agg #[.int .i64 Y,.int .i64 i]) false).run prog v0=.ok (.agg #[.int .i64 a2,.int .i64 LY]) v0)) (L:=19) (by kernel_rfl) ?_;refine anyE_u (i:=0) K8.out rfl (by kernel_rfl) (fun w z=>by go_simp<;>rfl) (fun _ _ _ h=>h) ?_;refine anyE_u (i:=1) K8.out rfl (by kernel_rfl) (fun w z=>by go_simp<;>rfl) (fun _ _ _ h=>h) ?_;refine anyE_u (i:=2) K8.out rfl (by kernel_rfl) (fun w z=>by go_simp<;>rfl) (fun _ _ _ h=>h) ?_;refine anyE_u (i:=3) K8.out rfl (by kernel_rfl) (fun w z=>by go_simp<;>rfl) (fun _ _ _ h=>h) ?_;refine anyE_u (i:=4) K8.out rfl (by kernel_rfl) (fun w z=>by go_simp<;>rfl) (fun _ _ _ h=>h) ?_;refine anyE_u (i:=5) K8.out rfl (by kernel_rfl) (fun w z=>by go_simp<;>rfl) (fun _ _ _ h=>h) ?_;refine anyE_u (i:=6) K8.out rfl (by kernel_rfl) (fun w z=>by go_simp<;>rfl) (fun _ _ _ h=>h) ?_;refine anyE_u (i:=7) K8.out rfl (by kernel_rfl) (fun w z=>by go_simp<;>rfl) (fun _ _ _ h=>h) ?_;refine anyE_u (i:=8) K8.out rfl (by kernel_rfl) (fun w z=>by go_simp<;>rfl) (fun _ _ _ h=>h) ?_;refine anyE_u (i:=9) K8.out rfl (by kernel_rfl) (fun w z=>by go_simp<;>rfl) (fun _ _ _ h=>h) ?_;refine anyE_u (i:=10) K8.out rfl (by kernel_rfl) (fun w z=>by go_simp<;>rfl) (fun _ _ _ h=>h) ?_;refine anyE_u (i:=11) K8.out rfl (by kernel_rfl) (fun w z=>by go_simp<;>rfl) (fun _ _ _ h=>h) ?_;refine anyE_u (i:=12) K8.out rfl (by kernel_rfl) (fun w z=>by go_simp<;>rfl) (fun _ _ _ h=>h) ?_;refine anyE_u (i:=13) K8.out rfl (by kernel_rfl) (fun w z=>by go_simp<;>rfl) (fun _ _ _ h=>h) ?_;refine anyE_u (i:=14) K8.out rfl (by kernel_rfl) (fun w z=>by go_simp<;>rfl) (fun _ _ _ h=>h) ?_;refine anyE_u (i:=15) K8.out rfl (by kernel_rfl) (fun w z=>by go_simp<;>rfl) (fun _ _ _ h=>h) ?_;refine anyE_u (i:=16) K8.out rfl (by kernel_rfl) (fun w z=>by go_simp<;>rfl) (fun _ _ _ h=>h) ?_;refine anyE_u (i:=17) K8.out rfl (by kernel_rfl) (fun w z=>by go_simp<;>rfl) (fun _ _ _ h=>h) ?_;refine anyE_u (i:=18) K8.out rfl (by kernel_rfl) (fun w z=>by go_simp<;>rfl) (fun _ _ _ h=>h) ?_;simp only[Act.put,sA,sB,sC];refine anyE_ready (rs:=[19]) (by kernel_rfl) (by simp) ?_;refine AllE.cons rfl (fun Kt hKt=>?_) ?_
       ·go_simp
        refine hKt.out _ _ (fun h=>absurd rfl h) ?_;clear hKt Kt;try simp only[Act.put,sA,sB,sC]
        refine anyE_done (by kernel_rfl) ?_ _
        go_wp2
        go_end0
        exact⟨rfl,FIN.out⟩
       exact AllE.nil
     exact AllE.nil
   exact AllE.nil
  exact AllE.nil
 exact AllE.nil
end
section
abbrev Rel:=Int->Int->Prop
def Dg(w:World)(X:Nat->Prop)(B:Nat)(E:Rel)(N:Nat):Prop:=∃M0 M fp f l,DgA w B M0 M fp f l N/\Inv E fp l/\∀k,X k↔ft B M0 M f k
structure St(X:Nat->Prop)(w:World)(X':Nat->Prop)(w':World):Prop where
 fr:Fr X w w'
 new:∀k,X' k->X k\/w.heap.size<=k
variable {w w' u v:World}{X X' Y Z:Nat->Prop}{B N N':Nat}{E E':Rel}{p i id:Int}
theorem St.trans(h:St X w Y u)(k:St Y u Z v):St X w Z v:=
 ⟨h.fr.trans k.fr h.new,fun j hj=>by
  rcases k.new j hj with e|e
  ·exact h.new j e
  ·exact .inr (by have:=h.fr.size;omega)⟩
theorem St.below(X:Nat->Prop)(hb:Below w.heap.size w w'):St X w X w':=⟨Fr.below hb,fun k h=>.inl h⟩
theorem St.size(h:St X w X' w'):w.heap.size<=w'.heap.size:=h.fr.size
theorem St.out(h:St X w X' w'){k:Nat}(hk:k<w.heap.size)(hx:¬X k):¬X' k:=fun hx'=>by
 rcases h.new k hx' with e|e
 ·exact hx e
 ·omega
theorem Dg.lt(h:Dg w X B E N){k:Nat}(hk:X k):k<w.heap.size:=by
 obtain⟨M0,M,fp,f,l,D,I,hX⟩:=h;exact D.ftLt ((hX k).1 hk)
theorem Dg.fr(h:Dg w X B E N){Y:Nat->Prop}(hf:Fr Y w w')(hx:∀k,X k->¬Y k):Dg w' X B E N:=by
 obtain⟨M0,M,fp,f,l,D,I,hX⟩:=h;exact⟨M0,M,fp,f,l,D.fr hf (fun k hk=>hx k ((hX k).2 hk)),I,hX⟩
theorem Dg.below(h:Dg w X B E N)(hw:Below w.heap.size w w'):Dg w' X B E N:=h.fr (Fr.below (X:=fun _=>False) hw) (fun _ _=>id)
theorem Dg.ord(h:Dg w X B E N):∀p i,E p i->1<=p/\p<i/\i<=9223372036854775807:=by
 obtain⟨M0,M,fp,f,l,D,I,hX⟩:=h;exact I.ord
theorem Dg.congr(h:Dg w X B E N)(he:∀p i,E' p i↔E p i):Dg w X B E' N:=by
 obtain rfl:E'=E:=funext fun p=>funext fun i=>propext (he p i);exact h
theorem newG(w:World):Calls prog 33 #[] w fun e w'=>∃B X,e=.returned (.pointer (some ⟨B,0,none⟩))/\Dg w' X B (fun _ _=>False) 0/\(∀k,X k->w.heap.size<=k)/\Below w.heap.size w w':=by
 refine(new_any w).mono ?_;rintro e w' ⟨B,M0,M,rfl,D,F,b⟩;exact⟨B,_,rfl,⟨M0,M,_,_,_,D,Inv.none,fun k=>Iff.rfl⟩,F,b⟩
theorem waitsG(h:Dg w X B E N)(hN:N<=1000000)(i:Int)(hi:wfI i):Calls prog 239 #[.pointer (some ⟨B,0,none⟩),.int .i64 i] w fun e w'=>∃v' d,e=.returned v'/\OwnI w' w.heap.size v' d/\Up d/\(∀p,p∈d↔E p i)/\d.length<=N/\Below w.heap.size w w':=by
 obtain⟨M0,M,fp,f,l,D,I,hX⟩:=h;refine(waits_any D hN i hi).mono ?_;rintro e w' ⟨v',rfl,o,b⟩;exact⟨v',_,rfl,o,sortI_up (I.nd _ _),fun p=>by rw[sortI_mem];exact I.ew p i,by rw[sortI_len];exact D.len _ _,b⟩
theorem behindG(h:Dg w X B E N)(hN:N<=1000000)(i:Int)(hi:wfI i):Calls prog 200 #[.pointer (some ⟨B,0,none⟩),.int .i64 i] w fun e w'=>∃v' d,e=.returned v'/\OwnI w' w.heap.size v' d/\Up d/\(∀j,j∈d↔E i j)/\d.length<=N/\Below w.heap.size w w':=by
 obtain⟨M0,M,fp,f,l,D,I,hX⟩:=h;refine(behind_any D hN i hi).mono ?_;rintro e w' ⟨v',rfl,o,b⟩;exact⟨v',_,rfl,o,sortI_up (I.nd _ _),fun p=>by rw[sortI_mem];exact I.eb i p,by rw[sortI_len];exact D.len _ _,b⟩
theorem partG(h:Dg w X B E N)(hN:N<=1000000)(he:E p i):Calls prog 201 #[.pointer (some ⟨B,0,none⟩),.int .i64 p,.int .i64 i] w fun e w'=>e=.returned (.tuple #[])/\∃X',Dg w' X' B (Epart E p i) N/\St X w X' w':=by
 obtain⟨M0,M,fp,f,l,D,I,hX⟩:=h;refine(part_any D hN I he).mono ?_;rintro e w' ⟨rfl,fp',f',l',D',I',F,T⟩;exact⟨rfl,_,⟨M0,M,fp',f',l',D',I',fun k=>Iff.rfl⟩,F.mono (fun k hk=>(hX k).2 hk),fun k hk=>.inl ((hX k).2 (T k hk))⟩
def Dis(v:Value)(X:Nat->Prop):Prop:=∀k,v.ownBlock=some k->¬X k
theorem Dis.st{b:Nat}{v:Value}{d:List Int}(h:Dis v X)(o:OwnI w b v d)(s:St X w X' w'):Dis v X':=fun k hk=>s.out (o.rowLt hk).2 (h k hk)
theorem OwnI.st{b:Nat}{v:Value}{d:List Int}(o:OwnI w b v d)(h:Dis v X)(s:St X w X' w'):OwnI w' b v d:=o.fr s.fr h
theorem Dg.dis(h:Dg w X B E N){w1:World}{v:Value}{d:List Int}(o:OwnI w1 w.heap.size v d):Dis v X:=fun k hk hx=>by
 have:=(o.rowLt hk).1;have:=h.lt hx;omega
end
end Go.Proofs.YtjpbngiddjkjiaaGreatDoor.Da
