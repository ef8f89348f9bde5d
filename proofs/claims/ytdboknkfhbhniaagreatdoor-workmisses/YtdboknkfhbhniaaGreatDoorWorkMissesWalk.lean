import Derived.Test.YtdboknkfhbhniaaGreatDoorWkH
namespace Go.Proofs.YtdboknkfhbhniaaGreatDoor
set_option maxHeartbeats 8000000
set_option maxRecDepth 100000
set_option linter.unusedVariables false
open Go.RowKit Go.Lib Go.WideMaps Go.Maps
theorem workMisses_walk(prio:Int)(cancel:Bool)(draw:Int)(w:World)(wp:(Lit.int .i64 prio).wf=true)(wd:(Lit.int .u64 draw).wf=true)(hN:True) :
  Calls Tryz.prog 5 #[.int .i64 prio,.bool cancel,.int .u64 draw] w fun e w'=>e=.returned (.bool true)∧Below w.heap.size w w':=by
 obtain⟨p,hp,hp8⟩:∃p:Nat,bits .and .i64 prio 7=(p:Int)∧p<8:=⟨(prio%8).toNat,by rw[mask_i64 prio 3 7 8 (by omega) rfl rfl];omega,by omega⟩
 obtain⟨dr,rfl,hdr⟩:∃dr:Nat,draw=(dr:Int)∧dr<18446744073709551616:=by
  have h:=wd
  simp[Lit.wf,IntKind.min,IntKind.max,IntKind.bits,IntKind.signed] at h
  exact⟨draw.toNat,by omega,by omega⟩
 obtain⟨d2,hd2,hd2'⟩:∃d2:Nat,IntKind.u64.wrap ((dr:Int)+1)=(d2:Int)∧d2<18446744073709551616:=by
  refine⟨(IntKind.u64.wrap ((dr:Int)+1)).toNat,?_,?_⟩<;>(rw[IntKind.wrap_u64];omega)
 have P:Calls Tryz.prog 17 #[.agg #[.int .i64 2,.int .i64 0,.int .i64 4]] w fun e w'=>∃X,e=.returned (pt X)∧∃L D F R,w.heap.size≤L∧Co w' L D F (.slice none 0 0) (.slice none 0 0) (newS 2 0 4)∧Bx w' F X #[pt D.B,pt R,.int .u64 0,.int .i64 0] 57∧w.heap.size≤X∧Below w.heap.size w w':=newW 2 0 4 w (by omega) (by omega) (by omega) (by omega) (by omega)
 have HD:Aside (dr<18446744073709551616∧d2<18446744073709551616∧p<8):=⟨hdr,hd2',hp8⟩
 clear wp wd hdr hd2' hp8
 go_enter Tryz.func5,Tryz.ntmps5
 go_wp2_with fail
 refine P.mono ?_
 rintro e w1 ⟨X,rfl,L,D,F1,R,hL,C1,BX,hX,b1⟩
 have B1:Aside (Below w.heap.size w w1∧w.heap.size≤L∧w.heap.size≤X∧L≤w1.heap.size):=⟨b1,hL,hX,C1.lw⟩
 have x0:w1.cell? ⟨X,0,none⟩=some (pt D.B):=BX.cell 0
 have P:Calls Tryz.prog 14 #[pt D.B,.int .i64 0,.int .i64 p,.slice none 0 0,.slice none 0 0] w1 fun e w'=>e=.returned (.tuple #[.int .i64 1,.int .i64 0])∧Cox L D F1 w1 (subS (newS 2 0 4) 0 p) w':=subC C1 (t:=0) (show 0<2 by omega) rfl (show 0<200 by omega) (show 0<4 by omega) (show 0+1<1000000 by omega) (show 0≤1000 by omega) (show 0<1000000 by omega) p (by omega) (by have:=HD.out.2.2;omega)
 have xlt:=lt_of_block BX.1
 have HB:Aside (Bx w1 F1 X #[pt D.B,pt R,.int .u64 0,.int .i64 0] 57):=BX
 clear b1 hL hX C1 BX
 go_wp2_with fail
 try simp only[hp]
 refine P.mono ?_
 rintro e w2 ⟨rfl,F2,g2,v2,C2,G2⟩
 clear P x0 xlt
 obtain⟨ky,o⟩:=One.sub (th:=2) (k:=0) (n:=4) (t:=0) (by omega) p
 have f0:((subS (newS 2 0 4) 0 p).q.g 0).f=true:=put_same _ _ _ _
 have f1:((subS (newS 2 0 4) 0 p).q.g 1).f=false:=by
  show((Qu.putQ 0 Qu.newQ 0 _).g 1).f=false
  rw[put_other _ _ (by omega)]
  rfl
 obtain⟨σ,hσ⟩:∃σ,subS (newS 2 0 4) 0 p=σ:=⟨_,rfl⟩
 rw[hσ] at C2 o f0 f1
 have SX:=HB.out.gc mq_w18 G2
 have P:Calls Tryz.prog 18 #[pt D.B,.agg #[.int .i64 0,.int .u64 0,.int .i64 0,.int .i64 0,.bool false],.int .i64 0,.int .u64 dr] w2 fun e w'=>e=.returned (.tuple #[.agg #[.int .i64 0,.int .u64 0,.int .i64 0,.int .i64 0,.bool false],.int .i64 1])∧Cox L D F2 w2 (setS σ 0) w':=oneSettle (t:=0) (dr:=dr) C2 o (by omega) (by omega) f0
 have x0:w2.cell? ⟨X,0,none⟩=some (pt D.B):=SX.cell 0
 have xlt:=lt_of_block SX.1
 have H2:Aside (Gc L F1 w1 F2 w2∧Bx w2 F2 X #[pt D.B,pt R,.int .u64 0,.int .i64 0] 57∧One σ 2 2 ky 2∧(σ.q.g 1).f=false):=⟨G2,SX,o,f1⟩
 clear C2 G2 o f0 f1 hσ SX
 go_wp2_with fail
 refine P.mono ?_
 rintro e w3 ⟨rfl,F3,g3,v3,C3,G3⟩
 clear P x0 xlt
 obtain⟨A,hA⟩:∃J,w3.heap.size=J:=⟨_,rfl⟩
 obtain⟨B,hB⟩:∃J,A+1=J:=⟨_,rfl⟩
 have W3':=WS.two C3 (H2.out.1.trans G3) (H2.out.2.1.gc mq_w18 G3) B1.out.2.2.2 hA hB
 obtain⟨u3,hu3⟩:∃q,(w3.alloc (.cells #[.int .i64 0,.int .u64 0,.int .i64 0,.int .i64 0,.bool false] 59)).alloc (.cells #[.int .i64 0,.int .u64 0,.int .i64 0,.int .i64 0,.bool false] 59)=q:=⟨_,rfl⟩
 rw[hu3] at W3'
 have W3:Aside (WS L D F1 w1 X R A B u3 F3 g3 v3 (setS σ 0) wk0 wk0):=W3'
 have O3:Aside (One (setS σ 0) 2 2 ky 3∧((setS σ 0).q.g 0).f=false∧((setS σ 0).q.g 1).f=false):=⟨H2.out.2.2.1.set (by omega),Qu.settle_f _ _ _,by show((Qu.settleQ σ.k σ.q 0).g 1).f=false;rw[settle_other _ _ (by omega)];exact H2.out.2.2.2⟩
 have HA:Aside _:=hA
 have HB2:Aside _:=hB
 have HU3:Aside _:=hu3
 clear C3 G3 W3' hA hB hu3
 go_upto_region 9 with fail
 rw[HU3.out]
 try simp only[HA.out]
 try simp only[HB2.out]
 have x0:u3.drew.cell? ⟨X,0,none⟩=some (pt D.B):=(W3.out.k.cell 0:u3.cell? ⟨X,0,none⟩=some (pt D.B))
 have Ba:u3.heap[A]?=some (.cells #[.int .i64 0,.int .u64 0,.int .i64 0,.int .i64 0,.bool false] 59 (0,0)):=W3.out.a.1
 obtain⟨a0,a1,a2,a3,a4⟩:=bx5 Ba
 obtain⟨ad0,ad1,ad2,ad3,ad4⟩:=bx5 (w:=u3.drew) Ba
 have alt:=lt_of_block Ba
 clear Ba
 have PP:Aside (Calls Tryz.prog 18 #[pt D.B,.agg #[.int .i64 0,.int .u64 0,.int .i64 0,.int .i64 0,.bool false],.int .i64 0,.int .u64 dr] u3.drew fun e w'=>e=.returned (.tuple #[.agg #[.int .i64 1,.int .u64 ky,.int .i64 1,.int .i64 0,.bool false],.int .i64 2])∧∃σ',One σ' 2 2 ky 5∧(∀t',t'≠0→(σ'.q.g t').f=((setS σ 0).q.g t').f)∧Cox L D F3 u3.drew σ' w'):=asd (lookE (t:=0) W3.out.c.drew O3.out.1 (by omega) (by omega) HD.out.1 O3.out.2.1)
 go_wp2_with fail
 refine wp_region_held_drew (S:=(fun V:World=>V.cell? ⟨X,0,none⟩=some (pt D.B))) (by kernel_rfl) (x0) (fun hHeld=>?_)
 refine wpAnyH_take (i:=0) (oi:=⟨some 49,Op.move (.tmp 7),53,"extra.go:21",#[],none⟩) (v:=?_) rfl (by kernel_rfl) (by kernel_rfl) (by kernel_rfl) (fun _ _ _ h=>h) (Or.inl ⟨by rfl,?_⟩) (by assumption) ?_
 rotate_left
 ·intro w z;(try dsimp only at z);go_simp;try with_reducible rfl
 simp only[Act.put,sA,sB,sC]
 refine wpAnyH_take (i:=1) (oi:=⟨some 50,Op.nilCheck (.tmp 49),0,"extra.go:21",#[⟨0,.data⟩],none⟩) (v:=?_) rfl (by kernel_rfl) (by kernel_rfl) (by kernel_rfl) (fun _ _ _ h=>h) (Or.inl ⟨by rfl,?_⟩) (by assumption) ?_
 rotate_left
 ·intro w z;(try dsimp only at z);go_simp;try with_reducible rfl
 simp only[Act.put,sA,sB,sC]
 refine wpAnyH_take (i:=2) (oi:=⟨some 51,Op.fieldAddr 57 (.tmp 50) 0,0,"extra.go:21",#[⟨1,.data⟩],none⟩) (v:=?_) rfl (by kernel_rfl) (by kernel_rfl) (by kernel_rfl) (fun _ _ _ h=>h) (Or.inl ⟨by rfl,?_⟩) (by assumption) ?_
 rotate_left
 ·intro w z;(try dsimp only at z);go_simp;try with_reducible rfl
 simp only[Act.put,sA,sB,sC]
 refine wpAnyH_take (i:=3) (oi:=⟨some 52,Op.load 23 (.tmp 51),23,"extra.go:21",#[⟨2,.data⟩],none⟩) (v:=?_) rfl (by kernel_rfl) (by kernel_rfl) (by kernel_rfl) (fun _ _ _ h=>h) (Or.inl ⟨by rfl,?_⟩) (by assumption) ?_
 rotate_left
 ·intro w z;(try dsimp only at z);go_simp;try with_reducible rfl
 simp only[Act.put,sA,sB,sC]
 refine wpAnyH_take (i:=5) (oi:=⟨some 54,Op.move (.tmp 2),31,"extra.go:21",#[],none⟩) (v:=?_) rfl (by kernel_rfl) (by kernel_rfl) (by kernel_rfl) (fun _ _ _ h=>h) (Or.inl ⟨by rfl,?_⟩) (by assumption) ?_
 rotate_left
 ·intro w z;(try dsimp only at z);go_simp;try with_reducible rfl
 simp only[Act.put,sA,sB,sC]
 refine wpAnyH_ready (rs:=[4]) (by kernel_rfl) (by simp) ?_
 refine AllReadyH.cons (o:=⟨some 53,Op.load 59 (.tmp 10),59,"extra.go:21",#[],none⟩) rfl (fun Kt hKt=>?_) AllReadyH.nil
 go_simp
 refine hKt.out _ _ (x0) (fun hHeld=>?_)
 clear hKt Kt
 try simp only[Act.put,sA,sB,sC]
 refine wpAnyH_ready (rs:=[6]) (by kernel_rfl) (by simp) ?_
 refine AllReadyH.cons (o:={dst:=some 55,op:=Op.call {callee:=Callee.value (Operand.func 18),args:=#[Operand.tmp 52,Operand.tmp 53,Operand.const (Value.int IntKind.i64 0),Operand.tmp 54],argTypes:=#[23,59,3,31]},type:=60,pos:= "extra.go:21",after:=#[⟨3,.data⟩,⟨4,.data⟩,⟨5,.data⟩],guard:=none}) rfl (fun Kt hKt=>?_) AllReadyH.nil
 go_simp
 (with_reducible refine Calls.mono PP.out ?_)
 rintro e w4 ⟨rfl,σ4,o4,f4,F4,g4,v4,C4,G4⟩
 have Wn:WS L D F1 w1 X R A B w4 F4 g4 v4 σ4 wk0 wk0:=(W3.out.below (Below.refl _ _).drew).go C4 G4
 have x3:w4.cell? ⟨X,0,none⟩=some (pt D.B):=Wn.k.cell 0
 have Ba:w4.heap[A]?=some (.cells #[.int .i64 0,.int .u64 0,.int .i64 0,.int .i64 0,.bool false] 59 (0,0)):=Wn.a.1
 obtain⟨b0,b1,b2,b3,b4⟩:=bx5 Ba
 have blt:=lt_of_block Wn.a.1
 have bfz:∀o,w4.frozen? ⟨A,o,none⟩=false:=(fun o=>by simp[World.frozen?,Wn.a.1])
 have Wm:=Wn.setA ⟨1,ky,1,0,false⟩
 have x5:(set5w w4 A ⟨1,ky,1,0,false⟩).cell? ⟨X,0,none⟩=some (pt D.B):=Wm.k.cell 0
 unfold set5w set5 at x5
 try unfold wk0 at x5
 dsimp only at x5
 obtain⟨u4,hu⟩:∃q,set5w w4 A ⟨1,ky,1,0,false⟩=q:=⟨_,rfl⟩
 rw[hu] at Wm
 have HU4:Aside ((((((w4.setCell ⟨A,0,none⟩ (.int .i64 1)).setCell ⟨A,1,none⟩ (.int .u64 ky)).setCell ⟨A,2,none⟩ (.int .i64 1)).setCell ⟨A,3,none⟩ (.int .i64 0)).setCell ⟨A,4,none⟩ (.bool false))=u4):=hu
 have W4:Aside (WS L D F1 w1 X R A B u4 F4 g4 v4 σ4 ⟨1,ky,1,0,false⟩ wk0):=Wm
 have O4:Aside (One σ4 2 2 ky 5∧(σ4.q.g 1).f=false):=⟨o4,(f4 1 (by omega)).trans O3.out.2.2⟩
 clear o4 f4
 clear Wn Wm hu C4 G4 Ba
 go_wp2_with fail
 refine hKt.out _ _ (x3) (fun hHeld=>?_)
 clear hKt Kt
 try simp only[Act.put,sA,sB,sC]
 refine wpAnyH_take (i:=7) (oi:=⟨some 48,Op.move (.tmp 55),60,"extra.go:21",#[⟨6,.data⟩],none⟩) (v:=?_) rfl (by kernel_rfl) (by kernel_rfl) (by kernel_rfl) (fun _ _ _ h=>h) (Or.inl ⟨by rfl,?_⟩) (by assumption) ?_
 rotate_left
 ·intro w z;(try dsimp only at z);go_simp;try with_reducible rfl
 simp only[Act.put,sA,sB,sC]
 refine wpAnyH_take (i:=8) (oi:=⟨some 56,Op.extract (.tmp 48) 0,59,"extra.go:21",#[⟨7,.data⟩],none⟩) (v:=?_) rfl (by kernel_rfl) (by kernel_rfl) (by kernel_rfl) (fun _ _ _ h=>h) (Or.inl ⟨by rfl,?_⟩) (by assumption) ?_
 rotate_left
 ·intro w z;(try dsimp only at z);go_simp;try with_reducible rfl
 simp only[Act.put,sA,sB,sC]
 refine wpAnyH_take (i:=9) (oi:=⟨some 57,Op.extract (.tmp 48) 1,3,"extra.go:21",#[⟨7,.data⟩,{on:=10,ground:=Ground.gcOnly Departure.lateStores}],none⟩) (v:=?_) rfl (by kernel_rfl) (by kernel_rfl) (by kernel_rfl) (fun _ _ _ h=>h) (Or.inl ⟨by rfl,?_⟩) (by assumption) ?_
 rotate_left
 ·intro w z;(try dsimp only at z);go_simp;try with_reducible rfl
 simp only[Act.put,sA,sB,sC]
 refine wpAnyH_ready (rs:=[10]) (by kernel_rfl) (by simp) ?_
 refine AllReadyH.cons (o:=⟨none,Op.store 59 (.tmp 10) (.tmp 56),0,"extra.go:21",#[⟨8,.data⟩,⟨6,.chain⟩,⟨0,.phase⟩,⟨1,.phase⟩,⟨2,.phase⟩,⟨3,.phase⟩,⟨4,.phase⟩,⟨5,.phase⟩,⟨6,.phase⟩,⟨7,.phase⟩,⟨8,.phase⟩,{on:=9,ground:=Ground.textOnly Departure.lateStores}],none⟩) rfl (fun Kt hKt=>?_) AllReadyH.nil
 go_simp
 refine hKt.out _ _ (x5) (fun hHeld=>?_)
 clear hKt Kt
 try simp only[Act.put,sA,sB,sC]
 refine wpAnyH_take (i:=11) (oi:=⟨some 13,Op.assign (.tmp 57),3,"extra.go:21",#[⟨9,.data⟩,⟨10,.chain⟩,⟨0,.phase⟩,⟨1,.phase⟩,⟨2,.phase⟩,⟨3,.phase⟩,⟨4,.phase⟩,⟨5,.phase⟩,⟨6,.phase⟩,⟨7,.phase⟩,⟨8,.phase⟩,⟨9,.phase⟩,⟨10,.phase⟩],none⟩) (v:=?_) rfl (by kernel_rfl) (by kernel_rfl) (by kernel_rfl) (fun _ _ _ h=>h) (Or.inl ⟨by rfl,?_⟩) (by assumption) ?_
 rotate_left
 ·intro w z;(try dsimp only at z);go_simp;try with_reducible rfl
 simp only[Act.put,sA,sB,sC]
 refine wpAnyH_done (by kernel_rfl) ?_ _
 clear x0 x3 x5 a0 a1 a2 a3 a4 ad0 ad1 ad2 ad3 ad4 alt b0 b1 b2 b3 b4 blt bfz
 rw[HU4.out]
 have x0:u4.drew.cell? ⟨X,0,none⟩=some (pt D.B):=(W4.out.k.cell 0:u4.cell? ⟨X,0,none⟩=some (pt D.B))
 have Ba:u4.heap[B]?=some (.cells #[.int .i64 0,.int .u64 0,.int .i64 0,.int .i64 0,.bool false] 59 (0,0)):=W4.out.b.1
 obtain⟨a0,a1,a2,a3,a4⟩:=bx5 Ba
 obtain⟨ad0,ad1,ad2,ad3,ad4⟩:=bx5 (w:=u4.drew) Ba
 have alt:=lt_of_block Ba
 clear Ba
 have PP:Aside (Calls Tryz.prog 18 #[pt D.B,.agg #[.int .i64 0,.int .u64 0,.int .i64 0,.int .i64 0,.bool false],.int .i64 1,.int .u64 d2] u4.drew fun e w'=>e=.returned (.tuple #[.agg #[.int .i64 1,.int .u64 ky,.int .i64 1,.int .i64 0,.bool false],.int .i64 2])∧∃σ',One σ' 2 2 ky 7∧(∀t',t'≠1→(σ'.q.g t').f=(σ4.q.g t').f)∧Cox L D F4 u4.drew σ' w'):=asd (lookE (t:=1) W4.out.c.drew O4.out.1 (by omega) (by omega) HD.out.2.1 O4.out.2)
 go_wp2_with fail
 refine wp_region_held_drew (S:=(fun V:World=>V.cell? ⟨X,0,none⟩=some (pt D.B))) (by kernel_rfl) (x0) (fun hHeld=>?_)
 refine wpAnyH_take (i:=0) (oi:=⟨some 59,Op.move (.tmp 7),53,"extra.go:22",#[],none⟩) (v:=?_) rfl (by kernel_rfl) (by kernel_rfl) (by kernel_rfl) (fun _ _ _ h=>h) (Or.inl ⟨by rfl,?_⟩) (by assumption) ?_
 rotate_left
 ·intro w z;(try dsimp only at z);go_simp;try with_reducible rfl
 simp only[Act.put,sA,sB,sC]
 refine wpAnyH_take (i:=1) (oi:=⟨some 60,Op.nilCheck (.tmp 59),0,"extra.go:22",#[⟨0,.data⟩],none⟩) (v:=?_) rfl (by kernel_rfl) (by kernel_rfl) (by kernel_rfl) (fun _ _ _ h=>h) (Or.inl ⟨by rfl,?_⟩) (by assumption) ?_
 rotate_left
 ·intro w z;(try dsimp only at z);go_simp;try with_reducible rfl
 simp only[Act.put,sA,sB,sC]
 refine wpAnyH_take (i:=2) (oi:=⟨some 61,Op.fieldAddr 57 (.tmp 60) 0,0,"extra.go:22",#[⟨1,.data⟩],none⟩) (v:=?_) rfl (by kernel_rfl) (by kernel_rfl) (by kernel_rfl) (fun _ _ _ h=>h) (Or.inl ⟨by rfl,?_⟩) (by assumption) ?_
 rotate_left
 ·intro w z;(try dsimp only at z);go_simp;try with_reducible rfl
 simp only[Act.put,sA,sB,sC]
 refine wpAnyH_take (i:=3) (oi:=⟨some 62,Op.load 23 (.tmp 61),23,"extra.go:22",#[⟨2,.data⟩],none⟩) (v:=?_) rfl (by kernel_rfl) (by kernel_rfl) (by kernel_rfl) (fun _ _ _ h=>h) (Or.inl ⟨by rfl,?_⟩) (by assumption) ?_
 rotate_left
 ·intro w z;(try dsimp only at z);go_simp;try with_reducible rfl
 simp only[Act.put,sA,sB,sC]
 refine wpAnyH_take (i:=5) (oi:=⟨some 64,Op.move (.tmp 2),31,"extra.go:22",#[],none⟩) (v:=?_) rfl (by kernel_rfl) (by kernel_rfl) (by kernel_rfl) (fun _ _ _ h=>h) (Or.inl ⟨by rfl,?_⟩) (by assumption) ?_
 rotate_left
 ·intro w z;(try dsimp only at z);go_simp;try with_reducible rfl
 simp only[Act.put,sA,sB,sC]
 refine wpAnyH_take (i:=6) (oi:=⟨some 65,Op.binOp BinOp.add 31 (.tmp 64) (Operand.const (Value.int IntKind.u64 1)) 31,31,"extra.go:22",#[⟨5,.data⟩],none⟩) (v:=?_) rfl (by kernel_rfl) (by kernel_rfl) (by kernel_rfl) (fun _ _ _ h=>h) (Or.inl ⟨by rfl,?_⟩) (by assumption) ?_
 rotate_left
 ·intro w z;(try dsimp only at z);go_simp;try with_reducible rfl
 simp only[Act.put,sA,sB,sC]
 refine wpAnyH_ready (rs:=[4]) (by kernel_rfl) (by simp) ?_
 refine AllReadyH.cons (o:=⟨some 63,Op.load 59 (.tmp 12),59,"extra.go:22",#[],none⟩) rfl (fun Kt hKt=>?_) AllReadyH.nil
 go_simp
 refine hKt.out _ _ (x0) (fun hHeld=>?_)
 clear hKt Kt
 try simp only[Act.put,sA,sB,sC]
 refine wpAnyH_ready (rs:=[7]) (by kernel_rfl) (by simp) ?_
 refine AllReadyH.cons (o:={dst:=some 66,op:=Op.call {callee:=Callee.value (Operand.func 18),args:=#[Operand.tmp 62,Operand.tmp 63,Operand.const (Value.int IntKind.i64 1),Operand.tmp 65],argTypes:=#[23,59,3,31]},type:=60,pos:= "extra.go:22",after:=#[⟨3,.data⟩,⟨4,.data⟩,⟨6,.data⟩],guard:=none}) rfl (fun Kt hKt=>?_) AllReadyH.nil
 go_simp
 (with_reducible refine Calls.mono PP.out ?_)
 rintro e w5 ⟨rfl,σ5,o5,f5,F5,g5,v5,C5,G5⟩
 have Wn:WS L D F1 w1 X R A B w5 F5 g5 v5 σ5 ⟨1,ky,1,0,false⟩ wk0:=(W4.out.below (Below.refl _ _).drew).go C5 G5
 have x3:w5.cell? ⟨X,0,none⟩=some (pt D.B):=Wn.k.cell 0
 have Ba:w5.heap[B]?=some (.cells #[.int .i64 0,.int .u64 0,.int .i64 0,.int .i64 0,.bool false] 59 (0,0)):=Wn.b.1
 obtain⟨b0,b1,b2,b3,b4⟩:=bx5 Ba
 have blt:=lt_of_block Wn.b.1
 have bfz:∀o,w5.frozen? ⟨B,o,none⟩=false:=(fun o=>by simp[World.frozen?,Wn.b.1])
 have Wm:=Wn.setB ⟨1,ky,1,0,false⟩
 have x5:(set5w w5 B ⟨1,ky,1,0,false⟩).cell? ⟨X,0,none⟩=some (pt D.B):=Wm.k.cell 0
 unfold set5w set5 at x5
 try unfold wk0 at x5
 dsimp only at x5
 obtain⟨u5,hu⟩:∃q,set5w w5 B ⟨1,ky,1,0,false⟩=q:=⟨_,rfl⟩
 rw[hu] at Wm
 have HU5:Aside ((((((w5.setCell ⟨B,0,none⟩ (.int .i64 1)).setCell ⟨B,1,none⟩ (.int .u64 ky)).setCell ⟨B,2,none⟩ (.int .i64 1)).setCell ⟨B,3,none⟩ (.int .i64 0)).setCell ⟨B,4,none⟩ (.bool false))=u5):=hu
 have W5:Aside (WS L D F1 w1 X R A B u5 F5 g5 v5 σ5 ⟨1,ky,1,0,false⟩ ⟨1,ky,1,0,false⟩):=Wm
 have O5:Aside (One σ5 2 2 ky 7):=o5
 clear o5 f5
 clear Wn Wm hu C5 G5 Ba
 go_wp2_with fail
 refine hKt.out _ _ (x3) (fun hHeld=>?_)
 clear hKt Kt
 try simp only[Act.put,sA,sB,sC]
 refine wpAnyH_take (i:=8) (oi:=⟨some 58,Op.move (.tmp 66),60,"extra.go:22",#[⟨7,.data⟩],none⟩) (v:=?_) rfl (by kernel_rfl) (by kernel_rfl) (by kernel_rfl) (fun _ _ _ h=>h) (Or.inl ⟨by rfl,?_⟩) (by assumption) ?_
 rotate_left
 ·intro w z;(try dsimp only at z);go_simp;try with_reducible rfl
 simp only[Act.put,sA,sB,sC]
 refine wpAnyH_take (i:=9) (oi:=⟨some 67,Op.extract (.tmp 58) 0,59,"extra.go:22",#[⟨8,.data⟩],none⟩) (v:=?_) rfl (by kernel_rfl) (by kernel_rfl) (by kernel_rfl) (fun _ _ _ h=>h) (Or.inl ⟨by rfl,?_⟩) (by assumption) ?_
 rotate_left
 ·intro w z;(try dsimp only at z);go_simp;try with_reducible rfl
 simp only[Act.put,sA,sB,sC]
 refine wpAnyH_take (i:=10) (oi:=⟨some 68,Op.extract (.tmp 58) 1,3,"extra.go:22",#[⟨8,.data⟩,{on:=11,ground:=Ground.gcOnly Departure.lateStores}],none⟩) (v:=?_) rfl (by kernel_rfl) (by kernel_rfl) (by kernel_rfl) (fun _ _ _ h=>h) (Or.inl ⟨by rfl,?_⟩) (by assumption) ?_
 rotate_left
 ·intro w z;(try dsimp only at z);go_simp;try with_reducible rfl
 simp only[Act.put,sA,sB,sC]
 refine wpAnyH_ready (rs:=[11]) (by kernel_rfl) (by simp) ?_
 refine AllReadyH.cons (o:=⟨none,Op.store 59 (.tmp 12) (.tmp 67),0,"extra.go:22",#[⟨9,.data⟩,⟨7,.chain⟩,⟨0,.phase⟩,⟨1,.phase⟩,⟨2,.phase⟩,⟨3,.phase⟩,⟨4,.phase⟩,⟨5,.phase⟩,⟨6,.phase⟩,⟨7,.phase⟩,⟨8,.phase⟩,⟨9,.phase⟩,{on:=10,ground:=Ground.textOnly Departure.lateStores}],none⟩) rfl (fun Kt hKt=>?_) AllReadyH.nil
 go_simp
 refine hKt.out _ _ (x5) (fun hHeld=>?_)
 clear hKt Kt
 try simp only[Act.put,sA,sB,sC]
 refine wpAnyH_take (i:=12) (oi:=⟨some 14,Op.assign (.tmp 68),3,"extra.go:22",#[⟨10,.data⟩,⟨11,.chain⟩,⟨0,.phase⟩,⟨1,.phase⟩,⟨2,.phase⟩,⟨3,.phase⟩,⟨4,.phase⟩,⟨5,.phase⟩,⟨6,.phase⟩,⟨7,.phase⟩,⟨8,.phase⟩,⟨9,.phase⟩,⟨10,.phase⟩,⟨11,.phase⟩],none⟩) (v:=?_) rfl (by kernel_rfl) (by kernel_rfl) (by kernel_rfl) (fun _ _ _ h=>h) (Or.inl ⟨by rfl,?_⟩) (by assumption) ?_
 rotate_left
 ·intro w z;(try dsimp only at z);go_simp;try with_reducible rfl
 simp only[Act.put,sA,sB,sC]
 refine wpAnyH_done (by kernel_rfl) ?_ _
 clear x0 x3 x5 a0 a1 a2 a3 a4 ad0 ad1 ad2 ad3 ad4 alt b0 b1 b2 b3 b4 blt bfz
 rw[HU5.out]
 obtain⟨a0,a1,a2,a3,a4⟩:=bx5 W5.out.a.1
 obtain⟨b0,b1,b2,b3,b4⟩:=bx5 W5.out.b.1
 have alt:=lt_of_block W5.out.a.1
 have blt:=lt_of_block W5.out.b.1
 have x0:u5.cell? ⟨X,0,none⟩=some (pt D.B):=W5.out.k.cell 0
 have xlt:=lt_of_block W5.out.k.1
 have PC:Aside (Calls Tryz.prog 19 #[pt D.B,.int .i64 1] u5 fun e w'=>e=.returned (.int .i64 0)∧∃σ',One σ' 2 6 ky 8∧Cox L D F5 u5 σ' w'):=asd (oneCan W5.out.c O5.out (by omega))
 cases cancel
 case false=>
  go_wp2_with fail
  clear a0 a1 a2 a3 a4 b0 b1 b2 b3 b4 alt blt x0 xlt
  have x0:u5.drew.cell? ⟨X,0,none⟩=some (pt D.B):=(W5.out.k.cell 0:u5.cell? ⟨X,0,none⟩=some (pt D.B))
  have Ba:u5.heap[B]?=some (.cells #[.int .i64 1,.int .u64 ky,.int .i64 1,.int .i64 0,.bool false] 59 (0,0)):=W5.out.b.1
  obtain⟨a0,a1,a2,a3,a4⟩:=bx5 Ba
  obtain⟨ad0,ad1,ad2,ad3,ad4⟩:=bx5 (w:=u5.drew) Ba
  have alt:=lt_of_block Ba
  clear Ba
  have PP:Aside (Calls Tryz.prog 18 #[pt D.B,.agg #[.int .i64 1,.int .u64 ky,.int .i64 1,.int .i64 0,.bool false],.int .i64 1,.int .u64 dr] u5.drew fun e w'=>e=.returned (.tuple #[.agg #[.int .i64 2,.int .u64 ky,.int .i64 1,.int .i64 0,.bool false],.int .i64 3])∧∃σ',One σ' 2 3 ky 8∧Cox L D F5 u5.drew σ' w'):=asd (claimE (t:=1) W5.out.c.drew O5.out (by omega) (by omega))
  go_wp2_with fail
  refine wp_region_held_drew (S:=(fun V:World=>V.cell? ⟨X,0,none⟩=some (pt D.B))) (by kernel_rfl) (x0) (fun hHeld=>?_)
  refine wpAnyH_take (i:=0) (oi:=⟨some 99,Op.move (.tmp 7),53,"extra.go:30",#[],none⟩) (v:=?_) rfl (by kernel_rfl) (by kernel_rfl) (by kernel_rfl) (fun _ _ _ h=>h) (Or.inl ⟨by rfl,?_⟩) (by assumption) ?_
  rotate_left
  ·intro w z;(try dsimp only at z);go_simp;try with_reducible rfl
  simp only[Act.put,sA,sB,sC]
  refine wpAnyH_take (i:=1) (oi:=⟨some 100,Op.nilCheck (.tmp 99),0,"extra.go:30",#[⟨0,.data⟩],none⟩) (v:=?_) rfl (by kernel_rfl) (by kernel_rfl) (by kernel_rfl) (fun _ _ _ h=>h) (Or.inl ⟨by rfl,?_⟩) (by assumption) ?_
  rotate_left
  ·intro w z;(try dsimp only at z);go_simp;try with_reducible rfl
  simp only[Act.put,sA,sB,sC]
  refine wpAnyH_take (i:=2) (oi:=⟨some 101,Op.fieldAddr 57 (.tmp 100) 0,0,"extra.go:30",#[⟨1,.data⟩],none⟩) (v:=?_) rfl (by kernel_rfl) (by kernel_rfl) (by kernel_rfl) (fun _ _ _ h=>h) (Or.inl ⟨by rfl,?_⟩) (by assumption) ?_
  rotate_left
  ·intro w z;(try dsimp only at z);go_simp;try with_reducible rfl
  simp only[Act.put,sA,sB,sC]
  refine wpAnyH_take (i:=3) (oi:=⟨some 102,Op.load 23 (.tmp 101),23,"extra.go:30",#[⟨2,.data⟩],none⟩) (v:=?_) rfl (by kernel_rfl) (by kernel_rfl) (by kernel_rfl) (fun _ _ _ h=>h) (Or.inl ⟨by rfl,?_⟩) (by assumption) ?_
  rotate_left
  ·intro w z;(try dsimp only at z);go_simp;try with_reducible rfl
  simp only[Act.put,sA,sB,sC]
  refine wpAnyH_take (i:=5) (oi:=⟨some 104,Op.move (.tmp 2),31,"extra.go:30",#[],none⟩) (v:=?_) rfl (by kernel_rfl) (by kernel_rfl) (by kernel_rfl) (fun _ _ _ h=>h) (Or.inl ⟨by rfl,?_⟩) (by assumption) ?_
  rotate_left
  ·intro w z;(try dsimp only at z);go_simp;try with_reducible rfl
  simp only[Act.put,sA,sB,sC]
  refine wpAnyH_ready (rs:=[4]) (by kernel_rfl) (by simp) ?_
  refine AllReadyH.cons (o:=⟨some 103,Op.load 59 (.tmp 12),59,"extra.go:30",#[],none⟩) rfl (fun Kt hKt=>?_) AllReadyH.nil
  go_simp
  refine hKt.out _ _ (x0) (fun hHeld=>?_)
  clear hKt Kt
  try simp only[Act.put,sA,sB,sC]
  refine wpAnyH_ready (rs:=[6]) (by kernel_rfl) (by simp) ?_
  refine AllReadyH.cons (o:={dst:=some 105,op:=Op.call {callee:=Callee.value (Operand.func 18),args:=#[Operand.tmp 102,Operand.tmp 103,Operand.const (Value.int IntKind.i64 1),Operand.tmp 104],argTypes:=#[23,59,3,31]},type:=60,pos:= "extra.go:30",after:=#[⟨3,.data⟩,⟨4,.data⟩,⟨5,.data⟩],guard:=none}) rfl (fun Kt hKt=>?_) AllReadyH.nil
  go_simp
  (with_reducible refine Calls.mono PP.out ?_)
  rintro e w6 ⟨rfl,σ6,o6,F6,g6,v6,C6,G6⟩
  have Wn:WS L D F1 w1 X R A B w6 F6 g6 v6 σ6 ⟨1,ky,1,0,false⟩ ⟨1,ky,1,0,false⟩:=(W5.out.below (Below.refl _ _).drew).go C6 G6
  have x3:w6.cell? ⟨X,0,none⟩=some (pt D.B):=Wn.k.cell 0
  have Ba:w6.heap[B]?=some (.cells #[.int .i64 1,.int .u64 ky,.int .i64 1,.int .i64 0,.bool false] 59 (0,0)):=Wn.b.1
  obtain⟨b0,b1,b2,b3,b4⟩:=bx5 Ba
  have blt:=lt_of_block Wn.b.1
  have bfz:∀o,w6.frozen? ⟨B,o,none⟩=false:=(fun o=>by simp[World.frozen?,Wn.b.1])
  have Wm:=Wn.setB ⟨2,ky,1,0,false⟩
  have x5:(set5w w6 B ⟨2,ky,1,0,false⟩).cell? ⟨X,0,none⟩=some (pt D.B):=Wm.k.cell 0
  unfold set5w set5 at x5
  try unfold wk0 at x5
  dsimp only at x5
  obtain⟨u6,hu⟩:∃q,set5w w6 B ⟨2,ky,1,0,false⟩=q:=⟨_,rfl⟩
  rw[hu] at Wm
  have HU6:Aside ((((((w6.setCell ⟨B,0,none⟩ (.int .i64 2)).setCell ⟨B,1,none⟩ (.int .u64 ky)).setCell ⟨B,2,none⟩ (.int .i64 1)).setCell ⟨B,3,none⟩ (.int .i64 0)).setCell ⟨B,4,none⟩ (.bool false))=u6):=hu
  have W6:Aside (WS L D F1 w1 X R A B u6 F6 g6 v6 σ6 ⟨1,ky,1,0,false⟩ ⟨2,ky,1,0,false⟩):=Wm
  have O6:Aside (One σ6 2 3 ky 8):=o6
  clear o6
  clear Wn Wm hu C6 G6 Ba
  go_wp2_with fail
  refine hKt.out _ _ (x3) (fun hHeld=>?_)
  clear hKt Kt
  try simp only[Act.put,sA,sB,sC]
  refine wpAnyH_take (i:=7) (oi:=⟨some 98,Op.move (.tmp 105),60,"extra.go:30",#[⟨6,.data⟩],none⟩) (v:=?_) rfl (by kernel_rfl) (by kernel_rfl) (by kernel_rfl) (fun _ _ _ h=>h) (Or.inl ⟨by rfl,?_⟩) (by assumption) ?_
  rotate_left
  ·intro w z;(try dsimp only at z);go_simp;try with_reducible rfl
  simp only[Act.put,sA,sB,sC]
  refine wpAnyH_take (i:=8) (oi:=⟨some 106,Op.extract (.tmp 98) 0,59,"extra.go:30",#[⟨7,.data⟩],none⟩) (v:=?_) rfl (by kernel_rfl) (by kernel_rfl) (by kernel_rfl) (fun _ _ _ h=>h) (Or.inl ⟨by rfl,?_⟩) (by assumption) ?_
  rotate_left
  ·intro w z;(try dsimp only at z);go_simp;try with_reducible rfl
  simp only[Act.put,sA,sB,sC]
  refine wpAnyH_take (i:=9) (oi:=⟨some 107,Op.extract (.tmp 98) 1,3,"extra.go:30",#[⟨7,.data⟩,{on:=10,ground:=Ground.gcOnly Departure.lateStores}],none⟩) (v:=?_) rfl (by kernel_rfl) (by kernel_rfl) (by kernel_rfl) (fun _ _ _ h=>h) (Or.inl ⟨by rfl,?_⟩) (by assumption) ?_
  rotate_left
  ·intro w z;(try dsimp only at z);go_simp;try with_reducible rfl
  simp only[Act.put,sA,sB,sC]
  refine wpAnyH_ready (rs:=[10]) (by kernel_rfl) (by simp) ?_
  refine AllReadyH.cons (o:=⟨none,Op.store 59 (.tmp 12) (.tmp 106),0,"extra.go:30",#[⟨8,.data⟩,⟨6,.chain⟩,⟨0,.phase⟩,⟨1,.phase⟩,⟨2,.phase⟩,⟨3,.phase⟩,⟨4,.phase⟩,⟨5,.phase⟩,⟨6,.phase⟩,⟨7,.phase⟩,⟨8,.phase⟩,{on:=9,ground:=Ground.textOnly Departure.lateStores}],none⟩) rfl (fun Kt hKt=>?_) AllReadyH.nil
  go_simp
  refine hKt.out _ _ (x5) (fun hHeld=>?_)
  clear hKt Kt
  try simp only[Act.put,sA,sB,sC]
  refine wpAnyH_take (i:=11) (oi:=⟨some 14,Op.assign (.tmp 107),3,"extra.go:30",#[⟨9,.data⟩,⟨10,.chain⟩,⟨0,.phase⟩,⟨1,.phase⟩,⟨2,.phase⟩,⟨3,.phase⟩,⟨4,.phase⟩,⟨5,.phase⟩,⟨6,.phase⟩,⟨7,.phase⟩,⟨8,.phase⟩,⟨9,.phase⟩,⟨10,.phase⟩],none⟩) (v:=?_) rfl (by kernel_rfl) (by kernel_rfl) (by kernel_rfl) (fun _ _ _ h=>h) (Or.inl ⟨by rfl,?_⟩) (by assumption) ?_
  rotate_left
  ·intro w z;(try dsimp only at z);go_simp;try with_reducible rfl
  simp only[Act.put,sA,sB,sC]
  refine wpAnyH_done (by kernel_rfl) ?_ _
  clear x0 x3 x5 a0 a1 a2 a3 a4 ad0 ad1 ad2 ad3 ad4 alt b0 b1 b2 b3 b4 blt bfz
  rw[HU6.out]
  obtain⟨b0,b1,b2,b3,b4⟩:=bx5 W6.out.b.1
  have blt:=lt_of_block W6.out.b.1
  go_wp2_with fail
  clear b0 b1 b2 b3 b4 blt
  have x0:u6.drew.cell? ⟨X,0,none⟩=some (pt D.B):=(W6.out.k.cell 0:u6.cell? ⟨X,0,none⟩=some (pt D.B))
  have Ba:u6.heap[A]?=some (.cells #[.int .i64 1,.int .u64 ky,.int .i64 1,.int .i64 0,.bool false] 59 (0,0)):=W6.out.a.1
  obtain⟨a0,a1,a2,a3,a4⟩:=bx5 Ba
  obtain⟨ad0,ad1,ad2,ad3,ad4⟩:=bx5 (w:=u6.drew) Ba
  have alt:=lt_of_block Ba
  clear Ba
  have PP:Aside (Calls Tryz.prog 18 #[pt D.B,.agg #[.int .i64 1,.int .u64 ky,.int .i64 1,.int .i64 0,.bool false],.int .i64 0,.int .u64 dr] u6.drew fun e w'=>e=.returned (.tuple #[.agg #[.int .i64 0,.int .u64 0,.int .i64 0,.int .i64 0,.bool false],.int .i64 4])∧Cox L D F6 u6.drew σ6 w'):=asd (oneMiss (t:=0) (dr:=dr) W6.out.c.drew O6.out (by omega) (by omega) (by omega) ky)
  go_wp2_with fail
  refine wp_region_held_drew (S:=(fun V:World=>V.cell? ⟨X,0,none⟩=some (pt D.B))) (by kernel_rfl) (x0) (fun hHeld=>?_)
  refine wpAnyH_take (i:=0) (oi:=⟨some 116,Op.move (.tmp 7),53,"extra.go:33",#[],none⟩) (v:=?_) rfl (by kernel_rfl) (by kernel_rfl) (by kernel_rfl) (fun _ _ _ h=>h) (Or.inl ⟨by rfl,?_⟩) (by assumption) ?_
  rotate_left
  ·intro w z;(try dsimp only at z);go_simp;try with_reducible rfl
  simp only[Act.put,sA,sB,sC]
  refine wpAnyH_take (i:=1) (oi:=⟨some 117,Op.nilCheck (.tmp 116),0,"extra.go:33",#[⟨0,.data⟩],none⟩) (v:=?_) rfl (by kernel_rfl) (by kernel_rfl) (by kernel_rfl) (fun _ _ _ h=>h) (Or.inl ⟨by rfl,?_⟩) (by assumption) ?_
  rotate_left
  ·intro w z;(try dsimp only at z);go_simp;try with_reducible rfl
  simp only[Act.put,sA,sB,sC]
  refine wpAnyH_take (i:=2) (oi:=⟨some 118,Op.fieldAddr 57 (.tmp 117) 0,0,"extra.go:33",#[⟨1,.data⟩],none⟩) (v:=?_) rfl (by kernel_rfl) (by kernel_rfl) (by kernel_rfl) (fun _ _ _ h=>h) (Or.inl ⟨by rfl,?_⟩) (by assumption) ?_
  rotate_left
  ·intro w z;(try dsimp only at z);go_simp;try with_reducible rfl
  simp only[Act.put,sA,sB,sC]
  refine wpAnyH_take (i:=3) (oi:=⟨some 119,Op.load 23 (.tmp 118),23,"extra.go:33",#[⟨2,.data⟩],none⟩) (v:=?_) rfl (by kernel_rfl) (by kernel_rfl) (by kernel_rfl) (fun _ _ _ h=>h) (Or.inl ⟨by rfl,?_⟩) (by assumption) ?_
  rotate_left
  ·intro w z;(try dsimp only at z);go_simp;try with_reducible rfl
  simp only[Act.put,sA,sB,sC]
  refine wpAnyH_take (i:=5) (oi:=⟨some 121,Op.move (.tmp 2),31,"extra.go:33",#[],none⟩) (v:=?_) rfl (by kernel_rfl) (by kernel_rfl) (by kernel_rfl) (fun _ _ _ h=>h) (Or.inl ⟨by rfl,?_⟩) (by assumption) ?_
  rotate_left
  ·intro w z;(try dsimp only at z);go_simp;try with_reducible rfl
  simp only[Act.put,sA,sB,sC]
  refine wpAnyH_ready (rs:=[4]) (by kernel_rfl) (by simp) ?_
  refine AllReadyH.cons (o:=⟨some 120,Op.load 59 (.tmp 10),59,"extra.go:33",#[],none⟩) rfl (fun Kt hKt=>?_) AllReadyH.nil
  go_simp
  refine hKt.out _ _ (x0) (fun hHeld=>?_)
  clear hKt Kt
  try simp only[Act.put,sA,sB,sC]
  refine wpAnyH_ready (rs:=[6]) (by kernel_rfl) (by simp) ?_
  refine AllReadyH.cons (o:={dst:=some 122,op:=Op.call {callee:=Callee.value (Operand.func 18),args:=#[Operand.tmp 119,Operand.tmp 120,Operand.const (Value.int IntKind.i64 0),Operand.tmp 121],argTypes:=#[23,59,3,31]},type:=60,pos:= "extra.go:33",after:=#[⟨3,.data⟩,⟨4,.data⟩,⟨5,.data⟩],guard:=none}) rfl (fun Kt hKt=>?_) AllReadyH.nil
  go_simp
  (with_reducible refine Calls.mono PP.out ?_)
  rintro e w7 ⟨rfl,F7,g7,v7,C7,G7⟩
  have Wn:WS L D F1 w1 X R A B w7 F7 g7 v7 σ6 ⟨1,ky,1,0,false⟩ ⟨2,ky,1,0,false⟩:=(W6.out.below (Below.refl _ _).drew).go C7 G7
  have x3:w7.cell? ⟨X,0,none⟩=some (pt D.B):=Wn.k.cell 0
  have Ba:w7.heap[A]?=some (.cells #[.int .i64 1,.int .u64 ky,.int .i64 1,.int .i64 0,.bool false] 59 (0,0)):=Wn.a.1
  obtain⟨b0,b1,b2,b3,b4⟩:=bx5 Ba
  have blt:=lt_of_block Wn.a.1
  have bfz:∀o,w7.frozen? ⟨A,o,none⟩=false:=(fun o=>by simp[World.frozen?,Wn.a.1])
  have Wm:=Wn.setA wk0
  have x5:(set5w w7 A wk0).cell? ⟨X,0,none⟩=some (pt D.B):=Wm.k.cell 0
  unfold set5w set5 at x5
  try unfold wk0 at x5
  dsimp only at x5
  obtain⟨u7,hu⟩:∃q,set5w w7 A wk0=q:=⟨_,rfl⟩
  rw[hu] at Wm
  have HU7:Aside ((((((w7.setCell ⟨A,0,none⟩ (.int .i64 0)).setCell ⟨A,1,none⟩ (.int .u64 0)).setCell ⟨A,2,none⟩ (.int .i64 0)).setCell ⟨A,3,none⟩ (.int .i64 0)).setCell ⟨A,4,none⟩ (.bool false))=u7):=hu
  have W7:Aside (WS L D F1 w1 X R A B u7 F7 g7 v7 σ6 wk0 ⟨2,ky,1,0,false⟩):=Wm
  clear Wn Wm hu C7 G7 Ba
  go_wp2_with fail
  refine hKt.out _ _ (x3) (fun hHeld=>?_)
  clear hKt Kt
  try simp only[Act.put,sA,sB,sC]
  refine wpAnyH_take (i:=7) (oi:=⟨some 115,Op.move (.tmp 122),60,"extra.go:33",#[⟨6,.data⟩],none⟩) (v:=?_) rfl (by kernel_rfl) (by kernel_rfl) (by kernel_rfl) (fun _ _ _ h=>h) (Or.inl ⟨by rfl,?_⟩) (by assumption) ?_
  rotate_left
  ·intro w z;(try dsimp only at z);go_simp;try with_reducible rfl
  simp only[Act.put,sA,sB,sC]
  refine wpAnyH_take (i:=8) (oi:=⟨some 123,Op.extract (.tmp 115) 0,59,"extra.go:33",#[⟨7,.data⟩],none⟩) (v:=?_) rfl (by kernel_rfl) (by kernel_rfl) (by kernel_rfl) (fun _ _ _ h=>h) (Or.inl ⟨by rfl,?_⟩) (by assumption) ?_
  rotate_left
  ·intro w z;(try dsimp only at z);go_simp;try with_reducible rfl
  simp only[Act.put,sA,sB,sC]
  refine wpAnyH_take (i:=9) (oi:=⟨some 124,Op.extract (.tmp 115) 1,3,"extra.go:33",#[⟨7,.data⟩,{on:=10,ground:=Ground.gcOnly Departure.lateStores}],none⟩) (v:=?_) rfl (by kernel_rfl) (by kernel_rfl) (by kernel_rfl) (fun _ _ _ h=>h) (Or.inl ⟨by rfl,?_⟩) (by assumption) ?_
  rotate_left
  ·intro w z;(try dsimp only at z);go_simp;try with_reducible rfl
  simp only[Act.put,sA,sB,sC]
  refine wpAnyH_ready (rs:=[10]) (by kernel_rfl) (by simp) ?_
  refine AllReadyH.cons (o:=⟨none,Op.store 59 (.tmp 10) (.tmp 123),0,"extra.go:33",#[⟨8,.data⟩,⟨6,.chain⟩,⟨0,.phase⟩,⟨1,.phase⟩,⟨2,.phase⟩,⟨3,.phase⟩,⟨4,.phase⟩,⟨5,.phase⟩,⟨6,.phase⟩,⟨7,.phase⟩,⟨8,.phase⟩,{on:=9,ground:=Ground.textOnly Departure.lateStores}],none⟩) rfl (fun Kt hKt=>?_) AllReadyH.nil
  go_simp
  refine hKt.out _ _ (x5) (fun hHeld=>?_)
  clear hKt Kt
  try simp only[Act.put,sA,sB,sC]
  refine wpAnyH_take (i:=11) (oi:=⟨some 13,Op.assign (.tmp 124),3,"extra.go:33",#[⟨9,.data⟩,⟨10,.chain⟩,⟨0,.phase⟩,⟨1,.phase⟩,⟨2,.phase⟩,⟨3,.phase⟩,⟨4,.phase⟩,⟨5,.phase⟩,⟨6,.phase⟩,⟨7,.phase⟩,⟨8,.phase⟩,⟨9,.phase⟩,⟨10,.phase⟩],none⟩) (v:=?_) rfl (by kernel_rfl) (by kernel_rfl) (by kernel_rfl) (fun _ _ _ h=>h) (Or.inl ⟨by rfl,?_⟩) (by assumption) ?_
  rotate_left
  ·intro w z;(try dsimp only at z);go_simp;try with_reducible rfl
  simp only[Act.put,sA,sB,sC]
  refine wpAnyH_done (by kernel_rfl) ?_ _
  clear x0 x3 x5 a0 a1 a2 a3 a4 ad0 ad1 ad2 ad3 ad4 alt b0 b1 b2 b3 b4 blt bfz
  rw[HU7.out]
  obtain⟨N2,hN2⟩:∃J,u7.heap.size=J:=⟨_,rfl⟩
  have hAX:A<N2∧X<N2:=by rw[←hN2];exact⟨lt_of_block W7.out.a.1,lt_of_block W7.out.k.1⟩
  have KS:Aside (∀W V F g v σ y,WS L D F1 w1 X R A B W F g v σ wk0 y→Below N2 W V→V.cell? ⟨X,0,none⟩=some (pt D.B)∧V.cell? ⟨A,0,none⟩=some (.int .i64 0)∧V.cell? ⟨A,1,none⟩=some (.int .u64 0)∧V.cell? ⟨A,2,none⟩=some (.int .i64 0)∧V.cell? ⟨A,3,none⟩=some (.int .i64 0)∧V.cell? ⟨A,4,none⟩=some (.bool false)):=asd (fun W V F g v σ y h b=>by
   have hx:V.heap[X]?=_:=(b.block X hAX.2).trans h.k.1
   have ha:V.heap[A]?=some (.cells #[.int .i64 0,.int .u64 0,.int .i64 0,.int .i64 0,.bool false] 59 (0,0)):=(b.block A hAX.1).trans h.a.1
   exact⟨by rw[cell_of_row _ _ _ _ _ _ hx];rfl,bx5 ha⟩)
  have NC:Aside (∀W,Below u7.heap.size u7 W→Calls Tryz.prog 18 #[pt D.B,.agg #[.int .i64 0,.int .u64 0,.int .i64 0,.int .i64 0,.bool false],.int .i64 0,.int .u64 dr] W fun e w'=>e=.returned (.tuple #[.agg #[.int .i64 0,.int .u64 0,.int .i64 0,.int .i64 0,.bool false],.int .i64 0])∧Cox L D F7 W (setS σ6 0) w'):=asd (fun W b=>oneNone (t:=0) (dr:=dr) (W7.out.c.below b) O6.out (by omega) (by omega) (by omega) HD.out.1)
  have bD:Below u7.heap.size u7 u7.drew:=(Below.refl _ _).drew
  have bA:Below u7.heap.size u7 (u7.alloc (.cells #[.int .i64 0,.int .u64 0,.int .i64 0,.int .i64 0,.bool false] 59)).drew:=(belA _ _).drew
  have kD:=KS.out u7 u7.drew _ _ _ _ _ W7.out (by rw[←hN2];exact bD)
  have kA:=KS.out u7 (u7.alloc (.cells #[.int .i64 0,.int .u64 0,.int .i64 0,.int .i64 0,.bool false] 59)).drew _ _ _ _ _ W7.out (by rw[←hN2];exact bA)
  have HBA:Aside (Below u7.heap.size u7 u7.drew∧Below u7.heap.size u7 (u7.alloc (.cells #[.int .i64 0,.int .u64 0,.int .i64 0,.int .i64 0,.bool false] 59)).drew):=⟨bD,bA⟩
  have BC:Aside (Bx (u7.alloc (.cells #[.int .i64 0,.int .u64 0,.int .i64 0,.int .i64 0,.bool false] 59)).drew F7 N2 #[.int .i64 0,.int .u64 0,.int .i64 0,.int .i64 0,.bool false] 59):=asd (by rw[←hN2];exact Bx.new W7.out.c _ _)
  have HN2:Aside (u7.heap.size=N2):=hN2
  have HAX:Aside (A<N2∧X<N2):=hAX
  have FN:Aside (∀W V F g v σ y,WS L D F1 w1 X R A B W F g v σ wk0 y→Below N2 W V→Below w.heap.size w V∧V.heap[A]?=some (.cells #[.int .i64 0,.int .u64 0,.int .i64 0,.int .i64 0,.bool false] 59 (0,0))):=asd (fun W V F g v σ y h b=>⟨(B1.out.1.trans (h.gc.low.mono B1.out.2.1)).trans (b.mono (by rw[←hN2];exact Nat.le_trans B1.out.1.size (Nat.le_trans W7.out.gc.size (Nat.le_refl _)))),(b.block A hAX.1).trans h.a.1⟩)
  clear hN2 hAX bD bA
  go_upto_region 20 with fail
  go_cut [15,16] (fun s15 s16 wx=>∃(M:Nat),s15=.pointer (some ⟨M,0,none⟩)∧s16=.int .i64 0∧Below w.heap.size w wx∧wx.heap[A]?=some (.cells #[.int .i64 0,.int .u64 0,.int .i64 0,.int .i64 0,.bool false] 59 (0,0))∧wx.heap[M]?=some (.cells #[.int .i64 0,.int .u64 0,.int .i64 0,.int .i64 0,.bool false] 59 (0,0)))
  case first=>
   refine wp_region_held_drew (S:=(fun V:World=>V.cell? ⟨X,0,none⟩=some (pt D.B)∧V.cell? ⟨A,0,none⟩=some (.int .i64 0)∧V.cell? ⟨A,1,none⟩=some (.int .u64 0)∧V.cell? ⟨A,2,none⟩=some (.int .i64 0)∧V.cell? ⟨A,3,none⟩=some (.int .i64 0)∧V.cell? ⟨A,4,none⟩=some (.bool false))) (by kernel_rfl) (kD) (fun hHeld=>?_)
   refine wpAnyH_take (i:=0) (oi:=⟨some 126,Op.move (.tmp 7),53,"extra.go:34",#[],none⟩) (v:=?_) rfl (by kernel_rfl) (by kernel_rfl) (by kernel_rfl) (fun _ _ _ h=>h) (Or.inl ⟨by rfl,?_⟩) (by assumption) ?_
   rotate_left
   ·intro w z;(try dsimp only at z);go_simp;try with_reducible rfl
   simp only[Act.put,sA,sB,sC]
   refine wpAnyH_take (i:=1) (oi:=⟨some 127,Op.nilCheck (.tmp 126),0,"extra.go:34",#[⟨0,.data⟩],none⟩) (v:=?_) rfl (by kernel_rfl) (by kernel_rfl) (by kernel_rfl) (fun _ _ _ h=>h) (Or.inl ⟨by rfl,?_⟩) (by assumption) ?_
   rotate_left
   ·intro w z;(try dsimp only at z);go_simp;try with_reducible rfl
   simp only[Act.put,sA,sB,sC]
   refine wpAnyH_take (i:=2) (oi:=⟨some 128,Op.fieldAddr 57 (.tmp 127) 0,0,"extra.go:34",#[⟨1,.data⟩],none⟩) (v:=?_) rfl (by kernel_rfl) (by kernel_rfl) (by kernel_rfl) (fun _ _ _ h=>h) (Or.inl ⟨by rfl,?_⟩) (by assumption) ?_
   rotate_left
   ·intro w z;(try dsimp only at z);go_simp;try with_reducible rfl
   simp only[Act.put,sA,sB,sC]
   refine wpAnyH_take (i:=3) (oi:=⟨some 129,Op.load 23 (.tmp 128),23,"extra.go:34",#[⟨2,.data⟩],none⟩) (v:=?_) rfl (by kernel_rfl) (by kernel_rfl) (by kernel_rfl) (fun _ _ _ h=>h) (Or.inl ⟨by rfl,?_⟩) (by assumption) ?_
   rotate_left
   ·intro w z;(try dsimp only at z);go_simp;try with_reducible rfl
   simp only[Act.put,sA,sB,sC]
   refine wpAnyH_take (i:=4) (oi:=⟨some 130,Op.load 59 (.tmp 10),59,"extra.go:34",#[],none⟩) (v:=?_) rfl (by kernel_rfl) (by kernel_rfl) (by kernel_rfl) (fun _ _ _ h=>h) (Or.inl ⟨by rfl,?_⟩) (by assumption) ?_
   rotate_left
   ·intro w z;(try dsimp only at z);go_simp;try with_reducible rfl
   simp only[Act.put,sA,sB,sC]
   refine wpAnyH_take (i:=5) (oi:=⟨some 131,Op.move (.tmp 2),31,"extra.go:34",#[],none⟩) (v:=?_) rfl (by kernel_rfl) (by kernel_rfl) (by kernel_rfl) (fun _ _ _ h=>h) (Or.inl ⟨by rfl,?_⟩) (by assumption) ?_
   rotate_left
   ·intro w z;(try dsimp only at z);go_simp;try with_reducible rfl
   simp only[Act.put,sA,sB,sC]
   refine wpAnyH_ready (rs:=[6,10]) (by kernel_rfl) (by simp) ?_
   refine AllReadyH.cons (o:={dst:=some 132,op:=Op.call {callee:=Callee.value (Operand.func 18),args:=#[Operand.tmp 129,Operand.tmp 130,Operand.const (Value.int IntKind.i64 0),Operand.tmp 131],argTypes:=#[23,59,3,31]},type:=60,pos:= "extra.go:34",after:=#[⟨3,.data⟩,⟨4,.data⟩,⟨5,.data⟩],guard:=none}) rfl (fun Kt hKt=>?_) (AllReadyH.cons (o:=⟨some 15,Op.alloc 59,0,"extra.go:34",#[],none⟩) rfl (fun Kt hKt=>?_) AllReadyH.nil)
   ·go_simp
    (with_reducible refine Calls.mono (NC.out u7.drew HBA.out.1) ?_)
    rintro e w8 ⟨rfl,F8,g8,v8,C8,G8⟩
    have W8:=(W7.out.below HBA.out.1).go C8 G8
    have z8:N2≤w8.heap.size:=by {have:=G8.size;have e1:u7.drew.heap.size=N2:=HN2.out;omega}
    have k8:=KS.out w8 w8 _ _ _ _ _ W8 (Below.refl _ _)
    have kB8:=KS.out w8 (w8.alloc (.cells #[.int .i64 0,.int .u64 0,.int .i64 0,.int .i64 0,.bool false] 59)) _ _ _ _ _ W8 ((belA _ _).mono z8)
    have q8:=FN.out w8 (w8.alloc (.cells #[.int .i64 0,.int .u64 0,.int .i64 0,.int .i64 0,.bool false] 59)) _ _ _ _ _ W8 ((belA _ _).mono z8)
    clear W8 C8 G8
    go_wp2_with fail
    refine hKt.out _ _ (k8) (fun hHeld=>?_)
    clear hKt Kt
    try simp only[Act.put,sA,sB,sC]
    refine wpAnyH_take (i:=7) (oi:=⟨some 125,Op.move (.tmp 132),60,"extra.go:34",#[⟨6,.data⟩],none⟩) (v:=?_) rfl (by kernel_rfl) (by kernel_rfl) (by kernel_rfl) (fun _ _ _ h=>h) (Or.inl ⟨by rfl,?_⟩) (by assumption) ?_
    rotate_left
    ·intro w z;(try dsimp only at z);go_simp;try with_reducible rfl
    simp only[Act.put,sA,sB,sC]
    refine wpAnyH_take (i:=8) (oi:=⟨some 133,Op.extract (.tmp 125) 0,59,"extra.go:34",#[⟨7,.data⟩],none⟩) (v:=?_) rfl (by kernel_rfl) (by kernel_rfl) (by kernel_rfl) (fun _ _ _ h=>h) (Or.inl ⟨by rfl,?_⟩) (by assumption) ?_
    rotate_left
    ·intro w z;(try dsimp only at z);go_simp;try with_reducible rfl
    simp only[Act.put,sA,sB,sC]
    refine wpAnyH_take (i:=9) (oi:=⟨some 134,Op.extract (.tmp 125) 1,3,"extra.go:34",#[⟨7,.data⟩,{on:=11,ground:=Ground.gcOnly Departure.lateStores}],none⟩) (v:=?_) rfl (by kernel_rfl) (by kernel_rfl) (by kernel_rfl) (fun _ _ _ h=>h) (Or.inl ⟨by rfl,?_⟩) (by assumption) ?_
    rotate_left
    ·intro w z;(try dsimp only at z);go_simp;try with_reducible rfl
    simp only[Act.put,sA,sB,sC]
    refine wpAnyH_ready (rs:=[10]) (by kernel_rfl) (by simp) ?_
    refine AllReadyH.cons (o:=⟨some 15,Op.alloc 59,0,"extra.go:34",#[],none⟩) rfl (fun Kt hKt=>?_) AllReadyH.nil
    go_simp
    refine hKt.out _ _ (kB8) (fun hHeld=>?_)
    clear hKt Kt
    try simp only[Act.put,sA,sB,sC]
    refine wpAnyH_ready (rs:=[11]) (by kernel_rfl) (by simp) ?_
    refine AllReadyH.cons (o:=⟨none,Op.store 59 (.tmp 15) (.tmp 133),0,"extra.go:34",#[⟨10,.data⟩,⟨8,.data⟩,⟨6,.chain⟩,⟨0,.phase⟩,⟨1,.phase⟩,⟨2,.phase⟩,⟨3,.phase⟩,⟨4,.phase⟩,⟨5,.phase⟩,⟨6,.phase⟩,⟨7,.phase⟩,⟨8,.phase⟩,{on:=9,ground:=Ground.textOnly Departure.lateStores},⟨10,.phase⟩],none⟩) rfl (fun Kt hKt=>?_) AllReadyH.nil
    go_simp
    refine hKt.out _ _ (kB8) (fun hHeld=>?_)
    clear hKt Kt
    try simp only[Act.put,sA,sB,sC]
    refine wpAnyH_take (i:=12) (oi:=⟨some 16,Op.assign (.tmp 134),3,"extra.go:34",#[⟨9,.data⟩,⟨11,.chain⟩,⟨0,.phase⟩,⟨1,.phase⟩,⟨2,.phase⟩,⟨3,.phase⟩,⟨4,.phase⟩,⟨5,.phase⟩,⟨6,.phase⟩,⟨7,.phase⟩,⟨8,.phase⟩,⟨9,.phase⟩,⟨10,.phase⟩,⟨11,.phase⟩],none⟩) (v:=?_) rfl (by kernel_rfl) (by kernel_rfl) (by kernel_rfl) (fun _ _ _ h=>h) (Or.inl ⟨by rfl,?_⟩) (by assumption) ?_
    rotate_left
    ·intro w z;(try dsimp only at z);go_simp;try with_reducible rfl
    simp only[Act.put,sA,sB,sC]
    refine wpAnyH_done (by kernel_rfl) ?_ _
    go_wp2_with fail
    go_meet
    exact⟨w8.heap.size,rfl,rfl,q8.1,q8.2,heap_alloc_new w8 _⟩
   ·go_simp
    refine hKt.out _ _ (kA) (fun hHeld=>?_)
    clear hKt Kt
    try simp only[Act.put,sA,sB,sC]
    refine wpAnyH_ready (rs:=[6]) (by kernel_rfl) (by simp) ?_
    refine AllReadyH.cons (o:={dst:=some 132,op:=Op.call {callee:=Callee.value (Operand.func 18),args:=#[Operand.tmp 129,Operand.tmp 130,Operand.const (Value.int IntKind.i64 0),Operand.tmp 131],argTypes:=#[23,59,3,31]},type:=60,pos:= "extra.go:34",after:=#[⟨3,.data⟩,⟨4,.data⟩,⟨5,.data⟩],guard:=none}) rfl (fun Kt hKt=>?_) AllReadyH.nil
    go_simp
    (with_reducible refine Calls.mono (NC.out (u7.alloc (.cells #[.int .i64 0,.int .u64 0,.int .i64 0,.int .i64 0,.bool false] 59)).drew HBA.out.2) ?_)
    rintro e w8 ⟨rfl,F8,g8,v8,C8,G8⟩
    have W8:=(W7.out.below HBA.out.2).go C8 G8
    have k8:=KS.out w8 w8 _ _ _ _ _ W8 (Below.refl _ _)
    have hb8:w8.heap[N2]?=some (.cells #[.int .i64 0,.int .u64 0,.int .i64 0,.int .i64 0,.bool false] 59 (0,0)):=(BC.out.gc mq_wk G8).1
    obtain⟨m0,m1,m2,m3,m4⟩:=bx5 hb8
    have mlt:=lt_of_block hb8
    have mfz:∀o,w8.frozen? ⟨N2,o,none⟩=false:=(fun o=>by simp[World.frozen?,hb8])
    have bE:=bel_set5 w8 N2 (.int .i64 0) (.int .u64 0) (.int .i64 0) (.int .i64 0) (.bool false)
    have kE8:=KS.out w8 _ _ _ _ _ _ W8 bE
    have q8:=FN.out w8 _ _ _ _ _ _ W8 bE
    have h8:=set5_at hb8 (.int .i64 0) (.int .u64 0) (.int .i64 0) (.int .i64 0) (.bool false)
    unfold set5 at kE8 q8 h8
    clear W8 C8 G8 hb8 bE
    try simp only[HN2.out]
    go_wp2_with fail
    refine hKt.out _ _ (k8) (fun hHeld=>?_)
    clear hKt Kt
    try simp only[Act.put,sA,sB,sC]
    refine wpAnyH_take (i:=7) (oi:=⟨some 125,Op.move (.tmp 132),60,"extra.go:34",#[⟨6,.data⟩],none⟩) (v:=?_) rfl (by kernel_rfl) (by kernel_rfl) (by kernel_rfl) (fun _ _ _ h=>h) (Or.inl ⟨by rfl,?_⟩) (by assumption) ?_
    rotate_left
    ·intro w z;(try dsimp only at z);go_simp;try with_reducible rfl
    simp only[Act.put,sA,sB,sC]
    refine wpAnyH_take (i:=8) (oi:=⟨some 133,Op.extract (.tmp 125) 0,59,"extra.go:34",#[⟨7,.data⟩],none⟩) (v:=?_) rfl (by kernel_rfl) (by kernel_rfl) (by kernel_rfl) (fun _ _ _ h=>h) (Or.inl ⟨by rfl,?_⟩) (by assumption) ?_
    rotate_left
    ·intro w z;(try dsimp only at z);go_simp;try with_reducible rfl
    simp only[Act.put,sA,sB,sC]
    refine wpAnyH_take (i:=9) (oi:=⟨some 134,Op.extract (.tmp 125) 1,3,"extra.go:34",#[⟨7,.data⟩,{on:=11,ground:=Ground.gcOnly Departure.lateStores}],none⟩) (v:=?_) rfl (by kernel_rfl) (by kernel_rfl) (by kernel_rfl) (fun _ _ _ h=>h) (Or.inl ⟨by rfl,?_⟩) (by assumption) ?_
    rotate_left
    ·intro w z;(try dsimp only at z);go_simp;try with_reducible rfl
    simp only[Act.put,sA,sB,sC]
    refine wpAnyH_ready (rs:=[11]) (by kernel_rfl) (by simp) ?_
    refine AllReadyH.cons (o:=⟨none,Op.store 59 (.tmp 15) (.tmp 133),0,"extra.go:34",#[⟨10,.data⟩,⟨8,.data⟩,⟨6,.chain⟩,⟨0,.phase⟩,⟨1,.phase⟩,⟨2,.phase⟩,⟨3,.phase⟩,⟨4,.phase⟩,⟨5,.phase⟩,⟨6,.phase⟩,⟨7,.phase⟩,⟨8,.phase⟩,{on:=9,ground:=Ground.textOnly Departure.lateStores},⟨10,.phase⟩],none⟩) rfl (fun Kt hKt=>?_) AllReadyH.nil
    go_simp
    try simp only[HN2.out]
    refine hKt.out _ _ (kE8) (fun hHeld=>?_)
    clear hKt Kt
    try simp only[Act.put,sA,sB,sC]
    refine wpAnyH_take (i:=12) (oi:=⟨some 16,Op.assign (.tmp 134),3,"extra.go:34",#[⟨9,.data⟩,⟨11,.chain⟩,⟨0,.phase⟩,⟨1,.phase⟩,⟨2,.phase⟩,⟨3,.phase⟩,⟨4,.phase⟩,⟨5,.phase⟩,⟨6,.phase⟩,⟨7,.phase⟩,⟨8,.phase⟩,⟨9,.phase⟩,⟨10,.phase⟩,⟨11,.phase⟩],none⟩) (v:=?_) rfl (by kernel_rfl) (by kernel_rfl) (by kernel_rfl) (fun _ _ _ h=>h) (Or.inl ⟨by rfl,?_⟩) (by assumption) ?_
    rotate_left
    ·intro w z;(try dsimp only at z);go_simp;try with_reducible rfl
    simp only[Act.put,sA,sB,sC]
    refine wpAnyH_done (by kernel_rfl) ?_ _
    go_wp2_with fail
    go_meet
    exact⟨N2,by simp only,rfl,q8.1,q8.2,h8⟩
  case rest=>
   obtain⟨M,rfl,rfl,bw,hA9,hM9⟩:=hcut
   have BW:Aside (Below w.heap.size w wc):=bw
   obtain⟨a0,a1,a2,a3,a4⟩:=bx5 hA9
   have alt:=lt_of_block hA9
   obtain⟨m0,m1,m2,m3,m4⟩:=bx5 hM9
   have mlt:=lt_of_block hM9
   clear bw hA9 hM9 kD kA
   go_wp2_with fail
   refine(awake19C _).mono ?_
   rintro e w9 ⟨rfl,b9⟩
   have FIN:Aside (Below w.heap.size w w9):=belT BW.out b9
   clear b9
   go_wp2_with fail
   go_ret
   exact⟨rfl,FIN.out⟩
 case true=>
  go_wp2_with fail
  refine PC.out.mono ?_
  rintro e u6 ⟨rfl,σ6,o6,F6,g6,v6,C6,G6⟩
  have W6:Aside (WS L D F1 w1 X R A B u6 F6 g6 v6 σ6 ⟨1,ky,1,0,false⟩ ⟨1,ky,1,0,false⟩):=W5.out.go C6 G6
  have O6:Aside (One σ6 2 6 ky 8):=o6
  clear a0 a1 a2 a3 a4 b0 b1 b2 b3 b4 alt blt x0 xlt C6 G6 o6
  go_wp2_with fail
  have x0:u6.drew.cell? ⟨X,0,none⟩=some (pt D.B):=(W6.out.k.cell 0:u6.cell? ⟨X,0,none⟩=some (pt D.B))
  have Ba:u6.heap[A]?=some (.cells #[.int .i64 1,.int .u64 ky,.int .i64 1,.int .i64 0,.bool false] 59 (0,0)):=W6.out.a.1
  obtain⟨a0,a1,a2,a3,a4⟩:=bx5 Ba
  obtain⟨ad0,ad1,ad2,ad3,ad4⟩:=bx5 (w:=u6.drew) Ba
  have alt:=lt_of_block Ba
  clear Ba
  have PP:Aside (Calls Tryz.prog 18 #[pt D.B,.agg #[.int .i64 1,.int .u64 ky,.int .i64 1,.int .i64 0,.bool false],.int .i64 0,.int .u64 dr] u6.drew fun e w'=>e=.returned (.tuple #[.agg #[.int .i64 0,.int .u64 0,.int .i64 0,.int .i64 0,.bool false],.int .i64 4])∧Cox L D F6 u6.drew σ6 w'):=asd (oneMiss (t:=0) (dr:=dr) W6.out.c.drew O6.out (by omega) (by omega) (by omega) ky)
  go_wp2_with fail
  refine wp_region_held_drew (S:=(fun V:World=>V.cell? ⟨X,0,none⟩=some (pt D.B))) (by kernel_rfl) (x0) (fun hHeld=>?_)
  refine wpAnyH_take (i:=0) (oi:=⟨some 116,Op.move (.tmp 7),53,"extra.go:33",#[],none⟩) (v:=?_) rfl (by kernel_rfl) (by kernel_rfl) (by kernel_rfl) (fun _ _ _ h=>h) (Or.inl ⟨by rfl,?_⟩) (by assumption) ?_
  rotate_left
  ·intro w z;(try dsimp only at z);go_simp;try with_reducible rfl
  simp only[Act.put,sA,sB,sC]
  refine wpAnyH_take (i:=1) (oi:=⟨some 117,Op.nilCheck (.tmp 116),0,"extra.go:33",#[⟨0,.data⟩],none⟩) (v:=?_) rfl (by kernel_rfl) (by kernel_rfl) (by kernel_rfl) (fun _ _ _ h=>h) (Or.inl ⟨by rfl,?_⟩) (by assumption) ?_
  rotate_left
  ·intro w z;(try dsimp only at z);go_simp;try with_reducible rfl
  simp only[Act.put,sA,sB,sC]
  refine wpAnyH_take (i:=2) (oi:=⟨some 118,Op.fieldAddr 57 (.tmp 117) 0,0,"extra.go:33",#[⟨1,.data⟩],none⟩) (v:=?_) rfl (by kernel_rfl) (by kernel_rfl) (by kernel_rfl) (fun _ _ _ h=>h) (Or.inl ⟨by rfl,?_⟩) (by assumption) ?_
  rotate_left
  ·intro w z;(try dsimp only at z);go_simp;try with_reducible rfl
  simp only[Act.put,sA,sB,sC]
  refine wpAnyH_take (i:=3) (oi:=⟨some 119,Op.load 23 (.tmp 118),23,"extra.go:33",#[⟨2,.data⟩],none⟩) (v:=?_) rfl (by kernel_rfl) (by kernel_rfl) (by kernel_rfl) (fun _ _ _ h=>h) (Or.inl ⟨by rfl,?_⟩) (by assumption) ?_
  rotate_left
  ·intro w z;(try dsimp only at z);go_simp;try with_reducible rfl
  simp only[Act.put,sA,sB,sC]
  refine wpAnyH_take (i:=5) (oi:=⟨some 121,Op.move (.tmp 2),31,"extra.go:33",#[],none⟩) (v:=?_) rfl (by kernel_rfl) (by kernel_rfl) (by kernel_rfl) (fun _ _ _ h=>h) (Or.inl ⟨by rfl,?_⟩) (by assumption) ?_
  rotate_left
  ·intro w z;(try dsimp only at z);go_simp;try with_reducible rfl
  simp only[Act.put,sA,sB,sC]
  refine wpAnyH_ready (rs:=[4]) (by kernel_rfl) (by simp) ?_
  refine AllReadyH.cons (o:=⟨some 120,Op.load 59 (.tmp 10),59,"extra.go:33",#[],none⟩) rfl (fun Kt hKt=>?_) AllReadyH.nil
  go_simp
  refine hKt.out _ _ (x0) (fun hHeld=>?_)
  clear hKt Kt
  try simp only[Act.put,sA,sB,sC]
  refine wpAnyH_ready (rs:=[6]) (by kernel_rfl) (by simp) ?_
  refine AllReadyH.cons (o:={dst:=some 122,op:=Op.call {callee:=Callee.value (Operand.func 18),args:=#[Operand.tmp 119,Operand.tmp 120,Operand.const (Value.int IntKind.i64 0),Operand.tmp 121],argTypes:=#[23,59,3,31]},type:=60,pos:= "extra.go:33",after:=#[⟨3,.data⟩,⟨4,.data⟩,⟨5,.data⟩],guard:=none}) rfl (fun Kt hKt=>?_) AllReadyH.nil
  go_simp
  (with_reducible refine Calls.mono PP.out ?_)
  rintro e w7 ⟨rfl,F7,g7,v7,C7,G7⟩
  have Wn:WS L D F1 w1 X R A B w7 F7 g7 v7 σ6 ⟨1,ky,1,0,false⟩ ⟨1,ky,1,0,false⟩:=(W6.out.below (Below.refl _ _).drew).go C7 G7
  have x3:w7.cell? ⟨X,0,none⟩=some (pt D.B):=Wn.k.cell 0
  have Ba:w7.heap[A]?=some (.cells #[.int .i64 1,.int .u64 ky,.int .i64 1,.int .i64 0,.bool false] 59 (0,0)):=Wn.a.1
  obtain⟨b0,b1,b2,b3,b4⟩:=bx5 Ba
  have blt:=lt_of_block Wn.a.1
  have bfz:∀o,w7.frozen? ⟨A,o,none⟩=false:=(fun o=>by simp[World.frozen?,Wn.a.1])
  have Wm:=Wn.setA wk0
  have x5:(set5w w7 A wk0).cell? ⟨X,0,none⟩=some (pt D.B):=Wm.k.cell 0
  unfold set5w set5 at x5
  try unfold wk0 at x5
  dsimp only at x5
  obtain⟨u7,hu⟩:∃q,set5w w7 A wk0=q:=⟨_,rfl⟩
  rw[hu] at Wm
  have HU7:Aside ((((((w7.setCell ⟨A,0,none⟩ (.int .i64 0)).setCell ⟨A,1,none⟩ (.int .u64 0)).setCell ⟨A,2,none⟩ (.int .i64 0)).setCell ⟨A,3,none⟩ (.int .i64 0)).setCell ⟨A,4,none⟩ (.bool false))=u7):=hu
  have W7:Aside (WS L D F1 w1 X R A B u7 F7 g7 v7 σ6 wk0 ⟨1,ky,1,0,false⟩):=Wm
  clear Wn Wm hu C7 G7 Ba
  go_wp2_with fail
  refine hKt.out _ _ (x3) (fun hHeld=>?_)
  clear hKt Kt
  try simp only[Act.put,sA,sB,sC]
  refine wpAnyH_take (i:=7) (oi:=⟨some 115,Op.move (.tmp 122),60,"extra.go:33",#[⟨6,.data⟩],none⟩) (v:=?_) rfl (by kernel_rfl) (by kernel_rfl) (by kernel_rfl) (fun _ _ _ h=>h) (Or.inl ⟨by rfl,?_⟩) (by assumption) ?_
  rotate_left
  ·intro w z;(try dsimp only at z);go_simp;try with_reducible rfl
  simp only[Act.put,sA,sB,sC]
  refine wpAnyH_take (i:=8) (oi:=⟨some 123,Op.extract (.tmp 115) 0,59,"extra.go:33",#[⟨7,.data⟩],none⟩) (v:=?_) rfl (by kernel_rfl) (by kernel_rfl) (by kernel_rfl) (fun _ _ _ h=>h) (Or.inl ⟨by rfl,?_⟩) (by assumption) ?_
  rotate_left
  ·intro w z;(try dsimp only at z);go_simp;try with_reducible rfl
  simp only[Act.put,sA,sB,sC]
  refine wpAnyH_take (i:=9) (oi:=⟨some 124,Op.extract (.tmp 115) 1,3,"extra.go:33",#[⟨7,.data⟩,{on:=10,ground:=Ground.gcOnly Departure.lateStores}],none⟩) (v:=?_) rfl (by kernel_rfl) (by kernel_rfl) (by kernel_rfl) (fun _ _ _ h=>h) (Or.inl ⟨by rfl,?_⟩) (by assumption) ?_
  rotate_left
  ·intro w z;(try dsimp only at z);go_simp;try with_reducible rfl
  simp only[Act.put,sA,sB,sC]
  refine wpAnyH_ready (rs:=[10]) (by kernel_rfl) (by simp) ?_
  refine AllReadyH.cons (o:=⟨none,Op.store 59 (.tmp 10) (.tmp 123),0,"extra.go:33",#[⟨8,.data⟩,⟨6,.chain⟩,⟨0,.phase⟩,⟨1,.phase⟩,⟨2,.phase⟩,⟨3,.phase⟩,⟨4,.phase⟩,⟨5,.phase⟩,⟨6,.phase⟩,⟨7,.phase⟩,⟨8,.phase⟩,{on:=9,ground:=Ground.textOnly Departure.lateStores}],none⟩) rfl (fun Kt hKt=>?_) AllReadyH.nil
  go_simp
  refine hKt.out _ _ (x5) (fun hHeld=>?_)
  clear hKt Kt
  try simp only[Act.put,sA,sB,sC]
  refine wpAnyH_take (i:=11) (oi:=⟨some 13,Op.assign (.tmp 124),3,"extra.go:33",#[⟨9,.data⟩,⟨10,.chain⟩,⟨0,.phase⟩,⟨1,.phase⟩,⟨2,.phase⟩,⟨3,.phase⟩,⟨4,.phase⟩,⟨5,.phase⟩,⟨6,.phase⟩,⟨7,.phase⟩,⟨8,.phase⟩,⟨9,.phase⟩,⟨10,.phase⟩],none⟩) (v:=?_) rfl (by kernel_rfl) (by kernel_rfl) (by kernel_rfl) (fun _ _ _ h=>h) (Or.inl ⟨by rfl,?_⟩) (by assumption) ?_
  rotate_left
  ·intro w z;(try dsimp only at z);go_simp;try with_reducible rfl
  simp only[Act.put,sA,sB,sC]
  refine wpAnyH_done (by kernel_rfl) ?_ _
  clear x0 x3 x5 a0 a1 a2 a3 a4 ad0 ad1 ad2 ad3 ad4 alt b0 b1 b2 b3 b4 blt bfz
  rw[HU7.out]
  obtain⟨N2,hN2⟩:∃J,u7.heap.size=J:=⟨_,rfl⟩
  have hAX:A<N2∧X<N2:=by rw[←hN2];exact⟨lt_of_block W7.out.a.1,lt_of_block W7.out.k.1⟩
  have KS:Aside (∀W V F g v σ y,WS L D F1 w1 X R A B W F g v σ wk0 y→Below N2 W V→V.cell? ⟨X,0,none⟩=some (pt D.B)∧V.cell? ⟨A,0,none⟩=some (.int .i64 0)∧V.cell? ⟨A,1,none⟩=some (.int .u64 0)∧V.cell? ⟨A,2,none⟩=some (.int .i64 0)∧V.cell? ⟨A,3,none⟩=some (.int .i64 0)∧V.cell? ⟨A,4,none⟩=some (.bool false)):=asd (fun W V F g v σ y h b=>by
   have hx:V.heap[X]?=_:=(b.block X hAX.2).trans h.k.1
   have ha:V.heap[A]?=some (.cells #[.int .i64 0,.int .u64 0,.int .i64 0,.int .i64 0,.bool false] 59 (0,0)):=(b.block A hAX.1).trans h.a.1
   exact⟨by rw[cell_of_row _ _ _ _ _ _ hx];rfl,bx5 ha⟩)
  have NC:Aside (∀W,Below u7.heap.size u7 W→Calls Tryz.prog 18 #[pt D.B,.agg #[.int .i64 0,.int .u64 0,.int .i64 0,.int .i64 0,.bool false],.int .i64 0,.int .u64 dr] W fun e w'=>e=.returned (.tuple #[.agg #[.int .i64 0,.int .u64 0,.int .i64 0,.int .i64 0,.bool false],.int .i64 0])∧Cox L D F7 W (setS σ6 0) w'):=asd (fun W b=>oneNone (t:=0) (dr:=dr) (W7.out.c.below b) O6.out (by omega) (by omega) (by omega) HD.out.1)
  have bD:Below u7.heap.size u7 u7.drew:=(Below.refl _ _).drew
  have bA:Below u7.heap.size u7 (u7.alloc (.cells #[.int .i64 0,.int .u64 0,.int .i64 0,.int .i64 0,.bool false] 59)).drew:=(belA _ _).drew
  have kD:=KS.out u7 u7.drew _ _ _ _ _ W7.out (by rw[←hN2];exact bD)
  have kA:=KS.out u7 (u7.alloc (.cells #[.int .i64 0,.int .u64 0,.int .i64 0,.int .i64 0,.bool false] 59)).drew _ _ _ _ _ W7.out (by rw[←hN2];exact bA)
  have HBA:Aside (Below u7.heap.size u7 u7.drew∧Below u7.heap.size u7 (u7.alloc (.cells #[.int .i64 0,.int .u64 0,.int .i64 0,.int .i64 0,.bool false] 59)).drew):=⟨bD,bA⟩
  have BC:Aside (Bx (u7.alloc (.cells #[.int .i64 0,.int .u64 0,.int .i64 0,.int .i64 0,.bool false] 59)).drew F7 N2 #[.int .i64 0,.int .u64 0,.int .i64 0,.int .i64 0,.bool false] 59):=asd (by rw[←hN2];exact Bx.new W7.out.c _ _)
  have HN2:Aside (u7.heap.size=N2):=hN2
  have HAX:Aside (A<N2∧X<N2):=hAX
  have FN:Aside (∀W V F g v σ y,WS L D F1 w1 X R A B W F g v σ wk0 y→Below N2 W V→Below w.heap.size w V∧V.heap[A]?=some (.cells #[.int .i64 0,.int .u64 0,.int .i64 0,.int .i64 0,.bool false] 59 (0,0))):=asd (fun W V F g v σ y h b=>⟨(B1.out.1.trans (h.gc.low.mono B1.out.2.1)).trans (b.mono (by rw[←hN2];exact Nat.le_trans B1.out.1.size (Nat.le_trans W7.out.gc.size (Nat.le_refl _)))),(b.block A hAX.1).trans h.a.1⟩)
  clear hN2 hAX bD bA
  go_upto_region 20 with fail
  go_cut [15,16] (fun s15 s16 wx=>∃(M:Nat),s15=.pointer (some ⟨M,0,none⟩)∧s16=.int .i64 0∧Below w.heap.size w wx∧wx.heap[A]?=some (.cells #[.int .i64 0,.int .u64 0,.int .i64 0,.int .i64 0,.bool false] 59 (0,0))∧wx.heap[M]?=some (.cells #[.int .i64 0,.int .u64 0,.int .i64 0,.int .i64 0,.bool false] 59 (0,0)))
  case first=>
   refine wp_region_held_drew (S:=(fun V:World=>V.cell? ⟨X,0,none⟩=some (pt D.B)∧V.cell? ⟨A,0,none⟩=some (.int .i64 0)∧V.cell? ⟨A,1,none⟩=some (.int .u64 0)∧V.cell? ⟨A,2,none⟩=some (.int .i64 0)∧V.cell? ⟨A,3,none⟩=some (.int .i64 0)∧V.cell? ⟨A,4,none⟩=some (.bool false))) (by kernel_rfl) (kD) (fun hHeld=>?_)
   refine wpAnyH_take (i:=0) (oi:=⟨some 126,Op.move (.tmp 7),53,"extra.go:34",#[],none⟩) (v:=?_) rfl (by kernel_rfl) (by kernel_rfl) (by kernel_rfl) (fun _ _ _ h=>h) (Or.inl ⟨by rfl,?_⟩) (by assumption) ?_
   rotate_left
   ·intro w z;(try dsimp only at z);go_simp;try with_reducible rfl
   simp only[Act.put,sA,sB,sC]
   refine wpAnyH_take (i:=1) (oi:=⟨some 127,Op.nilCheck (.tmp 126),0,"extra.go:34",#[⟨0,.data⟩],none⟩) (v:=?_) rfl (by kernel_rfl) (by kernel_rfl) (by kernel_rfl) (fun _ _ _ h=>h) (Or.inl ⟨by rfl,?_⟩) (by assumption) ?_
   rotate_left
   ·intro w z;(try dsimp only at z);go_simp;try with_reducible rfl
   simp only[Act.put,sA,sB,sC]
   refine wpAnyH_take (i:=2) (oi:=⟨some 128,Op.fieldAddr 57 (.tmp 127) 0,0,"extra.go:34",#[⟨1,.data⟩],none⟩) (v:=?_) rfl (by kernel_rfl) (by kernel_rfl) (by kernel_rfl) (fun _ _ _ h=>h) (Or.inl ⟨by rfl,?_⟩) (by assumption) ?_
   rotate_left
   ·intro w z;(try dsimp only at z);go_simp;try with_reducible rfl
   simp only[Act.put,sA,sB,sC]
   refine wpAnyH_take (i:=3) (oi:=⟨some 129,Op.load 23 (.tmp 128),23,"extra.go:34",#[⟨2,.data⟩],none⟩) (v:=?_) rfl (by kernel_rfl) (by kernel_rfl) (by kernel_rfl) (fun _ _ _ h=>h) (Or.inl ⟨by rfl,?_⟩) (by assumption) ?_
   rotate_left
   ·intro w z;(try dsimp only at z);go_simp;try with_reducible rfl
   simp only[Act.put,sA,sB,sC]
   refine wpAnyH_take (i:=4) (oi:=⟨some 130,Op.load 59 (.tmp 10),59,"extra.go:34",#[],none⟩) (v:=?_) rfl (by kernel_rfl) (by kernel_rfl) (by kernel_rfl) (fun _ _ _ h=>h) (Or.inl ⟨by rfl,?_⟩) (by assumption) ?_
   rotate_left
   ·intro w z;(try dsimp only at z);go_simp;try with_reducible rfl
   simp only[Act.put,sA,sB,sC]
   refine wpAnyH_take (i:=5) (oi:=⟨some 131,Op.move (.tmp 2),31,"extra.go:34",#[],none⟩) (v:=?_) rfl (by kernel_rfl) (by kernel_rfl) (by kernel_rfl) (fun _ _ _ h=>h) (Or.inl ⟨by rfl,?_⟩) (by assumption) ?_
   rotate_left
   ·intro w z;(try dsimp only at z);go_simp;try with_reducible rfl
   simp only[Act.put,sA,sB,sC]
   refine wpAnyH_ready (rs:=[6,10]) (by kernel_rfl) (by simp) ?_
   refine AllReadyH.cons (o:={dst:=some 132,op:=Op.call {callee:=Callee.value (Operand.func 18),args:=#[Operand.tmp 129,Operand.tmp 130,Operand.const (Value.int IntKind.i64 0),Operand.tmp 131],argTypes:=#[23,59,3,31]},type:=60,pos:= "extra.go:34",after:=#[⟨3,.data⟩,⟨4,.data⟩,⟨5,.data⟩],guard:=none}) rfl (fun Kt hKt=>?_) (AllReadyH.cons (o:=⟨some 15,Op.alloc 59,0,"extra.go:34",#[],none⟩) rfl (fun Kt hKt=>?_) AllReadyH.nil)
   ·go_simp
    (with_reducible refine Calls.mono (NC.out u7.drew HBA.out.1) ?_)
    rintro e w8 ⟨rfl,F8,g8,v8,C8,G8⟩
    have W8:=(W7.out.below HBA.out.1).go C8 G8
    have z8:N2≤w8.heap.size:=by {have:=G8.size;have e1:u7.drew.heap.size=N2:=HN2.out;omega}
    have k8:=KS.out w8 w8 _ _ _ _ _ W8 (Below.refl _ _)
    have kB8:=KS.out w8 (w8.alloc (.cells #[.int .i64 0,.int .u64 0,.int .i64 0,.int .i64 0,.bool false] 59)) _ _ _ _ _ W8 ((belA _ _).mono z8)
    have q8:=FN.out w8 (w8.alloc (.cells #[.int .i64 0,.int .u64 0,.int .i64 0,.int .i64 0,.bool false] 59)) _ _ _ _ _ W8 ((belA _ _).mono z8)
    clear W8 C8 G8
    go_wp2_with fail
    refine hKt.out _ _ (k8) (fun hHeld=>?_)
    clear hKt Kt
    try simp only[Act.put,sA,sB,sC]
    refine wpAnyH_take (i:=7) (oi:=⟨some 125,Op.move (.tmp 132),60,"extra.go:34",#[⟨6,.data⟩],none⟩) (v:=?_) rfl (by kernel_rfl) (by kernel_rfl) (by kernel_rfl) (fun _ _ _ h=>h) (Or.inl ⟨by rfl,?_⟩) (by assumption) ?_
    rotate_left
    ·intro w z;(try dsimp only at z);go_simp;try with_reducible rfl
    simp only[Act.put,sA,sB,sC]
    refine wpAnyH_take (i:=8) (oi:=⟨some 133,Op.extract (.tmp 125) 0,59,"extra.go:34",#[⟨7,.data⟩],none⟩) (v:=?_) rfl (by kernel_rfl) (by kernel_rfl) (by kernel_rfl) (fun _ _ _ h=>h) (Or.inl ⟨by rfl,?_⟩) (by assumption) ?_
    rotate_left
    ·intro w z;(try dsimp only at z);go_simp;try with_reducible rfl
    simp only[Act.put,sA,sB,sC]
    refine wpAnyH_take (i:=9) (oi:=⟨some 134,Op.extract (.tmp 125) 1,3,"extra.go:34",#[⟨7,.data⟩,{on:=11,ground:=Ground.gcOnly Departure.lateStores}],none⟩) (v:=?_) rfl (by kernel_rfl) (by kernel_rfl) (by kernel_rfl) (fun _ _ _ h=>h) (Or.inl ⟨by rfl,?_⟩) (by assumption) ?_
    rotate_left
    ·intro w z;(try dsimp only at z);go_simp;try with_reducible rfl
    simp only[Act.put,sA,sB,sC]
    refine wpAnyH_ready (rs:=[10]) (by kernel_rfl) (by simp) ?_
    refine AllReadyH.cons (o:=⟨some 15,Op.alloc 59,0,"extra.go:34",#[],none⟩) rfl (fun Kt hKt=>?_) AllReadyH.nil
    go_simp
    refine hKt.out _ _ (kB8) (fun hHeld=>?_)
    clear hKt Kt
    try simp only[Act.put,sA,sB,sC]
    refine wpAnyH_ready (rs:=[11]) (by kernel_rfl) (by simp) ?_
    refine AllReadyH.cons (o:=⟨none,Op.store 59 (.tmp 15) (.tmp 133),0,"extra.go:34",#[⟨10,.data⟩,⟨8,.data⟩,⟨6,.chain⟩,⟨0,.phase⟩,⟨1,.phase⟩,⟨2,.phase⟩,⟨3,.phase⟩,⟨4,.phase⟩,⟨5,.phase⟩,⟨6,.phase⟩,⟨7,.phase⟩,⟨8,.phase⟩,{on:=9,ground:=Ground.textOnly Departure.lateStores},⟨10,.phase⟩],none⟩) rfl (fun Kt hKt=>?_) AllReadyH.nil
    go_simp
    refine hKt.out _ _ (kB8) (fun hHeld=>?_)
    clear hKt Kt
    try simp only[Act.put,sA,sB,sC]
    refine wpAnyH_take (i:=12) (oi:=⟨some 16,Op.assign (.tmp 134),3,"extra.go:34",#[⟨9,.data⟩,⟨11,.chain⟩,⟨0,.phase⟩,⟨1,.phase⟩,⟨2,.phase⟩,⟨3,.phase⟩,⟨4,.phase⟩,⟨5,.phase⟩,⟨6,.phase⟩,⟨7,.phase⟩,⟨8,.phase⟩,⟨9,.phase⟩,⟨10,.phase⟩,⟨11,.phase⟩],none⟩) (v:=?_) rfl (by kernel_rfl) (by kernel_rfl) (by kernel_rfl) (fun _ _ _ h=>h) (Or.inl ⟨by rfl,?_⟩) (by assumption) ?_
    rotate_left
    ·intro w z;(try dsimp only at z);go_simp;try with_reducible rfl
    simp only[Act.put,sA,sB,sC]
    refine wpAnyH_done (by kernel_rfl) ?_ _
    go_wp2_with fail
    go_meet
    exact⟨w8.heap.size,rfl,rfl,q8.1,q8.2,heap_alloc_new w8 _⟩
   ·go_simp
    refine hKt.out _ _ (kA) (fun hHeld=>?_)
    clear hKt Kt
    try simp only[Act.put,sA,sB,sC]
    refine wpAnyH_ready (rs:=[6]) (by kernel_rfl) (by simp) ?_
    refine AllReadyH.cons (o:={dst:=some 132,op:=Op.call {callee:=Callee.value (Operand.func 18),args:=#[Operand.tmp 129,Operand.tmp 130,Operand.const (Value.int IntKind.i64 0),Operand.tmp 131],argTypes:=#[23,59,3,31]},type:=60,pos:= "extra.go:34",after:=#[⟨3,.data⟩,⟨4,.data⟩,⟨5,.data⟩],guard:=none}) rfl (fun Kt hKt=>?_) AllReadyH.nil
    go_simp
    (with_reducible refine Calls.mono (NC.out (u7.alloc (.cells #[.int .i64 0,.int .u64 0,.int .i64 0,.int .i64 0,.bool false] 59)).drew HBA.out.2) ?_)
    rintro e w8 ⟨rfl,F8,g8,v8,C8,G8⟩
    have W8:=(W7.out.below HBA.out.2).go C8 G8
    have k8:=KS.out w8 w8 _ _ _ _ _ W8 (Below.refl _ _)
    have hb8:w8.heap[N2]?=some (.cells #[.int .i64 0,.int .u64 0,.int .i64 0,.int .i64 0,.bool false] 59 (0,0)):=(BC.out.gc mq_wk G8).1
    obtain⟨m0,m1,m2,m3,m4⟩:=bx5 hb8
    have mlt:=lt_of_block hb8
    have mfz:∀o,w8.frozen? ⟨N2,o,none⟩=false:=(fun o=>by simp[World.frozen?,hb8])
    have bE:=bel_set5 w8 N2 (.int .i64 0) (.int .u64 0) (.int .i64 0) (.int .i64 0) (.bool false)
    have kE8:=KS.out w8 _ _ _ _ _ _ W8 bE
    have q8:=FN.out w8 _ _ _ _ _ _ W8 bE
    have h8:=set5_at hb8 (.int .i64 0) (.int .u64 0) (.int .i64 0) (.int .i64 0) (.bool false)
    unfold set5 at kE8 q8 h8
    clear W8 C8 G8 hb8 bE
    try simp only[HN2.out]
    go_wp2_with fail
    refine hKt.out _ _ (k8) (fun hHeld=>?_)
    clear hKt Kt
    try simp only[Act.put,sA,sB,sC]
    refine wpAnyH_take (i:=7) (oi:=⟨some 125,Op.move (.tmp 132),60,"extra.go:34",#[⟨6,.data⟩],none⟩) (v:=?_) rfl (by kernel_rfl) (by kernel_rfl) (by kernel_rfl) (fun _ _ _ h=>h) (Or.inl ⟨by rfl,?_⟩) (by assumption) ?_
    rotate_left
    ·intro w z;(try dsimp only at z);go_simp;try with_reducible rfl
    simp only[Act.put,sA,sB,sC]
    refine wpAnyH_take (i:=8) (oi:=⟨some 133,Op.extract (.tmp 125) 0,59,"extra.go:34",#[⟨7,.data⟩],none⟩) (v:=?_) rfl (by kernel_rfl) (by kernel_rfl) (by kernel_rfl) (fun _ _ _ h=>h) (Or.inl ⟨by rfl,?_⟩) (by assumption) ?_
    rotate_left
    ·intro w z;(try dsimp only at z);go_simp;try with_reducible rfl
    simp only[Act.put,sA,sB,sC]
    refine wpAnyH_take (i:=9) (oi:=⟨some 134,Op.extract (.tmp 125) 1,3,"extra.go:34",#[⟨7,.data⟩,{on:=11,ground:=Ground.gcOnly Departure.lateStores}],none⟩) (v:=?_) rfl (by kernel_rfl) (by kernel_rfl) (by kernel_rfl) (fun _ _ _ h=>h) (Or.inl ⟨by rfl,?_⟩) (by assumption) ?_
    rotate_left
    ·intro w z;(try dsimp only at z);go_simp;try with_reducible rfl
    simp only[Act.put,sA,sB,sC]
    refine wpAnyH_ready (rs:=[11]) (by kernel_rfl) (by simp) ?_
    refine AllReadyH.cons (o:=⟨none,Op.store 59 (.tmp 15) (.tmp 133),0,"extra.go:34",#[⟨10,.data⟩,⟨8,.data⟩,⟨6,.chain⟩,⟨0,.phase⟩,⟨1,.phase⟩,⟨2,.phase⟩,⟨3,.phase⟩,⟨4,.phase⟩,⟨5,.phase⟩,⟨6,.phase⟩,⟨7,.phase⟩,⟨8,.phase⟩,{on:=9,ground:=Ground.textOnly Departure.lateStores},⟨10,.phase⟩],none⟩) rfl (fun Kt hKt=>?_) AllReadyH.nil
    go_simp
    try simp only[HN2.out]
    refine hKt.out _ _ (kE8) (fun hHeld=>?_)
    clear hKt Kt
    try simp only[Act.put,sA,sB,sC]
    refine wpAnyH_take (i:=12) (oi:=⟨some 16,Op.assign (.tmp 134),3,"extra.go:34",#[⟨9,.data⟩,⟨11,.chain⟩,⟨0,.phase⟩,⟨1,.phase⟩,⟨2,.phase⟩,⟨3,.phase⟩,⟨4,.phase⟩,⟨5,.phase⟩,⟨6,.phase⟩,⟨7,.phase⟩,⟨8,.phase⟩,⟨9,.phase⟩,⟨10,.phase⟩,⟨11,.phase⟩],none⟩) (v:=?_) rfl (by kernel_rfl) (by kernel_rfl) (by kernel_rfl) (fun _ _ _ h=>h) (Or.inl ⟨by rfl,?_⟩) (by assumption) ?_
    rotate_left
    ·intro w z;(try dsimp only at z);go_simp;try with_reducible rfl
    simp only[Act.put,sA,sB,sC]
    refine wpAnyH_done (by kernel_rfl) ?_ _
    go_wp2_with fail
    go_meet
    exact⟨N2,by simp only,rfl,q8.1,q8.2,h8⟩
  case rest=>
   obtain⟨M,rfl,rfl,bw,hA9,hM9⟩:=hcut
   have BW:Aside (Below w.heap.size w wc):=bw
   obtain⟨a0,a1,a2,a3,a4⟩:=bx5 hA9
   have alt:=lt_of_block hA9
   obtain⟨m0,m1,m2,m3,m4⟩:=bx5 hM9
   have mlt:=lt_of_block hM9
   clear bw hA9 hM9 kD kA
   go_wp2_with fail
   refine(awake19C _).mono ?_
   rintro e w9 ⟨rfl,b9⟩
   have FIN:Aside (Below w.heap.size w w9):=belT BW.out b9
   clear b9
   go_wp2_with fail
   go_ret
   exact⟨rfl,FIN.out⟩
end Go.Proofs.YtdboknkfhbhniaaGreatDoor
