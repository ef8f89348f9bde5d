import Derived.Test.YthpgfmmpjoodkaaGreatDoorCoJ
open Nat(le_of_eq)
namespace Go.Proofs.YthpgfmmpjoodkaaGreatDoor
set_option maxHeartbeats 8000000
set_option maxRecDepth 100000
set_option linter.unusedVariables false
open Go.RowKit Go.Lib Go.WideMaps Go.Maps
variable {w w' u:World}{L i:Nat}{D:CAd}{F F':Nat→Nat→Prop}{g v:Value}{σ:CS}{x:Ta.TR}
theorem chooseC(a b z:Int×Int)(t:Int)(hz:z=if a.1≤t then a else b)(w:World) :
  Calls Tryz.prog 114 #[.agg #[.int .u64 a.1,.int .i64 a.2],.agg #[.int .u64 b.1,.int .i64 b.2],.int .u64 t] w fun e w'=>e=.returned (.agg #[.int .u64 z.1,.int .i64 z.2])∧Below w.heap.size w w':=by
 refine(Ag.choose_any a b t w).mono ?_
 rintro e w' ⟨rfl,h⟩
 subst hz
 by_cases c:a.1≤t
 ·rw[if_pos c,if_pos c];exact⟨rfl,h⟩
 ·rw[if_neg c,if_neg c];exact⟨rfl,h⟩
theorem lookC(C:Co w L D F g v σ){t dr:Nat}(ht:t<σ.th)(hdr:dr<18446744073709551616)(hn:σ.qn≤1000)(hl:σ.ev.length<1000000){x y z:Qu.Ent}(hx:Qu.relaxQ σ.q σ.th σ.k t dr=(x,true))(hy:Qu.unl (Qu.leastQ σ.q σ.th)=y)(hz:z=if y.1≤(σ.tk:Int) then y else x) :
  Calls Tryz.prog 63 #[pt D.B,.int .i64 t,.int .u64 dr] w fun e w'=>e=.returned (.tuple #[.agg #[.int .u64 z.1,.int .i64 z.2],.bool true])∧Cox L D F w (tellS σ 10 t z.2 z.1) w':=by
 obtain⟨K,hK⟩:∃J,w.heap.size=J:=⟨_,rfl⟩
 obtain⟨u,hu⟩:∃q,w.alloc (.cells #[.int .u64 0,.int .i64 0] 36)=q:=⟨_,rfl⟩
 have b0:Below w.heap.size w u:=by rw[←hu];exact belA _ _
 have hB:u.heap[K]?=some (.cells #[.int .u64 0,.int .i64 0] 36 (0,0)):=by rw[←hu,←hK];exact heap_alloc_new w _
 have C0:=C.below b0
 have c4:=C0.c4
 have P:=Qu.relaxed_in u L D.A σ.th σ.k σ.qn σ.q t dr C0.que C0.qok hn C0.k16 ht C0.th8 hdr
 rw[hx] at P
 have HC:Aside (Co w L D F g v σ∧w.heap.size=K∧σ.qn≤1000∧σ.ev.length<1000000):=⟨C,hK,hn,hl⟩
 have X0:Aside (Below w.heap.size w u∧u.heap[K]?=some (.cells #[.int .u64 0,.int .i64 0] 36 (0,0))):=⟨b0,hB⟩
 have HY:Aside (Qu.unl (Qu.leastQ σ.q σ.th)=y):=hy
 obtain⟨x1,x2⟩:=x
 obtain⟨y1,y2⟩:=y
 obtain⟨z1,z2⟩:=z
 have CH:Aside (∀W,Calls Tryz.prog 114 #[.agg #[.int .u64 y1,.int .i64 y2],.agg #[.int .u64 x1,.int .i64 x2],.int .u64 σ.tk] W fun e w'=>e=.returned (.agg #[.int .u64 z1,.int .i64 z2])∧Below W.heap.size W w'):=fun W=>chooseC (y1,y2) (x1,x2) (z1,z2) σ.tk hz W
 have HU:Aside _:=hu
 clear C C0 hx hy hz hu hB b0 hn hl
 go_enter Tryz.func63,Tryz.ntmps63
 go_upto_region 1 with fail
 rw[HU.out]
 go_wp2_with fail
 refine Calls.mono P ?_
 rintro e w1 ⟨rfl,b1⟩
 clear P c4
 obtain⟨K8,hK8⟩:∃J,w1.heap.size=J:=⟨_,rfl⟩
 obtain⟨u1,hu1⟩:∃q,w1.alloc (.cells #[.int .u64 x1,.int .i64 x2] 36)=q:=⟨_,rfl⟩
 have b2:Below w1.heap.size w1 u1:=by rw[←hu1];exact belA _ _
 have h8:u1.heap[K8]?=some (.cells #[.int .u64 x1,.int .i64 x2] 36 (0,0)):=by rw[←hu1,←hK8];exact heap_alloc_new w1 _
 have X1:Aside (Below w.heap.size w u1∧u1.heap[K]?=some (.cells #[.int .u64 0,.int .i64 0] 36 (0,0))∧u1.heap[K8]?=some (.cells #[.int .u64 x1,.int .i64 x2] 36 (0,0))):=⟨belT X0.out.1 (belT b1 b2),((belT b1 b2).block K (lt_of_block X0.out.2)).trans X0.out.2,h8⟩
 have C1:=HC.out.1.below X1.out.1
 have c4:=C1.c4
 have P:=Qu.qleast_any u1 L D.A σ.th σ.k σ.qn σ.q C1.que C1.qok HC.out.2.2.1 C1.k16 C1.th1 C1.th8
 rw[HY.out] at P
 obtain⟨fl,hfl⟩:∃b,Qu.unb (Qu.leastQ σ.q σ.th)=b:=⟨_,rfl⟩
 rw[hfl] at P
 have HU1:Aside _:=hu1
 have HK8:Aside _:=hK8
 clear hu1 hK8 b1 b2 h8 C1 hfl
 go_upto_region 4 with fail
 rw[HU1.out]
 simp only[HK8.out]
 go_wp2_with fail
 refine Calls.mono P ?_
 rintro e w2 ⟨rfl,b3⟩
 clear P c4
 obtain⟨K10,hK10⟩:∃J,w2.heap.size=J:=⟨_,rfl⟩
 obtain⟨u2,hu2⟩:∃q,w2.alloc (.cells #[.int .u64 y1,.int .i64 y2] 36)=q:=⟨_,rfl⟩
 have b4:Below w2.heap.size w2 u2:=by rw[←hu2];exact belA _ _
 have h10:u2.heap[K10]?=some (.cells #[.int .u64 y1,.int .i64 y2] 36 (0,0)):=by rw[←hu2,←hK10];exact heap_alloc_new w2 _
 have X2:Aside (Below w.heap.size w u2.drew∧u2.drew.heap[K]?=some (.cells #[.int .u64 0,.int .i64 0] 36 (0,0))∧u2.drew.heap[K8]?=some (.cells #[.int .u64 x1,.int .i64 x2] 36 (0,0))∧u2.drew.heap[K10]?=some (.cells #[.int .u64 y1,.int .i64 y2] 36 (0,0))):=⟨(belT X1.out.1 (belT b3 b4)).drew,((belT b3 b4).block K (lt_of_block X1.out.2.1)).trans X1.out.2.1,((belT b3 b4).block K8 (lt_of_block X1.out.2.2)).trans X1.out.2.2,h10⟩
 have C2:=HC.out.1.below X2.out.1
 have c8:u2.drew.cell? ⟨D.B,8,none⟩=some (.int .u64 σ.tk):=C2.c8
 obtain⟨x0,xx1⟩:=bx2 X2.out.2.2.1
 obtain⟨y0,yy1⟩:=bx2 X2.out.2.2.2
 have KP:Aside (∀W:World,Below u2.heap.size u2 W→W.cell? ⟨D.B,8,none⟩=some (.int .u64 σ.tk)∧W.cell? ⟨K8,0,none⟩=some (.int .u64 x1)∧W.cell? ⟨K8,1,none⟩=some (.int .i64 x2)∧W.cell? ⟨K10,0,none⟩=some (.int .u64 y1)∧W.cell? ⟨K10,1,none⟩=some (.int .i64 y2)):=by
  intro W b
  obtain⟨p0,p1⟩:=bx2 ((b.block K8 (lt_of_block X2.out.2.2.1)).trans X2.out.2.2.1)
  obtain⟨q0,q1⟩:=bx2 ((b.block K10 (lt_of_block X2.out.2.2.2)).trans X2.out.2.2.2)
  have b':Below u2.drew.heap.size u2.drew W:=⟨b.os,b.tape,b.output,b.size,b.block⟩
  exact⟨(C2.below b').c8,p0,p1,q0,q1⟩
 have hb0:Below u2.heap.size u2 u2.drew:=(Below.refl _ _).drew
 have hbA:Below u2.heap.size u2 (u2.alloc (.cells #[.int .u64 0,.int .i64 0] 36)).drew:=((Below.refl _ _).alloc (Nat.le_refl _) _).drew
 obtain⟨a8,a0,a1,a2,a3⟩:=KP.out _ hbA
 have X2K:Aside (u2.heap[K]?=some (.cells #[.int .u64 0,.int .i64 0] 36 (0,0))∧Below w.heap.size w u2):=⟨X2.out.2.1,⟨X2.out.1.os,X2.out.1.tape,X2.out.1.output,X2.out.1.size,X2.out.1.block⟩⟩
 obtain⟨N2,hN2⟩:∃J,u2.heap.size=J:=⟨_,rfl⟩
 have hbx:(u2.alloc (.cells #[.int .u64 0,.int .i64 0] 36)).drew.heap[N2]?=some (.cells #[.int .u64 0,.int .i64 0] 36 (0,0)):=by rw[←hN2];exact heap_alloc_new u2 _
 have HBX:Aside _:=hbx
 have HN2:Aside _:=hN2
 have HU2:Aside _:=hu2
 have HK10:Aside _:=hK10
 clear hu2 hK10 b3 b4 h10 C2 hbx
 go_upto_region 5 with fail
 rw[HU2.out]
 simp only[HK10.out]
 go_cut [12] from 34 to 40 (fun s12 wx=>∃(T:Nat),s12=.pointer (some ⟨T,0,none⟩)∧Below u2.heap.size u2 wx∧wx.heap[T]?=some (.cells #[.int .u64 z1,.int .i64 z2] 36 (0,0))∧u2.heap.size≤T)
 case first=>
  go_region_held3 (fun w'=>w'.cell? ⟨D.B,8,none⟩=some (.int .u64 σ.tk)∧w'.cell? ⟨K8,0,none⟩=some (.int .u64 x1)∧w'.cell? ⟨K8,1,none⟩=some (.int .i64 x2)∧w'.cell? ⟨K10,0,none⟩=some (.int .u64 y1)∧w'.cell? ⟨K10,1,none⟩=some (.int .i64 y2)) (first|with_reducible exact⟨c8,x0,xx1,y0,yy1⟩|with_reducible exact⟨a8,a0,a1,a2,a3⟩|with_reducible exact⟨d8,p0,p1,q0,q1⟩|with_reducible exact KP.out _ (h3.alloc h3.size _)|with_reducible exact KP.out _ ((h3.setCell (le_of_eq HN2.out) _).setCell (le_of_eq HN2.out) _)) ((go_at_call 114;first|((with_reducible refine Calls.mono (CH.out u2.drew) ?_);rintro e w3 ⟨rfl,b5⟩;have h3:Below u2.heap.size u2 w3:=belT hb0 b5;obtain⟨d8,p0,p1,q0,q1⟩:=KP.out w3 h3)|((with_reducible refine Calls.mono (CH.out (u2.alloc (.cells #[.int .u64 0,.int .i64 0] 36)).drew) ?_);rintro e w3 ⟨rfl,b5⟩;have h3:Below u2.heap.size u2 w3:=belT hbA b5;obtain⟨d8,p0,p1,q0,q1⟩:=KP.out w3 h3;have hb3:w3.heap[N2]?=some (.cells #[.int .u64 0,.int .i64 0] 36 (0,0)):=(b5.block N2 (lt_of_block HBX.out)).trans HBX.out;obtain⟨m0,m1⟩:=bx2 hb3;have mlt:=lt_of_block hb3;have mfz:∀o,w3.frozen? ⟨N2,o,none⟩=false:=(fun o=>by simp[World.frozen?,hb3]))))
  all_goals go_wp2_with fail
  all_goals go_meet
  ·exact⟨w3.heap.size,rfl,h3.alloc h3.size _,heap_alloc_new w3 _,h3.size⟩
  ·exact⟨N2,rfl,(h3.setCell (le_of_eq HN2.out) _).setCell (le_of_eq HN2.out) _,set_at (set_at hb3 _) _,le_of_eq HN2.out⟩
 case rest=>
  obtain⟨T,rfl,bw,hT,lT⟩:=hcut
  have XW:Aside (Below w.heap.size w wc):=belT X2K.out.2 bw
  have hKw:wc.heap[K]?=some (.cells #[.int .u64 0,.int .i64 0] 36 (0,0)):=(bw.block K (lt_of_block X2K.out.1)).trans X2K.out.1
  have BT:Bx wc F T #[.int .u64 z1,.int .i64 z2] 36:=⟨hT,fun p hp=>by have:=HC.out.1.fp.lt p T hp;have:=X2K.out.2.size;omega⟩
  have BK:Bx wc F K #[.int .u64 0,.int .i64 0] 36:=⟨hKw,fun p hp=>by have:=HC.out.1.fp.lt p K hp;have:=HC.out.2.1;omega⟩
  have Cc:=HC.out.1.below XW.out
  have P:=tellC Cc HC.out.2.2.2 10 t z2 z1
  obtain⟨t0,t1⟩:=bx2 hT
  have tlt:=lt_of_block hT
  have BB:Aside (Bx wc F T #[.int .u64 z1,.int .i64 z2] 36∧Bx wc F K #[.int .u64 0,.int .i64 0] 36):=⟨BT,BK⟩
  clear bw hT lT hKw BT BK Cc c8 x0 xx1 y0 yy1 a8 a0 a1 a2 a3 hb0 hbA hN2
  go_wp2_with fail
  refine P.mono ?_
  rintro e w4 ⟨rfl,⟨F4,g4,v4,C4,G4⟩,Q4⟩
  clear P t0 t1 tlt
  have B4:=BB.out.1.gc mq_ent G4
  have K4:=BB.out.2.gc mq_ent G4
  obtain⟨t0,t1⟩:=bx2 B4.1
  have tlt:=lt_of_block B4.1
  obtain⟨k0,k1⟩:=bx2 K4.1
  have klt:=lt_of_block K4.1
  have kfz:∀o,w4.frozen? ⟨K,o,none⟩=false:=(fun o=>by simp[World.frozen?,K4.1])
  have E:Aside (((w4.setCell ⟨K,0,none⟩ (.int .u64 z1)).setCell ⟨K,1,none⟩ (.int .i64 z2)).heap[K]?=some (.cells #[.int .u64 z1,.int .i64 z2] 36 (0,0))):=set_at (set_at K4.1 _) _
  have FIN:Aside (Cox L D F w (tellS σ 10 t z2 z1) ((w4.setCell ⟨K,0,none⟩ (.int .u64 z1)).setCell ⟨K,1,none⟩ (.int .i64 z2))):=by
   have G:Gc L F w F4 w4:=(Gc.below F HC.out.1.lw XW.out).trans G4
   have Q:Gq F w w4:=(Gq.below F XW.out).trans (Gc.below F HC.out.1.lw XW.out) Q4
   have f:Ta.Fr (fun k=>k=K) w4 ((w4.setCell ⟨K,0,none⟩ (.int .u64 z1)).setCell ⟨K,1,none⟩ (.int .i64 z2)):=(Ta.Fr.setCell (fun k=>k=K) w4 K 0 (.int .u64 z1) rfl).trans (Ta.Fr.setCell (fun k=>k=K) _ K 1 (.int .i64 z2) rfl) (fun j hj=>.inl hj)
   obtain⟨C5,G5,_⟩:=HC.out.1.box C4 G Q rfl rfl rfl (le_of_eq HC.out.2.1) klt K4.2 f
   exact⟨F4,g4,v4,C5,G5⟩
  clear C4 G4 Q4 B4 K4
  go_wp2_with fail
  have eb:=fun j=>cell_of_row _ _ j _ _ _ E.out
  have q0:=eb 0
  have q1:=eb 1
  refine bodyPost_ret (v:=.tuple #[.agg #[.int .u64 z1,.int .i64 z2],.bool true]) (by simp[results,Tryz.results63,go_sem,q0,q1]) rfl ⟨rfl,?_⟩
  exact FIN.out
theorem claimL(C:Co w L D F g v σ){t:Nat}(ht:t<σ.th)(hi:σ.T[i]?=some x)(hs:x.s=3)(k:Int) :
  Calls Tryz.prog 12 #[pt D.B,.int .i64 t,.agg #[.int .u64 k,.int .i64 ((i:Int)+1)]] w fun e w'=>e=.returned (.int .i64 8)∧Cox L D F w σ w':=by
 obtain⟨K,hK⟩:∃J,w.heap.size=J:=⟨_,rfl⟩
 obtain⟨I1,hI1⟩:∃J,(i:Int)+1=J:=⟨_,rfl⟩
 obtain⟨u,hu⟩:∃z,w.alloc (.cells #[.int .u64 k,.int .i64 I1] 36)=z:=⟨_,rfl⟩
 have b0:Below w.heap.size w u:=by rw[←hu];exact belA _ _
 have BK:Bx u F K #[.int .u64 k,.int .i64 I1] 36:=by rw[←hu,←hK];exact Bx.new C _ _
 have C0:=C.below b0
 have P1:=threadC C0 ht
 have P2:=taskC C0 hi (by omega)
 rw[hI1] at P2
 have k1:u.cell? ⟨K,1,none⟩=some (.int .i64 I1):=BK.cell 1
 have HH:Aside (σ.T[i]?=some x∧x.s=3∧(i:Int)+1=I1):=⟨hi,hs,hI1⟩
 have X0:Aside (Gc L F w F u∧Bx u F K #[.int .u64 k,.int .i64 I1] 36):=⟨Gc.below F C.lw b0,BK⟩
 have HU:Aside _:=hu
 have HK:Aside _:=hK
 rw[hI1]
 clear C C0 ht hi hs hI1 hu hK BK b0
 go_enter Tryz.func12,Tryz.ntmps12
 go_upto_region 1 with fail
 rw[HU.out]
 try simp only[HK.out]
 go_wp2_with fail
 refine P1.mono ?_
 rintro e w1 ⟨rfl,rfl⟩
 clear P1
 go_wp2_with fail
 refine P2.mono ?_
 rintro e w2 ⟨rfl,F2,g2,v2,C2,G2⟩
 clear P2 k1
 have B2:=X0.out.2.gc mq_ent G2
 have X2:Aside (Gc L F w F2 w2.drew∧Bx w2.drew F2 K #[.int .u64 k,.int .i64 I1] 36):=⟨(X0.out.1.trans G2).trans (Gc.below F2 C2.lw (Below.refl _ _).drew),B2⟩
 have k0:w2.drew.cell? ⟨K,0,none⟩=some (.int .u64 k):=B2.cell 0
 have k1:w2.drew.cell? ⟨K,1,none⟩=some (.int .i64 I1):=B2.cell 1
 have PS:Aside (Calls Tryz.prog 10 #[pt D.B,.int .i64 I1] w2.drew fun e w'=>e=.returned (.int .i64 3)∧Cox L D F w σ w'∧w'.cell? ⟨K,0,none⟩=some (.int .u64 k)∧w'.cell? ⟨K,1,none⟩=some (.int .i64 I1)):=by
  have:=statusC C2.drew HH.out.1
  rw[HH.out.2.1,HH.out.2.2] at this
  refine this.mono ?_
  rintro e w' ⟨rfl,F4,g4,v4,C4,G4⟩
  have B4:=X2.out.2.gc mq_ent G4
  exact⟨rfl,⟨F4,g4,v4,C4,X2.out.1.trans G4⟩,B4.cell 0,B4.cell 1⟩
 clear C2 G2 B2
 go_upto_region 3 with fail
 refine wp_region_held_drew (S:=(fun w':World=>w'.cell? ⟨K,0,none⟩=some (.int .u64 k)∧w'.cell? ⟨K,1,none⟩=some (.int .i64 I1))) (by kernel_rfl) (⟨k0,k1⟩) (fun hHeld=>?_)
 refine wpAnyH_take (i:=0) (oi:=⟨some 18,Op.move (.tmp 0),23,"core.go:350",#[],none⟩) (v:=?_) rfl (by kernel_rfl) (by kernel_rfl) (by kernel_rfl) (fun _ _ _ h=>h) (Or.inl ⟨by rfl,?_⟩) (by assumption) ?_
 rotate_left
 ·intro w z;(try dsimp only at z);go_simp;try with_reducible rfl
 simp only[Act.put,sA,sB,sC]
 refine wpAnyH_take (i:=1) (oi:=⟨some 19,Op.fieldAddr 36 (.tmp 5) 1,0,"core.go:350",#[],none⟩) (v:=?_) rfl (by kernel_rfl) (by kernel_rfl) (by kernel_rfl) (fun _ _ _ h=>h) (Or.inl ⟨by rfl,?_⟩) (by assumption) ?_
 rotate_left
 ·intro w z;(try dsimp only at z);go_simp;try with_reducible rfl
 simp only[Act.put,sA,sB,sC]
 refine wpAnyH_take (i:=2) (oi:=⟨some 20,Op.load 3 (.tmp 19),3,"core.go:350",#[⟨1,.data⟩],none⟩) (v:=?_) rfl (by kernel_rfl) (by kernel_rfl) (by kernel_rfl) (fun _ _ _ h=>h) (Or.inl ⟨by rfl,?_⟩) (by assumption) ?_
 rotate_left
 ·intro w z;(try dsimp only at z);go_simp;try with_reducible rfl
 simp only[Act.put,sA,sB,sC]
 refine wpAnyH_ready (rs:=[3]) (by kernel_rfl) (by simp) ?_
 refine AllReadyH.cons (o:={dst:=some 21,op:=Op.call {callee:=Callee.value (Operand.func 10),args:=#[Operand.tmp 18,Operand.tmp 20],argTypes:=#[23,3]},type:=3,pos:= "core.go:350",after:=#[⟨0,.data⟩,⟨2,.data⟩],guard:=none}) rfl (fun Kt hKt=>?_) AllReadyH.nil
 go_simp
 (with_reducible refine Calls.mono PS.out ?_)
 rintro e w3 ⟨rfl,CX,e0,e1⟩
 go_wp2_with fail
 refine hKt.out _ _ (⟨e0,e1⟩) (fun hHeld=>?_)
 clear hKt Kt
 try simp only[Act.put,sA,sB,sC]
 refine wpAnyH_take (i:=4) (oi:=⟨some 22,Op.binOp BinOp.neq 3 (.tmp 21) (Operand.const (Value.int IntKind.i64 2)) 3,4,"core.go:350",#[⟨3,.data⟩],none⟩) (v:=?_) rfl (by kernel_rfl) (by kernel_rfl) (by kernel_rfl) (fun _ _ _ h=>h) (Or.inl ⟨by rfl,?_⟩) (by assumption) ?_
 rotate_left
 ·intro w z;(try dsimp only at z);go_simp;try with_reducible rfl
 simp only[Act.put,sA,sB,sC]
 refine wpAnyH_take (i:=5) (oi:=⟨some 23,Op.move (.tmp 22),4,"core.go:350",#[⟨4,.data⟩,⟨3,.chain⟩],none⟩) (v:=?_) rfl (by kernel_rfl) (by kernel_rfl) (by kernel_rfl) (fun _ _ _ h=>h) (Or.inl ⟨by rfl,?_⟩) (by assumption) ?_
 rotate_left
 ·intro w z;(try dsimp only at z);go_simp;try with_reducible rfl
 simp only[Act.put,sA,sB,sC]
 refine wpAnyH_take (i:=6) (oi:=⟨some 24,Op.move (.tmp 0),23,"core.go:350",#[⟨5,.guard⟩],some (5,false)⟩) (v:=undef) rfl (by kernel_rfl) (by kernel_rfl) (by kernel_rfl) (fun _ _ _ h=>h) (Or.inr ⟨by rfl,rfl⟩) (by assumption) ?_
 simp only[Act.put,sA,sB,sC]
 refine wpAnyH_take (i:=7) (oi:=⟨some 25,Op.fieldAddr 36 (.tmp 5) 1,0,"core.go:350",#[⟨5,.guard⟩],some (5,false)⟩) (v:=undef) rfl (by kernel_rfl) (by kernel_rfl) (by kernel_rfl) (fun _ _ _ h=>h) (Or.inr ⟨by rfl,rfl⟩) (by assumption) ?_
 simp only[Act.put,sA,sB,sC]
 refine wpAnyH_take (i:=8) (oi:=⟨some 26,Op.load 3 (.tmp 25),3,"core.go:350",#[⟨7,.data⟩,⟨5,.guard⟩],some (5,false)⟩) (v:=undef) rfl (by kernel_rfl) (by kernel_rfl) (by kernel_rfl) (fun _ _ _ h=>h) (Or.inr ⟨by rfl,rfl⟩) (by assumption) ?_
 simp only[Act.put,sA,sB,sC]
 refine wpAnyH_take (i:=10) (oi:=⟨some 28,Op.load 36 (.tmp 5),36,"core.go:350",#[⟨5,.guard⟩],some (5,false)⟩) (v:=undef) rfl (by kernel_rfl) (by kernel_rfl) (by kernel_rfl) (fun _ _ _ h=>h) (Or.inr ⟨by rfl,rfl⟩) (by assumption) ?_
 simp only[Act.put,sA,sB,sC]
 refine wpAnyH_ready (rs:=[9]) (by kernel_rfl) (by simp) ?_
 refine AllReadyH.cons (o:={dst:=some 27,op:=Op.call {callee:=Callee.value (Operand.func 59),args:=#[Operand.tmp 24,Operand.tmp 26],argTypes:=#[23,3]},type:=36,pos:= "core.go:350",after:=#[⟨6,.data⟩,⟨8,.data⟩,⟨5,.chain⟩,⟨5,.guard⟩],guard:=some (5,false)}) rfl (fun Kt hKt=>?_) AllReadyH.nil
 go_simp
 refine hKt.out _ _ hHeld (fun hHeld=>?_)
 clear hKt Kt
 try simp only[Act.put,sA,sB,sC]
 refine wpAnyH_take (i:=11) (oi:=⟨some 29,Op.binOp BinOp.neq 36 (.tmp 27) (.tmp 28) 36,4,"core.go:350",#[⟨9,.data⟩,⟨10,.data⟩,⟨5,.guard⟩],some (5,false)⟩) (v:=undef) rfl (by kernel_rfl) (by kernel_rfl) (by kernel_rfl) (fun _ _ _ h=>h) (Or.inr ⟨by rfl,rfl⟩) (by assumption) ?_
 simp only[Act.put,sA,sB,sC]
 refine wpAnyH_take (i:=12) (oi:=⟨some 30,Op.pick (.tmp 23) (Operand.const (Value.bool true)) (.tmp 29),4,"core.go:350",#[⟨5,.data⟩,⟨11,.data⟩],none⟩) (v:=?_) rfl (by kernel_rfl) (by kernel_rfl) (by kernel_rfl) (fun _ _ _ h=>h) (Or.inl ⟨by rfl,?_⟩) (by assumption) ?_
 rotate_left
 ·intro w z;(try dsimp only at z);go_simp;try with_reducible rfl
 simp only[Act.put,sA,sB,sC]
 refine wpAnyH_done (by kernel_rfl) ?_ _
 have FIN:Aside _:=CX
 clear k0 k1 e0 e1 CX
 go_wp2_with fail
 go_ret
 exact⟨rfl,FIN.out⟩
end Go.Proofs.YthpgfmmpjoodkaaGreatDoor
