import Derived.Test.YtdboknkfhbhniaaGreatDoorCoC
open Nat(le_of_eq le_trans)
namespace Go.Proofs.YtdboknkfhbhniaaGreatDoor
set_option maxHeartbeats 8000000
set_option maxRecDepth 100000
set_option linter.unusedVariables false
open Go.RowKit Go.Lib Go.WideMaps Go.Maps
section
variable {w w' u:World}{L i:Nat}{D:CAd}{F F':Nat→Nat→Prop}{g v:Value}{σ:CS}{x:Ta.TR}
def crS(σ:CS):CS:={σ with o:=σ.o+1,m:=max σ.m (σ.o+1)}
def subS(σ:CS)(t:Nat)(prio:Int):CS:=relS (mkS (crS σ) (Ta.mkT prio 0 0 0 0 0 2)) t σ.T.length (Ta.mkT prio 0 0 0 0 0 2)
theorem jb0(f d rr:Int):JbOk f 0 d rr 0:=.inl ⟨rfl,rfl⟩
theorem subC(C:Co w L D F g v σ){t:Nat}(ht:t<σ.th)(hc:σ.cl=false)(hl:σ.T.length<200)(ho:σ.o<σ.n)(he:σ.ev.length+1<1000000)(hn:σ.qn≤1000)(htk:σ.tk<1000000)(prio:Int)(h0:0≤prio)(h7:prio≤7) :
  Calls Tryz.prog 14 #[pt D.B,.int .i64 t,.int .i64 prio,.slice none 0 0,.slice none 0 0] w fun e w'=>e=.returned (.tuple #[.int .i64 ((σ.T.length:Int)+1),.int .i64 0])∧Cox L D F w (subS σ t prio) w':=by
 have P1:=rightC C ht prio h0 h7
 have P2:=areNil D.B w
 have P3:=refuseC C hc hl
 have c7:=C.c7
 have P4:=C.credC ho
 have HH:Aside (t<σ.th∧σ.T.length<200∧σ.ev.length+1<1000000∧σ.qn≤1000∧σ.tk<1000000∧0≤prio∧prio≤7):=⟨ht,hl,he,hn,htk,h0,h7⟩
 obtain⟨N1,hN1⟩:∃N1,(σ.T.length:Int)+1=N1:=⟨_,rfl⟩
 have HN1:Aside _:=hN1
 rw[hN1]
 clear C ht hl he hn htk h0 h7 hc ho hN1
 go_enter Tryz.func14,Tryz.ntmps14
 go_wp2_with fail
 refine P1.mono ?_
 rintro e w1 ⟨rfl,rfl⟩
 clear P1
 go_wp2_with fail
 refine P2.mono ?_
 rintro e w1 ⟨rfl,rfl⟩
 clear P2
 go_wp2_with fail
 refine P3.mono ?_
 rintro e w1 ⟨rfl,rfl⟩
 clear P3
 go_wp2_with fail
 refine(contNil _ _).mono ?_
 rintro e w1 ⟨rfl,rfl⟩
 go_wp2_with fail
 refine P4.mono ?_
 rintro e w2 ⟨rfl,F2,g2,v2,C2,G2⟩
 clear P4 c7
 have X2:Aside (Gc L F w1 F2 w2):=G2
 have P5:=begin2 C2 (t:=t) HH.out.1 HH.out.2.1 HH.out.2.2.1 HH.out.2.2.2.1 HH.out.2.2.2.2.1 prio 0 0 0 0 0 0 HH.out.2.2.2.2.2.1 HH.out.2.2.2.2.2.2 (jb0 0 0 0)
 rw[show(({σ with o:=σ.o+1,m:=max σ.m (σ.o+1)}:CS).T.length:Int)+1=N1 from HN1.out] at P5
 clear C2 G2
 go_wp2_with fail
 refine(notNil D.B _).mono ?_
 rintro e w3 ⟨rfl,rfl⟩
 go_wp2_with fail
 refine P5.mono ?_
 rintro e w4 ⟨rfl,F4,g4,v4,C4,G4⟩
 have FIN:Aside (Cox L D F w1 (subS σ t prio) w4):=⟨F4,g4,v4,C4,X2.out.trans G4⟩
 clear P5 C4 G4
 go_wp2_with fail
 go_ret2
 exact⟨rfl,FIN.out⟩
theorem taskC(C:Co w L D F g v σ)(hi:σ.T[i]?=some x)(hs:x.s≠0) :
  Calls Tryz.prog 60 #[pt D.B,.int .i64 ((i:Int)+1)] w fun e w'=>e=.returned (.bool true)∧Cox L D F w σ w':=by
 have P:=statusC C hi
 obtain⟨s,hs'⟩:∃s,x.s=s:=⟨_,rfl⟩
 rw[hs'] at P hs
 have hb:(s != 0)=true:=by simpa using hs
 clear C hi hs' hs
 go_enter Tryz.func60,Tryz.ntmps60
 go_wp2_with fail
 refine P.mono ?_
 rintro e w1 ⟨rfl,C1⟩
 have FIN:Aside _:=C1
 clear P C1
 go_wp2_with fail
 go_ret
 exact⟨rfl,FIN.out⟩
theorem turn34(C:Co w L D F g v σ){t:Nat}(ht:t<σ.th)(hi:σ.T[i]?=some x)(hs:x.s=3)(hp:0≤x.p)(hid:Da.wfI ((i:Int)+1))(hN:σ.N<1000000)(hl:σ.ev.length+300<1000000)(hT:σ.T.length≤200)(hq:σ.qn+σ.T.countP isW≤1000)(htk:σ.tk<1000000)(hw:∀j,σ.E ((i:Int)+1) j→(∀q,σ.E q j→q=(i:Int)+1)→Wt σ.T j) :
  Calls Tryz.prog 44 #[pt D.B,.int .i64 t,.int .i64 ((i:Int)+1),.int .i64 4] w fun e w'=>e=.returned (.tuple #[])∧∃d,DoneL σ.E ((i:Int)+1) d∧Cox L D F w (relL t d {endS (turnS σ i x 4) t ((i:Int)+1) with E:=fun q j=>σ.E q j∧q≠(i:Int)+1}) w':=by
 refine(turn_byZ C t hi hs hp (by decide) (Z:=fun τ=>∃d,DoneL σ.E ((i:Int)+1) d∧τ=relL t d {endS (turnS σ i x 4) t ((i:Int)+1) with E:=fun q j=>σ.E q j∧q≠(i:Int)+1}) (fun F1 g1 v1 w1 C1=>?_)).mono ?_
 ·refine follow_34 D.B t ((i:Int)+1) w1 (fun w2 b2=>?_)
  have hx:σ.T.countP isW=(σ.T.set i (turnX x 4)).countP isW:=by
   have:=Ta.cntP_set isW σ.T i x (turnX x 4) hi
   have e1:isW x=false:=by simp[isW,hs]
   have e2:isW (turnX x 4)=false:=by simp[isW,(turnX_key x 4).2.2.1]
   rw[e1,e2] at this
   simpa using this.symm
  refine(endC (C1.below b2) ht hid hN hl (by show(σ.T.set i _).length≤200;simpa using hT) (by show σ.qn+(σ.T.set i _).countP isW≤1000;rw[←hx];exact hq) htk (fun j h1 h2=>?_)).mono ?_
  ·obtain⟨k,y,e1,e2,e3,e4⟩:=hw j h1 h2
   refine⟨k,y,e1,?_,e3,e4⟩
   show(σ.T.set i _)[k]?=some y
   rw[List.getElem?_set_ne (fun e=>?_)]
   ·exact e2
   ·rw[←e,hi] at e2
    injection e2 with e2
    rw[e2] at hs
    omega
  ·rintro e w3 ⟨rfl,d,dl,F3,g3,v3,C3,G3⟩
   exact⟨rfl,_,⟨d,dl,rfl⟩,F3,g3,v3,C3,(Gc.below F1 C1.lw b2).trans G3⟩
 ·rintro e w' ⟨rfl,τ,⟨d,dl,rfl⟩,X⟩
  exact⟨rfl,d,dl,X⟩
theorem claimC(C:Co w L D F g v σ){t:Nat}(ht:t<σ.th)(hi:σ.T[i]?=some x)(hs:x.s=2)(hp:0≤x.p)(hl:σ.ev.length<1000000)(hn:σ.qn≤1000)(htk:σ.tk<1000000) :
  Calls Tryz.prog 15 #[pt D.B,.int .i64 t,.agg #[.int .u64 x.key,.int .i64 ((i:Int)+1)]] w fun e w'=>e=.returned (.int .i64 0)∧Cox L D F w (handS (turnS σ i x 3) t i (turnX x 3)) w':=by
 obtain⟨K,hK⟩:∃J,w.heap.size=J:=⟨_,rfl⟩
 obtain⟨KY,hKY⟩:∃J,x.key=J:=⟨_,rfl⟩
 obtain⟨I1,hI1⟩:∃J,(i:Int)+1=J:=⟨_,rfl⟩
 obtain⟨u,hu⟩:∃z,w.alloc (.cells #[.int .u64 KY,.int .i64 I1] 47)=z:=⟨_,rfl⟩
 have b0:Below w.heap.size w u:=by rw[←hu];exact belA _ _
 have BK:Bx u F K #[.int .u64 KY,.int .i64 I1] 47:=by rw[←hu,←hK];exact Bx.new C _ _
 have C0:=C.below b0
 have P1:=threadC C0 ht
 have P2:=taskC C0 hi (by omega)
 rw[hI1] at P2
 have k1:u.cell? ⟨K,1,none⟩=some (.int .i64 I1):=BK.cell 1
 have HH:Aside (t<σ.th∧σ.T[i]?=some x∧x.s=2∧0≤x.p∧σ.ev.length<1000000∧σ.qn≤1000∧σ.tk<1000000∧x.key=KY∧(i:Int)+1=I1):=⟨ht,hi,hs,hp,hl,hn,htk,hKY,hI1⟩
 have X0:Aside (Gc L F w F u∧Bx u F K #[.int .u64 KY,.int .i64 I1] 47):=⟨Gc.below F C.lw b0,BK⟩
 have HU:Aside _:=hu
 have HK:Aside _:=hK
 rw[hKY,hI1]
 clear C C0 ht hi hs hp hl hn htk hKY hI1 hu hK BK b0
 go_enter Tryz.func15,Tryz.ntmps15
 go_upto_region 1 with fail
 rw[HU.out]
 try simp only[HK.out]
 go_wp2_with fail
 refine P1.mono ?_
 rintro e w1 ⟨rfl,rfl⟩
 clear P1
 go_wp2_with fail
 refine P2.mono ?_
 rintro e w2 ⟨rfl,F2,g2,v2,C2,G2⟩
 clear P2 k1
 have B2:=X0.out.2.gc mq_ent G2
 have X2:Aside (Gc L F w F2 w2.drew∧Bx w2.drew F2 K #[.int .u64 KY,.int .i64 I1] 47):=⟨(X0.out.1.trans G2).trans (Gc.below F2 C2.lw (Below.refl _ _).drew),B2⟩
 have k0:w2.drew.cell? ⟨K,0,none⟩=some (.int .u64 KY):=B2.cell 0
 have k1:w2.drew.cell? ⟨K,1,none⟩=some (.int .i64 I1):=B2.cell 1
 have PS:Aside (Calls Tryz.prog 12 #[pt D.B,.int .i64 I1] w2.drew fun e w'=>e=.returned (.int .i64 2)∧∃F',(∃g' v',Co w' L D F' g' v' σ)∧Gc L F w F' w'∧Bx w' F' K #[.int .u64 KY,.int .i64 I1] 47∧w'.cell? ⟨K,0,none⟩=some (.int .u64 KY)∧w'.cell? ⟨K,1,none⟩=some (.int .i64 I1)):=by
  have:=statusC C2.drew HH.out.2.1
  rw[HH.out.2.2.1,HH.out.2.2.2.2.2.2.2.2] at this
  refine this.mono ?_
  rintro e w' ⟨rfl,F4,g4,v4,C4,G4⟩
  have B4:=X2.out.2.gc mq_ent G4
  exact⟨rfl,F4,⟨g4,v4,C4⟩,X2.out.1.trans G4,B4,B4.cell 0,B4.cell 1⟩
 have PE:Aside (∀(W:World) F3 g3 v3,Co W L D F3 g3 v3 σ→Gc L F w F3 W→Bx W F3 K #[.int .u64 KY,.int .i64 I1] 47→Calls Tryz.prog 61 #[pt D.B,.int .i64 I1] W fun e w'=>e=.returned (.agg #[.int .u64 KY,.int .i64 I1])∧∃F',(∃g' v',Co w' L D F' g' v' σ)∧Gc L F w F' w'∧Bx w' F' K #[.int .u64 KY,.int .i64 I1] 47∧w'.cell? ⟨K,0,none⟩=some (.int .u64 KY)∧w'.cell? ⟨K,1,none⟩=some (.int .i64 I1)):=by
  intro W F3 g3 v3 C3 G3 B3
  have:=entryC C3 HH.out.2.1
  rw[HH.out.2.2.2.2.2.2.2.1,HH.out.2.2.2.2.2.2.2.2] at this
  refine this.mono ?_
  rintro e w' ⟨rfl,F4,g4,v4,C4,G4⟩
  have B4:=B3.gc mq_ent G4
  exact⟨rfl,F4,⟨g4,v4,C4⟩,G3.trans G4,B4,B4.cell 0,B4.cell 1⟩
 clear C2 G2 B2
 go_upto_region 3 with fail
 go_region_held3 (fun w'=>w'.cell? ⟨K,0,none⟩=some (.int .u64 KY)∧w'.cell? ⟨K,1,none⟩=some (.int .i64 I1)) (first|with_reducible exact⟨k0,k1⟩|with_reducible exact⟨e0,e1⟩|with_reducible exact⟨f0,f1⟩) ((first|(go_at_call 61;(with_reducible refine Calls.mono (PE.out w3 F3 g3 v3 C3 G3 B3) ?_);rintro e w4 ⟨rfl,F4,⟨g4,v4,C4⟩,G4,B4,f0,f1⟩)|(go_at_call 12;(with_reducible refine Calls.mono PS.out ?_);rintro e w3 ⟨rfl,F3,⟨g3,v3,C3⟩,G3,B3,e0,e1⟩)))
 have P:=turn23 C4 HH.out.2.2.2.2.1 HH.out.2.2.2.2.2.1 HH.out.2.2.2.2.2.2.1 t HH.out.2.1 HH.out.2.2.1 HH.out.2.2.2.1
 rw[HH.out.2.2.2.2.2.2.2.2] at P
 have X4:Aside (Gc L F w F4 w4):=G4
 have flt:=lt_of_block B4.1
 clear C3 G3 B3 C4 G4 B4 k0 k1 e0 e1 f0
 go_wp2_with fail
 refine P.mono ?_
 rintro e w5 ⟨rfl,F5,g5,v5,C5,G5⟩
 have FIN:Aside (Cox L D F w (handS (turnS σ i x 3) t i (turnX x 3)) w5):=⟨F5,g5,v5,C5,X4.out.trans G5⟩
 clear P C5 G5 X4 f1 flt
 go_wp2_with fail
 go_ret
 exact⟨rfl,FIN.out⟩
end
section
variable {w w' u:World}{L i:Nat}{D:CAd}{F F':Nat→Nat→Prop}{g v:Value}{σ:CS}{x:Ta.TR}
theorem finC(C:Co w L D F g v σ){t:Nat}(ht:t<σ.th)(hi:σ.T[i]?=some x)(hs:x.s=3)(hp:x.p=0)(hid:Da.wfI ((i:Int)+1))(hN:σ.N<1000000)(hl:σ.ev.length+300<1000000)(hT:σ.T.length≤200)(hq:σ.qn+σ.T.countP isW≤1000)(htk:σ.tk<1000000)(hw:∀j,σ.E ((i:Int)+1) j→(∀q,σ.E q j→q=(i:Int)+1)→Wt σ.T j) :
  Calls Tryz.prog 16 #[pt D.B,.int .i64 t,.int .i64 ((i:Int)+1),.bool true] w fun e w'=>e=.returned (.int .i64 0)∧∃d,DoneL σ.E ((i:Int)+1) d∧Cox L D F w (relL t d {endS (turnS σ i x 4) t ((i:Int)+1) with E:=fun q j=>σ.E q j∧q≠(i:Int)+1}) w':=by
 have P1:=threadC C ht
 have P2:=taskC C hi (by omega)
 have P6:Aside (∀(W:World) F3 g3 v3,Co W L D F3 g3 v3 σ→Calls Tryz.prog 44 #[pt D.B,.int .i64 t,.int .i64 ((i:Int)+1),.int .i64 4] W fun e w'=>e=.returned (.tuple #[])∧∃d,DoneL σ.E ((i:Int)+1) d∧Cox L D F3 W (relL t d {endS (turnS σ i x 4) t ((i:Int)+1) with E:=fun q j=>σ.E q j∧q≠(i:Int)+1}) w'):=fun W F3 g3 v3 C3=>turn34 C3 ht hi hs (by omega) hid hN hl hT hq htk hw
 have HH:Aside (σ.T[i]?=some x∧x.s=3∧x.p=0):=⟨hi,hs,hp⟩
 clear C ht hi hs hp hid hN hl hT hq htk hw
 go_enter Tryz.func16,Tryz.ntmps16
 go_wp2_with fail
 refine P1.mono ?_
 rintro e w1 ⟨rfl,rfl⟩
 clear P1
 go_wp2_with fail
 refine P2.mono ?_
 rintro e w2 ⟨rfl,F2,g2,v2,C2,G2⟩
 clear P2
 have P:=statusC C2 HH.out.1
 rw[HH.out.2.1] at P
 have X2:Aside (Gc L F w1 F2 w2):=G2
 clear C2 G2
 go_wp2_with fail
 refine P.mono ?_
 rintro e w3 ⟨rfl,F3,g3,v3,C3,G3⟩
 clear P
 have C3d:=C3.drew
 have X3:Aside (Gc L F w1 F3 w3.drew∧Co w3.drew L D F3 g3 v3 σ):=⟨(X2.out.trans G3).trans (Gc.below F3 C3.lw (Below.refl _ _).drew),C3d⟩
 have c3:w3.drew.cell? ⟨D.B,3,none⟩=some (pt D.Bt):=C3d.c3
 have c5:w3.drew.cell? ⟨D.B,5,none⟩=some (pt D.Bw):=C3d.c5
 have NW:Aside (Calls Tryz.prog 39 #[pt D.Bw] w3.drew fun e w'=>e=.returned (.int .u64 σ.now)∧w'=w3.drew):=Wl.now_any C3d.whl
 have AG:Aside (Calls Tryz.prog 62 #[pt D.Bt,.int .i64 ((i:Int)+1),.int .u64 σ.now] w3.drew fun e w'=>e=.returned (.tuple #[.int .u64 0,.bool false])∧Below w3.drew.heap.size w3.drew w'∧w'.cell? ⟨D.B,3,none⟩=some (pt D.Bt)∧w'.cell? ⟨D.B,5,none⟩=some (pt D.Bw)):=by
  refine(Ta.againZ C3d.tab HH.out.1 σ.now HH.out.2.2).mono ?_
  rintro e w' ⟨rfl,b⟩
  exact⟨rfl,b,(C3d.below b).c3,(C3d.below b).c5⟩
 clear C3 C3d G3 X2
 go_upto_region 5 with fail
 go_region_held3 (fun w'=>w'.cell? ⟨D.B,3,none⟩=some (pt D.Bt)∧w'.cell? ⟨D.B,5,none⟩=some (pt D.Bw)) (first|with_reducible exact⟨c3,c5⟩|with_reducible exact⟨d3,d5⟩) ((first|(go_at_call 39;(with_reducible refine Calls.mono NW.out ?_);rintro e v2 ⟨rfl,rfl⟩)|(go_at_call 62;(with_reducible refine Calls.mono AG.out ?_);rintro e w4 ⟨rfl,b4,d3,d5⟩)))
 have C4:=X3.out.2.below b4
 have P:=P6.out w4 F3 g3 v3 C4
 have X4:Aside (Gc L F w1 F3 w4):=X3.out.1.trans (Gc.below F3 X3.out.2.lw b4)
 clear C4 b4 c3 c5 d3 d5
 go_wp2_with fail
 refine P.mono ?_
 rintro e w5 ⟨rfl,d,dl,F5,g5,v5,C5,G5⟩
 have FIN:Aside (∃d,DoneL σ.E ((i:Int)+1) d∧Cox L D F w1 (relL t d {endS (turnS σ i x 4) t ((i:Int)+1) with E:=fun q j=>σ.E q j∧q≠(i:Int)+1}) w5):=⟨d,dl,F5,g5,v5,C5,X4.out.trans G5⟩
 clear P C5 G5 X4 dl
 go_wp2_with fail
 go_ret
 exact⟨rfl,FIN.out⟩
end
section
variable {w w' u:World}{L i:Nat}{D:CAd}{F F':Nat→Nat→Prop}{g v:Value}{σ:CS}{x:Ta.TR}
theorem chooseC(a b z:Int×Int)(t:Int)(hz:z=if a.1≤t then a else b)(w:World) :
  Calls Tryz.prog 100 #[.agg #[.int .u64 a.1,.int .i64 a.2],.agg #[.int .u64 b.1,.int .i64 b.2],.int .u64 t] w fun e w'=>e=.returned (.agg #[.int .u64 z.1,.int .i64 z.2])∧Below w.heap.size w w':=by
 refine(Ag.choose_any a b t w).mono ?_
 rintro e w' ⟨rfl,h⟩
 subst hz
 by_cases c:a.1≤t
 ·rw[if_pos c,if_pos c];exact⟨rfl,h⟩
 ·rw[if_neg c,if_neg c];exact⟨rfl,h⟩
theorem lookC(C:Co w L D F g v σ){t dr:Nat}(ht:t<σ.th)(hdr:dr<18446744073709551616)(hn:σ.qn≤1000)(hl:σ.ev.length<1000000){x y z:Qu.Ent}(hx:Qu.relaxQ σ.q σ.th σ.k t dr=(x,true))(hy:Qu.unl (Qu.leastQ σ.q σ.th)=y)(hz:z=if y.1≤(σ.tk:Int) then y else x) :
  Calls Tryz.prog 52 #[pt D.B,.int .i64 t,.int .u64 dr] w fun e w'=>e=.returned (.tuple #[.agg #[.int .u64 z.1,.int .i64 z.2],.bool true])∧Cox L D F w (tellS σ 10 t z.2 z.1) w':=by
 obtain⟨K,hK⟩:∃J,w.heap.size=J:=⟨_,rfl⟩
 obtain⟨u,hu⟩:∃q,w.alloc (.cells #[.int .u64 0,.int .i64 0] 47)=q:=⟨_,rfl⟩
 have b0:Below w.heap.size w u:=by rw[←hu];exact belA _ _
 have hB:u.heap[K]?=some (.cells #[.int .u64 0,.int .i64 0] 47 (0,0)):=by rw[←hu,←hK];exact heap_alloc_new w _
 have C0:=C.below b0
 have c4:=C0.c4
 have P:=Qu.relaxed_in u L D.A σ.th σ.k σ.qn σ.q t dr C0.que C0.qok hn C0.k16 ht C0.th8 hdr
 rw[hx] at P
 have HC:Aside (Co w L D F g v σ∧w.heap.size=K∧σ.qn≤1000∧σ.ev.length<1000000):=⟨C,hK,hn,hl⟩
 have X0:Aside (Below w.heap.size w u∧u.heap[K]?=some (.cells #[.int .u64 0,.int .i64 0] 47 (0,0))):=⟨b0,hB⟩
 have HY:Aside (Qu.unl (Qu.leastQ σ.q σ.th)=y):=hy
 obtain⟨x1,x2⟩:=x
 obtain⟨y1,y2⟩:=y
 obtain⟨z1,z2⟩:=z
 have CH:Aside (∀W,Calls Tryz.prog 100 #[.agg #[.int .u64 y1,.int .i64 y2],.agg #[.int .u64 x1,.int .i64 x2],.int .u64 σ.tk] W fun e w'=>e=.returned (.agg #[.int .u64 z1,.int .i64 z2])∧Below W.heap.size W w'):=fun W=>chooseC (y1,y2) (x1,x2) (z1,z2) σ.tk hz W
 have HU:Aside _:=hu
 clear C C0 hx hy hz hu hB b0 hn hl
 go_enter Tryz.func52,Tryz.ntmps52
 go_upto_region 1 with fail
 rw[HU.out]
 go_wp2_with fail
 refine Calls.mono P ?_
 rintro e w1 ⟨rfl,b1⟩
 clear P c4
 obtain⟨K8,hK8⟩:∃J,w1.heap.size=J:=⟨_,rfl⟩
 obtain⟨u1,hu1⟩:∃q,w1.alloc (.cells #[.int .u64 x1,.int .i64 x2] 47)=q:=⟨_,rfl⟩
 have b2:Below w1.heap.size w1 u1:=by rw[←hu1];exact belA _ _
 have h8:u1.heap[K8]?=some (.cells #[.int .u64 x1,.int .i64 x2] 47 (0,0)):=by rw[←hu1,←hK8];exact heap_alloc_new w1 _
 have X1:Aside (Below w.heap.size w u1∧u1.heap[K]?=some (.cells #[.int .u64 0,.int .i64 0] 47 (0,0))∧u1.heap[K8]?=some (.cells #[.int .u64 x1,.int .i64 x2] 47 (0,0))):=⟨belT X0.out.1 (belT b1 b2),((belT b1 b2).block K (lt_of_block X0.out.2)).trans X0.out.2,h8⟩
 have C1:=HC.out.1.below X1.out.1
 have c4:=C1.c4
 have P:=Qu.qleast_any u1 L D.A σ.th σ.k σ.qn σ.q C1.que C1.qok HC.out.2.2.1 C1.k16 C1.th1 C1.th8
 rw[HY.out] at P
 obtain⟨fl,hfl⟩:∃b,Qu.unb (Qu.leastQ σ.q σ.th)=b:=⟨_,rfl⟩
 rw[hfl] at P
 have HU1:Aside _:=hu1
 have HK8:Aside _:=hK8
 clear hu1 hK8 b1 b2 h8 C1 hfl
 go_upto_region 4 with fail
 rw[HU1.out]
 simp only[HK8.out]
 go_wp2_with fail
 refine Calls.mono P ?_
 rintro e w2 ⟨rfl,b3⟩
 clear P c4
 obtain⟨K10,hK10⟩:∃J,w2.heap.size=J:=⟨_,rfl⟩
 obtain⟨u2,hu2⟩:∃q,w2.alloc (.cells #[.int .u64 y1,.int .i64 y2] 47)=q:=⟨_,rfl⟩
 have b4:Below w2.heap.size w2 u2:=by rw[←hu2];exact belA _ _
 have h10:u2.heap[K10]?=some (.cells #[.int .u64 y1,.int .i64 y2] 47 (0,0)):=by rw[←hu2,←hK10];exact heap_alloc_new w2 _
 have X2:Aside (Below w.heap.size w u2.drew∧u2.drew.heap[K]?=some (.cells #[.int .u64 0,.int .i64 0] 47 (0,0))∧u2.drew.heap[K8]?=some (.cells #[.int .u64 x1,.int .i64 x2] 47 (0,0))∧u2.drew.heap[K10]?=some (.cells #[.int .u64 y1,.int .i64 y2] 47 (0,0))):=⟨(belT X1.out.1 (belT b3 b4)).drew,((belT b3 b4).block K (lt_of_block X1.out.2.1)).trans X1.out.2.1,((belT b3 b4).block K8 (lt_of_block X1.out.2.2)).trans X1.out.2.2,h10⟩
 have C2:=HC.out.1.below X2.out.1
 have c8:u2.drew.cell? ⟨D.B,8,none⟩=some (.int .u64 σ.tk):=C2.c8
 obtain⟨x0,xx1⟩:=bx2 X2.out.2.2.1
 obtain⟨y0,yy1⟩:=bx2 X2.out.2.2.2
 have KP:Aside (∀W:World,Below u2.heap.size u2 W→W.cell? ⟨D.B,8,none⟩=some (.int .u64 σ.tk)∧W.cell? ⟨K8,0,none⟩=some (.int .u64 x1)∧W.cell? ⟨K8,1,none⟩=some (.int .i64 x2)∧W.cell? ⟨K10,0,none⟩=some (.int .u64 y1)∧W.cell? ⟨K10,1,none⟩=some (.int .i64 y2)):=by
  intro W b
  obtain⟨p0,p1⟩:=bx2 ((b.block K8 (lt_of_block X2.out.2.2.1)).trans X2.out.2.2.1)
  obtain⟨q0,q1⟩:=bx2 ((b.block K10 (lt_of_block X2.out.2.2.2)).trans X2.out.2.2.2)
  have b':Below u2.drew.heap.size u2.drew W:=⟨b.os,b.tape,b.output,b.size,b.block⟩
  exact⟨(C2.below b').c8,p0,p1,q0,q1⟩
 have hb0:Below u2.heap.size u2 u2.drew:=(Below.refl _ _).drew
 have hbA:Below u2.heap.size u2 (u2.alloc (.cells #[.int .u64 0,.int .i64 0] 47)).drew:=((Below.refl _ _).alloc (Nat.le_refl _) _).drew
 obtain⟨a8,a0,a1,a2,a3⟩:=KP.out _ hbA
 have X2K:Aside (u2.heap[K]?=some (.cells #[.int .u64 0,.int .i64 0] 47 (0,0))∧Below w.heap.size w u2):=⟨X2.out.2.1,⟨X2.out.1.os,X2.out.1.tape,X2.out.1.output,X2.out.1.size,X2.out.1.block⟩⟩
 obtain⟨N2,hN2⟩:∃J,u2.heap.size=J:=⟨_,rfl⟩
 have hbx:(u2.alloc (.cells #[.int .u64 0,.int .i64 0] 47)).drew.heap[N2]?=some (.cells #[.int .u64 0,.int .i64 0] 47 (0,0)):=by rw[←hN2];exact heap_alloc_new u2 _
 have HBX:Aside _:=hbx
 have HN2:Aside _:=hN2
 have HU2:Aside _:=hu2
 have HK10:Aside _:=hK10
 clear hu2 hK10 b3 b4 h10 C2 hbx
 go_upto_region 5 with fail
 rw[HU2.out]
 simp only[HK10.out]
 go_cut [12] from 34 to 40 (fun s12 wx=>∃(T:Nat),s12=.pointer (some ⟨T,0,none⟩)∧Below u2.heap.size u2 wx∧wx.heap[T]?=some (.cells #[.int .u64 z1,.int .i64 z2] 47 (0,0))∧u2.heap.size≤T)
 case first=>
  go_region_held3 (fun w'=>w'.cell? ⟨D.B,8,none⟩=some (.int .u64 σ.tk)∧w'.cell? ⟨K8,0,none⟩=some (.int .u64 x1)∧w'.cell? ⟨K8,1,none⟩=some (.int .i64 x2)∧w'.cell? ⟨K10,0,none⟩=some (.int .u64 y1)∧w'.cell? ⟨K10,1,none⟩=some (.int .i64 y2)) (first|with_reducible exact⟨c8,x0,xx1,y0,yy1⟩|with_reducible exact⟨a8,a0,a1,a2,a3⟩|with_reducible exact⟨d8,p0,p1,q0,q1⟩|with_reducible exact KP.out _ (h3.alloc h3.size _)|with_reducible exact KP.out _ ((h3.setCell (le_of_eq HN2.out) _).setCell (le_of_eq HN2.out) _)) ((go_at_call 100;first|((with_reducible refine Calls.mono (CH.out u2.drew) ?_);rintro e w3 ⟨rfl,b5⟩;have h3:Below u2.heap.size u2 w3:=belT hb0 b5;obtain⟨d8,p0,p1,q0,q1⟩:=KP.out w3 h3)|((with_reducible refine Calls.mono (CH.out (u2.alloc (.cells #[.int .u64 0,.int .i64 0] 47)).drew) ?_);rintro e w3 ⟨rfl,b5⟩;have h3:Below u2.heap.size u2 w3:=belT hbA b5;obtain⟨d8,p0,p1,q0,q1⟩:=KP.out w3 h3;have hb3:w3.heap[N2]?=some (.cells #[.int .u64 0,.int .i64 0] 47 (0,0)):=(b5.block N2 (lt_of_block HBX.out)).trans HBX.out;obtain⟨m0,m1⟩:=bx2 hb3;have mlt:=lt_of_block hb3;have mfz:∀o,w3.frozen? ⟨N2,o,none⟩=false:=(fun o=>by simp[World.frozen?,hb3]))))
  all_goals go_wp2_with fail
  all_goals go_meet
  ·exact⟨w3.heap.size,rfl,h3.alloc h3.size _,heap_alloc_new w3 _,h3.size⟩
  ·exact⟨N2,rfl,(h3.setCell (le_of_eq HN2.out) _).setCell (le_of_eq HN2.out) _,set_at (set_at hb3 _) _,le_of_eq HN2.out⟩
 case rest=>
  obtain⟨T,rfl,bw,hT,lT⟩:=hcut
  have XW:Aside (Below w.heap.size w wc):=belT X2K.out.2 bw
  have hKw:wc.heap[K]?=some (.cells #[.int .u64 0,.int .i64 0] 47 (0,0)):=(bw.block K (lt_of_block X2K.out.1)).trans X2K.out.1
  have BT:Bx wc F T #[.int .u64 z1,.int .i64 z2] 47:=⟨hT,fun p hp=>by have:=HC.out.1.fp.lt p T hp;have:=X2K.out.2.size;omega⟩
  have BK:Bx wc F K #[.int .u64 0,.int .i64 0] 47:=⟨hKw,fun p hp=>by have:=HC.out.1.fp.lt p K hp;have:=HC.out.2.1;omega⟩
  have Cc:=HC.out.1.below XW.out
  have P:=tellC Cc HC.out.2.2.2 10 t z2 z1
  obtain⟨t0,t1⟩:=bx2 hT
  have tlt:=lt_of_block hT
  have BB:Aside (Bx wc F T #[.int .u64 z1,.int .i64 z2] 47∧Bx wc F K #[.int .u64 0,.int .i64 0] 47):=⟨BT,BK⟩
  clear bw hT lT hKw BT BK Cc c8 x0 xx1 y0 yy1 a8 a0 a1 a2 a3 hb0 hbA hN2
  go_wp2_with fail
  refine P.mono ?_
  rintro e w4 ⟨rfl,⟨F4,g4,v4,C4,G4⟩,Q4⟩
  clear P t0 t1 tlt
  have B4:=BB.out.1.gc mq_ent G4
  have K4:=BB.out.2.gc mq_ent G4
  obtain⟨t0,t1⟩:=bx2 B4.1
  have tlt:=lt_of_block B4.1
  obtain⟨k0,k1⟩:=bx2 K4.1
  have klt:=lt_of_block K4.1
  have kfz:∀o,w4.frozen? ⟨K,o,none⟩=false:=(fun o=>by simp[World.frozen?,K4.1])
  have E:Aside (((w4.setCell ⟨K,0,none⟩ (.int .u64 z1)).setCell ⟨K,1,none⟩ (.int .i64 z2)).heap[K]?=some (.cells #[.int .u64 z1,.int .i64 z2] 47 (0,0))):=set_at (set_at K4.1 _) _
  have FIN:Aside (Cox L D F w (tellS σ 10 t z2 z1) ((w4.setCell ⟨K,0,none⟩ (.int .u64 z1)).setCell ⟨K,1,none⟩ (.int .i64 z2))):=by
   have G:Gc L F w F4 w4:=(Gc.below F HC.out.1.lw XW.out).trans G4
   have Q:Gq F w w4:=(Gq.below F XW.out).trans (Gc.below F HC.out.1.lw XW.out) Q4
   have f:Ta.Fr (fun k=>k=K) w4 ((w4.setCell ⟨K,0,none⟩ (.int .u64 z1)).setCell ⟨K,1,none⟩ (.int .i64 z2)):=(Ta.Fr.setCell (fun k=>k=K) w4 K 0 (.int .u64 z1) rfl).trans (Ta.Fr.setCell (fun k=>k=K) _ K 1 (.int .i64 z2) rfl) (fun j hj=>.inl hj)
   obtain⟨C5,G5,_⟩:=HC.out.1.box C4 G Q rfl rfl rfl (le_of_eq HC.out.2.1) klt K4.2 f
   exact⟨F4,g4,v4,C5,G5⟩
  clear C4 G4 Q4 B4 K4
  go_wp2_with fail
  have eb:=fun j=>cell_of_row _ _ j _ _ _ E.out
  have q0:=eb 0
  have q1:=eb 1
  refine bodyPost_ret (v:=.tuple #[.agg #[.int .u64 z1,.int .i64 z2],.bool true]) (by simp[results,Tryz.results52,go_sem,q0,q1]) rfl ⟨rfl,?_⟩
  exact FIN.out
end
section
variable {w w' u:World}{L i:Nat}{D:CAd}{F F':Nat→Nat→Prop}{g v:Value}{σ:CS}{x:Ta.TR}
theorem Co.frX{X:Nat→Prop}(C:Co w L D F g v σ)(f:Ta.Fr X w w')(hX:∀k,X k→(∀p,¬F p k)∧NQ w k):Co w' L D F g v σ:=by
 have KK:K8 (fun q=>False) w' L D F g v σ:=C.keep (fun q=>False) f (fun q _ k hk hy=>(hX k hy).1 q hk) (fun _ k hk=>(hX k hk).2)
 exact⟨KK.head (by simp),KK.tab (by simp),KK.que (by simp),KK.whl (by simp),KK.dag (by simp),KK.cre (by simp),KK.evs (by simp),KK.gon (by simp),C.f0,C.f2,C.f5,C.f6,C.f7,C.f8,C.fp.grow f.size,le_trans C.lw f.size,le_trans C.wb f.size,C.qok,C.th1,C.th8,C.k16⟩
theorem Gc.ownX{w0:World}{F0:Nat→Nat→Prop}{X:Nat→Prop}(G:Gc L F0 w0 F w)(hX:∀k,X k→w0.heap.size≤k)(hL:L≤w0.heap.size)(f:Ta.Fr X w w'):Gc L F0 w0 F w':=
 ⟨G.low.trans (f.toBelow (fun k hk=>le_trans hL (hX k hk)) (le_trans hL G.size)),fun k hk hF hU=>(f.block k (Nat.lt_of_lt_of_le hk G.size) (fun e=>by have:=hX k e;omega)).trans (G.block k hk hF hU),G.new⟩
end
end Go.Proofs.YtdboknkfhbhniaaGreatDoor
