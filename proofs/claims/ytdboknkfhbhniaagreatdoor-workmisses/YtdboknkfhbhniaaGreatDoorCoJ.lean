import Derived.Test.YtdboknkfhbhniaaGreatDoorCoC
open Nat(le_of_eq le_refl le_trans)
namespace Go.Proofs.YtdboknkfhbhniaaGreatDoor
set_option maxHeartbeats 8000000
set_option maxRecDepth 100000
set_option linter.unusedVariables false
section
open Go.RowKit Go.Lib Go.WideMaps Go.Maps
variable {w w' u:World}{L i:Nat}{D:CAd}{F F':Nat→Nat→Prop}{g v:Value}{σ:CS}{x:Ta.TR}
def crS(σ:CS):CS:={σ with o:=σ.o+1,m:=max σ.m (σ.o+1)}
def subS(σ:CS)(t:Nat)(prio:Int):CS:=relS (mkS (crS σ) (Ta.mkT prio 0 0 0 0 0 2)) t σ.T.length (Ta.mkT prio 0 0 0 0 0 2)
theorem jb0(f d rr:Int):JbOk f 0 d rr 0:=.inl ⟨rfl,rfl⟩
theorem subC(C:Co w L D F g v σ){t:Nat}(ht:t<σ.th)(hc:σ.cl=false)(hl:σ.T.length<200)(ho:σ.o<σ.n)(he:σ.ev.length+1<1000000)(hn:σ.qn≤1000)(htk:σ.tk<1000000)(prio:Int)(h0:0≤prio)(h7:prio≤7) :
  Calls Tryz.prog 14 #[pt D.B,.int .i64 t,.int .i64 prio,.slice none 0 0,.slice none 0 0] w fun e w'=>e=.returned (.tuple #[.int .i64 ((σ.T.length:Int)+1),.int .i64 0])∧Cox L D F w (subS σ t prio) w':=by
 have P1:=rightC C ht prio h0 h7
 have P2:=areNil D.B w
 have P3:=refuseC C hc hl
 have c7:=C.c7
 have P4:=C.credC ho
 have HH:Aside (t<σ.th∧σ.T.length<200∧σ.ev.length+1<1000000∧σ.qn≤1000∧σ.tk<1000000∧0≤prio∧prio≤7):=⟨ht,hl,he,hn,htk,h0,h7⟩
 obtain⟨N1,hN1⟩:∃N1,(σ.T.length:Int)+1=N1:=⟨_,rfl⟩
 have HN1:Aside _:=hN1
 rw[hN1]
 clear C ht hl he hn htk h0 h7 hc ho hN1
 go_enter Tryz.func14,Tryz.ntmps14
 go_wp2_with fail
 refine P1.mono ?_
 rintro e w1 ⟨rfl,rfl⟩
 clear P1
 go_wp2_with fail
 refine P2.mono ?_
 rintro e w1 ⟨rfl,rfl⟩
 clear P2
 go_wp2_with fail
 refine P3.mono ?_
 rintro e w1 ⟨rfl,rfl⟩
 clear P3
 go_wp2_with fail
 refine(contNil _ _).mono ?_
 rintro e w1 ⟨rfl,rfl⟩
 go_wp2_with fail
 refine P4.mono ?_
 rintro e w2 ⟨rfl,F2,g2,v2,C2,G2⟩
 clear P4 c7
 have X2:Aside (Gc L F w1 F2 w2):=G2
 have P5:=begin2 C2 (t:=t) HH.out.1 HH.out.2.1 HH.out.2.2.1 HH.out.2.2.2.1 HH.out.2.2.2.2.1 prio 0 0 0 0 0 0 HH.out.2.2.2.2.2.1 HH.out.2.2.2.2.2.2 (jb0 0 0 0)
 rw[show(({σ with o:=σ.o+1,m:=max σ.m (σ.o+1)}:CS).T.length:Int)+1=N1 from HN1.out] at P5
 clear C2 G2
 go_wp2_with fail
 refine(notNil D.B _).mono ?_
 rintro e w3 ⟨rfl,rfl⟩
 go_wp2_with fail
 refine P5.mono ?_
 rintro e w4 ⟨rfl,F4,g4,v4,C4,G4⟩
 have FIN:Aside (Cox L D F w1 (subS σ t prio) w4):=⟨F4,g4,v4,C4,X2.out.trans G4⟩
 clear P5 C4 G4
 go_wp2_with fail
 go_ret2
 exact⟨rfl,FIN.out⟩
theorem taskC(C:Co w L D F g v σ)(hi:σ.T[i]?=some x)(hs:x.s≠0) :
  Calls Tryz.prog 60 #[pt D.B,.int .i64 ((i:Int)+1)] w fun e w'=>e=.returned (.bool true)∧Cox L D F w σ w':=by
 have P:=statusC C hi
 obtain⟨s,hs'⟩:∃s,x.s=s:=⟨_,rfl⟩
 rw[hs'] at P hs
 have hb:(s != 0)=true:=by simpa using hs
 clear C hi hs' hs
 go_enter Tryz.func60,Tryz.ntmps60
 go_wp2_with fail
 refine P.mono ?_
 rintro e w1 ⟨rfl,C1⟩
 have FIN:Aside _:=C1
 clear P C1
 go_wp2_with fail
 go_ret
 exact⟨rfl,FIN.out⟩
theorem turn34(C:Co w L D F g v σ){t:Nat}(ht:t<σ.th)(hi:σ.T[i]?=some x)(hs:x.s=3)(hp:0≤x.p)(hid:Da.wfI ((i:Int)+1))(hN:σ.N<1000000)(hl:σ.ev.length+300<1000000)(hT:σ.T.length≤200)(hq:σ.qn+σ.T.countP isW≤1000)(htk:σ.tk<1000000)(hw:∀j,σ.E ((i:Int)+1) j→(∀q,σ.E q j→q=(i:Int)+1)→Wt σ.T j) :
  Calls Tryz.prog 44 #[pt D.B,.int .i64 t,.int .i64 ((i:Int)+1),.int .i64 4] w fun e w'=>e=.returned (.tuple #[])∧∃d,DoneL σ.E ((i:Int)+1) d∧Cox L D F w (relL t d {endS (turnS σ i x 4) t ((i:Int)+1) with E:=fun q j=>σ.E q j∧q≠(i:Int)+1}) w':=by
 refine(turn_byZ C t hi hs hp (by decide) (Z:=fun τ=>∃d,DoneL σ.E ((i:Int)+1) d∧τ=relL t d {endS (turnS σ i x 4) t ((i:Int)+1) with E:=fun q j=>σ.E q j∧q≠(i:Int)+1}) (fun F1 g1 v1 w1 C1=>?_)).mono ?_
 ·refine follow_34 D.B t ((i:Int)+1) w1 (fun w2 b2=>?_)
  have hx:σ.T.countP isW=(σ.T.set i (turnX x 4)).countP isW:=by
   have:=Ta.cntP_set isW σ.T i x (turnX x 4) hi
   have e1:isW x=false:=by simp[isW,hs]
   have e2:isW (turnX x 4)=false:=by simp[isW,(turnX_key x 4).2.2.1]
   rw[e1,e2] at this
   simpa using this.symm
  refine(endC (C1.below b2) ht hid hN hl (by show(σ.T.set i _).length≤200;simpa using hT) (by show σ.qn+(σ.T.set i _).countP isW≤1000;rw[←hx];exact hq) htk (fun j h1 h2=>?_)).mono ?_
  ·obtain⟨k,y,e1,e2,e3,e4⟩:=hw j h1 h2
   refine⟨k,y,e1,?_,e3,e4⟩
   show(σ.T.set i _)[k]?=some y
   rw[List.getElem?_set_ne (fun e=>?_)]
   ·exact e2
   ·rw[←e,hi] at e2
    injection e2 with e2
    rw[e2] at hs
    omega
  ·rintro e w3 ⟨rfl,d,dl,F3,g3,v3,C3,G3⟩
   exact⟨rfl,_,⟨d,dl,rfl⟩,F3,g3,v3,C3,(Gc.below F1 C1.lw b2).trans G3⟩
 ·rintro e w' ⟨rfl,τ,⟨d,dl,rfl⟩,X⟩
  exact⟨rfl,d,dl,X⟩
theorem claimC(C:Co w L D F g v σ){t:Nat}(ht:t<σ.th)(hi:σ.T[i]?=some x)(hs:x.s=2)(hp:0≤x.p)(hl:σ.ev.length<1000000)(hn:σ.qn≤1000)(htk:σ.tk<1000000) :
  Calls Tryz.prog 15 #[pt D.B,.int .i64 t,.agg #[.int .u64 x.key,.int .i64 ((i:Int)+1)]] w fun e w'=>e=.returned (.int .i64 0)∧Cox L D F w (handS (turnS σ i x 3) t i (turnX x 3)) w':=by
 obtain⟨K,hK⟩:∃J,w.heap.size=J:=⟨_,rfl⟩
 obtain⟨KY,hKY⟩:∃J,x.key=J:=⟨_,rfl⟩
 obtain⟨I1,hI1⟩:∃J,(i:Int)+1=J:=⟨_,rfl⟩
 obtain⟨u,hu⟩:∃z,w.alloc (.cells #[.int .u64 KY,.int .i64 I1] 47)=z:=⟨_,rfl⟩
 have b0:Below w.heap.size w u:=by rw[←hu];exact belA _ _
 have BK:Bx u F K #[.int .u64 KY,.int .i64 I1] 47:=by rw[←hu,←hK];exact Bx.new C _ _
 have C0:=C.below b0
 have P1:=threadC C0 ht
 have P2:=taskC C0 hi (by omega)
 rw[hI1] at P2
 have k1:u.cell? ⟨K,1,none⟩=some (.int .i64 I1):=BK.cell 1
 have HH:Aside (t<σ.th∧σ.T[i]?=some x∧x.s=2∧0≤x.p∧σ.ev.length<1000000∧σ.qn≤1000∧σ.tk<1000000∧x.key=KY∧(i:Int)+1=I1):=⟨ht,hi,hs,hp,hl,hn,htk,hKY,hI1⟩
 have X0:Aside (Gc L F w F u∧Bx u F K #[.int .u64 KY,.int .i64 I1] 47):=⟨Gc.below F C.lw b0,BK⟩
 have HU:Aside _:=hu
 have HK:Aside _:=hK
 rw[hKY,hI1]
 clear C C0 ht hi hs hp hl hn htk hKY hI1 hu hK BK b0
 go_enter Tryz.func15,Tryz.ntmps15
 go_upto_region 1 with fail
 rw[HU.out]
 try simp only[HK.out]
 go_wp2_with fail
 refine P1.mono ?_
 rintro e w1 ⟨rfl,rfl⟩
 clear P1
 go_wp2_with fail
 refine P2.mono ?_
 rintro e w2 ⟨rfl,F2,g2,v2,C2,G2⟩
 clear P2 k1
 have B2:=X0.out.2.gc mq_ent G2
 have X2:Aside (Gc L F w F2 w2.drew∧Bx w2.drew F2 K #[.int .u64 KY,.int .i64 I1] 47):=⟨(X0.out.1.trans G2).trans (Gc.below F2 C2.lw (Below.refl _ _).drew),B2⟩
 have k0:w2.drew.cell? ⟨K,0,none⟩=some (.int .u64 KY):=B2.cell 0
 have k1:w2.drew.cell? ⟨K,1,none⟩=some (.int .i64 I1):=B2.cell 1
 have PS:Aside (Calls Tryz.prog 12 #[pt D.B,.int .i64 I1] w2.drew fun e w'=>e=.returned (.int .i64 2)∧∃F',(∃g' v',Co w' L D F' g' v' σ)∧Gc L F w F' w'∧Bx w' F' K #[.int .u64 KY,.int .i64 I1] 47∧w'.cell? ⟨K,0,none⟩=some (.int .u64 KY)∧w'.cell? ⟨K,1,none⟩=some (.int .i64 I1)):=by
  have:=statusC C2.drew HH.out.2.1
  rw[HH.out.2.2.1,HH.out.2.2.2.2.2.2.2.2] at this
  refine this.mono ?_
  rintro e w' ⟨rfl,F4,g4,v4,C4,G4⟩
  have B4:=X2.out.2.gc mq_ent G4
  exact⟨rfl,F4,⟨g4,v4,C4⟩,X2.out.1.trans G4,B4,B4.cell 0,B4.cell 1⟩
 have PE:Aside (∀(W:World) F3 g3 v3,Co W L D F3 g3 v3 σ→Gc L F w F3 W→Bx W F3 K #[.int .u64 KY,.int .i64 I1] 47→Calls Tryz.prog 61 #[pt D.B,.int .i64 I1] W fun e w'=>e=.returned (.agg #[.int .u64 KY,.int .i64 I1])∧∃F',(∃g' v',Co w' L D F' g' v' σ)∧Gc L F w F' w'∧Bx w' F' K #[.int .u64 KY,.int .i64 I1] 47∧w'.cell? ⟨K,0,none⟩=some (.int .u64 KY)∧w'.cell? ⟨K,1,none⟩=some (.int .i64 I1)):=by
  intro W F3 g3 v3 C3 G3 B3
  have:=entryC C3 HH.out.2.1
  rw[HH.out.2.2.2.2.2.2.2.1,HH.out.2.2.2.2.2.2.2.2] at this
  refine this.mono ?_
  rintro e w' ⟨rfl,F4,g4,v4,C4,G4⟩
  have B4:=B3.gc mq_ent G4
  exact⟨rfl,F4,⟨g4,v4,C4⟩,G3.trans G4,B4,B4.cell 0,B4.cell 1⟩
 clear C2 G2 B2
 go_upto_region 3 with fail
 go_region_held3 (fun w'=>w'.cell? ⟨K,0,none⟩=some (.int .u64 KY)∧w'.cell? ⟨K,1,none⟩=some (.int .i64 I1)) (first|with_reducible exact⟨k0,k1⟩|with_reducible exact⟨e0,e1⟩|with_reducible exact⟨f0,f1⟩) ((first|(go_at_call 61;(with_reducible refine Calls.mono (PE.out w3 F3 g3 v3 C3 G3 B3) ?_);rintro e w4 ⟨rfl,F4,⟨g4,v4,C4⟩,G4,B4,f0,f1⟩)|(go_at_call 12;(with_reducible refine Calls.mono PS.out ?_);rintro e w3 ⟨rfl,F3,⟨g3,v3,C3⟩,G3,B3,e0,e1⟩)))
 have P:=turn23 C4 HH.out.2.2.2.2.1 HH.out.2.2.2.2.2.1 HH.out.2.2.2.2.2.2.1 t HH.out.2.1 HH.out.2.2.1 HH.out.2.2.2.1
 rw[HH.out.2.2.2.2.2.2.2.2] at P
 have X4:Aside (Gc L F w F4 w4):=G4
 have flt:=lt_of_block B4.1
 clear C3 G3 B3 C4 G4 B4 k0 k1 e0 e1 f0
 go_wp2_with fail
 refine P.mono ?_
 rintro e w5 ⟨rfl,F5,g5,v5,C5,G5⟩
 have FIN:Aside (Cox L D F w (handS (turnS σ i x 3) t i (turnX x 3)) w5):=⟨F5,g5,v5,C5,X4.out.trans G5⟩
 clear P C5 G5 X4 f1 flt
 go_wp2_with fail
 go_ret
 exact⟨rfl,FIN.out⟩
end
section
open Go.RowKit Go.Lib Go.WideMaps Go.Maps
variable {w w' u:World}{L i:Nat}{D:CAd}{F F':Nat→Nat→Prop}{g v:Value}{σ:CS}{x:Ta.TR}
theorem finC(C:Co w L D F g v σ){t:Nat}(ht:t<σ.th)(hi:σ.T[i]?=some x)(hs:x.s=3)(hp:x.p=0)(hid:Da.wfI ((i:Int)+1))(hN:σ.N<1000000)(hl:σ.ev.length+300<1000000)(hT:σ.T.length≤200)(hq:σ.qn+σ.T.countP isW≤1000)(htk:σ.tk<1000000)(hw:∀j,σ.E ((i:Int)+1) j→(∀q,σ.E q j→q=(i:Int)+1)→Wt σ.T j) :
  Calls Tryz.prog 16 #[pt D.B,.int .i64 t,.int .i64 ((i:Int)+1),.bool true] w fun e w'=>e=.returned (.int .i64 0)∧∃d,DoneL σ.E ((i:Int)+1) d∧Cox L D F w (relL t d {endS (turnS σ i x 4) t ((i:Int)+1) with E:=fun q j=>σ.E q j∧q≠(i:Int)+1}) w':=by
 have P1:=threadC C ht
 have P2:=taskC C hi (by omega)
 have P6:Aside (∀(W:World) F3 g3 v3,Co W L D F3 g3 v3 σ→Calls Tryz.prog 44 #[pt D.B,.int .i64 t,.int .i64 ((i:Int)+1),.int .i64 4] W fun e w'=>e=.returned (.tuple #[])∧∃d,DoneL σ.E ((i:Int)+1) d∧Cox L D F3 W (relL t d {endS (turnS σ i x 4) t ((i:Int)+1) with E:=fun q j=>σ.E q j∧q≠(i:Int)+1}) w'):=fun W F3 g3 v3 C3=>turn34 C3 ht hi hs (by omega) hid hN hl hT hq htk hw
 have HH:Aside (σ.T[i]?=some x∧x.s=3∧x.p=0):=⟨hi,hs,hp⟩
 clear C ht hi hs hp hid hN hl hT hq htk hw
 go_enter Tryz.func16,Tryz.ntmps16
 go_wp2_with fail
 refine P1.mono ?_
 rintro e w1 ⟨rfl,rfl⟩
 clear P1
 go_wp2_with fail
 refine P2.mono ?_
 rintro e w2 ⟨rfl,F2,g2,v2,C2,G2⟩
 clear P2
 have P:=statusC C2 HH.out.1
 rw[HH.out.2.1] at P
 have X2:Aside (Gc L F w1 F2 w2):=G2
 clear C2 G2
 go_wp2_with fail
 refine P.mono ?_
 rintro e w3 ⟨rfl,F3,g3,v3,C3,G3⟩
 clear P
 have C3d:=C3.drew
 have X3:Aside (Gc L F w1 F3 w3.drew∧Co w3.drew L D F3 g3 v3 σ):=⟨(X2.out.trans G3).trans (Gc.below F3 C3.lw (Below.refl _ _).drew),C3d⟩
 have c3:w3.drew.cell? ⟨D.B,3,none⟩=some (pt D.Bt):=C3d.c3
 have c5:w3.drew.cell? ⟨D.B,5,none⟩=some (pt D.Bw):=C3d.c5
 have NW:Aside (Calls Tryz.prog 39 #[pt D.Bw] w3.drew fun e w'=>e=.returned (.int .u64 σ.now)∧w'=w3.drew):=Wl.now_any C3d.whl
 have AG:Aside (Calls Tryz.prog 62 #[pt D.Bt,.int .i64 ((i:Int)+1),.int .u64 σ.now] w3.drew fun e w'=>e=.returned (.tuple #[.int .u64 0,.bool false])∧Below w3.drew.heap.size w3.drew w'∧w'.cell? ⟨D.B,3,none⟩=some (pt D.Bt)∧w'.cell? ⟨D.B,5,none⟩=some (pt D.Bw)):=by
  refine(Ta.againZ C3d.tab HH.out.1 σ.now HH.out.2.2).mono ?_
  rintro e w' ⟨rfl,b⟩
  exact⟨rfl,b,(C3d.below b).c3,(C3d.below b).c5⟩
 clear C3 C3d G3 X2
 go_upto_region 5 with fail
 go_region_held3 (fun w'=>w'.cell? ⟨D.B,3,none⟩=some (pt D.Bt)∧w'.cell? ⟨D.B,5,none⟩=some (pt D.Bw)) (first|with_reducible exact⟨c3,c5⟩|with_reducible exact⟨d3,d5⟩) ((first|(go_at_call 39;(with_reducible refine Calls.mono NW.out ?_);rintro e v2 ⟨rfl,rfl⟩)|(go_at_call 62;(with_reducible refine Calls.mono AG.out ?_);rintro e w4 ⟨rfl,b4,d3,d5⟩)))
 have C4:=X3.out.2.below b4
 have P:=P6.out w4 F3 g3 v3 C4
 have X4:Aside (Gc L F w1 F3 w4):=X3.out.1.trans (Gc.below F3 X3.out.2.lw b4)
 clear C4 b4 c3 c5 d3 d5
 go_wp2_with fail
 refine P.mono ?_
 rintro e w5 ⟨rfl,d,dl,F5,g5,v5,C5,G5⟩
 have FIN:Aside (∃d,DoneL σ.E ((i:Int)+1) d∧Cox L D F w1 (relL t d {endS (turnS σ i x 4) t ((i:Int)+1) with E:=fun q j=>σ.E q j∧q≠(i:Int)+1}) w5):=⟨d,dl,F5,g5,v5,C5,X4.out.trans G5⟩
 clear P C5 G5 X4 dl
 go_wp2_with fail
 go_ret
 exact⟨rfl,FIN.out⟩
end
section
open Go.RowKit Go.Lib Go.WideMaps Go.Maps
variable {w w' u:World}{L i:Nat}{D:CAd}{F F':Nat→Nat→Prop}{g v:Value}{σ:CS}{x:Ta.TR}
theorem chooseC(a b z:Int×Int)(t:Int)(hz:z=if a.1≤t then a else b)(w:World) :
  Calls Tryz.prog 100 #[.agg #[.int .u64 a.1,.int .i64 a.2],.agg #[.int .u64 b.1,.int .i64 b.2],.int .u64 t] w fun e w'=>e=.returned (.agg #[.int .u64 z.1,.int .i64 z.2])∧Below w.heap.size w w':=by
 refine(Ag.choose_any a b t w).mono ?_
 rintro e w' ⟨rfl,h⟩
 subst hz
 by_cases c:a.1≤t
 ·rw[if_pos c,if_pos c];exact⟨rfl,h⟩
 ·rw[if_neg c,if_neg c];exact⟨rfl,h⟩
theorem lookC(C:Co w L D F g v σ){t dr:Nat}(ht:t<σ.th)(hdr:dr<18446744073709551616)(hn:σ.qn≤1000)(hl:σ.ev.length<1000000){x y z:Qu.Ent}(hx:Qu.relaxQ σ.q σ.th σ.k t dr=(x,true))(hy:Qu.unl (Qu.leastQ σ.q σ.th)=y)(hz:z=if y.1≤(σ.tk:Int) then y else x) :
  Calls Tryz.prog 52 #[pt D.B,.int .i64 t,.int .u64 dr] w fun e w'=>e=.returned (.tuple #[.agg #[.int .u64 z.1,.int .i64 z.2],.bool true])∧Cox L D F w (tellS σ 10 t z.2 z.1) w':=by
 obtain⟨K,hK⟩:∃J,w.heap.size=J:=⟨_,rfl⟩
 obtain⟨u,hu⟩:∃q,w.alloc (.cells #[.int .u64 0,.int .i64 0] 47)=q:=⟨_,rfl⟩
 have b0:Below w.heap.size w u:=by rw[←hu];exact belA _ _
 have hB:u.heap[K]?=some (.cells #[.int .u64 0,.int .i64 0] 47 (0,0)):=by rw[←hu,←hK];exact heap_alloc_new w _
 have C0:=C.below b0
 have c4:=C0.c4
 have P:=Qu.relaxed_in u L D.A σ.th σ.k σ.qn σ.q t dr C0.que C0.qok hn C0.k16 ht C0.th8 hdr
 rw[hx] at P
 have HC:Aside (Co w L D F g v σ∧w.heap.size=K∧σ.qn≤1000∧σ.ev.length<1000000):=⟨C,hK,hn,hl⟩
 have X0:Aside (Below w.heap.size w u∧u.heap[K]?=some (.cells #[.int .u64 0,.int .i64 0] 47 (0,0))):=⟨b0,hB⟩
 have HY:Aside (Qu.unl (Qu.leastQ σ.q σ.th)=y):=hy
 obtain⟨x1,x2⟩:=x
 obtain⟨y1,y2⟩:=y
 obtain⟨z1,z2⟩:=z
 have CH:Aside (∀W,Calls Tryz.prog 100 #[.agg #[.int .u64 y1,.int .i64 y2],.agg #[.int .u64 x1,.int .i64 x2],.int .u64 σ.tk] W fun e w'=>e=.returned (.agg #[.int .u64 z1,.int .i64 z2])∧Below W.heap.size W w'):=fun W=>chooseC (y1,y2) (x1,x2) (z1,z2) σ.tk hz W
 have HU:Aside _:=hu
 clear C C0 hx hy hz hu hB b0 hn hl
 go_enter Tryz.func52,Tryz.ntmps52
 go_upto_region 1 with fail
 rw[HU.out]
 go_wp2_with fail
 refine Calls.mono P ?_
 rintro e w1 ⟨rfl,b1⟩
 clear P c4
 obtain⟨K8,hK8⟩:∃J,w1.heap.size=J:=⟨_,rfl⟩
 obtain⟨u1,hu1⟩:∃q,w1.alloc (.cells #[.int .u64 x1,.int .i64 x2] 47)=q:=⟨_,rfl⟩
 have b2:Below w1.heap.size w1 u1:=by rw[←hu1];exact belA _ _
 have h8:u1.heap[K8]?=some (.cells #[.int .u64 x1,.int .i64 x2] 47 (0,0)):=by rw[←hu1,←hK8];exact heap_alloc_new w1 _
 have X1:Aside (Below w.heap.size w u1∧u1.heap[K]?=some (.cells #[.int .u64 0,.int .i64 0] 47 (0,0))∧u1.heap[K8]?=some (.cells #[.int .u64 x1,.int .i64 x2] 47 (0,0))):=⟨belT X0.out.1 (belT b1 b2),((belT b1 b2).block K (lt_of_block X0.out.2)).trans X0.out.2,h8⟩
 have C1:=HC.out.1.below X1.out.1
 have c4:=C1.c4
 have P:=Qu.qleast_any u1 L D.A σ.th σ.k σ.qn σ.q C1.que C1.qok HC.out.2.2.1 C1.k16 C1.th1 C1.th8
 rw[HY.out] at P
 obtain⟨fl,hfl⟩:∃b,Qu.unb (Qu.leastQ σ.q σ.th)=b:=⟨_,rfl⟩
 rw[hfl] at P
 have HU1:Aside _:=hu1
 have HK8:Aside _:=hK8
 clear hu1 hK8 b1 b2 h8 C1 hfl
 go_upto_region 4 with fail
 rw[HU1.out]
 simp only[HK8.out]
 go_wp2_with fail
 refine Calls.mono P ?_
 rintro e w2 ⟨rfl,b3⟩
 clear P c4
 obtain⟨K10,hK10⟩:∃J,w2.heap.size=J:=⟨_,rfl⟩
 obtain⟨u2,hu2⟩:∃q,w2.alloc (.cells #[.int .u64 y1,.int .i64 y2] 47)=q:=⟨_,rfl⟩
 have b4:Below w2.heap.size w2 u2:=by rw[←hu2];exact belA _ _
 have h10:u2.heap[K10]?=some (.cells #[.int .u64 y1,.int .i64 y2] 47 (0,0)):=by rw[←hu2,←hK10];exact heap_alloc_new w2 _
 have X2:Aside (Below w.heap.size w u2.drew∧u2.drew.heap[K]?=some (.cells #[.int .u64 0,.int .i64 0] 47 (0,0))∧u2.drew.heap[K8]?=some (.cells #[.int .u64 x1,.int .i64 x2] 47 (0,0))∧u2.drew.heap[K10]?=some (.cells #[.int .u64 y1,.int .i64 y2] 47 (0,0))):=⟨(belT X1.out.1 (belT b3 b4)).drew,((belT b3 b4).block K (lt_of_block X1.out.2.1)).trans X1.out.2.1,((belT b3 b4).block K8 (lt_of_block X1.out.2.2)).trans X1.out.2.2,h10⟩
 have C2:=HC.out.1.below X2.out.1
 have c8:u2.drew.cell? ⟨D.B,8,none⟩=some (.int .u64 σ.tk):=C2.c8
 obtain⟨x0,xx1⟩:=bx2 X2.out.2.2.1
 obtain⟨y0,yy1⟩:=bx2 X2.out.2.2.2
 have KP:Aside (∀W:World,Below u2.heap.size u2 W→W.cell? ⟨D.B,8,none⟩=some (.int .u64 σ.tk)∧W.cell? ⟨K8,0,none⟩=some (.int .u64 x1)∧W.cell? ⟨K8,1,none⟩=some (.int .i64 x2)∧W.cell? ⟨K10,0,none⟩=some (.int .u64 y1)∧W.cell? ⟨K10,1,none⟩=some (.int .i64 y2)):=by
  intro W b
  obtain⟨p0,p1⟩:=bx2 ((b.block K8 (lt_of_block X2.out.2.2.1)).trans X2.out.2.2.1)
  obtain⟨q0,q1⟩:=bx2 ((b.block K10 (lt_of_block X2.out.2.2.2)).trans X2.out.2.2.2)
  have b':Below u2.drew.heap.size u2.drew W:=⟨b.os,b.tape,b.output,b.size,b.block⟩
  exact⟨(C2.below b').c8,p0,p1,q0,q1⟩
 have hb0:Below u2.heap.size u2 u2.drew:=(Below.refl _ _).drew
 have hbA:Below u2.heap.size u2 (u2.alloc (.cells #[.int .u64 0,.int .i64 0] 47)).drew:=((Below.refl _ _).alloc (le_refl _) _).drew
 obtain⟨a8,a0,a1,a2,a3⟩:=KP.out _ hbA
 have X2K:Aside (u2.heap[K]?=some (.cells #[.int .u64 0,.int .i64 0] 47 (0,0))∧Below w.heap.size w u2):=⟨X2.out.2.1,⟨X2.out.1.os,X2.out.1.tape,X2.out.1.output,X2.out.1.size,X2.out.1.block⟩⟩
 obtain⟨N2,hN2⟩:∃J,u2.heap.size=J:=⟨_,rfl⟩
 have hbx:(u2.alloc (.cells #[.int .u64 0,.int .i64 0] 47)).drew.heap[N2]?=some (.cells #[.int .u64 0,.int .i64 0] 47 (0,0)):=by rw[←hN2];exact heap_alloc_new u2 _
 have HBX:Aside _:=hbx
 have HN2:Aside _:=hN2
 have HU2:Aside _:=hu2
 have HK10:Aside _:=hK10
 clear hu2 hK10 b3 b4 h10 C2 hbx
 go_upto_region 5 with fail
 rw[HU2.out]
 simp only[HK10.out]
 go_cut [12] from 34 to 40 (fun s12 wx=>∃(T:Nat),s12=.pointer (some ⟨T,0,none⟩)∧Below u2.heap.size u2 wx∧wx.heap[T]?=some (.cells #[.int .u64 z1,.int .i64 z2] 47 (0,0))∧u2.heap.size≤T)
 case first=>
  go_region_held3 (fun w'=>w'.cell? ⟨D.B,8,none⟩=some (.int .u64 σ.tk)∧w'.cell? ⟨K8,0,none⟩=some (.int .u64 x1)∧w'.cell? ⟨K8,1,none⟩=some (.int .i64 x2)∧w'.cell? ⟨K10,0,none⟩=some (.int .u64 y1)∧w'.cell? ⟨K10,1,none⟩=some (.int .i64 y2)) (first|with_reducible exact⟨c8,x0,xx1,y0,yy1⟩|with_reducible exact⟨a8,a0,a1,a2,a3⟩|with_reducible exact⟨d8,p0,p1,q0,q1⟩|with_reducible exact KP.out _ (h3.alloc h3.size _)|with_reducible exact KP.out _ ((h3.setCell (le_of_eq HN2.out) _).setCell (le_of_eq HN2.out) _)) ((go_at_call 100;first|((with_reducible refine Calls.mono (CH.out u2.drew) ?_);rintro e w3 ⟨rfl,b5⟩;have h3:Below u2.heap.size u2 w3:=belT hb0 b5;obtain⟨d8,p0,p1,q0,q1⟩:=KP.out w3 h3)|((with_reducible refine Calls.mono (CH.out (u2.alloc (.cells #[.int .u64 0,.int .i64 0] 47)).drew) ?_);rintro e w3 ⟨rfl,b5⟩;have h3:Below u2.heap.size u2 w3:=belT hbA b5;obtain⟨d8,p0,p1,q0,q1⟩:=KP.out w3 h3;have hb3:w3.heap[N2]?=some (.cells #[.int .u64 0,.int .i64 0] 47 (0,0)):=(b5.block N2 (lt_of_block HBX.out)).trans HBX.out;obtain⟨m0,m1⟩:=bx2 hb3;have mlt:=lt_of_block hb3;have mfz:∀o,w3.frozen? ⟨N2,o,none⟩=false:=(fun o=>by simp[World.frozen?,hb3]))))
  all_goals go_wp2_with fail
  all_goals go_meet
  ·exact⟨w3.heap.size,rfl,h3.alloc h3.size _,heap_alloc_new w3 _,h3.size⟩
  ·exact⟨N2,rfl,(h3.setCell (le_of_eq HN2.out) _).setCell (le_of_eq HN2.out) _,set_at (set_at hb3 _) _,le_of_eq HN2.out⟩
 case rest=>
  obtain⟨T,rfl,bw,hT,lT⟩:=hcut
  have XW:Aside (Below w.heap.size w wc):=belT X2K.out.2 bw
  have hKw:wc.heap[K]?=some (.cells #[.int .u64 0,.int .i64 0] 47 (0,0)):=(bw.block K (lt_of_block X2K.out.1)).trans X2K.out.1
  have BT:Bx wc F T #[.int .u64 z1,.int .i64 z2] 47:=⟨hT,fun p hp=>by have:=HC.out.1.fp.lt p T hp;have:=X2K.out.2.size;omega⟩
  have BK:Bx wc F K #[.int .u64 0,.int .i64 0] 47:=⟨hKw,fun p hp=>by have:=HC.out.1.fp.lt p K hp;have:=HC.out.2.1;omega⟩
  have Cc:=HC.out.1.below XW.out
  have P:=tellC Cc HC.out.2.2.2 10 t z2 z1
  obtain⟨t0,t1⟩:=bx2 hT
  have tlt:=lt_of_block hT
  have BB:Aside (Bx wc F T #[.int .u64 z1,.int .i64 z2] 47∧Bx wc F K #[.int .u64 0,.int .i64 0] 47):=⟨BT,BK⟩
  clear bw hT lT hKw BT BK Cc c8 x0 xx1 y0 yy1 a8 a0 a1 a2 a3 hb0 hbA hN2
  go_wp2_with fail
  refine P.mono ?_
  rintro e w4 ⟨rfl,⟨F4,g4,v4,C4,G4⟩,Q4⟩
  clear P t0 t1 tlt
  have B4:=BB.out.1.gc mq_ent G4
  have K4:=BB.out.2.gc mq_ent G4
  obtain⟨t0,t1⟩:=bx2 B4.1
  have tlt:=lt_of_block B4.1
  obtain⟨k0,k1⟩:=bx2 K4.1
  have klt:=lt_of_block K4.1
  have kfz:∀o,w4.frozen? ⟨K,o,none⟩=false:=(fun o=>by simp[World.frozen?,K4.1])
  have E:Aside (((w4.setCell ⟨K,0,none⟩ (.int .u64 z1)).setCell ⟨K,1,none⟩ (.int .i64 z2)).heap[K]?=some (.cells #[.int .u64 z1,.int .i64 z2] 47 (0,0))):=set_at (set_at K4.1 _) _
  have FIN:Aside (Cox L D F w (tellS σ 10 t z2 z1) ((w4.setCell ⟨K,0,none⟩ (.int .u64 z1)).setCell ⟨K,1,none⟩ (.int .i64 z2))):=by
   have G:Gc L F w F4 w4:=(Gc.below F HC.out.1.lw XW.out).trans G4
   have Q:Gq F w w4:=(Gq.below F XW.out).trans (Gc.below F HC.out.1.lw XW.out) Q4
   have f:Ta.Fr (fun k=>k=K) w4 ((w4.setCell ⟨K,0,none⟩ (.int .u64 z1)).setCell ⟨K,1,none⟩ (.int .i64 z2)):=(Ta.Fr.setCell (fun k=>k=K) w4 K 0 (.int .u64 z1) rfl).trans (Ta.Fr.setCell (fun k=>k=K) _ K 1 (.int .i64 z2) rfl) (fun j hj=>.inl hj)
   obtain⟨C5,G5,_⟩:=HC.out.1.box C4 G Q rfl rfl rfl (le_of_eq HC.out.2.1) klt K4.2 f
   exact⟨F4,g4,v4,C5,G5⟩
  clear C4 G4 Q4 B4 K4
  go_wp2_with fail
  have eb:=fun j=>cell_of_row _ _ j _ _ _ E.out
  have q0:=eb 0
  have q1:=eb 1
  refine bodyPost_ret (v:=.tuple #[.agg #[.int .u64 z1,.int .i64 z2],.bool true]) (by simp[results,Tryz.results52,go_sem,q0,q1]) rfl ⟨rfl,?_⟩
  exact FIN.out
end
section
open Go.RowKit Go.Lib
def Rdy(T:List Ta.TR)(e:Qu.Ent):Prop:=∃(k:Nat)(x:Ta.TR),T[k]?=some x∧x.s=2∧e=(x.key,(k:Int)+1)
def QI(σ:CS):Prop:=∃sl ow sh,Qu.View σ.th σ.q sl ow sh∧(Qu.ids (Qu.allV σ.th sl ow sh)).Nodup∧∀e,e∈Qu.allV σ.th sl ow sh↔Rdy σ.T e
variable {σ σ':CS}{t:Nat}{e0:Qu.Ent}{x y:Ta.TR}{i:Nat}
theorem QI.new(th k n:Nat):QI (newS th k n):=by
 refine⟨_,_,_,Qu.View.new th,?_,fun e=>?_⟩
 ·simp[Qu.allV,Qu.ids,Qu.flatN_nil]
 ·constructor
  ·intro h;simp[Qu.allV] at h
  ·rintro⟨k,x,h,_⟩;simp[newS] at h
theorem QI.put(h:QI σ)(ht:t<σ.th)(hq:σ'.q=Qu.putQ σ.k σ.q t e0)(hth:σ'.th=σ.th)(hR:∀e,Rdy σ'.T e↔e=e0∨Rdy σ.T e)(hf:∀e,Rdy σ.T e→e.2≠e0.2):QI σ':=by
 obtain⟨sl,ow,sh,V,nd,al⟩:=h
 obtain⟨sl',ow',sh',V',P⟩:=V.putAny (K:=σ.k) ht e0
 refine⟨sl',ow',sh',by rw[hq,hth];exact V',?_,fun e=>?_⟩
 ·rw[hth]
  refine((P.map Prod.snd).nodup_iff).2 (List.nodup_cons.2 ⟨fun hm=>?_,nd⟩)
  obtain⟨e,he,h2⟩:=List.mem_map.1 hm
  exact hf e ((al e).1 he) h2
 ·rw[hth,P.mem_iff,hR e,List.mem_cons,al e]
theorem mem_out{d:List Qu.Ent}{id:Int}{e:Qu.Ent}:e∈Qu.outL id d↔e∈d∧e.2≠id:=by
 unfold Qu.outL
 rw[List.mem_filter]
 simp
theorem QI.take(h:QI σ){id:Int}(hq:σ'.q=Qu.takeQ σ.q σ.th id)(hth:σ'.th=σ.th)(hR:∀e,Rdy σ'.T e↔Rdy σ.T e∧e.2≠id):QI σ':=by
 obtain⟨sl,ow,sh,V,nd,al⟩:=h
 obtain⟨_,sl',ow',sh',V',P⟩:=V.takeAny nd id
 refine⟨sl',ow',sh',by rw[hq,hth];exact V',?_,fun e=>?_⟩
 ·rw[hth,P]
  exact nd.sublist ((List.filter_sublist ..).map Prod.snd)
 ·rw[hth,P,hR e,mem_out,al e]
theorem QI.same(h:QI σ)(hq:σ'.q=σ.q)(hth:σ'.th=σ.th)(hR:∀e,Rdy σ'.T e↔Rdy σ.T e):QI σ':=by
 obtain⟨sl,ow,sh,V,nd,al⟩:=h
 exact⟨sl,ow,sh,by rw[hq,hth];exact V,by rw[hth];exact nd,fun e=>by rw[hth,hR e];exact al e⟩
theorem QI.look(h:QI σ){N:Nat}(ok:Qu.QOk σ.k σ.th N σ.q)(ht:t<σ.th)(dr:Nat)(hne:∃e,Rdy σ.T e)(tk:Int):∃x y z,Qu.relaxQ σ.q σ.th σ.k t dr=(x,true)∧Qu.unl (Qu.leastQ σ.q σ.th)=y∧(z=if y.1≤tk then y else x)∧Rdy σ.T z:=by
 obtain⟨sl,ow,sh,V,nd,al⟩:=h
 obtain⟨e,he⟩:=hne
 have hm:=(al e).2 he
 have hn:Qu.allV σ.th sl ow sh≠[]:=fun h=>by rw[h] at hm;simp at hm
 rcases V.relaxed ok ht dr with⟨h,_⟩|⟨_,h2,h3,_⟩
 ·exact absurd h hn
 ·rcases V.least with⟨_,h⟩|⟨j,y,h4,h5⟩
  ·exact absurd h hn
  ·refine⟨_,y,_,Prod.ext rfl h2,by rw[h4];rfl,rfl,?_⟩
   split
   ·exact(al y).1 h5.1
   ·exact(al _).1 h3
theorem rdy_push{T:List Ta.TR}(hx:x.s=2)(e:Qu.Ent):Rdy (T++[x]) e↔e=(x.key,(T.length:Int)+1)∨Rdy T e:=by
 constructor
 ·rintro⟨k,y,h,hs,rfl⟩
  by_cases c:k<T.length
  ·rw[List.getElem?_append_left c] at h
   exact .inr ⟨k,y,h,hs,rfl⟩
  ·have:=(List.getElem?_eq_some_iff.1 h).1
   simp at this
   obtain rfl:k=T.length:=by omega
   rw[List.getElem?_append_right (le_refl _)] at h
   simp at h
   subst h
   exact .inl rfl
 ·rintro(rfl|⟨k,y,h,hs,rfl⟩)
  ·exact⟨T.length,x,by simp,hx,rfl⟩
  ·have:=(List.getElem?_eq_some_iff.1 h).1
   exact⟨k,y,by rw[List.getElem?_append_left this];exact h,hs,rfl⟩
theorem rdy_id{T:List Ta.TR}{e:Qu.Ent}(h:Rdy T e):1≤e.2∧e.2≤T.length:=by
 obtain⟨k,y,h,hs,rfl⟩:=h
 have:=(List.getElem?_eq_some_iff.1 h).1
 show 1≤(k:Int)+1∧(k:Int)+1≤T.length
 omega
theorem rdy_out{T:List Ta.TR}(hi:T[i]?=some x)(hy:y.s≠2)(e:Qu.Ent):Rdy (T.set i y) e↔Rdy T e∧e.2≠(i:Int)+1:=by
 have hl:=(List.getElem?_eq_some_iff.1 hi).1
 constructor
 ·rintro⟨k,z,h,hs,rfl⟩
  by_cases c:i=k
  ·subst c
   rw[List.getElem?_set_self hl] at h
   injection h with h
   subst h
   exact absurd hs hy
  ·rw[List.getElem?_set_ne c] at h
   exact⟨⟨k,z,h,hs,rfl⟩,by show(k:Int)+1≠(i:Int)+1;omega⟩
 ·rintro⟨⟨k,z,h,hs,rfl⟩,hne⟩
  have c:i≠k:=fun e=>hne (by rw[e])
  exact⟨k,z,by rw[List.getElem?_set_ne c];exact h,hs,rfl⟩
theorem rdy_set{T:List Ta.TR}(hi:T[i]?=some x)(hx:x.s≠2)(hy:y.s≠2)(e:Qu.Ent):Rdy (T.set i y) e↔Rdy T e:=by
 rw[rdy_out hi hy]
 constructor
 ·exact fun h=>h.1
 ·rintro⟨k,z,h,hs,rfl⟩
  refine⟨⟨k,z,h,hs,rfl⟩,fun e=>?_⟩
  have e:(k:Int)+1=(i:Int)+1:=e
  obtain rfl:k=i:=by omega
  rw[hi] at h
  injection h with h
  exact hx (by rw[h];exact hs)
theorem sub_T(σ:CS)(t:Nat)(prio:Int):(subS σ t prio).T=σ.T++[{Ta.mkT prio 0 0 0 0 0 2 with key:=keyS σ (Ta.mkT prio 0 0 0 0 0 2)}]:=by
 show(σ.T++[_]).set σ.T.length _=_
 rw[List.set_append_right _ _ (le_refl _)]
 simp
 rfl
theorem QI.sub(h:QI σ)(ht:t<σ.th)(prio:Int):QI (subS σ t prio):=by
 refine h.put (t:=t) (e0:=(keyS σ (Ta.mkT prio 0 0 0 0 0 2),(σ.T.length:Int)+1)) ht rfl rfl (fun e=>?_) (fun e he=>?_)
 ·rw[sub_T,rdy_push rfl]
 ·have:=rdy_id he
  show e.2≠(σ.T.length:Int)+1
  omega
theorem QI.hand(h:QI σ)(hi:σ.T[i]?=some x)(t:Nat):QI (handS (turnS σ i x 3) t i (turnX x 3)):=
 h.take (id:=(i:Int)+1) rfl rfl (fun e=>rdy_out hi (by rw[(turnX_key x 3).2.2.1];decide) e)
theorem done_nil{d:List Int}{id:Int}(h:DoneL (fun _ _=>False) id d):d=[]:=by
 cases d with
 | nil=>rfl
 | cons j d=>exact((h.2 j).1 (by simp)).1.elim
end
section
open Go.RowKit Go.Lib Go.WideMaps Go.Maps
variable {w w' u:World}{L i:Nat}{D:CAd}{F F':Nat→Nat→Prop}{g v:Value}{σ:CS}{x:Ta.TR}
def setS(σ:CS)(t:Nat):CS:={σ with q:=Qu.settleQ σ.k σ.q t,qn:=σ.qn+1}
theorem settleC(C:Co w L D F g v σ){t:Nat}(ht:t<σ.th)(hn:σ.qn≤1000) :
  Calls Tryz.prog 165 #[pt D.B,.int .i64 t] w fun e w'=>e=.returned (.bool (σ.q.g t).f)∧Cox L D F w (setS σ t) w':=by
 have c4:=C.c4
 have P:Calls Tryz.prog 224 #[pt D.A.B,.int .i64 t] w fun e w'=>e=.returned (.bool (σ.q.g t).f)∧Cox L D F w (setS σ t) w':=by
  refine(Qu.settle_in w L D.A σ.th σ.k σ.qn σ.q t (σ.q.g t).f C.que C.qok hn C.k16 ht rfl C.lw).mono ?_
  rintro e w' ⟨rfl,h,s⟩
  obtain⟨C',G'⟩:=C.setQue h s (Qu.settle_ok C.qok ht C.k16)
  exact⟨rfl,_,_,_,C',G'⟩
 obtain⟨B,hB⟩:∃B,(σ.q.g t).f=B:=⟨_,rfl⟩
 rw[hB] at P⊢
 clear C ht hn hB
 go_enter Tryz.func165,Tryz.ntmps165
 go_wp2_with fail
 refine P.mono ?_
 rintro e w1 ⟨rfl,X⟩
 have FIN:Aside _:=X
 clear P X c4
 go_wp2_with fail
 go_ret
 exact⟨rfl,FIN.out⟩
theorem QI.settle(h:QI σ){t:Nat}(ht:t<σ.th):QI (setS σ t):=by
 obtain⟨sl,ow,sh,V,nd,al⟩:=h
 obtain⟨sl',ow',sh',V',_,P⟩:=V.settle (K:=σ.k) ht
 exact⟨sl',ow',sh',V',((P.map Prod.snd).nodup_iff).2 nd,fun e=>by rw[show(setS σ t).th=σ.th from rfl,P.mem_iff];exact al e⟩
theorem QI.none(h:QI σ){N:Nat}(ok:Qu.QOk σ.k σ.th N σ.q){t:Nat}(ht:t<σ.th)(dr:Nat)(hne:∀e,¬Rdy σ.T e):(Qu.relaxQ σ.q σ.th σ.k t dr).2=false:=by
 obtain⟨sl,ow,sh,V,nd,al⟩:=h
 rcases V.relaxed ok ht dr with⟨_,h⟩|⟨h,_⟩
 ·exact h
 ·obtain⟨e,l,he⟩:=List.exists_cons_of_ne_nil h
  exact absurd ((al e).1 (by rw[he];simp)) (hne e)
theorem lookN(C:Co w L D F g v σ){t dr:Nat}(ht:t<σ.th)(hdr:dr<18446744073709551616)(hn:σ.qn≤1000)(hx:(Qu.relaxQ σ.q σ.th σ.k t dr).2=false) :
  Calls Tryz.prog 52 #[pt D.B,.int .i64 t,.int .u64 dr] w fun e w'=>e=.returned (.tuple #[.agg #[.int .u64 0,.int .i64 0],.bool false])∧Cox L D F w σ w':=by
 obtain⟨K,hK⟩:∃J,w.heap.size=J:=⟨_,rfl⟩
 obtain⟨u,hu⟩:∃q,w.alloc (.cells #[.int .u64 0,.int .i64 0] 47)=q:=⟨_,rfl⟩
 have b0:Below w.heap.size w u:=by rw[←hu];exact belA _ _
 have hB:u.heap[K]?=some (.cells #[.int .u64 0,.int .i64 0] 47 (0,0)):=by rw[←hu,←hK];exact heap_alloc_new w _
 have C0:=C.below b0
 have c4:=C0.c4
 have P:=Qu.relaxed_in u L D.A σ.th σ.k σ.qn σ.q t dr C0.que C0.qok hn C0.k16 ht C0.th8 hdr
 obtain⟨⟨x1,x2⟩,hx1⟩:∃x,(Qu.relaxQ σ.q σ.th σ.k t dr).1=x:=⟨_,rfl⟩
 have hxx:Qu.relaxQ σ.q σ.th σ.k t dr=((x1,x2),false):=Prod.ext hx1 hx
 rw[hxx] at P
 have HC:Aside (Co w L D F g v σ∧w.heap.size=K∧Below w.heap.size w u):=⟨C,hK,b0⟩
 have X0:Aside (u.heap[K]?=some (.cells #[.int .u64 0,.int .i64 0] 47 (0,0))):=hB
 have HU:Aside _:=hu
 clear C C0 hx hx1 hxx hu hB b0 hn
 go_enter Tryz.func52,Tryz.ntmps52
 go_upto_region 1 with fail
 rw[HU.out]
 go_wp2_with fail
 refine Calls.mono P ?_
 rintro e w1 ⟨rfl,b1⟩
 clear P c4
 obtain⟨u1,hu1⟩:∃q,w1.alloc (.cells #[.int .u64 x1,.int .i64 x2] 47)=q:=⟨_,rfl⟩
 have b2:Below u.heap.size u u1:=by rw[←hu1];exact belT b1 (belA _ _)
 have hk:u1.heap[K]?=some (.cells #[.int .u64 0,.int .i64 0] 47 (0,0)):=(b2.block K (lt_of_block X0.out)).trans X0.out
 have klt:=lt_of_block hk
 have kfz:∀o,u1.frozen? ⟨K,o,none⟩=false:=(fun o=>by simp[World.frozen?,hk])
 obtain⟨k0,k1⟩:=bx2 hk
 have E:Aside (((u1.setCell ⟨K,0,none⟩ (.int .u64 0)).setCell ⟨K,1,none⟩ (.int .i64 0)).heap[K]?=some (.cells #[.int .u64 0,.int .i64 0] 47 (0,0))):=set_at (set_at hk _) _
 have FIN:Aside (Below w.heap.size w ((u1.setCell ⟨K,0,none⟩ (.int .u64 0)).setCell ⟨K,1,none⟩ (.int .i64 0))):=((belT HC.out.2.2 b2).setCell (le_of_eq HC.out.2.1) _).setCell (le_of_eq HC.out.2.1) _
 have HU1:Aside _:=hu1
 clear hu1 b1 b2 hk
 go_upto_region 3 with fail
 rw[HU1.out]
 go_wp2_with fail
 have eb:=fun j=>cell_of_row _ _ j _ _ _ E.out
 have q0:=eb 0
 have q1:=eb 1
 refine bodyPost_ret (v:=.tuple #[.agg #[.int .u64 0,.int .i64 0],.bool false]) (by simp[results,Tryz.results52,go_sem,q0,q1]) rfl ⟨rfl,?_⟩
 exact HC.out.1.xb FIN.out
end
section
open Go.RowKit Go.Lib Go.WideMaps Go.Maps
variable {w w' u:World}{L i:Nat}{D:CAd}{F F':Nat→Nat→Prop}{g v:Value}{σ:CS}{x:Ta.TR}
theorem claimG(C:Co w L D F g v σ){t:Nat}(ht:t<σ.th)(hi:σ.T[i]?=some x){s:Int}(hs:x.s=s)(h0:s≠0)(h2:s≠2)(k:Int) :
  Calls Tryz.prog 15 #[pt D.B,.int .i64 t,.agg #[.int .u64 k,.int .i64 ((i:Int)+1)]] w fun e w'=>e=.returned (.int .i64 8)∧Cox L D F w σ w':=by
 obtain⟨K,hK⟩:∃J,w.heap.size=J:=⟨_,rfl⟩
 obtain⟨I1,hI1⟩:∃J,(i:Int)+1=J:=⟨_,rfl⟩
 obtain⟨u,hu⟩:∃z,w.alloc (.cells #[.int .u64 k,.int .i64 I1] 47)=z:=⟨_,rfl⟩
 have b0:Below w.heap.size w u:=by rw[←hu];exact belA _ _
 have BK:Bx u F K #[.int .u64 k,.int .i64 I1] 47:=by rw[←hu,←hK];exact Bx.new C _ _
 have C0:=C.below b0
 have P1:=threadC C0 ht
 have P2:=taskC C0 hi (by omega)
 rw[hI1] at P2
 have k1:u.cell? ⟨K,1,none⟩=some (.int .i64 I1):=BK.cell 1
 have hb:(s != 2)=true:=by simpa using h2
 have HH:Aside (σ.T[i]?=some x∧x.s=s∧(i:Int)+1=I1):=⟨hi,hs,hI1⟩
 have X0:Aside (Gc L F w F u∧Bx u F K #[.int .u64 k,.int .i64 I1] 47):=⟨Gc.below F C.lw b0,BK⟩
 have HU:Aside _:=hu
 have HK:Aside _:=hK
 rw[hI1]
 clear C C0 ht hi hs hI1 hu hK BK b0
 go_enter Tryz.func15,Tryz.ntmps15
 go_upto_region 1 with fail
 rw[HU.out]
 try simp only[HK.out]
 go_wp2_with fail
 refine P1.mono ?_
 rintro e w1 ⟨rfl,rfl⟩
 clear P1
 go_wp2_with fail
 refine P2.mono ?_
 rintro e w2 ⟨rfl,F2,g2,v2,C2,G2⟩
 clear P2 k1
 have B2:=X0.out.2.gc mq_ent G2
 have X2:Aside (Gc L F w F2 w2.drew∧Bx w2.drew F2 K #[.int .u64 k,.int .i64 I1] 47):=⟨(X0.out.1.trans G2).trans (Gc.below F2 C2.lw (Below.refl _ _).drew),B2⟩
 have k0:w2.drew.cell? ⟨K,0,none⟩=some (.int .u64 k):=B2.cell 0
 have k1:w2.drew.cell? ⟨K,1,none⟩=some (.int .i64 I1):=B2.cell 1
 have PS:Aside (Calls Tryz.prog 12 #[pt D.B,.int .i64 I1] w2.drew fun e w'=>e=.returned (.int .i64 s)∧Cox L D F w σ w'∧w'.cell? ⟨K,0,none⟩=some (.int .u64 k)∧w'.cell? ⟨K,1,none⟩=some (.int .i64 I1)):=by
  have:=statusC C2.drew HH.out.1
  rw[HH.out.2.1,HH.out.2.2] at this
  refine this.mono ?_
  rintro e w' ⟨rfl,F4,g4,v4,C4,G4⟩
  have B4:=X2.out.2.gc mq_ent G4
  exact⟨rfl,⟨F4,g4,v4,C4,X2.out.1.trans G4⟩,B4.cell 0,B4.cell 1⟩
 clear C2 G2 B2
 go_upto_region 3 with fail
 refine wp_region_held_drew (S:=(fun w':World=>w'.cell? ⟨K,0,none⟩=some (.int .u64 k)∧w'.cell? ⟨K,1,none⟩=some (.int .i64 I1))) (by kernel_rfl) (⟨k0,k1⟩) (fun hHeld=>?_)
 refine wpAnyH_take (i:=0) (oi:=⟨some 18,Op.move (.tmp 0),23,"core.go:350",#[],none⟩) (v:=?_) rfl (by kernel_rfl) (by kernel_rfl) (by kernel_rfl) (fun _ _ _ h=>h) (Or.inl ⟨by rfl,?_⟩) (by assumption) ?_
 rotate_left
 ·intro w z;(try dsimp only at z);go_simp;try with_reducible rfl
 simp only[Act.put,sA,sB,sC]
 refine wpAnyH_take (i:=1) (oi:=⟨some 19,Op.fieldAddr 47 (.tmp 5) 1,0,"core.go:350",#[],none⟩) (v:=?_) rfl (by kernel_rfl) (by kernel_rfl) (by kernel_rfl) (fun _ _ _ h=>h) (Or.inl ⟨by rfl,?_⟩) (by assumption) ?_
 rotate_left
 ·intro w z;(try dsimp only at z);go_simp;try with_reducible rfl
 simp only[Act.put,sA,sB,sC]
 refine wpAnyH_take (i:=2) (oi:=⟨some 20,Op.load 3 (.tmp 19),3,"core.go:350",#[⟨1,.data⟩],none⟩) (v:=?_) rfl (by kernel_rfl) (by kernel_rfl) (by kernel_rfl) (fun _ _ _ h=>h) (Or.inl ⟨by rfl,?_⟩) (by assumption) ?_
 rotate_left
 ·intro w z;(try dsimp only at z);go_simp;try with_reducible rfl
 simp only[Act.put,sA,sB,sC]
 refine wpAnyH_ready (rs:=[3]) (by kernel_rfl) (by simp) ?_
 refine AllReadyH.cons (o:={dst:=some 21,op:=Op.call {callee:=Callee.value (Operand.func 12),args:=#[Operand.tmp 18,Operand.tmp 20],argTypes:=#[23,3]},type:=3,pos:= "core.go:350",after:=#[⟨0,.data⟩,⟨2,.data⟩],guard:=none}) rfl (fun Kt hKt=>?_) AllReadyH.nil
 go_simp
 (with_reducible refine Calls.mono PS.out ?_)
 rintro e w3 ⟨rfl,CX,e0,e1⟩
 go_wp2_with fail
 refine hKt.out _ _ (⟨e0,e1⟩) (fun hHeld=>?_)
 clear hKt Kt
 try simp only[Act.put,sA,sB,sC]
 refine wpAnyH_take (i:=4) (oi:=⟨some 22,Op.binOp BinOp.neq 3 (.tmp 21) (Operand.const (Value.int IntKind.i64 2)) 3,4,"core.go:350",#[⟨3,.data⟩],none⟩) (v:=.bool true) rfl (by kernel_rfl) (by kernel_rfl) (by kernel_rfl) (fun _ _ _ h=>h) (Or.inl ⟨by rfl,?_⟩) (by assumption) ?_
 ·(intro w z;(try dsimp only at z);go_simp;try simp only[hb];try with_reducible rfl)
 simp only[Act.put,sA,sB,sC]
 refine wpAnyH_take (i:=5) (oi:=⟨some 23,Op.move (.tmp 22),4,"core.go:350",#[⟨4,.data⟩,⟨3,.chain⟩],none⟩) (v:=?_) rfl (by kernel_rfl) (by kernel_rfl) (by kernel_rfl) (fun _ _ _ h=>h) (Or.inl ⟨by rfl,?_⟩) (by assumption) ?_
 rotate_left
 ·intro w z;(try dsimp only at z);go_simp;try with_reducible rfl
 simp only[Act.put,sA,sB,sC]
 refine wpAnyH_take (i:=6) (oi:=⟨some 24,Op.move (.tmp 0),23,"core.go:350",#[⟨5,.guard⟩],some (5,false)⟩) (v:=undef) rfl (by kernel_rfl) (by kernel_rfl) (by kernel_rfl) (fun _ _ _ h=>h) (Or.inr ⟨by rfl,rfl⟩) (by assumption) ?_
 simp only[Act.put,sA,sB,sC]
 refine wpAnyH_take (i:=7) (oi:=⟨some 25,Op.fieldAddr 47 (.tmp 5) 1,0,"core.go:350",#[⟨5,.guard⟩],some (5,false)⟩) (v:=undef) rfl (by kernel_rfl) (by kernel_rfl) (by kernel_rfl) (fun _ _ _ h=>h) (Or.inr ⟨by rfl,rfl⟩) (by assumption) ?_
 simp only[Act.put,sA,sB,sC]
 refine wpAnyH_take (i:=8) (oi:=⟨some 26,Op.load 3 (.tmp 25),3,"core.go:350",#[⟨7,.data⟩,⟨5,.guard⟩],some (5,false)⟩) (v:=undef) rfl (by kernel_rfl) (by kernel_rfl) (by kernel_rfl) (fun _ _ _ h=>h) (Or.inr ⟨by rfl,rfl⟩) (by assumption) ?_
 simp only[Act.put,sA,sB,sC]
 refine wpAnyH_take (i:=10) (oi:=⟨some 28,Op.load 47 (.tmp 5),47,"core.go:350",#[⟨5,.guard⟩],some (5,false)⟩) (v:=undef) rfl (by kernel_rfl) (by kernel_rfl) (by kernel_rfl) (fun _ _ _ h=>h) (Or.inr ⟨by rfl,rfl⟩) (by assumption) ?_
 simp only[Act.put,sA,sB,sC]
 refine wpAnyH_ready (rs:=[9]) (by kernel_rfl) (by simp) ?_
 refine AllReadyH.cons (o:={dst:=some 27,op:=Op.call {callee:=Callee.value (Operand.func 61),args:=#[Operand.tmp 24,Operand.tmp 26],argTypes:=#[23,3]},type:=47,pos:= "core.go:350",after:=#[⟨6,.data⟩,⟨8,.data⟩,⟨5,.chain⟩,⟨5,.guard⟩],guard:=some (5,false)}) rfl (fun Kt hKt=>?_) AllReadyH.nil
 go_simp
 refine hKt.out _ _ hHeld (fun hHeld=>?_)
 clear hKt Kt
 try simp only[Act.put,sA,sB,sC]
 refine wpAnyH_take (i:=11) (oi:=⟨some 29,Op.binOp BinOp.neq 47 (.tmp 27) (.tmp 28) 47,4,"core.go:350",#[⟨9,.data⟩,⟨10,.data⟩,⟨5,.guard⟩],some (5,false)⟩) (v:=undef) rfl (by kernel_rfl) (by kernel_rfl) (by kernel_rfl) (fun _ _ _ h=>h) (Or.inr ⟨by rfl,rfl⟩) (by assumption) ?_
 simp only[Act.put,sA,sB,sC]
 refine wpAnyH_take (i:=12) (oi:=⟨some 30,Op.pick (.tmp 23) (Operand.const (Value.bool true)) (.tmp 29),4,"core.go:350",#[⟨5,.data⟩,⟨11,.data⟩],none⟩) (v:=?_) rfl (by kernel_rfl) (by kernel_rfl) (by kernel_rfl) (fun _ _ _ h=>h) (Or.inl ⟨by rfl,?_⟩) (by assumption) ?_
 rotate_left
 ·intro w z;(try dsimp only at z);go_simp;try with_reducible rfl
 simp only[Act.put,sA,sB,sC]
 refine wpAnyH_done (by kernel_rfl) ?_ _
 have FIN:Aside _:=CX
 clear k0 k1 e0 e1 CX
 go_wp2_with fail
 go_ret
 exact⟨rfl,FIN.out⟩
end
section
open Go.RowKit Go.Lib Go.WideMaps Go.Maps
variable {w w' u:World}{L i:Nat}{D:CAd}{F F':Nat→Nat→Prop}{g v:Value}{σ:CS}{x:Ta.TR}
theorem Co.frX{X:Nat→Prop}(C:Co w L D F g v σ)(f:Ta.Fr X w w')(hX:∀k,X k→(∀p,¬F p k)∧NQ w k):Co w' L D F g v σ:=by
 have KK:K8 (fun q=>False) w' L D F g v σ:=C.keep (fun q=>False) f (fun q _ k hk hy=>(hX k hy).1 q hk) (fun _ k hk=>(hX k hk).2)
 exact⟨KK.head (by simp),KK.tab (by simp),KK.que (by simp),KK.whl (by simp),KK.dag (by simp),KK.cre (by simp),KK.evs (by simp),KK.gon (by simp),C.f0,C.f2,C.f5,C.f6,C.f7,C.f8,C.fp.grow f.size,le_trans C.lw f.size,le_trans C.wb f.size,C.qok,C.th1,C.th8,C.k16⟩
theorem Gc.ownX{w0:World}{F0:Nat→Nat→Prop}{X:Nat→Prop}(G:Gc L F0 w0 F w)(hX:∀k,X k→w0.heap.size≤k)(hL:L≤w0.heap.size)(f:Ta.Fr X w w'):Gc L F0 w0 F w':=
 ⟨G.low.trans (f.toBelow (fun k hk=>le_trans hL (hX k hk)) (le_trans hL G.size)),fun k hk hF hU=>(f.block k (Nat.lt_of_lt_of_le hk G.size) (fun e=>by have:=hX k e;omega)).trans (G.block k hk hF hU),G.new⟩
def Owb(S:Nat)(w:World)(F:Nat→Nat→Prop)(v:Value)(d:List Int):Prop:=Da.OwnI w S v d∧∀k,v.ownBlock=some k→∀p,¬F p k
theorem Owb.ow{S:Nat}{v:Value}{d:List Int}(h:Owb S w F v d):Ow w F v d:=⟨h.1.low (Nat.zero_le _),h.2⟩
theorem Owb.gc{S:Nat}{v:Value}{d:List Int}(h:Owb S w F v d)(G:Gc L F w F' w'):Owb S w' F' v d:=by
 have q:=h.ow.gc G
 refine⟨h.1.of_block fun k hk=>?_,q.2⟩
 obtain⟨cs,hc⟩:=h.1.rowT hk
 exact((show Bx w F k cs 3 from⟨hc,h.2 k hk⟩).gc mq_int G).1.trans hc.symm
theorem Owb.nil(S:Nat)(w:World)(F:Nat→Nat→Prop):Owb S w F (.slice none 0 0) []:=⟨Da.OwnI.nil _ _,fun k hk=>by cases hk⟩
theorem Owb.push{S:Nat}{w0:World}{F0:Nat→Nat→Prop}{v v0:Value}{d:List Int}(o:Owb S w F v d)(C:Co w L D F g v0 σ)(G:Gc L F0 w0 F w)(hS:w0.heap.size≤S)(hS2:S≤w.heap.size)(hL:L≤w0.heap.size)(x:Int)(hd:d.length<1000000) :
  ∃v' w',(Builtin.append_ #[43,43] 43 #[v,.slice (some ⟨w.heap.size,0,none⟩) 1 1]).run Tryz.prog (w.alloc (.cells #[.int .i64 x] 3))=.ok v' w'∧
  Owb S w' F v' (d++[x])∧Co w' L D F g v0 σ∧Gc L F0 w0 F w'∧Ta.Fr (fun k=>v.ownBlock=some k) w w'∧(∀k,v'.ownBlock=some k→v.ownBlock=some k∨w.heap.size≤k):=by
 obtain⟨v',w',hr,o',f,hn⟩:=o.1.push x hd hS2
 have f':Ta.Fr (fun k=>v.ownBlock=some k) w w':=ofD f
 refine⟨v',w',hr,⟨o',fun k hk p hp=>?_⟩,C.frX f' (fun k hk=>⟨o.2 k hk,?_⟩),G.ownX (fun k hk=>le_trans hS (o.1.rowLt hk).1) hL f',f',hn⟩
 ·rcases hn k hk with e|e
  ·exact o.2 k e p hp
  ·have:=C.fp.lt p k hp;omega
 ·obtain⟨cs,hc⟩:=o.1.rowT hk
  exact nq_of hc (by unfold QT;decide)
end
section
open Go.RowKit Go.Lib Go.WideMaps Go.Maps
variable {w w' u w0:World}{L i:Nat}{D:CAd}{F F' F0:Nat→Nat→Prop}{g v:Value}{σ:CS}{x:Ta.TR}
structure WR where
 ph:Int
 key:Int
 id:Int
 pc:Int
 bad:Bool
abbrev wkA(x:WR):Array Value:=#[.int .i64 x.ph,.int .u64 x.key,.int .i64 x.id,.int .i64 x.pc,.bool x.bad]
abbrev wkV(x:WR):Value:=.agg #[.int .i64 x.ph,.int .u64 x.key,.int .i64 x.id,.int .i64 x.pc,.bool x.bad]
def wk0:WR:=⟨0,0,0,0,false⟩
theorem mq_wk:¬Qu.MQ 59:=by unfold Qu.MQ;decide
theorem qt_wk:¬QT 59:=by unfold QT;decide
def set5(w:World)(K:Nat)(a0 a1 a2 a3 a4:Value):World:=((((w.setCell ⟨K,0,none⟩ a0).setCell ⟨K,1,none⟩ a1).setCell ⟨K,2,none⟩ a2).setCell ⟨K,3,none⟩ a3).setCell ⟨K,4,none⟩ a4
theorem set5_fr(w:World)(K:Nat)(a0 a1 a2 a3 a4:Value):Ta.Fr (fun k=>k=K) w (set5 w K a0 a1 a2 a3 a4):=by
 have q:∀(v:World)(j:Nat)(a:Value),Ta.Fr (fun k=>k=K) v (v.setCell ⟨K,j,none⟩ a):=fun v j a=>Ta.Fr.setCell (fun k=>k=K) v K j a rfl
 exact(((((q w 0 a0).trans (q _ 1 a1) (fun j hj=>.inl hj)).trans (q _ 2 a2) (fun j hj=>.inl hj)).trans (q _ 3 a3) (fun j hj=>.inl hj)).trans (q _ 4 a4) (fun j hj=>.inl hj))
theorem set5_at{w:World}{K:Nat}{b0 b1 b2 b3 b4:Value}{U:TypeId}(h:w.heap[K]?=some (.cells #[b0,b1,b2,b3,b4] U (0,0)))(a0 a1 a2 a3 a4:Value):(set5 w K a0 a1 a2 a3 a4).heap[K]?=some (.cells #[a0,a1,a2,a3,a4] U (0,0)):=by
 unfold set5
 rw[set_at (set_at (set_at (set_at (set_at h a0) a1) a2) a3) a4]
 rfl
theorem bx5{w:World}{K:Nat}{a0 a1 a2 a3 a4:Value}{U:TypeId}(h:w.heap[K]?=some (.cells #[a0,a1,a2,a3,a4] U (0,0))):w.cell? ⟨K,0,none⟩=some a0∧w.cell? ⟨K,1,none⟩=some a1∧w.cell? ⟨K,2,none⟩=some a2∧w.cell? ⟨K,3,none⟩=some a3∧w.cell? ⟨K,4,none⟩=some a4:=
 ⟨by rw[cell_of_row _ _ _ _ _ _ h];rfl,by rw[cell_of_row _ _ _ _ _ _ h];rfl,by rw[cell_of_row _ _ _ _ _ _ h];rfl,by rw[cell_of_row _ _ _ _ _ _ h];rfl,by rw[cell_of_row _ _ _ _ _ _ h];rfl⟩
theorem Co.own(C:Co w L D F g v σ){X:Nat→Prop}(G:Gc L F0 w0 F w)(hX:∀k,X k→w0.heap.size≤k∧(∀p,¬F p k)∧NQ w k)(hL:L≤w0.heap.size)(f:Ta.Fr X w w'):Cox L D F0 w0 σ w':=
 ⟨F,g,v,C.frX f (fun k hk=>(hX k hk).2),G.ownX (fun k hk=>(hX k hk).1) hL f⟩
theorem fldConf(a b c:Int)(w:World):(Instr.field 28 (.agg #[.int .i64 a,.int .i64 b,.int .i64 c]) 0).run Tryz.prog w=.ok (.int .i64 a) w:=by
 simp[Instr.field,asAgg,part,isAgg,run_underlying Tryz.underlying28,run_underlying Tryz.underlying3,go_sem]
theorem confC(C:Co w L D F g v σ) :
  Calls Tryz.prog 115 #[pt D.B] w fun e w'=>e=.returned (.agg #[.int .i64 σ.th,.int .i64 σ.k,.int .i64 σ.n])∧Below w.heap.size w w':=by
 obtain⟨K,hK⟩:∃J,w.heap.size=J:=⟨_,rfl⟩
 obtain⟨u,hu⟩:∃q,w.alloc (.cells #[.int .i64 0,.int .i64 0,.int .i64 0] 28)=q:=⟨_,rfl⟩
 have b0:Below w.heap.size w u:=by rw[←hu];exact belA _ _
 have hk:u.heap[K]?=some (.cells #[.int .i64 0,.int .i64 0,.int .i64 0] 28 (0,0)):=by rw[←hu,←hK];exact heap_alloc_new w _
 have C0:=C.below b0
 have c0:=C0.c0
 have c1:=C0.c1
 have c2:=C0.c2
 have klt:=lt_of_block hk
 have blt:=lt_of_block C0.head
 have kfz:∀o,u.frozen? ⟨K,o,none⟩=false:=(fun o=>by simp[World.frozen?,hk])
 have k0:u.cell? ⟨K,0,none⟩=some (.int .i64 0):=by rw[cell_of_row _ _ _ _ _ _ hk];rfl
 have k1:u.cell? ⟨K,1,none⟩=some (.int .i64 0):=by rw[cell_of_row _ _ _ _ _ _ hk];rfl
 have k2:u.cell? ⟨K,2,none⟩=some (.int .i64 0):=by rw[cell_of_row _ _ _ _ _ _ hk];rfl
 have E:Aside ((((u.setCell ⟨K,0,none⟩ (.int .i64 σ.th)).setCell ⟨K,1,none⟩ (.int .i64 σ.k)).setCell ⟨K,2,none⟩ (.int .i64 σ.n)).heap[K]?=some (.cells #[.int .i64 σ.th,.int .i64 σ.k,.int .i64 σ.n] 28 (0,0))):=set_at (set_at (set_at hk _) _) _
 have FIN:Aside (Below w.heap.size w (((u.setCell ⟨K,0,none⟩ (.int .i64 σ.th)).setCell ⟨K,1,none⟩ (.int .i64 σ.k)).setCell ⟨K,2,none⟩ (.int .i64 σ.n))):=((b0.setCell (le_of_eq hK) _).setCell (le_of_eq hK) _).setCell (le_of_eq hK) _
 have HU:Aside _:=hu
 have HK:Aside _:=hK
 clear C C0 hu b0 hk hK
 go_enter Tryz.func115,Tryz.ntmps115
 go_upto_region 1 with fail
 rw[HU.out]
 try simp only[HK.out]
 go_wp2_with fail
 have eb:=fun j=>cell_of_row _ _ j _ _ _ E.out
 have q0:=eb 0
 have q1:=eb 1
 have q2:=eb 2
 refine bodyPost_ret (v:=.agg #[.int .i64 σ.th,.int .i64 σ.k,.int .i64 σ.n]) (by simp[results,Tryz.results115,go_sem,q0,q1,q2]) rfl ⟨rfl,?_⟩
 exact FIN.out
theorem wHasC(C:Co w L D F g v σ){t:Nat}(ht:t<σ.th) :
  Calls Tryz.prog 65 #[pt D.B,.int .i64 t] w fun e w'=>e=.returned (.bool true)∧Below w.heap.size w w':=by
 have P:=confC C
 have h1:(t:Int)<(σ.th:Int):=by omega
 have h0:(t:Int)≥0:=by omega
 have ff:=fun W=>fldConf σ.th σ.k σ.n W
 clear C ht
 go_enter Tryz.func65,Tryz.ntmps65
 go_wp2_with fail
 refine P.mono ?_
 rintro e w1 ⟨rfl,b⟩
 have FIN:Aside _:=b
 have ff:=ff w1
 clear P b
 go_wp2_with fail
 go_ret
 exact⟨rfl,FIN.out⟩
end
section
open Go.RowKit Go.Lib Go.WideMaps Go.Maps
variable {w w' u w0:World}{L i:Nat}{D:CAd}{F F' F0:Nat→Nat→Prop}{g v:Value}{σ:CS}{x:Ta.TR}
structure WB(w u:World)(F:Nat→Nat→Prop)(K:Nat)(x z:WR):Prop where
 a:Bx u F K (wkA x) 59
 b:Bx u F (K+1) (wkA z) 59
theorem WB.new(C:Co w L D F g v σ)(x:WR){K:Nat}(hK:w.heap.size=K):WB w ((w.alloc (.cells (wkA x) 59)).alloc (.cells (wkA wk0) 59)) F K x wk0:=by
 refine⟨(hK▸Bx.new C (wkA x) 59).below (belA _ _),?_⟩
 have h:=Bx.new (C.below (belA w (.cells (wkA x) 59))) (wkA wk0) 59
 rw[show(w.alloc (.cells (wkA x) 59)).heap.size=K+1 by simp[hK]] at h
 exact h
theorem WB.gc{x z:WR}{K:Nat}(h:WB w u F K x z)(G:Gc L F u F' w'):WB w w' F' K x z:=⟨h.a.gc mq_wk G,h.b.gc mq_wk G⟩
theorem WB.bel{x z:WR}{K:Nat}(h:WB w u F K x z)(b:Below u.heap.size u w'):WB w w' F K x z:=⟨h.a.below b,h.b.below b⟩
theorem WB.fin{x z y:WR}{K:Nat}{U:World}{F2:Nat→Nat→Prop}{g2 v2:Value}{τ:CS}(h:WB w U F2 K x z)(C:Co U L D F2 g2 v2 τ)(G:Gc L F w F2 U)(hK:w.heap.size=K)(hL:L≤w.heap.size) :
  (set5 U (K+1) (.int .i64 y.ph) (.int .u64 y.key) (.int .i64 y.id) (.int .i64 y.pc) (.bool y.bad)).heap[K+1]?=some (.cells (wkA y) 59 (0,0))∧Cox L D F w τ (set5 U (K+1) (.int .i64 y.ph) (.int .u64 y.key) (.int .i64 y.id) (.int .i64 y.pc) (.bool y.bad)):=by
 refine⟨set5_at h.b.1 _ _ _ _ _,C.own G (fun k hk=>?_) hL (set5_fr _ _ _ _ _ _ _)⟩
 subst hk
 exact⟨by omega,h.b.2,nq_of h.b.1 qt_wk⟩
theorem seekS(C:Co w L D F g v σ)(x:WR){t:Nat}(ht:t<σ.th)(hn:σ.qn≤1000)(hf:(σ.q.g t).f=true)(dr:Int) :
  Calls Tryz.prog 116 #[pt D.B,wkV x,.int .i64 t,.int .u64 dr] w fun e w'=>e=.returned (.tuple #[wkV x,.int .i64 2])∧Cox L D F w (setS σ t) w':=by
 obtain⟨K,hK⟩:∃J,w.heap.size=J:=⟨_,rfl⟩
 have W0:=WB.new C x hK
 obtain⟨u,hu⟩:∃q,(w.alloc (.cells (wkA x) 59)).alloc (.cells (wkA wk0) 59)=q:=⟨_,rfl⟩
 have b0:Below w.heap.size w u:=by rw[←hu];exact belT (belA _ _) (belA _ _)
 rw[hu] at W0
 have P:=settleC (C.below b0) ht hn
 rw[hf] at P
 have HC:Aside (Gc L F w F u∧w.heap.size=K∧L≤w.heap.size∧WB w u F K x wk0):=⟨Gc.below F C.lw b0,hK,C.lw,W0⟩
 obtain⟨x0,x1,x2,x3,x4⟩:=x
 have HU:Aside _:=hu
 clear C W0 hu b0 hn hf ht
 go_enter Tryz.func116,Tryz.ntmps116
 go_upto_region 1 with fail
 rw[show(w.alloc (.cells #[.int .i64 x0,.int .u64 x1,.int .i64 x2,.int .i64 x3,.bool x4] 59)).alloc (.cells #[.int .i64 0,.int .u64 0,.int .i64 0,.int .i64 0,.bool false] 59)=u from HU.out]
 try simp only[hK]
 go_wp2_with fail
 refine P.mono ?_
 rintro e w1 ⟨rfl,F1,g1,v1,C1,G1⟩
 have W1:=HC.out.2.2.2.gc G1
 obtain⟨a0,a1,a2,a3,a4⟩:=bx5 W1.a.1
 obtain⟨b0,b1,b2,b3,b4⟩:=bx5 W1.b.1
 have alt:=lt_of_block W1.a.1
 have blt:=lt_of_block W1.b.1
 have bfz:∀o,w1.frozen? ⟨K+1,o,none⟩=false:=(fun o=>by simp[World.frozen?,W1.b.1])
 have FF:=W1.fin (y:=⟨x0,x1,x2,x3,x4⟩) C1 (HC.out.1.trans G1) hK HC.out.2.2.1
 have E:Aside _:=FF.1
 have FIN:Aside _:=FF.2
 clear P C1 G1 W1 FF
 go_wp2_with fail
 have eb:=fun j=>cell_of_row _ _ j _ _ _ E.out
 have q0:=eb 0
 have q1:=eb 1
 have q2:=eb 2
 have q3:=eb 3
 have q4:=eb 4
 unfold set5 at q0 q1 q2 q3 q4
 refine bodyPost_ret (v:=.tuple #[.agg #[.int .i64 x0,.int .u64 x1,.int .i64 x2,.int .i64 x3,.bool x4],.int .i64 2]) (by simp[results,Tryz.results116,go_sem,q0,q1,q2,q3,q4]) rfl ⟨rfl,?_⟩
 exact FIN.out
theorem seekN(C:Co w L D F g v σ)(x:WR){t:Nat}(ht:t<σ.th)(hn:σ.qn≤1000)(hf:(σ.q.g t).f=false)(dr k d:Int){σ':CS}(PL:∀w1 F1 g1 v1,Co w1 L D F1 g1 v1 (setS σ t)→Calls Tryz.prog 52 #[pt D.B,.int .i64 t,.int .u64 dr] w1 fun e w'=>e=.returned (.tuple #[.agg #[.int .u64 k,.int .i64 d],.bool false])∧Cox L D F1 w1 σ' w') :
  Calls Tryz.prog 116 #[pt D.B,wkV x,.int .i64 t,.int .u64 dr] w fun e w'=>e=.returned (.tuple #[wkV x,.int .i64 0])∧Cox L D F w σ' w':=by
 obtain⟨K,hK⟩:∃J,w.heap.size=J:=⟨_,rfl⟩
 have W0:=WB.new C x hK
 obtain⟨u,hu⟩:∃q,(w.alloc (.cells (wkA x) 59)).alloc (.cells (wkA wk0) 59)=q:=⟨_,rfl⟩
 have b0:Below w.heap.size w u:=by rw[←hu];exact belT (belA _ _) (belA _ _)
 rw[hu] at W0
 have P:=settleC (C.below b0) ht hn
 rw[hf] at P
 have HC:Aside (Gc L F w F u∧w.heap.size=K∧L≤w.heap.size∧WB w u F K x wk0):=⟨Gc.below F C.lw b0,hK,C.lw,W0⟩
 have HP:Aside _:=PL
 obtain⟨x0,x1,x2,x3,x4⟩:=x
 have HU:Aside _:=hu
 clear C W0 hu b0 hn hf ht PL
 go_enter Tryz.func116,Tryz.ntmps116
 go_upto_region 1 with fail
 rw[show(w.alloc (.cells #[.int .i64 x0,.int .u64 x1,.int .i64 x2,.int .i64 x3,.bool x4] 59)).alloc (.cells #[.int .i64 0,.int .u64 0,.int .i64 0,.int .i64 0,.bool false] 59)=u from HU.out]
 try simp only[hK]
 go_wp2_with fail
 refine P.mono ?_
 rintro e w1 ⟨rfl,F1,g1,v1,C1,G1⟩
 have W1:=HC.out.2.2.2.gc G1
 have X1:Aside (Gc L F w F1 w1∧WB w w1 F1 K ⟨x0,x1,x2,x3,x4⟩ wk0):=⟨HC.out.1.trans G1,W1⟩
 have P:=HP.out w1 F1 g1 v1 C1
 clear C1 G1 W1
 go_wp2_with fail
 refine P.mono ?_
 rintro e w2 ⟨rfl,F2,g2,v2,C2,G2⟩
 obtain⟨J,hJ⟩:∃J,w2.heap.size=J:=⟨_,rfl⟩
 obtain⟨u2,hu2⟩:∃q,w2.alloc (.cells #[.int .u64 k,.int .i64 d] 47)=q:=⟨_,rfl⟩
 have b2:Below w2.heap.size w2 u2:=by rw[←hu2];exact belA _ _
 have BJ:Bx u2 F2 J #[.int .u64 k,.int .i64 d] 47:=by rw[←hu2,←hJ];exact Bx.new C2 _ _
 have W2:=(X1.out.2.gc G2).bel b2
 have C3:=C2.below b2
 have G3:Gc L F w F2 u2:=(X1.out.1.trans G2).trans (Gc.below F2 C2.lw b2)
 obtain⟨a0,a1,a2,a3,a4⟩:=bx5 W2.a.1
 obtain⟨b0,b1,b2',b3,b4⟩:=bx5 W2.b.1
 have alt:=lt_of_block W2.a.1
 have blt:=lt_of_block W2.b.1
 have bfz:∀o,u2.frozen? ⟨K+1,o,none⟩=false:=(fun o=>by simp[World.frozen?,W2.b.1])
 have FF:=W2.fin (y:=⟨x0,x1,x2,x3,x4⟩) C3 G3 hK HC.out.2.2.1
 have E:Aside _:=FF.1
 have FIN:Aside _:=FF.2
 have HU2:Aside _:=hu2
 have HJ:Aside _:=hJ
 clear P C2 G2 W2 C3 G3 FF BJ hu2 hJ b2
 go_upto_region 4 with fail
 rw[HU2.out]
 try simp only[HJ.out]
 go_wp2_with fail
 have eb:=fun j=>cell_of_row _ _ j _ _ _ E.out
 have q0:=eb 0
 have q1:=eb 1
 have q2:=eb 2
 have q3:=eb 3
 have q4:=eb 4
 unfold set5 at q0 q1 q2 q3 q4
 refine bodyPost_ret (v:=.tuple #[.agg #[.int .i64 x0,.int .u64 x1,.int .i64 x2,.int .i64 x3,.bool x4],.int .i64 0]) (by simp[results,Tryz.results116,go_sem,q0,q1,q2,q3,q4]) rfl ⟨rfl,?_⟩
 exact FIN.out
end
end Go.Proofs.YtdboknkfhbhniaaGreatDoor
