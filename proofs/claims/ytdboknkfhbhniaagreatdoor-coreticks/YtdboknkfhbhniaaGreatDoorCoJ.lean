import Derived.Test.YtdboknkfhbhniaaGreatDoorCoC
import Derived.Test.YtdboknkfhbhniaaGreatDoorWWhXc
namespace Go.Proofs.YtdboknkfhbhniaaGreatDoor
set_option maxHeartbeats 8000000
set_option maxRecDepth 100000
set_option linter.unusedVariables false
open Go.RowKit Go.Lib Go.WideMaps Go.Maps
section
variable {w w' u:World}{L i:Nat}{D:CAd}{F F':Nat→Nat→Prop}{g v:Value}{σ:CS}{x:Ta.TR}
def crS(σ:CS):CS:={σ with o:=σ.o+1,m:=max σ.m (σ.o+1)}
def subS(σ:CS)(t:Nat)(prio:Int):CS:=relS (mkS (crS σ) (Ta.mkT prio 0 0 0 0 0 2)) t σ.T.length (Ta.mkT prio 0 0 0 0 0 2)
theorem jb0(f d rr:Int):JbOk f 0 d rr 0:=.inl ⟨rfl,rfl⟩
theorem subC(C:Co w L D F g v σ){t:Nat}(ht:t<σ.th)(hc:σ.cl=false)(hl:σ.T.length<200)(ho:σ.o<σ.n)(he:σ.ev.length+1<1000000)(hn:σ.qn≤1000)(htk:σ.tk<1000000)(prio:Int)(h0:0≤prio)(h7:prio≤7) :
  Calls Tryz.prog 14 #[pt D.B,.int .i64 t,.int .i64 prio,.slice none 0 0,.slice none 0 0] w fun e w'=>e=.returned (.tuple #[.int .i64 ((σ.T.length:Int)+1),.int .i64 0])∧Cox L D F w (subS σ t prio) w':=by
 have P1:=rightC C ht prio h0 h7
 have P2:=areNil D.B w
 have P3:=refuseC C hc hl
 have c7:=C.c7
 have P4:=C.credC ho
 have HH:Aside (t<σ.th∧σ.T.length<200∧σ.ev.length+1<1000000∧σ.qn≤1000∧σ.tk<1000000∧0≤prio∧prio≤7):=⟨ht,hl,he,hn,htk,h0,h7⟩
 obtain⟨N1,hN1⟩:∃N1,(σ.T.length:Int)+1=N1:=⟨_,rfl⟩
 have HN1:Aside _:=hN1
 rw[hN1]
 clear C ht hl he hn htk h0 h7 hc ho hN1
 go_enter Tryz.func14,Tryz.ntmps14
 go_wp2_with fail
 refine P1.mono ?_
 rintro e w1 ⟨rfl,rfl⟩
 clear P1
 go_wp2_with fail
 refine P2.mono ?_
 rintro e w1 ⟨rfl,rfl⟩
 clear P2
 go_wp2_with fail
 refine P3.mono ?_
 rintro e w1 ⟨rfl,rfl⟩
 clear P3
 go_wp2_with fail
 refine(contNil _ _).mono ?_
 rintro e w1 ⟨rfl,rfl⟩
 go_wp2_with fail
 refine P4.mono ?_
 rintro e w2 ⟨rfl,F2,g2,v2,C2,G2⟩
 clear P4 c7
 have X2:Aside (Gc L F w1 F2 w2):=G2
 have P5:=begin2 C2 (t:=t) HH.out.1 HH.out.2.1 HH.out.2.2.1 HH.out.2.2.2.1 HH.out.2.2.2.2.1 prio 0 0 0 0 0 0 HH.out.2.2.2.2.2.1 HH.out.2.2.2.2.2.2 (jb0 0 0 0)
 rw[show(({σ with o:=σ.o+1,m:=max σ.m (σ.o+1)}:CS).T.length:Int)+1=N1 from HN1.out] at P5
 clear C2 G2
 go_wp2_with fail
 refine(notNil D.B _).mono ?_
 rintro e w3 ⟨rfl,rfl⟩
 go_wp2_with fail
 refine P5.mono ?_
 rintro e w4 ⟨rfl,F4,g4,v4,C4,G4⟩
 have FIN:Aside (Cox L D F w1 (subS σ t prio) w4):=⟨F4,g4,v4,C4,X2.out.trans G4⟩
 clear P5 C4 G4
 go_wp2_with fail
 go_ret2
 exact⟨rfl,FIN.out⟩
theorem taskC(C:Co w L D F g v σ)(hi:σ.T[i]?=some x)(hs:x.s≠0) :
  Calls Tryz.prog 60 #[pt D.B,.int .i64 ((i:Int)+1)] w fun e w'=>e=.returned (.bool true)∧Cox L D F w σ w':=by
 have P:=statusC C hi
 obtain⟨s,hs'⟩:∃s,x.s=s:=⟨_,rfl⟩
 rw[hs'] at P hs
 have hb:(s != 0)=true:=by simpa using hs
 clear C hi hs' hs
 go_enter Tryz.func60,Tryz.ntmps60
 go_wp2_with fail
 refine P.mono ?_
 rintro e w1 ⟨rfl,C1⟩
 have FIN:Aside _:=C1
 clear P C1
 go_wp2_with fail
 go_ret
 exact⟨rfl,FIN.out⟩
theorem turn34(C:Co w L D F g v σ){t:Nat}(ht:t<σ.th)(hi:σ.T[i]?=some x)(hs:x.s=3)(hp:0≤x.p)(hid:Da.wfI ((i:Int)+1))(hN:σ.N<1000000)(hl:σ.ev.length+300<1000000)(hT:σ.T.length≤200)(hq:σ.qn+σ.T.countP isW≤1000)(htk:σ.tk<1000000)(hw:∀j,σ.E ((i:Int)+1) j→(∀q,σ.E q j→q=(i:Int)+1)→Wt σ.T j) :
  Calls Tryz.prog 44 #[pt D.B,.int .i64 t,.int .i64 ((i:Int)+1),.int .i64 4] w fun e w'=>e=.returned (.tuple #[])∧∃d,DoneL σ.E ((i:Int)+1) d∧Cox L D F w (relL t d {endS (turnS σ i x 4) t ((i:Int)+1) with E:=fun q j=>σ.E q j∧q≠(i:Int)+1}) w':=by
 refine(turn_byZ C t hi hs hp (by decide) (Z:=fun τ=>∃d,DoneL σ.E ((i:Int)+1) d∧τ=relL t d {endS (turnS σ i x 4) t ((i:Int)+1) with E:=fun q j=>σ.E q j∧q≠(i:Int)+1}) (fun F1 g1 v1 w1 C1=>?_)).mono ?_
 ·refine follow_34 D.B t ((i:Int)+1) w1 (fun w2 b2=>?_)
  have hx:σ.T.countP isW=(σ.T.set i (turnX x 4)).countP isW:=by
   have:=Ta.cntP_set isW σ.T i x (turnX x 4) hi
   have e1:isW x=false:=by simp[isW,hs]
   have e2:isW (turnX x 4)=false:=by simp[isW,(turnX_key x 4).2.2.1]
   rw[e1,e2] at this
   simpa using this.symm
  refine(endC (C1.below b2) ht hid hN hl (by show(σ.T.set i _).length≤200;simpa using hT) (by show σ.qn+(σ.T.set i _).countP isW≤1000;rw[←hx];exact hq) htk (fun j h1 h2=>?_)).mono ?_
  ·obtain⟨k,y,e1,e2,e3,e4⟩:=hw j h1 h2
   refine⟨k,y,e1,?_,e3,e4⟩
   show(σ.T.set i _)[k]?=some y
   rw[List.getElem?_set_ne (fun e=>?_)]
   ·exact e2
   ·rw[←e,hi] at e2
    injection e2 with e2
    rw[e2] at hs
    omega
  ·rintro e w3 ⟨rfl,d,dl,F3,g3,v3,C3,G3⟩
   exact⟨rfl,_,⟨d,dl,rfl⟩,F3,g3,v3,C3,(Gc.below F1 C1.lw b2).trans G3⟩
 ·rintro e w' ⟨rfl,τ,⟨d,dl,rfl⟩,X⟩
  exact⟨rfl,d,dl,X⟩
theorem claimC(C:Co w L D F g v σ){t:Nat}(ht:t<σ.th)(hi:σ.T[i]?=some x)(hs:x.s=2)(hp:0≤x.p)(hl:σ.ev.length<1000000)(hn:σ.qn≤1000)(htk:σ.tk<1000000) :
  Calls Tryz.prog 15 #[pt D.B,.int .i64 t,.agg #[.int .u64 x.key,.int .i64 ((i:Int)+1)]] w fun e w'=>e=.returned (.int .i64 0)∧Cox L D F w (handS (turnS σ i x 3) t i (turnX x 3)) w':=by
 obtain⟨K,hK⟩:∃J,w.heap.size=J:=⟨_,rfl⟩
 obtain⟨KY,hKY⟩:∃J,x.key=J:=⟨_,rfl⟩
 obtain⟨I1,hI1⟩:∃J,(i:Int)+1=J:=⟨_,rfl⟩
 obtain⟨u,hu⟩:∃z,w.alloc (.cells #[.int .u64 KY,.int .i64 I1] 47)=z:=⟨_,rfl⟩
 have b0:Below w.heap.size w u:=by rw[←hu];exact belA _ _
 have BK:Bx u F K #[.int .u64 KY,.int .i64 I1] 47:=by rw[←hu,←hK];exact Bx.new C _ _
 have C0:=C.below b0
 have P1:=threadC C0 ht
 have P2:=taskC C0 hi (by omega)
 rw[hI1] at P2
 have k1:u.cell? ⟨K,1,none⟩=some (.int .i64 I1):=BK.cell 1
 have HH:Aside (t<σ.th∧σ.T[i]?=some x∧x.s=2∧0≤x.p∧σ.ev.length<1000000∧σ.qn≤1000∧σ.tk<1000000∧x.key=KY∧(i:Int)+1=I1):=⟨ht,hi,hs,hp,hl,hn,htk,hKY,hI1⟩
 have X0:Aside (Gc L F w F u∧Bx u F K #[.int .u64 KY,.int .i64 I1] 47):=⟨Gc.below F C.lw b0,BK⟩
 have HU:Aside _:=hu
 have HK:Aside _:=hK
 rw[hKY,hI1]
 clear C C0 ht hi hs hp hl hn htk hKY hI1 hu hK BK b0
 go_enter Tryz.func15,Tryz.ntmps15
 go_upto_region 1 with fail
 rw[HU.out]
 try simp only[HK.out]
 go_wp2_with fail
 refine P1.mono ?_
 rintro e w1 ⟨rfl,rfl⟩
 clear P1
 go_wp2_with fail
 refine P2.mono ?_
 rintro e w2 ⟨rfl,F2,g2,v2,C2,G2⟩
 clear P2 k1
 have B2:=X0.out.2.gc mq_ent G2
 have X2:Aside (Gc L F w F2 w2.drew∧Bx w2.drew F2 K #[.int .u64 KY,.int .i64 I1] 47):=⟨(X0.out.1.trans G2).trans (Gc.below F2 C2.lw (Below.refl _ _).drew),B2⟩
 have k0:w2.drew.cell? ⟨K,0,none⟩=some (.int .u64 KY):=B2.cell 0
 have k1:w2.drew.cell? ⟨K,1,none⟩=some (.int .i64 I1):=B2.cell 1
 have PS:Aside (Calls Tryz.prog 12 #[pt D.B,.int .i64 I1] w2.drew fun e w'=>e=.returned (.int .i64 2)∧∃F',(∃g' v',Co w' L D F' g' v' σ)∧Gc L F w F' w'∧Bx w' F' K #[.int .u64 KY,.int .i64 I1] 47∧w'.cell? ⟨K,0,none⟩=some (.int .u64 KY)∧w'.cell? ⟨K,1,none⟩=some (.int .i64 I1)):=by
  have:=statusC C2.drew HH.out.2.1
  rw[HH.out.2.2.1,HH.out.2.2.2.2.2.2.2.2] at this
  refine this.mono ?_
  rintro e w' ⟨rfl,F4,g4,v4,C4,G4⟩
  have B4:=X2.out.2.gc mq_ent G4
  exact⟨rfl,F4,⟨g4,v4,C4⟩,X2.out.1.trans G4,B4,B4.cell 0,B4.cell 1⟩
 have PE:Aside (∀(W:World) F3 g3 v3,Co W L D F3 g3 v3 σ→Gc L F w F3 W→Bx W F3 K #[.int .u64 KY,.int .i64 I1] 47→Calls Tryz.prog 61 #[pt D.B,.int .i64 I1] W fun e w'=>e=.returned (.agg #[.int .u64 KY,.int .i64 I1])∧∃F',(∃g' v',Co w' L D F' g' v' σ)∧Gc L F w F' w'∧Bx w' F' K #[.int .u64 KY,.int .i64 I1] 47∧w'.cell? ⟨K,0,none⟩=some (.int .u64 KY)∧w'.cell? ⟨K,1,none⟩=some (.int .i64 I1)):=by
  intro W F3 g3 v3 C3 G3 B3
  have:=entryC C3 HH.out.2.1
  rw[HH.out.2.2.2.2.2.2.2.1,HH.out.2.2.2.2.2.2.2.2] at this
  refine this.mono ?_
  rintro e w' ⟨rfl,F4,g4,v4,C4,G4⟩
  have B4:=B3.gc mq_ent G4
  exact⟨rfl,F4,⟨g4,v4,C4⟩,G3.trans G4,B4,B4.cell 0,B4.cell 1⟩
 clear C2 G2 B2
 go_upto_region 3 with fail
 go_region_held3 (fun w'=>w'.cell? ⟨K,0,none⟩=some (.int .u64 KY)∧w'.cell? ⟨K,1,none⟩=some (.int .i64 I1)) (first|with_reducible exact⟨k0,k1⟩|with_reducible exact⟨e0,e1⟩|with_reducible exact⟨f0,f1⟩) ((first|(go_at_call 61;(with_reducible refine Calls.mono (PE.out w3 F3 g3 v3 C3 G3 B3) ?_);rintro e w4 ⟨rfl,F4,⟨g4,v4,C4⟩,G4,B4,f0,f1⟩)|(go_at_call 12;(with_reducible refine Calls.mono PS.out ?_);rintro e w3 ⟨rfl,F3,⟨g3,v3,C3⟩,G3,B3,e0,e1⟩)))
 have P:=turn23 C4 HH.out.2.2.2.2.1 HH.out.2.2.2.2.2.1 HH.out.2.2.2.2.2.2.1 t HH.out.2.1 HH.out.2.2.1 HH.out.2.2.2.1
 rw[HH.out.2.2.2.2.2.2.2.2] at P
 have X4:Aside (Gc L F w F4 w4):=G4
 have flt:=lt_of_block B4.1
 clear C3 G3 B3 C4 G4 B4 k0 k1 e0 e1 f0
 go_wp2_with fail
 refine P.mono ?_
 rintro e w5 ⟨rfl,F5,g5,v5,C5,G5⟩
 have FIN:Aside (Cox L D F w (handS (turnS σ i x 3) t i (turnX x 3)) w5):=⟨F5,g5,v5,C5,X4.out.trans G5⟩
 clear P C5 G5 X4 f1 flt
 go_wp2_with fail
 go_ret
 exact⟨rfl,FIN.out⟩
end
section
variable {w w' u:World}{L i:Nat}{D:CAd}{F F':Nat→Nat→Prop}{g v:Value}{σ:CS}{x:Ta.TR}
def timS(σ:CS)(T0:Ta.TR)(d:Nat):CS:={mkS (crS σ) T0 with tm:=Wl.addT σ.tm ((σ.T.length:Int)+1) d}
theorem wfI_small{n:Int}(h:0≤n)(h':n≤1000):Wl.wfI n:=by
 show Lit.wf (.int .i64 n)=true
 simp only[Lit.wf,IntKind.min,IntKind.max,IntKind.signed,IntKind.bits,decide_eq_true_eq,Bool.and_eq_true]
 constructor<;>simp<;>omega
theorem timedW(C:Co w L D F g v σ)(t:Int)(hl:σ.T.length<200)(ho:σ.o<σ.n)(he:σ.ev.length<1000000)(prio f p rr R m dl:Int)(d:Nat)(hd:d<Wl.B64)(h0:0≤prio)(h7:prio≤7)(hj:JbOk f p d rr R)(hdl:dl≠0) :
  Calls Tryz.prog 40 #[pt D.B,.int .i64 t,.int .i64 prio,.slice none 0 0,.agg #[.int .u64 f,.int .u64 p,.int .u64 (d:Int),.int .u64 rr,.int .u64 m],.int .u64 dl] w fun e w'=>e=.returned (.tuple #[.int .i64 ((σ.T.length:Int)+1),.int .i64 0])∧Cox L D F w (timS σ (Ta.mkT prio f p d R m 1) d) w':=by
 obtain⟨K,hK⟩:∃J,w.heap.size=J:=⟨_,rfl⟩
 obtain⟨e,hE⟩:∃e:Int,(d:Int)=e:=⟨_,rfl⟩
 obtain⟨u,hu⟩:∃z,w.alloc (.cells #[.int .u64 f,.int .u64 p,.int .u64 e,.int .u64 rr,.int .u64 m] 100)=z:=⟨_,rfl⟩
 have b0:Below w.heap.size w u:=by rw[←hu];exact belA _ _
 have BK:Bx u F K #[.int .u64 f,.int .u64 p,.int .u64 e,.int .u64 rr,.int .u64 m] 100:=by rw[←hu,←hK];exact Bx.new C _ _
 have C0:=C.below b0
 have c7:u.cell? ⟨D.B,7,none⟩=some (pt D.ca):=C0.c7
 have P1:=C0.credC ho
 obtain⟨N1,hN1⟩:∃N1,(σ.T.length:Int)+1=N1:=⟨_,rfl⟩
 have HN1:Aside _:=hN1
 have hz:(dl==0)=false:=by simpa using hdl
 have HH:Aside (σ.T.length<200∧σ.ev.length<1000000∧0≤prio∧prio≤7∧JbOk f p e rr R∧d<Wl.B64∧(d:Int)=e):=⟨hl,he,h0,h7,hE▸hj,hd,hE⟩
 have X0:Aside (Gc L F w F u∧Bx u F K #[.int .u64 f,.int .u64 p,.int .u64 e,.int .u64 rr,.int .u64 m] 100):=⟨Gc.below F C.lw b0,BK⟩
 have HU:Aside _:=hu
 have HK:Aside _:=hK
 rw[hN1,hE]
 clear C C0 hu hK b0 ho BK hl he h0 h7 hj hd hE hN1 hdl
 go_enter Tryz.func40,Tryz.ntmps40
 go_upto_region 1 with fail
 rw[HU.out]
 try simp only[HK.out]
 go_wp2_with fail
 refine P1.mono ?_
 rintro e1 w1 ⟨rfl,F1,g1,v1,C1,G1⟩
 have B1:=X0.out.2.gc mq_job G1
 have X1:Aside (Gc L F w F1 w1∧Bx w1 F1 K #[.int .u64 f,.int .u64 p,.int .u64 e,.int .u64 rr,.int .u64 m] 100):=⟨X0.out.1.trans G1,B1⟩
 have k0:w1.cell? ⟨K,0,none⟩=some (.int .u64 f):=B1.cell 0
 have k1:w1.cell? ⟨K,1,none⟩=some (.int .u64 p):=B1.cell 1
 have k2:w1.cell? ⟨K,2,none⟩=some (.int .u64 e):=B1.cell 2
 have k3:w1.cell? ⟨K,3,none⟩=some (.int .u64 rr):=B1.cell 3
 have k4:w1.cell? ⟨K,4,none⟩=some (.int .u64 m):=B1.cell 4
 have P2:=begin1 C1 t HH.out.1 HH.out.2.1 prio f p e rr R m HH.out.2.2.1 HH.out.2.2.2.1 HH.out.2.2.2.2.1
 rw[show(({σ with o:=σ.o+1,m:=max σ.m (σ.o+1)}:CS).T.length:Int)+1=N1 from HN1.out] at P2
 clear P1 C1 G1 c7 B1
 go_wp2_with fail
 refine P2.mono ?_
 rintro e2 w2 ⟨rfl,F2,g2,v2,C2,G2⟩
 have B2:=X1.out.2.gc mq_job G2
 clear P2 k0 k1 k2 k3 k4
 have C2d:=C2.drew
 have c5:w2.drew.cell? ⟨D.B,5,none⟩=some (pt D.Bw):=C2d.c5
 have k2:w2.drew.cell? ⟨K,2,none⟩=some (.int .u64 e):=B2.cell 2
 have PW:Aside (Calls Tryz.prog 84 #[pt D.Bw,.int .i64 N1,.int .u64 e] w2.drew fun e' w'=>(∃r,e'=.returned (.int .i64 r))∧(Cox L D F2 w2 {mkS (crS σ) (Ta.mkT prio f p e R m 1) with tm:=Wl.addT σ.tm N1 d} w'∧w'.cell? ⟨D.B,5,none⟩=some (pt D.Bw)∧w'.cell? ⟨K,2,none⟩=some (.int .u64 e))):=by
  have hw:Wl.wfI N1:=by have h1:=HN1.out;have h2:=HH.out.1;exact wfI_small (by omega) (by omega)
  have:=C2d.waddC hw HH.out.2.2.2.2.2.1
  rw[HH.out.2.2.2.2.2.2] at this
  refine this.mono ?_
  rintro e' w' ⟨rfl,F4,g4,v4,C4,G4⟩
  have G5:=(Gc.below F2 C2.lw (Below.refl _ _).drew).trans G4
  exact⟨⟨_,rfl⟩,⟨F4,g4,v4,C4,G5⟩,C4.c5,(B2.gc mq_job G5).cell 2⟩
 have X2:Aside (Gc L F w F2 w2):=X1.out.1.trans G2
 clear C2 C2d G2 B2
 go_upto_region 6 with fail
 go_region_held3 (fun w'=>w'.cell? ⟨D.B,5,none⟩=some (pt D.Bw)∧w'.cell? ⟨K,2,none⟩=some (.int .u64 e)) (first|with_reducible exact⟨c5,k2⟩|with_reducible exact⟨d5,e2⟩) ((go_at_call 84;(with_reducible refine Calls.mono PW.out ?_);rintro e3 w3 ⟨⟨r,rfl⟩,C3,d5,e2⟩))
 have FIN:Aside (Cox L D F w (timS σ (Ta.mkT prio f p e R m 1) d) w3):=by
  obtain⟨F4,g4,v4,C4,G4⟩:=C3
  refine⟨F4,g4,v4,?_,X2.out.trans G4⟩
  unfold timS
  rw[HN1.out]
  exact C4
 clear c5 k2 d5 e2 C3
 go_wp2_with fail
 go_ret2
 exact⟨rfl,FIN.out⟩
end
section
variable {w w' u:World}{L i:Nat}{D:CAd}{F F':Nat→Nat→Prop}{g v:Value}{σ:CS}{x:Ta.TR}
theorem after_by(C:Co w L D F g v σ){t:Nat}(ht:t<σ.th)(hc:σ.cl=false)(hl:σ.T.length<200)(prio dl:Int)(h0:0≤prio)(h7:prio≤7)(hd:0<dl){Q:Ending→World→Prop}(hn:Ta.IsT σ.now)(hdT:Ta.IsT dl)
  (hf:∀w1,Below w.heap.size w w1→Calls Tryz.prog 40 #[pt D.B,.int .i64 t,.int .i64 prio,.slice none 0 0,.agg #[.int .u64 0,.int .u64 0,.int .u64 (Ta.addT σ.now dl),.int .u64 0,.int .u64 0],.int .u64 dl] w1 fun e w'=>∃a b,e=.returned (.tuple #[a,b])∧Q e w') :
  Calls Tryz.prog 9 #[pt D.B,.int .i64 t,.int .i64 prio,.slice none 0 0,.int .u64 dl] w Q:=by
 have P1:=rightC C ht prio h0 h7
 have P3:=refuseC C hc hl
 obtain⟨K,hK⟩:∃J,w.heap.size=J:=⟨_,rfl⟩
 obtain⟨u,hu⟩:∃z,w.alloc (.cells #[.int .u64 0,.int .u64 0,.int .u64 0,.int .u64 0,.int .u64 0] 100)=z:=⟨_,rfl⟩
 have b0:Below w.heap.size w u:=by rw[←hu];exact belA _ _
 have BK:Bx u F K #[.int .u64 0,.int .u64 0,.int .u64 0,.int .u64 0,.int .u64 0] 100:=by rw[←hu,←hK];exact Bx.new C _ _
 have C0:=C.below b0
 have c5:u.cell? ⟨D.B,5,none⟩=some (pt D.Bw):=C0.c5
 have NW:Calls Tryz.prog 39 #[pt D.Bw] u fun e w'=>e=.returned (.int .u64 σ.now)∧w'=u:=Wl.now_any C0.whl
 have hnow:=C0.whl
 have k2:u.cell? ⟨K,2,none⟩=some (.int .u64 0):=BK.cell 2
 have fzk:∀o,u.frozen? ⟨K,o,none⟩=false:=fun o=>by simp[World.frozen?,BK.1]
 have E:Aside (∀X:Int,(u.setCell ⟨K,2,none⟩ (.int .u64 X)).heap[K]?=some (.cells #[.int .u64 0,.int .u64 0,.int .u64 X,.int .u64 0,.int .u64 0] 100 (0,0))):=fun X=>set_at BK.1 _
 have hgt:decide (0<dl)=true:=decide_eq_true hd
 have HU:Aside _:=hu
 have HK:Aside _:=hK
 have HF:Aside _:=hf
 have BB:Aside (∀v,Below w.heap.size w (u.setCell ⟨K,2,none⟩ v)):=fun v=>b0.setCell (by show w.heap.size≤K;omega) v
 have HT:Aside (Ta.IsT σ.now∧Ta.IsT dl):=⟨hn,hdT⟩
 clear C0 hu hK hf hd b0 BK hn hdT hnow
 go_enter Tryz.func9,Tryz.ntmps9
 go_wp2_with fail
 refine P1.mono ?_
 rintro e w1 ⟨rfl,rfl⟩
 clear P1
 go_wp2_with fail
 refine P3.mono ?_
 rintro e w1 ⟨rfl,rfl⟩
 clear P3 C
 go_upto_region 5 with fail
 try simp only[HU.out,HK.out]
 go_wp2_with fail
 refine NW.mono ?_
 rintro e w2 ⟨rfl,rfl⟩
 clear NW
 go_wp2_with fail
 refine(Ta.Tk.add_any σ.now dl _ HT.out.1 HT.out.2).mono ?_
 rintro e w3 ⟨rfl,rfl⟩
 generalize hX:Ta.addT σ.now dl=X at HF⊢
 clear c5
 go_upto_region 7 with fail
 obtain⟨w5,h5⟩:∃z,w3.setCell ⟨K,2,none⟩ (.int .u64 X)=z:=⟨_,rfl⟩
 rw[h5]
 have B5:=E.out X
 have bb:=BB.out (.int .u64 X)
 rw[h5] at B5 bb
 have cl:∀j,w5.cell? ⟨K,j,none⟩=(#[.int .u64 0,.int .u64 0,.int .u64 X,.int .u64 0,.int .u64 0]:Array Value)[j]?:=fun j=>cell_of_row _ _ _ _ _ _ B5
 have j0:w5.cell? ⟨K,0,none⟩=some (.int .u64 0):=cl 0
 have j1:w5.cell? ⟨K,1,none⟩=some (.int .u64 0):=cl 1
 have j2:w5.cell? ⟨K,2,none⟩=some (.int .u64 X):=cl 2
 have j3:w5.cell? ⟨K,3,none⟩=some (.int .u64 0):=cl 3
 have j4:w5.cell? ⟨K,4,none⟩=some (.int .u64 0):=cl 4
 have HB:Aside (Below w1.heap.size w1 w5):=bb
 clear B5 bb cl h5 k2 fzk
 go_wp2_with fail
 refine(HF.out _ HB.out).mono ?_
 rintro e w4 ⟨a,b,rfl,hq⟩
 have HQ:Aside _:=hq
 clear hq
 go_wp2_with fail
 exact HQ.out
theorem afterW(C:Co w L D F g v σ){t:Nat}(ht:t<σ.th)(hc:σ.cl=false)(hl:σ.T.length<200)(ho:σ.o<σ.n)(he:σ.ev.length<1000000)(prio dl:Int)(h0:0≤prio)(h7:prio≤7)(hd:0<dl)(hn:Ta.IsT σ.now)(hdT:Ta.IsT dl){d:Nat}(hD:Ta.addT σ.now dl=(d:Int))(hB:d<Wl.B64) :
  Calls Tryz.prog 9 #[pt D.B,.int .i64 t,.int .i64 prio,.slice none 0 0,.int .u64 dl] w fun e w'=>e=.returned (.tuple #[.int .i64 ((σ.T.length:Int)+1),.int .i64 0])∧Cox L D F w (timS σ (Ta.mkT prio 0 0 d 0 0 1) d) w':=by
 refine after_by C ht hc hl prio dl h0 h7 hd hn hdT (fun w1 b1=>?_)
 rw[hD]
 refine(timedW (C.below b1) t hl ho he prio 0 0 0 0 0 dl d hB h0 h7 (jb0 0 d 0) (by omega)).mono ?_
 rintro e w' ⟨rfl,F4,g4,v4,C4,G4⟩
 exact⟨_,_,rfl,rfl,F4,g4,v4,C4,(Gc.below F C.lw b1).trans G4⟩
end
section
variable {w w' u:World}{L i:Nat}{D:CAd}{F F':Nat→Nat→Prop}{g v:Value}{σ:CS}{x:Ta.TR}
theorem timed0(C:Co w L D F g v σ){t:Nat}(ht:t<σ.th)(hl:σ.T.length<200)(ho:σ.o<σ.n)(he:σ.ev.length+1<1000000)(hn:σ.qn≤1000)(htk:σ.tk<1000000)(prio f p e rr R m:Int)(h0:0≤prio)(h7:prio≤7)(hj:JbOk f p e rr R) :
  Calls Tryz.prog 40 #[pt D.B,.int .i64 t,.int .i64 prio,.slice none 0 0,.agg #[.int .u64 f,.int .u64 p,.int .u64 e,.int .u64 rr,.int .u64 m],.int .u64 0] w fun e' w'=>e'=.returned (.tuple #[.int .i64 ((σ.T.length:Int)+1),.int .i64 0])∧Cox L D F w (relS (mkS (crS σ) (Ta.mkT prio f p e R m 2)) t σ.T.length (Ta.mkT prio f p e R m 2)) w':=by
 obtain⟨K,hK⟩:∃J,w.heap.size=J:=⟨_,rfl⟩
 obtain⟨u,hu⟩:∃z,w.alloc (.cells #[.int .u64 f,.int .u64 p,.int .u64 e,.int .u64 rr,.int .u64 m] 100)=z:=⟨_,rfl⟩
 have b0:Below w.heap.size w u:=by rw[←hu];exact belA _ _
 have BK:Bx u F K #[.int .u64 f,.int .u64 p,.int .u64 e,.int .u64 rr,.int .u64 m] 100:=by rw[←hu,←hK];exact Bx.new C _ _
 have C0:=C.below b0
 have c7:u.cell? ⟨D.B,7,none⟩=some (pt D.ca):=C0.c7
 have P1:=C0.credC ho
 obtain⟨N1,hN1⟩:∃N1,(σ.T.length:Int)+1=N1:=⟨_,rfl⟩
 have HN1:Aside _:=hN1
 have HH:Aside (t<σ.th∧σ.T.length<200∧σ.ev.length+1<1000000∧σ.qn≤1000∧σ.tk<1000000∧0≤prio∧prio≤7∧JbOk f p e rr R):=⟨ht,hl,he,hn,htk,h0,h7,hj⟩
 have X0:Aside (Gc L F w F u∧Bx u F K #[.int .u64 f,.int .u64 p,.int .u64 e,.int .u64 rr,.int .u64 m] 100):=⟨Gc.below F C.lw b0,BK⟩
 have HU:Aside _:=hu
 have HK:Aside _:=hK
 rw[hN1]
 clear C C0 hu hK b0 ho BK hl he h0 h7 hj hN1 ht hn htk
 go_enter Tryz.func40,Tryz.ntmps40
 go_upto_region 1 with fail
 rw[HU.out]
 try simp only[HK.out]
 go_wp2_with fail
 refine P1.mono ?_
 rintro e1 w1 ⟨rfl,F1,g1,v1,C1,G1⟩
 have B1:=X0.out.2.gc mq_job G1
 have X1:Aside (Gc L F w F1 w1):=X0.out.1.trans G1
 have k0:w1.cell? ⟨K,0,none⟩=some (.int .u64 f):=B1.cell 0
 have k1:w1.cell? ⟨K,1,none⟩=some (.int .u64 p):=B1.cell 1
 have k2:w1.cell? ⟨K,2,none⟩=some (.int .u64 e):=B1.cell 2
 have k3:w1.cell? ⟨K,3,none⟩=some (.int .u64 rr):=B1.cell 3
 have k4:w1.cell? ⟨K,4,none⟩=some (.int .u64 m):=B1.cell 4
 have P2:=begin2 C1 (t:=t) HH.out.1 HH.out.2.1 HH.out.2.2.1 HH.out.2.2.2.1 HH.out.2.2.2.2.1 prio f p e rr R m HH.out.2.2.2.2.2.1 HH.out.2.2.2.2.2.2.1 HH.out.2.2.2.2.2.2.2
 rw[show(({σ with o:=σ.o+1,m:=max σ.m (σ.o+1)}:CS).T.length:Int)+1=N1 from HN1.out] at P2
 clear P1 C1 G1 c7 B1
 go_wp2_with fail
 refine P2.mono ?_
 rintro e2 w2 ⟨rfl,F2,g2,v2,C2,G2⟩
 have FIN:Aside (Cox L D F w (relS (mkS (crS σ) (Ta.mkT prio f p e R m 2)) t σ.T.length (Ta.mkT prio f p e R m 2)) w2):=⟨F2,g2,v2,C2,X1.out.trans G2⟩
 clear P2 k0 k1 k2 k3 k4 C2 G2
 go_wp2_with fail
 go_ret2
 exact⟨rfl,FIN.out⟩
theorem after0(C:Co w L D F g v σ){t:Nat}(ht:t<σ.th)(hc:σ.cl=false)(hl:σ.T.length<200)(ho:σ.o<σ.n)(he:σ.ev.length+1<1000000)(hn:σ.qn≤1000)(htk:σ.tk<1000000)(prio:Int)(h0:0≤prio)(h7:prio≤7) :
  Calls Tryz.prog 9 #[pt D.B,.int .i64 t,.int .i64 prio,.slice none 0 0,.int .u64 0] w fun e w'=>e=.returned (.tuple #[.int .i64 ((σ.T.length:Int)+1),.int .i64 0])∧Cox L D F w (subS σ t prio) w':=by
 have P1:=rightC C ht prio h0 h7
 have P3:=refuseC C hc hl
 obtain⟨K,hK⟩:∃J,w.heap.size=J:=⟨_,rfl⟩
 obtain⟨u,hu⟩:∃z,w.alloc (.cells #[.int .u64 0,.int .u64 0,.int .u64 0,.int .u64 0,.int .u64 0] 100)=z:=⟨_,rfl⟩
 have b0:Below w.heap.size w u:=by rw[←hu];exact belA _ _
 have BK:Bx u F K #[.int .u64 0,.int .u64 0,.int .u64 0,.int .u64 0,.int .u64 0] 100:=by rw[←hu,←hK];exact Bx.new C _ _
 have C0:=C.below b0
 have k0:u.cell? ⟨K,0,none⟩=some (.int .u64 0):=BK.cell 0
 have k1:u.cell? ⟨K,1,none⟩=some (.int .u64 0):=BK.cell 1
 have k2:u.cell? ⟨K,2,none⟩=some (.int .u64 0):=BK.cell 2
 have k3:u.cell? ⟨K,3,none⟩=some (.int .u64 0):=BK.cell 3
 have k4:u.cell? ⟨K,4,none⟩=some (.int .u64 0):=BK.cell 4
 have P5:=timed0 C0 (t:=t) ht hl ho he hn htk prio 0 0 0 0 0 0 h0 h7 (jb0 0 0 0)
 obtain⟨N1,hN1⟩:∃N1,(σ.T.length:Int)+1=N1:=⟨_,rfl⟩
 rw[hN1] at P5
 rw[hN1]
 have X0:Aside (Gc L F w F u):=Gc.below F C.lw b0
 have HU:Aside _:=hu
 have HK:Aside _:=hK
 clear C C0 hu hK b0 BK ht hc hl ho he hn htk h0 h7 hN1
 go_enter Tryz.func9,Tryz.ntmps9
 go_wp2_with fail
 refine P1.mono ?_
 rintro e w1 ⟨rfl,rfl⟩
 clear P1
 go_wp2_with fail
 refine P3.mono ?_
 rintro e w1 ⟨rfl,rfl⟩
 clear P3
 go_upto_region 5 with fail
 try simp only[HU.out,HK.out]
 go_wp2_with fail
 refine P5.mono ?_
 rintro e w2 ⟨rfl,F2,g2,v2,C2,G2⟩
 have FIN:Aside (Cox L D F w1 (subS σ t prio) w2):=⟨F2,g2,v2,C2,X0.out.trans G2⟩
 clear P5 C2 G2 k0 k1 k2 k3 k4
 go_wp2_with fail
 go_ret2
 exact⟨rfl,FIN.out⟩
end
section
variable {w w' u:World}{L i:Nat}{D:CAd}{F F':Nat→Nat→Prop}{g v:Value}{σ:CS}{x:Ta.TR}
theorem mq_tm:¬Qu.MQ 108:=by unfold Qu.MQ;decide
def OwT(w:World)(F:Nat→Nat→Prop)(v:Value)(d:List Wl.Ent):Prop:=Wl.OwnF w 0 v d∧∀k,Wl.rowB v=some k→∀p,¬F p k
theorem OwT.gc{v:Value}{d:List Wl.Ent}(h:OwT w F v d)(G:Gc L F w F' w'):OwT w' F' v d:=by
 refine⟨h.1.of_block fun k hk=>?_,fun k hk p hp=>?_⟩
 ·obtain⟨cs,hc⟩:=h.1.rowT hk
  exact((show Bx w F k cs 108 from⟨hc,h.2 k hk⟩).gc mq_tm G).1.trans hc.symm
 ·rcases G.new p k hp with e|e
  ·exact h.2 k hk p e
  ·have:=(h.1.rowLt hk).2;omega
theorem OwT.below{v:Value}{d:List Wl.Ent}(h:OwT w F v d)(b:Below w.heap.size w w'):OwT w' F v d:=⟨h.1.below b,h.2⟩
theorem OwT.at{n cap I:Nat}{a:Option Addr}{d:List Wl.Ent}(h:OwT w F (.slice a n cap) d)(hn:d.length=n)(hI:I<n):∃g off,a=some ⟨g,off,none⟩∧g<w.heap.size∧w.cell? ⟨g,off+I*2,none⟩=some (.int .u64 (d.getD I (0,0)).1)∧w.cell? ⟨g,off+I*2+1,none⟩=some (.int .i64 (d.getD I (0,0)).2):=by
 subst hn
 obtain⟨a',cap',e,_,_,_,il⟩:=h.1.isL
 injection e with e1 e2 e3
 subst e1 e3
 have hx:d[I]?=some (d.getD I (0,0)):=by rw[List.getD,List.getElem?_eq_getElem hI];rfl
 exact il.elem I _ hx
theorem Co.setWhlX(C:Co w L D F g v σ){X:Nat→Prop}{now:Nat}{T:List Wl.Ent}(h:Wl.Whl w' X D.Bw D.wb now T)(f0:Wl.Fr (F 3) w w')(hX:∀k,X k→F 3 k∨w.heap.size≤k):Co w' L D (fset F 3 X) g v {σ with now:=now,tm:=T}∧Gc L F w (fset F 3 X) w':=by
 have f:=ofW f0
 have K:=C.keepP (p:=3) (by omega) (by omega) f
 exact⟨⟨K.head (by simp),K.tab (by simp),K.que (by simp),h,K.dag (by simp),K.cre (by simp),K.evs (by simp),K.gon (by simp),C.f0,C.f2,C.f5,C.f6,C.f7,f8_set C.f8 (by omega),C.fp.set (by omega) f.size hX (fun k hk=>(h.low k hk).2) C.lw,Nat.le_trans C.lw f.size,Nat.le_trans C.wb f.size,C.qok,C.th1,C.th8,C.k16⟩,C.gcP (by omega) f hX⟩
theorem tabW_of{w w':World}(hT:Wl.TabW w)(b:Below L w w')(hL:1<L)(hlt:1<w.heap.size):Wl.TabW w':=fun j hj=>by
 rw[←hT j hj]
 exact World.cell?_of_block (b.block _ hL)
def tickS(σ:CS)(t:Int)(thn:Nat):CS:=tellS {σ with now:=thn,tm:=Wl.restL thn σ.tm} 8 t 0 0
def dueI(σ:CS)(thn:Nat):List Int:=(Wl.dueL thn σ.tm).map Prod.snd
theorem dueI_len(σ:CS)(thn:Nat):(dueI σ thn).length=(Wl.dueL thn σ.tm).length:=by simp[dueI]
theorem advC(C:Co w L D F g v σ){t:Nat}(ht:t<σ.th){n thn:Nat}(hn:Ta.IsT (n:Int))(hnow:Ta.IsT (σ.now:Int))(hadd:Ta.addT (σ.now:Int) (n:Int)=(thn:Int))(hle:σ.now≤thn)(hB:thn<Wl.B64)(hT:Wl.TabW w)(hb:1<D.wb)(hl:σ.ev.length+300<1000000)(hTl:σ.T.length≤200)(hq:σ.qn+σ.T.countP isW≤1000)(htk:σ.tk<1000000)(hw:∀x∈σ.tm,Wt σ.T x.2)(hnd:(σ.tm.map Prod.snd).Nodup) :
  Calls Tryz.prog 10 #[pt D.B,.int .i64 t,.int .u64 n] w fun e w'=>e=.returned (.tuple #[.int .i64 ((dueI σ thn).length:Nat),.int .i64 0])∧Cox L D F w (relL t (dueI σ thn) (tickS σ t thn)) w':=by
 have P1:=threadC C ht
 have c5:w.drew.cell? ⟨D.B,5,none⟩=some (pt D.Bw):=C.drew.c5
 have NW:Aside (Calls Tryz.prog 39 #[pt D.Bw] w.drew fun e w'=>e=.returned (.int .u64 σ.now)∧w'=w.drew):=Wl.now_any C.drew.whl
 have AD:Aside (∀W,Calls Tryz.prog 38 #[.int .u64 σ.now,.int .u64 n] W fun e w'=>e=.returned (.int .u64 thn)∧w'=W):=fun W=>by
  have:=Ta.Tk.add_any (σ.now:Int) (n:Int) W hnow hn
  rw[hadd] at this
  exact this
 obtain⟨nd,hnd'⟩:∃nd,(dueI σ thn).length=nd:=⟨_,rfl⟩
 have AV:Aside (Calls Tryz.prog 42 #[pt D.Bw,.int .u64 thn] w.drew fun e w'=>∃a cap F',e=.returned (.slice a nd cap)∧OwT w' F' (.slice a nd cap) (Wl.dueL thn σ.tm)∧(∃g' v',Co w' L D F' g' v' {σ with now:=thn,tm:=Wl.restL thn σ.tm})∧Gc L F w F' w'):=by
  have:=Wl.adv_own C.drew.whl hB (show Wl.TabW w.drew from hT) hb (show D.wb≤w.heap.size from C.wb)
  rw[Nat.max_eq_right hle] at this
  refine this.mono ?_
  rintro e w' ⟨v',rfl,o,X,h1,h2,h3,h4⟩
  obtain⟨C',G'⟩:=C.drew.setWhlX h1 h2 h3
  obtain⟨a,cap,e,_⟩:=o.isL
  subst e
  refine⟨a,cap,_,by rw[←hnd',dueI_len],?_,⟨_,_,C'⟩,(Gc.below F C.lw (Below.refl _ _).drew).trans G'⟩
  rw[←hnd',dueI_len]
  refine⟨o.low (Nat.zero_le _),fun k hk p hp=>?_⟩
  by_cases e:p=3
  ·subst e;rw[fset_same] at hp;exact(h4 k hk).2 hp
  ·rw[fset_ne _ _ e] at hp
   have:=C.fp.lt p k hp
   have:w.heap.size≤k:=(h4 k hk).1
   omega
 have HH:Aside (t<σ.th∧σ.ev.length+300<1000000∧σ.T.length≤200∧σ.qn+σ.T.countP isW≤1000∧σ.tk<1000000):=⟨ht,hl,hTl,hq,htk⟩
 have HD:Aside ((dueI σ thn).length=nd∧(dueI σ thn).Nodup∧∀j∈dueI σ thn,Wt (tickS σ t thn).T j):=by
  refine⟨hnd',?_,fun j hj=>?_⟩
  ·exact(List.Sublist.map _ (List.filter_sublist)).nodup hnd
  ·obtain⟨x,hx,rfl⟩:=List.mem_map.1 hj
   exact hw x (Wl.mem_due.1 hx).1
 have HN:Aside ((dueI σ thn).length≤σ.T.countP isW):=wt_len (dueI σ thn) (tickS σ t thn).T HD.out.2.1 HD.out.2.2
 have hn200:nd≤200:=by
  have h1:=HN.out
  have h2:=Ta.cntP_le isW σ.T
  have h4:=HD.out.1
  omega
 have hbt:Aside (∀W:World,W.cell? ⟨D.B,5,none⟩=some (pt D.Bw)→W.cell? ⟨D.B,5,none⟩=some (pt D.Bw)):=fun W h=>h
 have blt:=lt_of_block C.head
 rw[hnd']
 clear ht hn hnow hadd hle hB hT hb hl hTl hq htk hw hnd hnd' C
 go_enter Tryz.func10,Tryz.ntmps10
 go_wp2_with fail
 refine P1.mono ?_
 rintro e w1 ⟨rfl,rfl⟩
 clear P1
 go_upto_region 3 with fail
 go_region_held3 (fun W=>W.cell? ⟨D.B,5,none⟩=some (pt D.Bw)) (first|with_reducible exact c5|with_reducible exact d5) ((first|(go_at_call 42;(with_reducible refine Calls.mono AV.out ?_);rintro e w2 ⟨a,cap,F2,rfl,o2,⟨g2,v2,C2⟩,G2⟩;have d5:w2.cell? ⟨D.B,5,none⟩=some (pt D.Bw):=C2.c5)|(go_at_call 38;(with_reducible refine Calls.mono (AD.out _) ?_);rintro e v2 ⟨rfl,rfl⟩)|(go_at_call 39;(with_reducible refine Calls.mono NW.out ?_);rintro e v2 ⟨rfl,rfl⟩)))
 have P:=tellC C2 (show σ.ev.length<1000000 by have:=HH.out.2.1;omega) 8 t 0 0
 have X2:Aside (Gc L F w1 F2 w2∧OwT w2 F2 (.slice a nd cap) (Wl.dueL thn σ.tm)):=⟨G2,o2⟩
 clear C2 G2 o2 c5 d5 blt
 go_wp2_with fail
 refine P.mono ?_
 rintro e w3 ⟨rfl,⟨F3,g3,v3,C3,G3⟩,_⟩
 clear P
 obtain⟨τ,hτ⟩:∃τ:CS,tickS σ t thn=τ:=⟨_,rfl⟩
 have TQ:Aside (τ.T=σ.T∧τ.qn=σ.qn∧τ.ev.length=σ.ev.length+1∧τ.tk=σ.tk∧τ.th=σ.th):=by
  rw[←hτ]
  exact⟨rfl,rfl,by show(σ.ev++[_]).length=_;simp,rfl,rfl⟩
 have CT:Aside (Co w3 L D F3 g3 v3 τ):=by show Co w3 L D F3 g3 v3 τ;rw[←hτ];exact C3
 have X3:Aside (Gc L F w1 F3 w3∧OwT w3 F3 (.slice a nd cap) (Wl.dueL thn σ.tm)):=⟨X2.out.1.trans G3,X2.out.2.gc G3⟩
 have HT:Aside _:=hτ
 have HDT:Aside (∀j∈dueI σ thn,Wt τ.T j):=by show ∀j∈dueI σ thn,Wt τ.T j;rw[←hτ];exact HD.out.2.2
 have DL:Aside ((Wl.dueL thn σ.tm).length=nd):=by show(Wl.dueL thn σ.tm).length=nd;rw[←dueI_len];exact HD.out.1
 clear C3 G3 hτ X2
 go_wp2_with fail
 go_loopg [10,33] nd (fun kx s10 s33 wr=>∃(k:Nat),s33=.int .i64 k∧k≤nd∧nd-k≤kx∧∃Fr gr vr,Aside (Co wr L D Fr gr vr (relL t ((dueI σ thn).take k) τ))∧Aside (OwT wr Fr (.slice a nd cap) (Wl.dueL thn σ.tm))∧Aside (Gc L F w1 Fr wr))
 case atStart=>exact⟨0,rfl,by omega,by omega,F3,g3,v3,CT,X3.out.2,X3.out.1⟩
 case round=>
  obtain⟨k,rfl,hk,hkx,Fr,gr,vr,Cr,Or,Gr⟩:=hrel
  by_cases c:k<nd
  ·have hlt:(k:Int)<(nd:Int):=by omega
   obtain⟨gg,off,rfl,glt,hc0,hc1⟩:=Or.out.at DL.out c
   have hkd:k<(dueI σ thn).length:=by rw[HD.out.1];exact c
   have e2:((Wl.dueL thn σ.tm).getD k (0,0)).2=(dueI σ thn).getD k 0:=by
    unfold dueI
    rw[List.getD,List.getD,List.getElem?_map]
    cases (Wl.dueL thn σ.tm)[k]?<;>rfl
   obtain⟨z1,hz1⟩:∃z,((Wl.dueL thn σ.tm).getD k (0,0)).1=z:=⟨_,rfl⟩
   rw[hz1] at hc0
   rw[e2] at hc1
   obtain⟨kk,x,ej,hx,hs,hp⟩:=HDT.out _ (Da.getD_mem hkd)
   obtain⟨s1,q1,e1,T1⟩:=relL_inv t τ HD.out.2.1 HDT.out k (by omega)
   have hx':(relL t ((dueI σ thn).take k) τ).T[kk]?=some x:=(T1 kk (by rw[←ej];exact Da.nodup_take HD.out.2.1 hkd)).trans hx
   rw[ej] at hc1
   obtain⟨J,hJ⟩:∃J,wr.heap.size=J:=⟨_,rfl⟩
   obtain⟨I1,hI1⟩:∃I1,(kk:Int)+1=I1:=⟨_,rfl⟩
   obtain⟨u,hu⟩:∃q,wr.alloc (.cells #[.int .u64 z1,.int .i64 I1] 108)=q:=⟨_,rfl⟩
   have b0:Below wr.heap.size wr u:=by rw[←hu];exact belA _ _
   have hb:u.heap[J]?=some (.cells #[.int .u64 z1,.int .i64 I1] 108 (0,0)):=by rw[←hu,←hJ];exact heap_alloc_new wr _
   have P:=turn12 (Cr.out.below b0) (t:=t) (by have:=TQ.out.2.2.1;have:=HH.out.2.1;omega) (by have:=TQ.out.2.1;have:=HN.out;have:=HH.out.2.2.2.1;omega) (by rw[s1.tk,TQ.out.2.2.2.1];exact HH.out.2.2.2.2) (by rw[s1.th,TQ.out.2.2.2.2];exact HH.out.1) hx' hs hp
   rw[hI1] at P hc1
   have RL:Aside (relL t ((dueI σ thn).take (k+1)) τ=relS (turnS (relL t ((dueI σ thn).take k) τ) kk x 2) t kk (turnX x 2)):=by
    show _=_
    rw[relL_one t (dueI σ thn) τ k hkd,ej,relStep_at t _ kk x hx']
   have X0:Aside (Gc L F w1 Fr u∧OwT u Fr (.slice (some ⟨gg,off,none⟩) nd cap) (Wl.dueL thn σ.tm)):=⟨Gr.out.trans (Gc.below Fr Cr.out.lw b0),Or.out.below b0⟩
   have u1:u.cell? ⟨J,1,none⟩=some (.int .i64 I1):=by rw[cell_of_row _ _ _ _ _ _ hb];rfl
   have ult:=lt_of_block hb
   have HU:Aside _:=hu
   have HJ:Aside _:=hJ
   clear hx hx' hs hp s1 q1 e1 T1 ej hkd hI1 hu hJ b0 hb e2 hz1
   go_upto_region 8 with fail
   try rw[HU.out]
   try simp only[HJ.out]
   go_wp2_with fail
   refine P.mono ?_
   rintro e w4 ⟨rfl,F4,g4,v4,C4,G4⟩
   have C4':Aside (Co w4 L D F4 g4 v4 (relL t ((dueI σ thn).take (k+1)) τ)):=by
    show Co w4 L D F4 g4 v4 (relL t ((dueI σ thn).take (k+1)) τ)
    rw[RL.out];exact C4
   have O4:Aside (OwT w4 F4 (.slice (some ⟨gg,off,none⟩) nd cap) (Wl.dueL thn σ.tm)):=X0.out.2.gc G4
   have X4:Aside (Gc L F w1 F4 w4):=X0.out.1.trans G4
   clear P C4 G4 hc0 hc1 RL u1 ult
   go_wp2_with fail
   go_roundg (nd-(k+1))
   case measure=>omega
   case rel=>exact⟨k+1,by go_num,by omega,Nat.le_refl _,F4,g4,v4,C4',O4,X4⟩
  ·have hnl:¬(k:Int)<(nd:Int):=by omega
   have FIN:Aside (Cox L D F w1 (relL t (dueI σ thn) (tickS σ t thn)) wr):=by
    refine⟨Fr,gr,vr,?_,Gr.out⟩
    have:=Cr.out
    rw[List.take_of_length_le (by rw[HD.out.1];omega)] at this
    rw[HT.out]
    exact this
   clear hk hkx
   go_wp2_with fail
   go_ret2
   exact⟨rfl,FIN.out⟩
end
section
variable {σ:CS}{i n was now t:Nat}{dl:Nat→Nat}
theorem relL_T(t:Nat):∀(d:List Int)(σ:CS),d.Nodup→(∀j∈d,Wt σ.T j)→∀k:Nat,(((k:Int)+1)∉d→(relL t d σ).T[k]?=σ.T[k]?)∧(((k:Int)+1)∈d→∀x,σ.T[k]?=some x→∃y,(relL t d σ).T[k]?=some y∧y.s=2∧y.p=x.p)
 | [],σ,_,_,k=>⟨fun _=>rfl,fun h=>by simp at h⟩
 | j::d,σ,hn,hw,k=>by
  obtain⟨h1,h2⟩:=List.nodup_cons.1 hn
  obtain⟨kk,x,ej,hx,hs,hp⟩:=hw j (by simp)
  have e:relL t (j::d) σ=relL t d (relStep t σ j):=rfl
  have eS:relStep t σ j=relS (turnS σ kk x 2) t kk (turnX x 2):=by rw[ej];exact relStep_at t σ kk x hx
  have hkl:kk<σ.T.length:=(List.getElem?_eq_some_iff.1 hx).1
  have oth:∀k':Nat,k'≠kk→(relStep t σ j).T[k']?=σ.T[k']?:=fun k' hk'=>by
   rw[eS,relS_T]
   show((σ.T.set kk _).set kk _)[k']?=_
   rw[List.getElem?_set_ne (fun h=>hk' h.symm),List.getElem?_set_ne (fun h=>hk' h.symm)]
  have hw':∀j'∈d,Wt (relStep t σ j).T j':=fun j' hj'=>by
   obtain⟨k',x',ej',hx',hs',hp'⟩:=hw j' (by simp[hj'])
   exact⟨k',x',ej',by rw[oth k' (fun h=>h1 (by rw[ej,←h,←ej'];exact hj'))];exact hx',hs',hp'⟩
  obtain⟨a,b⟩:=relL_T t d (relStep t σ j) h2 hw' k
  rw[e]
  refine⟨fun h=>?_,fun h y hy=>?_⟩
  ·have hk:k≠kk:=fun hk=>h (by rw[ej,hk];simp)
   rw[a (fun hd=>h (by simp[hd])),oth k hk]
  ·by_cases hk:k=kk
   ·subst hk
    rw[hx] at hy
    injection hy with hy
    subst hy
    refine⟨{turnX x 2 with key:=keyS (turnS σ k x 2) (turnX x 2)},?_,(turnX_key x 2).2.2.1,(turnX_key x 2).2.2.2⟩
    rw[a (by rw[←ej];exact h1),eS,relS_T]
    show((σ.T.set k _).set k _)[k]?=_
    rw[List.getElem?_set_self (by simp;exact hkl)]
   ·have hd:((k:Int)+1)∈d:=by
     rcases List.mem_cons.1 h with h|h
     ·exact absurd (by rw[ej] at h;omega) hk
     ·exact h
    exact b hd y (by rw[oth k hk];exact hy)
structure TI(σ:CS)(dl:Nat→Nat)(i now:Nat):Prop where
 th:σ.th=1
 n:σ.n=64
 cl:σ.cl=false
 tk:σ.tk=0
 nw:σ.now=now
 len:σ.T.length=i
 o:σ.o=i
 at':∀k,k<i→∃x,σ.T[k]?=some x∧0≤x.p∧x.s=if dl k≤now then 2 else 1
 tm:∀v id,(v,id)∈σ.tm↔∃k,k<i∧id=(k:Int)+1∧v=(dl k:Int)∧now<dl k
 ids:(σ.tm.map Prod.snd).Nodup
 tl:σ.tm.length≤i
theorem TI.new(dl:Nat→Nat):TI (newS 1 16 64) dl 0 0:=by
 refine⟨rfl,rfl,rfl,rfl,rfl,rfl,rfl,fun k hk=>absurd hk (Nat.not_lt_zero _),fun v id=>?_,List.nodup_nil,Nat.le_refl _⟩
 show(v,id)∈[]↔_
 constructor
 ·intro h;simp at h
 ·rintro⟨k,hk,_⟩;omega
theorem app_at{α:Type}{l:List α}{x y:α}{k:Nat}(h:l[k]?=some x):(l++[y])[k]?=some x:=by
 rw[List.getElem?_append_left (List.getElem?_eq_some_iff.1 h).1];exact h
theorem TI.wait(h:TI σ dl i now)(hd:now<dl i)(hi:i<1000):TI (timS σ (Ta.mkT 0 0 0 (dl i) 0 0 1) (dl i)) dl (i+1) now:=by
 have ha:Wl.addR σ.tm ((i:Int)+1)=0:=by
  unfold Wl.addR
  have hn:Wl.dueOf σ.tm ((i:Int)+1)=none:=by
   cases e:Wl.dueOf σ.tm ((i:Int)+1) with
   | none=>rfl
   | some v=>
    obtain⟨k,hk,e1,_⟩:=(h.tm _ _).1 (Wl.dueOf_some e)
    omega
  have htl:=h.tl
  rw[if_neg (by omega),hn,if_neg (by simp),if_neg (by omega)]
 have etm:(timS σ (Ta.mkT 0 0 0 (dl i) 0 0 1) (dl i)).tm=Wl.insL σ.tm ((dl i:Int),(i:Int)+1):=by
  show Wl.addT σ.tm ((σ.T.length:Int)+1) (dl i)=_
  rw[h.len]
  unfold Wl.addT
  rw[if_pos ha]
 have fresh:∀v,(v,(i:Int)+1)∉σ.tm:=fun v hv=>by
  obtain⟨k,hk,e,_⟩:=(h.tm _ _).1 hv
  omega
 refine⟨h.th,h.n,h.cl,h.tk,h.nw,?_,?_,fun k hk=>?_,fun v id=>?_,?_,by rw[etm,Wl.insL_len];have:=h.tl;omega⟩
 ·show(σ.T++[_]).length=_
  simp[h.len]
 ·show σ.o+1=i+1
  rw[h.o]
 ·show ∃x,(σ.T++[_])[k]?=some x∧_
  by_cases e:k=i
  ·subst e
   refine⟨_,by rw[←h.len];simp;rfl,Int.le_refl _,?_⟩
   rw[if_neg (by omega)]
   rfl
  ·obtain⟨x,hx,h1,h2⟩:=h.at' k (by omega)
   exact⟨x,app_at hx,h1,h2⟩
 ·rw[etm,(Wl.insL_perm _ _).mem_iff,List.mem_cons,h.tm]
  constructor
  ·rintro(e|⟨k,hk,e1,e2,e3⟩)
   ·injection e with e1 e2
    exact⟨i,by omega,e2,e1,hd⟩
   ·exact⟨k,by omega,e1,e2,e3⟩
  ·rintro⟨k,hk,e1,e2,e3⟩
   by_cases e:k=i
   ·subst e;exact .inl (by rw[e1,e2])
   ·exact .inr ⟨k,by omega,e1,e2,e3⟩
 ·rw[etm,((Wl.insL_perm _ _).map Prod.snd).nodup_iff,List.map_cons,List.nodup_cons]
  refine⟨fun hm=>?_,h.ids⟩
  obtain⟨x,hx,e⟩:=List.mem_map.1 hm
  exact fresh x.1 (by rw[←show x.2=(i:Int)+1 from e];exact hx)
theorem TI.here(h:TI σ dl i now)(hd:dl i≤now):TI (subS σ 0 0) dl (i+1) now:=by
 have eT:(subS σ 0 0).T=σ.T++[{Ta.mkT 0 0 0 0 0 0 2 with key:=keyS (mkS (crS σ) (Ta.mkT 0 0 0 0 0 0 2)) (Ta.mkT 0 0 0 0 0 0 2)}]:=by
  show(σ.T++[_]).set σ.T.length _=_
  rw[List.set_append_right _ _ (Nat.le_refl _),Nat.sub_self]
  rfl
 refine⟨h.th,h.n,h.cl,h.tk,h.nw,?_,?_,fun k hk=>?_,fun v id=>?_,h.ids,Nat.le_succ_of_le h.tl⟩
 ·rw[eT];simp[h.len]
 ·show σ.o+1=i+1
  rw[h.o]
 ·rw[eT]
  by_cases e:k=i
  ·subst e
   refine⟨_,by rw[←h.len];simp;rfl,Int.le_refl _,?_⟩
   rw[if_pos hd]
   rfl
  ·obtain⟨x,hx,h1,h2⟩:=h.at' k (by omega)
   exact⟨x,app_at hx,h1,h2⟩
 ·show(v,id)∈σ.tm↔_
  rw[h.tm]
  constructor
  ·rintro⟨k,hk,e1,e2,e3⟩;exact⟨k,by omega,e1,e2,e3⟩
  ·rintro⟨k,hk,e1,e2,e3⟩
   refine⟨k,?_,e1,e2,e3⟩
   have:k≠i:=fun e=>by subst e;omega
   omega
def cntW(dl:Nat→Nat)(was now n:Nat):Nat:=((List.range n).filter fun k=>decide (was<dl k∧dl k≤now)).length
theorem cntW_up(dl:Nat→Nat)(was now n:Nat):cntW dl was now (n+1)=cntW dl was now n+if was<dl n∧dl n≤now then 1 else 0:=by
 unfold cntW
 rw[List.range_succ,List.filter_append,List.length_append]
 by_cases c:was<dl n∧dl n≤now<;>simp[c]
theorem TI.mem(h:TI σ dl n was)(j:Int):j∈dueI σ now↔∃k,k<n∧j=(k:Int)+1∧was<dl k∧dl k≤now:=by
 unfold dueI
 rw[List.mem_map]
 constructor
 ·rintro⟨⟨v,id⟩,hx,rfl⟩
  obtain⟨h1,h2⟩:=Wl.mem_due.1 hx
  obtain⟨k,hk,e1,e2,e3⟩:=(h.tm _ _).1 h1
  have h2:v≤(now:Int):=h2
  exact⟨k,hk,e1,e3,by omega⟩
 ·rintro⟨k,hk,rfl,h1,h2⟩
  exact⟨((dl k:Int),(k:Int)+1),Wl.mem_due.2 ⟨(h.tm _ _).2 ⟨k,hk,rfl,rfl,h1⟩,by show(dl k:Int)≤_;omega⟩,rfl⟩
theorem TI.dueN(h:TI σ dl n was)(now:Nat):(dueI σ now).Nodup:=(List.Sublist.map _ (List.filter_sublist)).nodup h.ids
theorem TI.count(h:TI σ dl n was)(now:Nat):(dueI σ now).length=cntW dl was now n:=by
 have hn:(((List.range n).filter fun k=>decide (was<dl k∧dl k≤now)).map fun(k:Nat)=>((k:Int)+1)).Nodup:=by
  exact List.Pairwise.map _ (fun(a b:Nat)(hab:a≠b)(e:(a:Int)+1=(b:Int)+1)=>hab (by omega)) ((List.filter_sublist).nodup List.nodup_range)
 have hp:(dueI σ now).Perm (((List.range n).filter fun k=>decide (was<dl k∧dl k≤now)).map fun(k:Nat)=>((k:Int)+1)):=by
  refine(List.perm_ext_iff_of_nodup (h.dueN now) hn).2 fun j=>?_
  rw[h.mem]
  simp only[List.mem_map,List.mem_filter,List.mem_range,decide_eq_true_eq]
  constructor
  ·rintro⟨k,hk,rfl,h1,h2⟩;exact⟨k,⟨hk,h1,h2⟩,rfl⟩
  ·rintro⟨k,⟨hk,h1,h2⟩,rfl⟩;exact⟨k,hk,rfl,h1,h2⟩
 rw[hp.length_eq,List.length_map]
 rfl
theorem TI.wt(h:TI σ dl n was):∀x∈σ.tm,Wt σ.T x.2:=fun x hx=>by
 obtain⟨k,hk,e1,e2,e3⟩:=(h.tm x.1 x.2).1 hx
 obtain⟨y,hy,hp,hs⟩:=h.at' k hk
 rw[if_neg (by omega)] at hs
 exact⟨k,y,e1,hy,hs,hp⟩
theorem TI.adv(h:TI σ dl n was)(hle:was≤now):TI (relL 0 (dueI σ now) (tickS σ 0 now)) dl n now:=by
 have hw:∀j∈dueI σ now,Wt (tickS σ 0 now).T j:=fun j hj=>by
  obtain⟨x,hx,rfl⟩:=List.mem_map.1 hj
  exact h.wt x (Wl.mem_due.1 hx).1
 obtain⟨s,q,e,T⟩:=relL_inv 0 (tickS σ 0 now) (h.dueN now) hw _ (Nat.le_refl _)
 rw[List.take_length] at s
 refine⟨s.th.trans h.th,s.n.trans h.n,s.cl.trans h.cl,s.tk.trans h.tk,s.now,s.len.trans h.len,s.o.trans h.o,fun k hk=>?_,fun v id=>?_,?_,by rw[s.tm];exact Nat.le_trans (List.length_filter_le _ _) h.tl⟩
 ·obtain⟨x,hx,hp,hs⟩:=h.at' k hk
  obtain⟨a,b⟩:=relL_T 0 (dueI σ now) (tickS σ 0 now) (h.dueN now) hw k
  by_cases c:was<dl k∧dl k≤now
  ·obtain⟨y,hy,ys,yp⟩:=b ((h.mem _).2 ⟨k,hk,rfl,c.1,c.2⟩) x hx
   exact⟨y,hy,by rw[yp];exact hp,by rw[ys,if_pos c.2]⟩
  ·refine⟨x,(a (fun hj=>?_)).trans hx,hp,?_⟩
   ·obtain⟨k',_,e,h1,h2⟩:=(h.mem _).1 hj
    have:k=k':=by omega
    subst this
    exact c ⟨h1,h2⟩
   ·rw[hs]
    by_cases d1:dl k≤was
    ·rw[if_pos d1,if_pos (by omega)]
    ·rw[if_neg d1,if_neg (fun d2=>c ⟨by omega,d2⟩)]
 ·rw[s.tm]
  show(v,id)∈Wl.restL now σ.tm↔_
  rw[Wl.mem_rest,h.tm]
  constructor
  ·rintro⟨⟨k,hk,e1,e2,e3⟩,h2⟩
   have h2:(now:Int)<v:=h2
   exact⟨k,hk,e1,e2,by omega⟩
  ·rintro⟨k,hk,e1,e2,e3⟩
   exact⟨⟨k,hk,e1,e2,by omega⟩,by show(now:Int)<v;omega⟩
 ·rw[s.tm]
  exact(List.Sublist.map _ (List.filter_sublist)).nodup h.ids
end
section
variable {w w' u:World}{L i:Nat}{D:CAd}{F F':Nat→Nat→Prop}{g v:Value}{σ:CS}{x:Ta.TR}
theorem finC(C:Co w L D F g v σ){t:Nat}(ht:t<σ.th)(hi:σ.T[i]?=some x)(hs:x.s=3)(hp:x.p=0)(hid:Da.wfI ((i:Int)+1))(hN:σ.N<1000000)(hl:σ.ev.length+300<1000000)(hT:σ.T.length≤200)(hq:σ.qn+σ.T.countP isW≤1000)(htk:σ.tk<1000000)(hw:∀j,σ.E ((i:Int)+1) j→(∀q,σ.E q j→q=(i:Int)+1)→Wt σ.T j) :
  Calls Tryz.prog 16 #[pt D.B,.int .i64 t,.int .i64 ((i:Int)+1),.bool true] w fun e w'=>e=.returned (.int .i64 0)∧∃d,DoneL σ.E ((i:Int)+1) d∧Cox L D F w (relL t d {endS (turnS σ i x 4) t ((i:Int)+1) with E:=fun q j=>σ.E q j∧q≠(i:Int)+1}) w':=by
 have P1:=threadC C ht
 have P2:=taskC C hi (by omega)
 have P6:Aside (∀(W:World) F3 g3 v3,Co W L D F3 g3 v3 σ→Calls Tryz.prog 44 #[pt D.B,.int .i64 t,.int .i64 ((i:Int)+1),.int .i64 4] W fun e w'=>e=.returned (.tuple #[])∧∃d,DoneL σ.E ((i:Int)+1) d∧Cox L D F3 W (relL t d {endS (turnS σ i x 4) t ((i:Int)+1) with E:=fun q j=>σ.E q j∧q≠(i:Int)+1}) w'):=fun W F3 g3 v3 C3=>turn34 C3 ht hi hs (by omega) hid hN hl hT hq htk hw
 have HH:Aside (σ.T[i]?=some x∧x.s=3∧x.p=0):=⟨hi,hs,hp⟩
 clear C ht hi hs hp hid hN hl hT hq htk hw
 go_enter Tryz.func16,Tryz.ntmps16
 go_wp2_with fail
 refine P1.mono ?_
 rintro e w1 ⟨rfl,rfl⟩
 clear P1
 go_wp2_with fail
 refine P2.mono ?_
 rintro e w2 ⟨rfl,F2,g2,v2,C2,G2⟩
 clear P2
 have P:=statusC C2 HH.out.1
 rw[HH.out.2.1] at P
 have X2:Aside (Gc L F w1 F2 w2):=G2
 clear C2 G2
 go_wp2_with fail
 refine P.mono ?_
 rintro e w3 ⟨rfl,F3,g3,v3,C3,G3⟩
 clear P
 have C3d:=C3.drew
 have X3:Aside (Gc L F w1 F3 w3.drew∧Co w3.drew L D F3 g3 v3 σ):=⟨(X2.out.trans G3).trans (Gc.below F3 C3.lw (Below.refl _ _).drew),C3d⟩
 have c3:w3.drew.cell? ⟨D.B,3,none⟩=some (pt D.Bt):=C3d.c3
 have c5:w3.drew.cell? ⟨D.B,5,none⟩=some (pt D.Bw):=C3d.c5
 have NW:Aside (Calls Tryz.prog 39 #[pt D.Bw] w3.drew fun e w'=>e=.returned (.int .u64 σ.now)∧w'=w3.drew):=Wl.now_any C3d.whl
 have AG:Aside (Calls Tryz.prog 62 #[pt D.Bt,.int .i64 ((i:Int)+1),.int .u64 σ.now] w3.drew fun e w'=>e=.returned (.tuple #[.int .u64 0,.bool false])∧Below w3.drew.heap.size w3.drew w'∧w'.cell? ⟨D.B,3,none⟩=some (pt D.Bt)∧w'.cell? ⟨D.B,5,none⟩=some (pt D.Bw)):=by
  refine(Ta.againZ C3d.tab HH.out.1 σ.now HH.out.2.2).mono ?_
  rintro e w' ⟨rfl,b⟩
  exact⟨rfl,b,(C3d.below b).c3,(C3d.below b).c5⟩
 clear C3 C3d G3 X2
 go_upto_region 5 with fail
 go_region_held3 (fun w'=>w'.cell? ⟨D.B,3,none⟩=some (pt D.Bt)∧w'.cell? ⟨D.B,5,none⟩=some (pt D.Bw)) (first|with_reducible exact⟨c3,c5⟩|with_reducible exact⟨d3,d5⟩) ((first|(go_at_call 39;(with_reducible refine Calls.mono NW.out ?_);rintro e v2 ⟨rfl,rfl⟩)|(go_at_call 62;(with_reducible refine Calls.mono AG.out ?_);rintro e w4 ⟨rfl,b4,d3,d5⟩)))
 have C4:=X3.out.2.below b4
 have P:=P6.out w4 F3 g3 v3 C4
 have X4:Aside (Gc L F w1 F3 w4):=X3.out.1.trans (Gc.below F3 X3.out.2.lw b4)
 clear C4 b4 c3 c5 d3 d5
 go_wp2_with fail
 refine P.mono ?_
 rintro e w5 ⟨rfl,d,dl,F5,g5,v5,C5,G5⟩
 have FIN:Aside (∃d,DoneL σ.E ((i:Int)+1) d∧Cox L D F w1 (relL t d {endS (turnS σ i x 4) t ((i:Int)+1) with E:=fun q j=>σ.E q j∧q≠(i:Int)+1}) w5):=⟨d,dl,F5,g5,v5,C5,X4.out.trans G5⟩
 clear P C5 G5 X4 dl
 go_wp2_with fail
 go_ret
 exact⟨rfl,FIN.out⟩
end
end Go.Proofs.YtdboknkfhbhniaaGreatDoor
