import Derived.Test.YthpgfmmpjoodkaaGreatDoorCoC
import Derived.Test.YthpgfmmpjoodkaaGreatDoorWWhXc
open Nat(le_of_eq le_trans)
namespace Go.Proofs.YthpgfmmpjoodkaaGreatDoor
set_option linter.unusedSimpArgs false
set_option maxHeartbeats 8000000
set_option maxRecDepth 100000
set_option linter.unusedVariables false
open Go.RowKit Go.Lib Go.WideMaps Go.Maps
section
variable {w w' u:World}{L i:Nat}{D:CAd}{F F':Nat->Nat->Prop}{g v:Value}{σ:CS}{x:Ta.TR}
def crS(σ:CS):CS:={σ with o:=σ.o+1,m:=max σ.m (σ.o+1)}
def subS(σ:CS)(t:Nat)(prio:Int):CS:=relS (mkS (crS σ) (Ta.mkT prio 0 0 0 0 0 2)) t σ.T.length (Ta.mkT prio 0 0 0 0 0 2)
theorem jb0(f d rr:Int):JbOk f 0 d rr 0:=.inl ⟨rfl,rfl⟩
theorem subC(C:Co w L D F g v σ){t:Nat}(ht:t<σ.th)(hc:σ.cl=false)(hl:σ.T.length<200)(ho:σ.o<σ.n)(he:σ.ev.length+1<1000000)(hn:σ.qn<=1000)(htk:σ.tk<1000000)(prio:Int)(h0:0<=prio)(h7:prio<=7) :
  Calls Tryz.prog 9 #[pt D.B,.int .i64 t,.int .i64 prio,.slice none 0 0,.slice none 0 0] w fun e w'=>e=.returned (.tuple #[.int .i64 ((σ.T.length:Int)+1),.int .i64 0])/\Cox L D F w (subS σ t prio) w':=by
 have P1:=rightC C ht prio h0 h7;have P2:=areNil D.B w;have P3:=refuseC C hc hl;have c7:=C.c7;have P4:=C.credC ho;have HH:Aside (t<σ.th/\σ.T.length<200/\σ.ev.length+1<1000000/\σ.qn<=1000/\σ.tk<1000000/\0<=prio/\prio<=7):=⟨ht,hl,he,hn,htk,h0,h7⟩;obtain⟨N1,hN1⟩:∃N1,(σ.T.length:Int)+1=N1:=⟨_,rfl⟩;have HN1:Aside _:=hN1;rw[hN1];clear C ht hl he hn htk h0 h7 hc ho hN1;go_enter Tryz.func9,Tryz.ntmps9
 go_wp2_with fail
 refine P1.mono ?_;rintro e w1 ⟨rfl,rfl⟩;clear P1
 go_wp2_with fail
 refine P2.mono ?_;rintro e w1 ⟨rfl,rfl⟩;clear P2
 go_wp2_with fail
 refine P3.mono ?_;rintro e w1 ⟨rfl,rfl⟩;clear P3
 go_wp2_with fail
 refine(contNil _ _).mono ?_;rintro e w1 ⟨rfl,rfl⟩
 go_wp2_with fail
 refine P4.mono ?_;rintro e w2 ⟨rfl,F2,g2,v2,C2,G2⟩;clear P4 c7;have X2:Aside (Gc L F w1 F2 w2):=G2;have P5:=begin2 C2 (t:=t) HH.out.1 HH.out.2.1 HH.out.2.2.1 HH.out.2.2.2.1 HH.out.2.2.2.2.1 prio 0 0 0 0 0 0 HH.out.2.2.2.2.2.1 HH.out.2.2.2.2.2.2 (jb0 0 0 0);rw[show(({σ with o:=σ.o+1,m:=max σ.m (σ.o+1)}:CS).T.length:Int)+1=N1 from HN1.out] at P5;clear C2 G2
 go_wp2_with fail
 refine(notNil D.B _).mono ?_;rintro e w3 ⟨rfl,rfl⟩
 go_wp2_with fail
 refine P5.mono ?_;rintro e w4 ⟨rfl,F4,g4,v4,C4,G4⟩;have FIN:Aside (Cox L D F w1 (subS σ t prio) w4):=⟨F4,g4,v4,C4,X2.out.trans G4⟩;clear P5 C4 G4
 go_wp2_with fail
 go_ret2;exact⟨rfl,FIN.out⟩
theorem taskC(C:Co w L D F g v σ)(hi:σ.T[i]?=some x)(hs:x.s≠0) :
  Calls Tryz.prog 58 #[pt D.B,.int .i64 ((i:Int)+1)] w fun e w'=>e=.returned (.bool true)/\Cox L D F w σ w':=by
 have P:=statusC C hi;obtain⟨s,hs'⟩:∃s,x.s=s:=⟨_,rfl⟩;rw[hs'] at P hs;have hb:(s != 0)=true:=by simpa using hs
 clear C hi hs' hs;go_enter Tryz.func58,Tryz.ntmps58
 go_wp2_with fail
 refine P.mono ?_;rintro e w1 ⟨rfl,C1⟩;have FIN:Aside _:=C1;clear P C1
 go_wp2_with fail
 go_ret;exact⟨rfl,FIN.out⟩
theorem turn34(C:Co w L D F g v σ){t:Nat}(ht:t<σ.th)(hi:σ.T[i]?=some x)(hs:x.s=3)(hp:0<=x.p)(hid:Da.wfI ((i:Int)+1))(hN:σ.N<1000000)(hl:σ.ev.length+300<1000000)(hT:σ.T.length<=200)(hq:σ.qn+σ.T.countP isW<=1000)(htk:σ.tk<1000000)(hw:∀j,σ.E ((i:Int)+1) j->(∀q,σ.E q j->q=(i:Int)+1)->Wt σ.T j) :
  Calls Tryz.prog 60 #[pt D.B,.int .i64 t,.int .i64 ((i:Int)+1),.int .i64 4] w fun e w'=>e=.returned (.tuple #[])/\∃d,DoneL σ.E ((i:Int)+1) d/\Cox L D F w (relL t d {endS (turnS σ i x 4) t ((i:Int)+1) with E:=fun q j=>σ.E q j/\q≠(i:Int)+1}) w':=by
 refine(turn_byZ C t hi hs hp (by decide) (Z:=fun τ=>∃d,DoneL σ.E ((i:Int)+1) d/\τ=relL t d {endS (turnS σ i x 4) t ((i:Int)+1) with E:=fun q j=>σ.E q j/\q≠(i:Int)+1}) (fun F1 g1 v1 w1 C1=>?_)).mono ?_
 ·refine follow_34 D.B t ((i:Int)+1) w1 (fun w2 b2=>?_)
  have hx:σ.T.countP isW=(σ.T.set i (turnX x 4)).countP isW:=by
   have:=Ta.cntP_set isW σ.T i x (turnX x 4) hi;have e1:isW x=false:=by simp[isW,hs]
   have e2:isW (turnX x 4)=false:=by simp[isW,(turnX_key x 4).2.2.1]
   rw[e1,e2] at this;simpa using this.symm
  refine(endC (C1.below b2) ht hid hN hl (by show(σ.T.set i _).length<=200;simpa using hT) (by show σ.qn+(σ.T.set i _).countP isW<=1000;rw[<-hx];exact hq) htk (fun j h1 h2=>?_)).mono ?_
  ·obtain⟨k,y,e1,e2,e3,e4⟩:=hw j h1 h2;refine⟨k,y,e1,?_,e3,e4⟩;show(σ.T.set i _)[k]?=some y;rw[List.getElem?_set_ne (fun e=>?_)]
   ·exact e2
   ·rw[<-e,hi] at e2;injection e2 with e2
    rw[e2] at hs;omega
  ·rintro e w3 ⟨rfl,d,dl,F3,g3,v3,C3,G3⟩;exact⟨rfl,_,⟨d,dl,rfl⟩,F3,g3,v3,C3,(Gc.below F1 C1.lw b2).trans G3⟩
 ·rintro e w' ⟨rfl,τ,⟨d,dl,rfl⟩,X⟩;exact⟨rfl,d,dl,X⟩
theorem claimC(C:Co w L D F g v σ){t:Nat}(ht:t<σ.th)(hi:σ.T[i]?=some x)(hs:x.s=2)(hp:0<=x.p)(hl:σ.ev.length<1000000)(hn:σ.qn<=1000)(htk:σ.tk<1000000) :
  Calls Tryz.prog 12 #[pt D.B,.int .i64 t,.agg #[.int .u64 x.key,.int .i64 ((i:Int)+1)]] w fun e w'=>e=.returned (.int .i64 0)/\Cox L D F w (handS (turnS σ i x 3) t i (turnX x 3)) w':=by
 obtain⟨K,hK⟩:∃J,w.heap.size=J:=⟨_,rfl⟩;obtain⟨KY,hKY⟩:∃J,x.key=J:=⟨_,rfl⟩;obtain⟨I1,hI1⟩:∃J,(i:Int)+1=J:=⟨_,rfl⟩;obtain⟨u,hu⟩:∃z,w.alloc (.cells #[.int .u64 KY,.int .i64 I1] 36)=z:=⟨_,rfl⟩;have b0:Below w.heap.size w u:=by rw[<-hu];exact belA _ _
 have BK:Bx u F K #[.int .u64 KY,.int .i64 I1] 36:=by rw[<-hu,<-hK];exact Bx.new C _ _
 have C0:=C.below b0;have P1:=threadC C0 ht;have P2:=taskC C0 hi (by omega);rw[hI1] at P2;have k1:u.cell? ⟨K,1,none⟩=some (.int .i64 I1):=BK.cell 1;have HH:Aside (t<σ.th/\σ.T[i]?=some x/\x.s=2/\0<=x.p/\σ.ev.length<1000000/\σ.qn<=1000/\σ.tk<1000000/\x.key=KY/\(i:Int)+1=I1):=⟨ht,hi,hs,hp,hl,hn,htk,hKY,hI1⟩;have X0:Aside (Gc L F w F u/\Bx u F K #[.int .u64 KY,.int .i64 I1] 36):=⟨Gc.below F C.lw b0,BK⟩;have HU:Aside _:=hu;have HK:Aside _:=hK;rw[hKY,hI1];clear C C0 ht hi hs hp hl hn htk hKY hI1 hu hK BK b0;go_enter Tryz.func12,Tryz.ntmps12
 go_upto_region 1 with fail
 rw[HU.out];try simp only[HK.out]
 go_wp2_with fail
 refine P1.mono ?_;rintro e w1 ⟨rfl,rfl⟩;clear P1
 go_wp2_with fail
 refine P2.mono ?_;rintro e w2 ⟨rfl,F2,g2,v2,C2,G2⟩;clear P2 k1;have B2:=X0.out.2.gc mq_ent G2;have X2:Aside (Gc L F w F2 w2.drew/\Bx w2.drew F2 K #[.int .u64 KY,.int .i64 I1] 36):=⟨(X0.out.1.trans G2).trans (Gc.below F2 C2.lw (Below.refl _ _).drew),B2⟩;have k0:w2.drew.cell? ⟨K,0,none⟩=some (.int .u64 KY):=B2.cell 0;have k1:w2.drew.cell? ⟨K,1,none⟩=some (.int .i64 I1):=B2.cell 1
 have PS:Aside (Calls Tryz.prog 10 #[pt D.B,.int .i64 I1] w2.drew fun e w'=>e=.returned (.int .i64 2)/\∃F',(∃g' v',Co w' L D F' g' v' σ)/\Gc L F w F' w'/\Bx w' F' K #[.int .u64 KY,.int .i64 I1] 36/\w'.cell? ⟨K,0,none⟩=some (.int .u64 KY)/\w'.cell? ⟨K,1,none⟩=some (.int .i64 I1)):=by
  have:=statusC C2.drew HH.out.2.1;rw[HH.out.2.2.1,HH.out.2.2.2.2.2.2.2.2] at this;refine this.mono ?_;rintro e w' ⟨rfl,F4,g4,v4,C4,G4⟩;have B4:=X2.out.2.gc mq_ent G4;exact⟨rfl,F4,⟨g4,v4,C4⟩,X2.out.1.trans G4,B4,B4.cell 0,B4.cell 1⟩
 have PE:Aside (∀(W:World) F3 g3 v3,Co W L D F3 g3 v3 σ->Gc L F w F3 W->Bx W F3 K #[.int .u64 KY,.int .i64 I1] 36->Calls Tryz.prog 59 #[pt D.B,.int .i64 I1] W fun e w'=>e=.returned (.agg #[.int .u64 KY,.int .i64 I1])/\∃F',(∃g' v',Co w' L D F' g' v' σ)/\Gc L F w F' w'/\Bx w' F' K #[.int .u64 KY,.int .i64 I1] 36/\w'.cell? ⟨K,0,none⟩=some (.int .u64 KY)/\w'.cell? ⟨K,1,none⟩=some (.int .i64 I1)):=by
  intro W F3 g3 v3 C3 G3 B3;have:=entryC C3 HH.out.2.1;rw[HH.out.2.2.2.2.2.2.2.1,HH.out.2.2.2.2.2.2.2.2] at this;refine this.mono ?_;rintro e w' ⟨rfl,F4,g4,v4,C4,G4⟩;have B4:=B3.gc mq_ent G4;exact⟨rfl,F4,⟨g4,v4,C4⟩,G3.trans G4,B4,B4.cell 0,B4.cell 1⟩
 clear C2 G2 B2;go_upto_region 3 with fail
 go_region_held3 (fun w'=>w'.cell? ⟨K,0,none⟩=some (.int .u64 KY)/\w'.cell? ⟨K,1,none⟩=some (.int .i64 I1)) (first|with_reducible exact⟨k0,k1⟩|with_reducible exact⟨e0,e1⟩|with_reducible exact⟨f0,f1⟩) ((first|(go_at_call 59;(with_reducible refine Calls.mono (PE.out w3 F3 g3 v3 C3 G3 B3) ?_);rintro e w4 ⟨rfl,F4,⟨g4,v4,C4⟩,G4,B4,f0,f1⟩)|(go_at_call 10;(with_reducible refine Calls.mono PS.out ?_);rintro e w3 ⟨rfl,F3,⟨g3,v3,C3⟩,G3,B3,e0,e1⟩)))
 have P:=turn23 C4 HH.out.2.2.2.2.1 HH.out.2.2.2.2.2.1 HH.out.2.2.2.2.2.2.1 t HH.out.2.1 HH.out.2.2.1 HH.out.2.2.2.1;rw[HH.out.2.2.2.2.2.2.2.2] at P;have X4:Aside (Gc L F w F4 w4):=G4;have flt:=lt_of_block B4.1;clear C3 G3 B3 C4 G4 B4 k0 k1 e0 e1 f0
 go_wp2_with fail
 refine P.mono ?_;rintro e w5 ⟨rfl,F5,g5,v5,C5,G5⟩;have FIN:Aside (Cox L D F w (handS (turnS σ i x 3) t i (turnX x 3)) w5):=⟨F5,g5,v5,C5,X4.out.trans G5⟩;clear P C5 G5 X4 f1 flt
 go_wp2_with fail
 go_ret;exact⟨rfl,FIN.out⟩
end
section
variable {w w' u:World}{L i:Nat}{D:CAd}{F F':Nat->Nat->Prop}{g v:Value}{σ:CS}{x:Ta.TR}
def timS(σ:CS)(T0:Ta.TR)(d:Nat):CS:={mkS (crS σ) T0 with tm:=Wl.addT σ.tm ((σ.T.length:Int)+1) d}
theorem wfI_small{n:Int}(h:0<=n)(h':n<=1000):Wl.wfI n:=by
 show Lit.wf (.int .i64 n)=true;simp only[Lit.wf,IntKind.min,IntKind.max,IntKind.signed,IntKind.bits,decide_eq_true_eq,Bool.and_eq_true];constructor<;>simp<;>omega
theorem timedW(C:Co w L D F g v σ)(t:Int)(hl:σ.T.length<200)(ho:σ.o<σ.n)(he:σ.ev.length<1000000)(prio f p rr R m dl:Int)(d:Nat)(hd:d<Wl.B64)(h0:0<=prio)(h7:prio<=7)(hj:JbOk f p d rr R)(hdl:dl≠0) :
  Calls Tryz.prog 66 #[pt D.B,.int .i64 t,.int .i64 prio,.slice none 0 0,.agg #[.int .u64 f,.int .u64 p,.int .u64 (d:Int),.int .u64 rr,.int .u64 m],.int .u64 dl] w fun e w'=>e=.returned (.tuple #[.int .i64 ((σ.T.length:Int)+1),.int .i64 0])/\Cox L D F w (timS σ (Ta.mkT prio f p d R m 1) d) w':=by
 obtain⟨K,hK⟩:∃J,w.heap.size=J:=⟨_,rfl⟩;obtain⟨e,hE⟩:∃e:Int,(d:Int)=e:=⟨_,rfl⟩;obtain⟨u,hu⟩:∃z,w.alloc (.cells #[.int .u64 f,.int .u64 p,.int .u64 e,.int .u64 rr,.int .u64 m] 106)=z:=⟨_,rfl⟩;have b0:Below w.heap.size w u:=by rw[<-hu];exact belA _ _
 have BK:Bx u F K #[.int .u64 f,.int .u64 p,.int .u64 e,.int .u64 rr,.int .u64 m] 106:=by rw[<-hu,<-hK];exact Bx.new C _ _
 have C0:=C.below b0;have c7:u.cell? ⟨D.B,7,none⟩=some (pt D.ca):=C0.c7;have P1:=C0.credC ho;obtain⟨N1,hN1⟩:∃N1,(σ.T.length:Int)+1=N1:=⟨_,rfl⟩;have HN1:Aside _:=hN1;have hz:(dl==0)=false:=by simpa using hdl
 have HH:Aside (σ.T.length<200/\σ.ev.length<1000000/\0<=prio/\prio<=7/\JbOk f p e rr R/\d<Wl.B64/\(d:Int)=e):=⟨hl,he,h0,h7,hE▸hj,hd,hE⟩;have X0:Aside (Gc L F w F u/\Bx u F K #[.int .u64 f,.int .u64 p,.int .u64 e,.int .u64 rr,.int .u64 m] 106):=⟨Gc.below F C.lw b0,BK⟩;have HU:Aside _:=hu;have HK:Aside _:=hK;rw[hN1,hE];clear C C0 hu hK b0 ho BK hl he h0 h7 hj hd hE hN1 hdl;go_enter Tryz.func66,Tryz.ntmps66
 go_upto_region 1 with fail
 rw[HU.out];try simp only[HK.out]
 go_wp2_with fail
 refine P1.mono ?_;rintro e1 w1 ⟨rfl,F1,g1,v1,C1,G1⟩;have B1:=X0.out.2.gc mq_job G1;have X1:Aside (Gc L F w F1 w1/\Bx w1 F1 K #[.int .u64 f,.int .u64 p,.int .u64 e,.int .u64 rr,.int .u64 m] 106):=⟨X0.out.1.trans G1,B1⟩;have k0:w1.cell? ⟨K,0,none⟩=some (.int .u64 f):=B1.cell 0;have k1:w1.cell? ⟨K,1,none⟩=some (.int .u64 p):=B1.cell 1;have k2:w1.cell? ⟨K,2,none⟩=some (.int .u64 e):=B1.cell 2;have k3:w1.cell? ⟨K,3,none⟩=some (.int .u64 rr):=B1.cell 3;have k4:w1.cell? ⟨K,4,none⟩=some (.int .u64 m):=B1.cell 4;have P2:=begin1 C1 t HH.out.1 HH.out.2.1 prio f p e rr R m HH.out.2.2.1 HH.out.2.2.2.1 HH.out.2.2.2.2.1;rw[show(({σ with o:=σ.o+1,m:=max σ.m (σ.o+1)}:CS).T.length:Int)+1=N1 from HN1.out] at P2;clear P1 C1 G1 c7 B1
 go_wp2_with fail
 refine P2.mono ?_;rintro e2 w2 ⟨rfl,F2,g2,v2,C2,G2⟩;have B2:=X1.out.2.gc mq_job G2;clear P2 k0 k1 k2 k3 k4;have C2d:=C2.drew;have c5:w2.drew.cell? ⟨D.B,5,none⟩=some (pt D.Bw):=C2d.c5;have k2:w2.drew.cell? ⟨K,2,none⟩=some (.int .u64 e):=B2.cell 2
 have PW:Aside (Calls Tryz.prog 117 #[pt D.Bw,.int .i64 N1,.int .u64 e] w2.drew fun e' w'=>(∃r,e'=.returned (.int .i64 r))/\(Cox L D F2 w2 {mkS (crS σ) (Ta.mkT prio f p e R m 1) with tm:=Wl.addT σ.tm N1 d} w'/\w'.cell? ⟨D.B,5,none⟩=some (pt D.Bw)/\w'.cell? ⟨K,2,none⟩=some (.int .u64 e))):=by
  have hw:Wl.wfI N1:=by have h1:=HN1.out;have h2:=HH.out.1;exact wfI_small (by omega) (by omega)
  have:=C2d.waddC hw HH.out.2.2.2.2.2.1;rw[HH.out.2.2.2.2.2.2] at this;refine this.mono ?_;rintro e' w' ⟨rfl,F4,g4,v4,C4,G4⟩;have G5:=(Gc.below F2 C2.lw (Below.refl _ _).drew).trans G4;exact⟨⟨_,rfl⟩,⟨F4,g4,v4,C4,G5⟩,C4.c5,(B2.gc mq_job G5).cell 2⟩
 have X2:Aside (Gc L F w F2 w2):=X1.out.1.trans G2;clear C2 C2d G2 B2;go_upto_region 6 with fail
 go_region_held3 (fun w'=>w'.cell? ⟨D.B,5,none⟩=some (pt D.Bw)/\w'.cell? ⟨K,2,none⟩=some (.int .u64 e)) (first|with_reducible exact⟨c5,k2⟩|with_reducible exact⟨d5,e2⟩) ((go_at_call 117;(with_reducible refine Calls.mono PW.out ?_);rintro e3 w3 ⟨⟨r,rfl⟩,C3,d5,e2⟩))
 have FIN:Aside (Cox L D F w (timS σ (Ta.mkT prio f p e R m 1) d) w3):=by
  obtain⟨F4,g4,v4,C4,G4⟩:=C3;refine⟨F4,g4,v4,?_,X2.out.trans G4⟩;unfold timS;rw[HN1.out];exact C4
 clear c5 k2 d5 e2 C3
 go_wp2_with fail
 go_ret2;exact⟨rfl,FIN.out⟩
end
section
variable {w w' u:World}{L i:Nat}{D:CAd}{F F':Nat->Nat->Prop}{g v:Value}{σ:CS}{x:Ta.TR}
theorem after_by(C:Co w L D F g v σ){t:Nat}(ht:t<σ.th)(hc:σ.cl=false)(hl:σ.T.length<200)(prio dl:Int)(h0:0<=prio)(h7:prio<=7)(hd:0<dl){Q:Ending->World->Prop}(hn:Ta.IsT σ.now)(hdT:Ta.IsT dl)
  (hf:∀w1,Below w.heap.size w w1->Calls Tryz.prog 66 #[pt D.B,.int .i64 t,.int .i64 prio,.slice none 0 0,.agg #[.int .u64 0,.int .u64 0,.int .u64 (Ta.addT σ.now dl),.int .u64 0,.int .u64 0],.int .u64 dl] w1 fun e w'=>∃a b,e=.returned (.tuple #[a,b])/\Q e w') :
  Calls Tryz.prog 15 #[pt D.B,.int .i64 t,.int .i64 prio,.slice none 0 0,.int .u64 dl] w Q:=by
 have P1:=rightC C ht prio h0 h7;have P3:=refuseC C hc hl;obtain⟨K,hK⟩:∃J,w.heap.size=J:=⟨_,rfl⟩;obtain⟨u,hu⟩:∃z,w.alloc (.cells #[.int .u64 0,.int .u64 0,.int .u64 0,.int .u64 0,.int .u64 0] 106)=z:=⟨_,rfl⟩;have b0:Below w.heap.size w u:=by rw[<-hu];exact belA _ _
 have BK:Bx u F K #[.int .u64 0,.int .u64 0,.int .u64 0,.int .u64 0,.int .u64 0] 106:=by rw[<-hu,<-hK];exact Bx.new C _ _
 have C0:=C.below b0;have c5:u.cell? ⟨D.B,5,none⟩=some (pt D.Bw):=C0.c5;have NW:Calls Tryz.prog 50 #[pt D.Bw] u fun e w'=>e=.returned (.int .u64 σ.now)/\w'=u:=Wl.now_any C0.whl;have hnow:=C0.whl;have k2:u.cell? ⟨K,2,none⟩=some (.int .u64 0):=BK.cell 2;have fzk:∀o,u.frozen? ⟨K,o,none⟩=false:=fun o=>by simp[World.frozen?,BK.1]
 have E:Aside (∀X:Int,(u.setCell ⟨K,2,none⟩ (.int .u64 X)).heap[K]?=some (.cells #[.int .u64 0,.int .u64 0,.int .u64 X,.int .u64 0,.int .u64 0] 106 (0,0))):=fun X=>set_at BK.1 _;have hgt:decide (0<dl)=true:=decide_eq_true hd;have HU:Aside _:=hu;have HK:Aside _:=hK;have HF:Aside _:=hf;have BB:Aside (∀v,Below w.heap.size w (u.setCell ⟨K,2,none⟩ v)):=fun v=>b0.setCell (by show w.heap.size<=K;omega) v;have HT:Aside (Ta.IsT σ.now/\Ta.IsT dl):=⟨hn,hdT⟩;clear C0 hu hK hf hd b0 BK hn hdT hnow;go_enter Tryz.func15,Tryz.ntmps15
 go_wp2_with fail
 refine P1.mono ?_;rintro e w1 ⟨rfl,rfl⟩;clear P1
 go_wp2_with fail
 refine P3.mono ?_;rintro e w1 ⟨rfl,rfl⟩;clear P3 C;go_upto_region 5 with fail
 try simp only[HU.out,HK.out]
 go_wp2_with fail
 refine NW.mono ?_;rintro e w2 ⟨rfl,rfl⟩;clear NW
 go_wp2_with fail
 refine(Ta.Tk.add_any σ.now dl _ HT.out.1 HT.out.2).mono ?_;rintro e w3 ⟨rfl,rfl⟩;generalize hX:Ta.addT σ.now dl=X at HF⊢;clear c5;go_upto_region 7 with fail
 obtain⟨w5,h5⟩:∃z,w3.setCell ⟨K,2,none⟩ (.int .u64 X)=z:=⟨_,rfl⟩;rw[h5];have B5:=E.out X;have bb:=BB.out (.int .u64 X);rw[h5] at B5 bb;have cl:∀j,w5.cell? ⟨K,j,none⟩=(#[.int .u64 0,.int .u64 0,.int .u64 X,.int .u64 0,.int .u64 0]:Array Value)[j]?:=fun j=>cell_of_row _ _ _ _ _ _ B5;have j0:w5.cell? ⟨K,0,none⟩=some (.int .u64 0):=cl 0;have j1:w5.cell? ⟨K,1,none⟩=some (.int .u64 0):=cl 1;have j2:w5.cell? ⟨K,2,none⟩=some (.int .u64 X):=cl 2;have j3:w5.cell? ⟨K,3,none⟩=some (.int .u64 0):=cl 3;have j4:w5.cell? ⟨K,4,none⟩=some (.int .u64 0):=cl 4;have HB:Aside (Below w1.heap.size w1 w5):=bb;clear B5 bb cl h5 k2 fzk
 go_wp2_with fail
 refine(HF.out _ HB.out).mono ?_;rintro e w4 ⟨a,b,rfl,hq⟩;have HQ:Aside _:=hq;clear hq
 go_wp2_with fail
 exact HQ.out
theorem afterW(C:Co w L D F g v σ){t:Nat}(ht:t<σ.th)(hc:σ.cl=false)(hl:σ.T.length<200)(ho:σ.o<σ.n)(he:σ.ev.length<1000000)(prio dl:Int)(h0:0<=prio)(h7:prio<=7)(hd:0<dl)(hn:Ta.IsT σ.now)(hdT:Ta.IsT dl){d:Nat}(hD:Ta.addT σ.now dl=(d:Int))(hB:d<Wl.B64) :
  Calls Tryz.prog 15 #[pt D.B,.int .i64 t,.int .i64 prio,.slice none 0 0,.int .u64 dl] w fun e w'=>e=.returned (.tuple #[.int .i64 ((σ.T.length:Int)+1),.int .i64 0])/\Cox L D F w (timS σ (Ta.mkT prio 0 0 d 0 0 1) d) w':=by
 refine after_by C ht hc hl prio dl h0 h7 hd hn hdT (fun w1 b1=>?_);rw[hD];refine(timedW (C.below b1) t hl ho he prio 0 0 0 0 0 dl d hB h0 h7 (jb0 0 d 0) (by omega)).mono ?_;rintro e w' ⟨rfl,F4,g4,v4,C4,G4⟩;exact⟨_,_,rfl,rfl,F4,g4,v4,C4,(Gc.below F C.lw b1).trans G4⟩
end
section
variable {w w' u:World}{L i:Nat}{D:CAd}{F F':Nat->Nat->Prop}{g v:Value}{σ:CS}{x:Ta.TR}
theorem mq_tm:¬Qu.MQ 131:=by unfold Qu.MQ;decide
def OwT(w:World)(F:Nat->Nat->Prop)(v:Value)(d:List Wl.Ent):Prop:=Wl.OwnF w 0 v d/\∀k,Wl.rowB v=some k->∀p,¬F p k
theorem OwT.gc{v:Value}{d:List Wl.Ent}(h:OwT w F v d)(G:Gc L F w F' w'):OwT w' F' v d:=by
 refine⟨h.1.of_block fun k hk=>?_,fun k hk p hp=>?_⟩
 ·obtain⟨cs,hc⟩:=h.1.rowT hk;exact((show Bx w F k cs 131 from⟨hc,h.2 k hk⟩).gc mq_tm G).1.trans hc.symm
 ·rcases G.new p k hp with e|e
  ·exact h.2 k hk p e
  ·have:=(h.1.rowLt hk).2;omega
theorem OwT.below{v:Value}{d:List Wl.Ent}(h:OwT w F v d)(b:Below w.heap.size w w'):OwT w' F v d:=⟨h.1.below b,h.2⟩
theorem OwT.at{n cap I:Nat}{a:Option Addr}{d:List Wl.Ent}(h:OwT w F (.slice a n cap) d)(hn:d.length=n)(hI:I<n):∃g off,a=some ⟨g,off,none⟩/\g<w.heap.size/\w.cell? ⟨g,off+I*2,none⟩=some (.int .u64 (d.getD I (0,0)).1)/\w.cell? ⟨g,off+I*2+1,none⟩=some (.int .i64 (d.getD I (0,0)).2):=by
 subst hn;obtain⟨a',cap',e,_,_,_,il⟩:=h.1.isL;injection e with e1 e2 e3
 subst e1 e3;have hx:d[I]?=some (d.getD I (0,0)):=by rw[List.getD,List.getElem?_eq_getElem hI];rfl
 exact il.elem I _ hx
theorem Co.setWhlX(C:Co w L D F g v σ){X:Nat->Prop}{now:Nat}{T:List Wl.Ent}(h:Wl.Whl w' X D.Bw D.wb now T)(f0:Wl.Fr (F 3) w w')(hX:∀k,X k->F 3 k\/w.heap.size<=k):Co w' L D (fset F 3 X) g v {σ with now:=now,tm:=T}/\Gc L F w (fset F 3 X) w':=by
 have f:=ofW f0;have K:=C.keepP (p:=3) (by omega) (by omega) f;exact⟨⟨K.head (by simp),K.tab (by simp),K.que (by simp),h,K.dag (by simp),K.cre (by simp),K.evs (by simp),K.gon (by simp),C.f0,C.f2,C.f5,C.f6,C.f7,f8_set C.f8 (by omega),C.fp.set (by omega) f.size hX (fun k hk=>(h.low k hk).2) C.lw,le_trans C.lw f.size,le_trans C.wb f.size,C.qok,C.th1,C.th8,C.k16⟩,C.gcP (by omega) f hX (by omega)⟩
theorem tabW_of{w w':World}(hT:Wl.TabW w)(b:Below L w w')(hL:1<L)(hlt:1<w.heap.size):Wl.TabW w':=fun j hj=>by
 rw[<-hT j hj];exact World.cell?_of_block (b.block _ hL)
def tickS(σ:CS)(t:Int)(thn:Nat):CS:=tellS {σ with now:=thn,tm:=Wl.restL thn σ.tm} 8 t 0 0
def dueI(σ:CS)(thn:Nat):List Int:=(Wl.dueL thn σ.tm).map Prod.snd
theorem dueI_len(σ:CS)(thn:Nat):(dueI σ thn).length=(Wl.dueL thn σ.tm).length:=by simp[dueI]
theorem advC(C:Co w L D F g v σ){t:Nat}(ht:t<σ.th){n thn:Nat}(hn:Ta.IsT (n:Int))(hnow:Ta.IsT (σ.now:Int))(hadd:Ta.addT (σ.now:Int) (n:Int)=(thn:Int))(hle:σ.now<=thn)(hB:thn<Wl.B64)(hT:Wl.TabW w)(hb:1<D.wb)(hl:σ.ev.length+300<1000000)(hTl:σ.T.length<=200)(hq:σ.qn+σ.T.countP isW<=1000)(htk:σ.tk<1000000)(hw:∀x∈σ.tm,Wt σ.T x.2)(hnd:(σ.tm.map Prod.snd).Nodup) :
  Calls Tryz.prog 19 #[pt D.B,.int .i64 t,.int .u64 n] w fun e w'=>e=.returned (.tuple #[.int .i64 ((dueI σ thn).length:Nat),.int .i64 0])/\Cox L D F w (relL t (dueI σ thn) (tickS σ t thn)) w':=by
 have P1:=threadC C ht;have c5:w.drew.cell? ⟨D.B,5,none⟩=some (pt D.Bw):=C.drew.c5;have NW:Aside (Calls Tryz.prog 50 #[pt D.Bw] w.drew fun e w'=>e=.returned (.int .u64 σ.now)/\w'=w.drew):=Wl.now_any C.drew.whl
 have AD:Aside (∀W,Calls Tryz.prog 65 #[.int .u64 σ.now,.int .u64 n] W fun e w'=>e=.returned (.int .u64 thn)/\w'=W):=fun W=>by
  have:=Ta.Tk.add_any (σ.now:Int) (n:Int) W hnow hn;rw[hadd] at this;exact this
 obtain⟨nd,hnd'⟩:∃nd,(dueI σ thn).length=nd:=⟨_,rfl⟩
 have AV:Aside (Calls Tryz.prog 73 #[pt D.Bw,.int .u64 thn] w.drew fun e w'=>∃a cap F',e=.returned (.slice a nd cap)/\OwT w' F' (.slice a nd cap) (Wl.dueL thn σ.tm)/\(∃g' v',Co w' L D F' g' v' {σ with now:=thn,tm:=Wl.restL thn σ.tm})/\Gc L F w F' w'):=by
  have:=Wl.adv_own C.drew.whl hB (show Wl.TabW w.drew from hT) hb (show D.wb<=w.heap.size from C.wb);rw[Nat.max_eq_right hle] at this;refine this.mono ?_;rintro e w' ⟨v',rfl,o,X,h1,h2,h3,h4⟩;obtain⟨C',G'⟩:=C.drew.setWhlX h1 h2 h3;obtain⟨a,cap,e,_⟩:=o.isL;subst e;refine⟨a,cap,_,by rw[<-hnd',dueI_len],?_,⟨_,_,C'⟩,(Gc.below F C.lw (Below.refl _ _).drew).trans G'⟩;rw[<-hnd',dueI_len];refine⟨o.low (Nat.zero_le _),fun k hk p hp=>?_⟩;by_cases e:p=3
  ·subst e;rw[fset_same] at hp;exact(h4 k hk).2 hp
  ·rw[fset_ne _ _ e] at hp;have:=C.fp.lt p k hp;have:w.heap.size<=k:=(h4 k hk).1;omega
 have HH:Aside (t<σ.th/\σ.ev.length+300<1000000/\σ.T.length<=200/\σ.qn+σ.T.countP isW<=1000/\σ.tk<1000000):=⟨ht,hl,hTl,hq,htk⟩
 have HD:Aside ((dueI σ thn).length=nd/\(dueI σ thn).Nodup/\∀j∈dueI σ thn,Wt (tickS σ t thn).T j):=by
  refine⟨hnd',?_,fun j hj=>?_⟩
  ·exact(List.Sublist.map _ (List.filter_sublist)).nodup hnd
  ·obtain⟨x,hx,rfl⟩:=List.mem_map.1 hj;exact hw x (Wl.mem_due.1 hx).1
 have HN:Aside ((dueI σ thn).length<=σ.T.countP isW):=wt_len (dueI σ thn) (tickS σ t thn).T HD.out.2.1 HD.out.2.2
 have hn200:nd<=200:=by
  have h1:=HN.out;have h2:=Ta.cntP_le isW σ.T;have h4:=HD.out.1;omega
 have hbt:Aside (∀W:World,W.cell? ⟨D.B,5,none⟩=some (pt D.Bw)->W.cell? ⟨D.B,5,none⟩=some (pt D.Bw)):=fun W h=>h;have blt:=lt_of_block C.head;rw[hnd'];clear ht hn hnow hadd hle hB hT hb hl hTl hq htk hw hnd hnd' C;go_enter Tryz.func19,Tryz.ntmps19
 go_wp2_with fail
 refine P1.mono ?_;rintro e w1 ⟨rfl,rfl⟩;clear P1;go_upto_region 3 with fail
 go_region_held3 (fun W=>W.cell? ⟨D.B,5,none⟩=some (pt D.Bw)) (first|with_reducible exact c5|with_reducible exact d5) ((first|(go_at_call 73;(with_reducible refine Calls.mono AV.out ?_);rintro e w2 ⟨a,cap,F2,rfl,o2,⟨g2,v2,C2⟩,G2⟩;have d5:w2.cell? ⟨D.B,5,none⟩=some (pt D.Bw):=C2.c5)|(go_at_call 65;(with_reducible refine Calls.mono (AD.out _) ?_);rintro e v2 ⟨rfl,rfl⟩)|(go_at_call 50;(with_reducible refine Calls.mono NW.out ?_);rintro e v2 ⟨rfl,rfl⟩)))
 have P:=tellC C2 (show σ.ev.length<1000000 by have:=HH.out.2.1;omega) 8 t 0 0;have X2:Aside (Gc L F w1 F2 w2/\OwT w2 F2 (.slice a nd cap) (Wl.dueL thn σ.tm)):=⟨G2,o2⟩;clear C2 G2 o2 c5 d5 blt
 go_wp2_with fail
 refine P.mono ?_;rintro e w3 ⟨rfl,⟨F3,g3,v3,C3,G3⟩,_⟩;clear P;obtain⟨τ,hτ⟩:∃τ:CS,tickS σ t thn=τ:=⟨_,rfl⟩
 have TQ:Aside (τ.T=σ.T/\τ.qn=σ.qn/\τ.ev.length=σ.ev.length+1/\τ.tk=σ.tk/\τ.th=σ.th):=by
  rw[<-hτ];exact⟨rfl,rfl,by show(σ.ev++[_]).length=_;simp,rfl,rfl⟩
 have CT:Aside (Co w3 L D F3 g3 v3 τ):=by show Co w3 L D F3 g3 v3 τ;rw[<-hτ];exact C3
 have X3:Aside (Gc L F w1 F3 w3/\OwT w3 F3 (.slice a nd cap) (Wl.dueL thn σ.tm)):=⟨X2.out.1.trans G3,X2.out.2.gc G3⟩;have HT:Aside _:=hτ;have HDT:Aside (∀j∈dueI σ thn,Wt τ.T j):=by show ∀j∈dueI σ thn,Wt τ.T j;rw[<-hτ];exact HD.out.2.2
 have DL:Aside ((Wl.dueL thn σ.tm).length=nd):=by show(Wl.dueL thn σ.tm).length=nd;rw[<-dueI_len];exact HD.out.1
 clear C3 G3 hτ X2
 go_wp2_with fail
 go_loopg [10,33] nd (fun kx s10 s33 wr=>∃(k:Nat),s33=.int .i64 k/\k<=nd/\nd-k<=kx/\∃Fr gr vr,Aside (Co wr L D Fr gr vr (relL t ((dueI σ thn).take k) τ))/\Aside (OwT wr Fr (.slice a nd cap) (Wl.dueL thn σ.tm))/\Aside (Gc L F w1 Fr wr))
 case atStart=>exact⟨0,rfl,by omega,by omega,F3,g3,v3,CT,X3.out.2,X3.out.1⟩
 case round=>
  obtain⟨k,rfl,hk,hkx,Fr,gr,vr,Cr,Or,Gr⟩:=hrel;by_cases c:k<nd
  ·have hlt:(k:Int)<(nd:Int):=by omega
   obtain⟨gg,off,rfl,glt,hc0,hc1⟩:=Or.out.at DL.out c;have hkd:k<(dueI σ thn).length:=by rw[HD.out.1];exact c
   have e2:((Wl.dueL thn σ.tm).getD k (0,0)).2=(dueI σ thn).getD k 0:=by
    unfold dueI;rw[List.getD,List.getD,List.getElem?_map]
    cases (Wl.dueL thn σ.tm)[k]?<;>rfl
   obtain⟨z1,hz1⟩:∃z,((Wl.dueL thn σ.tm).getD k (0,0)).1=z:=⟨_,rfl⟩;rw[hz1] at hc0;rw[e2] at hc1;obtain⟨kk,x,ej,hx,hs,hp⟩:=HDT.out _ (Da.getD_mem hkd);obtain⟨s1,q1,e1,T1⟩:=relL_inv t τ HD.out.2.1 HDT.out k (by omega);have hx':(relL t ((dueI σ thn).take k) τ).T[kk]?=some x:=(T1 kk (by rw[<-ej];exact Da.nodup_take HD.out.2.1 hkd)).trans hx;rw[ej] at hc1;obtain⟨J,hJ⟩:∃J,wr.heap.size=J:=⟨_,rfl⟩;obtain⟨I1,hI1⟩:∃I1,(kk:Int)+1=I1:=⟨_,rfl⟩;obtain⟨u,hu⟩:∃q,wr.alloc (.cells #[.int .u64 z1,.int .i64 I1] 131)=q:=⟨_,rfl⟩;have b0:Below wr.heap.size wr u:=by rw[<-hu];exact belA _ _
   have hb:u.heap[J]?=some (.cells #[.int .u64 z1,.int .i64 I1] 131 (0,0)):=by rw[<-hu,<-hJ];exact heap_alloc_new wr _
   have P:=turn12 (Cr.out.below b0) (t:=t) (by have:=TQ.out.2.2.1;have:=HH.out.2.1;omega) (by have:=TQ.out.2.1;have:=HN.out;have:=HH.out.2.2.2.1;omega) (by rw[s1.tk,TQ.out.2.2.2.1];exact HH.out.2.2.2.2) (by rw[s1.th,TQ.out.2.2.2.2];exact HH.out.1) hx' hs hp;rw[hI1] at P hc1
   have RL:Aside (relL t ((dueI σ thn).take (k+1)) τ=relS (turnS (relL t ((dueI σ thn).take k) τ) kk x 2) t kk (turnX x 2)):=by
    show _=_;rw[relL_one t (dueI σ thn) τ k hkd,ej,relStep_at t _ kk x hx']
   have X0:Aside (Gc L F w1 Fr u/\OwT u Fr (.slice (some ⟨gg,off,none⟩) nd cap) (Wl.dueL thn σ.tm)):=⟨Gr.out.trans (Gc.below Fr Cr.out.lw b0),Or.out.below b0⟩;have u1:u.cell? ⟨J,1,none⟩=some (.int .i64 I1):=by rw[cell_of_row _ _ _ _ _ _ hb];rfl
   have ult:=lt_of_block hb;have HU:Aside _:=hu;have HJ:Aside _:=hJ;clear hx hx' hs hp s1 q1 e1 T1 ej hkd hI1 hu hJ b0 hb e2 hz1;go_upto_region 8 with fail
   try rw[HU.out]
   try simp only[HJ.out]
   go_wp2_with fail
   refine P.mono ?_;rintro e w4 ⟨rfl,F4,g4,v4,C4,G4⟩
   have C4':Aside (Co w4 L D F4 g4 v4 (relL t ((dueI σ thn).take (k+1)) τ)):=by
    show Co w4 L D F4 g4 v4 (relL t ((dueI σ thn).take (k+1)) τ);rw[RL.out];exact C4
   have O4:Aside (OwT w4 F4 (.slice (some ⟨gg,off,none⟩) nd cap) (Wl.dueL thn σ.tm)):=X0.out.2.gc G4;have X4:Aside (Gc L F w1 F4 w4):=X0.out.1.trans G4;clear P C4 G4 hc0 hc1 RL u1 ult
   go_wp2_with fail
   go_roundg (nd-(k+1))
   case measure=>omega
   case rel=>exact⟨k+1,by go_num,by omega,Nat.le_refl _,F4,g4,v4,C4',O4,X4⟩
  ·have hnl:¬(k:Int)<(nd:Int):=by omega
   have FIN:Aside (Cox L D F w1 (relL t (dueI σ thn) (tickS σ t thn)) wr):=by
    refine⟨Fr,gr,vr,?_,Gr.out⟩;have:=Cr.out;rw[List.take_of_length_le (by rw[HD.out.1];omega)] at this;rw[HT.out];exact this
   clear hk hkx
   go_wp2_with fail
   go_ret2;exact⟨rfl,FIN.out⟩
end
section
variable {w w' u:World}{L i:Nat}{D:CAd}{F F':Nat->Nat->Prop}{g v:Value}{σ:CS}{x:Ta.TR}
theorem finC(C:Co w L D F g v σ){t:Nat}(ht:t<σ.th)(hi:σ.T[i]?=some x)(hs:x.s=3)(hp:x.p=0)(hid:Da.wfI ((i:Int)+1))(hN:σ.N<1000000)(hl:σ.ev.length+300<1000000)(hT:σ.T.length<=200)(hq:σ.qn+σ.T.countP isW<=1000)(htk:σ.tk<1000000)(hw:∀j,σ.E ((i:Int)+1) j->(∀q,σ.E q j->q=(i:Int)+1)->Wt σ.T j) :
  Calls Tryz.prog 13 #[pt D.B,.int .i64 t,.int .i64 ((i:Int)+1),.bool true] w fun e w'=>e=.returned (.int .i64 0)/\∃d,DoneL σ.E ((i:Int)+1) d/\Cox L D F w (relL t d {endS (turnS σ i x 4) t ((i:Int)+1) with E:=fun q j=>σ.E q j/\q≠(i:Int)+1}) w':=by
 have P1:=threadC C ht;have P2:=taskC C hi (by omega);have P6:Aside (∀(W:World) F3 g3 v3,Co W L D F3 g3 v3 σ->Calls Tryz.prog 60 #[pt D.B,.int .i64 t,.int .i64 ((i:Int)+1),.int .i64 4] W fun e w'=>e=.returned (.tuple #[])/\∃d,DoneL σ.E ((i:Int)+1) d/\Cox L D F3 W (relL t d {endS (turnS σ i x 4) t ((i:Int)+1) with E:=fun q j=>σ.E q j/\q≠(i:Int)+1}) w'):=fun W F3 g3 v3 C3=>turn34 C3 ht hi hs (by omega) hid hN hl hT hq htk hw;have HH:Aside (σ.T[i]?=some x/\x.s=3/\x.p=0):=⟨hi,hs,hp⟩;clear C ht hi hs hp hid hN hl hT hq htk hw;go_enter Tryz.func13,Tryz.ntmps13
 go_wp2_with fail
 refine P1.mono ?_;rintro e w1 ⟨rfl,rfl⟩;clear P1
 go_wp2_with fail
 refine P2.mono ?_;rintro e w2 ⟨rfl,F2,g2,v2,C2,G2⟩;clear P2;have P:=statusC C2 HH.out.1;rw[HH.out.2.1] at P;have X2:Aside (Gc L F w1 F2 w2):=G2;clear C2 G2
 go_wp2_with fail
 refine P.mono ?_;rintro e w3 ⟨rfl,F3,g3,v3,C3,G3⟩;clear P;have C3d:=C3.drew;have X3:Aside (Gc L F w1 F3 w3.drew/\Co w3.drew L D F3 g3 v3 σ):=⟨(X2.out.trans G3).trans (Gc.below F3 C3.lw (Below.refl _ _).drew),C3d⟩;have c3:w3.drew.cell? ⟨D.B,3,none⟩=some (pt D.Bt):=C3d.c3;have c5:w3.drew.cell? ⟨D.B,5,none⟩=some (pt D.Bw):=C3d.c5;have NW:Aside (Calls Tryz.prog 50 #[pt D.Bw] w3.drew fun e w'=>e=.returned (.int .u64 σ.now)/\w'=w3.drew):=Wl.now_any C3d.whl
 have AG:Aside (Calls Tryz.prog 61 #[pt D.Bt,.int .i64 ((i:Int)+1),.int .u64 σ.now] w3.drew fun e w'=>e=.returned (.tuple #[.int .u64 0,.bool false])/\Below w3.drew.heap.size w3.drew w'/\w'.cell? ⟨D.B,3,none⟩=some (pt D.Bt)/\w'.cell? ⟨D.B,5,none⟩=some (pt D.Bw)):=by
  refine(Ta.againZ C3d.tab HH.out.1 σ.now HH.out.2.2).mono ?_;rintro e w' ⟨rfl,b⟩;exact⟨rfl,b,(C3d.below b).c3,(C3d.below b).c5⟩
 clear C3 C3d G3 X2;go_upto_region 5 with fail
 go_region_held3 (fun w'=>w'.cell? ⟨D.B,3,none⟩=some (pt D.Bt)/\w'.cell? ⟨D.B,5,none⟩=some (pt D.Bw)) (first|with_reducible exact⟨c3,c5⟩|with_reducible exact⟨d3,d5⟩) ((first|(go_at_call 50;(with_reducible refine Calls.mono NW.out ?_);rintro e v2 ⟨rfl,rfl⟩)|(go_at_call 61;(with_reducible refine Calls.mono AG.out ?_);rintro e w4 ⟨rfl,b4,d3,d5⟩)))
 have C4:=X3.out.2.below b4;have P:=P6.out w4 F3 g3 v3 C4;have X4:Aside (Gc L F w1 F3 w4):=X3.out.1.trans (Gc.below F3 X3.out.2.lw b4);clear C4 b4 c3 c5 d3 d5
 go_wp2_with fail
 refine P.mono ?_;rintro e w5 ⟨rfl,d,dl,F5,g5,v5,C5,G5⟩;have FIN:Aside (∃d,DoneL σ.E ((i:Int)+1) d/\Cox L D F w1 (relL t d {endS (turnS σ i x 4) t ((i:Int)+1) with E:=fun q j=>σ.E q j/\q≠(i:Int)+1}) w5):=⟨d,dl,F5,g5,v5,C5,X4.out.trans G5⟩;clear P C5 G5 X4 dl
 go_wp2_with fail
 go_ret;exact⟨rfl,FIN.out⟩
end
section
variable {w w' u:World}{L i:Nat}{D:CAd}{F F':Nat->Nat->Prop}{g v:Value}{σ:CS}{x:Ta.TR}
theorem chooseC(a b z:Int×Int)(t:Int)(hz:z=if a.1<=t then a else b)(w:World) :
  Calls Tryz.prog 114 #[.agg #[.int .u64 a.1,.int .i64 a.2],.agg #[.int .u64 b.1,.int .i64 b.2],.int .u64 t] w fun e w'=>e=.returned (.agg #[.int .u64 z.1,.int .i64 z.2])/\Below w.heap.size w w':=by
 refine(Ag.choose_any a b t w).mono ?_;rintro e w' ⟨rfl,h⟩;subst hz;by_cases c:a.1<=t
 ·rw[if_pos c,if_pos c];exact⟨rfl,h⟩
 ·rw[if_neg c,if_neg c];exact⟨rfl,h⟩
theorem lookC(C:Co w L D F g v σ){t dr:Nat}(ht:t<σ.th)(hdr:dr<18446744073709551616)(hn:σ.qn<=1000)(hl:σ.ev.length<1000000){x y z:Qu.Ent}(hx:Qu.relaxQ σ.q σ.th σ.k t dr=(x,true))(hy:Qu.unl (Qu.leastQ σ.q σ.th)=y)(hz:z=if y.1<=(σ.tk:Int) then y else x) :
  Calls Tryz.prog 63 #[pt D.B,.int .i64 t,.int .u64 dr] w fun e w'=>e=.returned (.tuple #[.agg #[.int .u64 z.1,.int .i64 z.2],.bool true])/\Cox L D F w (tellS σ 10 t z.2 z.1) w':=by
 obtain⟨K,hK⟩:∃J,w.heap.size=J:=⟨_,rfl⟩;obtain⟨u,hu⟩:∃q,w.alloc (.cells #[.int .u64 0,.int .i64 0] 36)=q:=⟨_,rfl⟩;have b0:Below w.heap.size w u:=by rw[<-hu];exact belA _ _
 have hB:u.heap[K]?=some (.cells #[.int .u64 0,.int .i64 0] 36 (0,0)):=by rw[<-hu,<-hK];exact heap_alloc_new w _
 have C0:=C.below b0;have c4:=C0.c4;have P:=Qu.relaxed_in u L D.A σ.th σ.k σ.qn σ.q t dr C0.que C0.qok hn C0.k16 ht C0.th8 hdr;rw[hx] at P;have HC:Aside (Co w L D F g v σ/\w.heap.size=K/\σ.qn<=1000/\σ.ev.length<1000000):=⟨C,hK,hn,hl⟩;have X0:Aside (Below w.heap.size w u/\u.heap[K]?=some (.cells #[.int .u64 0,.int .i64 0] 36 (0,0))):=⟨b0,hB⟩;have HY:Aside (Qu.unl (Qu.leastQ σ.q σ.th)=y):=hy;obtain⟨x1,x2⟩:=x;obtain⟨y1,y2⟩:=y;obtain⟨z1,z2⟩:=z;have CH:Aside (∀W,Calls Tryz.prog 114 #[.agg #[.int .u64 y1,.int .i64 y2],.agg #[.int .u64 x1,.int .i64 x2],.int .u64 σ.tk] W fun e w'=>e=.returned (.agg #[.int .u64 z1,.int .i64 z2])/\Below W.heap.size W w'):=fun W=>chooseC (y1,y2) (x1,x2) (z1,z2) σ.tk hz W;have HU:Aside _:=hu;clear C C0 hx hy hz hu hB b0 hn hl;go_enter Tryz.func63,Tryz.ntmps63
 go_upto_region 1 with fail
 rw[HU.out]
 go_wp2_with fail
 refine Calls.mono P ?_;rintro e w1 ⟨rfl,b1⟩;clear P c4;obtain⟨K8,hK8⟩:∃J,w1.heap.size=J:=⟨_,rfl⟩;obtain⟨u1,hu1⟩:∃q,w1.alloc (.cells #[.int .u64 x1,.int .i64 x2] 36)=q:=⟨_,rfl⟩;have b2:Below w1.heap.size w1 u1:=by rw[<-hu1];exact belA _ _
 have h8:u1.heap[K8]?=some (.cells #[.int .u64 x1,.int .i64 x2] 36 (0,0)):=by rw[<-hu1,<-hK8];exact heap_alloc_new w1 _
 have X1:Aside (Below w.heap.size w u1/\u1.heap[K]?=some (.cells #[.int .u64 0,.int .i64 0] 36 (0,0))/\u1.heap[K8]?=some (.cells #[.int .u64 x1,.int .i64 x2] 36 (0,0))):=⟨belT X0.out.1 (belT b1 b2),((belT b1 b2).block K (lt_of_block X0.out.2)).trans X0.out.2,h8⟩;have C1:=HC.out.1.below X1.out.1;have c4:=C1.c4;have P:=Qu.qleast_any u1 L D.A σ.th σ.k σ.qn σ.q C1.que C1.qok HC.out.2.2.1 C1.k16 C1.th1 C1.th8;rw[HY.out] at P;obtain⟨fl,hfl⟩:∃b,Qu.unb (Qu.leastQ σ.q σ.th)=b:=⟨_,rfl⟩;rw[hfl] at P;have HU1:Aside _:=hu1;have HK8:Aside _:=hK8;clear hu1 hK8 b1 b2 h8 C1 hfl;go_upto_region 4 with fail
 rw[HU1.out];simp only[HK8.out]
 go_wp2_with fail
 refine Calls.mono P ?_;rintro e w2 ⟨rfl,b3⟩;clear P c4;obtain⟨K10,hK10⟩:∃J,w2.heap.size=J:=⟨_,rfl⟩;obtain⟨u2,hu2⟩:∃q,w2.alloc (.cells #[.int .u64 y1,.int .i64 y2] 36)=q:=⟨_,rfl⟩;have b4:Below w2.heap.size w2 u2:=by rw[<-hu2];exact belA _ _
 have h10:u2.heap[K10]?=some (.cells #[.int .u64 y1,.int .i64 y2] 36 (0,0)):=by rw[<-hu2,<-hK10];exact heap_alloc_new w2 _
 have X2:Aside (Below w.heap.size w u2.drew/\u2.drew.heap[K]?=some (.cells #[.int .u64 0,.int .i64 0] 36 (0,0))/\u2.drew.heap[K8]?=some (.cells #[.int .u64 x1,.int .i64 x2] 36 (0,0))/\u2.drew.heap[K10]?=some (.cells #[.int .u64 y1,.int .i64 y2] 36 (0,0))):=⟨(belT X1.out.1 (belT b3 b4)).drew,((belT b3 b4).block K (lt_of_block X1.out.2.1)).trans X1.out.2.1,((belT b3 b4).block K8 (lt_of_block X1.out.2.2)).trans X1.out.2.2,h10⟩;have C2:=HC.out.1.below X2.out.1;have c8:u2.drew.cell? ⟨D.B,8,none⟩=some (.int .u64 σ.tk):=C2.c8;obtain⟨x0,xx1⟩:=bx2 X2.out.2.2.1;obtain⟨y0,yy1⟩:=bx2 X2.out.2.2.2
 have KP:Aside (∀W:World,Below u2.heap.size u2 W->W.cell? ⟨D.B,8,none⟩=some (.int .u64 σ.tk)/\W.cell? ⟨K8,0,none⟩=some (.int .u64 x1)/\W.cell? ⟨K8,1,none⟩=some (.int .i64 x2)/\W.cell? ⟨K10,0,none⟩=some (.int .u64 y1)/\W.cell? ⟨K10,1,none⟩=some (.int .i64 y2)):=by
  intro W b;obtain⟨p0,p1⟩:=bx2 ((b.block K8 (lt_of_block X2.out.2.2.1)).trans X2.out.2.2.1);obtain⟨q0,q1⟩:=bx2 ((b.block K10 (lt_of_block X2.out.2.2.2)).trans X2.out.2.2.2);have b':Below u2.drew.heap.size u2.drew W:=⟨b.os,b.tape,b.output,b.size,b.block⟩;exact⟨(C2.below b').c8,p0,p1,q0,q1⟩
 have hb0:Below u2.heap.size u2 u2.drew:=(Below.refl _ _).drew;have hbA:Below u2.heap.size u2 (u2.alloc (.cells #[.int .u64 0,.int .i64 0] 36)).drew:=((Below.refl _ _).alloc (Nat.le_refl _) _).drew;obtain⟨a8,a0,a1,a2,a3⟩:=KP.out _ hbA;have X2K:Aside (u2.heap[K]?=some (.cells #[.int .u64 0,.int .i64 0] 36 (0,0))/\Below w.heap.size w u2):=⟨X2.out.2.1,⟨X2.out.1.os,X2.out.1.tape,X2.out.1.output,X2.out.1.size,X2.out.1.block⟩⟩;obtain⟨N2,hN2⟩:∃J,u2.heap.size=J:=⟨_,rfl⟩;have hbx:(u2.alloc (.cells #[.int .u64 0,.int .i64 0] 36)).drew.heap[N2]?=some (.cells #[.int .u64 0,.int .i64 0] 36 (0,0)):=by rw[<-hN2];exact heap_alloc_new u2 _
 have HBX:Aside _:=hbx;have HN2:Aside _:=hN2;have HU2:Aside _:=hu2;have HK10:Aside _:=hK10;clear hu2 hK10 b3 b4 h10 C2 hbx;go_upto_region 5 with fail
 rw[HU2.out];simp only[HK10.out]
 go_cut [12] from 34 to 40 (fun s12 wx=>∃(T:Nat),s12=.pointer (some ⟨T,0,none⟩)/\Below u2.heap.size u2 wx/\wx.heap[T]?=some (.cells #[.int .u64 z1,.int .i64 z2] 36 (0,0))/\u2.heap.size<=T)
 case first=>
  go_region_held3 (fun w'=>w'.cell? ⟨D.B,8,none⟩=some (.int .u64 σ.tk)/\w'.cell? ⟨K8,0,none⟩=some (.int .u64 x1)/\w'.cell? ⟨K8,1,none⟩=some (.int .i64 x2)/\w'.cell? ⟨K10,0,none⟩=some (.int .u64 y1)/\w'.cell? ⟨K10,1,none⟩=some (.int .i64 y2)) (first|with_reducible exact⟨c8,x0,xx1,y0,yy1⟩|with_reducible exact⟨a8,a0,a1,a2,a3⟩|with_reducible exact⟨d8,p0,p1,q0,q1⟩|with_reducible exact KP.out _ (h3.alloc h3.size _)|with_reducible exact KP.out _ ((h3.setCell (le_of_eq HN2.out) _).setCell (le_of_eq HN2.out) _)) ((go_at_call 114;first|((with_reducible refine Calls.mono (CH.out u2.drew) ?_);rintro e w3 ⟨rfl,b5⟩;have h3:Below u2.heap.size u2 w3:=belT hb0 b5;obtain⟨d8,p0,p1,q0,q1⟩:=KP.out w3 h3)|((with_reducible refine Calls.mono (CH.out (u2.alloc (.cells #[.int .u64 0,.int .i64 0] 36)).drew) ?_);rintro e w3 ⟨rfl,b5⟩;have h3:Below u2.heap.size u2 w3:=belT hbA b5;obtain⟨d8,p0,p1,q0,q1⟩:=KP.out w3 h3;have hb3:w3.heap[N2]?=some (.cells #[.int .u64 0,.int .i64 0] 36 (0,0)):=(b5.block N2 (lt_of_block HBX.out)).trans HBX.out;obtain⟨m0,m1⟩:=bx2 hb3;have mlt:=lt_of_block hb3;have mfz:∀o,w3.frozen? ⟨N2,o,none⟩=false:=(fun o=>by simp[World.frozen?,hb3]))))
  all_goals go_wp2_with fail
  all_goals go_meet
  ·exact⟨w3.heap.size,rfl,h3.alloc h3.size _,heap_alloc_new w3 _,h3.size⟩
  ·exact⟨N2,rfl,(h3.setCell (le_of_eq HN2.out) _).setCell (le_of_eq HN2.out) _,set_at (set_at hb3 _) _,le_of_eq HN2.out⟩
 case rest=>
  obtain⟨T,rfl,bw,hT,lT⟩:=hcut;have XW:Aside (Below w.heap.size w wc):=belT X2K.out.2 bw;have hKw:wc.heap[K]?=some (.cells #[.int .u64 0,.int .i64 0] 36 (0,0)):=(bw.block K (lt_of_block X2K.out.1)).trans X2K.out.1;have BT:Bx wc F T #[.int .u64 z1,.int .i64 z2] 36:=⟨hT,fun p hp=>by have:=HC.out.1.fp.lt p T hp;have:=X2K.out.2.size;omega⟩;have BK:Bx wc F K #[.int .u64 0,.int .i64 0] 36:=⟨hKw,fun p hp=>by have:=HC.out.1.fp.lt p K hp;have:=HC.out.2.1;omega⟩;have Cc:=HC.out.1.below XW.out;have P:=tellC Cc HC.out.2.2.2 10 t z2 z1;obtain⟨t0,t1⟩:=bx2 hT;have tlt:=lt_of_block hT;have BB:Aside (Bx wc F T #[.int .u64 z1,.int .i64 z2] 36/\Bx wc F K #[.int .u64 0,.int .i64 0] 36):=⟨BT,BK⟩;clear bw hT lT hKw BT BK Cc c8 x0 xx1 y0 yy1 a8 a0 a1 a2 a3 hb0 hbA hN2
  go_wp2_with fail
  refine P.mono ?_;rintro e w4 ⟨rfl,⟨F4,g4,v4,C4,G4⟩,Q4⟩;clear P t0 t1 tlt;have B4:=BB.out.1.gc mq_ent G4;have K4:=BB.out.2.gc mq_ent G4;obtain⟨t0,t1⟩:=bx2 B4.1;have tlt:=lt_of_block B4.1;obtain⟨k0,k1⟩:=bx2 K4.1;have klt:=lt_of_block K4.1;have kfz:∀o,w4.frozen? ⟨K,o,none⟩=false:=(fun o=>by simp[World.frozen?,K4.1]);have E:Aside (((w4.setCell ⟨K,0,none⟩ (.int .u64 z1)).setCell ⟨K,1,none⟩ (.int .i64 z2)).heap[K]?=some (.cells #[.int .u64 z1,.int .i64 z2] 36 (0,0))):=set_at (set_at K4.1 _) _
  have FIN:Aside (Cox L D F w (tellS σ 10 t z2 z1) ((w4.setCell ⟨K,0,none⟩ (.int .u64 z1)).setCell ⟨K,1,none⟩ (.int .i64 z2))):=by
   have G:Gc L F w F4 w4:=(Gc.below F HC.out.1.lw XW.out).trans G4;have Q:Gq F w w4:=(Gq.below F XW.out).trans (Gc.below F HC.out.1.lw XW.out) Q4;have f:Ta.Fr (fun k=>k=K) w4 ((w4.setCell ⟨K,0,none⟩ (.int .u64 z1)).setCell ⟨K,1,none⟩ (.int .i64 z2)):=(Ta.Fr.setCell (fun k=>k=K) w4 K 0 (.int .u64 z1) rfl).trans (Ta.Fr.setCell (fun k=>k=K) _ K 1 (.int .i64 z2) rfl) (fun j hj=>.inl hj);obtain⟨C5,G5,_⟩:=HC.out.1.box C4 G Q rfl rfl rfl (le_of_eq HC.out.2.1) klt K4.2 f;exact⟨F4,g4,v4,C5,G5⟩
  clear C4 G4 Q4 B4 K4
  go_wp2_with fail
  have eb:=fun j=>cell_of_row _ _ j _ _ _ E.out;have q0:=eb 0;have q1:=eb 1;refine bodyPost_ret (v:=.tuple #[.agg #[.int .u64 z1,.int .i64 z2],.bool true]) (by simp[results,Tryz.results63,go_sem,q0,q1]) rfl ⟨rfl,?_⟩;exact FIN.out
theorem claimL(C:Co w L D F g v σ){t:Nat}(ht:t<σ.th)(hi:σ.T[i]?=some x)(hs:x.s=3)(k:Int) :
  Calls Tryz.prog 12 #[pt D.B,.int .i64 t,.agg #[.int .u64 k,.int .i64 ((i:Int)+1)]] w fun e w'=>e=.returned (.int .i64 8)/\Cox L D F w σ w':=by
 obtain⟨K,hK⟩:∃J,w.heap.size=J:=⟨_,rfl⟩;obtain⟨I1,hI1⟩:∃J,(i:Int)+1=J:=⟨_,rfl⟩;obtain⟨u,hu⟩:∃z,w.alloc (.cells #[.int .u64 k,.int .i64 I1] 36)=z:=⟨_,rfl⟩;have b0:Below w.heap.size w u:=by rw[<-hu];exact belA _ _
 have BK:Bx u F K #[.int .u64 k,.int .i64 I1] 36:=by rw[<-hu,<-hK];exact Bx.new C _ _
 have C0:=C.below b0;have P1:=threadC C0 ht;have P2:=taskC C0 hi (by omega);rw[hI1] at P2;have k1:u.cell? ⟨K,1,none⟩=some (.int .i64 I1):=BK.cell 1;have HH:Aside (σ.T[i]?=some x/\x.s=3/\(i:Int)+1=I1):=⟨hi,hs,hI1⟩;have X0:Aside (Gc L F w F u/\Bx u F K #[.int .u64 k,.int .i64 I1] 36):=⟨Gc.below F C.lw b0,BK⟩;have HU:Aside _:=hu;have HK:Aside _:=hK;rw[hI1];clear C C0 ht hi hs hI1 hu hK BK b0;go_enter Tryz.func12,Tryz.ntmps12
 go_upto_region 1 with fail
 rw[HU.out];try simp only[HK.out]
 go_wp2_with fail
 refine P1.mono ?_;rintro e w1 ⟨rfl,rfl⟩;clear P1
 go_wp2_with fail
 refine P2.mono ?_;rintro e w2 ⟨rfl,F2,g2,v2,C2,G2⟩;clear P2 k1;have B2:=X0.out.2.gc mq_ent G2;have X2:Aside (Gc L F w F2 w2.drew/\Bx w2.drew F2 K #[.int .u64 k,.int .i64 I1] 36):=⟨(X0.out.1.trans G2).trans (Gc.below F2 C2.lw (Below.refl _ _).drew),B2⟩;have k0:w2.drew.cell? ⟨K,0,none⟩=some (.int .u64 k):=B2.cell 0;have k1:w2.drew.cell? ⟨K,1,none⟩=some (.int .i64 I1):=B2.cell 1
 have PS:Aside (Calls Tryz.prog 10 #[pt D.B,.int .i64 I1] w2.drew fun e w'=>e=.returned (.int .i64 3)/\Cox L D F w σ w'/\w'.cell? ⟨K,0,none⟩=some (.int .u64 k)/\w'.cell? ⟨K,1,none⟩=some (.int .i64 I1)):=by
  have:=statusC C2.drew HH.out.1;rw[HH.out.2.1,HH.out.2.2] at this;refine this.mono ?_;rintro e w' ⟨rfl,F4,g4,v4,C4,G4⟩;have B4:=X2.out.2.gc mq_ent G4;exact⟨rfl,⟨F4,g4,v4,C4,X2.out.1.trans G4⟩,B4.cell 0,B4.cell 1⟩
 clear C2 G2 B2;go_upto_region 3 with fail
 refine wp_region_held_drew (S:=(fun w':World=>w'.cell? ⟨K,0,none⟩=some (.int .u64 k)/\w'.cell? ⟨K,1,none⟩=some (.int .i64 I1))) (by kernel_rfl) (⟨k0,k1⟩) (fun hHeld=>?_);refine anyH_u (i:=0) (by assumption) rfl (by kernel_rfl) (fun w z=>by go_simp<;>rfl) (fun _ _ _ h=>h) ?_;refine anyH_u (i:=1) (by assumption) rfl (by kernel_rfl) (fun w z=>by go_simp<;>rfl) (fun _ _ _ h=>h) ?_;refine anyH_u (i:=2) (by assumption) rfl (by kernel_rfl) (fun w z=>by go_simp<;>rfl) (fun _ _ _ h=>h) ?_;simp only[Act.put,sA,sB,sC];refine wpAnyH_ready (rs:=[3]) (by kernel_rfl) (by simp) ?_;refine AllReadyH.cons (o:={dst:=some 21,op:=Op.call {callee:=Callee.value (Operand.func 10),args:=#[Operand.tmp 18,Operand.tmp 20],argTypes:=#[23,3]},type:=3,pos:= "core.go:350",after:=#[⟨0,.data⟩,⟨2,.data⟩],guard:=none}) rfl (fun Kt hKt=>?_) AllReadyH.nil;go_simp
 (with_reducible refine Calls.mono PS.out ?_)
 rintro e w3 ⟨rfl,CX,e0,e1⟩
 go_wp2_with fail
 refine hKt.out _ _ (⟨e0,e1⟩) (fun hHeld=>?_);clear hKt Kt;try simp only[Act.put,sA,sB,sC]
 refine anyH_u (i:=4) (by assumption) rfl (by kernel_rfl) (fun w z=>by go_simp<;>rfl) (fun _ _ _ h=>h) ?_;refine anyH_u (i:=5) (by assumption) rfl (by kernel_rfl) (fun w z=>by go_simp<;>rfl) (fun _ _ _ h=>h) ?_;simp only[Act.put,sA,sB,sC];refine wpAnyH_take (i:=6) (oi:=⟨some 24,Op.move (.tmp 0),23,"core.go:350",#[⟨5,.guard⟩],some (5,false)⟩) (v:=undef) rfl (by kernel_rfl) (by kernel_rfl) (by kernel_rfl) (fun _ _ _ h=>h) (Or.inr ⟨by rfl,rfl⟩) (by assumption) ?_;simp only[Act.put,sA,sB,sC];refine wpAnyH_take (i:=7) (oi:=⟨some 25,Op.fieldAddr 36 (.tmp 5) 1,0,"core.go:350",#[⟨5,.guard⟩],some (5,false)⟩) (v:=undef) rfl (by kernel_rfl) (by kernel_rfl) (by kernel_rfl) (fun _ _ _ h=>h) (Or.inr ⟨by rfl,rfl⟩) (by assumption) ?_;simp only[Act.put,sA,sB,sC];refine wpAnyH_take (i:=8) (oi:=⟨some 26,Op.load 3 (.tmp 25),3,"core.go:350",#[⟨7,.data⟩,⟨5,.guard⟩],some (5,false)⟩) (v:=undef) rfl (by kernel_rfl) (by kernel_rfl) (by kernel_rfl) (fun _ _ _ h=>h) (Or.inr ⟨by rfl,rfl⟩) (by assumption) ?_;simp only[Act.put,sA,sB,sC];refine wpAnyH_take (i:=10) (oi:=⟨some 28,Op.load 36 (.tmp 5),36,"core.go:350",#[⟨5,.guard⟩],some (5,false)⟩) (v:=undef) rfl (by kernel_rfl) (by kernel_rfl) (by kernel_rfl) (fun _ _ _ h=>h) (Or.inr ⟨by rfl,rfl⟩) (by assumption) ?_;simp only[Act.put,sA,sB,sC];refine wpAnyH_ready (rs:=[9]) (by kernel_rfl) (by simp) ?_;refine AllReadyH.cons (o:={dst:=some 27,op:=Op.call {callee:=Callee.value (Operand.func 59),args:=#[Operand.tmp 24,Operand.tmp 26],argTypes:=#[23,3]},type:=36,pos:= "core.go:350",after:=#[⟨6,.data⟩,⟨8,.data⟩,⟨5,.chain⟩,⟨5,.guard⟩],guard:=some (5,false)}) rfl (fun Kt hKt=>?_) AllReadyH.nil;go_simp
 refine hKt.out _ _ hHeld (fun hHeld=>?_);clear hKt Kt;try simp only[Act.put,sA,sB,sC]
 refine wpAnyH_take (i:=11) (oi:=⟨some 29,Op.binOp BinOp.neq 36 (.tmp 27) (.tmp 28) 36,4,"core.go:350",#[⟨9,.data⟩,⟨10,.data⟩,⟨5,.guard⟩],some (5,false)⟩) (v:=undef) rfl (by kernel_rfl) (by kernel_rfl) (by kernel_rfl) (fun _ _ _ h=>h) (Or.inr ⟨by rfl,rfl⟩) (by assumption) ?_;simp only[Act.put,sA,sB,sC];refine anyH_u (i:=12) (by assumption) rfl (by kernel_rfl) (fun w z=>by go_simp<;>rfl) (fun _ _ _ h=>h) ?_;simp only[Act.put,sA,sB,sC];refine wpAnyH_done (by kernel_rfl) ?_ _;have FIN:Aside _:=CX;clear k0 k1 e0 e1 CX
 go_wp2_with fail
 go_ret;exact⟨rfl,FIN.out⟩
end
section
variable {w w' u:World}{L i:Nat}{D:CAd}{F F':Nat->Nat->Prop}{g v:Value}{σ:CS}{x:Ta.TR}
theorem Co.frX{X:Nat->Prop}(C:Co w L D F g v σ)(f:Ta.Fr X w w')(hX:∀k,X k->(∀p,¬F p k)/\NQ w k):Co w' L D F g v σ:=by
 have KK:K8 (fun q=>False) w' L D F g v σ:=C.keep (fun q=>False) f (fun q _ k hk hy=>(hX k hy).1 q hk) (fun _ k hk=>(hX k hk).2);exact⟨KK.head (by simp),KK.tab (by simp),KK.que (by simp),KK.whl (by simp),KK.dag (by simp),KK.cre (by simp),KK.evs (by simp),KK.gon (by simp),C.f0,C.f2,C.f5,C.f6,C.f7,C.f8,C.fp.grow f.size,le_trans C.lw f.size,le_trans C.wb f.size,C.qok,C.th1,C.th8,C.k16⟩
theorem Gc.ownX{w0:World}{F0:Nat->Nat->Prop}{X:Nat->Prop}(G:Gc L F0 w0 F w)(hX:∀k,X k->w0.heap.size<=k)(hL:L<=w0.heap.size)(f:Ta.Fr X w w'):Gc L F0 w0 F w':=
 ⟨⟨G.low.trans (f.toBelow (fun k hk=>le_trans hL (hX k hk)) (le_trans hL G.size)),fun k hk hF hU=>(f.block k (Nat.lt_of_lt_of_le hk G.size) (fun e=>by have:=hX k e;omega)).trans (G.block k hk hF hU),G.new⟩,fun k cs fr hk=>by
  obtain⟨cs',h1,e1⟩:=G.hd k cs fr hk;exact⟨cs',(f.block k (lt_of_block h1) (fun e=>by have:=hX k e;have:=lt_of_block hk;omega)).trans h1,e1⟩⟩
def Owb(S:Nat)(w:World)(F:Nat->Nat->Prop)(v:Value)(d:List Int):Prop:=Da.OwnI w S v d/\∀k,v.ownBlock=some k->∀p,¬F p k
theorem Owb.ow{S:Nat}{v:Value}{d:List Int}(h:Owb S w F v d):Ow w F v d:=⟨h.1.low (Nat.zero_le _),h.2⟩
theorem Owb.gc{S:Nat}{v:Value}{d:List Int}(h:Owb S w F v d)(G:Gc L F w F' w'):Owb S w' F' v d:=by
 have q:=h.ow.gc G;refine⟨h.1.of_block fun k hk=>?_,q.2⟩;obtain⟨cs,hc⟩:=h.1.rowT hk;exact((show Bx w F k cs 3 from⟨hc,h.2 k hk⟩).gc mq_int G).1.trans hc.symm
theorem Owb.nil(S:Nat)(w:World)(F:Nat->Nat->Prop):Owb S w F (.slice none 0 0) []:=⟨Da.OwnI.nil _ _,fun k hk=>by cases hk⟩
def Ap(v v':Value):Prop:=∀k,v.ownBlock=some k->v'.ownBlock≠some k
theorem Ow.fr{v v1:Value}{d1:List Int}(o:Ow w F v1 d1)(f:Ta.Fr (fun k=>v.ownBlock=some k) w w')(ap:Ap v v1):Ow w' F v1 d1:=
 ⟨o.1.of_block fun k hk=>f.block k (o.1.rowLt hk).2 (fun h=>ap k h hk),o.2⟩
theorem Owb.push{S:Nat}{w0:World}{F0:Nat->Nat->Prop}{v v0:Value}{d:List Int}(o:Owb S w F v d)(C:Co w L D F g v0 σ)(G:Gc L F0 w0 F w)(hS:w0.heap.size<=S)(hS2:S<=w.heap.size)(hL:L<=w0.heap.size)(x:Int)(hd:d.length<1000000) :
  ∃v' w',(Builtin.append_ #[22,22] 22 #[v,.slice (some ⟨w.heap.size,0,none⟩) 1 1]).run Tryz.prog (w.alloc (.cells #[.int .i64 x] 3))=.ok v' w'/\
  Owb S w' F v' (d++[x])/\Co w' L D F g v0 σ/\Gc L F0 w0 F w'/\Ta.Fr (fun k=>v.ownBlock=some k) w w'/\(∀k,v'.ownBlock=some k->v.ownBlock=some k\/w.heap.size<=k):=by
 obtain⟨v',w',hr,o',f,hn⟩:=o.1.push x hd hS2;have f':Ta.Fr (fun k=>v.ownBlock=some k) w w':=ofD f;refine⟨v',w',hr,⟨o',fun k hk p hp=>?_⟩,C.frX f' (fun k hk=>⟨o.2 k hk,?_⟩),G.ownX (fun k hk=>le_trans hS (o.1.rowLt hk).1) hL f',f',hn⟩
 ·rcases hn k hk with e|e
  ·exact o.2 k e p hp
  ·have:=C.fp.lt p k hp;omega
 ·obtain⟨cs,hc⟩:=o.1.rowT hk;exact nq_of hc (by unfold QT;decide)
end
end Go.Proofs.YthpgfmmpjoodkaaGreatDoor
