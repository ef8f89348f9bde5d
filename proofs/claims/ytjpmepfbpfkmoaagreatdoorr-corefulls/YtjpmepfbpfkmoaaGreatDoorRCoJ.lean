import Derived.Test.YtjpmepfbpfkmoaaGreatDoorRCoC
namespace Go.Proofs.YtjpmepfbpfkmoaaGreatDoorR
set_option maxHeartbeats 8000000
set_option maxRecDepth 100000
set_option linter.unusedVariables false
open Go.RowKit Go.Lib Go.WideMaps Go.Maps
section
variable {w w' u:World}{L i:Nat}{D:CAd}{F F':Nat→Nat→Prop}{g v:Value}{σ:CS}{x:Ta.TR}
def crS(σ:CS):CS:={σ with o:=σ.o+1,m:=max σ.m (σ.o+1)}
def subS(σ:CS)(t:Nat)(prio:Int):CS:=relS (mkS (crS σ) (Ta.mkT prio 0 0 0 0 0 2)) t σ.T.length (Ta.mkT prio 0 0 0 0 0 2)
theorem jb0(f d rr:Int):JbOk f 0 d rr 0:=.inl ⟨rfl,rfl⟩
theorem subC(C:Co w L D F g v σ){t:Nat}(ht:t<σ.th)(hc:σ.cl=false)(hl:σ.T.length<200)(ho:σ.o<σ.n)(he:σ.ev.length+1<1000000)(hn:σ.qn≤1000)(htk:σ.tk<1000000)(prio:Int)(h0:0≤prio)(h7:prio≤7) :
  Calls Tryz.prog 11 #[pt D.B,.int .i64 t,.int .i64 prio,.slice none 0 0,.slice none 0 0] w fun e w'=>e=.returned (.tuple #[.int .i64 ((σ.T.length:Int)+1),.int .i64 0])∧Cox L D F w (subS σ t prio) w':=by
 have P1:=rightC C ht prio h0 h7
 have P2:=areNil D.B w
 have P3:=refuseC C hc hl
 have c7:=C.c7
 have P4:=C.credC ho
 have HH:Aside (t<σ.th∧σ.T.length<200∧σ.ev.length+1<1000000∧σ.qn≤1000∧σ.tk<1000000∧0≤prio∧prio≤7):=⟨ht,hl,he,hn,htk,h0,h7⟩
 obtain⟨N1,hN1⟩:∃N1,(σ.T.length:Int)+1=N1:=⟨_,rfl⟩
 have HN1:Aside _:=hN1
 rw[hN1]
 clear C ht hl he hn htk h0 h7 hc ho hN1
 go_enter Tryz.func11,Tryz.ntmps11
 go_wp2_with fail
 refine P1.mono ?_
 rintro e w1 ⟨rfl,rfl⟩
 clear P1
 go_wp2_with fail
 refine P2.mono ?_
 rintro e w1 ⟨rfl,rfl⟩
 clear P2
 go_wp2_with fail
 refine P3.mono ?_
 rintro e w1 ⟨rfl,rfl⟩
 clear P3
 go_wp2_with fail
 refine(contNil _ _).mono ?_
 rintro e w1 ⟨rfl,rfl⟩
 go_wp2_with fail
 refine P4.mono ?_
 rintro e w2 ⟨rfl,F2,g2,v2,C2,G2⟩
 clear P4 c7
 have X2:Aside (Gc L F w1 F2 w2):=G2
 have P5:=begin2 C2 (t:=t) HH.out.1 HH.out.2.1 HH.out.2.2.1 HH.out.2.2.2.1 HH.out.2.2.2.2.1 prio 0 0 0 0 0 0 HH.out.2.2.2.2.2.1 HH.out.2.2.2.2.2.2 (jb0 0 0 0)
 rw[show(({σ with o:=σ.o+1,m:=max σ.m (σ.o+1)}:CS).T.length:Int)+1=N1 from HN1.out] at P5
 clear C2 G2
 go_wp2_with fail
 refine(notNil D.B _).mono ?_
 rintro e w3 ⟨rfl,rfl⟩
 go_wp2_with fail
 refine P5.mono ?_
 rintro e w4 ⟨rfl,F4,g4,v4,C4,G4⟩
 have FIN:Aside (Cox L D F w1 (subS σ t prio) w4):=⟨F4,g4,v4,C4,X2.out.trans G4⟩
 clear P5 C4 G4
 go_wp2_with fail
 go_ret2
 exact⟨rfl,FIN.out⟩
theorem taskC(C:Co w L D F g v σ)(hi:σ.T[i]?=some x)(hs:x.s≠0) :
  Calls Tryz.prog 57 #[pt D.B,.int .i64 ((i:Int)+1)] w fun e w'=>e=.returned (.bool true)∧Cox L D F w σ w':=by
 have P:=statusC C hi
 obtain⟨s,hs'⟩:∃s,x.s=s:=⟨_,rfl⟩
 rw[hs'] at P hs
 have hb:(s != 0)=true:=by simpa using hs
 clear C hi hs' hs
 go_enter Tryz.func57,Tryz.ntmps57
 go_wp2_with fail
 refine P.mono ?_
 rintro e w1 ⟨rfl,C1⟩
 have FIN:Aside _:=C1
 clear P C1
 go_wp2_with fail
 go_ret
 exact⟨rfl,FIN.out⟩
theorem turn34(C:Co w L D F g v σ){t:Nat}(ht:t<σ.th)(hi:σ.T[i]?=some x)(hs:x.s=3)(hp:0≤x.p)(hid:Da.wfI ((i:Int)+1))(hN:σ.N<1000000)(hl:σ.ev.length+300<1000000)(hT:σ.T.length≤200)(hq:σ.qn+σ.T.countP isW≤1000)(htk:σ.tk<1000000)(hw:∀j,σ.E ((i:Int)+1) j→(∀q,σ.E q j→q=(i:Int)+1)→Wt σ.T j) :
  Calls Tryz.prog 56 #[pt D.B,.int .i64 t,.int .i64 ((i:Int)+1),.int .i64 4] w fun e w'=>e=.returned (.tuple #[])∧∃d,DoneL σ.E ((i:Int)+1) d∧Cox L D F w (relL t d {endS (turnS σ i x 4) t ((i:Int)+1) with E:=fun q j=>σ.E q j∧q≠(i:Int)+1}) w':=by
 refine(turn_byZ C t hi hs hp (by decide) (Z:=fun τ=>∃d,DoneL σ.E ((i:Int)+1) d∧τ=relL t d {endS (turnS σ i x 4) t ((i:Int)+1) with E:=fun q j=>σ.E q j∧q≠(i:Int)+1}) (fun F1 g1 v1 w1 C1=>?_)).mono ?_
 ·refine follow_34 D.B t ((i:Int)+1) w1 (fun w2 b2=>?_)
  have hx:σ.T.countP isW=(σ.T.set i (turnX x 4)).countP isW:=by
   have:=Ta.cntP_set isW σ.T i x (turnX x 4) hi
   have e1:isW x=false:=by simp[isW,hs]
   have e2:isW (turnX x 4)=false:=by simp[isW,(turnX_key x 4).2.2.1]
   rw[e1,e2] at this
   simpa using this.symm
  refine(endC (C1.below b2) ht hid hN hl (by show(σ.T.set i _).length≤200;simpa using hT) (by show σ.qn+(σ.T.set i _).countP isW≤1000;rw[←hx];exact hq) htk (fun j h1 h2=>?_)).mono ?_
  ·obtain⟨k,y,e1,e2,e3,e4⟩:=hw j h1 h2
   refine⟨k,y,e1,?_,e3,e4⟩
   show(σ.T.set i _)[k]?=some y
   rw[List.getElem?_set_ne (fun e=>?_)]
   ·exact e2
   ·rw[←e,hi] at e2
    injection e2 with e2
    rw[e2] at hs
    omega
  ·rintro e w3 ⟨rfl,d,dl,F3,g3,v3,C3,G3⟩
   exact⟨rfl,_,⟨d,dl,rfl⟩,F3,g3,v3,C3,(Gc.below F1 C1.lw b2).trans G3⟩
 ·rintro e w' ⟨rfl,τ,⟨d,dl,rfl⟩,X⟩
  exact⟨rfl,d,dl,X⟩
theorem claimC(C:Co w L D F g v σ){t:Nat}(ht:t<σ.th)(hi:σ.T[i]?=some x)(hs:x.s=2)(hp:0≤x.p)(hl:σ.ev.length<1000000)(hn:σ.qn≤1000)(htk:σ.tk<1000000) :
  Calls Tryz.prog 17 #[pt D.B,.int .i64 t,.agg #[.int .u64 x.key,.int .i64 ((i:Int)+1)]] w fun e w'=>e=.returned (.int .i64 0)∧Cox L D F w (handS (turnS σ i x 3) t i (turnX x 3)) w':=by
 obtain⟨K,hK⟩:∃J,w.heap.size=J:=⟨_,rfl⟩
 obtain⟨KY,hKY⟩:∃J,x.key=J:=⟨_,rfl⟩
 obtain⟨I1,hI1⟩:∃J,(i:Int)+1=J:=⟨_,rfl⟩
 obtain⟨u,hu⟩:∃z,w.alloc (.cells #[.int .u64 KY,.int .i64 I1] 50)=z:=⟨_,rfl⟩
 have b0:Below w.heap.size w u:=by rw[←hu];exact belA _ _
 have BK:Bx u F K #[.int .u64 KY,.int .i64 I1] 50:=by rw[←hu,←hK];exact Bx.new C _ _
 have C0:=C.below b0
 have P1:=threadC C0 ht
 have P2:=taskC C0 hi (by omega)
 rw[hI1] at P2
 have k1:u.cell? ⟨K,1,none⟩=some (.int .i64 I1):=BK.cell 1
 have HH:Aside (t<σ.th∧σ.T[i]?=some x∧x.s=2∧0≤x.p∧σ.ev.length<1000000∧σ.qn≤1000∧σ.tk<1000000∧x.key=KY∧(i:Int)+1=I1):=⟨ht,hi,hs,hp,hl,hn,htk,hKY,hI1⟩
 have X0:Aside (Gc L F w F u∧Bx u F K #[.int .u64 KY,.int .i64 I1] 50):=⟨Gc.below F C.lw b0,BK⟩
 have HU:Aside _:=hu
 have HK:Aside _:=hK
 rw[hKY,hI1]
 clear C C0 ht hi hs hp hl hn htk hKY hI1 hu hK BK b0
 go_enter Tryz.func17,Tryz.ntmps17
 go_upto_region 1 with fail
 rw[HU.out]
 try simp only[HK.out]
 go_wp2_with fail
 refine P1.mono ?_
 rintro e w1 ⟨rfl,rfl⟩
 clear P1
 go_wp2_with fail
 refine P2.mono ?_
 rintro e w2 ⟨rfl,F2,g2,v2,C2,G2⟩
 clear P2 k1
 have B2:=X0.out.2.gc mq_ent G2
 have X2:Aside (Gc L F w F2 w2.drew∧Bx w2.drew F2 K #[.int .u64 KY,.int .i64 I1] 50):=⟨(X0.out.1.trans G2).trans (Gc.below F2 C2.lw (Below.refl _ _).drew),B2⟩
 have k0:w2.drew.cell? ⟨K,0,none⟩=some (.int .u64 KY):=B2.cell 0
 have k1:w2.drew.cell? ⟨K,1,none⟩=some (.int .i64 I1):=B2.cell 1
 have PS:Aside (Calls Tryz.prog 14 #[pt D.B,.int .i64 I1] w2.drew fun e w'=>e=.returned (.int .i64 2)∧∃F',(∃g' v',Co w' L D F' g' v' σ)∧Gc L F w F' w'∧Bx w' F' K #[.int .u64 KY,.int .i64 I1] 50∧w'.cell? ⟨K,0,none⟩=some (.int .u64 KY)∧w'.cell? ⟨K,1,none⟩=some (.int .i64 I1)):=by
  have:=statusC C2.drew HH.out.2.1
  rw[HH.out.2.2.1,HH.out.2.2.2.2.2.2.2.2] at this
  refine this.mono ?_
  rintro e w' ⟨rfl,F4,g4,v4,C4,G4⟩
  have B4:=X2.out.2.gc mq_ent G4
  exact⟨rfl,F4,⟨g4,v4,C4⟩,X2.out.1.trans G4,B4,B4.cell 0,B4.cell 1⟩
 have PE:Aside (∀(W:World) F3 g3 v3,Co W L D F3 g3 v3 σ→Gc L F w F3 W→Bx W F3 K #[.int .u64 KY,.int .i64 I1] 50→Calls Tryz.prog 58 #[pt D.B,.int .i64 I1] W fun e w'=>e=.returned (.agg #[.int .u64 KY,.int .i64 I1])∧∃F',(∃g' v',Co w' L D F' g' v' σ)∧Gc L F w F' w'∧Bx w' F' K #[.int .u64 KY,.int .i64 I1] 50∧w'.cell? ⟨K,0,none⟩=some (.int .u64 KY)∧w'.cell? ⟨K,1,none⟩=some (.int .i64 I1)):=by
  intro W F3 g3 v3 C3 G3 B3
  have:=entryC C3 HH.out.2.1
  rw[HH.out.2.2.2.2.2.2.2.1,HH.out.2.2.2.2.2.2.2.2] at this
  refine this.mono ?_
  rintro e w' ⟨rfl,F4,g4,v4,C4,G4⟩
  have B4:=B3.gc mq_ent G4
  exact⟨rfl,F4,⟨g4,v4,C4⟩,G3.trans G4,B4,B4.cell 0,B4.cell 1⟩
 clear C2 G2 B2
 go_upto_region 3 with fail
 go_region_held3 (fun w'=>w'.cell? ⟨K,0,none⟩=some (.int .u64 KY)∧w'.cell? ⟨K,1,none⟩=some (.int .i64 I1)) (first|with_reducible exact⟨k0,k1⟩|with_reducible exact⟨e0,e1⟩|with_reducible exact⟨f0,f1⟩) ((first|(go_at_call 58;(with_reducible refine Calls.mono (PE.out w3 F3 g3 v3 C3 G3 B3) ?_);rintro e w4 ⟨rfl,F4,⟨g4,v4,C4⟩,G4,B4,f0,f1⟩)|(go_at_call 14;(with_reducible refine Calls.mono PS.out ?_);rintro e w3 ⟨rfl,F3,⟨g3,v3,C3⟩,G3,B3,e0,e1⟩)))
 have P:=turn23 C4 HH.out.2.2.2.2.1 HH.out.2.2.2.2.2.1 HH.out.2.2.2.2.2.2.1 t HH.out.2.1 HH.out.2.2.1 HH.out.2.2.2.1
 rw[HH.out.2.2.2.2.2.2.2.2] at P
 have X4:Aside (Gc L F w F4 w4):=G4
 have flt:=lt_of_block B4.1
 clear C3 G3 B3 C4 G4 B4 k0 k1 e0 e1 f0
 go_wp2_with fail
 refine P.mono ?_
 rintro e w5 ⟨rfl,F5,g5,v5,C5,G5⟩
 have FIN:Aside (Cox L D F w (handS (turnS σ i x 3) t i (turnX x 3)) w5):=⟨F5,g5,v5,C5,X4.out.trans G5⟩
 clear P C5 G5 X4 f1 flt
 go_wp2_with fail
 go_ret
 exact⟨rfl,FIN.out⟩
end
section
variable {w w' u:World}{L i:Nat}{D:CAd}{F F':Nat→Nat→Prop}{g v:Value}{σ:CS}{x:Ta.TR}
def stT(T:List Ta.TR)(id:Int):Int:=if 1≤id then(match T[(id-1).toNat]? with|some x=>x.s|none=>0) else 0
theorem stT_at{T:List Ta.TR}{i:Nat}{x:Ta.TR}(h:T[i]?=some x):stT T ((i:Int)+1)=x.s:=by
 unfold stT
 rw[if_pos (by omega),show((i:Int)+1-1).toNat=i by omega,h]
theorem stT_no{T:List Ta.TR}{id:Int}(h:noT T id):stT T id=0:=by
 unfold stT
 rcases h with h|h
 ·rw[if_neg (by omega)]
 ·rw[if_pos (by omega),List.getElem?_eq_none (by omega)]
theorem stT_cases(T:List Ta.TR)(id:Int):noT T id∨∃(i:Nat)(x:Ta.TR),id=(i:Int)+1∧T[i]?=some x:=by
 by_cases h:id<1∨(T.length:Int)<id
 ·exact .inl h
 ·refine .inr ⟨(id-1).toNat,T[(id-1).toNat]'(by omega),by omega,?_⟩
  rw[List.getElem?_eq_getElem]
theorem statusA(C:Co w L D F g v σ)(id:Int) :
  Calls Tryz.prog 14 #[pt D.B,.int .i64 id] w fun e w'=>e=.returned (.int .i64 (stT σ.T id))∧Cox L D F w σ w':=by
 rcases stT_cases σ.T id with h|⟨i,x,rfl,hi⟩
 ·rw[stT_no h];exact statusN C id h
 ·rw[stT_at hi];exact statusC C hi
theorem taskA(C:Co w L D F g v σ)(id:Int) :
  Calls Tryz.prog 57 #[pt D.B,.int .i64 id] w fun e w'=>e=.returned (.bool (stT σ.T id != 0))∧Cox L D F w σ w':=by
 have P:=statusA C id
 obtain⟨s,hs⟩:∃s,stT σ.T id=s:=⟨_,rfl⟩
 rw[hs] at P⊢
 clear C hs
 go_enter Tryz.func57,Tryz.ntmps57
 go_wp2_with fail
 refine P.mono ?_
 rintro e w1 ⟨rfl,C1⟩
 have FIN:Aside _:=C1
 clear P C1
 go_wp2_with fail
 go_ret
 exact⟨rfl,FIN.out⟩
def areB(T:List Ta.TR)(d:List Int):Bool:=d.all fun j=>stT T j != 0
theorem areA(C:Co w L D F g v σ){a:Option Addr}{n cap:Nat}{d:List Int}(hd:d.length=n)(hn:n≤1000000)(o:Ow w F (.slice a n cap) d) :
  Calls Tryz.prog 36 #[pt D.B,.slice a n cap] w fun e w'=>e=.returned (.bool (areB σ.T d))∧Cox L D F w σ w':=by
 obtain⟨R,hR⟩:∃R,areB σ.T d=R:=⟨_,rfl⟩
 rw[hR]
 have HR:Aside (areB σ.T d=R):=hR
 have CT:Aside (Co w L D F g v σ):=C
 have OW:Aside (Ow w F (.slice a n cap) d):=o
 have HD:Aside (d.length=n):=hd
 have X:Aside (Gc L F w F w):=Gc.refl _ _ _
 clear C o hd hR
 go_enter Tryz.func36,Tryz.ntmps36
 go_wp2_with fail
 go_loopg [6,9] n (fun kx s6 s9 wr=>∃(k:Nat),s9=.int .i64 k∧k≤n∧n-k≤kx∧∃Fr gr vr,Aside (Co wr L D Fr gr vr σ)∧Aside (Ow wr Fr (.slice a n cap) d)∧Aside (Gc L F w Fr wr)∧Aside (areB σ.T (d.take k)=true))
 case atStart=>exact⟨0,rfl,by omega,by omega,F,g,v,CT,OW,X,(rfl:areB σ.T (d.take 0)=true)⟩
 case round=>
  obtain⟨k,rfl,hk,hkx,Fr,gr,vr,Cr,Or,Gr,Ar⟩:=hrel
  by_cases c:k<n
  ·have hlt:(k:Int)<(n:Int):=by omega
   obtain⟨gg,off,rfl,glt,hc⟩:=Or.out.at HD.out c
   have hkd:k<d.length:=by rw[HD.out];exact c
   obtain⟨j,hj⟩:∃j,d.getD k 0=j:=⟨_,rfl⟩
   rw[hj] at hc
   have P:=taskA Cr.out j
   have HJ:Aside (d.getD k 0=j∧k<d.length):=⟨hj,hkd⟩
   obtain⟨B,hB⟩:∃B,(stT σ.T j != 0)=B:=⟨_,rfl⟩
   rw[hB] at P
   have HB:Aside _:=hB
   clear hj hkd hB
   go_wp2_with fail
   refine P.mono ?_
   rintro e w1 ⟨rfl,F1,g1,v1,C1,G1⟩
   have O1:Aside (Ow w1 F1 (.slice (some ⟨gg,off,none⟩) n cap) d):=Or.out.gc G1
   have X1:Aside (Gc L F w F1 w1):=Gr.out.trans G1
   have CT1:Aside (Co w1 L D F1 g1 v1 σ):=C1
   clear P C1 G1 hc
   cases B with
   | true=>
    go_wp2_with fail
    go_roundg (n-(k+1))
    case measure=>omega
    case rel=>
     refine⟨k+1,by go_num,by omega,Nat.le_refl _,F1,g1,v1,CT1,O1,X1,?_⟩
     show areB σ.T (d.take (k+1))=true
     unfold areB
     rw[Da.take_up HJ.out.2,List.all_append]
     have:=Ar.out
     unfold areB at this
     rw[this]
     simp only[List.all_cons,List.all_nil,Bool.and_true,Bool.true_and]
     rw[HJ.out.1]
     exact HB.out
   | false=>
    have FIN:Aside (Cox L D F w σ w1∧areB σ.T d=false):=by
     refine⟨⟨F1,g1,v1,CT1.out,X1.out⟩,?_⟩
     unfold areB
     rw[List.all_eq_false]
     refine⟨j,?_,by simpa using HB.out⟩
     rw[←HJ.out.1]
     exact Da.getD_mem HJ.out.2
    have eR:R=false:=HR.out.symm.trans FIN.out.2
    subst eR
    go_wp2_with fail
    go_ret
    exact⟨rfl,FIN.out.1⟩
  ·have hnl:¬(k:Int)<(n:Int):=by omega
   have FIN:Aside (Cox L D F w σ wr∧areB σ.T d=true):=by
    refine⟨⟨Fr,gr,vr,Cr.out,Gr.out⟩,?_⟩
    have:=Ar.out
    rw[List.take_of_length_le (by rw[HD.out];omega)] at this
    exact this
   have eR:R=true:=HR.out.symm.trans FIN.out.2
   subst eR
   go_wp2_with fail
   go_ret
   exact⟨rfl,FIN.out.1⟩
def lostB(s:Int):Bool:=decide (s=5∨s=6)
theorem lost_over(s:Int):lostB s=if Ta.overB s=true then s != 4 else false:=by
 unfold lostB Ta.overB
 by_cases h1:4≤s
 ·by_cases h2:s≤6
  ·rw[decide_eq_true h1,decide_eq_true h2]
   simp only[Bool.and_self,if_true]
   rw[Bool.eq_iff_iff]
   simp only[decide_eq_true_eq,bne_iff_ne,ne_eq]
   omega
  ·rw[decide_eq_false h2,Bool.and_false,if_neg (by decide)]
   simp only[decide_eq_false_iff_not]
   omega
 ·rw[decide_eq_false h1,Bool.false_and,if_neg (by decide)]
  simp only[decide_eq_false_iff_not]
  omega
theorem lostA(C:Co w L D F g v σ)(id:Int) :
  Calls Tryz.prog 38 #[pt D.B,.int .i64 id] w fun e w'=>e=.returned (.bool (lostB (stT σ.T id)))∧Cox L D F w σ w':=by
 have P:=statusA C id
 obtain⟨s,hs⟩:∃s,stT σ.T id=s:=⟨_,rfl⟩
 rw[hs] at P⊢
 rw[lost_over]
 have hO:=fun u=>Ta.over_any s u
 obtain⟨B,hB⟩:∃B,Ta.overB s=B:=⟨_,rfl⟩
 rw[hB]
 rw[hB] at hO
 obtain⟨R,hR⟩:∃R,(if B=true then s != 4 else false)=R:=⟨_,rfl⟩
 rw[hR]
 have HR:Aside _:=hR
 clear C hs hB hR
 go_enter Tryz.func38,Tryz.ntmps38
 go_wp2_with fail
 refine P.mono ?_
 rintro e w1 ⟨rfl,C1⟩
 have FIN:Aside _:=C1
 clear P C1
 go_wp2_with fail
 refine(hO _).mono ?_
 rintro e w2 ⟨rfl,rfl⟩
 clear hO
 cases B with
 | true=>
  have eR:(s != 4)=R:=HR.out
  subst eR
  go_wp2_with fail
  go_ret
  exact⟨rfl,FIN.out⟩
 | false=>
  have eR:false=R:=HR.out
  subst eR
  go_wp2_with fail
  go_ret
  exact⟨rfl,FIN.out⟩
end
section
variable {w w' u:World}{L i:Nat}{D:CAd}{F F':Nat→Nat→Prop}{g v:Value}{σ:CS}{x:Ta.TR}
def lostL(T:List Ta.TR)(d:List Int):Bool:=d.any fun j=>lostB (stT T j)
theorem indLost(C:Co w L D F g v σ){a:Option Addr}{n cap:Nat}{d:List Int}(hd:d.length=n)(hn:n≤1000000)(o:Ow w F (.slice a n cap) d) :
  Calls Tryz.prog 77 #[.slice a n cap,.func (.func 38) #[pt D.B] #[]] w fun e w'=>(∃z:Int,e=.returned (.int .i64 z)∧decide (z≥0)=lostL σ.T d)∧Cox L D F w σ w':=by
 have eg:=enters_of (P:=Tryz.prog) Tryz.func38 (by kernel_rfl) rfl
 have CT:Aside (Co w L D F g v σ):=C
 have OW:Aside (Ow w F (.slice a n cap) d):=o
 have HD:Aside (d.length=n):=hd
 have X:Aside (Gc L F w F w):=Gc.refl _ _ _
 clear C o hd
 go_enter Tryz.func77,Tryz.ntmps77
 go_wp2_with fail
 go_loopg [8] n (fun kx s8 wr=>∃(k:Nat),s8=.int .i64 k∧k≤n∧n-k≤kx∧∃Fr gr vr,Aside (Co wr L D Fr gr vr σ)∧Aside (Ow wr Fr (.slice a n cap) d)∧Aside (Gc L F w Fr wr)∧Aside (lostL σ.T (d.take k)=false))
 case atStart=>exact⟨0,rfl,by omega,by omega,F,g,v,CT,OW,X,(rfl:lostL σ.T (d.take 0)=false)⟩
 case round=>
  obtain⟨k,rfl,hk,hkx,Fr,gr,vr,Cr,Or,Gr,Ar⟩:=hrel
  by_cases c:k<n
  ·have hlt:(k:Int)<(n:Int):=by omega
   obtain⟨gg,off,rfl,glt,hc⟩:=Or.out.at HD.out c
   have hkd:k<d.length:=by rw[HD.out];exact c
   obtain⟨j,hj⟩:∃j,d.getD k 0=j:=⟨_,rfl⟩
   rw[hj] at hc
   have P:=lostA Cr.out j
   have HJ:Aside (d.getD k 0=j∧k<d.length):=⟨hj,hkd⟩
   obtain⟨B,hB⟩:∃B,lostB (stT σ.T j)=B:=⟨_,rfl⟩
   rw[hB] at P
   have HB:Aside _:=hB
   clear hj hkd hB
   go_wp2_with fail
   refine P.mono ?_
   rintro e w1 ⟨rfl,F1,g1,v1,C1,G1⟩
   have O1:Aside (Ow w1 F1 (.slice (some ⟨gg,off,none⟩) n cap) d):=Or.out.gc G1
   have X1:Aside (Gc L F w F1 w1):=Gr.out.trans G1
   have CT1:Aside (Co w1 L D F1 g1 v1 σ):=C1
   clear P C1 G1 hc
   cases B with
   | false=>
    go_wp2_with fail
    go_roundg (n-(k+1))
    case measure=>omega
    case rel=>
     refine⟨k+1,by go_num,by omega,Nat.le_refl _,F1,g1,v1,CT1,O1,X1,?_⟩
     show lostL σ.T (d.take (k+1))=false
     unfold lostL
     rw[Da.take_up HJ.out.2,List.any_append]
     have:=Ar.out
     unfold lostL at this
     rw[this]
     simp only[List.any_cons,List.any_nil,Bool.or_false,Bool.false_or]
     rw[HJ.out.1]
     exact HB.out
   | true=>
    have FIN:Aside (Cox L D F w σ w1∧lostL σ.T d=true):=by
     refine⟨⟨F1,g1,v1,CT1.out,X1.out⟩,?_⟩
     unfold lostL
     rw[List.any_eq_true]
     refine⟨j,?_,HB.out⟩
     rw[←HJ.out.1]
     exact Da.getD_mem HJ.out.2
    go_wp2_with fail
    go_ret
    exact⟨⟨k,rfl,by rw[FIN.out.2];exact decide_eq_true (by omega)⟩,FIN.out.1⟩
  ·have hnl:¬(k:Int)<(n:Int):=by omega
   have FIN:Aside (Cox L D F w σ wr∧lostL σ.T d=false):=by
    refine⟨⟨Fr,gr,vr,Cr.out,Gr.out⟩,?_⟩
    have:=Ar.out
    rw[List.take_of_length_le (by rw[HD.out];omega)] at this
    exact this
   go_wp2_with fail
   go_ret
   exact⟨⟨-1,rfl,by rw[FIN.out.2];rfl⟩,FIN.out.1⟩
theorem contLost(C:Co w L D F g v σ){a:Option Addr}{n cap:Nat}{d:List Int}(hd:d.length=n)(hn:n≤1000000)(o:Ow w F (.slice a n cap) d) :
  Calls Tryz.prog 37 #[.slice a n cap,.func (.func 38) #[pt D.B] #[]] w fun e w'=>e=.returned (.bool (lostL σ.T d))∧Cox L D F w σ w':=by
 have P:=indLost C hd hn o
 obtain⟨R,hR⟩:∃R,lostL σ.T d=R:=⟨_,rfl⟩
 rw[hR] at P⊢
 clear C o hd hn hR
 go_enter Tryz.func37,Tryz.ntmps37
 go_wp2_with fail
 refine P.mono ?_
 rintro e w1 ⟨⟨z,rfl,hz⟩,X⟩
 have FIN:Aside _:=X
 subst hz
 clear P X
 go_wp2_with fail
 go_ret
 exact⟨rfl,FIN.out⟩
theorem Co.frX{X:Nat→Prop}(C:Co w L D F g v σ)(f:Ta.Fr X w w')(hX:∀k,X k→(∀p,¬F p k)∧NQ w k):Co w' L D F g v σ:=by
 have KK:K8 (fun q=>False) w' L D F g v σ:=C.keep (fun q=>False) f (fun q _ k hk hy=>(hX k hy).1 q hk) (fun _ k hk=>(hX k hk).2)
 exact⟨KK.head (by simp),KK.tab (by simp),KK.que (by simp),KK.whl (by simp),KK.dag (by simp),KK.cre (by simp),KK.evs (by simp),KK.gon (by simp),C.f0,C.f2,C.f5,C.f6,C.f7,C.f8,C.fp.grow f.size,Nat.le_trans C.lw f.size,Nat.le_trans C.wb f.size,C.qok,C.th1,C.th8,C.k16⟩
theorem Gc.ownX{w0:World}{F0:Nat→Nat→Prop}{X:Nat→Prop}(G:Gc L F0 w0 F w)(hX:∀k,X k→w0.heap.size≤k)(hL:L≤w0.heap.size)(f:Ta.Fr X w w'):Gc L F0 w0 F w':=
 ⟨G.low.trans (f.toBelow (fun k hk=>Nat.le_trans hL (hX k hk)) (Nat.le_trans hL G.size)),fun k hk hF hU=>(f.block k (Nat.lt_of_lt_of_le hk G.size) (fun e=>by have:=hX k e;omega)).trans (G.block k hk hF hU),G.new⟩
def Owb(S:Nat)(w:World)(F:Nat→Nat→Prop)(v:Value)(d:List Int):Prop:=Da.OwnI w S v d∧∀k,v.ownBlock=some k→∀p,¬F p k
theorem Owb.ow{S:Nat}{v:Value}{d:List Int}(h:Owb S w F v d):Ow w F v d:=⟨h.1.low (Nat.zero_le _),h.2⟩
theorem Owb.gc{S:Nat}{v:Value}{d:List Int}(h:Owb S w F v d)(G:Gc L F w F' w'):Owb S w' F' v d:=by
 have q:=h.ow.gc G
 refine⟨h.1.of_block fun k hk=>?_,q.2⟩
 obtain⟨cs,hc⟩:=h.1.rowT hk
 exact((show Bx w F k cs 3 from⟨hc,h.2 k hk⟩).gc mq_int G).1.trans hc.symm
end
section
variable {w w' u:World}{L i:Nat}{D:CAd}{F F':Nat→Nat→Prop}{g v:Value}{σ:CS}{x:Ta.TR}
def CanT(T:List Ta.TR)(j:Int):Prop:=∃(k:Nat)(x:Ta.TR),j=(k:Int)+1∧T[k]?=some x∧(x.s=1∨x.s=2)∧0≤x.p
def isC(x:Ta.TR):Bool:=x.s==1||x.s==2
theorem can_len:∀(d:List Int)(T:List Ta.TR),d.Nodup→(∀j∈d,CanT T j)→d.length≤T.countP isC
 | [],T,_,_=>Nat.zero_le _
 | j::d,T,h,hw=>by
  obtain⟨h1,h2⟩:=List.nodup_cons.1 h
  obtain⟨k,x,rfl,hx,hs,hp⟩:=hw j (by simp)
  have ih:=can_len d (T.set k {x with s:=3}) h2 (fun j' hj'=>by
   obtain⟨k',x',rfl,hx',hs',hp'⟩:=hw j' (by simp[hj'])
   have hne:k≠k':=fun e=>h1 (by rw[e];exact hj')
   exact⟨k',x',rfl,by rw[List.getElem?_set_ne hne];exact hx',hs',hp'⟩)
  have:=Ta.cntP_set isC T k x {x with s:=3} hx
  have e1:isC x=true:=by rcases hs with hs|hs<;>simp[isC,hs]
  have e2:isC {x with s:=3}=false:=by simp[isC]
  rw[e1,e2] at this
  simp at this
  simp
  omega
theorem CanT.le{T:List Ta.TR}{j:Int}(h:CanT T j):1≤j∧j≤T.length:=by
 obtain⟨k,x,rfl,hx,_⟩:=h
 have:=(List.getElem?_eq_some_iff.1 hx).1
 omega
theorem Wt.can{T:List Ta.TR}{j:Int}(h:Wt T j):CanT T j:=by
 obtain⟨k,x,e,hx,hs,hp⟩:=h
 exact⟨k,x,e,hx,.inl hs,hp⟩
def canX(σ:CS)(i:Nat)(x:Ta.TR):CS:=if x.s=1 then stopS (turnS σ i x 6) ((i:Int)+1) else wdrS (turnS σ i x 6) ((i:Int)+1)
def canStep(σ:CS)(j:Int):CS:=match σ.T[(j-1).toNat]? with
 | some x=>canX σ (j-1).toNat x
 | none=>σ
def canL(d:List Int)(σ:CS):CS:=d.foldl canStep σ
theorem canStep_at(σ:CS)(k:Nat)(x:Ta.TR)(h:σ.T[k]?=some x):canStep σ ((k:Int)+1)=canX σ k x:=by
 unfold canStep
 rw[show((k:Int)+1-1).toNat=k by omega,h]
structure SamC(σ σ':CS):Prop where
 th:σ'.th=σ.th
 k:σ'.k=σ.k
 n:σ'.n=σ.n
 now:σ'.now=σ.now
 E:σ'.E=σ.E
 N:σ'.N=σ.N
 m:σ'.m=σ.m
 tk:σ'.tk=σ.tk
 cl:σ'.cl=σ.cl
 gone:σ'.gone=σ.gone
 len:σ'.T.length=σ.T.length
theorem SamC.refl(σ:CS):SamC σ σ:=⟨rfl,rfl,rfl,rfl,rfl,rfl,rfl,rfl,rfl,rfl,rfl⟩
theorem SamC.trans{a b c:CS}(h:SamC a b)(k:SamC b c):SamC a c:=⟨k.th.trans h.th,k.k.trans h.k,k.n.trans h.n,k.now.trans h.now,k.E.trans h.E,k.N.trans h.N,k.m.trans h.m,k.tk.trans h.tk,k.cl.trans h.cl,k.gone.trans h.gone,k.len.trans h.len⟩
theorem canX_T(σ:CS)(i:Nat)(x:Ta.TR):(canX σ i x).T=σ.T.set i (turnX x 6):=by
 unfold canX
 split<;>rfl
theorem canX_sam(σ:CS)(i:Nat)(x:Ta.TR):SamC σ (canX σ i x):=by
 refine⟨?_,?_,?_,?_,?_,?_,?_,?_,?_,?_,by rw[canX_T,List.length_set]⟩<;>(unfold canX;split<;>rfl)
theorem canX_o(σ:CS)(i:Nat)(x:Ta.TR):(canX σ i x).o=σ.o-1∧(canX σ i x).qn≤σ.qn+1∧(canX σ i x).ev.length=σ.ev.length+1:=by
 unfold canX
 split
 ·exact⟨rfl,Nat.le_succ _,by show(σ.ev++[_]).length=_;simp⟩
 ·exact⟨rfl,Nat.le_refl _,by show(σ.ev++[_]).length=_;simp⟩
theorem canL_one(d:List Int)(σ:CS)(I:Nat)(hI:I<d.length):canL (d.take (I+1)) σ=canStep (canL (d.take I) σ) (d.getD I 0):=by
 unfold canL
 rw[Da.take_up hI,List.foldl_append]
 rfl
theorem canL_inv(σ:CS){d:List Int}(hn:d.Nodup)(hw:∀j∈d,CanT σ.T j):∀I,I≤d.length→SamC σ (canL (d.take I) σ)∧(canL (d.take I) σ).qn≤σ.qn+I∧(canL (d.take I) σ).ev.length=σ.ev.length+I∧(canL (d.take I) σ).o=σ.o-I∧(∀k:Nat,((k:Int)+1)∉d.take I→(canL (d.take I) σ).T[k]?=σ.T[k]?):=by
 intro I
 induction I with
 | zero=>intro _;exact⟨SamC.refl σ,Nat.le_refl _,rfl,rfl,fun k _=>rfl⟩
 | succ I ih=>
  intro hI
  have hI':I<d.length:=by omega
  obtain⟨s,q,e,o,T⟩:=ih (by omega)
  obtain⟨k,x,hj,hx,hs,hp⟩:=hw _ (Da.getD_mem hI')
  have hk:((k:Int)+1)∉d.take I:=by rw[←hj];exact Da.nodup_take hn hI'
  have hx':(canL (d.take I) σ).T[k]?=some x:=(T k hk).trans hx
  rw[canL_one d σ I hI',hj,canStep_at _ k x hx']
  obtain⟨c1,c2,c3⟩:=canX_o (canL (d.take I) σ) k x
  refine⟨s.trans (canX_sam _ _ _),by omega,by omega,by omega,fun k' hk'=>?_⟩
  rw[Da.mem_take_up hI',hj] at hk'
  have hne:k≠k':=fun e=>hk' (.inr (by rw[e]))
  rw[canX_T,List.getElem?_set_ne hne]
  exact T k' (fun h=>hk' (.inl h))
theorem turnC6(C:Co w L D F g v σ)(hl:σ.ev.length<1000000)(hn:σ.qn≤1000)(t:Int)(hi:σ.T[i]?=some x)(hs:x.s=1∨x.s=2)(hp:0≤x.p)(wi:Wl.wfI ((i:Int)+1)) :
  Calls Tryz.prog 56 #[pt D.B,.int .i64 t,.int .i64 ((i:Int)+1),.int .i64 6] w fun e w'=>e=.returned (.tuple #[])∧Cox L D F w (canX σ i x) w':=by
 unfold canX
 rcases hs with hs|hs
 ·rw[if_pos hs]
  exact turn16 C hl t hi hs hp wi
 ·rw[if_neg (by omega)]
  exact turn26 C hl hn t hi hs hp
theorem wf_lt{T:List Ta.TR}{j:Int}(h:CanT T j)(hT:T.length≤200):Wl.wfI j:=by
 have:=h.le
 exact Da.wfI_of (by omega) (by omega)
theorem cancelAllC(C:Co w L D F g v σ){a:Option Addr}{n cap:Nat}{d:List Int}(hd:d.length=n)(o:Ow w F (.slice a n cap) d)(nd:d.Nodup)(hw:∀j∈d,CanT σ.T j)(hl:σ.ev.length+300<1000000)(hT:σ.T.length≤200)(hq:σ.qn+n≤1000) :
  Calls Tryz.prog 96 #[pt D.B,.slice a n cap] w fun e w'=>e=.returned (.tuple #[])∧Cox L D F w (canL d σ) w':=by
 have hn200:n≤200:=by
  have h1:=can_len d σ.T nd hw
  have h2:=Ta.cntP_le isC σ.T
  omega
 have CT:Aside (Co w L D F g v (canL (d.take 0) σ)):=C
 have OW:Aside (Ow w F (.slice a n cap) d):=o
 have HD:Aside (d.length=n∧d.Nodup∧(∀j∈d,CanT σ.T j)∧σ.ev.length+300<1000000∧σ.T.length≤200∧σ.qn+n≤1000):=⟨hd,nd,hw,hl,hT,hq⟩
 have X:Aside (Gc L F w F w):=Gc.refl _ _ _
 clear C o hd nd hw hl hT hq
 go_enter Tryz.func96,Tryz.ntmps96
 go_wp2_with fail
 go_loopg [5,8] n (fun kx s5 s8 wr=>∃(k:Nat),s8=.int .i64 k∧k≤n∧n-k≤kx∧∃Fr gr vr,Aside (Co wr L D Fr gr vr (canL (d.take k) σ))∧Aside (Ow wr Fr (.slice a n cap) d)∧Aside (Gc L F w Fr wr))
 case atStart=>exact⟨0,rfl,by omega,by omega,F,g,v,CT,OW,X⟩
 case round=>
  obtain⟨k,rfl,hk,hkx,Fr,gr,vr,Cr,Or,Gr⟩:=hrel
  by_cases c:k<n
  ·have hlt:(k:Int)<(n:Int):=by omega
   obtain⟨gg,off,rfl,glt,hc⟩:=Or.out.at HD.out.1 c
   have hkd:k<d.length:=by rw[HD.out.1];exact c
   have hcan:=HD.out.2.2.1 _ (Da.getD_mem hkd)
   have hwf:=wf_lt hcan HD.out.2.2.2.2.1
   obtain⟨kk,x,ej,hx,hs,hp⟩:=hcan
   obtain⟨s1,q1,e1,o1,T1⟩:=canL_inv σ HD.out.2.1 HD.out.2.2.1 k (by omega)
   have hx':(canL (d.take k) σ).T[kk]?=some x:=(T1 kk (by rw[←ej];exact Da.nodup_take HD.out.2.1 hkd)).trans hx
   rw[ej] at hwf
   have P:=turnC6 Cr.out (by have:=HD.out.2.2.2.1;omega) (by have:=HD.out.2.2.2.2.2;omega) (-1) hx' hs hp hwf
   have RL:Aside (canL (d.take (k+1)) σ=canX (canL (d.take k) σ) kk x):=by
    show _=_
    rw[canL_one d σ k hkd,ej,canStep_at _ kk x hx']
   rw[ej] at hc
   clear hx hx' hs hp s1 q1 e1 o1 T1 ej hkd hwf
   go_wp2_with fail
   refine P.mono ?_
   rintro e w4 ⟨rfl,F4,g4,v4,C4,G4⟩
   have C4':Aside (Co w4 L D F4 g4 v4 (canL (d.take (k+1)) σ)):=by
    show Co w4 L D F4 g4 v4 (canL (d.take (k+1)) σ)
    rw[RL.out];exact C4
   have O4:Aside (Ow w4 F4 (.slice (some ⟨gg,off,none⟩) n cap) d):=Or.out.gc G4
   have X4:Aside (Gc L F w F4 w4):=Gr.out.trans G4
   clear P C4 G4 hc RL
   go_wp2_with fail
   go_roundg (n-(k+1))
   case measure=>omega
   case rel=>exact⟨k+1,by go_num,by omega,Nat.le_refl _,F4,g4,v4,C4',O4,X4⟩
  ·have hnl:¬(k:Int)<(n:Int):=by omega
   have FIN:Aside (Cox L D F w (canL d σ) wr):=by
    refine⟨Fr,gr,vr,?_,Gr.out⟩
    have:=Cr.out
    rw[List.take_of_length_le (by rw[HD.out.1];omega)] at this
    exact this
   clear hk hkx
   go_wp2_with fail
   go_end0
   exact⟨rfl,FIN.out⟩
end
section
variable {w w' u:World}{L i:Nat}{D:CAd}{F F':Nat→Nat→Prop}{g v:Value}{σ:CS}{x:Ta.TR}
theorem cancelL(C:Co w L D F g v σ)(hi:σ.T[i]?=some x)(h0:x.s≠0)(h1:x.s≠1)(h2:x.s≠2) :
  Calls Tryz.prog 13 #[pt D.B,.int .i64 ((i:Int)+1)] w fun e w'=>e=.returned (.int .i64 8)∧Cox L D F w σ w':=by
 have P:=statusC C hi
 obtain⟨s,hs'⟩:∃s,x.s=s:=⟨_,rfl⟩
 rw[hs'] at P h0 h1 h2
 have e0:(s==0)=false:=by simpa using h0
 have e1:(s==1)=false:=by simpa using h1
 have e2:(s==2)=false:=by simpa using h2
 clear C hi hs' h0 h1 h2
 go_enter Tryz.func13,Tryz.ntmps13
 go_wp2_with fail
 refine P.mono ?_
 rintro e w1 ⟨rfl,C1⟩
 have FIN:Aside _:=C1
 clear P C1
 go_wp2_with fail
 go_ret
 exact⟨rfl,FIN.out⟩
end
section
variable {w w' u:World}{L i:Nat}{D:CAd}{F F':Nat→Nat→Prop}{g v:Value}{σ:CS}{x:Ta.TR}
def KillL(E:Da.Rel)(id:Int)(d:List Int):Prop:=Da.Up d∧∀j,j∈d↔Da.Rch E id j
def kilE(E:Da.Rel)(id:Int):Da.Rel:=fun q j=>E q j∧j≠id∧¬Da.Rch E id j
theorem Co.killC(C:Co w L D F g v σ)(hN:σ.N<100000){id:Int}(hi:Da.wfI id) :
  Calls Tryz.prog 95 #[pt D.Bd,.int .i64 id] w fun e w'=>∃a n cap d F',e=.returned (.slice a n cap)∧d.length=n∧KillL σ.E id d∧Owb w.heap.size w' F' (.slice a n cap) d∧(∃g' v',Co w' L D F' g' v' {σ with E:=kilE σ.E id})∧Gc L F w F' w':=by
 refine(Da.killG C.dag hN hi).mono ?_
 rintro e w' ⟨v',d,X',rfl,o,up,md,Dg',st,dis,_⟩
 obtain⟨C',G'⟩:=C.setDag Dg' st
 obtain⟨a,cap,e,_⟩:=o.isI
 subst e
 refine⟨a,_,cap,d,_,rfl,rfl,⟨up,md⟩,⟨o,fun k hk p hp=>?_⟩,⟨_,_,C'⟩,G'⟩
 by_cases e:p=4
 ·subst e;rw[fset_same] at hp;exact dis k hk hp
 ·rw[fset_ne _ _ e] at hp
  have:=C.fp.lt p k hp
  have:=(o.rowLt hk).1
  omega
theorem Owb.app{S:Nat}{w0:World}{F0:Nat→Nat→Prop}{v v0:Value}{d c:List Int}{a:Option Addr}{n cap:Nat}(o:Owb S w F v d)(oc:Ow w F (.slice a n cap) c)(hc:c.length=n)(C:Co w L D F g v0 σ)(G:Gc L F0 w0 F w)(hS:w0.heap.size≤S)(hS2:S≤w.heap.size)(hL:L≤w0.heap.size)(hd:d.length+c.length≤1000000) :
  ∃v' w',(Builtin.append_ #[41,41] 41 #[v,.slice a n cap]).run Tryz.prog w=.ok v' w'∧
  Owb S w' F v' (d++c)∧Co w' L D F g v0 σ∧Gc L F0 w0 F w'∧Ta.Fr (fun k=>v.ownBlock=some k) w w'∧(∀k,v'.ownBlock=some k→v.ownBlock=some k∨w.heap.size≤k):=by
 subst hc
 obtain⟨v',w',hr,o',gr,hn⟩:=Da.app_run o.1 oc.1.isIv hd hS2 41
 have f':Ta.Fr (fun k=>v.ownBlock=some k) w w':=ofD (Da.Fr.of_grown gr)
 refine⟨v',w',hr,⟨o',fun k hk p hp=>?_⟩,C.frX f' (fun k hk=>⟨o.2 k hk,?_⟩),G.ownX (fun k hk=>Nat.le_trans hS (o.1.rowLt hk).1) hL f',f',hn⟩
 ·rcases hn k hk with e|e
  ·exact o.2 k e p hp
  ·have:=C.fp.lt p k hp;omega
 ·obtain⟨cs,hc⟩:=o.1.rowT hk
  exact nq_of hc (by unfold QT;decide)
theorem Owb.one(C:Co w L D F g v σ)(x:Int){S:Nat}(hS:S≤w.heap.size):Owb S (w.alloc (.cells #[.int .i64 x] 3)) F (.slice (some ⟨w.heap.size,0,none⟩) 1 1) [x]:=
 ⟨Da.OwnI.one w x hS,fun k hk p hp=>by
  have:=C.fp.lt p k hp
  injection hk with hk
  have hk:w.heap.size=k:=hk
  omega⟩
def dropE(σ:CS)(id:Int):CS:={σ with E:=kilE σ.E id}
theorem kill_nodup{E:Da.Rel}{id:Int}{d:List Int}(h:KillL E id d)(hlt:∀p i,E p i→p<i):(id::d).Nodup:=by
 refine List.nodup_cons.2 ⟨fun hm=>?_,up_nodup h.1⟩
 have:=Da.Rch.lt hlt ((h.2 id).1 hm)
 omega
theorem dropC(C:Co w L D F g v σ){id:Int}(hc:CanT σ.T id)(hN:σ.N<100000)(hw:∀j,Da.Rch σ.E id j→Wt σ.T j)(hl:σ.ev.length+300<1000000)(hT:σ.T.length≤200)(hq:σ.qn+σ.T.countP isC≤1000) :
  Calls Tryz.prog 49 #[pt D.B,.int .i64 id] w fun e w'=>∃a n cap,e=.returned (.slice a n cap)∧∃d F',KillL σ.E id d∧n=d.length+1∧Owb w.heap.size w' F' (.slice a n cap) (id::d)∧(∃g' v',Co w' L D F' g' v' (canL (id::d) (dropE σ id)))∧Gc L F w F' w':=by
 have hwf:Da.wfI id:=wf_lt hc hT
 obtain⟨S,hS⟩:∃S,w.heap.size=S:=⟨_,rfl⟩
 obtain⟨u,hu⟩:∃z,w.alloc (.cells #[.int .i64 id] 3)=z:=⟨_,rfl⟩
 have bu:Below w.heap.size w u:=by rw[←hu];exact belA _ _
 have Cu:Co u L D F g v σ:=C.below bu
 have c6:u.cell? ⟨D.B,6,none⟩=some (pt D.Bd):=Cu.c6
 have ou:Owb S u F (.slice (some ⟨S,0,none⟩) 1 1) [id]:=by rw[←hu,←hS];exact Owb.one C id (Nat.le_refl _)
 have PK:Calls Tryz.prog 95 #[pt D.Bd,.int .i64 id] u fun e w'=>∃a n cap d F' v' w'',e=.returned (.slice a n cap)∧d.length=n∧KillL σ.E id d∧(Builtin.append_ #[41,41] 41 #[.slice (some ⟨S,0,none⟩) 1 1,.slice a n cap]).run Tryz.prog w'=.ok v' w''∧Owb S w'' F' v' (id::d)∧(∃g' v0,Co w'' L D F' g' v0 (dropE σ id))∧Gc L F w F' w'':=by
  refine(Cu.killC hN hwf).mono ?_
  rintro e w' ⟨a,n,cap,d,F',h1,h2,h3,h4,⟨g',v',h5⟩,h6⟩
  have hdl:d.length≤200:=by
   have h1:=wt_len d σ.T (up_nodup h3.1) (fun j hj=>hw j ((h3.2 j).1 hj))
   have h2:=Ta.cntP_le isW σ.T
   omega
  have G0:Gc L F w F' w':=(Gc.below F C.lw bu).trans h6
  have o1:=ou.gc h6
  obtain⟨v1,w1,hr,o3,C3,G3,_,_⟩:=o1.app h4.ow h2 h5 G0 (Nat.le_of_eq hS) (by rw[←hS];exact G0.size) C.lw (by simp;omega)
  exact⟨a,n,cap,d,F',v1,w1,h1,h2,h3,hr,o3,⟨g',v',C3⟩,G3⟩
 have HH:Aside (CanT σ.T id∧(∀j,Da.Rch σ.E id j→Wt σ.T j)∧σ.ev.length+300<1000000∧σ.T.length≤200∧σ.qn+σ.T.countP isC≤1000∧∀p i,σ.E p i→p<i):=⟨hc,hw,hl,hT,hq,fun p i h=>(C.dag.ord p i h).2.1⟩
 have HU:Aside _:=hu
 have HS:Aside (w.heap.size=S):=hS
 rw[hS]
 clear C Cu hu hS bu ou hc hN hw hl hT hq hwf
 go_enter Tryz.func49,Tryz.ntmps49
 have cA:(w.alloc (.cells #[.int .i64 id] 3)).cell? ⟨D.B,6,none⟩=some (pt D.Bd):=by rw[HU.out];exact c6
 go_wp2_with fail
 rw[HU.out]
 try simp only[HS.out]
 clear cA
 refine PK.mono ?_
 rintro e w1 ⟨a,n,cap,d,F1,v1,w2,rfl,hd,kl,hr,o2,⟨g2,v2,C2⟩,G2⟩
 clear PK c6
 have nd:=kill_nodup kl HH.out.2.2.2.2.2
 have can:∀j∈id::d,CanT (dropE σ id).T j:=fun j hj=>by
  rcases List.mem_cons.1 hj with rfl|hj
  ·exact HH.out.1
  ·exact(HH.out.2.1 j ((kl.2 j).1 hj)).can
 have hlen:=can_len (id::d) σ.T nd can
 obtain⟨a2,cap2,e2,_⟩:=o2.1.isI
 subst e2
 obtain⟨n2,hn2⟩:∃n2,(id::d).length=n2:=⟨_,rfl⟩
 rw[hn2] at o2 hr
 have P:=cancelAllC C2 hn2 o2.ow nd can (show σ.ev.length+300<1000000 from HH.out.2.2.1) (show σ.T.length≤200 from HH.out.2.2.2.1) (show σ.qn+n2≤1000 by have:=HH.out.2.2.2.2.1;omega)
 have HK:Aside (KillL σ.E id d∧n2=d.length+1):=⟨kl,by rw[←hn2];rfl⟩
 have X2:Aside (Gc L F w F1 w2∧Owb S w2 F1 (.slice a2 n2 cap2) (id::d)):=⟨G2,o2⟩
 clear o2 C2 G2 nd can hlen kl hn2 hd
 go_wp2_with (at_builtin;refine Da.wpList_app _ rfl _ _ 41 rfl _ _ rfl rfl _ w2 hr ?_;clear hr)
 refine P.mono ?_
 rintro e w3 ⟨rfl,F3,g3,v3,C3,G3⟩
 have FIN:Aside (∃a n cap,Ending.returned (.slice a2 n2 cap2)=.returned (.slice a n cap)∧∃d F',KillL σ.E id d∧n=d.length+1∧Owb S w3 F' (.slice a n cap) (id::d)∧(∃g' v',Co w3 L D F' g' v' (canL (id::d) (dropE σ id)))∧Gc L F w F' w3):=
  ⟨a2,n2,cap2,rfl,d,F3,HK.out.1,HK.out.2,X2.out.2.gc G3,⟨g3,v3,C3⟩,X2.out.1.trans G3⟩
 clear P C3 G3
 go_wp2_with fail
 go_ret
 exact FIN.out
theorem cancelW(C:Co w L D F g v σ)(hi:σ.T[i]?=some x)(hs:x.s=1∨x.s=2)(hp:0≤x.p)(hN:σ.N<100000)(hw:∀j,Da.Rch σ.E ((i:Int)+1) j→Wt σ.T j)(hl:σ.ev.length+300<1000000)(hT:σ.T.length≤200)(hq:σ.qn+σ.T.countP isC≤1000) :
  Calls Tryz.prog 13 #[pt D.B,.int .i64 ((i:Int)+1)] w fun e w'=>e=.returned (.int .i64 0)∧∃d,KillL σ.E ((i:Int)+1) d∧Cox L D F w (canL (((i:Int)+1)::d) (dropE σ ((i:Int)+1))) w':=by
 have P:=statusC C hi
 obtain⟨I1,hI1⟩:∃J,(i:Int)+1=J:=⟨_,rfl⟩
 have hcan:CanT σ.T I1:=⟨i,x,hI1.symm,hi,hs,hp⟩
 rw[hI1] at P hw
 rw[hI1]
 have HH:Aside (CanT σ.T I1∧σ.N<100000∧(∀j,Da.Rch σ.E I1 j→Wt σ.T j)∧σ.ev.length+300<1000000∧σ.T.length≤200∧σ.qn+σ.T.countP isC≤1000):=⟨hcan,hN,hw,hl,hT,hq⟩
 obtain⟨s,hs'⟩:∃s,x.s=s:=⟨_,rfl⟩
 rw[hs'] at P hs
 clear C hi hs' hp hN hw hl hT hq hcan hI1
 go_enter Tryz.func13,Tryz.ntmps13
 go_wp2_with fail
 refine P.mono ?_
 rintro e w1 ⟨rfl,F1,g1,v1,C1,G1⟩
 have Q:=dropC C1 HH.out.1 HH.out.2.1 HH.out.2.2.1 HH.out.2.2.2.1 HH.out.2.2.2.2.1 HH.out.2.2.2.2.2
 have X1:Aside (Gc L F w F1 w1):=G1
 clear P C1 G1
 rcases hs with rfl|rfl
 ·go_wp2_with fail
  refine Q.mono ?_
  rintro e w2 ⟨a,n,cap,rfl,d,F2,kl,rfl,o2,⟨g2,v2,C2⟩,G2⟩
  have FIN:Aside (∃d,KillL σ.E I1 d∧Cox L D F w (canL (I1::d) (dropE σ I1)) w2):=⟨d,kl,F2,g2,v2,C2,X1.out.trans G2⟩
  clear Q kl o2 C2 G2
  go_wp2_with fail
  go_ret
  exact⟨rfl,FIN.out⟩
 ·go_wp2_with fail
  refine Q.mono ?_
  rintro e w2 ⟨a,n,cap,rfl,d,F2,kl,rfl,o2,⟨g2,v2,C2⟩,G2⟩
  have FIN:Aside (∃d,KillL σ.E I1 d∧Cox L D F w (canL (I1::d) (dropE σ I1)) w2):=⟨d,kl,F2,g2,v2,C2,X1.out.trans G2⟩
  clear Q kl o2 C2 G2
  go_wp2_with fail
  go_ret
  exact⟨rfl,FIN.out⟩
end
section
variable {w w' u:World}{L i:Nat}{D:CAd}{F F':Nat→Nat→Prop}{g v:Value}{σ:CS}{x:Ta.TR}
def lostS(σ:CS)(prio:Int):CS:=canS (mkS σ (Ta.mkT prio 0 0 0 0 0 6)) ((σ.T.length:Int)+1)
theorem subLost(C:Co w L D F g v σ){t:Nat}(ht:t<σ.th)(hc:σ.cl=false)(hl:σ.T.length<200)(he:σ.ev.length+1<1000000)(prio:Int)(h0:0≤prio)(h7:prio≤7){a:Option Addr}{n cap:Nat}{d:List Int}(hd:d.length=n)(hn:n≤1000000)(o:Ow w F (.slice a n cap) d)(hA:areB σ.T d=true)(hL:lostL σ.T d=true) :
  Calls Tryz.prog 11 #[pt D.B,.int .i64 t,.int .i64 prio,.slice none 0 0,.slice a n cap] w fun e w'=>e=.returned (.tuple #[.int .i64 ((σ.T.length:Int)+1),.int .i64 0])∧Cox L D F w (lostS σ prio) w':=by
 have P1:=rightC C ht prio h0 h7
 have P2:=areA C hd hn o
 rw[hA] at P2
 have OW:Aside (Ow w F (.slice a n cap) d):=o
 have HH:Aside (σ.cl=false∧σ.T.length<200∧σ.ev.length+1<1000000∧0≤prio∧prio≤7∧d.length=n∧n≤1000000∧lostL σ.T d=true):=⟨hc,hl,he,h0,h7,hd,hn,hL⟩
 obtain⟨N1,hN1⟩:∃N1,(σ.T.length:Int)+1=N1:=⟨_,rfl⟩
 have HN1:Aside _:=hN1
 rw[hN1]
 clear C ht hl he h0 h7 hc hN1 hd hn o hA hL
 go_enter Tryz.func11,Tryz.ntmps11
 go_wp2_with fail
 refine P1.mono ?_
 rintro e w1 ⟨rfl,rfl⟩
 clear P1
 go_wp2_with fail
 refine P2.mono ?_
 rintro e w2 ⟨rfl,F2,g2,v2,C2,G2⟩
 have P3:=refuseC C2 HH.out.1 HH.out.2.1
 have O2:=OW.out.gc G2
 have P4:=contLost C2 HH.out.2.2.2.2.2.1 HH.out.2.2.2.2.2.2.1 O2
 rw[HH.out.2.2.2.2.2.2.2] at P4
 have X2:Aside (Gc L F w1 F2 w2):=G2
 clear P2 C2 G2 O2
 go_wp2_with fail
 refine P3.mono ?_
 rintro e w3 ⟨rfl,rfl⟩
 clear P3
 go_wp2_with fail
 refine P4.mono ?_
 rintro e w4 ⟨rfl,F4,g4,v4,C4,G4⟩
 have X4:Aside (Gc L F w1 F4 w4):=X2.out.trans G4
 have P5:=begin6 C4 t HH.out.2.1 HH.out.2.2.1 prio 0 0 0 0 0 0 HH.out.2.2.2.1 HH.out.2.2.2.2.1 (jb0 0 0 0)
 rw[HN1.out] at P5
 clear P4 C4 G4
 go_wp2_with fail
 refine P5.mono ?_
 rintro e w5 ⟨rfl,F5,g5,v5,C5,G5⟩
 have FIN:Aside (Cox L D F w1 (lostS σ prio) w5):=by
  refine⟨F5,g5,v5,?_,X4.out.trans G5⟩
  show Co w5 L D F5 g5 v5 (canS (mkS σ (Ta.mkT prio 0 0 0 0 0 6)) ((σ.T.length:Int)+1))
  rw[HN1.out]
  exact C5
 clear P5 C5 G5
 go_wp2_with fail
 go_ret2
 exact⟨rfl,FIN.out⟩
end
section
variable {w w' u:World}{L i:Nat}{D:CAd}{F F':Nat→Nat→Prop}{g v:Value}{σ:CS}{x:Ta.TR}
def timS(σ:CS)(T0:Ta.TR)(d:Nat):CS:={mkS (crS σ) T0 with tm:=Wl.addT σ.tm ((σ.T.length:Int)+1) d}
theorem wfI_small{n:Int}(h:0≤n)(h':n≤1000):Wl.wfI n:=by
 show Lit.wf (.int .i64 n)=true
 simp only[Lit.wf,IntKind.min,IntKind.max,IntKind.signed,IntKind.bits,decide_eq_true_eq,Bool.and_eq_true]
 constructor<;>simp<;>omega
theorem timedN(C:Co w L D F g v σ)(ho:σ.o=σ.n)(t prio f p d rr m dl:Int) :
  Calls Tryz.prog 34 #[pt D.B,.int .i64 t,.int .i64 prio,.slice none 0 0,.agg #[.int .u64 f,.int .u64 p,.int .u64 d,.int .u64 rr,.int .u64 m],.int .u64 dl] w fun e w'=>e=.returned (.tuple #[.int .i64 0,.int .i64 60])∧Cox L D F w σ w':=by
 obtain⟨u,hu⟩:∃z,w.alloc (.cells #[.int .u64 f,.int .u64 p,.int .u64 d,.int .u64 rr,.int .u64 m] 91)=z:=⟨_,rfl⟩
 have b0:Below w.heap.size w u:=by rw[←hu];exact belA _ _
 have C0:=C.below b0
 have c7:u.cell? ⟨D.B,7,none⟩=some (pt D.ca):=C0.c7
 have P1:=C0.credN ho
 have X0:Aside (Gc L F w F u):=Gc.below F C.lw b0
 have HU:Aside _:=hu
 clear C C0 hu b0 ho
 go_enter Tryz.func34,Tryz.ntmps34
 go_upto_region 1 with fail
 rw[HU.out]
 go_wp2_with fail
 refine P1.mono ?_
 rintro e w1 ⟨rfl,F1,g1,v1,C1,G1⟩
 have FIN:Aside (Cox L D F w σ w1):=⟨F1,g1,v1,C1,X0.out.trans G1⟩
 clear P1 C1 G1 c7
 go_wp2_with fail
 go_ret2
 exact⟨rfl,FIN.out⟩
theorem timedW(C:Co w L D F g v σ)(t:Int)(hl:σ.T.length<200)(ho:σ.o<σ.n)(he:σ.ev.length<1000000)(prio f p rr R m dl:Int)(d:Nat)(hd:d<Wl.B64)(h0:0≤prio)(h7:prio≤7)(hj:JbOk f p d rr R)(hdl:dl≠0) :
  Calls Tryz.prog 34 #[pt D.B,.int .i64 t,.int .i64 prio,.slice none 0 0,.agg #[.int .u64 f,.int .u64 p,.int .u64 (d:Int),.int .u64 rr,.int .u64 m],.int .u64 dl] w fun e w'=>e=.returned (.tuple #[.int .i64 ((σ.T.length:Int)+1),.int .i64 0])∧Cox L D F w (timS σ (Ta.mkT prio f p d R m 1) d) w':=by
 obtain⟨K,hK⟩:∃J,w.heap.size=J:=⟨_,rfl⟩
 obtain⟨e,hE⟩:∃e:Int,(d:Int)=e:=⟨_,rfl⟩
 obtain⟨u,hu⟩:∃z,w.alloc (.cells #[.int .u64 f,.int .u64 p,.int .u64 e,.int .u64 rr,.int .u64 m] 91)=z:=⟨_,rfl⟩
 have b0:Below w.heap.size w u:=by rw[←hu];exact belA _ _
 have BK:Bx u F K #[.int .u64 f,.int .u64 p,.int .u64 e,.int .u64 rr,.int .u64 m] 91:=by rw[←hu,←hK];exact Bx.new C _ _
 have C0:=C.below b0
 have c7:u.cell? ⟨D.B,7,none⟩=some (pt D.ca):=C0.c7
 have P1:=C0.credC ho
 obtain⟨N1,hN1⟩:∃N1,(σ.T.length:Int)+1=N1:=⟨_,rfl⟩
 have HN1:Aside _:=hN1
 have hz:(dl==0)=false:=by simpa using hdl
 have HH:Aside (σ.T.length<200∧σ.ev.length<1000000∧0≤prio∧prio≤7∧JbOk f p e rr R∧d<Wl.B64∧(d:Int)=e):=⟨hl,he,h0,h7,hE▸hj,hd,hE⟩
 have X0:Aside (Gc L F w F u∧Bx u F K #[.int .u64 f,.int .u64 p,.int .u64 e,.int .u64 rr,.int .u64 m] 91):=⟨Gc.below F C.lw b0,BK⟩
 have HU:Aside _:=hu
 have HK:Aside _:=hK
 rw[hN1,hE]
 clear C C0 hu hK b0 ho BK hl he h0 h7 hj hd hE hN1 hdl
 go_enter Tryz.func34,Tryz.ntmps34
 go_upto_region 1 with fail
 rw[HU.out]
 try simp only[HK.out]
 go_wp2_with fail
 refine P1.mono ?_
 rintro e1 w1 ⟨rfl,F1,g1,v1,C1,G1⟩
 have B1:=X0.out.2.gc mq_job G1
 have X1:Aside (Gc L F w F1 w1∧Bx w1 F1 K #[.int .u64 f,.int .u64 p,.int .u64 e,.int .u64 rr,.int .u64 m] 91):=⟨X0.out.1.trans G1,B1⟩
 have k0:w1.cell? ⟨K,0,none⟩=some (.int .u64 f):=B1.cell 0
 have k1:w1.cell? ⟨K,1,none⟩=some (.int .u64 p):=B1.cell 1
 have k2:w1.cell? ⟨K,2,none⟩=some (.int .u64 e):=B1.cell 2
 have k3:w1.cell? ⟨K,3,none⟩=some (.int .u64 rr):=B1.cell 3
 have k4:w1.cell? ⟨K,4,none⟩=some (.int .u64 m):=B1.cell 4
 have P2:=begin1 C1 t HH.out.1 HH.out.2.1 prio f p e rr R m HH.out.2.2.1 HH.out.2.2.2.1 HH.out.2.2.2.2.1
 rw[show(({σ with o:=σ.o+1,m:=max σ.m (σ.o+1)}:CS).T.length:Int)+1=N1 from HN1.out] at P2
 clear P1 C1 G1 c7 B1
 go_wp2_with fail
 refine P2.mono ?_
 rintro e2 w2 ⟨rfl,F2,g2,v2,C2,G2⟩
 have B2:=X1.out.2.gc mq_job G2
 clear P2 k0 k1 k2 k3 k4
 have C2d:=C2.drew
 have c5:w2.drew.cell? ⟨D.B,5,none⟩=some (pt D.Bw):=C2d.c5
 have k2:w2.drew.cell? ⟨K,2,none⟩=some (.int .u64 e):=B2.cell 2
 have PW:Aside (Calls Tryz.prog 76 #[pt D.Bw,.int .i64 N1,.int .u64 e] w2.drew fun e' w'=>(∃r,e'=.returned (.int .i64 r))∧(Cox L D F2 w2 {mkS (crS σ) (Ta.mkT prio f p e R m 1) with tm:=Wl.addT σ.tm N1 d} w'∧w'.cell? ⟨D.B,5,none⟩=some (pt D.Bw)∧w'.cell? ⟨K,2,none⟩=some (.int .u64 e))):=by
  have hw:Wl.wfI N1:=by have h1:=HN1.out;have h2:=HH.out.1;exact wfI_small (by omega) (by omega)
  have:=C2d.waddC hw HH.out.2.2.2.2.2.1
  rw[HH.out.2.2.2.2.2.2] at this
  refine this.mono ?_
  rintro e' w' ⟨rfl,F4,g4,v4,C4,G4⟩
  have G5:=(Gc.below F2 C2.lw (Below.refl _ _).drew).trans G4
  exact⟨⟨_,rfl⟩,⟨F4,g4,v4,C4,G5⟩,C4.c5,(B2.gc mq_job G5).cell 2⟩
 have X2:Aside (Gc L F w F2 w2):=X1.out.1.trans G2
 clear C2 C2d G2 B2
 go_upto_region 6 with fail
 go_region_held3 (fun w'=>w'.cell? ⟨D.B,5,none⟩=some (pt D.Bw)∧w'.cell? ⟨K,2,none⟩=some (.int .u64 e)) (first|with_reducible exact⟨c5,k2⟩|with_reducible exact⟨d5,e2⟩) ((go_at_call 76;(with_reducible refine Calls.mono PW.out ?_);rintro e3 w3 ⟨⟨r,rfl⟩,C3,d5,e2⟩))
 have FIN:Aside (Cox L D F w (timS σ (Ta.mkT prio f p e R m 1) d) w3):=by
  obtain⟨F4,g4,v4,C4,G4⟩:=C3
  refine⟨F4,g4,v4,?_,X2.out.trans G4⟩
  unfold timS
  rw[HN1.out]
  exact C4
 clear c5 k2 d5 e2 C3
 go_wp2_with fail
 go_ret2
 exact⟨rfl,FIN.out⟩
end
section
variable {w w' u:World}{L i:Nat}{D:CAd}{F F':Nat→Nat→Prop}{g v:Value}{σ:CS}{x:Ta.TR}
theorem after_by(C:Co w L D F g v σ){t:Nat}(ht:t<σ.th)(hc:σ.cl=false)(hl:σ.T.length<200)(prio dl:Int)(h0:0≤prio)(h7:prio≤7)(hd:0<dl){Q:Ending→World→Prop}(hn:Ta.IsT σ.now)(hdT:Ta.IsT dl)
  (hf:∀w1,Below w.heap.size w w1→Calls Tryz.prog 34 #[pt D.B,.int .i64 t,.int .i64 prio,.slice none 0 0,.agg #[.int .u64 0,.int .u64 0,.int .u64 (Ta.addT σ.now dl),.int .u64 0,.int .u64 0],.int .u64 dl] w1 fun e w'=>∃a b,e=.returned (.tuple #[a,b])∧Q e w') :
  Calls Tryz.prog 9 #[pt D.B,.int .i64 t,.int .i64 prio,.slice none 0 0,.int .u64 dl] w Q:=by
 have P1:=rightC C ht prio h0 h7
 have P3:=refuseC C hc hl
 obtain⟨K,hK⟩:∃J,w.heap.size=J:=⟨_,rfl⟩
 obtain⟨u,hu⟩:∃z,w.alloc (.cells #[.int .u64 0,.int .u64 0,.int .u64 0,.int .u64 0,.int .u64 0] 91)=z:=⟨_,rfl⟩
 have b0:Below w.heap.size w u:=by rw[←hu];exact belA _ _
 have BK:Bx u F K #[.int .u64 0,.int .u64 0,.int .u64 0,.int .u64 0,.int .u64 0] 91:=by rw[←hu,←hK];exact Bx.new C _ _
 have C0:=C.below b0
 have c5:u.cell? ⟨D.B,5,none⟩=some (pt D.Bw):=C0.c5
 have NW:Calls Tryz.prog 33 #[pt D.Bw] u fun e w'=>e=.returned (.int .u64 σ.now)∧w'=u:=Wl.now_any C0.whl
 have hnow:=C0.whl
 have k2:u.cell? ⟨K,2,none⟩=some (.int .u64 0):=BK.cell 2
 have fzk:∀o,u.frozen? ⟨K,o,none⟩=false:=fun o=>by simp[World.frozen?,BK.1]
 have E:Aside (∀X:Int,(u.setCell ⟨K,2,none⟩ (.int .u64 X)).heap[K]?=some (.cells #[.int .u64 0,.int .u64 0,.int .u64 X,.int .u64 0,.int .u64 0] 91 (0,0))):=fun X=>set_at BK.1 _
 have hgt:decide (0<dl)=true:=decide_eq_true hd
 have HU:Aside _:=hu
 have HK:Aside _:=hK
 have HF:Aside _:=hf
 have BB:Aside (∀v,Below w.heap.size w (u.setCell ⟨K,2,none⟩ v)):=fun v=>b0.setCell (by show w.heap.size≤K;omega) v
 have HT:Aside (Ta.IsT σ.now∧Ta.IsT dl):=⟨hn,hdT⟩
 clear C0 hu hK hf hd b0 BK hn hdT hnow
 go_enter Tryz.func9,Tryz.ntmps9
 go_wp2_with fail
 refine P1.mono ?_
 rintro e w1 ⟨rfl,rfl⟩
 clear P1
 go_wp2_with fail
 refine P3.mono ?_
 rintro e w1 ⟨rfl,rfl⟩
 clear P3 C
 go_upto_region 5 with fail
 try simp only[HU.out,HK.out]
 go_wp2_with fail
 refine NW.mono ?_
 rintro e w2 ⟨rfl,rfl⟩
 clear NW
 go_wp2_with fail
 refine(Ta.Tk.add_any σ.now dl _ HT.out.1 HT.out.2).mono ?_
 rintro e w3 ⟨rfl,rfl⟩
 generalize hX:Ta.addT σ.now dl=X at HF⊢
 clear c5
 go_upto_region 7 with fail
 obtain⟨w5,h5⟩:∃z,w3.setCell ⟨K,2,none⟩ (.int .u64 X)=z:=⟨_,rfl⟩
 rw[h5]
 have B5:=E.out X
 have bb:=BB.out (.int .u64 X)
 rw[h5] at B5 bb
 have cl:∀j,w5.cell? ⟨K,j,none⟩=(#[.int .u64 0,.int .u64 0,.int .u64 X,.int .u64 0,.int .u64 0]:Array Value)[j]?:=fun j=>cell_of_row _ _ _ _ _ _ B5
 have j0:w5.cell? ⟨K,0,none⟩=some (.int .u64 0):=cl 0
 have j1:w5.cell? ⟨K,1,none⟩=some (.int .u64 0):=cl 1
 have j2:w5.cell? ⟨K,2,none⟩=some (.int .u64 X):=cl 2
 have j3:w5.cell? ⟨K,3,none⟩=some (.int .u64 0):=cl 3
 have j4:w5.cell? ⟨K,4,none⟩=some (.int .u64 0):=cl 4
 have HB:Aside (Below w1.heap.size w1 w5):=bb
 clear B5 bb cl h5 k2 fzk
 go_wp2_with fail
 refine(HF.out _ HB.out).mono ?_
 rintro e w4 ⟨a,b,rfl,hq⟩
 have HQ:Aside _:=hq
 clear hq
 go_wp2_with fail
 exact HQ.out
theorem afterW(C:Co w L D F g v σ){t:Nat}(ht:t<σ.th)(hc:σ.cl=false)(hl:σ.T.length<200)(ho:σ.o<σ.n)(he:σ.ev.length<1000000)(prio dl:Int)(h0:0≤prio)(h7:prio≤7)(hd:0<dl)(hn:Ta.IsT σ.now)(hdT:Ta.IsT dl){d:Nat}(hD:Ta.addT σ.now dl=(d:Int))(hB:d<Wl.B64) :
  Calls Tryz.prog 9 #[pt D.B,.int .i64 t,.int .i64 prio,.slice none 0 0,.int .u64 dl] w fun e w'=>e=.returned (.tuple #[.int .i64 ((σ.T.length:Int)+1),.int .i64 0])∧Cox L D F w (timS σ (Ta.mkT prio 0 0 d 0 0 1) d) w':=by
 refine after_by C ht hc hl prio dl h0 h7 hd hn hdT (fun w1 b1=>?_)
 rw[hD]
 refine(timedW (C.below b1) t hl ho he prio 0 0 0 0 0 dl d hB h0 h7 (jb0 0 d 0) (by omega)).mono ?_
 rintro e w' ⟨rfl,F4,g4,v4,C4,G4⟩
 exact⟨_,_,rfl,rfl,F4,g4,v4,C4,(Gc.below F C.lw b1).trans G4⟩
theorem afterN(C:Co w L D F g v σ){t:Nat}(ht:t<σ.th)(hc:σ.cl=false)(hl:σ.T.length<200)(ho:σ.o=σ.n)(prio dl:Int)(h0:0≤prio)(h7:prio≤7)(hd:0<dl)(hn:Ta.IsT σ.now)(hdT:Ta.IsT dl) :
  Calls Tryz.prog 9 #[pt D.B,.int .i64 t,.int .i64 prio,.slice none 0 0,.int .u64 dl] w fun e w'=>e=.returned (.tuple #[.int .i64 0,.int .i64 60])∧Cox L D F w σ w':=by
 refine after_by C ht hc hl prio dl h0 h7 hd hn hdT (fun w1 b1=>?_)
 refine(timedN (C.below b1) ho t prio 0 0 (Ta.addT σ.now dl) 0 0 dl).mono ?_
 rintro e w' ⟨rfl,F4,g4,v4,C4,G4⟩
 exact⟨_,_,rfl,rfl,F4,g4,v4,C4,(Gc.below F C.lw b1).trans G4⟩
end
section
variable {w w' u:World}{L i:Nat}{D:CAd}{F F':Nat→Nat→Prop}{g v:Value}{σ:CS}{x:Ta.TR}
theorem subN(C:Co w L D F g v σ){t:Nat}(ht:t<σ.th)(hc:σ.cl=false)(hl:σ.T.length<200)(ho:σ.o=σ.n)(prio:Int)(h0:0≤prio)(h7:prio≤7) :
  Calls Tryz.prog 11 #[pt D.B,.int .i64 t,.int .i64 prio,.slice none 0 0,.slice none 0 0] w fun e w'=>e=.returned (.tuple #[.int .i64 0,.int .i64 60])∧Cox L D F w σ w':=by
 have P1:=rightC C ht prio h0 h7
 have P2:=areNil D.B w
 have P3:=refuseC C hc hl
 have c7:=C.c7
 have P4:=C.credN ho
 clear C ht hl h0 h7 hc ho
 go_enter Tryz.func11,Tryz.ntmps11
 go_wp2_with fail
 refine P1.mono ?_
 rintro e w1 ⟨rfl,rfl⟩
 clear P1
 go_wp2_with fail
 refine P2.mono ?_
 rintro e w1 ⟨rfl,rfl⟩
 clear P2
 go_wp2_with fail
 refine P3.mono ?_
 rintro e w1 ⟨rfl,rfl⟩
 clear P3
 go_wp2_with fail
 refine(contNil _ _).mono ?_
 rintro e w1 ⟨rfl,rfl⟩
 go_wp2_with fail
 refine P4.mono ?_
 rintro e w2 ⟨rfl,FIN'⟩
 have FIN:Aside _:=FIN'
 clear P4 c7 FIN'
 go_wp2_with fail
 go_ret2
 exact⟨rfl,FIN.out⟩
end
end Go.Proofs.YtjpmepfbpfkmoaaGreatDoorR
