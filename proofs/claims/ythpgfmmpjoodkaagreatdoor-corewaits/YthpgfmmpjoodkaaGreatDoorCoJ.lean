import Derived.Test.YthpgfmmpjoodkaaGreatDoorCoC
open List(getElem?_set_ne take_of_length_le)
open Nat(le_refl le_trans)
namespace Go.Proofs.YthpgfmmpjoodkaaGreatDoor
set_option maxHeartbeats 8000000
set_option maxRecDepth 100000
set_option linter.unusedVariables false
open Go.RowKit Go.Lib Go.WideMaps Go.Maps
section
variable {w w' u:World}{L i:Nat}{D:CAd}{F F':Nat→Nat→Prop}{g v:Value}{σ:CS}{x:Ta.TR}
def crS(σ:CS):CS:={σ with o:=σ.o+1,m:=max σ.m (σ.o+1)}
def subS(σ:CS)(t:Nat)(prio:Int):CS:=relS (mkS (crS σ) (Ta.mkT prio 0 0 0 0 0 2)) t σ.T.length (Ta.mkT prio 0 0 0 0 0 2)
theorem jb0(f d rr:Int):JbOk f 0 d rr 0:=.inl ⟨rfl,rfl⟩
theorem subC(C:Co w L D F g v σ){t:Nat}(ht:t<σ.th)(hc:σ.cl=false)(hl:σ.T.length<200)(ho:σ.o<σ.n)(he:σ.ev.length+1<1000000)(hn:σ.qn≤1000)(htk:σ.tk<1000000)(prio:Int)(h0:0≤prio)(h7:prio≤7) :
  Calls Tryz.prog 9 #[pt D.B,.int .i64 t,.int .i64 prio,.slice none 0 0,.slice none 0 0] w fun e w'=>e=.returned (.tuple #[.int .i64 ((σ.T.length:Int)+1),.int .i64 0])∧Cox L D F w (subS σ t prio) w':=by
 have P1:=rightC C ht prio h0 h7
 have P2:=areNil D.B w
 have P3:=refuseC C hc hl
 have c7:=C.c7
 have P4:=C.credC ho
 have HH:Aside (t<σ.th∧σ.T.length<200∧σ.ev.length+1<1000000∧σ.qn≤1000∧σ.tk<1000000∧0≤prio∧prio≤7):=⟨ht,hl,he,hn,htk,h0,h7⟩
 obtain⟨N1,hN1⟩:∃N1,(σ.T.length:Int)+1=N1:=⟨_,rfl⟩
 have HN1:Aside _:=hN1
 rw[hN1]
 clear C ht hl he hn htk h0 h7 hc ho hN1
 go_enter Tryz.func9,Tryz.ntmps9
 go_wp2_with fail
 refine P1.mono ?_
 rintro e w1 ⟨rfl,rfl⟩
 clear P1
 go_wp2_with fail
 refine P2.mono ?_
 rintro e w1 ⟨rfl,rfl⟩
 clear P2
 go_wp2_with fail
 refine P3.mono ?_
 rintro e w1 ⟨rfl,rfl⟩
 clear P3
 go_wp2_with fail
 refine(contNil _ _).mono ?_
 rintro e w1 ⟨rfl,rfl⟩
 go_wp2_with fail
 refine P4.mono ?_
 rintro e w2 ⟨rfl,F2,g2,v2,C2,G2⟩
 clear P4 c7
 have X2:Aside (Gc L F w1 F2 w2):=G2
 have P5:=begin2 C2 (t:=t) HH.out.1 HH.out.2.1 HH.out.2.2.1 HH.out.2.2.2.1 HH.out.2.2.2.2.1 prio 0 0 0 0 0 0 HH.out.2.2.2.2.2.1 HH.out.2.2.2.2.2.2 (jb0 0 0 0)
 rw[show(({σ with o:=σ.o+1,m:=max σ.m (σ.o+1)}:CS).T.length:Int)+1=N1 from HN1.out] at P5
 clear C2 G2
 go_wp2_with fail
 refine(notNil D.B _).mono ?_
 rintro e w3 ⟨rfl,rfl⟩
 go_wp2_with fail
 refine P5.mono ?_
 rintro e w4 ⟨rfl,F4,g4,v4,C4,G4⟩
 have FIN:Aside (Cox L D F w1 (subS σ t prio) w4):=⟨F4,g4,v4,C4,X2.out.trans G4⟩
 clear P5 C4 G4
 go_wp2_with fail
 go_ret2
 exact⟨rfl,FIN.out⟩
theorem taskC(C:Co w L D F g v σ)(hi:σ.T[i]?=some x)(hs:x.s≠0) :
  Calls Tryz.prog 58 #[pt D.B,.int .i64 ((i:Int)+1)] w fun e w'=>e=.returned (.bool true)∧Cox L D F w σ w':=by
 have P:=statusC C hi
 obtain⟨s,hs'⟩:∃s,x.s=s:=⟨_,rfl⟩
 rw[hs'] at P hs
 have hb:(s != 0)=true:=by simpa using hs
 clear C hi hs' hs
 go_enter Tryz.func58,Tryz.ntmps58
 go_wp2_with fail
 refine P.mono ?_
 rintro e w1 ⟨rfl,C1⟩
 have FIN:Aside _:=C1
 clear P C1
 go_wp2_with fail
 go_ret
 exact⟨rfl,FIN.out⟩
theorem turn34(C:Co w L D F g v σ){t:Nat}(ht:t<σ.th)(hi:σ.T[i]?=some x)(hs:x.s=3)(hp:0≤x.p)(hid:Da.wfI ((i:Int)+1))(hN:σ.N<1000000)(hl:σ.ev.length+300<1000000)(hT:σ.T.length≤200)(hq:σ.qn+σ.T.countP isW≤1000)(htk:σ.tk<1000000)(hw:∀j,σ.E ((i:Int)+1) j→(∀q,σ.E q j→q=(i:Int)+1)→Wt σ.T j) :
  Calls Tryz.prog 60 #[pt D.B,.int .i64 t,.int .i64 ((i:Int)+1),.int .i64 4] w fun e w'=>e=.returned (.tuple #[])∧∃d,DoneL σ.E ((i:Int)+1) d∧Cox L D F w (relL t d {endS (turnS σ i x 4) t ((i:Int)+1) with E:=fun q j=>σ.E q j∧q≠(i:Int)+1}) w':=by
 refine(turn_byZ C t hi hs hp (by decide) (Z:=fun τ=>∃d,DoneL σ.E ((i:Int)+1) d∧τ=relL t d {endS (turnS σ i x 4) t ((i:Int)+1) with E:=fun q j=>σ.E q j∧q≠(i:Int)+1}) (fun F1 g1 v1 w1 C1=>?_)).mono ?_
 ·refine follow_34 D.B t ((i:Int)+1) w1 (fun w2 b2=>?_)
  have hx:σ.T.countP isW=(σ.T.set i (turnX x 4)).countP isW:=by
   have:=Ta.cntP_set isW σ.T i x (turnX x 4) hi
   have e1:isW x=false:=by simp[isW,hs]
   have e2:isW (turnX x 4)=false:=by simp[isW,(turnX_key x 4).2.2.1]
   rw[e1,e2] at this
   simpa using this.symm
  refine(endC (C1.below b2) ht hid hN hl (by show(σ.T.set i _).length≤200;simpa using hT) (by show σ.qn+(σ.T.set i _).countP isW≤1000;rw[←hx];exact hq) htk (fun j h1 h2=>?_)).mono ?_
  ·obtain⟨k,y,e1,e2,e3,e4⟩:=hw j h1 h2
   refine⟨k,y,e1,?_,e3,e4⟩
   show(σ.T.set i _)[k]?=some y
   rw[getElem?_set_ne (fun e=>?_)]
   ·exact e2
   ·rw[←e,hi] at e2
    injection e2 with e2
    rw[e2] at hs
    omega
  ·rintro e w3 ⟨rfl,d,dl,F3,g3,v3,C3,G3⟩
   exact⟨rfl,_,⟨d,dl,rfl⟩,F3,g3,v3,C3,(Gc.below F1 C1.lw b2).trans G3⟩
 ·rintro e w' ⟨rfl,τ,⟨d,dl,rfl⟩,X⟩
  exact⟨rfl,d,dl,X⟩
theorem claimC(C:Co w L D F g v σ){t:Nat}(ht:t<σ.th)(hi:σ.T[i]?=some x)(hs:x.s=2)(hp:0≤x.p)(hl:σ.ev.length<1000000)(hn:σ.qn≤1000)(htk:σ.tk<1000000) :
  Calls Tryz.prog 12 #[pt D.B,.int .i64 t,.agg #[.int .u64 x.key,.int .i64 ((i:Int)+1)]] w fun e w'=>e=.returned (.int .i64 0)∧Cox L D F w (handS (turnS σ i x 3) t i (turnX x 3)) w':=by
 obtain⟨K,hK⟩:∃J,w.heap.size=J:=⟨_,rfl⟩
 obtain⟨KY,hKY⟩:∃J,x.key=J:=⟨_,rfl⟩
 obtain⟨I1,hI1⟩:∃J,(i:Int)+1=J:=⟨_,rfl⟩
 obtain⟨u,hu⟩:∃z,w.alloc (.cells #[.int .u64 KY,.int .i64 I1] 36)=z:=⟨_,rfl⟩
 have b0:Below w.heap.size w u:=by rw[←hu];exact belA _ _
 have BK:Bx u F K #[.int .u64 KY,.int .i64 I1] 36:=by rw[←hu,←hK];exact Bx.new C _ _
 have C0:=C.below b0
 have P1:=threadC C0 ht
 have P2:=taskC C0 hi (by omega)
 rw[hI1] at P2
 have k1:u.cell? ⟨K,1,none⟩=some (.int .i64 I1):=BK.cell 1
 have HH:Aside (t<σ.th∧σ.T[i]?=some x∧x.s=2∧0≤x.p∧σ.ev.length<1000000∧σ.qn≤1000∧σ.tk<1000000∧x.key=KY∧(i:Int)+1=I1):=⟨ht,hi,hs,hp,hl,hn,htk,hKY,hI1⟩
 have X0:Aside (Gc L F w F u∧Bx u F K #[.int .u64 KY,.int .i64 I1] 36):=⟨Gc.below F C.lw b0,BK⟩
 have HU:Aside _:=hu
 have HK:Aside _:=hK
 rw[hKY,hI1]
 clear C C0 ht hi hs hp hl hn htk hKY hI1 hu hK BK b0
 go_enter Tryz.func12,Tryz.ntmps12
 go_upto_region 1 with fail
 rw[HU.out]
 try simp only[HK.out]
 go_wp2_with fail
 refine P1.mono ?_
 rintro e w1 ⟨rfl,rfl⟩
 clear P1
 go_wp2_with fail
 refine P2.mono ?_
 rintro e w2 ⟨rfl,F2,g2,v2,C2,G2⟩
 clear P2 k1
 have B2:=X0.out.2.gc mq_ent G2
 have X2:Aside (Gc L F w F2 w2.drew∧Bx w2.drew F2 K #[.int .u64 KY,.int .i64 I1] 36):=⟨(X0.out.1.trans G2).trans (Gc.below F2 C2.lw (Below.refl _ _).drew),B2⟩
 have k0:w2.drew.cell? ⟨K,0,none⟩=some (.int .u64 KY):=B2.cell 0
 have k1:w2.drew.cell? ⟨K,1,none⟩=some (.int .i64 I1):=B2.cell 1
 have PS:Aside (Calls Tryz.prog 10 #[pt D.B,.int .i64 I1] w2.drew fun e w'=>e=.returned (.int .i64 2)∧∃F',(∃g' v',Co w' L D F' g' v' σ)∧Gc L F w F' w'∧Bx w' F' K #[.int .u64 KY,.int .i64 I1] 36∧w'.cell? ⟨K,0,none⟩=some (.int .u64 KY)∧w'.cell? ⟨K,1,none⟩=some (.int .i64 I1)):=by
  have:=statusC C2.drew HH.out.2.1
  rw[HH.out.2.2.1,HH.out.2.2.2.2.2.2.2.2] at this
  refine this.mono ?_
  rintro e w' ⟨rfl,F4,g4,v4,C4,G4⟩
  have B4:=X2.out.2.gc mq_ent G4
  exact⟨rfl,F4,⟨g4,v4,C4⟩,X2.out.1.trans G4,B4,B4.cell 0,B4.cell 1⟩
 have PE:Aside (∀(W:World) F3 g3 v3,Co W L D F3 g3 v3 σ→Gc L F w F3 W→Bx W F3 K #[.int .u64 KY,.int .i64 I1] 36→Calls Tryz.prog 59 #[pt D.B,.int .i64 I1] W fun e w'=>e=.returned (.agg #[.int .u64 KY,.int .i64 I1])∧∃F',(∃g' v',Co w' L D F' g' v' σ)∧Gc L F w F' w'∧Bx w' F' K #[.int .u64 KY,.int .i64 I1] 36∧w'.cell? ⟨K,0,none⟩=some (.int .u64 KY)∧w'.cell? ⟨K,1,none⟩=some (.int .i64 I1)):=by
  intro W F3 g3 v3 C3 G3 B3
  have:=entryC C3 HH.out.2.1
  rw[HH.out.2.2.2.2.2.2.2.1,HH.out.2.2.2.2.2.2.2.2] at this
  refine this.mono ?_
  rintro e w' ⟨rfl,F4,g4,v4,C4,G4⟩
  have B4:=B3.gc mq_ent G4
  exact⟨rfl,F4,⟨g4,v4,C4⟩,G3.trans G4,B4,B4.cell 0,B4.cell 1⟩
 clear C2 G2 B2
 go_upto_region 3 with fail
 go_region_held3 (fun w'=>w'.cell? ⟨K,0,none⟩=some (.int .u64 KY)∧w'.cell? ⟨K,1,none⟩=some (.int .i64 I1)) (first|with_reducible exact⟨k0,k1⟩|with_reducible exact⟨e0,e1⟩|with_reducible exact⟨f0,f1⟩) ((first|(go_at_call 59;(with_reducible refine Calls.mono (PE.out w3 F3 g3 v3 C3 G3 B3) ?_);rintro e w4 ⟨rfl,F4,⟨g4,v4,C4⟩,G4,B4,f0,f1⟩)|(go_at_call 10;(with_reducible refine Calls.mono PS.out ?_);rintro e w3 ⟨rfl,F3,⟨g3,v3,C3⟩,G3,B3,e0,e1⟩)))
 have P:=turn23 C4 HH.out.2.2.2.2.1 HH.out.2.2.2.2.2.1 HH.out.2.2.2.2.2.2.1 t HH.out.2.1 HH.out.2.2.1 HH.out.2.2.2.1
 rw[HH.out.2.2.2.2.2.2.2.2] at P
 have X4:Aside (Gc L F w F4 w4):=G4
 have flt:=lt_of_block B4.1
 clear C3 G3 B3 C4 G4 B4 k0 k1 e0 e1 f0
 go_wp2_with fail
 refine P.mono ?_
 rintro e w5 ⟨rfl,F5,g5,v5,C5,G5⟩
 have FIN:Aside (Cox L D F w (handS (turnS σ i x 3) t i (turnX x 3)) w5):=⟨F5,g5,v5,C5,X4.out.trans G5⟩
 clear P C5 G5 X4 f1 flt
 go_wp2_with fail
 go_ret
 exact⟨rfl,FIN.out⟩
end
section
variable {w w' u:World}{L i:Nat}{D:CAd}{F F':Nat→Nat→Prop}{g v:Value}{σ:CS}{x:Ta.TR}
def stT(T:List Ta.TR)(id:Int):Int:=if 1≤id then(match T[(id-1).toNat]? with|some x=>x.s|none=>0) else 0
theorem stT_at{T:List Ta.TR}{i:Nat}{x:Ta.TR}(h:T[i]?=some x):stT T ((i:Int)+1)=x.s:=by
 unfold stT
 rw[if_pos (by omega),show((i:Int)+1-1).toNat=i by omega,h]
theorem stT_no{T:List Ta.TR}{id:Int}(h:noT T id):stT T id=0:=by
 unfold stT
 rcases h with h|h
 ·rw[if_neg (by omega)]
 ·rw[if_pos (by omega),List.getElem?_eq_none (by omega)]
theorem stT_cases(T:List Ta.TR)(id:Int):noT T id∨∃(i:Nat)(x:Ta.TR),id=(i:Int)+1∧T[i]?=some x:=by
 by_cases h:id<1∨(T.length:Int)<id
 ·exact .inl h
 ·refine .inr ⟨(id-1).toNat,T[(id-1).toNat]'(by omega),by omega,?_⟩
  rw[List.getElem?_eq_getElem]
theorem statusA(C:Co w L D F g v σ)(id:Int) :
  Calls Tryz.prog 10 #[pt D.B,.int .i64 id] w fun e w'=>e=.returned (.int .i64 (stT σ.T id))∧Cox L D F w σ w':=by
 rcases stT_cases σ.T id with h|⟨i,x,rfl,hi⟩
 ·rw[stT_no h];exact statusN C id h
 ·rw[stT_at hi];exact statusC C hi
theorem taskA(C:Co w L D F g v σ)(id:Int) :
  Calls Tryz.prog 58 #[pt D.B,.int .i64 id] w fun e w'=>e=.returned (.bool (stT σ.T id != 0))∧Cox L D F w σ w':=by
 have P:=statusA C id
 obtain⟨s,hs⟩:∃s,stT σ.T id=s:=⟨_,rfl⟩
 rw[hs] at P⊢
 clear C hs
 go_enter Tryz.func58,Tryz.ntmps58
 go_wp2_with fail
 refine P.mono ?_
 rintro e w1 ⟨rfl,C1⟩
 have FIN:Aside _:=C1
 clear P C1
 go_wp2_with fail
 go_ret
 exact⟨rfl,FIN.out⟩
def areB(T:List Ta.TR)(d:List Int):Bool:=d.all fun j=>stT T j != 0
theorem areA(C:Co w L D F g v σ){a:Option Addr}{n cap:Nat}{d:List Int}(hd:d.length=n)(hn:n≤1000000)(o:Ow w F (.slice a n cap) d) :
  Calls Tryz.prog 42 #[pt D.B,.slice a n cap] w fun e w'=>e=.returned (.bool (areB σ.T d))∧Cox L D F w σ w':=by
 obtain⟨R,hR⟩:∃R,areB σ.T d=R:=⟨_,rfl⟩
 rw[hR]
 have HR:Aside (areB σ.T d=R):=hR
 have CT:Aside (Co w L D F g v σ):=C
 have OW:Aside (Ow w F (.slice a n cap) d):=o
 have HD:Aside (d.length=n):=hd
 have X:Aside (Gc L F w F w):=Gc.refl _ _ _
 clear C o hd hR
 go_enter Tryz.func42,Tryz.ntmps42
 go_wp2_with fail
 go_loopg [6,9] n (fun kx s6 s9 wr=>∃(k:Nat),s9=.int .i64 k∧k≤n∧n-k≤kx∧∃Fr gr vr,Aside (Co wr L D Fr gr vr σ)∧Aside (Ow wr Fr (.slice a n cap) d)∧Aside (Gc L F w Fr wr)∧Aside (areB σ.T (d.take k)=true))
 case atStart=>exact⟨0,rfl,by omega,by omega,F,g,v,CT,OW,X,(rfl:areB σ.T (d.take 0)=true)⟩
 case round=>
  obtain⟨k,rfl,hk,hkx,Fr,gr,vr,Cr,Or,Gr,Ar⟩:=hrel
  by_cases c:k<n
  ·have hlt:(k:Int)<(n:Int):=by omega
   obtain⟨gg,off,rfl,glt,hc⟩:=Or.out.at HD.out c
   have hkd:k<d.length:=by rw[HD.out];exact c
   obtain⟨j,hj⟩:∃j,d.getD k 0=j:=⟨_,rfl⟩
   rw[hj] at hc
   have P:=taskA Cr.out j
   have HJ:Aside (d.getD k 0=j∧k<d.length):=⟨hj,hkd⟩
   obtain⟨B,hB⟩:∃B,(stT σ.T j != 0)=B:=⟨_,rfl⟩
   rw[hB] at P
   have HB:Aside _:=hB
   clear hj hkd hB
   go_wp2_with fail
   refine P.mono ?_
   rintro e w1 ⟨rfl,F1,g1,v1,C1,G1⟩
   have O1:Aside (Ow w1 F1 (.slice (some ⟨gg,off,none⟩) n cap) d):=Or.out.gc G1
   have X1:Aside (Gc L F w F1 w1):=Gr.out.trans G1
   have CT1:Aside (Co w1 L D F1 g1 v1 σ):=C1
   clear P C1 G1 hc
   cases B with
   | true=>
    go_wp2_with fail
    go_roundg (n-(k+1))
    case measure=>omega
    case rel=>
     refine⟨k+1,by go_num,by omega,le_refl _,F1,g1,v1,CT1,O1,X1,?_⟩
     show areB σ.T (d.take (k+1))=true
     unfold areB
     rw[Da.take_up HJ.out.2,List.all_append]
     have:=Ar.out
     unfold areB at this
     rw[this]
     simp only[List.all_cons,List.all_nil,Bool.and_true,Bool.true_and]
     rw[HJ.out.1]
     exact HB.out
   | false=>
    have FIN:Aside (Cox L D F w σ w1∧areB σ.T d=false):=by
     refine⟨⟨F1,g1,v1,CT1.out,X1.out⟩,?_⟩
     unfold areB
     rw[List.all_eq_false]
     refine⟨j,?_,by simpa using HB.out⟩
     rw[←HJ.out.1]
     exact Da.getD_mem HJ.out.2
    have eR:R=false:=HR.out.symm.trans FIN.out.2
    subst eR
    go_wp2_with fail
    go_ret
    exact⟨rfl,FIN.out.1⟩
  ·have hnl:¬(k:Int)<(n:Int):=by omega
   have FIN:Aside (Cox L D F w σ wr∧areB σ.T d=true):=by
    refine⟨⟨Fr,gr,vr,Cr.out,Gr.out⟩,?_⟩
    have:=Ar.out
    rw[take_of_length_le (by rw[HD.out];omega)] at this
    exact this
   have eR:R=true:=HR.out.symm.trans FIN.out.2
   subst eR
   go_wp2_with fail
   go_ret
   exact⟨rfl,FIN.out.1⟩
def lostB(s:Int):Bool:=decide (s=5∨s=6)
theorem lost_over(s:Int):lostB s=if Ta.overB s=true then s != 4 else false:=by
 unfold lostB Ta.overB
 by_cases h1:4≤s
 ·by_cases h2:s≤6
  ·rw[decide_eq_true h1,decide_eq_true h2]
   simp only[Bool.and_self,if_true]
   rw[Bool.eq_iff_iff]
   simp only[decide_eq_true_eq,bne_iff_ne,ne_eq]
   omega
  ·rw[decide_eq_false h2,Bool.and_false,if_neg (by decide)]
   simp only[decide_eq_false_iff_not]
   omega
 ·rw[decide_eq_false h1,Bool.false_and,if_neg (by decide)]
  simp only[decide_eq_false_iff_not]
  omega
theorem lostA(C:Co w L D F g v σ)(id:Int) :
  Calls Tryz.prog 44 #[pt D.B,.int .i64 id] w fun e w'=>e=.returned (.bool (lostB (stT σ.T id)))∧Cox L D F w σ w':=by
 have P:=statusA C id
 obtain⟨s,hs⟩:∃s,stT σ.T id=s:=⟨_,rfl⟩
 rw[hs] at P⊢
 rw[lost_over]
 have hO:=fun u=>Ta.over_any s u
 obtain⟨B,hB⟩:∃B,Ta.overB s=B:=⟨_,rfl⟩
 rw[hB]
 rw[hB] at hO
 obtain⟨R,hR⟩:∃R,(if B=true then s != 4 else false)=R:=⟨_,rfl⟩
 rw[hR]
 have HR:Aside _:=hR
 clear C hs hB hR
 go_enter Tryz.func44,Tryz.ntmps44
 go_wp2_with fail
 refine P.mono ?_
 rintro e w1 ⟨rfl,C1⟩
 have FIN:Aside _:=C1
 clear P C1
 go_wp2_with fail
 refine(hO _).mono ?_
 rintro e w2 ⟨rfl,rfl⟩
 clear hO
 cases B with
 | true=>
  have eR:(s != 4)=R:=HR.out
  subst eR
  go_wp2_with fail
  go_ret
  exact⟨rfl,FIN.out⟩
 | false=>
  have eR:false=R:=HR.out
  subst eR
  go_wp2_with fail
  go_ret
  exact⟨rfl,FIN.out⟩
end
section
variable {w w' u:World}{L i:Nat}{D:CAd}{F F':Nat→Nat→Prop}{g v:Value}{σ:CS}{x:Ta.TR}
def lostL(T:List Ta.TR)(d:List Int):Bool:=d.any fun j=>lostB (stT T j)
theorem indLost(C:Co w L D F g v σ){a:Option Addr}{n cap:Nat}{d:List Int}(hd:d.length=n)(hn:n≤1000000)(o:Ow w F (.slice a n cap) d) :
  Calls Tryz.prog 89 #[.slice a n cap,.func (.func 44) #[pt D.B] #[]] w fun e w'=>(∃z:Int,e=.returned (.int .i64 z)∧decide (z≥0)=lostL σ.T d)∧Cox L D F w σ w':=by
 have eg:=enters_of (P:=Tryz.prog) Tryz.func44 (by kernel_rfl) rfl
 have CT:Aside (Co w L D F g v σ):=C
 have OW:Aside (Ow w F (.slice a n cap) d):=o
 have HD:Aside (d.length=n):=hd
 have X:Aside (Gc L F w F w):=Gc.refl _ _ _
 clear C o hd
 go_enter Tryz.func89,Tryz.ntmps89
 go_wp2_with fail
 go_loopg [8] n (fun kx s8 wr=>∃(k:Nat),s8=.int .i64 k∧k≤n∧n-k≤kx∧∃Fr gr vr,Aside (Co wr L D Fr gr vr σ)∧Aside (Ow wr Fr (.slice a n cap) d)∧Aside (Gc L F w Fr wr)∧Aside (lostL σ.T (d.take k)=false))
 case atStart=>exact⟨0,rfl,by omega,by omega,F,g,v,CT,OW,X,(rfl:lostL σ.T (d.take 0)=false)⟩
 case round=>
  obtain⟨k,rfl,hk,hkx,Fr,gr,vr,Cr,Or,Gr,Ar⟩:=hrel
  by_cases c:k<n
  ·have hlt:(k:Int)<(n:Int):=by omega
   obtain⟨gg,off,rfl,glt,hc⟩:=Or.out.at HD.out c
   have hkd:k<d.length:=by rw[HD.out];exact c
   obtain⟨j,hj⟩:∃j,d.getD k 0=j:=⟨_,rfl⟩
   rw[hj] at hc
   have P:=lostA Cr.out j
   have HJ:Aside (d.getD k 0=j∧k<d.length):=⟨hj,hkd⟩
   obtain⟨B,hB⟩:∃B,lostB (stT σ.T j)=B:=⟨_,rfl⟩
   rw[hB] at P
   have HB:Aside _:=hB
   clear hj hkd hB
   go_wp2_with fail
   refine P.mono ?_
   rintro e w1 ⟨rfl,F1,g1,v1,C1,G1⟩
   have O1:Aside (Ow w1 F1 (.slice (some ⟨gg,off,none⟩) n cap) d):=Or.out.gc G1
   have X1:Aside (Gc L F w F1 w1):=Gr.out.trans G1
   have CT1:Aside (Co w1 L D F1 g1 v1 σ):=C1
   clear P C1 G1 hc
   cases B with
   | false=>
    go_wp2_with fail
    go_roundg (n-(k+1))
    case measure=>omega
    case rel=>
     refine⟨k+1,by go_num,by omega,le_refl _,F1,g1,v1,CT1,O1,X1,?_⟩
     show lostL σ.T (d.take (k+1))=false
     unfold lostL
     rw[Da.take_up HJ.out.2,List.any_append]
     have:=Ar.out
     unfold lostL at this
     rw[this]
     simp only[List.any_cons,List.any_nil,Bool.or_false,Bool.false_or]
     rw[HJ.out.1]
     exact HB.out
   | true=>
    have FIN:Aside (Cox L D F w σ w1∧lostL σ.T d=true):=by
     refine⟨⟨F1,g1,v1,CT1.out,X1.out⟩,?_⟩
     unfold lostL
     rw[List.any_eq_true]
     refine⟨j,?_,HB.out⟩
     rw[←HJ.out.1]
     exact Da.getD_mem HJ.out.2
    go_wp2_with fail
    go_ret
    exact⟨⟨k,rfl,by rw[FIN.out.2];exact decide_eq_true (by omega)⟩,FIN.out.1⟩
  ·have hnl:¬(k:Int)<(n:Int):=by omega
   have FIN:Aside (Cox L D F w σ wr∧lostL σ.T d=false):=by
    refine⟨⟨Fr,gr,vr,Cr.out,Gr.out⟩,?_⟩
    have:=Ar.out
    rw[take_of_length_le (by rw[HD.out];omega)] at this
    exact this
   go_wp2_with fail
   go_ret
   exact⟨⟨-1,rfl,by rw[FIN.out.2];rfl⟩,FIN.out.1⟩
theorem contLost(C:Co w L D F g v σ){a:Option Addr}{n cap:Nat}{d:List Int}(hd:d.length=n)(hn:n≤1000000)(o:Ow w F (.slice a n cap) d) :
  Calls Tryz.prog 43 #[.slice a n cap,.func (.func 44) #[pt D.B] #[]] w fun e w'=>e=.returned (.bool (lostL σ.T d))∧Cox L D F w σ w':=by
 have P:=indLost C hd hn o
 obtain⟨R,hR⟩:∃R,lostL σ.T d=R:=⟨_,rfl⟩
 rw[hR] at P⊢
 clear C o hd hn hR
 go_enter Tryz.func43,Tryz.ntmps43
 go_wp2_with fail
 refine P.mono ?_
 rintro e w1 ⟨⟨z,rfl,hz⟩,X⟩
 have FIN:Aside _:=X
 subst hz
 clear P X
 go_wp2_with fail
 go_ret
 exact⟨rfl,FIN.out⟩
def notL(T:List Ta.TR)(d:List Int):List Int:=d.filter fun j=>stT T j != 4
theorem Co.frX{X:Nat→Prop}(C:Co w L D F g v σ)(f:Ta.Fr X w w')(hX:∀k,X k→(∀p,¬F p k)∧NQ w k):Co w' L D F g v σ:=by
 have KK:K8 (fun q=>False) w' L D F g v σ:=C.keep (fun q=>False) f (fun q _ k hk hy=>(hX k hy).1 q hk) (fun _ k hk=>(hX k hk).2)
 exact⟨KK.head (by simp),KK.tab (by simp),KK.que (by simp),KK.whl (by simp),KK.dag (by simp),KK.cre (by simp),KK.evs (by simp),KK.gon (by simp),C.f0,C.f2,C.f5,C.f6,C.f7,C.f8,C.fp.grow f.size,le_trans C.lw f.size,le_trans C.wb f.size,C.qok,C.th1,C.th8,C.k16⟩
theorem Gc.ownX{w0:World}{F0:Nat→Nat→Prop}{X:Nat→Prop}(G:Gc L F0 w0 F w)(hX:∀k,X k→w0.heap.size≤k)(hL:L≤w0.heap.size)(f:Ta.Fr X w w'):Gc L F0 w0 F w':=
 ⟨G.low.trans (f.toBelow (fun k hk=>le_trans hL (hX k hk)) (le_trans hL G.size)),fun k hk hF hU=>(f.block k (Nat.lt_of_lt_of_le hk G.size) (fun e=>by have:=hX k e;omega)).trans (G.block k hk hF hU),G.new⟩
def Owb(S:Nat)(w:World)(F:Nat→Nat→Prop)(v:Value)(d:List Int):Prop:=Da.OwnI w S v d∧∀k,v.ownBlock=some k→∀p,¬F p k
theorem Owb.ow{S:Nat}{v:Value}{d:List Int}(h:Owb S w F v d):Ow w F v d:=⟨h.1.low (Nat.zero_le _),h.2⟩
theorem Owb.gc{S:Nat}{v:Value}{d:List Int}(h:Owb S w F v d)(G:Gc L F w F' w'):Owb S w' F' v d:=by
 have q:=h.ow.gc G
 refine⟨h.1.of_block fun k hk=>?_,q.2⟩
 obtain⟨cs,hc⟩:=h.1.rowT hk
 exact((show Bx w F k cs 3 from⟨hc,h.2 k hk⟩).gc mq_int G).1.trans hc.symm
theorem Owb.nil(S:Nat)(w:World)(F:Nat→Nat→Prop):Owb S w F (.slice none 0 0) []:=⟨Da.OwnI.nil _ _,fun k hk=>by cases hk⟩
def Ap(v v':Value):Prop:=∀k,v.ownBlock=some k→v'.ownBlock≠some k
theorem Ow.fr{v v1:Value}{d1:List Int}(o:Ow w F v1 d1)(f:Ta.Fr (fun k=>v.ownBlock=some k) w w')(ap:Ap v v1):Ow w' F v1 d1:=
 ⟨o.1.of_block fun k hk=>f.block k (o.1.rowLt hk).2 (fun h=>ap k h hk),o.2⟩
theorem Ap.new{v v' v1:Value}{d1:List Int}(o:Ow w F v1 d1)(ap:Ap v v1)(hn:∀k,v'.ownBlock=some k→v.ownBlock=some k∨w.heap.size≤k):Ap v' v1:=fun k hk h1=>by
 rcases hn k hk with e|e
 ·exact ap k e h1
 ·have:=(o.1.rowLt h1).2;omega
theorem Owb.push{S:Nat}{w0:World}{F0:Nat→Nat→Prop}{v v0:Value}{d:List Int}(o:Owb S w F v d)(C:Co w L D F g v0 σ)(G:Gc L F0 w0 F w)(hS:w0.heap.size≤S)(hS2:S≤w.heap.size)(hL:L≤w0.heap.size)(x:Int)(hd:d.length<1000000) :
  ∃v' w',(Builtin.append_ #[22,22] 22 #[v,.slice (some ⟨w.heap.size,0,none⟩) 1 1]).run Tryz.prog (w.alloc (.cells #[.int .i64 x] 3))=.ok v' w'∧
  Owb S w' F v' (d++[x])∧Co w' L D F g v0 σ∧Gc L F0 w0 F w'∧Ta.Fr (fun k=>v.ownBlock=some k) w w'∧(∀k,v'.ownBlock=some k→v.ownBlock=some k∨w.heap.size≤k):=by
 obtain⟨v',w',hr,o',f,hn⟩:=o.1.push x hd hS2
 have f':Ta.Fr (fun k=>v.ownBlock=some k) w w':=ofD f
 refine⟨v',w',hr,⟨o',fun k hk p hp=>?_⟩,C.frX f' (fun k hk=>⟨o.2 k hk,?_⟩),G.ownX (fun k hk=>le_trans hS (o.1.rowLt hk).1) hL f',f',hn⟩
 ·rcases hn k hk with e|e
  ·exact o.2 k e p hp
  ·have:=C.fp.lt p k hp;omega
 ·obtain⟨cs,hc⟩:=o.1.rowT hk
  exact nq_of hc (by unfold QT;decide)
theorem notL_len(T:List Ta.TR)(d:List Int):(notL T d).length≤d.length:=List.length_filter_le _ _
theorem notL_up(T:List Ta.TR){d:List Int}{I:Nat}(hI:I<d.length):notL T (d.take (I+1))=notL T (d.take I)++if stT T (d.getD I 0) != 4 then [d.getD I 0] else []:=by
 unfold notL
 rw[Da.take_up hI,List.filter_append]
 congr 1
 by_cases c:(stT T (d.getD I 0) != 4)=true
 ·rw[if_pos c];simp only[List.filter_cons,c,if_true,List.filter_nil]
 ·rw[if_neg c];simp only[List.filter_cons,c,List.filter_nil];rfl
theorem notA(C:Co w L D F g v σ){a:Option Addr}{n cap:Nat}{d:List Int}(hd:d.length=n)(hn:n≤100000)(o:Ow w F (.slice a n cap) d) :
  Calls Tryz.prog 47 #[pt D.B,.slice a n cap] w fun e w'=>∃a' cap',e=.returned (.slice a' (notL σ.T d).length cap')∧∃F',Owb w.heap.size w' F' (.slice a' (notL σ.T d).length cap') (notL σ.T d)∧(∃g' v',Co w' L D F' g' v' σ)∧Gc L F w F' w':=by
 have CT:Aside (Co w L D F g v σ):=C
 have OW:Aside (Ow w F (.slice a n cap) d):=o
 have HD:Aside (d.length=n):=hd
 have X:Aside (Gc L F w F w):=Gc.refl _ _ _
 obtain⟨S,hS⟩:∃S,w.heap.size=S:=⟨_,rfl⟩
 have HS:Aside (w.heap.size=S∧L≤w.heap.size):=⟨hS,C.lw⟩
 have ON:Aside (Owb S w F (.slice none 0 0) (notL σ.T (d.take 0))∧Ap (.slice none 0 0) (.slice a n cap)):=⟨Owb.nil _ _ _,fun k hk=>by cases hk⟩
 rw[hS]
 clear C o hd hS
 go_enter Tryz.func47,Tryz.ntmps47
 go_wp2_with fail
 go_loopg [5,7,10] n (fun kx s5 s7 s10 wr=>∃(k:Nat)(vf:Value),s10=.int .i64 k∧vf=s5∧k≤n∧n-k≤kx∧∃Fr gr vr,Aside (Co wr L D Fr gr vr σ)∧Aside (Ow wr Fr (.slice a n cap) d)∧Aside (Gc L F w Fr wr)∧Aside (Owb S wr Fr vf (notL σ.T (d.take k))∧Ap vf (.slice a n cap)))
 case atStart=>exact⟨0,_,rfl,rfl,by omega,by omega,F,g,v,CT,OW,X,ON⟩
 case round=>
  obtain⟨k,s5,rfl,rfl,hk,hkx,Fr,gr,vr,Cr,Or,Gr,Nr⟩:=hrel
  by_cases c:k<n
  ·have hlt:(k:Int)<(n:Int):=by omega
   obtain⟨gg,off,rfl,glt,hc⟩:=Or.out.at HD.out c
   have hkd:k<d.length:=by rw[HD.out];exact c
   obtain⟨j,hj⟩:∃j,d.getD k 0=j:=⟨_,rfl⟩
   rw[hj] at hc
   have P:=statusA Cr.out j
   have HJ:Aside (d.getD k 0=j∧k<d.length):=⟨hj,hkd⟩
   obtain⟨B,hB⟩:∃B,stT σ.T j=B:=⟨_,rfl⟩
   rw[hB] at P
   have HB:Aside _:=hB
   have HN:Aside (n≤100000):=hn
   clear hj hkd hB
   go_wp2_with fail
   refine P.mono ?_
   rintro e w1 ⟨rfl,F1,g1,v1,C1,G1⟩
   have O1:=Or.out.gc G1
   have X1:=Gr.out.trans G1
   have N1:=Nr.out.1.gc G1
   have up:=notL_up σ.T HJ.out.2
   rw[HJ.out.1,HB.out] at up
   clear P hc G1
   by_cases c4:B=4
   ·subst c4
    rw[if_neg (by decide),List.append_nil] at up
    have NX:Aside (Co w1 L D F1 g1 v1 σ∧Ow w1 F1 (.slice (some ⟨gg,off,none⟩) n cap) d∧Gc L F w F1 w1∧(Owb S w1 F1 s5 (notL σ.T (d.take (k+1)))∧Ap s5 (.slice (some ⟨gg,off,none⟩) n cap))):=⟨C1,O1,X1,by rw[up];exact N1,Nr.out.2⟩
    clear C1 O1 X1 N1 up
    go_wp2_with fail
    go_roundg (n-(k+1))
    case measure=>omega
    case rel=>exact⟨k+1,_,by go_num,rfl,by omega,le_refl _,F1,g1,v1,NX.out.1,NX.out.2.1,NX.out.2.2.1,NX.out.2.2.2⟩
   ·have hb:(B != 4)=true:=by simpa using c4
    have hb':(B==4)=false:=by simpa using c4
    rw[if_pos hb] at up
    have hlen:(notL σ.T (d.take k)).length<1000000:=by
     have h1:=notL_len σ.T (d.take k)
     have h2:=HD.out
     have h3:=HN.out
     rw[List.length_take] at h1
     omega
    obtain⟨v2,w2,hr2,o2,C2,G2,f2,n2⟩:=N1.push C1 X1 (by have:=HS.out.1;omega) (by have:=X1.size;have:=HS.out.1;omega) HS.out.2 j hlen
    have NX:Aside (Co w2 L D F1 g1 v1 σ∧Ow w2 F1 (.slice (some ⟨gg,off,none⟩) n cap) d∧Gc L F w F1 w2∧(Owb S w2 F1 v2 (notL σ.T (d.take (k+1)))∧Ap v2 (.slice (some ⟨gg,off,none⟩) n cap))):=⟨C2,O1.fr f2 Nr.out.2,G2,by rw[up];exact o2,Ap.new O1 Nr.out.2 n2⟩
    clear C1 O1 X1 N1 up o2 C2 G2 f2 n2 hlen
    go_wp2_with (at_builtin;refine Da.wpList_app _ rfl _ _ 22 rfl _ _ rfl rfl v2 w2 hr2 ?_;clear hr2)
    go_roundg (n-(k+1))
    case measure=>omega
    case rel=>exact⟨k+1,_,by go_num,rfl,by omega,le_refl _,F1,g1,v1,NX.out.1,NX.out.2.1,NX.out.2.2.1,NX.out.2.2.2⟩
  ·have hnl:¬(k:Int)<(n:Int):=by omega
   have ek:d.take k=d:=take_of_length_le (by rw[HD.out];omega)
   have FIN:Aside (∃a' cap',Ending.returned s5=.returned (.slice a' (notL σ.T d).length cap')∧∃F',Owb S wr F' (.slice a' (notL σ.T d).length cap') (notL σ.T d)∧(∃g' v',Co wr L D F' g' v' σ)∧Gc L F w F' wr):=by
    have h1:=Nr.out.1
    rw[ek] at h1
    obtain⟨a',cap',e',_⟩:=h1.1.isI
    subst e'
    exact⟨a',cap',rfl,Fr,h1,⟨gr,vr,Cr.out⟩,Gr.out⟩
   clear ek
   go_wp2_with fail
   go_ret
   exact FIN.out
end
section
variable {w w' u:World}{L i:Nat}{D:CAd}{F F':Nat→Nat→Prop}{g v:Value}{σ:CS}{x:Ta.TR}
def CanT(T:List Ta.TR)(j:Int):Prop:=∃(k:Nat)(x:Ta.TR),j=(k:Int)+1∧T[k]?=some x∧(x.s=1∨x.s=2)∧0≤x.p
def isC(x:Ta.TR):Bool:=x.s==1||x.s==2
theorem can_len:∀(d:List Int)(T:List Ta.TR),d.Nodup→(∀j∈d,CanT T j)→d.length≤T.countP isC
 | [],T,_,_=>Nat.zero_le _
 | j::d,T,h,hw=>by
  obtain⟨h1,h2⟩:=List.nodup_cons.1 h
  obtain⟨k,x,rfl,hx,hs,hp⟩:=hw j (by simp)
  have ih:=can_len d (T.set k {x with s:=3}) h2 (fun j' hj'=>by
   obtain⟨k',x',rfl,hx',hs',hp'⟩:=hw j' (by simp[hj'])
   have hne:k≠k':=fun e=>h1 (by rw[e];exact hj')
   exact⟨k',x',rfl,by rw[getElem?_set_ne hne];exact hx',hs',hp'⟩)
  have:=Ta.cntP_set isC T k x {x with s:=3} hx
  have e1:isC x=true:=by rcases hs with hs|hs<;>simp[isC,hs]
  have e2:isC {x with s:=3}=false:=by simp[isC]
  rw[e1,e2] at this
  simp at this
  simp
  omega
theorem CanT.le{T:List Ta.TR}{j:Int}(h:CanT T j):1≤j∧j≤T.length:=by
 obtain⟨k,x,rfl,hx,_⟩:=h
 have:=(List.getElem?_eq_some_iff.1 hx).1
 omega
theorem Wt.can{T:List Ta.TR}{j:Int}(h:Wt T j):CanT T j:=by
 obtain⟨k,x,e,hx,hs,hp⟩:=h
 exact⟨k,x,e,hx,.inl hs,hp⟩
def canX(σ:CS)(i:Nat)(x:Ta.TR):CS:=if x.s=1 then stopS (turnS σ i x 6) ((i:Int)+1) else wdrS (turnS σ i x 6) ((i:Int)+1)
def canStep(σ:CS)(j:Int):CS:=match σ.T[(j-1).toNat]? with
 | some x=>canX σ (j-1).toNat x
 | none=>σ
def canL(d:List Int)(σ:CS):CS:=d.foldl canStep σ
theorem canStep_at(σ:CS)(k:Nat)(x:Ta.TR)(h:σ.T[k]?=some x):canStep σ ((k:Int)+1)=canX σ k x:=by
 unfold canStep
 rw[show((k:Int)+1-1).toNat=k by omega,h]
structure SamC(σ σ':CS):Prop where
 th:σ'.th=σ.th
 k:σ'.k=σ.k
 n:σ'.n=σ.n
 now:σ'.now=σ.now
 E:σ'.E=σ.E
 N:σ'.N=σ.N
 m:σ'.m=σ.m
 tk:σ'.tk=σ.tk
 cl:σ'.cl=σ.cl
 gone:σ'.gone=σ.gone
 len:σ'.T.length=σ.T.length
theorem SamC.refl(σ:CS):SamC σ σ:=⟨rfl,rfl,rfl,rfl,rfl,rfl,rfl,rfl,rfl,rfl,rfl⟩
theorem SamC.trans{a b c:CS}(h:SamC a b)(k:SamC b c):SamC a c:=⟨k.th.trans h.th,k.k.trans h.k,k.n.trans h.n,k.now.trans h.now,k.E.trans h.E,k.N.trans h.N,k.m.trans h.m,k.tk.trans h.tk,k.cl.trans h.cl,k.gone.trans h.gone,k.len.trans h.len⟩
theorem canX_T(σ:CS)(i:Nat)(x:Ta.TR):(canX σ i x).T=σ.T.set i (turnX x 6):=by
 unfold canX
 split<;>rfl
theorem canX_sam(σ:CS)(i:Nat)(x:Ta.TR):SamC σ (canX σ i x):=by
 refine⟨?_,?_,?_,?_,?_,?_,?_,?_,?_,?_,by rw[canX_T,List.length_set]⟩<;>(unfold canX;split<;>rfl)
theorem canX_o(σ:CS)(i:Nat)(x:Ta.TR):(canX σ i x).o=σ.o-1∧(canX σ i x).qn≤σ.qn+1∧(canX σ i x).ev.length=σ.ev.length+1:=by
 unfold canX
 split
 ·exact⟨rfl,Nat.le_succ _,by show(σ.ev++[_]).length=_;simp⟩
 ·exact⟨rfl,le_refl _,by show(σ.ev++[_]).length=_;simp⟩
theorem canL_one(d:List Int)(σ:CS)(I:Nat)(hI:I<d.length):canL (d.take (I+1)) σ=canStep (canL (d.take I) σ) (d.getD I 0):=by
 unfold canL
 rw[Da.take_up hI,List.foldl_append]
 rfl
theorem canL_inv(σ:CS){d:List Int}(hn:d.Nodup)(hw:∀j∈d,CanT σ.T j):∀I,I≤d.length→SamC σ (canL (d.take I) σ)∧(canL (d.take I) σ).qn≤σ.qn+I∧(canL (d.take I) σ).ev.length=σ.ev.length+I∧(canL (d.take I) σ).o=σ.o-I∧(∀k:Nat,((k:Int)+1)∉d.take I→(canL (d.take I) σ).T[k]?=σ.T[k]?):=by
 intro I
 induction I with
 | zero=>intro _;exact⟨SamC.refl σ,le_refl _,rfl,rfl,fun k _=>rfl⟩
 | succ I ih=>
  intro hI
  have hI':I<d.length:=by omega
  obtain⟨s,q,e,o,T⟩:=ih (by omega)
  obtain⟨k,x,hj,hx,hs,hp⟩:=hw _ (Da.getD_mem hI')
  have hk:((k:Int)+1)∉d.take I:=by rw[←hj];exact Da.nodup_take hn hI'
  have hx':(canL (d.take I) σ).T[k]?=some x:=(T k hk).trans hx
  rw[canL_one d σ I hI',hj,canStep_at _ k x hx']
  obtain⟨c1,c2,c3⟩:=canX_o (canL (d.take I) σ) k x
  refine⟨s.trans (canX_sam _ _ _),by omega,by omega,by omega,fun k' hk'=>?_⟩
  rw[Da.mem_take_up hI',hj] at hk'
  have hne:k≠k':=fun e=>hk' (.inr (by rw[e]))
  rw[canX_T,getElem?_set_ne hne]
  exact T k' (fun h=>hk' (.inl h))
theorem canL_sam(σ:CS){d:List Int}(hn:d.Nodup)(hw:∀j∈d,CanT σ.T j):SamC σ (canL d σ)∧(canL d σ).qn≤σ.qn+d.length∧(canL d σ).ev.length=σ.ev.length+d.length∧(canL d σ).o=σ.o-d.length∧(∀k:Nat,((k:Int)+1)∉d→(canL d σ).T[k]?=σ.T[k]?):=by
 have:=canL_inv σ hn hw d.length (le_refl _)
 rw[List.take_length] at this
 exact this
theorem turnC6(C:Co w L D F g v σ)(hl:σ.ev.length<1000000)(hn:σ.qn≤1000)(t:Int)(hi:σ.T[i]?=some x)(hs:x.s=1∨x.s=2)(hp:0≤x.p)(wi:Wl.wfI ((i:Int)+1)) :
  Calls Tryz.prog 60 #[pt D.B,.int .i64 t,.int .i64 ((i:Int)+1),.int .i64 6] w fun e w'=>e=.returned (.tuple #[])∧Cox L D F w (canX σ i x) w':=by
 unfold canX
 rcases hs with hs|hs
 ·rw[if_pos hs]
  exact turn16 C hl t hi hs hp wi
 ·rw[if_neg (by omega)]
  exact turn26 C hl hn t hi hs hp
theorem wf_lt{T:List Ta.TR}{j:Int}(h:CanT T j)(hT:T.length≤200):Wl.wfI j:=by
 have:=h.le
 exact Da.wfI_of (by omega) (by omega)
theorem cancelAllC(C:Co w L D F g v σ){a:Option Addr}{n cap:Nat}{d:List Int}(hd:d.length=n)(o:Ow w F (.slice a n cap) d)(nd:d.Nodup)(hw:∀j∈d,CanT σ.T j)(hl:σ.ev.length+300<1000000)(hT:σ.T.length≤200)(hq:σ.qn+n≤1000) :
  Calls Tryz.prog 119 #[pt D.B,.slice a n cap] w fun e w'=>e=.returned (.tuple #[])∧Cox L D F w (canL d σ) w':=by
 have hn200:n≤200:=by
  have h1:=can_len d σ.T nd hw
  have h2:=Ta.cntP_le isC σ.T
  omega
 have CT:Aside (Co w L D F g v (canL (d.take 0) σ)):=C
 have OW:Aside (Ow w F (.slice a n cap) d):=o
 have HD:Aside (d.length=n∧d.Nodup∧(∀j∈d,CanT σ.T j)∧σ.ev.length+300<1000000∧σ.T.length≤200∧σ.qn+n≤1000):=⟨hd,nd,hw,hl,hT,hq⟩
 have X:Aside (Gc L F w F w):=Gc.refl _ _ _
 clear C o hd nd hw hl hT hq
 go_enter Tryz.func119,Tryz.ntmps119
 go_wp2_with fail
 go_loopg [5,8] n (fun kx s5 s8 wr=>∃(k:Nat),s8=.int .i64 k∧k≤n∧n-k≤kx∧∃Fr gr vr,Aside (Co wr L D Fr gr vr (canL (d.take k) σ))∧Aside (Ow wr Fr (.slice a n cap) d)∧Aside (Gc L F w Fr wr))
 case atStart=>exact⟨0,rfl,by omega,by omega,F,g,v,CT,OW,X⟩
 case round=>
  obtain⟨k,rfl,hk,hkx,Fr,gr,vr,Cr,Or,Gr⟩:=hrel
  by_cases c:k<n
  ·have hlt:(k:Int)<(n:Int):=by omega
   obtain⟨gg,off,rfl,glt,hc⟩:=Or.out.at HD.out.1 c
   have hkd:k<d.length:=by rw[HD.out.1];exact c
   have hcan:=HD.out.2.2.1 _ (Da.getD_mem hkd)
   have hwf:=wf_lt hcan HD.out.2.2.2.2.1
   obtain⟨kk,x,ej,hx,hs,hp⟩:=hcan
   obtain⟨s1,q1,e1,o1,T1⟩:=canL_inv σ HD.out.2.1 HD.out.2.2.1 k (by omega)
   have hx':(canL (d.take k) σ).T[kk]?=some x:=(T1 kk (by rw[←ej];exact Da.nodup_take HD.out.2.1 hkd)).trans hx
   rw[ej] at hwf
   have P:=turnC6 Cr.out (by have:=HD.out.2.2.2.1;omega) (by have:=HD.out.2.2.2.2.2;omega) (-1) hx' hs hp hwf
   have RL:Aside (canL (d.take (k+1)) σ=canX (canL (d.take k) σ) kk x):=by
    show _=_
    rw[canL_one d σ k hkd,ej,canStep_at _ kk x hx']
   rw[ej] at hc
   clear hx hx' hs hp s1 q1 e1 o1 T1 ej hkd hwf
   go_wp2_with fail
   refine P.mono ?_
   rintro e w4 ⟨rfl,F4,g4,v4,C4,G4⟩
   have C4':Aside (Co w4 L D F4 g4 v4 (canL (d.take (k+1)) σ)):=by
    show Co w4 L D F4 g4 v4 (canL (d.take (k+1)) σ)
    rw[RL.out];exact C4
   have O4:Aside (Ow w4 F4 (.slice (some ⟨gg,off,none⟩) n cap) d):=Or.out.gc G4
   have X4:Aside (Gc L F w F4 w4):=Gr.out.trans G4
   clear P C4 G4 hc RL
   go_wp2_with fail
   go_roundg (n-(k+1))
   case measure=>omega
   case rel=>exact⟨k+1,by go_num,by omega,le_refl _,F4,g4,v4,C4',O4,X4⟩
  ·have hnl:¬(k:Int)<(n:Int):=by omega
   have FIN:Aside (Cox L D F w (canL d σ) wr):=by
    refine⟨Fr,gr,vr,?_,Gr.out⟩
    have:=Cr.out
    rw[take_of_length_le (by rw[HD.out.1];omega)] at this
    exact this
   clear hk hkx
   go_wp2_with fail
   go_end0
   exact⟨rfl,FIN.out⟩
end
section
variable {w w' u:World}{L i:Nat}{D:CAd}{F F':Nat→Nat→Prop}{g v:Value}{σ:CS}{x:Ta.TR}
def KillL(E:Da.Rel)(id:Int)(d:List Int):Prop:=Da.Up d∧∀j,j∈d↔Da.Rch E id j
def kilE(E:Da.Rel)(id:Int):Da.Rel:=fun q j=>E q j∧j≠id∧¬Da.Rch E id j
theorem Co.killC(C:Co w L D F g v σ)(hN:σ.N<100000){id:Int}(hi:Da.wfI id) :
  Calls Tryz.prog 118 #[pt D.Bd,.int .i64 id] w fun e w'=>∃a n cap d F',e=.returned (.slice a n cap)∧d.length=n∧KillL σ.E id d∧Owb w.heap.size w' F' (.slice a n cap) d∧(∃g' v',Co w' L D F' g' v' {σ with E:=kilE σ.E id})∧Gc L F w F' w':=by
 refine(Da.killG C.dag hN hi).mono ?_
 rintro e w' ⟨v',d,X',rfl,o,up,md,Dg',st,dis,_⟩
 obtain⟨C',G'⟩:=C.setDag Dg' st
 obtain⟨a,cap,e,_⟩:=o.isI
 subst e
 refine⟨a,_,cap,d,_,rfl,rfl,⟨up,md⟩,⟨o,fun k hk p hp=>?_⟩,⟨_,_,C'⟩,G'⟩
 by_cases e:p=4
 ·subst e;rw[fset_same] at hp;exact dis k hk hp
 ·rw[fset_ne _ _ e] at hp
  have:=C.fp.lt p k hp
  have:=(o.rowLt hk).1
  omega
theorem kill_nodup{E:Da.Rel}{id:Int}{d:List Int}(h:KillL E id d)(hlt:∀p i,E p i→p<i):(id::d).Nodup:=by
 refine List.nodup_cons.2 ⟨fun hm=>?_,up_nodup h.1⟩
 have:=Da.Rch.lt hlt ((h.2 id).1 hm)
 omega
end
section
variable {w w' u:World}{L i:Nat}{D:CAd}{F F':Nat→Nat→Prop}{g v:Value}{σ:CS}{x:Ta.TR}
theorem finC(C:Co w L D F g v σ){t:Nat}(ht:t<σ.th)(hi:σ.T[i]?=some x)(hs:x.s=3)(hp:x.p=0)(hid:Da.wfI ((i:Int)+1))(hN:σ.N<1000000)(hl:σ.ev.length+300<1000000)(hT:σ.T.length≤200)(hq:σ.qn+σ.T.countP isW≤1000)(htk:σ.tk<1000000)(hw:∀j,σ.E ((i:Int)+1) j→(∀q,σ.E q j→q=(i:Int)+1)→Wt σ.T j) :
  Calls Tryz.prog 13 #[pt D.B,.int .i64 t,.int .i64 ((i:Int)+1),.bool true] w fun e w'=>e=.returned (.int .i64 0)∧∃d,DoneL σ.E ((i:Int)+1) d∧Cox L D F w (relL t d {endS (turnS σ i x 4) t ((i:Int)+1) with E:=fun q j=>σ.E q j∧q≠(i:Int)+1}) w':=by
 have P1:=threadC C ht
 have P2:=taskC C hi (by omega)
 have P6:Aside (∀(W:World) F3 g3 v3,Co W L D F3 g3 v3 σ→Calls Tryz.prog 60 #[pt D.B,.int .i64 t,.int .i64 ((i:Int)+1),.int .i64 4] W fun e w'=>e=.returned (.tuple #[])∧∃d,DoneL σ.E ((i:Int)+1) d∧Cox L D F3 W (relL t d {endS (turnS σ i x 4) t ((i:Int)+1) with E:=fun q j=>σ.E q j∧q≠(i:Int)+1}) w'):=fun W F3 g3 v3 C3=>turn34 C3 ht hi hs (by omega) hid hN hl hT hq htk hw
 have HH:Aside (σ.T[i]?=some x∧x.s=3∧x.p=0):=⟨hi,hs,hp⟩
 clear C ht hi hs hp hid hN hl hT hq htk hw
 go_enter Tryz.func13,Tryz.ntmps13
 go_wp2_with fail
 refine P1.mono ?_
 rintro e w1 ⟨rfl,rfl⟩
 clear P1
 go_wp2_with fail
 refine P2.mono ?_
 rintro e w2 ⟨rfl,F2,g2,v2,C2,G2⟩
 clear P2
 have P:=statusC C2 HH.out.1
 rw[HH.out.2.1] at P
 have X2:Aside (Gc L F w1 F2 w2):=G2
 clear C2 G2
 go_wp2_with fail
 refine P.mono ?_
 rintro e w3 ⟨rfl,F3,g3,v3,C3,G3⟩
 clear P
 have C3d:=C3.drew
 have X3:Aside (Gc L F w1 F3 w3.drew∧Co w3.drew L D F3 g3 v3 σ):=⟨(X2.out.trans G3).trans (Gc.below F3 C3.lw (Below.refl _ _).drew),C3d⟩
 have c3:w3.drew.cell? ⟨D.B,3,none⟩=some (pt D.Bt):=C3d.c3
 have c5:w3.drew.cell? ⟨D.B,5,none⟩=some (pt D.Bw):=C3d.c5
 have NW:Aside (Calls Tryz.prog 50 #[pt D.Bw] w3.drew fun e w'=>e=.returned (.int .u64 σ.now)∧w'=w3.drew):=Wl.now_any C3d.whl
 have AG:Aside (Calls Tryz.prog 61 #[pt D.Bt,.int .i64 ((i:Int)+1),.int .u64 σ.now] w3.drew fun e w'=>e=.returned (.tuple #[.int .u64 0,.bool false])∧Below w3.drew.heap.size w3.drew w'∧w'.cell? ⟨D.B,3,none⟩=some (pt D.Bt)∧w'.cell? ⟨D.B,5,none⟩=some (pt D.Bw)):=by
  refine(Ta.againZ C3d.tab HH.out.1 σ.now HH.out.2.2).mono ?_
  rintro e w' ⟨rfl,b⟩
  exact⟨rfl,b,(C3d.below b).c3,(C3d.below b).c5⟩
 clear C3 C3d G3 X2
 go_upto_region 5 with fail
 go_region_held3 (fun w'=>w'.cell? ⟨D.B,3,none⟩=some (pt D.Bt)∧w'.cell? ⟨D.B,5,none⟩=some (pt D.Bw)) (first|with_reducible exact⟨c3,c5⟩|with_reducible exact⟨d3,d5⟩) ((first|(go_at_call 50;(with_reducible refine Calls.mono NW.out ?_);rintro e v2 ⟨rfl,rfl⟩)|(go_at_call 61;(with_reducible refine Calls.mono AG.out ?_);rintro e w4 ⟨rfl,b4,d3,d5⟩)))
 have C4:=X3.out.2.below b4
 have P:=P6.out w4 F3 g3 v3 C4
 have X4:Aside (Gc L F w1 F3 w4):=X3.out.1.trans (Gc.below F3 X3.out.2.lw b4)
 clear C4 b4 c3 c5 d3 d5
 go_wp2_with fail
 refine P.mono ?_
 rintro e w5 ⟨rfl,d,dl,F5,g5,v5,C5,G5⟩
 have FIN:Aside (∃d,DoneL σ.E ((i:Int)+1) d∧Cox L D F w1 (relL t d {endS (turnS σ i x 4) t ((i:Int)+1) with E:=fun q j=>σ.E q j∧q≠(i:Int)+1}) w5):=⟨d,dl,F5,g5,v5,C5,X4.out.trans G5⟩
 clear P C5 G5 X4 dl
 go_wp2_with fail
 go_ret
 exact⟨rfl,FIN.out⟩
end
section
variable {w w' u:World}{L i:Nat}{D:CAd}{F F':Nat→Nat→Prop}{g v:Value}{σ:CS}{x:Ta.TR}
def failS(σ:CS)(t id:Int):CS:={tellS {σ with o:=σ.o-1} 5 t id 0 with E:=kilE σ.E id}
theorem failC(C:Co w L D F g v σ)(t:Int){id:Int}(hid:Da.wfI id)(hN:σ.N<100000)(hlt:∀p i,σ.E p i→p<i)(hl:σ.ev.length+400<1000000)(hT:σ.T.length≤200)(hq:σ.qn+σ.T.countP isC≤1000)(hw:∀j,Da.Rch σ.E id j→Wt σ.T j) :
  Calls Tryz.prog 217 #[pt D.B,.int .i64 t,.int .i64 id] w fun e w'=>e=.returned (.tuple #[])∧∃d,KillL σ.E id d∧Cox L D F w (canL d (failS σ t id)) w':=by
 have c7:=C.c7
 have P:=C.giveC
 have HH:Aside (Da.wfI id∧σ.N<100000∧(∀p i,σ.E p i→p<i)∧σ.ev.length+400<1000000∧σ.T.length≤200∧σ.qn+σ.T.countP isC≤1000∧∀j,Da.Rch σ.E id j→Wt σ.T j):=⟨hid,hN,hlt,hl,hT,hq,hw⟩
 clear C hid hN hlt hl hT hq hw
 go_enter Tryz.func217,Tryz.ntmps217
 go_wp2_with fail
 refine P.mono ?_
 rintro e w1 ⟨⟨n1,rfl⟩,F1,g1,v1,C1,G1⟩
 clear P c7
 have P:=tellC C1 (show σ.ev.length<1000000 by have:=HH.out.2.2.2.1;omega) 5 t id 0
 have X1:Aside (Gc L F w F1 w1):=G1
 clear C1 G1
 go_wp2_with fail
 refine P.mono ?_
 rintro e w2 ⟨rfl,⟨F2,g2,v2,C2,G2⟩,_⟩
 clear P
 have c6:=C2.c6
 have P:=C2.killC (show σ.N<100000 from HH.out.2.1) HH.out.1
 have X2:Aside (Gc L F w F2 w2):=X1.out.trans G2
 clear C2 G2 X1
 go_wp2_with fail
 refine P.mono ?_
 rintro e w3 ⟨a,n,cap,d,F3,rfl,hd,kl,ow,⟨g3,v3,C3⟩,G3⟩
 clear P c6
 have C3':Co w3 L D F3 g3 v3 (failS σ t id):=C3
 have hn:=kill_nodup kl HH.out.2.2.1
 have hcan:∀j∈d,CanT (failS σ t id).T j:=fun j hj=>(HH.out.2.2.2.2.2.2 j ((kl.2 j).1 hj)).can
 have hln:=can_len d σ.T (List.nodup_cons.1 hn).2 hcan
 have P:=cancelAllC C3' hd ow.ow (List.nodup_cons.1 hn).2 hcan (by show(σ.ev++[_]).length+300<1000000;have:=HH.out.2.2.2.1;simp;omega) HH.out.2.2.2.2.1 (by show σ.qn+n≤1000;have:=HH.out.2.2.2.2.2.1;omega)
 have X3:Aside (Gc L F w F3 w3∧KillL σ.E id d):=⟨X2.out.trans G3,kl⟩
 clear C3 C3' G3 hn hcan hln ow kl X2
 go_wp2_with fail
 refine P.mono ?_
 rintro e w4 ⟨rfl,F4,g4,v4,C4,G4⟩
 have FIN:Aside (∃d,KillL σ.E id d∧Cox L D F w (canL d (failS σ t id)) w4):=⟨d,X3.out.2,F4,g4,v4,C4,X3.out.1.trans G4⟩
 clear P C4 G4 X3
 go_wp2_with fail
 go_end0
 exact⟨rfl,FIN.out⟩
theorem turn35(C:Co w L D F g v σ)(t:Int)(hi:σ.T[i]?=some x)(hs:x.s=3)(hp:0≤x.p)(hid:Da.wfI ((i:Int)+1))(hN:σ.N<100000)(hlt:∀p i,σ.E p i→p<i)(hl:σ.ev.length+400<1000000)(hT:σ.T.length≤200)(hq:σ.qn+σ.T.countP isC≤1000)(hw:∀j,Da.Rch σ.E ((i:Int)+1) j→Wt σ.T j) :
  Calls Tryz.prog 60 #[pt D.B,.int .i64 t,.int .i64 ((i:Int)+1),.int .i64 5] w fun e w'=>e=.returned (.tuple #[])∧∃d,KillL σ.E ((i:Int)+1) d∧Cox L D F w (canL d (failS (turnS σ i x 5) t ((i:Int)+1))) w':=by
 refine(turn_byZ C t hi hs hp (by decide) (Z:=fun τ=>∃d,KillL σ.E ((i:Int)+1) d∧τ=canL d (failS (turnS σ i x 5) t ((i:Int)+1))) (fun F1 g1 v1 w1 C1=>?_)).mono ?_
 ·refine follow_35 D.B t ((i:Int)+1) w1 (fun w2 b2=>?_)
  have hx:σ.T.countP isC=(σ.T.set i (turnX x 5)).countP isC:=by
   have:=Ta.cntP_set isC σ.T i x (turnX x 5) hi
   have e1:isC x=false:=by simp[isC,hs]
   have e2:isC (turnX x 5)=false:=by simp[isC,(turnX_key x 5).2.2.1]
   rw[e1,e2] at this
   simpa using this.symm
  refine(failC (C1.below b2) t hid hN hlt hl (by show(σ.T.set i _).length≤200;simpa using hT) (by show σ.qn+(σ.T.set i _).countP isC≤1000;rw[←hx];exact hq) (fun j h1=>?_)).mono ?_
  ·obtain⟨k,y,e1,e2,e3,e4⟩:=hw j h1
   refine⟨k,y,e1,?_,e3,e4⟩
   show(σ.T.set i _)[k]?=_
   rw[getElem?_set_ne (fun e=>?_)]
   ·exact e2
   ·rw[←e,hi] at e2
    injection e2 with e2
    rw[e2] at hs
    omega
  ·rintro e w3 ⟨rfl,d,dl,F3,g3,v3,C3,G3⟩
   exact⟨rfl,_,⟨d,dl,rfl⟩,F3,g3,v3,C3,(Gc.below F1 C1.lw b2).trans G3⟩
 ·rintro e w' ⟨rfl,τ,⟨d,dl,rfl⟩,X⟩
  exact⟨rfl,d,dl,X⟩
theorem finF(C:Co w L D F g v σ){t:Nat}(ht:t<σ.th)(hi:σ.T[i]?=some x)(hs:x.s=3)(hp:x.p=0)(hid:Da.wfI ((i:Int)+1))(hN:σ.N<100000)(hlt:∀p i,σ.E p i→p<i)(hl:σ.ev.length+400<1000000)(hT:σ.T.length≤200)(hq:σ.qn+σ.T.countP isC≤1000)(hw:∀j,Da.Rch σ.E ((i:Int)+1) j→Wt σ.T j) :
  Calls Tryz.prog 13 #[pt D.B,.int .i64 t,.int .i64 ((i:Int)+1),.bool false] w fun e w'=>e=.returned (.int .i64 0)∧∃d,KillL σ.E ((i:Int)+1) d∧Cox L D F w (canL d (failS (turnS σ i x 5) t ((i:Int)+1))) w':=by
 have P1:=threadC C ht
 have P2:=taskC C hi (by omega)
 have P6:Aside (∀(W:World) F3 g3 v3,Co W L D F3 g3 v3 σ→Calls Tryz.prog 60 #[pt D.B,.int .i64 t,.int .i64 ((i:Int)+1),.int .i64 5] W fun e w'=>e=.returned (.tuple #[])∧∃d,KillL σ.E ((i:Int)+1) d∧Cox L D F3 W (canL d (failS (turnS σ i x 5) t ((i:Int)+1))) w'):=fun W F3 g3 v3 C3=>turn35 C3 t hi hs (by omega) hid hN hlt hl hT hq hw
 have HH:Aside (σ.T[i]?=some x∧x.s=3∧x.p=0):=⟨hi,hs,hp⟩
 clear C ht hi hs hp hid hN hlt hl hT hq hw
 go_enter Tryz.func13,Tryz.ntmps13
 go_wp2_with fail
 refine P1.mono ?_
 rintro e w1 ⟨rfl,rfl⟩
 clear P1
 go_wp2_with fail
 refine P2.mono ?_
 rintro e w2 ⟨rfl,F2,g2,v2,C2,G2⟩
 clear P2
 have P:=statusC C2 HH.out.1
 rw[HH.out.2.1] at P
 have X2:Aside (Gc L F w1 F2 w2):=G2
 clear C2 G2
 go_wp2_with fail
 refine P.mono ?_
 rintro e w3 ⟨rfl,F3,g3,v3,C3,G3⟩
 clear P
 have C3d:=C3.drew
 have X3:Aside (Gc L F w1 F3 w3.drew∧Co w3.drew L D F3 g3 v3 σ):=⟨(X2.out.trans G3).trans (Gc.below F3 C3.lw (Below.refl _ _).drew),C3d⟩
 have c3:w3.drew.cell? ⟨D.B,3,none⟩=some (pt D.Bt):=C3d.c3
 have c5:w3.drew.cell? ⟨D.B,5,none⟩=some (pt D.Bw):=C3d.c5
 have NW:Aside (Calls Tryz.prog 50 #[pt D.Bw] w3.drew fun e w'=>e=.returned (.int .u64 σ.now)∧w'=w3.drew):=Wl.now_any C3d.whl
 have AG:Aside (Calls Tryz.prog 61 #[pt D.Bt,.int .i64 ((i:Int)+1),.int .u64 σ.now] w3.drew fun e w'=>e=.returned (.tuple #[.int .u64 0,.bool false])∧Below w3.drew.heap.size w3.drew w'∧w'.cell? ⟨D.B,3,none⟩=some (pt D.Bt)∧w'.cell? ⟨D.B,5,none⟩=some (pt D.Bw)):=by
  refine(Ta.againZ C3d.tab HH.out.1 σ.now HH.out.2.2).mono ?_
  rintro e w' ⟨rfl,b⟩
  exact⟨rfl,b,(C3d.below b).c3,(C3d.below b).c5⟩
 clear C3 C3d G3 X2
 go_upto_region 5 with fail
 go_region_held3 (fun w'=>w'.cell? ⟨D.B,3,none⟩=some (pt D.Bt)∧w'.cell? ⟨D.B,5,none⟩=some (pt D.Bw)) (first|with_reducible exact⟨c3,c5⟩|with_reducible exact⟨d3,d5⟩) ((first|(go_at_call 50;(with_reducible refine Calls.mono NW.out ?_);rintro e v2 ⟨rfl,rfl⟩)|(go_at_call 61;(with_reducible refine Calls.mono AG.out ?_);rintro e w4 ⟨rfl,b4,d3,d5⟩)))
 have C4:=X3.out.2.below b4
 have P:=P6.out w4 F3 g3 v3 C4
 have X4:Aside (Gc L F w1 F3 w4):=X3.out.1.trans (Gc.below F3 X3.out.2.lw b4)
 clear C4 b4 c3 c5 d3 d5
 go_wp2_with fail
 refine P.mono ?_
 rintro e w5 ⟨rfl,d,dl,F5,g5,v5,C5,G5⟩
 have FIN:Aside (∃d,KillL σ.E ((i:Int)+1) d∧Cox L D F w1 (canL d (failS (turnS σ i x 5) t ((i:Int)+1))) w5):=⟨d,dl,F5,g5,v5,C5,X4.out.trans G5⟩
 clear P C5 G5 X4 dl
 go_wp2_with fail
 go_ret
 exact⟨rfl,FIN.out⟩
theorem Co.addD(C:Co w L D F g v σ){a:Option Addr}{n cap:Nat}{d:List Int}(hd:d.length=n)(o:Ow w F (.slice a n cap) d)(hN:σ.N+n<1000000){id:Int}(hi:Da.wfI id)(hb:Da.mayB id d=true)(hE:∀q,¬σ.E q id) :
  Calls Tryz.prog 48 #[pt D.Bd,.int .i64 id,.slice a n cap] w fun e w'=>∃r:Int,e=.returned (.tuple #[.int .i64 r,.int .i64 0])∧Cox L D F w {σ with E:=fun q j=>σ.E q j∨(j=id∧q∈d),N:=σ.N+n} w':=by
 subst hd
 obtain⟨a',cap',e,il⟩:=o.1.isI
 injection e with e1 _ e3
 subst e1 e3
 refine(Da.add_ok C.dag hN hi il hb hE).mono ?_
 rintro e w' ⟨r,X',rfl,_,_,Dg',st⟩
 obtain⟨C',G'⟩:=C.setDag Dg' st
 exact⟨_,rfl,_,_,_,C',G'⟩
def subWS(σ:CS)(prio:Int)(d:List Int):CS:={mkS (crS σ) (Ta.mkT prio 0 0 0 0 0 1) with E:=fun q j=>σ.E q j∨(j=(σ.T.length:Int)+1∧q∈d),N:=σ.N+d.length}
theorem subW(C:Co w L D F g v σ){t:Nat}(ht:t<σ.th)(hc:σ.cl=false)(hl:σ.T.length<200)(ho:σ.o<σ.n)(he:σ.ev.length+1<1000000)(prio:Int)(h0:0≤prio)(h7:prio≤7){a:Option Addr}{n cap:Nat}{d:List Int}(hd:d.length=n)(hn:n≤100000)(hn0:n≠0)(hN:σ.N+n<1000000)(o:Ow w F (.slice a n cap) d)(hA:areB σ.T d=true)(hL:lostL σ.T d=false)(hD:notL σ.T d=d)(hb:Da.mayB ((σ.T.length:Int)+1) d=true)(hE:∀q,¬σ.E q ((σ.T.length:Int)+1)) :
  Calls Tryz.prog 9 #[pt D.B,.int .i64 t,.int .i64 prio,.slice none 0 0,.slice a n cap] w fun e w'=>e=.returned (.tuple #[.int .i64 ((σ.T.length:Int)+1),.int .i64 0])∧Cox L D F w (subWS σ prio d) w':=by
 have P1:=rightC C ht prio h0 h7
 have P2:=areA C hd (by omega) o
 rw[hA] at P2
 have OW:Aside (Ow w F (.slice a n cap) d):=o
 obtain⟨N1,hN1⟩:∃N1,(σ.T.length:Int)+1=N1:=⟨_,rfl⟩
 have HH:Aside (σ.cl=false∧σ.T.length<200∧σ.ev.length+1<1000000∧0≤prio∧prio≤7∧d.length=n∧n≤100000∧lostL σ.T d=false):=⟨hc,hl,he,h0,h7,hd,hn,hL⟩
 have H2:Aside (σ.o<σ.n∧n≠0∧σ.N+n<1000000∧notL σ.T d=d∧Da.mayB N1 d=true∧(∀q,¬σ.E q N1)∧Da.wfI N1):=⟨ho,hn0,hN,hD,by rw[←hN1];exact hb,by rw[←hN1];exact hE,by rw[←hN1];exact Da.wfI_of (by omega) (by omega)⟩
 have HN1:Aside _:=hN1
 have hnz:((n:Int)==0)=false:=by simp;omega
 rw[hN1]
 clear C ht hl he h0 h7 hc hN1 hd hn o hA hL ho hn0 hN hD hb hE
 go_enter Tryz.func9,Tryz.ntmps9
 go_wp2_with fail
 refine P1.mono ?_
 rintro e w1 ⟨rfl,rfl⟩
 clear P1
 go_wp2_with fail
 refine P2.mono ?_
 rintro e w2 ⟨rfl,F2,g2,v2,C2,G2⟩
 have P3:=refuseC C2 HH.out.1 HH.out.2.1
 have O2:=OW.out.gc G2
 have P4:=contLost C2 HH.out.2.2.2.2.2.1 (by have:=HH.out.2.2.2.2.2.2.1;omega) O2
 rw[HH.out.2.2.2.2.2.2.2] at P4
 have X2:Aside (Gc L F w1 F2 w2):=G2
 clear P2 C2 G2 O2
 go_wp2_with fail
 refine P3.mono ?_
 rintro e w3 ⟨rfl,rfl⟩
 clear P3
 go_wp2_with fail
 refine P4.mono ?_
 rintro e w4 ⟨rfl,F4,g4,v4,C4,G4⟩
 have c7:=C4.c7
 have P:=C4.credC H2.out.1
 have X4:Aside (Gc L F w1 F4 w4):=X2.out.trans G4
 clear P4 C4 G4
 go_wp2_with fail
 refine P.mono ?_
 rintro e w5 ⟨rfl,F5,g5,v5,C5,G5⟩
 have X5:Aside (Gc L F w1 F5 w5):=X4.out.trans G5
 have O5:=OW.out.gc X5.out
 have C5':Co w5 L D F5 g5 v5 (crS σ):=C5
 have P:=notA C5' HH.out.2.2.2.2.2.1 HH.out.2.2.2.2.2.2.1 O5
 rw[show(crS σ).T=σ.T from rfl,H2.out.2.2.2.1,HH.out.2.2.2.2.2.1] at P
 clear C5 C5' G5 c7 O5
 go_wp2_with fail
 refine P.mono ?_
 rintro e w6 ⟨a6,cap6,rfl,F6,O6,⟨g6,v6,C6⟩,G6⟩
 have X6:Aside (Gc L F w1 F6 w6∧Ow w6 F6 (.slice a6 n cap6) d):=⟨X5.out.trans G6,O6.ow⟩
 have P5:=begin1 C6 t HH.out.2.1 (show σ.ev.length<1000000 by have:=HH.out.2.2.1;omega) prio 0 0 0 0 0 0 HH.out.2.2.2.1 HH.out.2.2.2.2.1 (jb0 0 0 0)
 rw[show(crS σ).T=σ.T from rfl,HN1.out] at P5
 clear P C6 G6 O6
 go_wp2_with fail
 refine P5.mono ?_
 rintro e w7 ⟨rfl,F7,g7,v7,C7,G7⟩
 have c6:=C7.c6
 have P:=C7.addD HH.out.2.2.2.2.2.1 (X6.out.2.gc G7) H2.out.2.2.1 H2.out.2.2.2.2.2.2 H2.out.2.2.2.2.1 H2.out.2.2.2.2.2.1
 have X7:Aside (Gc L F w1 F7 w7):=X6.out.1.trans G7
 clear P5 C7 G7
 go_wp2_with fail
 refine P.mono ?_
 rintro e w8 ⟨r,rfl,F8,g8,v8,C8,G8⟩
 have FIN:Aside (Cox L D F w1 (subWS σ prio d) w8):=by
  refine⟨F8,g8,v8,?_,X7.out.trans G8⟩
  unfold subWS
  rw[HN1.out,HH.out.2.2.2.2.2.1]
  exact C8
 clear P C8 G8 c6
 go_wp2_with fail
 go_ret2
 exact⟨rfl,FIN.out⟩
end
section
variable {σ:CS}{i n was now t:Nat}{dl:Nat→Nat}
theorem relL_T(t:Nat):∀(d:List Int)(σ:CS),d.Nodup→(∀j∈d,Wt σ.T j)→∀k:Nat,(((k:Int)+1)∉d→(relL t d σ).T[k]?=σ.T[k]?)∧(((k:Int)+1)∈d→∀x,σ.T[k]?=some x→∃y,(relL t d σ).T[k]?=some y∧y.s=2∧y.p=x.p)
 | [],σ,_,_,k=>⟨fun _=>rfl,fun h=>by simp at h⟩
 | j::d,σ,hn,hw,k=>by
  obtain⟨h1,h2⟩:=List.nodup_cons.1 hn
  obtain⟨kk,x,ej,hx,hs,hp⟩:=hw j (by simp)
  have e:relL t (j::d) σ=relL t d (relStep t σ j):=rfl
  have eS:relStep t σ j=relS (turnS σ kk x 2) t kk (turnX x 2):=by rw[ej];exact relStep_at t σ kk x hx
  have hkl:kk<σ.T.length:=(List.getElem?_eq_some_iff.1 hx).1
  have oth:∀k':Nat,k'≠kk→(relStep t σ j).T[k']?=σ.T[k']?:=fun k' hk'=>by
   rw[eS,relS_T]
   show((σ.T.set kk _).set kk _)[k']?=_
   rw[getElem?_set_ne (fun h=>hk' h.symm),getElem?_set_ne (fun h=>hk' h.symm)]
  have hw':∀j'∈d,Wt (relStep t σ j).T j':=fun j' hj'=>by
   obtain⟨k',x',ej',hx',hs',hp'⟩:=hw j' (by simp[hj'])
   exact⟨k',x',ej',by rw[oth k' (fun h=>h1 (by rw[ej,←h,←ej'];exact hj'))];exact hx',hs',hp'⟩
  obtain⟨a,b⟩:=relL_T t d (relStep t σ j) h2 hw' k
  rw[e]
  refine⟨fun h=>?_,fun h y hy=>?_⟩
  ·have hk:k≠kk:=fun hk=>h (by rw[ej,hk];simp)
   rw[a (fun hd=>h (by simp[hd])),oth k hk]
  ·by_cases hk:k=kk
   ·subst hk
    rw[hx] at hy
    injection hy with hy
    subst hy
    refine⟨{turnX x 2 with key:=keyS (turnS σ k x 2) (turnX x 2)},?_,(turnX_key x 2).2.2.1,(turnX_key x 2).2.2.2⟩
    rw[a (by rw[←ej];exact h1),eS,relS_T]
    show((σ.T.set k _).set k _)[k]?=_
    rw[List.getElem?_set_self (by simp;exact hkl)]
   ·have hd:((k:Int)+1)∈d:=by
     rcases List.mem_cons.1 h with h|h
     ·exact absurd (by rw[ej] at h;omega) hk
     ·exact h
    exact b hd y (by rw[oth k hk];exact hy)
end
end Go.Proofs.YthpgfmmpjoodkaaGreatDoor
