import Derived.Test.YtjpbngiddjkjiaaGreatDoorWkF
open Go.Proofs.Tryz
namespace Go.Proofs.YtjpbngiddjkjiaaGreatDoor
set_option maxHeartbeats 8000000
set_option maxRecDepth 100000
set_option linter.unusedVariables false
open Go.RowKit Go.Lib Go.WideMaps Go.Maps
section
variable {w w' u w0:World}{L i:Nat}{D:CAd}{F F' F0:Nat->Nat->Prop}{g v:Value}{σ σ':CS}{x:Ta.TR}
def subSO(σ:CS)(t:Nat)(prio:Int)(oa:Option Addr)(on oc:Nat):CS:=relS (mkS (crS σ) (Ta.mkO prio 0 0 0 0 0 2 oa on oc)) t σ.T.length (Ta.mkO prio 0 0 0 0 0 2 oa on oc)
theorem begin_byO(C:Co w L D F g v σ)(t:Int)(hl:σ.T.length<200)(he:σ.ev.length<1000000)(prio f d rr m s:Int){oa0:Option Addr}{cap0 Lo:Nat}{os:List Ta.OpR}(hLo:os.length=Lo)(hO:OpS L w F oa0 cap0 os)(hS:Ta.ShW w)(hm:Ta.mayO prio s os=true){σ':Option Addr->Nat->CS}
  (hf:∀oa oc F1 g1 v1 w1,Co w1 L D F1 g1 v1 (mkS σ (Ta.mkO prio f 0 d 0 m s oa Lo oc))->Calls prog 44 #[pt D.B,.int .i64 t,.int .i64 ((σ.T.length:Int)+1),.agg #[.int .i64 0,.int .i64 s]] w1 fun e w'=>e=.returned (.tuple #[])/\Cox L D F1 w1 (σ' oa oc) w') :
  Calls prog 21 #[pt D.B,.int .i64 t,.int .i64 prio,.slice oa0 Lo cap0,.agg #[.int .u64 f,.int .u64 0,.int .u64 d,.int .u64 rr,.int .u64 m],.int .i64 s] w fun e w'=>e=.returned (.int .i64 ((σ.T.length:Int)+1))/\∃oa oc F' g' v',Co w' L D F' g' v' (σ' oa oc)/\Gc L F w F' w'/\OwO w' F' (.slice oa Lo oc) os:=by
 obtain⟨K,hK⟩:∃J,w.heap.size=J:=⟨_,rfl⟩;obtain⟨u,hu⟩:∃z,w.alloc (.cells #[.int .u64 f,.int .u64 0,.int .u64 d,.int .u64 rr,.int .u64 m] 61)=z:=⟨_,rfl⟩;have b0:Below w.heap.size w u.drew:=by rw[<-hu];exact(belA _ _).drew
 have BK:Bx u.drew F K #[.int .u64 f,.int .u64 0,.int .u64 d,.int .u64 rr,.int .u64 m] 61:=by rw[<-hu,<-hK];exact Bx.new C _ _
 have C0:=C.below b0;have c3:u.drew.cell? ⟨D.B,3,none⟩=some (pt D.Bt):=C0.c3;have k0:u.drew.cell? ⟨K,0,none⟩=some (.int .u64 f):=BK.cell 0;have k1:u.drew.cell? ⟨K,1,none⟩=some (.int .u64 0):=BK.cell 1;have k2:u.drew.cell? ⟨K,2,none⟩=some (.int .u64 d):=BK.cell 2;have k3:u.drew.cell? ⟨K,3,none⟩=some (.int .u64 rr):=BK.cell 3;have k4:u.drew.cell? ⟨K,4,none⟩=some (.int .u64 m):=BK.cell 4;obtain⟨N1,hN1⟩:∃N1,(σ.T.length:Int)+1=N1:=⟨_,rfl⟩
 have PC:Aside (Calls prog 42 #[pt D.Bt,.int .i64 prio,.slice oa0 Lo cap0,.agg #[.int .u64 f,.int .u64 0,.int .u64 d,.int .u64 rr,.int .u64 m],.int .i64 s] u.drew fun e w'=>e=.returned (.tuple #[.int .i64 N1,.int .i64 0])/\∃F' oa oc,(∃g' v',Co w' L D F' g' v' {σ with T:=σ.T++[Ta.mkO prio f 0 d 0 m s oa Lo oc]}/\OwO w' F' (.slice oa Lo oc) os)/\Gc L F u.drew F' w'/\w'.cell? ⟨D.B,3,none⟩=some (pt D.Bt)/\w'.cell? ⟨K,0,none⟩=some (.int .u64 f)/\w'.cell? ⟨K,1,none⟩=some (.int .u64 0)/\w'.cell? ⟨K,2,none⟩=some (.int .u64 d)/\w'.cell? ⟨K,3,none⟩=some (.int .u64 rr)/\w'.cell? ⟨K,4,none⟩=some (.int .u64 m)):=by
  have:=C0.makeO hl prio f d rr m s oa0 cap0 os (hO.below b0).1 (fun hd k o q e=>((hO.below b0).2 hd k o q e).elim (fun hk h1=>absurd (C0.fp.low 1 k (by omega) h1) (by omega)) (fun z=>z.1 1)) (hS.below b0) hm;rw[hN1,hLo] at this;refine this.mono ?_;rintro e w' ⟨rfl,oa,oc,F4,g4,v4,C4,G4,O4⟩;have B4:=BK.gc mq_job G4;exact⟨rfl,F4,oa,oc,⟨g4,v4,C4,O4⟩,G4,C4.c3,B4.cell 0,B4.cell 1,B4.cell 2,B4.cell 3,B4.cell 4⟩
 have X0:Aside (Gc L F w F u.drew/\σ.ev.length<1000000):=⟨Gc.below F C.lw b0,he⟩;have HF:Aside (∀oa oc F1 g1 v1 w1,Co w1 L D F1 g1 v1 (mkS σ (Ta.mkO prio f 0 d 0 m s oa Lo oc))->Calls prog 44 #[pt D.B,.int .i64 t,.int .i64 N1,.agg #[.int .i64 0,.int .i64 s]] w1 fun e w'=>e=.returned (.tuple #[])/\Cox L D F1 w1 (σ' oa oc) w'):=by rw[<-hN1];exact hf
 rw[hN1];have HN1:Aside _:=hN1;have HU:Aside _:=hu;have HK:Aside _:=hK;clear C C0 hu hK BK b0 hl hm hO hS hf hN1 he hLo;go_enter func21,ntmps21
 go_upto_region 1 with fail
 rw[HU.out];try simp only[HK.out]
 go_region_held3 (fun w'=>w'.cell? ⟨D.B,3,none⟩=some (pt D.Bt)/\w'.cell? ⟨K,0,none⟩=some (.int .u64 f)/\w'.cell? ⟨K,1,none⟩=some (.int .u64 0)/\w'.cell? ⟨K,2,none⟩=some (.int .u64 d)/\w'.cell? ⟨K,3,none⟩=some (.int .u64 rr)/\w'.cell? ⟨K,4,none⟩=some (.int .u64 m)) (first|with_reducible exact⟨c3,k0,k1,k2,k3,k4⟩|with_reducible exact⟨d3,e0,e1,e2,e3,e4⟩) ((go_at_call 42;(with_reducible refine Calls.mono PC.out ?_);rintro e w1 ⟨rfl,F1,oa,oc,⟨g1,v1,C1,O1⟩,G1,d3,e0,e1,e2,e3,e4⟩))
 clear c3 k0 k1 k2 k3 k4 d3 e0 e1 e2 e3 e4;have P:=tellC C1 X0.out.2 1 (-1) N1 0;have X1:Aside (Gc L F w F1 w1/\OwO w1 F1 (.slice oa Lo oc) os):=⟨X0.out.1.trans G1,O1⟩;clear C1 G1 O1
 go_wp2_with fail
 refine P.mono ?_;rintro e w2 ⟨rfl,⟨F2,g2,v2,C2,G2⟩,_⟩;clear P
 have C2':Co w2 L D F2 g2 v2 (mkS σ (Ta.mkO prio f 0 d 0 m s oa Lo oc)):=by
  unfold mkS;rw[HN1.out];exact C2
 have P:=HF.out oa oc F2 g2 v2 w2 C2';have X2:Aside (Gc L F w F2 w2/\OwO w2 F2 (.slice oa Lo oc) os):=⟨X1.out.1.trans G2,X1.out.2.gc G2⟩;clear C2 C2' G2 X1
 go_wp2_with fail
 refine P.mono ?_;rintro e w3 ⟨rfl,F3,g3,v3,C3,G3⟩;have FIN:Aside (∃oa oc F' g' v',Co w3 L D F' g' v' (σ' oa oc)/\Gc L F w F' w3/\OwO w3 F' (.slice oa Lo oc) os):=⟨oa,oc,F3,g3,v3,C3,X2.out.1.trans G3,X2.out.2.gc G3⟩;clear P C3 G3 X2
 go_wp2_with fail
 go_ret;exact⟨rfl,FIN.out⟩
theorem begin2O(C:Co w L D F g v σ){t:Nat}(ht:t<σ.th)(hl:σ.T.length<200)(he:σ.ev.length+1<1000000)(hn:σ.qn<=1000)(htk:σ.tk<1000000)(prio f d rr m:Int){oa0:Option Addr}{cap0 Lo:Nat}{os:List Ta.OpR}(hLo:os.length=Lo)(hO:OpS L w F oa0 cap0 os)(hS:Ta.ShW w)(hm:Ta.mayO prio 2 os=true) :
  Calls prog 21 #[pt D.B,.int .i64 t,.int .i64 prio,.slice oa0 Lo cap0,.agg #[.int .u64 f,.int .u64 0,.int .u64 d,.int .u64 rr,.int .u64 m],.int .i64 2] w fun e w'=>e=.returned (.int .i64 ((σ.T.length:Int)+1))/\∃oa oc F' g' v',Co w' L D F' g' v' (relS (mkS σ (Ta.mkO prio f 0 d 0 m 2 oa Lo oc)) t σ.T.length (Ta.mkO prio f 0 d 0 m 2 oa Lo oc))/\Gc L F w F' w'/\OwO w' F' (.slice oa Lo oc) os:=by
 refine begin_byO (σ':=fun oa oc=>relS (mkS σ (Ta.mkO prio f 0 d 0 m 2 oa Lo oc)) t σ.T.length (Ta.mkO prio f 0 d 0 m 2 oa Lo oc)) C t hl (by omega) prio f d rr m 2 hLo hO hS hm (fun oa oc F1 g1 v1 w1 C1=>?_);refine follow_02 D.B t ((σ.T.length:Int)+1) w1 (fun w2 b2=>?_);refine(relC (C1.below b2) (by show(σ.ev++[_]).length<_;simp;omega) hn htk ht (mkS_at σ _)).mono ?_;rintro e w3 ⟨rfl,F3,g3,v3,C3,G3⟩;exact⟨rfl,F3,g3,v3,C3,(Gc.below F1 C1.lw b2).trans G3⟩
theorem rightO(C:Co w L D F g v σ){t:Nat}(ht:t<σ.th)(prio:Int)(h0:0<=prio)(h7:prio<=7){oa0:Option Addr}{cap0 Lo:Nat}{os:List Ta.OpR}(hLo:os.length=Lo)(hO:Ta.IsG Ta.rO w oa0 cap0 os)(hS:Ta.ShW w)(hk:Ta.okL os=true) :
  Calls prog 17 #[pt D.B,.int .i64 t,.int .i64 prio,.slice oa0 Lo cap0] w fun e w'=>e=.returned (.bool true)/\Below w.heap.size w w':=by
 have P:=threadC C ht;have Q:=Ta.ok_any oa0 cap0 os w hO hS;rw[hLo,hk] at Q;clear C ht hO hS hk hLo;go_enter func17,ntmps17
 go_wp2_with fail
 refine P.mono ?_;rintro e w1 ⟨rfl,rfl⟩;clear P
 go_wp2_with fail
 refine Q.mono ?_;rintro e w2 ⟨rfl,b2⟩;clear Q
 go_wp2_with fail
 go_ret;exact⟨rfl,b2⟩
theorem bodyO(C:Co w L D F g v σ)(hi:σ.T[i]?=some x){os:List Ta.OpR}(hO:OwO w F (.slice x.oa x.on x.oc) os)(hlen:os.length<=1000000) :
  Calls prog 82 #[pt D.B,.int .i64 ((i:Int)+1)] w fun e w'=>∃a' cap',e=.returned (.slice a' os.length cap')/\Ta.OwnG Ta.rO w' w.heap.size (.slice a' os.length cap') os/\Below w.heap.size w w':=by
 have c3:=C.c3;have P:=Ta.bodyT C.tab hi hO.1 hlen;obtain⟨Lo,hLo⟩:∃z,os.length=z:=⟨_,rfl⟩;rw[hLo] at P⊢;clear C hi hO hLo hlen;go_enter func82,ntmps82
 go_wp2_with fail
 refine P.mono ?_;rintro e w2 ⟨a',cap',rfl,O2,b2⟩;have FIN:Aside (Ta.OwnG Ta.rO w2 w.heap.size (.slice a' Lo cap') os/\Below w.heap.size w w2):=⟨O2,b2⟩;clear O2 b2 P
 go_wp2_with fail
 go_ret;exact⟨a',cap',rfl,FIN.out⟩
theorem subO(C:Co w L D F g v σ){t:Nat}(ht:t<σ.th)(hc:σ.cl=false)(hl:σ.T.length<200)(ho:σ.o<σ.n)(he:σ.ev.length+1<1000000)(hn:σ.qn<=1000)(htk:σ.tk<1000000)(prio:Int)(h0:0<=prio)(h7:prio<=7){oa0:Option Addr}{cap0 Lo:Nat}{os:List Ta.OpR}(hLo:os.length=Lo)(hO:OpS L w F oa0 cap0 os)(hS:Ta.ShW w)(HL:0<L)(hk:Ta.okL os=true) :
  Calls prog 7 #[pt D.B,.int .i64 t,.int .i64 prio,.slice oa0 Lo cap0,.slice none 0 0] w fun e w'=>e=.returned (.tuple #[.int .i64 ((σ.T.length:Int)+1),.int .i64 0])/\∃oa oc F' g' v',Co w' L D F' g' v' (subSO σ t prio oa Lo oc)/\Gc L F w F' w'/\OwO w' F' (.slice oa Lo oc) os:=by
 have P1:=rightO C ht prio h0 h7 hLo hO.1 hS hk;have PA:Aside (Co w L D F g v σ/\σ.cl=false/\σ.T.length<200/\σ.o<σ.n/\OpS L w F oa0 cap0 os/\Ta.ShW w/\Ta.mayO prio 2 os=true/\os.length=Lo):=⟨C,hc,hl,ho,hO,hS,by simp[Ta.mayO,h0,h7,hk];decide,hLo⟩;have HH:Aside (t<σ.th/\σ.T.length<200/\σ.ev.length+1<1000000/\σ.qn<=1000/\σ.tk<1000000/\0<=prio/\prio<=7):=⟨ht,hl,he,hn,htk,h0,h7⟩;obtain⟨N1,hN1⟩:∃N1,(σ.T.length:Int)+1=N1:=⟨_,rfl⟩;have HN1:Aside _:=hN1;rw[hN1];clear C ht hl he hn htk h0 h7 hc ho hN1 hO hS hk hLo;go_enter func7,ntmps7
 go_wp2_with fail
 refine P1.mono ?_;rintro e w1 ⟨rfl,b1⟩;clear P1;have CB:Aside (Co w1 L D F g v σ/\Below w.heap.size w w1):=⟨PA.out.1.below b1,b1⟩;have P2:=areNil D.B w1;have P3:=refuseC CB.out.1 PA.out.2.1 PA.out.2.2.1;have c7:=CB.out.1.c7;have P4:=CB.out.1.credC PA.out.2.2.2.1;clear b1
 go_wp2_with fail
 refine P2.mono ?_;rintro e w1 ⟨rfl,rfl⟩;clear P2
 go_wp2_with fail
 refine P3.mono ?_;rintro e w1 ⟨rfl,rfl⟩;clear P3
 go_wp2_with fail
 refine(contNil _ _).mono ?_;rintro e w1 ⟨rfl,rfl⟩
 go_wp2_with fail
 refine P4.mono ?_;rintro e w2 ⟨rfl,F2,g2,v2,C2,G2⟩;clear P4 c7;have X2:Aside (Gc L F w F2 w2):=(Gc.below F PA.out.1.lw CB.out.2).trans G2;have PA2:Ta.ShW w2:=PA.out.2.2.2.2.2.1.low X2.out.low HL;have P5:=begin2O C2 (t:=t) HH.out.1 HH.out.2.1 HH.out.2.2.1 HH.out.2.2.2.1 HH.out.2.2.2.2.1 prio 0 0 0 0 PA.out.2.2.2.2.2.2.2 (PA.out.2.2.2.2.1.gc X2.out) PA2 PA.out.2.2.2.2.2.2.1;rw[show(({σ with o:=σ.o+1,m:=max σ.m (σ.o+1)}:CS).T.length:Int)+1=N1 from HN1.out] at P5;clear C2 G2
 go_wp2_with fail
 refine(notNil D.B _).mono ?_;rintro e w3 ⟨rfl,rfl⟩
 go_wp2_with fail
 refine P5.mono ?_;rintro e w4 ⟨rfl,oa,oc,F4,g4,v4,C4,G4,O4⟩;have FIN:Aside (∃oa oc F' g' v',Co w4 L D F' g' v' (subSO σ t prio oa Lo oc)/\Gc L F w F' w4/\OwO w4 F' (.slice oa Lo oc) os):=⟨oa,oc,F4,g4,v4,C4,X2.out.trans G4,O4⟩;clear P5 C4 G4 O4
 go_wp2_with fail
 go_ret2;exact⟨rfl,FIN.out⟩
end
section
variable {w w' u w0:World}{L i:Nat}{D:CAd}{F F' F0:Nat->Nat->Prop}{g v:Value}{σ σ':CS}
theorem opNop(B:Nat)(t k a b:Int)(h2:k≠2)(h3:k≠3)(h4:k≠4)(w:World):Calls prog 84 #[pt B,.int .i64 t,.agg #[.int .i64 k,.int .i64 a,.int .i64 b]] w fun e w'=>e=.returned (.bool (decide (k=5)))/\Below w.heap.size w w':=by
 have b2:((k:Int)==2)=false:=by simpa using h2
 have b3:((k:Int)==3)=false:=by simpa using h3
 have b4:((k:Int)==4)=false:=by simpa using h4
 have hb:=belA w;go_enter func84,ntmps84
 go_wp2_with fail
 go_ret;exact⟨by rfl,hb _⟩
theorem runO(C:Co w L D F g v σ)(ph key:Int)(pc:Nat)(t:Int){x:Ta.TR}(hi:σ.T[i]?=some x){os:List Ta.OpR}(hO:OwO w F (.slice x.oa x.on x.oc) os)(hlen:os.length<=1000000){o:Ta.OpR}(ho:os[pc]?=some o){bad:Bool}
  (PO:∀w1 F1 g1 v1,Co w1 L D F1 g1 v1 σ->Gc L F w F1 w1->Calls prog 84 #[pt D.B,.int .i64 t,.agg #[.int .i64 o.1,.int .i64 o.2.1,.int .i64 o.2.2]] w1 fun e w'=>e=.returned (.bool bad)/\Cox L D F1 w1 σ' w') :
  Calls prog 56 #[pt D.B,wkV ⟨ph,key,(i:Int)+1,pc,false⟩,.int .i64 t] w fun e w'=>e=.returned (.tuple #[wkV ⟨ph,key,(i:Int)+1,(pc:Int)+1,bad⟩,.int .i64 1])/\Cox L D F w σ' w':=by
 obtain⟨I1,hI1⟩:∃J,(i:Int)+1=J:=⟨_,rfl⟩;obtain⟨K,hK⟩:∃J,w.heap.size=J:=⟨_,rfl⟩;have W0:=WB.new C ⟨ph,key,I1,pc,false⟩ hK;obtain⟨u,hu⟩:∃q,(w.alloc (.cells (wkA ⟨ph,key,I1,pc,false⟩) 40)).alloc (.cells (wkA wk0) 40)=q:=⟨_,rfl⟩;have b0:Below w.heap.size w u:=by rw[<-hu];exact belT (belA _ _) (belA _ _)
 rw[hu] at W0;have Q:=bodyO (C.below b0) hi (hO.below b0) hlen;have hp:=(List.getElem?_eq_some_iff.1 ho).1;obtain⟨Lo,hLo⟩:∃z,os.length=z:=⟨_,rfl⟩;rw[hI1,hLo] at Q;rw[hI1];obtain⟨o0,o1,o2⟩:=o;have HC:Aside (Co w L D F g v σ/\Below w.heap.size w u/\w.heap.size=K/\L<=w.heap.size/\WB w u F K ⟨ph,key,I1,pc,false⟩ wk0/\os[pc]?=some (o0,o1,o2)):=⟨C,b0,hK,C.lw,W0,ho⟩;have HP:Aside (∀w1 F1 g1 v1,Co w1 L D F1 g1 v1 σ->Gc L F w F1 w1->Calls prog 84 #[pt D.B,.int .i64 t,.agg #[.int .i64 o0,.int .i64 o1,.int .i64 o2]] w1 fun e w'=>e=.returned (.bool bad)/\Cox L D F1 w1 σ' w'):=PO;obtain⟨a0,a1,a2,a3,a4⟩:=bx5 W0.a.1;have alt:=lt_of_block W0.a.1;have h1:¬(pc:Int)<0:=by omega
 have h2:¬(Lo:Int)<=(pc:Int):=by omega
 have h3:(pc:Int)<(Lo:Int):=by omega
 have hwr:IntKind.i64.wrap ((pc:Int)+1)=(pc:Int)+1:=by rw[IntKind.wrap_i64];omega
 have HU:Aside _:=hu;have HLo:Aside (os.length=Lo):=hLo;clear C W0 hu b0 PO hi hO hlen ho hI1 hLo hp;go_enter func56,ntmps56
 go_upto_region 1 with fail
 rw[show(w.alloc (.cells #[.int .i64 ph,.int .u64 key,.int .i64 I1,.int .i64 pc,.bool false] 40)).alloc (.cells #[.int .i64 0,.int .u64 0,.int .i64 0,.int .i64 0,.bool false] 40)=u from HU.out];try simp only[hK]
 go_wp2_with fail
 refine Q.mono ?_;rintro e w1 ⟨aa,cc,rfl,O1,b1⟩;clear Q a0 a1 a2 a3 a4 alt;obtain⟨a',c',e',G1⟩:=O1.isG;injection e' with e1 e2 e3
 subst e1 e3;obtain⟨ba,off,rfl,bal,k0,k1,k2⟩:=Ta.opAt G1 HC.out.2.2.2.2.2;have W1:=HC.out.2.2.2.2.1.bel b1;obtain⟨a0,a1,a2,a3,a4⟩:=bx5 W1.a.1;have alt:=lt_of_block W1.a.1;have B1:Aside (Below w.heap.size w w1):=HC.out.2.1.trans (b1.mono HC.out.2.1.size);have P:=HP.out w1 F g v (HC.out.1.below B1.out) (Gc.below F HC.out.2.2.2.1 B1.out);have HW1:Aside (WB w w1 F K ⟨ph,key,I1,pc,false⟩ wk0):=W1;clear O1 b1 G1 W1 e2
 go_wp2_with fail
 refine P.mono ?_;rintro e w2 ⟨rfl,F2,g2,v2,C2,G2⟩;clear P a0 a1 a2 a3 a4 alt k0 k1 k2 bal;have W2:=HW1.out.gc G2;obtain⟨a0,a1,a2,a3,a4⟩:=bx5 W2.a.1;have alt:=lt_of_block W2.a.1;have blt:=lt_of_block W2.b.1;have afz:∀o,w2.frozen? ⟨K,o,none⟩=false:=(fun o=>by simp[World.frozen?,W2.a.1]);obtain⟨u3,hu3⟩:∃q,(w2.setCell ⟨K,4,none⟩ (.bool bad)).setCell ⟨K,3,none⟩ (.int .i64 ((pc:Int)+1))=q:=⟨_,rfl⟩;have hA3:u3.heap[K]?=some (.cells #[.int .i64 ph,.int .u64 key,.int .i64 I1,.int .i64 ((pc:Int)+1),.bool bad] 40 (0,0)):=by rw[<-hu3];exact set_at (set_at W2.a.1 _) _
 have f3:Ta.Fr (fun j=>j=K) w2 u3:=by
  rw[<-hu3];exact(Ta.Fr.setCell (fun j=>j=K) w2 K 4 (.bool bad) rfl).trans (Ta.Fr.setCell (fun j=>j=K) _ K 3 (.int .i64 ((pc:Int)+1)) rfl) (fun j hj=>.inl hj)
 have hB3:u3.heap[K+1]?=some (.cells (wkA wk0) 40 (0,0)):=(f3.block (K+1) blt (by omega)).trans W2.b.1;have f5:Ta.Fr (fun j=>j=K\/j=K+1) w2 (set5 u3 (K+1) (.int .i64 ph) (.int .u64 key) (.int .i64 I1) (.int .i64 ((pc:Int)+1)) (.bool bad)):=(f3.mono (fun j hj=>.inl hj)).trans (set5_fr u3 (K+1) _ _ _ _ _) (fun j hj=>.inl (.inr hj));have E:Aside ((set5 u3 (K+1) (.int .i64 ph) (.int .u64 key) (.int .i64 I1) (.int .i64 ((pc:Int)+1)) (.bool bad)).heap[K+1]?=some (.cells #[.int .i64 ph,.int .u64 key,.int .i64 I1,.int .i64 ((pc:Int)+1),.bool bad] 40 (0,0))):=set5_at hB3 _ _ _ _ _
 have FIN:Aside (Cox L D F w σ' (set5 u3 (K+1) (.int .i64 ph) (.int .u64 key) (.int .i64 I1) (.int .i64 ((pc:Int)+1)) (.bool bad))):=C2.own ((Gc.below F HC.out.2.2.2.1 B1.out).trans G2) (fun j hj=>by
  rcases hj with rfl|rfl
  ·exact⟨by omega,W2.a.2,nq_of W2.a.1 qt_wk⟩
  ·exact⟨by omega,W2.b.2,nq_of W2.b.1 qt_wk⟩) HC.out.2.2.2.1 f5
 obtain⟨d0,d1,d2,d3,d4⟩:=bx5 hA3;obtain⟨e0,e1,e2,e3,e4⟩:=bx5 hB3;have dlt:=lt_of_block hA3;have elt:=lt_of_block hB3;have efz:∀o,u3.frozen? ⟨K+1,o,none⟩=false:=(fun o=>by simp[World.frozen?,hB3]);have HU3:Aside _:=hu3;clear C2 G2 W2 hu3 hA3 hB3 f3 f5;go_upto_region 7 with fail
 try rw[hwr]
 rw[HU3.out]
 go_wp2_with fail
 have eb:=fun j=>cell_of_row _ _ j _ _ _ E.out;have q0:=eb 0;have q1:=eb 1;have q2:=eb 2;have q3:=eb 3;have q4:=eb 4;unfold set5 at q0 q1 q2 q3 q4;refine bodyPost_ret (v:=.tuple #[.agg #[.int .i64 ph,.int .u64 key,.int .i64 I1,.int .i64 ((pc:Int)+1),.bool bad],.int .i64 1]) (by simp[results,results56,go_sem,q0,q1,q2,q3,q4]) rfl ⟨rfl,?_⟩;exact FIN.out
end
section
variable {w w' u w0:World}{L i:Nat}{D:CAd}{F F' F0:Nat->Nat->Prop}{g v:Value}{σ σ':CS}
theorem runF(C:Co w L D F g v σ)(ph key:Int)(pc:Nat)(t er:Int){x:Ta.TR}(hi:σ.T[i]?=some x){os:List Ta.OpR}(hO:OwO w F (.slice x.oa x.on x.oc) os)(hlen:os.length<=1000000)(bad:Bool)(hend:bad=true\/os.length<=pc)
  (PF:∀w1 F1 g1 v1,Co w1 L D F1 g1 v1 σ->Calls prog 83 #[pt D.B,.int .i64 t,.int .i64 ((i:Int)+1),.bool (!bad)] w1 fun e w'=>e=.returned (.int .i64 er)/\Cox L D F1 w1 σ' w') :
  Calls prog 56 #[pt D.B,wkV ⟨ph,key,(i:Int)+1,pc,bad⟩,.int .i64 t] w fun e w'=>e=.returned (.tuple #[wkV wk0,.int .i64 0])/\Cox L D F w σ' w':=by
 obtain⟨I1,hI1⟩:∃J,(i:Int)+1=J:=⟨_,rfl⟩;obtain⟨K,hK⟩:∃J,w.heap.size=J:=⟨_,rfl⟩;have W0:=WB.new C ⟨ph,key,I1,pc,bad⟩ hK;obtain⟨u,hu⟩:∃q,(w.alloc (.cells (wkA ⟨ph,key,I1,pc,bad⟩) 40)).alloc (.cells (wkA wk0) 40)=q:=⟨_,rfl⟩;have b0:Below w.heap.size w u:=by rw[<-hu];exact belT (belA _ _) (belA _ _)
 rw[hu] at W0;have Q:=bodyO (C.below b0) hi (hO.below b0) hlen;obtain⟨Lo,hLo⟩:∃z,os.length=z:=⟨_,rfl⟩;rw[hLo] at Q hend;rw[hI1] at Q;rw[hI1];have HC:Aside (Co w L D F g v σ/\Below w.heap.size w u/\w.heap.size=K/\L<=w.heap.size/\WB w u F K ⟨ph,key,I1,pc,bad⟩ wk0):=⟨C,b0,hK,C.lw,W0⟩;have HP:Aside (∀w1 F1 g1 v1,Co w1 L D F1 g1 v1 σ->Calls prog 83 #[pt D.B,.int .i64 t,.int .i64 I1,.bool (!bad)] w1 fun e w'=>e=.returned (.int .i64 er)/\Cox L D F1 w1 σ' w'):=by rw[<-hI1];exact PF
 obtain⟨a0,a1,a2,a3,a4⟩:=bx5 W0.a.1;have alt:=lt_of_block W0.a.1;have h1:¬(pc:Int)<0:=by omega
 have HU:Aside _:=hu;clear C W0 hu b0 PF hi hO hlen hI1 hLo
 have key:∀bd:Bool,bad=bd->Calls prog 56 #[pt D.B,wkV ⟨ph,key,I1,pc,bad⟩,.int .i64 t] w fun e w'=>e=.returned (.tuple #[wkV wk0,.int .i64 0])/\Cox L D F w σ' w':=by
  intro bd hbd;subst hbd
  cases bad with
  | true=>
   clear hend;go_enter func56,ntmps56
   go_upto_region 1 with fail
   rw[show(w.alloc (.cells #[.int .i64 ph,.int .u64 key,.int .i64 I1,.int .i64 pc,.bool true] 40)).alloc (.cells #[.int .i64 0,.int .u64 0,.int .i64 0,.int .i64 0,.bool false] 40)=u from HU.out];try simp only[hK]
   go_wp2_with fail
   refine Q.mono ?_;rintro e w1 ⟨aa,cc,rfl,O1,b1⟩;clear Q a0 a1 a2 a3 a4 alt;have W1:=HC.out.2.2.2.2.bel b1;obtain⟨a0,a1,a2,a3,a4⟩:=bx5 W1.a.1;have alt:=lt_of_block W1.a.1;have B1:Aside (Below w.heap.size w w1):=HC.out.2.1.trans (b1.mono HC.out.2.1.size);have P:=HP.out w1 F g v (HC.out.1.below B1.out);have HW1:Aside (WB w w1 F K ⟨ph,key,I1,pc,true⟩ wk0):=W1;clear O1 b1 W1
   go_wp2_with fail
   refine P.mono ?_;rintro e w2 ⟨rfl,F2,g2,v2,C2,G2⟩;clear P a0 a1 a2 a3 a4 alt;have W2:=HW1.out.gc G2;obtain⟨b0,b1,b2,b3,b4⟩:=bx5 W2.b.1;have blt:=lt_of_block W2.b.1;have bfz:∀o,w2.frozen? ⟨K+1,o,none⟩=false:=(fun o=>by simp[World.frozen?,W2.b.1]);have FF:=W2.fin (y:=wk0) C2 ((Gc.below F HC.out.2.2.2.1 B1.out).trans G2) hK HC.out.2.2.2.1;have E:Aside ((set5 w2 (K+1) (.int .i64 0) (.int .u64 0) (.int .i64 0) (.int .i64 0) (.bool false)).heap[K+1]?=some (.cells #[.int .i64 0,.int .u64 0,.int .i64 0,.int .i64 0,.bool false] 40 (0,0))):=FF.1;have FIN:Aside (Cox L D F w σ' (set5 w2 (K+1) (.int .i64 0) (.int .u64 0) (.int .i64 0) (.int .i64 0) (.bool false))):=FF.2;clear C2 G2 W2 FF
   go_wp2_with fail
   have eb:=fun j=>cell_of_row _ _ j _ _ _ E.out;have q0:=eb 0;have q1:=eb 1;have q2:=eb 2;have q3:=eb 3;have q4:=eb 4;unfold set5 at q0 q1 q2 q3 q4;refine bodyPost_ret (v:=.tuple #[.agg #[.int .i64 0,.int .u64 0,.int .i64 0,.int .i64 0,.bool false],.int .i64 0]) (by simp[results,results56,go_sem,q0,q1,q2,q3,q4]) rfl ⟨rfl,?_⟩;exact FIN.out
  | false=>
   have h2:(Lo:Int)<=(pc:Int):=by rcases hend with h|h;cases h;omega
   clear hend;go_enter func56,ntmps56
   go_upto_region 1 with fail
   rw[show(w.alloc (.cells #[.int .i64 ph,.int .u64 key,.int .i64 I1,.int .i64 pc,.bool false] 40)).alloc (.cells #[.int .i64 0,.int .u64 0,.int .i64 0,.int .i64 0,.bool false] 40)=u from HU.out];try simp only[hK]
   go_wp2_with fail
   refine Q.mono ?_;rintro e w1 ⟨aa,cc,rfl,O1,b1⟩;clear Q a0 a1 a2 a3 a4 alt;have W1:=HC.out.2.2.2.2.bel b1;obtain⟨a0,a1,a2,a3,a4⟩:=bx5 W1.a.1;have alt:=lt_of_block W1.a.1;have B1:Aside (Below w.heap.size w w1):=HC.out.2.1.trans (b1.mono HC.out.2.1.size);have P:=HP.out w1 F g v (HC.out.1.below B1.out);have HW1:Aside (WB w w1 F K ⟨ph,key,I1,pc,false⟩ wk0):=W1;clear O1 b1 W1
   go_wp2_with fail
   refine P.mono ?_;rintro e w2 ⟨rfl,F2,g2,v2,C2,G2⟩;clear P a0 a1 a2 a3 a4 alt;have W2:=HW1.out.gc G2;obtain⟨b0,b1,b2,b3,b4⟩:=bx5 W2.b.1;have blt:=lt_of_block W2.b.1;have bfz:∀o,w2.frozen? ⟨K+1,o,none⟩=false:=(fun o=>by simp[World.frozen?,W2.b.1]);have FF:=W2.fin (y:=wk0) C2 ((Gc.below F HC.out.2.2.2.1 B1.out).trans G2) hK HC.out.2.2.2.1;have E:Aside ((set5 w2 (K+1) (.int .i64 0) (.int .u64 0) (.int .i64 0) (.int .i64 0) (.bool false)).heap[K+1]?=some (.cells #[.int .i64 0,.int .u64 0,.int .i64 0,.int .i64 0,.bool false] 40 (0,0))):=FF.1;have FIN:Aside (Cox L D F w σ' (set5 w2 (K+1) (.int .i64 0) (.int .u64 0) (.int .i64 0) (.int .i64 0) (.bool false))):=FF.2;clear C2 G2 W2 FF
   go_wp2_with fail
   have eb:=fun j=>cell_of_row _ _ j _ _ _ E.out;have q0:=eb 0;have q1:=eb 1;have q2:=eb 2;have q3:=eb 3;have q4:=eb 4;unfold set5 at q0 q1 q2 q3 q4;refine bodyPost_ret (v:=.tuple #[.agg #[.int .i64 0,.int .u64 0,.int .i64 0,.int .i64 0,.bool false],.int .i64 0]) (by simp[results,results56,go_sem,q0,q1,q2,q3,q4]) rfl ⟨rfl,?_⟩;exact FIN.out
 exact key bad rfl
end
section
variable {w w' u w0:World}{L i:Nat}{D:CAd}{F F' F0:Nat->Nat->Prop}{g v:Value}{σ σ':CS}
theorem touch0(C:Co w L D F g v σ)(x y:WR)(t dr f:Int)(hp:x.ph=0)(PS:∀w1 F1 g1 v1,Co w1 L D F1 g1 v1 σ->Calls prog 54 #[pt D.B,wkV x,.int .i64 t,.int .u64 dr] w1 fun e w'=>e=.returned (.tuple #[wkV y,.int .i64 f])/\Cox L D F1 w1 σ' w') :
  Calls prog 26 #[pt D.B,wkV x,.int .i64 t,.int .u64 dr] w fun e w'=>e=.returned (.tuple #[wkV y,.int .i64 f])/\Cox L D F w σ' w':=by
 obtain⟨K,hK⟩:∃J,w.heap.size=J:=⟨_,rfl⟩;have W0:=WB.new C x hK;obtain⟨u,hu⟩:∃q,(w.alloc (.cells (wkA x) 40)).alloc (.cells (wkA wk0) 40)=q:=⟨_,rfl⟩;have b0:Below w.heap.size w u:=by rw[<-hu];exact belT (belA _ _) (belA _ _)
 rw[hu] at W0;have P:=PS u F g v (C.below b0);have HC:Aside (Gc L F w F u/\w.heap.size=K/\L<=w.heap.size/\WB w u F K x wk0):=⟨Gc.below F C.lw b0,hK,C.lw,W0⟩;obtain⟨x0,x1,x2,x3,x4⟩:=x;obtain⟨y0,y1,y2,y3,y4⟩:=y;obtain rfl:x0=0:=hp;obtain⟨a0,a1,a2,a3,a4⟩:=bx5 W0.a.1;have alt:=lt_of_block W0.a.1;have HU:Aside _:=hu;clear C W0 hu b0 PS;go_enter func26,ntmps26
 go_upto_region 1 with fail
 rw[show(w.alloc (.cells #[.int .i64 0,.int .u64 x1,.int .i64 x2,.int .i64 x3,.bool x4] 40)).alloc (.cells #[.int .i64 0,.int .u64 0,.int .i64 0,.int .i64 0,.bool false] 40)=u from HU.out];try simp only[hK]
 go_wp2_with fail
 refine P.mono ?_;rintro e w1 ⟨rfl,F1,g1,v1,C1,G1⟩;clear a0 a1 a2 a3 a4 alt;have W1:=HC.out.2.2.2.gc G1;obtain⟨b0,b1,b2,b3,b4⟩:=bx5 W1.b.1;have blt:=lt_of_block W1.b.1;have bfz:∀o,w1.frozen? ⟨K+1,o,none⟩=false:=(fun o=>by simp[World.frozen?,W1.b.1]);have FF:=W1.fin (y:=⟨y0,y1,y2,y3,y4⟩) C1 (HC.out.1.trans G1) hK HC.out.2.2.1;have E:Aside _:=FF.1;have FIN:Aside _:=FF.2;clear P C1 G1 W1 FF
 go_wp2_with fail
 have eb:=fun j=>cell_of_row _ _ j _ _ _ E.out;have q0:=eb 0;have q1:=eb 1;have q2:=eb 2;have q3:=eb 3;have q4:=eb 4;unfold set5 at q0 q1 q2 q3 q4;refine bodyPost_ret (v:=.tuple #[.agg #[.int .i64 y0,.int .u64 y1,.int .i64 y2,.int .i64 y3,.bool y4],.int .i64 f]) (by simp[results,results26,go_sem,q0,q1,q2,q3,q4]) rfl ⟨rfl,?_⟩;exact FIN.out
theorem touch1(C:Co w L D F g v σ)(x y:WR)(t dr f:Int)(hp:x.ph=1)(PS:∀w1 F1 g1 v1,Co w1 L D F1 g1 v1 σ->Calls prog 55 #[pt D.B,wkV x,.int .i64 t] w1 fun e w'=>e=.returned (.tuple #[wkV y,.int .i64 f])/\Cox L D F1 w1 σ' w') :
  Calls prog 26 #[pt D.B,wkV x,.int .i64 t,.int .u64 dr] w fun e w'=>e=.returned (.tuple #[wkV y,.int .i64 f])/\Cox L D F w σ' w':=by
 obtain⟨K,hK⟩:∃J,w.heap.size=J:=⟨_,rfl⟩;have W0:=WB.new C x hK;obtain⟨u,hu⟩:∃q,(w.alloc (.cells (wkA x) 40)).alloc (.cells (wkA wk0) 40)=q:=⟨_,rfl⟩;have b0:Below w.heap.size w u:=by rw[<-hu];exact belT (belA _ _) (belA _ _)
 rw[hu] at W0;have P:=PS u F g v (C.below b0);have HC:Aside (Gc L F w F u/\w.heap.size=K/\L<=w.heap.size/\WB w u F K x wk0):=⟨Gc.below F C.lw b0,hK,C.lw,W0⟩;obtain⟨x0,x1,x2,x3,x4⟩:=x;obtain⟨y0,y1,y2,y3,y4⟩:=y;obtain rfl:x0=1:=hp;obtain⟨a0,a1,a2,a3,a4⟩:=bx5 W0.a.1;have alt:=lt_of_block W0.a.1;have HU:Aside _:=hu;clear C W0 hu b0 PS;go_enter func26,ntmps26
 go_upto_region 1 with fail
 rw[show(w.alloc (.cells #[.int .i64 1,.int .u64 x1,.int .i64 x2,.int .i64 x3,.bool x4] 40)).alloc (.cells #[.int .i64 0,.int .u64 0,.int .i64 0,.int .i64 0,.bool false] 40)=u from HU.out];try simp only[hK]
 go_wp2_with fail
 refine P.mono ?_;rintro e w1 ⟨rfl,F1,g1,v1,C1,G1⟩;clear a0 a1 a2 a3 a4 alt;have W1:=HC.out.2.2.2.gc G1;obtain⟨b0,b1,b2,b3,b4⟩:=bx5 W1.b.1;have blt:=lt_of_block W1.b.1;have bfz:∀o,w1.frozen? ⟨K+1,o,none⟩=false:=(fun o=>by simp[World.frozen?,W1.b.1]);have FF:=W1.fin (y:=⟨y0,y1,y2,y3,y4⟩) C1 (HC.out.1.trans G1) hK HC.out.2.2.1;have E:Aside _:=FF.1;have FIN:Aside _:=FF.2;clear P C1 G1 W1 FF
 go_wp2_with fail
 have eb:=fun j=>cell_of_row _ _ j _ _ _ E.out;have q0:=eb 0;have q1:=eb 1;have q2:=eb 2;have q3:=eb 3;have q4:=eb 4;unfold set5 at q0 q1 q2 q3 q4;refine bodyPost_ret (v:=.tuple #[.agg #[.int .i64 y0,.int .u64 y1,.int .i64 y2,.int .i64 y3,.bool y4],.int .i64 f]) (by simp[results,results26,go_sem,q0,q1,q2,q3,q4]) rfl ⟨rfl,?_⟩;exact FIN.out
theorem touch2B(C:Co w L D F g v σ)(x y:WR)(t dr f:Int)(hp:x.ph=2)(PS:∀w1,Below w.heap.size w w1->Co w1 L D F g v σ->Calls prog 56 #[pt D.B,wkV x,.int .i64 t] w1 fun e w'=>e=.returned (.tuple #[wkV y,.int .i64 f])/\Cox L D F w1 σ' w') :
  Calls prog 26 #[pt D.B,wkV x,.int .i64 t,.int .u64 dr] w fun e w'=>e=.returned (.tuple #[wkV y,.int .i64 f])/\Cox L D F w σ' w':=by
 obtain⟨K,hK⟩:∃J,w.heap.size=J:=⟨_,rfl⟩;have W0:=WB.new C x hK;obtain⟨u,hu⟩:∃q,(w.alloc (.cells (wkA x) 40)).alloc (.cells (wkA wk0) 40)=q:=⟨_,rfl⟩;have b0:Below w.heap.size w u:=by rw[<-hu];exact belT (belA _ _) (belA _ _)
 rw[hu] at W0;have P:=PS u b0 (C.below b0);have HC:Aside (Gc L F w F u/\w.heap.size=K/\L<=w.heap.size/\WB w u F K x wk0):=⟨Gc.below F C.lw b0,hK,C.lw,W0⟩;obtain⟨x0,x1,x2,x3,x4⟩:=x;obtain⟨y0,y1,y2,y3,y4⟩:=y;obtain rfl:x0=2:=hp;obtain⟨a0,a1,a2,a3,a4⟩:=bx5 W0.a.1;have alt:=lt_of_block W0.a.1;have HU:Aside _:=hu;clear C W0 hu b0 PS;go_enter func26,ntmps26
 go_upto_region 1 with fail
 rw[show(w.alloc (.cells #[.int .i64 2,.int .u64 x1,.int .i64 x2,.int .i64 x3,.bool x4] 40)).alloc (.cells #[.int .i64 0,.int .u64 0,.int .i64 0,.int .i64 0,.bool false] 40)=u from HU.out];try simp only[hK]
 go_wp2_with fail
 refine P.mono ?_;rintro e w1 ⟨rfl,F1,g1,v1,C1,G1⟩;clear a0 a1 a2 a3 a4 alt;have W1:=HC.out.2.2.2.gc G1;obtain⟨b0,b1,b2,b3,b4⟩:=bx5 W1.b.1;have blt:=lt_of_block W1.b.1;have bfz:∀o,w1.frozen? ⟨K+1,o,none⟩=false:=(fun o=>by simp[World.frozen?,W1.b.1]);have FF:=W1.fin (y:=⟨y0,y1,y2,y3,y4⟩) C1 (HC.out.1.trans G1) hK HC.out.2.2.1;have E:Aside _:=FF.1;have FIN:Aside _:=FF.2;clear P C1 G1 W1 FF
 go_wp2_with fail
 have eb:=fun j=>cell_of_row _ _ j _ _ _ E.out;have q0:=eb 0;have q1:=eb 1;have q2:=eb 2;have q3:=eb 3;have q4:=eb 4;unfold set5 at q0 q1 q2 q3 q4;refine bodyPost_ret (v:=.tuple #[.agg #[.int .i64 y0,.int .u64 y1,.int .i64 y2,.int .i64 y3,.bool y4],.int .i64 f]) (by simp[results,results26,go_sem,q0,q1,q2,q3,q4]) rfl ⟨rfl,?_⟩;exact FIN.out
theorem touch2(C:Co w L D F g v σ)(x y:WR)(t dr f:Int)(hp:x.ph=2)(PS:∀w1 F1 g1 v1,Co w1 L D F1 g1 v1 σ->Calls prog 56 #[pt D.B,wkV x,.int .i64 t] w1 fun e w'=>e=.returned (.tuple #[wkV y,.int .i64 f])/\Cox L D F1 w1 σ' w') :
  Calls prog 26 #[pt D.B,wkV x,.int .i64 t,.int .u64 dr] w fun e w'=>e=.returned (.tuple #[wkV y,.int .i64 f])/\Cox L D F w σ' w':=touch2B C x y t dr f hp (fun w1 _ C1=>PS w1 F g v C1)
end
end Go.Proofs.YtjpbngiddjkjiaaGreatDoor
