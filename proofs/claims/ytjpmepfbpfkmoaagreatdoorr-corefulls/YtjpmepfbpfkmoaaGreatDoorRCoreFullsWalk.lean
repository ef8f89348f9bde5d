import Derived.Test.YtjpmepfbpfkmoaaGreatDoorRCoP
namespace Go.Proofs.YtjpmepfbpfkmoaaGreatDoorR
set_option maxHeartbeats 8000000
set_option maxRecDepth 100000
set_option linter.unusedVariables false
open Go.RowKit Go.Lib Go.WideMaps Go.Maps
theorem isT_small{n:Int}(h:0≤n)(h':n≤1000):Ta.IsT n:=by
 unfold Ta.IsT
 omega
theorem addT_0(dl:Nat)(h:dl≤1000):Ta.addT (0:Int) (dl:Int)=(dl:Int):=by
 unfold Ta.addT
 rw[if_pos (by omega)]
 omega
theorem coreFulls_walk(cr kz az:Int)(w:World)(wc:(Lit.int .i64 cr).wf=true)(wk:(Lit.int .i64 kz).wf=true)(wa:(Lit.int .i64 az).wf=true)(hN:True) :
  Calls Tryz.prog 3 #[.int .i64 cr,.int .i64 kz,.int .i64 az] w fun e w'=>e=.returned (.bool true)∧Below w.heap.size w w':=by
 obtain⟨m,hm,hm63⟩:∃m:Nat,bits .and .i64 cr 63=(m:Int)∧m≤63:=⟨(cr%64).toNat,by rw[mask_i64 cr 6 63 64 (by omega) rfl rfl];omega,by omega⟩
 obtain⟨n,hn⟩:∃n,m+1=n:=⟨_,rfl⟩
 have hwn:IntKind.i64.wrap ((m:Int)+1)=(n:Int):=by rw[IntKind.wrap_i64];omega
 have hn1:1≤n:=by omega
 have hn64:n≤64:=by omega
 obtain⟨kk,hkk,hkn⟩:∃kk:Nat,(bits .and .i64 az 255).tmod (n:Int)=(kk:Int)∧kk<n:=by
  have h1:=mask_i64 az 8 255 256 (by omega) rfl rfl
  have h0:0≤bits .and .i64 az 255%(n:Int):=Int.emod_nonneg _ (by omega)
  have h2:bits .and .i64 az 255%(n:Int)<n:=Int.emod_lt_of_pos _ (by omega)
  have h3:0≤bits .and .i64 az 255:=by omega
  exact⟨(bits .and .i64 az 255%(n:Int)).toNat,by rw[Int.tmod_eq_emod_of_nonneg h3];omega,by omega⟩
 have P:Calls Tryz.prog 8 #[.agg #[.int .i64 2,.int .i64 4,.int .i64 n]] w fun e w'=>∃D F,e=.returned (.tuple #[pt D.B,.int .i64 0])∧Co w' (w.heap.size+1) D F (.slice none 0 0) (.slice none 0 0) (newS 2 4 n)∧Below w.heap.size w w':=newC 2 4 n w (by omega) (by omega) (by omega) hn1 hn64
 have HN:Aside (1≤n∧n≤64∧kk<n):=⟨hn1,hn64,hkn⟩
 have HK:Aside ((bits .and .i64 az 255).tmod (n:Int)=(kk:Int)):=hkk
 clear wc wk wa hN hn1 hn64 hkk hn
 go_enter Tryz.func3,Tryz.ntmps3
 go_wp2_with fail
 try simp only[hm]
 go_wp2_with fail
 refine Calls.mono P ?_
 rintro e w1 ⟨D,F1,rfl,C1,b1⟩
 clear P
 have X1:Aside (Below w.heap.size w w1∧Co w1 (w.heap.size+1) D F1 (.slice none 0 0) (.slice none 0 0) (newS 2 4 n)):=⟨b1,C1⟩
 clear C1 b1
 go_wp2_with fail
 go_loopg [9,10] 64 (fun kx s9 s10 wr=>∃(j:Nat),s9=.int .i64 ((j:Int)+1)∧j≤n∧64-j≤kx∧∃(σ:CS)(Fr:Nat→Nat→Prop)(gr vr:Value),Aside (Co wr (w.heap.size+1) D Fr gr vr σ)∧Aside (Gc (w.heap.size+1) F1 w1 Fr wr)∧Aside (FI σ n j))
 case atStart=>exact⟨0,rfl,by omega,by omega,_,_,_,_,X1.out.2,Gc.refl _ _ _,FI.new n⟩
 case round=>
  obtain⟨j,rfl,hj,hkx,σ,Fr,gr,vr,Cr,Gr,K⟩:=hrel
  have FIN:Aside (Below w.heap.size w wr):=X1.out.1.trans (Gr.out.low.mono (by omega))
  obtain⟨I,hI⟩:∃I:Nat,j+1=I:=⟨_,rfl⟩
  have eI:((j:Int)+1)=(I:Int):=by omega
  rw[eI]
  have HI:Aside (j+1=I):=hI
  by_cases c:j<n
  ·have h1:(I:Int)≤(n:Int):=by omega
   obtain⟨M,hM⟩:∃M:Nat,2*I=M:=⟨_,rfl⟩
   have hwM:IntKind.i64.wrap (2*(I:Int))=(M:Int):=by rw[IntKind.wrap_i64];have:=HN.out.2.1;omega
   obtain⟨S,hS,hS31⟩:∃S:Nat,bits .and .i64 (M:Int) 31=(S:Int)∧S≤31:=⟨((M:Int)%32).toNat,by rw[mask_i64 (M:Int) 5 31 32 (by omega) rfl rfl];omega,by omega⟩
   obtain⟨X,hX,hX4⟩:∃X:Nat,bits .and .i64 (kz/2^S) 3=(X:Int)∧X<4:=⟨(kz/2^S%4).toNat,by rw[mask_i64 (kz/2^S) 2 3 4 (by omega) rfl rfl];omega,by omega⟩
   obtain⟨fr,hfr⟩:∃fr:Int,(n:Int)-(I:Int)=fr:=⟨_,rfl⟩
   have hwf:IntKind.i64.wrap ((n:Int)-(I:Int))=fr:=by rw[IntKind.wrap_i64];have:=HN.out.2.1;omega
   obtain⟨I2,hI2⟩:∃I2:Nat,I+1=I2:=⟨_,rfl⟩
   have hw2:IntKind.i64.wrap ((I:Int)+1)=(I2:Int):=by rw[IntKind.wrap_i64];have:=HN.out.2.1;omega
   have HI2:Aside (I+1=I2∧(n:Int)-(I:Int)=fr∧j<n):=⟨hI2,hfr,c⟩
   have KK:=K.out
   have t0:0<σ.th:=by rw[KK.th];omega
   have t1:1<σ.th:=by rw[KK.th];omega
   have hl:σ.T.length<200:=by rw[KK.len];have:=HN.out.2.1;omega
   have ho:σ.o<σ.n:=by rw[KK.o,KK.cn];omega
   have he:σ.ev.length+1<1000000:=by have:=KK.ev;have:=HN.out.2.1;omega
   have hq:σ.qn≤1000:=by have:=KK.qn;have:=HN.out.2.1;omega
   have htk:σ.tk<1000000:=by rw[KK.tk];omega
   have hnow:Ta.IsT σ.now:=by rw[KK.now];exact isT_small (by omega) (by omega)
   have PA:Aside (Calls Tryz.prog 9 #[pt D.B,.int .i64 0,.int .i64 1,.slice none 0 0,.int .u64 50] wr fun e w'=>∃id τ F2 g2 v2,e=.returned (.tuple #[.int .i64 id,.int .i64 0])∧Co w' (w.heap.size+1) D F2 g2 v2 τ∧Gc (w.heap.size+1) F1 w1 F2 w'∧FI τ n (j+1)):=by
    have hD:Ta.addT σ.now 50=((50:Nat):Int):=by rw[KK.now];exact addT_0 50 (by omega)
    refine(afterW Cr.out t0 KK.cl hl ho (by omega) 1 50 (by omega) (by omega) (by omega) hnow (isT_small (by omega) (by omega)) hD (by unfold Wl.B64;omega)).mono ?_
    rintro e w' ⟨rfl,F2,g2,v2,C2,G2⟩
    exact⟨_,_,F2,g2,v2,rfl,C2,Gr.out.trans G2,KK.tim _ (Int.le_refl _) rfl 50⟩
   have PE:Aside (Calls Tryz.prog 10 #[pt D.B,.int .i64 1,.int .i64 2,.slice none 0 0,.int .u64 3,.int .u64 9] wr fun e w'=>∃id τ F2 g2 v2,e=.returned (.tuple #[.int .i64 id,.int .i64 0])∧Co w' (w.heap.size+1) D F2 g2 v2 τ∧Gc (w.heap.size+1) F1 w1 F2 w'∧FI τ n (j+1)):=by
    have hD:Ta.addT σ.now 3=((3:Nat):Int):=by rw[KK.now];exact addT_0 3 (by omega)
    refine(everyW Cr.out t1 KK.cl hl ho (by omega) 2 3 9 (by omega) (by omega) (by omega) (by omega) (isT_small (by omega) (by omega)) hnow (isT_small (by omega) (by omega)) hD (by unfold Wl.B64;omega)).mono ?_
    rintro e w' ⟨rfl,F2,g2,v2,C2,G2⟩
    exact⟨_,_,F2,g2,v2,rfl,C2,Gr.out.trans G2,KK.tim _ (show(0:Int)≤9 by omega) rfl 3⟩
   have PS:Aside (Calls Tryz.prog 11 #[pt D.B,.int .i64 0,.int .i64 3,.slice none 0 0,.slice none 0 0] wr fun e w'=>∃id τ F2 g2 v2,e=.returned (.tuple #[.int .i64 id,.int .i64 0])∧Co w' (w.heap.size+1) D F2 g2 v2 τ∧Gc (w.heap.size+1) F1 w1 F2 w'∧FI τ n (j+1)):=by
    refine(subC Cr.out t0 KK.cl hl ho he hq htk 3 (by omega) (by omega)).mono ?_
    rintro e w' ⟨rfl,F2,g2,v2,C2,G2⟩
    exact⟨_,_,F2,g2,v2,rfl,C2,Gr.out.trans G2,KK.sub 0 3⟩
   have hXc:X=0∨X=1∨(X≠0∧X≠1):=by omega
   clear KK t0 t1 hl ho he hq htk hnow c hI hI2 hfr eI hM hX4
   rcases hXc with rfl|rfl|⟨hX0,hX1⟩
   case' inl=>
    have hb0:(((0:Nat):Int)==0)=true:=rfl
    go_wp2_with fail
    refine Calls.mono PA.out ?_
   case' inr.inl=>
    have hb0:(((1:Nat):Int)==0)=false:=rfl
    have hb1:(((1:Nat):Int)==1)=true:=rfl
    go_wp2_with fail
    refine Calls.mono PE.out ?_
   case' inr.inr=>
    have hb0:((X:Int)==0)=false:=by simp;omega
    have hb1:((X:Int)==1)=false:=by simp;omega
    go_wp2_with fail
    refine Calls.mono PS.out ?_
   all_goals
    rintro e w2 ⟨id,τ,F2,g2,v2,rfl,C2,G2,K2⟩
    have P:=stateC C2 (by have:=K2.qn;have:=HN.out.2.1;omega)
    have KT:Aside (FI τ n (j+1)∧Gc (w.heap.size+1) F1 w1 F2 w2):=⟨K2,G2⟩
    have efr:(τ.n:Int)-τ.o=fr:=by rw[K2.cn,K2.o];have:=HI.out;have:=HI2.out.2.1;omega
    clear C2 G2 K2
    go_wp2_with fail
    refine Calls.mono P ?_
    rintro e w3 ⟨KT3,cs,s1,n1,c1,s2,n2,c2',s3,n3,c3,s4,c4,F3,g3,v3,rfl,C3,G3,BT,fil⟩
    rw[efr]
    have NX:Aside (∃(σ:CS)(Fr:Nat→Nat→Prop)(gr vr:Value),Aside (Co w3 (w.heap.size+1) D Fr gr vr σ)∧Aside (Gc (w.heap.size+1) F1 w1 Fr w3)∧Aside (FI σ n (j+1))):=⟨τ,F3,g3,v3,C3,KT.out.2.trans G3,KT.out.1⟩
    obtain⟨u1,hu1⟩:∃u,τ.now=u:=⟨_,rfl⟩
    obtain⟨u2,hu2⟩:∃u,τ.tk=u:=⟨_,rfl⟩
    obtain⟨u3,hu3⟩:∃u,τ.cl=u:=⟨_,rfl⟩
    obtain⟨u4,hu4⟩:∃u,τ.T.length=u:=⟨_,rfl⟩
    obtain⟨u5,hu5⟩:∃u,τ.tm.length=u:=⟨_,rfl⟩
    rw[hu1,hu2,hu3,hu4,hu5]
    clear P C3 G3 BT fil efr hu1 hu2 hu3 hu4 hu5
    have ff:=fldFree u1 u2 u3 fr (some ⟨KT3,0,none⟩) s1 s2 s3 s4 u4 n1 n2 n3 u5 u4 c1 c2' c3 c4 w3
    go_wp2_with fail
    go_roundg (64-(j+1))
    case measure=>have:=HI2.out.2.2;have:=HN.out.2.1;omega
    case rel=>
     obtain⟨σ',F',g',v',q1,q2,q3⟩:=NX.out
     exact⟨j+1,congrArg (Value.int .i64) (by have:=HI2.out.1;have:=HI.out;omega),by have:=HI2.out.2.2;omega,Nat.le_refl _,σ',F',g',v',q1,q2,q3⟩
  ·obtain rfl:j=n:=by omega
   have h1:¬(I:Int)≤(j:Int):=by omega
   have KK:=K.out
   have hl:σ.T.length<200:=by rw[KK.len];have:=HN.out.2.1;omega
   have hnow:Ta.IsT σ.now:=by rw[KK.now];exact isT_small (by omega) (by omega)
   have t0:0<σ.th:=by rw[KK.th];omega
   have ho:σ.o=σ.n:=by rw[KK.o,KK.cn]
   have P:Calls Tryz.prog 11 #[pt D.B,.int .i64 0,.int .i64 0,.slice none 0 0,.slice none 0 0] wr fun e w'=>e=.returned (.tuple #[.int .i64 0,.int .i64 60])∧Cox (w.heap.size+1) D Fr wr σ w':=subN Cr.out t0 KK.cl hl ho 0 (by omega) (by omega)
   have HH:Aside (0<σ.th∧σ.cl=false∧σ.T.length<200∧σ.o=σ.n∧Ta.IsT σ.now):=⟨t0,KK.cl,hl,ho,hnow⟩
   obtain⟨K1,hK1⟩:∃K1:Nat,kk+1=K1:=⟨_,rfl⟩
   have hwk:IntKind.i64.wrap ((kk:Int)+1)=(K1:Int):=by rw[IntKind.wrap_i64];have:=HN.out;omega
   obtain⟨N1,hN1⟩:∃N1:Nat,j+1=N1:=⟨_,rfl⟩
   have hwN1:IntKind.i64.wrap ((j:Int)+1)=(N1:Int):=by rw[IntKind.wrap_i64];have:=HN.out;omega
   obtain⟨N2,hN2⟩:∃N2:Nat,j+2=N2:=⟨_,rfl⟩
   have hwN2:IntKind.i64.wrap ((j:Int)+2)=(N2:Int):=by rw[IntKind.wrap_i64];have:=HN.out;omega
   have HN2:Aside (kk+1=K1∧j+1=N1∧j+2=N2):=⟨hK1,hN1,hN2⟩
   clear KK hl hnow t0 ho hK1 hN1 hN2 c hI eI
   go_wp2_with fail
   refine Calls.mono P ?_
   rintro e w2 ⟨rfl,F2,g2,v2,C2,G2⟩
   have X2:Aside (Gc (w.heap.size+1) F1 w1 F2 w2):=Gr.out.trans G2
   have P:Calls Tryz.prog 9 #[pt D.B,.int .i64 0,.int .i64 0,.slice none 0 0,.int .u64 5] w2 fun e w'=>e=.returned (.tuple #[.int .i64 0,.int .i64 60])∧Cox (w.heap.size+1) D F2 w2 σ w':=afterN C2 HH.out.1 HH.out.2.1 HH.out.2.2.1 HH.out.2.2.2.1 0 5 (by omega) (by omega) (by omega) HH.out.2.2.2.2 (isT_small (by omega) (by omega))
   clear C2 G2
   go_wp2_with fail
   refine Calls.mono P ?_
   rintro e w3 ⟨rfl,F3,g3,v3,C3,G3⟩
   have X3:Aside (Gc (w.heap.size+1) F1 w1 F3 w3):=X2.out.trans G3
   have P:Calls Tryz.prog 10 #[pt D.B,.int .i64 0,.int .i64 0,.slice none 0 0,.int .u64 5,.int .u64 5] w3 fun e w'=>e=.returned (.tuple #[.int .i64 0,.int .i64 60])∧Cox (w.heap.size+1) D F3 w3 σ w':=everyN C3 HH.out.1 HH.out.2.1 HH.out.2.2.1 HH.out.2.2.2.1 0 5 5 (by omega) (by omega) (by omega) (isT_small (by omega) (by omega)) HH.out.2.2.2.2 (isT_small (by omega) (by omega))
   clear C3 G3
   go_wp2_with fail
   refine Calls.mono P ?_
   rintro e w4 ⟨rfl,F4,g4,v4,C4,G4⟩
   have X4:Aside (Gc (w.heap.size+1) F1 w1 F4 w4):=X3.out.trans G4
   have P:=stateC C4 (by have:=K.out.qn;have:=HN.out.2.1;omega)
   clear C4 G4
   go_wp2_with fail
   refine Calls.mono P ?_
   rintro e w5 ⟨KT3,cs,s1,n1,c1,s2,n2,c2',s3,n3,c3,s4,c4,F5,g5,v5,rfl,C5,G5,BT,fil⟩
   rw[K.out.len]
   have X5:Aside (Gc (w.heap.size+1) F1 w1 F5 w5):=X4.out.trans G5
   obtain⟨x,hx⟩:∃x,σ.T[kk]?=some x:=⟨σ.T[kk]'(by rw[K.out.len];exact HN.out.2.2),List.getElem?_eq_getElem _⟩
   have hst:=K.out.st x (List.mem_of_getElem? hx)
   have hE:∀q,¬Da.Rch σ.E ((kk:Int)+1) q:=fun q h=>by
    rw[K.out.E] at h
    exact h (fun _=>False) (fun _ h=>h) (fun _ _ h _=>h)
   have P:Calls Tryz.prog 13 #[pt D.B,.int .i64 K1] w5 fun e w'=>e=.returned (.int .i64 0)∧Cox (w.heap.size+1) D F5 w5 (fulC σ kk) w':=by
    have q:=cancelW C5 hx hst.2 hst.1 (by rw[K.out.N];omega) (fun q h=>(hE q h).elim) (by have:=K.out.ev;have:=HN.out.2.1;omega) (by rw[K.out.len];have:=HN.out.2.1;omega) (by have h1:=K.out.qn;have h2:=Ta.cntP_le isC σ.T;rw[K.out.len] at h2;have:=HN.out.2.1;omega)
    rw[show((kk:Int)+1)=(K1:Int) by have:=HN2.out.1;omega] at q
    refine q.mono ?_
    rintro e w' ⟨rfl,d,kl,X⟩
    rw[K.out.E] at kl
    obtain rfl:=kill_nil kl
    refine⟨rfl,?_⟩
    have e1:fulC σ kk=canL [(K1:Int)] (dropE σ (K1:Int)):=by
     unfold fulC
     rw[show((kk:Int)+1)=(K1:Int) by have:=HN2.out.1;omega]
    rw[e1]
    exact X
   obtain⟨τ,hτ⟩:∃τ,fulC σ kk=τ:=⟨_,rfl⟩
   rw[hτ] at P
   have T1:Aside (FC σ τ j kk):=by
    show FC σ τ j kk
    rw[←hτ]
    exact K.out.cancel hx
   obtain⟨u1,hu1⟩:∃u,σ.now=u:=⟨_,rfl⟩
   obtain⟨u2,hu2⟩:∃u,σ.tk=u:=⟨_,rfl⟩
   obtain⟨u3,hu3⟩:∃u,σ.cl=u:=⟨_,rfl⟩
   obtain⟨u4,hu4⟩:∃u,(σ.n:Int)-σ.o=u:=⟨_,rfl⟩
   obtain⟨u5,hu5⟩:∃u,σ.tm.length=u:=⟨_,rfl⟩
   rw[hu1,hu2,hu3,hu4,hu5]
   have HKK:=HK.out
   clear C5 G5 BT fil hx hst hE hτ hu1 hu2 hu3 hu4 hu5
   have ff:=fldTasks u1 u2 u3 u4 (some ⟨KT3,0,none⟩) s1 s2 s3 s4 j n1 n2 n3 u5 j c1 c2' c3 c4 w5
   go_wp2_with fail
   refine Calls.mono P ?_
   rintro e w6 ⟨rfl,F6,g6,v6,C6,G6⟩
   have X6:Aside (Gc (w.heap.size+1) F1 w1 F6 w6):=X5.out.trans G6
   have P:Calls Tryz.prog 13 #[pt D.B,.int .i64 K1] w6 fun e w'=>e=.returned (.int .i64 8)∧Cox (w.heap.size+1) D F6 w6 τ w':=by
    obtain⟨y,hy,hs⟩:=T1.out.at'
    have q:=cancelL C6 hy (by omega) (by omega) (by omega)
    rw[show((kk:Int)+1)=(K1:Int) by have:=HN2.out.1;omega] at q
    exact q
   clear C6 G6 HKK
   go_wp2_with fail
   refine Calls.mono P ?_
   rintro e w7 ⟨rfl,F7,g7,v7,C7,G7⟩
   have X7:Aside (Gc (w.heap.size+1) F1 w1 F7 w7):=X6.out.trans G7
   have P:=stateC C7 (by have:=T1.out.qn;have:=HN.out.2.1;omega)
   clear C7 G7
   go_wp2_with fail
   refine Calls.mono P ?_
   rintro e w8 ⟨KT3,cs,s1,n1,c1,s2,n2,c2',s3,n3,c3,s4,c4,F8,g8,v8,rfl,C8,G8,BT,fil⟩
   rw[show(τ.n:Int)-τ.o=1 by rw[T1.out.cn,T1.out.o];have:=HN.out;omega]
   have X8:Aside (Gc (w.heap.size+1) F1 w1 F8 w8):=X7.out.trans G8
   obtain⟨u1,hu1⟩:∃u,τ.now=u:=⟨_,rfl⟩
   obtain⟨u2,hu2⟩:∃u,τ.tk=u:=⟨_,rfl⟩
   obtain⟨u3,hu3⟩:∃u,τ.cl=u:=⟨_,rfl⟩
   obtain⟨u4,hu4⟩:∃u,τ.T.length=u:=⟨_,rfl⟩
   obtain⟨u5,hu5⟩:∃u,τ.tm.length=u:=⟨_,rfl⟩
   rw[hu1,hu2,hu3,hu4,hu5]
   have P:Calls Tryz.prog 11 #[pt D.B,.int .i64 0,.int .i64 0,.slice none 0 0,.slice none 0 0] w8 fun e w'=>e=.returned (.tuple #[.int .i64 N1,.int .i64 0])∧Cox (w.heap.size+1) D F8 w8 (subS τ 0 0) w':=by
    have q:=subC C8 (t:=0) (by rw[T1.out.th];omega) T1.out.cl (by rw[T1.out.len];have:=HN.out.2.1;omega) (by rw[T1.out.o,T1.out.cn];have:=HN.out.1;omega) (by have:=T1.out.ev;have:=HN.out.2.1;omega) (by have:=T1.out.qn;have:=HN.out.2.1;omega) (by rw[T1.out.tk];omega) 0 (by omega) (by omega)
    rw[show(τ.T.length:Int)+1=(N1:Int) by rw[T1.out.len];have:=HN2.out;omega] at q
    exact q
   clear C8 G8 BT fil hu1 hu2 hu3 hu4 hu5
   have ff:=fldFree u1 u2 u3 1 (some ⟨KT3,0,none⟩) s1 s2 s3 s4 u4 n1 n2 n3 u5 u4 c1 c2' c3 c4 w8
   go_wp2_with fail
   refine Calls.mono P ?_
   rintro e w9 ⟨rfl,F9,g9,v9,C9,G9⟩
   have X9:Aside (Gc (w.heap.size+1) F1 w1 F9 w9):=X8.out.trans G9
   obtain⟨S,hS⟩:∃S,w9.heap.size=S:=⟨_,rfl⟩
   obtain⟨u,hu⟩:∃z,w9.alloc (.cells #[.int .i64 K1] 3)=z:=⟨_,rfl⟩
   have bu:Below w9.heap.size w9 u:=by rw[←hu];exact belA _ _
   have Cu:=C9.below bu
   have ou:Ow u F9 (.slice (some ⟨S,0,none⟩) 1 1) [(K1:Int)]:=by rw[←hu,←hS];exact(Owb.one C9 K1 (Nat.zero_le _)).ow
   have T2:Aside ((subS τ 0 0).T.length=N1∧areB (subS τ 0 0).T [(K1:Int)]=true∧lostL (subS τ 0 0).T [(K1:Int)]=true):=by
    obtain⟨y,hy,hs⟩:=T1.out.at'
    have e1:(subS τ 0 0).T[kk]?=some y:=by
     rw[sub_T,List.getElem?_append_left (by rw[T1.out.len];exact HN.out.2.2)]
     exact hy
    have e2:stT (subS τ 0 0).T (K1:Int)=6:=by
     rw[show(K1:Int)=(kk:Int)+1 by have:=HN2.out.1;omega,stT_at e1,hs]
    refine⟨by rw[sub_T,List.length_append,T1.out.len];exact HN2.out.2.1,?_,?_⟩
    ·simp[areB,e2]
    ·simp[lostL,e2,lostB]
   have P:Calls Tryz.prog 11 #[pt D.B,.int .i64 0,.int .i64 0,.slice none 0 0,.slice (some ⟨S,0,none⟩) 1 1] u fun e w'=>e=.returned (.tuple #[.int .i64 N2,.int .i64 0])∧Cox (w.heap.size+1) D F9 u (lostS (subS τ 0 0) 0) w':=by
    have q:=subLost Cu (t:=0) (n:=1) (d:=[(K1:Int)]) (show 0<τ.th by rw[T1.out.th];omega) (show τ.cl=false from T1.out.cl) (by rw[T2.out.1];have:=HN.out.2.1;have:=HN2.out;omega) (by have:=T1.out.ev;have:=HN.out.2.1;rw[sub_ev2];omega) 0 (by omega) (by omega) rfl (by omega) ou T2.out.2.1 T2.out.2.2
    rw[show((subS τ 0 0).T.length:Int)+1=(N2:Int) by rw[T2.out.1];have:=HN2.out;omega] at q
    exact q
   have XU:Aside (Gc (w.heap.size+1) F1 w1 F9 u):=X9.out.trans (Gc.below F9 C9.lw bu)
   have HU:Aside _:=hu
   have HS:Aside _:=hS
   clear C9 G9 Cu ou bu hu hS
   go_wp2_with fail
   rw[HU.out]
   try simp only[HS.out]
   refine Calls.mono P ?_
   rintro e w10 ⟨rfl,F10,g10,v10,C10,G10⟩
   have X10:Aside (Gc (w.heap.size+1) F1 w1 F10 w10):=XU.out.trans G10
   have P:Calls Tryz.prog 14 #[pt D.B,.int .i64 N2] w10 fun e w'=>e=.returned (.int .i64 6)∧Cox (w.heap.size+1) D F10 w10 (lostS (subS τ 0 0) 0) w':=by
    have q:=statusC C10 (i:=(subS τ 0 0).T.length) (x:=Ta.mkT 0 0 0 0 0 0 6) (mkS_at (subS τ 0 0) (Ta.mkT 0 0 0 0 0 0 6))
    rw[show((subS τ 0 0).T.length:Int)+1=(N2:Int) by rw[T2.out.1];have:=HN2.out;omega] at q
    exact q
   clear C10 G10
   go_wp2_with fail
   refine Calls.mono P ?_
   rintro e w11 ⟨rfl,F11,g11,v11,C11,G11⟩
   have X11:Aside (Below w.heap.size w w11):=X1.out.1.trans ((X10.out.trans G11).low.mono (by omega))
   clear C11 G11
   go_wp2_with fail
   refine(awakeC w11).mono ?_
   rintro e w12 ⟨rfl,b12⟩
   have FIN2:Aside (Below w.heap.size w w12):=belT X11.out b12
   clear b12
   go_wp2_with fail
   go_ret
   exact⟨rfl,FIN2.out⟩
end Go.Proofs.YtjpmepfbpfkmoaaGreatDoorR
