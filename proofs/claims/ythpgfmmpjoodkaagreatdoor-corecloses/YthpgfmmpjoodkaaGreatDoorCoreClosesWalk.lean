import Derived.Test.YthpgfmmpjoodkaaGreatDoorCcC
namespace Go.Proofs.YthpgfmmpjoodkaaGreatDoor
set_option maxHeartbeats 8000000
set_option maxRecDepth 100000
set_option linter.unusedVariables false
open Go.RowKit Go.Lib Go.WideMaps Go.Maps
theorem Ow.isIv{w:World}{F:Nat->Nat->Prop}{a:Option Addr}{n cap:Nat}{d:List Int}(h:Ow w F (.slice a n cap) d)(hd:d.length=n):Da.IsI w a cap d:=by
 subst hd;exact h.1.isIv
def Shu(S:Nat)(D:CAd)(F1:Nat->Nat->Prop)(w1:World)(τ:CS)(l1 l2:Value)(ids:List Int)(wr:World):Prop:=
 ∃Fr gr vr,Co wr S D Fr gr vr τ/\Gn S F1 w1 Fr wr/\Ow wr Fr l1 ids/\Ow wr Fr l2 ids
theorem Shu.cox{S:Nat}{D:CAd}{F1:Nat->Nat->Prop}{w1:World}{l1 l2:Value}{ids:List Int}{wr w2:World}{Fr:Nat->Nat->Prop}(G:Gn S F1 w1 Fr wr)(o1:Ow wr Fr l1 ids)(o2:Ow wr Fr l2 ids){τ2:CS}(X:Cox S D Fr wr τ2 w2):Shu S D F1 w1 τ2 l1 l2 ids w2:=by
 obtain⟨F2,g2,v2,C2,G2⟩:=X;exact⟨F2,g2,v2,C2,G.trans G2.n,o1.gc G2,o2.gc G2⟩
theorem coreCloses_walk(az:Int)(bz:Int)(nz:Int)(w:World)(h0:(Lit.int .i64 az).wf=true)(h1:(Lit.int .i64 bz).wf=true)(h2:(Lit.int .u64 nz).wf=true)(hN:Wl.TabW w/\1<w.heap.size) :
  Calls Tryz.prog 4 #[.int .i64 az,.int .i64 bz,.int .u64 nz] w fun e w'=>e=.returned (.bool true)/\Below w.heap.size w w':=by
 obtain⟨a8,ha8,a,hra,ha⟩:∃a8:Nat,bits .and .i64 az 255=(a8:Int)/\∃a:Nat,(a8:Int)%20=(a:Int)/\a<20:=⟨(az%256).toNat,by rw[mask_i64 az 8 255 256 (by omega) rfl rfl];omega,((az%256).toNat%20),by omega,by omega⟩;obtain⟨b8,hb8,b,hrb,hb⟩:∃a8:Nat,bits .and .i64 bz 255=(a8:Int)/\∃a:Nat,(a8:Int)%20=(a:Int)/\a<20:=⟨(bz%256).toNat,by rw[mask_i64 bz 8 255 256 (by omega) rfl rfl];omega,((bz%256).toNat%20),by omega,by omega⟩
 obtain⟨nw,hnz,hnw⟩:∃n:Nat,nz=(n:Int)/\n<18446744073709551616:=by
  simp only[Lit.wf,IntKind.min,IntKind.max,IntKind.signed,IntKind.bits,Bool.and_eq_true] at h2;obtain⟨q1,q2⟩:=h2;simp at q1 q2;exact⟨nz.toNat,by omega,by omega⟩
 subst hnz;have HR:Aside (Wl.TabW w/\1<w.heap.size/\nw<18446744073709551616/\a<20/\b<20):=⟨hN.1,hN.2,hnw,ha,hb⟩;obtain⟨S,hS⟩:∃S,w.heap.size+1=S:=⟨_,rfl⟩;have HS:Aside (w.heap.size+1=S):=hS;have P:Calls Tryz.prog 8 #[.agg #[.int .i64 1,.int .i64 2,.int .i64 64]] w fun e w'=>∃D F,e=.returned (.tuple #[pt D.B,.int .i64 0])/\Co w' S D F (.slice none 0 0) (.slice none 0 0) (newS 1 2 64)/\Below w.heap.size w w'/\w.heap.size<=D.wb:=by rw[<-hS];exact newC2 1 2 64 w (by omega) (by omega) (by omega) (by omega) (by omega)
 clear h0 h1 h2 hN hS hnw;go_enter Tryz.func4,Tryz.ntmps4
 go_wp2_with fail
 refine Calls.mono P ?_;rintro e w1 ⟨D,F1,rfl,C1,b1,hwb⟩;have X1:Aside (Below w.heap.size w w1/\Co w1 S D F1 (.slice none 0 0) (.slice none 0 0) (newS 1 2 64)/\1<D.wb):=⟨b1,C1,Nat.lt_of_lt_of_le HR.out.2.1 hwb⟩;clear P C1 b1 hwb
 go_wp2_with fail
 go_loopg [9] a (fun kx s9 wr=>∃(i:Nat),s9=.int .i64 i/\i<=a/\a-i<=kx/\∃(σ:CS)(Fr:Nat->Nat->Prop)(gr vr:Value),Aside (Co wr S D Fr gr vr σ)/\Aside (Gn S F1 w1 Fr wr)/\Aside (KC σ i 0 0 false))
 case atStart=>exact⟨0,rfl,by omega,by omega,_,_,_,_,X1.out.2.1,(Gc.refl _ _ _).n,KC.new⟩
 case round=>
  obtain⟨i,rfl,hi,hkx,σ,Fr,gr,vr,Cr,Gr,K⟩:=hrel;by_cases c:i<a
  ·have hlt:(i:Int)<(a:Int):=by omega
   obtain⟨p,hp,hp7⟩:∃p:Nat,bits .and .i64 (i:Int) 7=(p:Int)/\p<=7:=⟨((i:Int)%8).toNat,by rw[mask_i64 (i:Int) 3 7 8 (by omega) rfl rfl];omega,by omega⟩;have hwi:IntKind.i64.wrap ((i:Int)+1)=((i+1:Nat):Int):=by rw[IntKind.wrap_i64];omega
   have P:=subC Cr.out (t:=0) (by rw[K.out.th];omega) K.out.cl (by rw[K.out.len];omega) (by rw[K.out.o,K.out.n];omega) (by have:=K.out.ev;have:false.toNat=0:=rfl;omega) (by have:=K.out.qn;omega) (by rw[K.out.tk];omega) (p:Int) (by omega) (by omega)
   have P:Calls Tryz.prog 9 #[pt D.B,.int .i64 0,.int .i64 (p:Int),.slice none 0 0,.slice none 0 0] wr fun e w'=>(∃z,e=.returned (.tuple #[.int .i64 z,.int .i64 0]))/\∃τ F2 g2 v2,Co w' S D F2 g2 v2 τ/\Gn S F1 w1 F2 w'/\KC τ (i+1) 0 0 false:=by
    refine P.mono ?_;rintro e w' ⟨rfl,F2,g2,v2,C2,G2⟩;exact⟨⟨_,rfl⟩,_,F2,g2,v2,C2,Gr.out.trans G2.n,K.out.sub _⟩
   have HC:Aside (i<a):=c;clear c
   go_wp2_with fail
   refine Calls.mono P ?_;rintro r w2 ⟨⟨z,rfl⟩,τ,F2,g2,v2,C2,G2,K2⟩;have NX:Aside (Co w2 S D F2 g2 v2 τ/\Gn S F1 w1 F2 w2/\KC τ (i+1) 0 0 false):=⟨C2,G2,K2⟩;clear P C2 G2 K2
   go_wp2_with fail
   go_roundg (a-(i+1))
   case measure=>have:=HC.out;omega
   case rel=>exact⟨i+1,by go_num,HC.out,Nat.le_refl _,τ,F2,g2,v2,NX.out.1,NX.out.2.1,NX.out.2.2⟩
  ·have hnl:¬(i:Int)<(a:Int):=by omega
   have hia:i=a:=by omega
   have SS:Aside (∃(σ:CS)(Fr:Nat->Nat->Prop)(gr vr:Value),Aside (Co wr S D Fr gr vr σ)/\Aside (Gn S F1 w1 Fr wr)/\Aside (KC σ a 0 0 false)):=⟨σ,Fr,gr,vr,Cr,Gr,by rw[<-hia];exact K⟩;clear hia Cr Gr K
   go_wp2_with fail
   obtain⟨σ1,Fq,gq,vq,Cq,Gq1,Kq⟩:=SS.out;clear hnl hkx hi SS
   go_loopg [10] b (fun kx s10 wr=>∃(j:Nat),s10=.int .i64 j/\j<=b/\b-j<=kx/\∃(σ:CS)(Fr:Nat->Nat->Prop)(gr vr:Value),Aside (Co wr S D Fr gr vr σ)/\Aside (Gn S F1 w1 Fr wr)/\Aside (KC σ a j 0 false))
   case atStart=>exact⟨0,rfl,by omega,by omega,σ1,Fq,gq,vq,Cq,Gq1,Kq⟩
   case round=>
    clear Cq Gq1 Kq;obtain⟨j,rfl,hj,hkj,σ,Fr,gr,vr,Cr,Gr,K⟩:=hrel;by_cases c:j<b
    ·have hlt:(j:Int)<(b:Int):=by omega
     obtain⟨p,hp,hp7⟩:∃p:Nat,bits .and .i64 (j:Int) 7=(p:Int)/\p<=7:=⟨((j:Int)%8).toNat,by rw[mask_i64 (j:Int) 3 7 8 (by omega) rfl rfl];omega,by omega⟩;obtain⟨J1,hJ1⟩:∃J1:Nat,j+1=J1:=⟨_,rfl⟩;have hwi:IntKind.i64.wrap ((j:Int)+1)=(J1:Int):=by rw[IntKind.wrap_i64];omega
     have hwu:IntKind.u64.wrap (J1:Int)=(J1:Int):=by rw[IntKind.wrap_u64];omega
     have hadd:Aside (Ta.addT (σ.now:Int) (J1:Int)=((J1:Nat):Int)):=by
      show Ta.addT (σ.now:Int) (J1:Int)=((J1:Nat):Int);rw[K.out.now];unfold Ta.addT;rw[if_pos (by omega)];omega
     have P:Calls Tryz.prog 15 #[pt D.B,.int .i64 0,.int .i64 (p:Int),.slice none 0 0,.int .u64 (J1:Int)] wr fun e w'=>(∃z,e=.returned (.tuple #[.int .i64 z,.int .i64 0]))/\∃τ F2 g2 v2,Co w' S D F2 g2 v2 τ/\Gn S F1 w1 F2 w'/\KC τ a (j+1) 0 false:=by
      refine(afterW Cr.out (t:=0) (by rw[K.out.th];omega) K.out.cl (by rw[K.out.len];omega) (by rw[K.out.o,K.out.n];omega) (by have:=K.out.ev;have:false.toNat=0:=rfl;omega) (p:Int) (J1:Int) (by omega) (by omega) (by omega) (by rw[K.out.now];unfold Ta.IsT;omega) (by unfold Ta.IsT;omega) hadd.out (Nat.lt_trans (show J1<100 by omega) (by decide))).mono ?_;rintro e w' ⟨rfl,F2,g2,v2,C2,G2⟩;refine⟨⟨_,rfl⟩,_,F2,g2,v2,C2,Gr.out.trans G2.n,?_⟩;have:=K.out.tim (p:Int) (by omega);rw[hJ1] at this⊢;exact this
     have HC:Aside (j<b/\j+1=J1):=⟨c,hJ1⟩;clear c hJ1
     go_wp2_with fail
     refine Calls.mono P ?_;rintro r w2 ⟨⟨z,rfl⟩,τ,F2,g2,v2,C2,G2,K2⟩;have NX:Aside (Co w2 S D F2 g2 v2 τ/\Gn S F1 w1 F2 w2/\KC τ a (j+1) 0 false):=⟨C2,G2,K2⟩;clear P C2 G2 K2
     go_wp2_with fail
     go_roundg (b-(j+1))
     case measure=>have:=HC.out.1;omega
     case rel=>exact⟨j+1,congrArg (Value.int .i64) (by have:=HC.out.2;omega),HC.out.1,Nat.le_refl _,τ,F2,g2,v2,NX.out.1,NX.out.2.1,NX.out.2.2⟩
    ·have hnl:¬(j:Int)<(b:Int):=by omega
     have hjb:j=b:=by omega
     have P:Calls Tryz.prog 16 #[pt D.B] wr fun e w'=>∃ac cap τ,e=.returned (.slice ac b cap)/\KC τ a b b true/\∃F2 g2 v2,Co w' S D F2 g2 v2 τ/\Gn S F1 w1 F2 w'/\Ow w' F2 (.slice ac b cap) (idsF a b):=by
      have K:=K.out;rw[hjb] at K;have KE:=K.shutE;obtain⟨q1,q2⟩:=KC.all b (k:=0) (by omega) KE (by omega) (by omega);have eL:=K.timL;refine(shutC Cr.out K.cl (by have:=K.ev;have:false.toNat=0:=rfl;omega) (by rw[K.tl rfl];omega) (by rw[eL];exact q1) (fun τ hτ=>by rw[eL] at hτ;rw[(q2 τ hτ).gone,idsF_len];omega)).mono ?_;rintro e w' ⟨ac,cap,τ,rfl,hτ,F2,o2,⟨g2,v2,C2⟩,G2⟩;rw[eL] at hτ;have K2:=q2 τ hτ;have e1:Da.sortI τ.gone=τ.gone:=by rw[K2.gone];exact sortI_self (idsF_up _ _)
      have e2:({τ with gone:=Da.sortI τ.gone}:CS)=τ:=by rw[e1]
      have e3:τ.gone.length=b:=by rw[K2.gone,idsF_len]
      rw[e2] at C2;rw[e1,e3,K2.gone] at o2;exact⟨ac,cap,τ,by rw[e3],K2,F2,g2,v2,C2,Gr.out.trans G2,o2⟩
     clear hjb Cr Gr K hj hkj
     go_wp2_with fail
     refine Calls.mono P ?_;rintro r w2 ⟨ac,cap,τ,rfl,K2,F2,g2,v2,C2,G2,o2⟩;have P2:=shutAgain C2 K2.cl (by rw[K2.gone,idsF_len];omega);rw[K2.gone,idsF_len] at P2;have X2:Aside (KC τ a b b true/\Gn S F1 w1 F2 w2/\Ow w2 F2 (.slice ac b cap) (idsF a b)):=⟨K2,G2,o2⟩;clear P K2 C2 G2 o2
     go_wp2_with fail
     refine Calls.mono P2 ?_;rintro r w3 ⟨ac3,cap3,rfl,o3,C3,G3⟩;have KT:Aside (KC τ a b b true):=X2.out.1;have X3:Aside (Shu S D F1 w1 τ (.slice ac b cap) (.slice ac3 b cap3) (idsF a b) w3):=⟨F2,g2,v2,C3,X2.out.2.1.trans G3.n,X2.out.2.2.gc G3,o3.ow⟩;clear P2 o3 C3 G3 X2;go_upto_region 15 with fail
     go_cut [77] from 61 to 77 (fun s77 wx=>s77=.bool false/\Aside (Shu S D F1 w1 τ (.slice ac b cap) (.slice ac3 b cap3) (idsF a b) wx))
     case first=>
      obtain⟨F3,g3,v3,C3,G3,o1,o2⟩:=X3.out
      have P:Calls Tryz.prog 17 #[.slice ac b cap,.slice ac3 b cap3] w3 fun e w'=>e=.returned (.bool true)/\Shu S D F1 w1 τ (.slice ac b cap) (.slice ac3 b cap3) (idsF a b) w':=by
       have q:=Da.same_any (o1.isIv (idsF_len _ _)) (o2.isIv (idsF_len _ _));rw[idsF_len] at q;refine q.mono ?_;rintro e w' ⟨rfl,bb⟩;refine⟨by simp,Shu.cox G3 o1 o2 (C3.xb bb)⟩
      clear C3 G3 o1 o2
      go_wp2_with fail
      refine Calls.mono P ?_;rintro r w4 ⟨rfl,F4,g4,v4,C4,G4,o1,o2⟩;have P:=drainC C4 KT.out.cl (by rw[KT.out.len];omega)
      have P:Calls Tryz.prog 18 #[pt D.B] w4 fun e w'=>e=.returned (.bool (decide (a=0)))/\Shu S D F1 w1 τ (.slice ac b cap) (.slice ac3 b cap3) (idsF a b) w':=by
       refine P.mono ?_;rintro e w' ⟨rfl,bb⟩;refine⟨?_,Shu.cox G4 o1 o2 (C4.xb bb)⟩;have:=KT.out.live;by_cases hz:a=0
       ·rw[decide_eq_true hz,decide_eq_true (this.2 hz)]
       ·rw[decide_eq_false hz,decide_eq_false (fun h=>hz (this.1 h))]
      clear C4 G4 o1 o2;by_cases hz:a=0
      ·rw[decide_eq_true hz] at P;have hz':((a:Int)==0)=true:=by simp[hz]
       have HZ:Aside (a=0):=hz;clear hz
       go_wp2_with fail
       refine Calls.mono P ?_;rintro r w5 ⟨rfl,X5⟩;have X5:Aside _:=X5;clear P
       go_wp2_with fail
       go_meet
       exact⟨rfl,X5.out⟩
      ·rw[decide_eq_false hz] at P;have hz':((a:Int)==0)=false:=by simp[hz]
       go_wp2_with fail
       refine Calls.mono P ?_;rintro r w5 ⟨rfl,X5⟩;have X5:Aside _:=X5;clear P
       go_wp2_with fail
       go_meet
       exact⟨rfl,X5.out⟩
     case rest=>
      obtain⟨rfl,X4⟩:=hcut;clear X3
      go_wp2_with fail
      go_loopg [13] b (fun kx s13 wr=>∃(i:Nat),s13=.int .i64 i/\i<=b/\b-i<=kx/\Aside (Shu S D F1 w1 τ (.slice ac b cap) (.slice ac3 b cap3) (idsF a b) wr))
      case atStart=>exact⟨0,rfl,by omega,by omega,X4⟩
      case round=>
       clear X4;obtain⟨i,rfl,hi,hki,XR⟩:=hrel;obtain⟨Fr,gr,vr,Cr,Gr,o1,o2⟩:=XR.out;by_cases c:i<b
       ·have hlt:(i:Int)<(b:Int):=by omega
        obtain⟨gg,off,rfl,glt,hc⟩:=o1.at (idsF_len _ _) c;rw[idsF_at _ _ _ c] at hc;obtain⟨x,hx⟩:∃x,τ.T[a+i]?=some x:=⟨_,List.getElem?_eq_getElem (by rw[KT.out.len];omega)⟩
        have hs6:x.s=6:=by
         have:=(KT.out.st _ x hx).2;rw[if_neg (by omega),if_pos (by omega)] at this;exact this
        have P:=statusC Cr hx;obtain⟨AI,hAI⟩:∃n:Nat,a+i=n:=⟨_,rfl⟩;obtain⟨X,hX⟩:∃n:Nat,AI+1=n:=⟨_,rfl⟩;have eX:((AI:Nat):Int)+1=(X:Int):=by omega
        rw[hAI,eX] at hc P;rw[hs6] at P
        have P:Calls Tryz.prog 10 #[pt D.B,.int .i64 (X:Int)] wr fun e w'=>e=.returned (.int .i64 6)/\Shu S D F1 w1 τ (.slice (some ⟨gg,off,none⟩) b cap) (.slice ac3 b cap3) (idsF a b) w':=by
         refine P.mono ?_;rintro e w' ⟨rfl,X2⟩;exact⟨rfl,Shu.cox Gr o1 o2 X2⟩
        have wa:IntKind.i64.wrap ((a:Int)+(i:Int))=(AI:Int):=by rw[IntKind.wrap_i64];omega
        have wb:IntKind.i64.wrap ((AI:Int)+1)=(X:Int):=by rw[IntKind.wrap_i64];omega
        have HC:Aside (i<b):=c;clear c Cr Gr o1 o2 XR hx hs6 hAI hX eX
        go_wp2_with fail
        refine Calls.mono P ?_;rintro r w5 ⟨rfl,X5⟩;have X5:Aside _:=X5;clear P hc glt wa wb
        go_wp2_with fail
        go_roundg (b-(i+1))
        case measure=>have:=HC.out;omega
        case rel=>exact⟨i+1,by go_num,HC.out,Nat.le_refl _,X5⟩
       ·have hnl:¬(i:Int)<(b:Int):=by omega
        have K:=KT.out
        have tm0:τ.tm=[]:=List.eq_nil_iff_forall_not_mem.2 fun y hy=>by
         obtain⟨m,q1,q2,_⟩:=(K.tm y.1 y.2).1 hy;omega
        have hgc:=X1.out.1.trans (Gr.low.mono (show w.heap.size<=S by have:=HS.out;omega));have due0:dueI τ nw=[]:=by unfold dueI;rw[tm0];rfl
        have P:Calls Tryz.prog 19 #[pt D.B,.int .i64 0,.int .u64 (nw:Int)] wr fun e w'=>e=.returned (.tuple #[.int .i64 0,.int .i64 0])/\Shu S D F1 w1 (tickS τ 0 nw) (.slice ac b cap) (.slice ac3 b cap3) (idsF a b) w':=by
         have hadd:Ta.addT (τ.now:Int) (nw:Int)=((nw:Nat):Int):=by
          rw[K.now];unfold Ta.addT;have:=HR.out.2.2.1;rw[if_pos (by omega)];omega
         have hle:=Ta.cntP_le isW τ.T;rw[K.len] at hle;have q1:=K.ev;have q2:=K.qn;have q3:true.toNat=1:=rfl;have q:=advC Cr (t:=0) (n:=nw) (thn:=nw) (by rw[K.th];omega) (by unfold Ta.IsT;have:=HR.out.2.2.1;omega) (by rw[K.now];unfold Ta.IsT;omega) hadd (by rw[K.now];omega) (show nw<Wl.B64 by unfold Wl.B64;exact HR.out.2.2.1) (tabW_of HR.out.1 hgc HR.out.2.1 HR.out.2.1) X1.out.2.2 (by omega) (by rw[K.len];omega) (by omega) (by rw[K.tk];omega) (fun x hx=>by rw[tm0] at hx;simp at hx) K.ids;rw[due0] at q;refine q.mono ?_;rintro e w' ⟨rfl,X2⟩;exact⟨rfl,Shu.cox Gr o1 o2 X2⟩
        obtain⟨FR,hFR⟩:∃z:Int,64-(a:Int)=z:=⟨_,rfl⟩;have hwF:IntKind.i64.wrap (64-(a:Int))=FR:=by rw[IntKind.wrap_i64];omega
        have HF:Aside (64-(a:Int)=FR):=hFR;have T0:Aside (τ.tm=[]):=tm0;clear Cr Gr o1 o2 XR K tm0 hgc due0 hFR hi hki
        go_wp2_with fail
        refine Calls.mono P ?_;rintro r w5 ⟨rfl,F5,g5,v5,C5,G5,o1,o2⟩;have P:=subX C5 (t:=0) (show 0<τ.th by rw[KT.out.th];omega) (show τ.cl=true from KT.out.cl) 0 (by omega) (by omega)
        have P3:Calls Tryz.prog 11 #[pt D.B] w5 fun e w'=>∃(u1 u2 K:Nat)(s1:Option Addr)(n1 c1:Nat)(s2:Option Addr)(n2 c2:Nat)(s3:Option Addr)(n3 c3:Nat)(s4:Option Addr)(c4 len:Nat),e=.returned (.agg #[.int .u64 u1,.int .u64 u2,.bool true,.int .i64 FR,.slice (some ⟨K,0,none⟩) len len,.slice s1 n1 c1,.slice s2 n2 c2,.slice s3 n3 c3,.slice s4 (0:Nat) c4])/\Shu S D F1 w1 (tickS τ 0 nw) (.slice ac b cap) (.slice ac3 b cap3) (idsF a b) w':=by
         refine(stateC C5 (show τ.qn<=1000 by have:=KT.out.qn;have:=HR.out.2.2.2.1;omega)).mono ?_;rintro e w' ⟨K,cs,s1,n1,c1,s2,n2,c2,s3,n3,c3,s4,c4,F',g',v',rfl,C',G',_,_⟩;refine⟨(tickS τ 0 nw).now,(tickS τ 0 nw).tk,K,s1,n1,c1,s2,n2,c2,s3,n3,c3,s4,c4,(tickS τ 0 nw).T.length,?_,Shu.cox G5 o1 o2 ⟨F',g',v',C',G'⟩⟩;have e1:(tickS τ 0 nw).cl=true:=KT.out.cl
         have e2:(((tickS τ 0 nw).n:Int)-((tickS τ 0 nw).o:Int))=FR:=by
          show((τ.n:Int)-(τ.o:Int))=FR;rw[KT.out.n,KT.out.o,<-HF.out];omega
         have e3:(tickS τ 0 nw).tm.length=0:=by
          show(Wl.restL nw τ.tm).length=0;rw[T0.out];rfl
         rw[e1,e2,e3]
        clear C5 G5 o1 o2
        go_wp2_with fail
        refine Calls.mono P ?_;rintro r w6 ⟨rfl,rfl⟩;clear P
        go_wp2_with fail
        refine Calls.mono P3 ?_;rintro r w7 ⟨u1,u2,K,s1,n1,c1,s2,n2,c2,s3,n3,c3,s4,c4,len,rfl,F7,g7,v7,C7,G7,_,_⟩;clear P3;obtain⟨Y,hY⟩:∃Y,w7.heap.size=Y:=⟨_,rfl⟩;obtain⟨u,hu⟩:∃z,w7.alloc (.cells #[.int .u64 u1,.int .u64 u2,.bool true,.int .i64 FR,.slice (some ⟨K,0,none⟩) len len,.slice s1 n1 c1,.slice s2 n2 c2,.slice s3 n3 c3,.slice s4 (0:Nat) c4] 41)=z:=⟨_,rfl⟩;have bu:Below w7.heap.size w7 u:=by rw[<-hu];exact belA _ _
        have hd:u.heap[Y]?=some (.cells #[.int .u64 u1,.int .u64 u2,.bool true,.int .i64 FR,.slice (some ⟨K,0,none⟩) len len,.slice s1 n1 c1,.slice s2 n2 c2,.slice s3 n3 c3,.slice s4 (0:Nat) c4] 41 (0,0)):=by rw[<-hu,<-hY];exact heap_alloc_new w7 _
        have y2:u.cell? ⟨Y,2,none⟩=some (.bool true):=cell_of_row _ _ _ _ _ _ hd;have y3:u.cell? ⟨Y,3,none⟩=some (.int .i64 FR):=cell_of_row _ _ _ _ _ _ hd;have y8:u.cell? ⟨Y,8,none⟩=some (.slice s4 (0:Nat) c4):=cell_of_row _ _ _ _ _ _ hd;have Cu:=C7.below bu
        have P4:Calls Tryz.prog 21 #[pt D.B] u fun e w'=>e=.returned (.agg #[.int .i64 1,.int .i64 2,.int .i64 64])/\Below u.heap.size u w':=by
         have q:=confC Cu;rw[show((tickS τ 0 nw).th:Nat)=1 from KT.out.th,show((tickS τ 0 nw).k:Nat)=2 from KT.out.kk,show((tickS τ 0 nw).n:Nat)=64 from KT.out.n] at q;exact q
        have FB:Aside (Below w.heap.size w u):=X1.out.1.trans ((G7.low.mono (show w.heap.size<=S by have:=HS.out;omega)).trans (bu.mono (by have:=X1.out.1.size;have:=G7.size;omega)));have HY:Aside _:=hY;have HU:Aside _:=hu;clear C7 G7 hY hu hd Cu bu;go_upto_region 25 with fail
        rw[HU.out,HY.out]
        go_wp2_with fail
        refine Calls.mono P4 ?_;rintro r w8 ⟨rfl,b8⟩;have P5:Calls Tryz.prog 20 #[.agg #[.int .i64 1,.int .i64 2,.int .i64 64]] w8 fun e w'=>e=.returned (.bool true)/\Below w8.heap.size w8 w':=confOkC 1 2 64 w8 (by omega) (by omega) (by omega) (by omega) (by omega);have FB8:Aside (Below w.heap.size w w8):=FB.out.trans (b8.mono FB.out.size);clear P4 b8 y2 y3 y8
        go_wp2_with fail
        refine Calls.mono P5 ?_;rintro r w9 ⟨rfl,b9⟩;have FB9:Aside (Below w.heap.size w w9):=FB8.out.trans (b9.mono FB8.out.size);clear P5 b9;have P6:=awakeC w9
        go_wp2_with fail
        refine Calls.mono P6 ?_;rintro r w10 ⟨rfl,b10⟩;have FB10:Aside (Below w.heap.size w w10):=FB9.out.trans (b10.mono FB9.out.size);clear P6 b10
        go_wp2_with fail
        go_ret;exact⟨rfl,FB10.out⟩
end Go.Proofs.YthpgfmmpjoodkaaGreatDoor
