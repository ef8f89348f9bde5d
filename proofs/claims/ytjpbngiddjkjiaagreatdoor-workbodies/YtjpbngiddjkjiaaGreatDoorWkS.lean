import Derived.Test.YtjpbngiddjkjiaaGreatDoorWkH
open Go.Proofs.Tryz
open Nat(le_refl)
namespace Go.Proofs.YtjpbngiddjkjiaaGreatDoor
set_option linter.unusedSimpArgs false
set_option maxHeartbeats 8000000
set_option maxRecDepth 100000
set_option linter.unusedVariables false
open Go.RowKit Go.Lib Go.WideMaps Go.Maps
section
variable {w w' u w0:World}{L i:Nat}{D:CAd}{F F' F0:Nat->Nat->Prop}{g v:Value}{σ σ':CS}{th a t dr:Nat}{s ky:Int}
theorem did_up{k:Nat}(h:k<5):didL.take (k+1)=didL.take k++[didL.getD k 0]:=Da.take_up h
theorem awake19C(w:World):Calls prog 5 #[] w fun e w'=>e=.returned (.bool true)/\Below w.heap.size w w':=by
 have P:Calls prog 6 #[.agg #[.int .i64 1,.int .i64 0,.int .i64 2]] w fun e w'=>∃X,e=.returned (pt X)/\∃L D F R,w.heap.size<=L/\Co w' L D F (.slice none 0 0) (.slice none 0 0) (newS 1 0 2)/\Bx w' F X #[pt D.B,pt R,.int .u64 0,.int .i64 0] 37/\w.heap.size<=X/\Below w.heap.size w w':=newW 1 0 2 w (by omega) (by omega) (by omega) (by omega) (by omega);go_enter func5,ntmps5
 go_wp2_with fail
 refine P.mono ?_;rintro e w1 ⟨X,rfl,L,D,F1,R,hL,C1,BX,hX,b1⟩;have B1:Aside (Below w.heap.size w w1/\w.heap.size<=L/\w.heap.size<=X/\L<=w1.heap.size):=⟨b1,hL,hX,C1.lw⟩;have x0:w1.cell? ⟨X,0,none⟩=some (pt D.B):=BX.cell 0;have P:Calls prog 7 #[pt D.B,.int .i64 0,.int .i64 0,.slice none 0 0,.slice none 0 0] w1 fun e w'=>e=.returned (.tuple #[.int .i64 1,.int .i64 0])/\Cox L D F1 w1 (subS (newS 1 0 2) 0 0) w':=subC C1 (t:=0) (show 0<1 by omega) rfl (show 0<200 by omega) (show 0<2 by omega) (show 0+1<1000000 by omega) (show 0<=1000 by omega) (show 0<1000000 by omega) 0 (by omega) (by omega);have xlt:=lt_of_block BX.1;have HB:Aside (Bx w1 F1 X #[pt D.B,pt R,.int .u64 0,.int .i64 0] 37):=BX;clear b1 hL hX C1 BX
 go_wp2_with fail
 refine P.mono ?_;rintro e w2 ⟨rfl,F2,g2,v2,C2,G2⟩;clear P x0 xlt;obtain⟨ky,o⟩:=One.sub (th:=1) (k:=0) (n:=2) (t:=0) (by omega) 0;obtain⟨W,hW⟩:∃J,w2.heap.size=J:=⟨_,rfl⟩;obtain⟨u2,hu2⟩:∃q,w2.alloc (.cells #[.int .i64 0,.int .u64 0,.int .i64 0,.int .i64 0,.bool false] 40)=q:=⟨_,rfl⟩;have b2:Below w2.heap.size w2 u2:=by rw[<-hu2];exact belA _ _
 have BW:Bx u2 F2 W (wkA wk0) 40:=by rw[<-hu2,<-hW];exact Bx.new C2 (wkA wk0) 40
 have hf0:((subS (newS 1 0 2) 0 0).q.g 0).f=true:=put_same _ _ _ _;have SC:Aside (Co u2 L D F2 g2 v2 (subS (newS 1 0 2) 0 0)):=C2.below b2;have SG:Aside (Gc L F1 w1 F2 u2):=G2.trans (Gc.below F2 C2.lw b2);have SX:Aside (Bx u2 F2 X #[pt D.B,pt R,.int .u64 0,.int .i64 0] 37):=(HB.out.gc mq_w18 G2).below b2;have SB:Aside (Bx u2 F2 W (wkA wk0) 40):=BW;have SS:Aside (Sst ky 0 (subS (newS 1 0 2) 0 0) wk0):=(⟨o,rfl,hf0⟩:One (subS (newS 1 0 2) 0 0) 1 2 ky 2/\wk0=wk0/\((subS (newS 1 0 2) 0 0).q.g 0).f=true);have SD:Aside (Owb w1.heap.size u2 F2 (.slice none 0 0) (didL.take 0)):=Owb.nil _ _ _;have SW:Aside (w1.heap.size<=W):=by show _<=W;rw[<-hW];exact G2.size
 have HU2:Aside _:=hu2;have HWW:Aside _:=hW;clear C2 G2 b2 BW hf0 o hu2 hW;go_upto_region 8 with fail
 rw[HU2.out];try simp only[HWW.out]
 go_wp2_with fail
 go_loopg [5,6,7] 5 (fun kx s5 s6 s7 wr=>∃(k:Nat)(vf:Value),s6=.int .i64 k/\vf=s5/\k<=5/\5-k<=kx/\∃(σ:CS)(y0 y1 y2 y3:Int)(y4:Bool)(Fr:Nat->Nat->Prop)(gr vr:Value),Aside (Co wr L D Fr gr vr σ)/\Aside (Gc L F1 w1 Fr wr)/\Aside (Bx wr Fr X #[pt D.B,pt R,.int .u64 0,.int .i64 0] 37)/\Aside (Bx wr Fr W #[.int .i64 y0,.int .u64 y1,.int .i64 y2,.int .i64 y3,.bool y4] 40)/\Aside (Sst ky k σ ⟨y0,y1,y2,y3,y4⟩)/\Aside (Owb w1.heap.size wr Fr vf (didL.take k)))
 case atStart=>exact⟨0,_,rfl,rfl,by omega,by omega,_,0,0,0,0,false,_,_,_,SC,SG,SX,SB,SS,SD⟩
 case round=>
  obtain⟨k,s5,rfl,rfl,hk,hkx,σ,y0,y1,y2,y3,y4,Fr,gr,vr,Cr,Gr,Xr,Br,Sr,Dr⟩:=hrel;by_cases c:k<5
  ·have hlt:(k:Int)<5:=by omega
   obtain⟨a0,a1,a2,a3,a4⟩:=bx5 Br.out.1;obtain⟨ad0,ad1,ad2,ad3,ad4⟩:=bx5 (w:=wr.drew) Br.out.1;have alt:=lt_of_block Br.out.1;have x0:wr.drew.cell? ⟨X,0,none⟩=some (pt D.B):=(Xr.out.cell 0:wr.cell? ⟨X,0,none⟩=some (pt D.B));obtain⟨dd,hdd⟩:∃dd,didL.getD k 0=dd:=⟨_,rfl⟩;have PP:=asd (aw_stepE Cr.out.drew c Sr.out hdd);have HDD:Aside (didL.getD k 0=dd):=hdd;clear hdd
   go_wp2_with fail
   refine wp_region_held_drew (S:=(fun V:World=>V.cell? ⟨X,0,none⟩=some (pt D.B))) (by kernel_rfl) (x0) (fun hHeld=>?_);refine anyH_u (i:=0) (by assumption) rfl (by kernel_rfl) (fun w z=>by go_simp<;>rfl) (fun _ _ _ h=>h) ?_;refine anyH_u (i:=1) (by assumption) rfl (by kernel_rfl) (fun w z=>by go_simp<;>rfl) (fun _ _ _ h=>h) ?_;refine anyH_u (i:=2) (by assumption) rfl (by kernel_rfl) (fun w z=>by go_simp<;>rfl) (fun _ _ _ h=>h) ?_;refine anyH_u (i:=3) (by assumption) rfl (by kernel_rfl) (fun w z=>by go_simp<;>rfl) (fun _ _ _ h=>h) ?_;simp only[Act.put,sA,sB,sC];refine wpAnyH_ready (rs:=[4]) (by kernel_rfl) (by simp) ?_;refine AllReadyH.cons rfl (fun Kt hKt=>?_) AllReadyH.nil;go_simp
   refine hKt.out _ _ (x0) (fun hHeld=>?_);clear hKt Kt;try simp only[Act.put,sA,sB,sC]
   refine wpAnyH_ready (rs:=[5]) (by kernel_rfl) (by simp) ?_;refine AllReadyH.cons (o:={dst:=some 33,op:=Op.call {callee:=Callee.value (Operand.func 8),args:=#[Operand.tmp 31,Operand.tmp 32,Operand.const (Value.int IntKind.i64 0),Operand.const (Value.int IntKind.u64 0)],argTypes:=#[31,40,3,33]},type:=41,pos:= "law.go:24",after:=#[⟨3,.data⟩,⟨4,.data⟩],guard:=none}) rfl (fun Kt hKt=>?_) AllReadyH.nil;go_simp
   (with_reducible refine Calls.mono PP.out ?_)
   rintro e w3 ⟨z0,z1,z2,z3,z4,rfl,σ',st,F3,g3,v3,C3,G3⟩;have G3':Gc L Fr wr F3 w3:=(Gc.below Fr Cr.out.lw (Below.refl _ _).drew).trans G3;have X3:=Xr.out.gc mq_w18 G3';have B3:=Br.out.gc mq_wk G3';have x3:w3.cell? ⟨X,0,none⟩=some (pt D.B):=X3.cell 0;obtain⟨b0,b1,b2,b3,b4⟩:=bx5 B3.1;have blt:=lt_of_block B3.1;have bfz:∀o,w3.frozen? ⟨W,o,none⟩=false:=(fun o=>by simp[World.frozen?,B3.1]);have fw:=set5_fr w3 W (.int .i64 z0) (.int .u64 z1) (.int .i64 z2) (.int .i64 z3) (.bool z4);have hne:X≠W:=fun e=>by {subst e;have:=X3.1.symm.trans B3.1;simp at this}
   have hx5:=(fw.block X (lt_of_block X3.1) hne).trans X3.1;have x5:(set5 w3 W (.int .i64 z0) (.int .u64 z1) (.int .i64 z2) (.int .i64 z3) (.bool z4)).cell? ⟨X,0,none⟩=some (pt D.B):=by {rw[cell_of_row _ _ _ _ _ _ hx5];rfl}
   unfold set5 at x5;have hb5:=set5_at B3.1 (.int .i64 z0) (.int .u64 z1) (.int .i64 z2) (.int .i64 z3) (.bool z4);obtain⟨u5,hu5⟩:∃q,set5 w3 W (.int .i64 z0) (.int .u64 z1) (.int .i64 z2) (.int .i64 z3) (.bool z4)=q:=⟨_,rfl⟩;have G5:Gc L F1 w1 F3 w3:=Gr.out.trans G3';have C5:=C3.frX fw (fun k hk=>by {subst hk;exact⟨B3.2,nq_of B3.1 qt_wk⟩});have G6:=G5.ownX (fun k hk=>by {subst hk;exact SW.out}) B1.out.2.2.2 fw;have D3:=Dr.out.gc G3';have D5:Owb w1.heap.size (set5 w3 W (.int .i64 z0) (.int .u64 z1) (.int .i64 z2) (.int .i64 z3) (.bool z4)) F3 s5 (didL.take k):=⟨D3.1.of_block fun j hj=>fw.block j (D3.1.rowLt hj).2 (fun e=>by {subst e;obtain⟨cs,hc⟩:=D3.1.rowT hj;have:=hc.symm.trans B3.1;simp at this}),D3.2⟩;have BX5:Bx (set5 w3 W (.int .i64 z0) (.int .u64 z1) (.int .i64 z2) (.int .i64 z3) (.bool z4)) F3 X #[pt D.B,pt R,.int .u64 0,.int .i64 0] 37:=⟨hx5,X3.2⟩;have BW5:Bx (set5 w3 W (.int .i64 z0) (.int .u64 z1) (.int .i64 z2) (.int .i64 z3) (.bool z4)) F3 W #[.int .i64 z0,.int .u64 z1,.int .i64 z2,.int .i64 z3,.bool z4] 40:=⟨hb5,B3.2⟩;rw[hu5] at C5 G6 D5 BX5 BW5;have HU5:Aside ((((((w3.setCell ⟨W,0,none⟩ (.int .i64 z0)).setCell ⟨W,1,none⟩ (.int .u64 z1)).setCell ⟨W,2,none⟩ (.int .i64 z2)).setCell ⟨W,3,none⟩ (.int .i64 z3)).setCell ⟨W,4,none⟩ (.bool z4))=u5):=hu5;have HC5:Aside (Co u5 L D F3 g3 v3 σ'):=C5;have HG5:Aside (Gc L F1 w1 F3 u5):=G6;have HD5:Aside (Owb w1.heap.size u5 F3 s5 (didL.take k)):=D5;have HX5:Aside (Bx u5 F3 X #[pt D.B,pt R,.int .u64 0,.int .i64 0] 37):=BX5;have HB5:Aside (Bx u5 F3 W #[.int .i64 z0,.int .u64 z1,.int .i64 z2,.int .i64 z3,.bool z4] 40):=BW5;have HST:Aside (Sst ky (k+1) σ' ⟨z0,z1,z2,z3,z4⟩):=st;clear C5 G6 D5 D3 BX5 BW5 hu5 G5 hb5 hx5 fw hne X3 B3 G3' G3 C3 st
   go_wp2_with fail
   refine hKt.out _ _ (x3) (fun hHeld=>?_);clear hKt Kt;try simp only[Act.put,sA,sB,sC]
   refine anyH_u (i:=6) (by assumption) rfl (by kernel_rfl) (fun w z=>by go_simp<;>rfl) (fun _ _ _ h=>h) ?_;refine anyH_u (i:=7) (by assumption) rfl (by kernel_rfl) (fun w z=>by go_simp<;>rfl) (fun _ _ _ h=>h) ?_;refine anyH_u (i:=8) (by assumption) rfl (by kernel_rfl) (fun w z=>by go_simp<;>rfl) (fun _ _ _ h=>h) ?_;simp only[Act.put,sA,sB,sC];refine wpAnyH_ready (rs:=[9]) (by kernel_rfl) (by simp) ?_;refine AllReadyH.cons rfl (fun Kt hKt=>?_) AllReadyH.nil;go_simp
   refine hKt.out _ _ (x5) (fun hHeld=>?_);clear hKt Kt;try simp only[Act.put,sA,sB,sC]
   refine anyH_u (i:=10) (by assumption) rfl (by kernel_rfl) (fun w z=>by go_simp<;>rfl) (fun _ _ _ h=>h) ?_;simp only[Act.put,sA,sB,sC];refine wpAnyH_done (by kernel_rfl) ?_ _;clear x0 x3 x5 a0 a1 a2 a3 a4 ad0 ad1 ad2 ad3 ad4 alt b0 b1 b2 b3 b4 blt bfz;rw[HU5.out];have hlen:(didL.take k).length<1000000:=by rw[List.length_take];have:didL.length=5:=rfl;omega
   obtain⟨v6,w6,hr6,o6,C6,G6,f6,n6⟩:=HD5.out.push HC5.out HG5.out (le_refl _) HG5.out.size B1.out.2.2.2 dd hlen
   have BX6:Bx w6 F3 X #[pt D.B,pt R,.int .u64 0,.int .i64 0] 37:=⟨(f6.block X (lt_of_block HX5.out.1) (fun e=>by
    obtain⟨cs,hc⟩:=HD5.out.1.rowT e;have:=hc.symm.trans HX5.out.1;simp at this)).trans HX5.out.1,HX5.out.2⟩
   have BW6:Bx w6 F3 W #[.int .i64 z0,.int .u64 z1,.int .i64 z2,.int .i64 z3,.bool z4] 40:=⟨(f6.block W (lt_of_block HB5.out.1) (fun e=>by
    obtain⟨cs,hc⟩:=HD5.out.1.rowT e;have:=hc.symm.trans HB5.out.1;simp at this)).trans HB5.out.1,HB5.out.2⟩
   have NX:Aside (Co w6 L D F3 g3 v3 σ'/\Gc L F1 w1 F3 w6/\Bx w6 F3 X #[pt D.B,pt R,.int .u64 0,.int .i64 0] 37/\Bx w6 F3 W #[.int .i64 z0,.int .u64 z1,.int .i64 z2,.int .i64 z3,.bool z4] 40/\Owb w1.heap.size w6 F3 v6 (didL.take (k+1))):=⟨C6,G6,BX6,BW6,by rw[did_up c,HDD.out];exact o6⟩;clear hlen o6 C6 G6 f6 n6 BX6 BW6
   go_wp2_with (at_builtin;refine Da.wpList_app _ rfl _ _ 49 rfl _ _ rfl rfl v6 w6 hr6 ?_;clear hr6)
   go_roundg (5-(k+1))
   case measure=>omega
   case rel=>exact⟨k+1,_,by go_num,rfl,by omega,le_refl _,σ',z0,z1,z2,z3,z4,F3,g3,v3,NX.out.1,NX.out.2.1,NX.out.2.2.1,NX.out.2.2.2.1,HST,NX.out.2.2.2.2⟩
  ·obtain rfl:k=5:=by omega
   have Dx:Owb w1.heap.size wr Fr s5 didL:=Dr.out;obtain⟨a5,cap5,e5,I5⟩:=Dx.1.isI;have e5':s5=.slice a5 5 cap5:=e5;subst e5';have so:One σ 1 4 ky 8/\(⟨y0,y1,y2,y3,y4⟩:WR)=wk0:=Sr.out;obtain⟨o5,ex⟩:=so;unfold wk0 at ex;injection ex with q0 q1 q2 q3 q4
   subst q0 q1 q2 q3 q4;obtain⟨N,hN⟩:∃N,wr.heap.size=N:=⟨_,rfl⟩;obtain⟨u6,hu6⟩:∃q,wr.alloc (.cells #[.int .i64 1,.int .i64 2,.int .i64 3,.int .i64 6,.int .i64 0] 3)=q:=⟨_,rfl⟩;have b6:Below wr.heap.size wr u6:=by rw[<-hu6];exact belA _ _
   have lit:Da.OwnI u6 0 (.slice (some ⟨N,0,none⟩) 5 5) didL:=by rw[<-hu6,<-hN];exact Da.OwnI.lit wr didL (Nat.zero_le _) (by decide)
   have P:Calls prog 13 #[.slice a5 5 cap5,.slice (some ⟨N,0,none⟩) 5 5] u6 fun e w'=>e=.returned (.bool true)/\Below u6.heap.size u6 w':=by
    have q:=Da.same_any (I5.below b6) lit.isIv;rw[show(didL==didL)=true by decide] at q;exact q
   have C6:Aside (Co u6 L D Fr gr vr σ):=Cr.out.below b6;have X6:Aside (Bx u6 Fr X #[pt D.B,pt R,.int .u64 0,.int .i64 0] 37):=Xr.out.below b6;have W6:Aside (Bx u6 Fr W (wkA wk0) 40):=Br.out.below b6;have FIN:Aside (Below w.heap.size w u6):=B1.out.1.trans (((Gr.out.trans (Gc.below Fr Cr.out.lw b6)).low).mono B1.out.2.1);have HU6:Aside _:=hu6;have HN:Aside _:=hN;clear hu6 hN b6 lit I5 e5 Dx;have hlt:¬((5:Nat):Int)<5:=by omega
   go_wp2_with fail
   rw[HU6.out];try simp only[HN.out]
   refine P.mono ?_;rintro e w7 ⟨rfl,b7⟩;have C7:=C6.out.below b7;have X7:=X6.out.below b7;have W7:Aside (Bx w7 Fr W (wkA wk0) 40):=W6.out.below b7;have FIN7:Aside (Below w.heap.size w w7):=belT FIN.out b7;have x0:w7.cell? ⟨X,0,none⟩=some (pt D.B):=X7.cell 0;have xlt:=lt_of_block X7.1;obtain⟨xx,hT,hs,_⟩:=o5.at'
   have P:Calls prog 9 #[pt D.B,.int .i64 1] w7 fun e w'=>e=.returned (.int .i64 4)/\Cox L D Fr w7 σ w':=by
    have q:=statusC C7 (i:=0) (x:=xx) (by rw[hT];rfl);rw[hs] at q;exact q
   clear C7 X7 b7
   go_wp2_with fail
   refine P.mono ?_;rintro e w8 ⟨rfl,F8,g8,v8,C8,G8⟩;have W8:=W7.out.gc mq_wk G8;obtain⟨c0,c1,c2,c3,c4⟩:=bx5 W8.1;have clt:=lt_of_block W8.1;have FIN8:Aside (Below w.heap.size w w8):=FIN7.out.trans (G8.low.mono B1.out.2.1);have P:Calls prog 11 #[.agg #[.int .i64 0,.int .u64 0,.int .i64 0,.int .i64 0,.bool false]] w8 fun e w'=>e=.returned (.bool true)/\Below w8.heap.size w8 w':=idleC wk0 w8;clear x0 xlt C8 G8 W8
   go_wp2_with fail
   refine P.mono ?_;rintro e w9 ⟨rfl,b9⟩;have FIN9:Aside (Below w.heap.size w w9):=belT FIN8.out b9;clear b9
   go_wp2_with fail
   go_ret;exact⟨rfl,FIN9.out⟩
end
theorem subSO_al(k:Nat)(oa:Option Addr)(on oc:Nat):J3 (oa,on,oc) 0 wk0 (subSO (newS 1 k 40) 0 0 oa on oc):=by
 refine .inl ⟨rfl,rfl,(Al.new 1 k 40).sub (by omega) 0 oa on oc,⟨{Ta.mkO 0 0 0 0 0 0 2 oa on oc with key:=keyS (newS 1 k 40) (Ta.mkO 0 0 0 0 0 0 2 oa on oc)},?_,rfl,rfl,rfl,rfl⟩,put_same _ _ _ _⟩;rw[subSO_T]
 rfl
theorem any_up{os:List Ta.OpR}{k:Nat}{o:Ta.OpR}(h:os[k]?=some o):(os.take (k+1)).any pan=((os.take k).any pan||pan o):=by
 rw[List.take_add_one,h,List.any_append];simp
theorem workBodies_walk(oa0:Option Addr)(len0 cap0:Nat)(os:List Ta.OpR)(w:World)(h0:os.length=len0/\Ta.IsG Ta.rO w oa0 cap0 os)(hN:Ta.ShW w) :
  Calls prog 3 #[.slice oa0 len0 cap0] w fun e w'=>e=.returned (.bool true)/\Below w.heap.size w w':=by
 obtain⟨rfl,hI⟩:=h0;have PB:=Ta.bodyOk_any oa0 cap0 os w hI;obtain⟨Lo,hLo⟩:∃z,os.length=z:=⟨_,rfl⟩;rw[hLo] at PB⊢;obtain⟨bk,hbk⟩:∃z,Ta.okL os=z:=⟨_,rfl⟩;rw[hbk] at PB;have H0:Aside (Ta.IsG Ta.rO w oa0 cap0 os/\Ta.ShW w/\os.length=Lo):=⟨hI,hN,hLo⟩;have HK:Aside (Ta.okL os=bk):=hbk;clear hI hN hLo hbk;go_enter func3,ntmps3
 go_wp2_with fail
 refine PB.mono ?_;rintro e w9 ⟨rfl,b9⟩;have B9:Aside (Below w.heap.size w w9):=b9;clear PB b9
 cases bk with
 | false=>
  go_wp2_with fail
  refine(awake19C _).mono ?_;rintro e w8 ⟨rfl,b8⟩;have FIN:Aside (Below w.heap.size w w8):=belT B9.out b8;clear b8
  go_wp2_with fail
  go_ret;exact⟨rfl,FIN.out⟩
 | true=>
  have P:=newW 1 0 40 w9 (by omega) (by omega) (by omega) (by omega) (by omega)
  go_wp2_with fail
  refine P.mono ?_;rintro e w1 ⟨X,rfl,L,D,F1,R,hL,C1,BX,hX,b1⟩;have hsz:=B9.out.size;have BB:Aside (Below w.heap.size w w1/\w.heap.size<=L/\L<=w1.heap.size):=⟨B9.out.trans (b1.mono hsz),by omega,C1.lw⟩;have hok:Ta.okL os=true:=HK.out
  have hlen:os.length<=16:=by
   unfold Ta.okL at hok;rw[Bool.and_eq_true,decide_eq_true_eq] at hok;exact hok.1
  have HLN:Aside (os.length<=16):=hlen;have I1:Ta.IsG Ta.rO w1 oa0 cap0 os:=H0.out.1.below BB.out.1
  have OS:OpS L w1 F1 oa0 cap0 os:=by
   refine⟨I1,fun hd k o q e=>.inl ?_⟩
   have:k<w.heap.size:=by
    cases hq:os with
    | nil=>exact absurd hq hd
    | cons x r=>
     obtain⟨b,off,e',hb,_⟩:=H0.out.1.elem 0 (.int .i64 x.1) (by rw[hq];rfl);rw[e] at e';injection e' with e'
     injection e' with e1
     omega
   have:=BB.out.2.1;omega
  have HG:=H0.out.2.1.big;have PS:=subO C1 (t:=0) (show 0<1 by omega) rfl (show 0<200 by omega) (show 0<40 by omega) (show 0+1<1000000 by omega) (show 0<=1000 by omega) (show 0<1000000 by omega) 0 (by omega) (by omega) H0.out.2.2 OS (H0.out.2.1.below BB.out.1) (by have:=BB.out.2.1;omega) hok;have x0:w1.cell? ⟨X,0,none⟩=some (pt D.B):=BX.cell 0;have xlt:=lt_of_block BX.1;have HB:Aside (Bx w1 F1 X #[pt D.B,pt R,.int .u64 0,.int .i64 0] 37):=BX;have PS:Calls prog 7 #[pt D.B,.int .i64 0,.int .i64 0,.slice oa0 Lo cap0,.slice none 0 0] w1 fun e w'=>e=.returned (.tuple #[.int .i64 1,.int .i64 0])/\∃oa oc F' g' v',Co w' L D F' g' v' (subSO (newS 1 0 40) 0 0 oa Lo oc)/\Gc L F1 w1 F' w'/\OwO w' F' (.slice oa Lo oc) os:=PS;have HC1:Aside (L<=w1.heap.size):=C1.lw;clear P b1 hL hX C1 BX I1 OS HG hok hlen hsz
  go_wp2_with fail
  refine PS.mono ?_;rintro e w2 ⟨rfl,oa,oc,F2,g2,v2,C2,G2,O2⟩;clear PS x0 xlt;have W2:=WJ.made C2 G2 (HB.out.gc mq_w18 G2) O2 HC1.out;obtain⟨A,hA⟩:∃J,w2.heap.size=J:=⟨_,rfl⟩;obtain⟨u2,hu2⟩:∃q,w2.alloc (.cells #[.int .i64 0,.int .u64 0,.int .i64 0,.int .i64 0,.bool false] 40)=q:=⟨_,rfl⟩;rw[hA,hu2] at W2;have J0:=subSO_al 0 oa Lo oc;have W2:Aside (WJ L D F1 w1 X R A (.slice oa Lo oc) os u2 F2 g2 v2 (subSO (newS 1 0 40) 0 0 oa Lo oc) wk0/\J3 (oa,Lo,oc) 0 wk0 (subSO (newS 1 0 40) 0 0 oa Lo oc)):=⟨W2,J0⟩;have HA:Aside _:=hA;have HU2:Aside _:=hu2;clear C2 G2 O2 hA hu2 J0;go_upto_region 10 with fail
  rw[HU2.out,HA.out]
  go_wp2_with fail
  go_loopg [8] 3 (fun kx s8 wr=>∃(i:Nat),s8=.int .i64 i/\i<=3/\3-i<=kx/\Aside (∃F g v σ y,WJ L D F1 w1 X R A (.slice oa Lo oc) os wr F g v σ y/\J3 (oa,Lo,oc) i y σ))
  case atStart=>exact⟨0,rfl,by omega,by omega,asd ⟨F2,g2,v2,_,wk0,W2.out.1,W2.out.2⟩⟩
  case round=>
   clear W2;obtain⟨i,rfl,hi,hkx,ST⟩:=hrel;by_cases hlt:i<3
   ·have hz:(i:Int)<3:=by omega
    obtain⟨F,g,v,σ,⟨y0,y1,y2,y3,y4⟩,WR1,J⟩:=ST.out;have WR1:Aside (WJ L D F1 w1 X R A (.slice oa Lo oc) os wr F g v σ ⟨y0,y1,y2,y3,y4⟩):=WR1;have JJ:Aside _:=J;clear J ST;go_upto_region 14 with fail
    have x0:wr.drew.cell? ⟨X,0,none⟩=some (pt D.B):=(WR1.out.k.cell 0:wr.cell? ⟨X,0,none⟩=some (pt D.B));have Ba:wr.heap[A]?=some (.cells #[.int .i64 y0,.int .u64 y1,.int .i64 y2,.int .i64 y3,.bool y4] 40 (0,0)):=WR1.out.a.1;obtain⟨a0,a1,a2,a3,a4⟩:=bx5 Ba;obtain⟨ad0,ad1,ad2,ad3,ad4⟩:=bx5 (w:=wr.drew) Ba;have alt:=lt_of_block Ba;clear Ba;obtain⟨⟨z0,z1,z2,z3,z4⟩,d,σ7,JN,PP⟩:=step3 (WR1.out.c.below (Below.refl _ _).drew) JJ.out hlt;have JN:Aside _:=JN;have PP:Aside (Calls prog 8 #[pt D.B,.agg #[.int .i64 y0,.int .u64 y1,.int .i64 y2,.int .i64 y3,.bool y4],.int .i64 0,.int .u64 0] wr.drew fun e w'=>e=.returned (.tuple #[.agg #[.int .i64 z0,.int .u64 z1,.int .i64 z2,.int .i64 z3,.bool z4],.int .i64 d])/\Cox L D F wr.drew σ7 w'):=asd PP;refine wp_region_held_drew (S:=(fun V:World=>V.cell? ⟨X,0,none⟩=some (pt D.B))) (by kernel_rfl) (x0) (fun hHeld=>?_);refine anyH_u (i:=0) (by assumption) rfl (by kernel_rfl) (fun w z=>by go_simp<;>rfl) (fun _ _ _ h=>h) ?_;refine anyH_u (i:=1) (by assumption) rfl (by kernel_rfl) (fun w z=>by go_simp<;>rfl) (fun _ _ _ h=>h) ?_;refine anyH_u (i:=2) (by assumption) rfl (by kernel_rfl) (fun w z=>by go_simp<;>rfl) (fun _ _ _ h=>h) ?_;refine anyH_u (i:=3) (by assumption) rfl (by kernel_rfl) (fun w z=>by go_simp<;>rfl) (fun _ _ _ h=>h) ?_;simp only[Act.put,sA,sB,sC];refine wpAnyH_ready (rs:=[4]) (by kernel_rfl) (by simp) ?_;refine AllReadyH.cons rfl (fun Kt hKt=>?_) AllReadyH.nil;go_simp
    refine hKt.out _ _ (x0) (fun hHeld=>?_);clear hKt Kt;try simp only[Act.put,sA,sB,sC]
    refine wpAnyH_ready (rs:=[5]) (by kernel_rfl) (by simp) ?_;refine AllReadyH.cons (o:={dst:=some 48,op:=Op.call {callee:=Callee.value (Operand.func 8),args:=#[Operand.tmp 46,Operand.tmp 47,Operand.const (Value.int IntKind.i64 0),Operand.const (Value.int IntKind.u64 0)],argTypes:=#[31,40,3,33]},type:=41,pos:= "law.go:96",after:=#[⟨3,.data⟩,⟨4,.data⟩],guard:=none}) rfl (fun Kt hKt=>?_) AllReadyH.nil;go_simp
    (with_reducible refine Calls.mono PP.out ?_)
    rintro e w7 ⟨rfl,F7,g7,v7,C7,G7⟩;have Wn:WJ L D F1 w1 X R A (.slice oa Lo oc) os w7 F7 g7 v7 σ7 ⟨y0,y1,y2,y3,y4⟩:=(WR1.out.below (Below.refl _ _).drew).go C7 G7;have x3:w7.cell? ⟨X,0,none⟩=some (pt D.B):=Wn.k.cell 0;have Ba:w7.heap[A]?=some (.cells #[.int .i64 y0,.int .u64 y1,.int .i64 y2,.int .i64 y3,.bool y4] 40 (0,0)):=Wn.a.1;obtain⟨b0,b1,b2,b3,b4⟩:=bx5 Ba;have blt:=lt_of_block Wn.a.1;have bfz:∀o,w7.frozen? ⟨A,o,none⟩=false:=(fun o=>by simp[World.frozen?,Wn.a.1]);have Wm:=Wn.set ⟨z0,z1,z2,z3,z4⟩;have x5:(set5w w7 A ⟨z0,z1,z2,z3,z4⟩).cell? ⟨X,0,none⟩=some (pt D.B):=Wm.k.cell 0;unfold set5w set5 at x5;dsimp only at x5;obtain⟨u8,hu⟩:∃q,set5w w7 A ⟨z0,z1,z2,z3,z4⟩=q:=⟨_,rfl⟩;rw[hu] at Wm;have HU8:Aside ((((((w7.setCell ⟨A,0,none⟩ (.int .i64 z0)).setCell ⟨A,1,none⟩ (.int .u64 z1)).setCell ⟨A,2,none⟩ (.int .i64 z2)).setCell ⟨A,3,none⟩ (.int .i64 z3)).setCell ⟨A,4,none⟩ (.bool z4))=u8):=hu;have W8:Aside (WJ L D F1 w1 X R A (.slice oa Lo oc) os u8 F7 g7 v7 σ7 ⟨z0,z1,z2,z3,z4⟩):=Wm;clear Wn Wm hu C7 G7 Ba
    go_wp2_with fail
    refine hKt.out _ _ (x3) (fun hHeld=>?_);clear hKt Kt;try simp only[Act.put,sA,sB,sC]
    refine anyH_u (i:=6) (by assumption) rfl (by kernel_rfl) (fun w z=>by go_simp<;>rfl) (fun _ _ _ h=>h) ?_;refine anyH_u (i:=7) (by assumption) rfl (by kernel_rfl) (fun w z=>by go_simp<;>rfl) (fun _ _ _ h=>h) ?_;refine anyH_u (i:=8) (by assumption) rfl (by kernel_rfl) (fun w z=>by go_simp<;>rfl) (fun _ _ _ h=>h) ?_;simp only[Act.put,sA,sB,sC];refine wpAnyH_ready (rs:=[9]) (by kernel_rfl) (by simp) ?_;refine AllReadyH.cons rfl (fun Kt hKt=>?_) AllReadyH.nil;go_simp
    refine hKt.out _ _ (x5) (fun hHeld=>?_);clear hKt Kt;try simp only[Act.put,sA,sB,sC]
    refine wpAnyH_done (by kernel_rfl) ?_ _;clear x0 x3 x5 a0 a1 a2 a3 a4 ad0 ad1 ad2 ad3 ad4 alt b0 b1 b2 b3 b4 blt bfz;rw[HU8.out];have NX:Aside (∃F g v σ y,WJ L D F1 w1 X R A (.slice oa Lo oc) os u8 F g v σ y/\J3 (oa,Lo,oc) (i+1) y σ):=asd ⟨F7,g7,v7,σ7,_,W8.out,JN.out⟩;clear WR1 JJ W8
    go_wp2_with fail
    go_roundg (3-(i+1))
    case measure=>omega
    case rel=>exact⟨i+1,by go_num,by omega,le_refl _,NX⟩
   ·have hz:¬(i:Int)<3:=by omega
    have e3:i=3:=by omega
    subst e3;obtain⟨F,g,v,σ,⟨y0,y1,y2,y3,y4⟩,WR1,J⟩:=ST.out;have J:=Run.start (os:=os) J
    have st0:∃x,σ.T[0]?=some x/\x.s=3/\y0=2:=by
     obtain⟨bad,x0,ky,e,hW,h3,_⟩:=J;injection e with e1
     exact⟨x0,hW.t0,h3,e1⟩
    obtain⟨x9,hx9,hs9,hy9⟩:=st0;subst hy9;have PT:=stW WR1.c hx9 hs9;have WR1:Aside (WJ L D F1 w1 X R A (.slice oa Lo oc) os wr F g v σ ⟨2,y1,y2,y3,y4⟩):=WR1;have JJ:Aside _:=J;have x0:wr.cell? ⟨X,0,none⟩=some (pt D.B):=WR1.out.k.cell 0;have xlt:=lt_of_block WR1.out.k.1;clear J ST hx9 hs9
    go_wp2_with fail
    refine PT.out.mono ?_;rintro e w3 ⟨rfl,F3,g3,v3,C3,G3⟩;have W3:=WR1.out.go C3 G3;have Ba:w3.heap[A]?=some (.cells #[.int .i64 2,.int .u64 y1,.int .i64 y2,.int .i64 y3,.bool y4] 40 (0,0)):=W3.a.1;obtain⟨a0,a1,a2,a3,a4⟩:=bx5 Ba;have alt:=lt_of_block Ba;have W3:Aside (WJ L D F1 w1 X R A (.slice oa Lo oc) os w3 F3 g3 v3 σ ⟨2,y1,y2,y3,y4⟩):=W3;clear WR1 PT x0 xlt C3 G3 Ba
    go_wp2_with fail
    clear a0 a1 a2 a3 a4 alt;have S2:Aside (∃F g v σ y,WJ L D F1 w1 X R A (.slice oa Lo oc) os w3 F g v σ y/\(Run os (oa,Lo,oc) 0 y σ/\((0:Nat):Int)=((0:Nat):Int)\/Fin2 os y σ 0)):=asd ⟨F3,g3,v3,σ,_,W3.out,.inl ⟨JJ.out,rfl⟩⟩;clear W3 JJ
    go_loopg [7,9] 20 (fun kx s7 s9 wr=>∃(i c:Nat),s7=.int .i64 c/\s9=.int .i64 i/\i<=18/\20-i<=kx/\Aside (∃F g v σ y,WJ L D F1 w1 X R A (.slice oa Lo oc) os wr F g v σ y/\(Run os (oa,Lo,oc) i y σ/\(c:Int)=(i:Int)\/Fin2 os y σ c)))
    case atStart=>exact⟨0,0,rfl,rfl,by omega,by omega,S2⟩
    case round=>
     clear S2;obtain⟨i,c,rfl,rfl,hi,hkx,ST⟩:=hrel;have hz:(i:Int)<20:=by omega
     obtain⟨F,g,v,σ,⟨y0,y1,y2,y3,y4⟩,WR1,J⟩:=ST.out;have x0:wr.cell? ⟨X,0,none⟩=some (pt D.B):=WR1.k.cell 0;have xlt:=lt_of_block WR1.k.1;rcases J with⟨J,hc⟩|J
     ·have st0:∃x,σ.T[0]?=some x/\x.s=3/\i<=os.length:=by
       obtain⟨bad,x0,ky,e,hW,h3,_,_,hil,_⟩:=J;exact⟨x0,hW.t0,h3,hil⟩
      obtain⟨x9,hx9,hs9,hil⟩:=st0;have PT:=stW WR1.c hx9 hs9;have WR0:Aside (WJ L D F1 w1 X R A (.slice oa Lo oc) os wr F g v σ ⟨y0,y1,y2,y3,y4⟩):=WR1;have JJ:Aside (Run os (oa,Lo,oc) i ⟨y0,y1,y2,y3,y4⟩ σ):=J;have IL:Aside (i<=os.length):=hil;have HCI:Aside ((c:Int)=(i:Int)):=hc;have HS:Aside (Co wr L D F g v σ):=WR1.c;clear J ST hx9 hs9 hil WR1 hc
      go_wp2_with fail
      refine PT.out.mono ?_;rintro e w3 ⟨rfl,F3,g3,v3,C3,G3⟩;have WR1:Aside (WJ L D F1 w1 X R A (.slice oa Lo oc) os w3 F3 g3 v3 σ ⟨y0,y1,y2,y3,y4⟩):=WR0.out.go C3 G3;clear x0 xlt PT WR0 C3 G3 HS;go_upto_region 21 with fail
      generalize w3=wq at WR1⊢;have x0:wq.drew.cell? ⟨X,0,none⟩=some (pt D.B):=(WR1.out.k.cell 0:wq.cell? ⟨X,0,none⟩=some (pt D.B));have Ba:wq.heap[A]?=some (.cells #[.int .i64 y0,.int .u64 y1,.int .i64 y2,.int .i64 y3,.bool y4] 40 (0,0)):=WR1.out.a.1;obtain⟨a0,a1,a2,a3,a4⟩:=bx5 Ba;obtain⟨ad0,ad1,ad2,ad3,ad4⟩:=bx5 (w:=wq.drew) Ba;have alt:=lt_of_block Ba;clear Ba;obtain⟨⟨z0,z1,z2,z3,z4⟩,d,σ7,JN,PP⟩:=stepR (WR1.out.c.below (Below.refl _ _).drew) JJ.out (WR1.out.o.below (Below.refl _ _).drew) HK.out;have JN:Aside _:=JN;have PP:Aside (Calls prog 8 #[pt D.B,.agg #[.int .i64 y0,.int .u64 y1,.int .i64 y2,.int .i64 y3,.bool y4],.int .i64 0,.int .u64 0] wq.drew fun e w'=>e=.returned (.tuple #[.agg #[.int .i64 z0,.int .u64 z1,.int .i64 z2,.int .i64 z3,.bool z4],.int .i64 d])/\Cox L D F3 wq.drew σ7 w'):=asd PP;refine wp_region_held_drew (S:=(fun V:World=>V.cell? ⟨X,0,none⟩=some (pt D.B))) (by kernel_rfl) (x0) (fun hHeld=>?_);refine anyH_u (i:=0) (by assumption) rfl (by kernel_rfl) (fun w z=>by go_simp<;>rfl) (fun _ _ _ h=>h) ?_;refine anyH_u (i:=1) (by assumption) rfl (by kernel_rfl) (fun w z=>by go_simp<;>rfl) (fun _ _ _ h=>h) ?_;refine anyH_u (i:=2) (by assumption) rfl (by kernel_rfl) (fun w z=>by go_simp<;>rfl) (fun _ _ _ h=>h) ?_;refine anyH_u (i:=3) (by assumption) rfl (by kernel_rfl) (fun w z=>by go_simp<;>rfl) (fun _ _ _ h=>h) ?_;simp only[Act.put,sA,sB,sC];refine wpAnyH_ready (rs:=[4]) (by kernel_rfl) (by simp) ?_;refine AllReadyH.cons rfl (fun Kt hKt=>?_) AllReadyH.nil;go_simp
      refine hKt.out _ _ (x0) (fun hHeld=>?_);clear hKt Kt;try simp only[Act.put,sA,sB,sC]
      refine wpAnyH_ready (rs:=[5]) (by kernel_rfl) (by simp) ?_;refine AllReadyH.cons (o:={dst:=some 80,op:=Op.call {callee:=Callee.value (Operand.func 8),args:=#[Operand.tmp 78,Operand.tmp 79,Operand.const (Value.int IntKind.i64 0),Operand.const (Value.int IntKind.u64 0)],argTypes:=#[31,40,3,33]},type:=41,pos:= "law.go:103",after:=#[⟨3,.data⟩,⟨4,.data⟩],guard:=none}) rfl (fun Kt hKt=>?_) AllReadyH.nil;go_simp
      (with_reducible refine Calls.mono PP.out ?_)
      rintro e w7 ⟨rfl,F7,g7,v7,C7,G7⟩;have Wn:WJ L D F1 w1 X R A (.slice oa Lo oc) os w7 F7 g7 v7 σ7 ⟨y0,y1,y2,y3,y4⟩:=(WR1.out.below (Below.refl _ _).drew).go C7 G7;have x3:w7.cell? ⟨X,0,none⟩=some (pt D.B):=Wn.k.cell 0;have Ba:w7.heap[A]?=some (.cells #[.int .i64 y0,.int .u64 y1,.int .i64 y2,.int .i64 y3,.bool y4] 40 (0,0)):=Wn.a.1;obtain⟨b0,b1,b2,b3,b4⟩:=bx5 Ba;have blt:=lt_of_block Wn.a.1;have bfz:∀o,w7.frozen? ⟨A,o,none⟩=false:=(fun o=>by simp[World.frozen?,Wn.a.1]);have Wm:=Wn.set ⟨z0,z1,z2,z3,z4⟩;have x5:(set5w w7 A ⟨z0,z1,z2,z3,z4⟩).cell? ⟨X,0,none⟩=some (pt D.B):=Wm.k.cell 0;unfold set5w set5 at x5;dsimp only at x5;obtain⟨u8,hu⟩:∃q,set5w w7 A ⟨z0,z1,z2,z3,z4⟩=q:=⟨_,rfl⟩;rw[hu] at Wm;have HU8:Aside ((((((w7.setCell ⟨A,0,none⟩ (.int .i64 z0)).setCell ⟨A,1,none⟩ (.int .u64 z1)).setCell ⟨A,2,none⟩ (.int .i64 z2)).setCell ⟨A,3,none⟩ (.int .i64 z3)).setCell ⟨A,4,none⟩ (.bool z4))=u8):=hu;have W8:Aside (WJ L D F1 w1 X R A (.slice oa Lo oc) os u8 F7 g7 v7 σ7 ⟨z0,z1,z2,z3,z4⟩):=Wm;clear Wn Wm hu C7 G7 Ba
      go_wp2_with fail
      refine hKt.out _ _ (x3) (fun hHeld=>?_);clear hKt Kt;try simp only[Act.put,sA,sB,sC]
      refine anyH_u (i:=6) (by assumption) rfl (by kernel_rfl) (fun w z=>by go_simp<;>rfl) (fun _ _ _ h=>h) ?_;refine anyH_u (i:=7) (by assumption) rfl (by kernel_rfl) (fun w z=>by go_simp<;>rfl) (fun _ _ _ h=>h) ?_;refine anyH_u (i:=8) (by assumption) rfl (by kernel_rfl) (fun w z=>by go_simp<;>rfl) (fun _ _ _ h=>h) ?_;simp only[Act.put,sA,sB,sC];refine wpAnyH_ready (rs:=[9]) (by kernel_rfl) (by simp) ?_;refine AllReadyH.cons rfl (fun Kt hKt=>?_) AllReadyH.nil;go_simp
      refine hKt.out _ _ (x5) (fun hHeld=>?_);clear hKt Kt;try simp only[Act.put,sA,sB,sC]
      refine anyH_u (i:=10) (by assumption) rfl (by kernel_rfl) (fun w z=>by go_simp<;>rfl) (fun _ _ _ h=>h) ?_;simp only[Act.put,sA,sB,sC];refine wpAnyH_done (by kernel_rfl) ?_ _;clear x0 x3 x5 a0 a1 a2 a3 a4 ad0 ad1 ad2 ad3 ad4 alt b0 b1 b2 b3 b4 blt bfz;rw[HU8.out];rcases JN.out with⟨hd,JR⟩|⟨hd,JF⟩
      ·subst hd;have hc5:(c:Int)<=18:=by have:=HCI.out;omega
       have IL2:i+1<=18:=by have:=IL.out;have:=HLN.out;omega
       have NX:Aside (∃F g v σ y,WJ L D F1 w1 X R A (.slice oa Lo oc) os u8 F g v σ y/\(Run os (oa,Lo,oc) (i+1) y σ/\((c+1:Nat):Int)=((i+1:Nat):Int)\/Fin2 os y σ (c+1))):=asd ⟨F7,g7,v7,σ7,_,W8.out,.inl ⟨JR,by have:=HCI.out;omega⟩⟩;clear JR JN W8 WR1 JJ
       go_wp2_with fail
       go_roundg (20-(i+1))
       case measure=>omega
       case rel=>exact⟨i+1,c+1,by go_num,by go_num,IL2,le_refl _,NX⟩
      ·subst hd;have IL2:i+1<=18:=by have:=IL.out;have:=HLN.out;omega
       have ci:c=i:=by have:=HCI.out;omega
       have NX:Aside (∃F g v σ y,WJ L D F1 w1 X R A (.slice oa Lo oc) os u8 F g v σ y/\(Run os (oa,Lo,oc) (i+1) y σ/\(c:Int)=((i+1:Nat):Int)\/Fin2 os y σ c)):=asd ⟨F7,g7,v7,σ7,_,W8.out,.inr (by rw[ci];exact JF)⟩;clear JF JN W8 WR1 JJ ci
       go_wp2_with fail
       go_roundg (20-(i+1))
       case measure=>omega
       case rel=>exact⟨i+1,c,rfl,by go_num,IL2,le_refl _,NX⟩
     ·obtain⟨hy,hcs,z9,hz9,hs9⟩:=J;injection hy with e0 e1 e2 e3 e4
      subst e0 e1 e2 e3 e4;obtain⟨S9,hS9⟩:∃s,z9.s=s:=⟨_,rfl⟩;have PT:=stW WR1.c hz9 hS9;rw[hS9] at hs9;have hne:¬S9=3:=by rw[hs9];split<;>omega
      have hne':(S9==3)=false:=by simp[hne]
      have SW:Aside (S9=if os.any pan then 5 else 4):=hs9;have CS0:Aside (c=Ta.stp os):=hcs;have Z9:Aside (σ.T[0]?=some z9/\z9.s=S9):=⟨hz9,hS9⟩;have WR1:Aside (WJ L D F1 w1 X R A (.slice oa Lo oc) os wr F g v σ ⟨0,0,0,0,false⟩):=WR1;clear ST hz9 hs9 hcs hS9
      go_wp2_with fail
      refine PT.out.mono ?_;rintro e w3 ⟨rfl,F3,g3,v3,C3,G3⟩;have W3:Aside (WJ L D F1 w1 X R A (.slice oa Lo oc) os w3 F3 g3 v3 σ ⟨0,0,0,0,false⟩):=WR1.out.go C3 G3;clear x0 xlt PT WR1 C3 G3;have BW:Aside (Below w.heap.size w w3):=BB.out.1.trans (W3.out.gc.low.mono BB.out.2.1);have I3:Aside (Ta.IsG Ta.rO w3 oa0 cap0 os):=H0.out.1.below BW.out;have HLo:Aside (os.length=Lo):=H0.out.2.2;have hL16:Lo<=16:=by have:=HLN.out;have:=H0.out.2.2;omega
      go_wp2_with fail
      go_loopg [11,12] Lo (fun kx s11 s12 wx=>∃k:Nat,s12=.int .i64 k/\k<=Lo/\Lo-k<=kx/\s11=.bool ((os.take k).any pan)/\w3=wx)
      case atStart=>exact⟨0,rfl,by omega,by omega,rfl,rfl⟩
      case round=>
       obtain⟨k,rfl,hk,hkx,rfl,rfl⟩:=hrel;by_cases hlt:k<Lo
       ·have hzk:(k:Int)<(Lo:Int):=by omega
        obtain⟨⟨o0,o1,o2⟩,ho⟩:∃o,os[k]?=some o:=⟨_,List.getElem?_eq_getElem (by rw[HLo.out];exact hlt)⟩;obtain⟨gb,off,rfl,glt,gc0,gc1,gc2⟩:=Ta.opAt I3.out ho;have AU:=any_up ho;have AU:Aside _:=AU;obtain⟨bq,hbq⟩:∃b,(os.take k).any pan=b:=⟨_,rfl⟩;have HBQ:Aside _:=hbq;rw[hbq];clear ho hbq;obtain⟨q5,h5⟩:∃b,(o0==5)=b:=⟨_,rfl⟩;have HP:Aside (pan (o0,o1,o2)=q5):=h5
        cases bq<;>cases q5
        all_goals
        ·go_wp2_with fail
         go_roundg (Lo-(k+1))
         case measure=>omega
         case rel=>exact⟨k+1,by go_num,by omega,le_refl _,by rw[AU.out,HBQ.out,HP.out];rfl,rfl⟩
       ·have hzk:¬(k:Int)<(Lo:Int):=by omega
        have ek:k=Lo:=by omega
        subst ek;have et:os.take k=os:=by rw[<-HLo.out];exact List.take_length
        rw[et];have PT:=stW W3.out.c Z9.out.1 Z9.out.2;have VS:=Ta.vsteps_any oa0 cap0 os;obtain⟨bq,hbq⟩:∃b,os.any pan=b:=⟨_,rfl⟩;have SW2:Aside (S9=if bq then 5 else 4):=by show _=_;rw[<-hbq];exact SW.out
        rw[hbq];have x0:w3.cell? ⟨X,0,none⟩=some (pt D.B):=W3.out.k.cell 0;have xlt:=lt_of_block W3.out.k.1;have VS:Aside _:=VS;clear hbq et;have S5:=SW2.out
        cases bq
        all_goals
        ·simp at S5;subst S5
         go_wp2_with fail
         refine PT.out.mono ?_;rintro e w4 ⟨rfl,F4,g4,v4,C4,G4⟩;have W4:Aside (WJ L D F1 w1 X R A (.slice oa k oc) os w4 F4 g4 v4 σ ⟨0,0,0,0,false⟩):=W3.out.go C4 G4;clear x0 xlt PT C4 G4;have BW4:Aside (Below w.heap.size w w4):=BB.out.1.trans (W4.out.gc.low.mono BB.out.2.1);have VP:=VS.out w4 (H0.out.1.below BW4.out);rw[HLo.out,<-CS0.out] at VP
         go_wp2_with fail
         refine VP.mono ?_;rintro e w5 ⟨rfl,b5⟩;have W5:=W4.out.below b5;have BW5:Aside (Below w.heap.size w w5):=belT BW4.out b5;have Ba:w5.heap[A]?=some (.cells #[.int .i64 0,.int .u64 0,.int .i64 0,.int .i64 0,.bool false] 40 (0,0)):=W5.a.1;obtain⟨a0,a1,a2,a3,a4⟩:=bx5 Ba;have alt:=lt_of_block Ba;clear VP b5 W5 Ba;have IP:=idleC wk0 w5
         go_wp2_with fail
         refine IP.mono ?_;rintro e w6 ⟨rfl,b6⟩;have BW6:Aside (Below w.heap.size w w6):=belT BW5.out b6;clear IP b6 a0 a1 a2 a3 a4 alt
         go_wp2_with fail
         refine(awake19C _).mono ?_;rintro e w8 ⟨rfl,b8⟩;have FIN:Aside (Below w.heap.size w w8):=belT BW6.out b8;clear b8
         go_wp2_with fail
         go_ret;exact⟨rfl,FIN.out⟩
end Go.Proofs.YtjpbngiddjkjiaaGreatDoor
