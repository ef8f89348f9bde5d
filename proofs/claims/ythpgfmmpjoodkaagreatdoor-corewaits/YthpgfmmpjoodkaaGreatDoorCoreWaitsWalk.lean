import Derived.Test.YthpgfmmpjoodkaaGreatDoorCwE
open Nat(le_refl le_trans)
namespace Go.Proofs.YthpgfmmpjoodkaaGreatDoor
set_option maxHeartbeats 8000000
set_option maxRecDepth 100000
set_option linter.unusedVariables false
open Go.RowKit Go.Lib Go.WideMaps Go.Maps
def WN(zs:List Int)(k:Nat):Nat→List Int:=fun t=>if t=0∨k<t then [] else wanI zs (t-1)
def WM(zs:List Int)(k j:Nat):Nat→List Int:=fun t=>if t=k+1 then wanT (zs.getD k 0) j else WN zs k t
theorem WM_0(zs:List Int)(k t:Nat):WM zs k 0 t=WN zs k t:=by
 unfold WM
 by_cases e:t=k+1
 ·rw[if_pos e,WN,if_pos (by omega)];rfl
 ·rw[if_neg e]
theorem WM_up{zs:List Int}{k j:Nat}(h:bitB (zs.getD k 0) (j+1)=true)(t:Nat):WM zs k (j+1) t=if t=k+1 then WM zs k j (k+1)++[(j:Int)+1] else WM zs k j t:=by
 unfold WM
 by_cases e:t=k+1
 ·rw[if_pos e,if_pos e,if_pos rfl,wanT_up,if_pos h]
 ·rw[if_neg e,if_neg e,if_neg e]
theorem WM_no{zs:List Int}{k j:Nat}(h:bitB (zs.getD k 0) (j+1)=false)(t:Nat):WM zs k (j+1) t=WM zs k j t:=by
 unfold WM
 by_cases e:t=k+1
 ·rw[if_pos e,if_pos e,wanT_up,h];simp
 ·rw[if_neg e,if_neg e]
theorem WM_end(zs:List Int)(k t:Nat):WN zs (k+1) t=WM zs k k t:=by
 unfold WM WN
 by_cases e:t=k+1
 ·rw[if_pos e,if_neg (by omega),e];rfl
 ·rw[if_neg e]
  by_cases c:t=0∨k<t
  ·rw[if_pos c,if_pos (by omega)]
  ·rw[if_neg c,if_neg (by omega)]
theorem WN_at{zs:List Int}{k m:Nat}(h:k<m):WN zs m (k+1)=wanI zs k:=by
 unfold WN
 rw[if_neg (by omega)]
 rfl
theorem WM_len(zs:List Int){k j:Nat}(hj:j≤16):(WM zs k j (k+1)).length≤16:=by
 unfold WM
 rw[if_pos rfl]
 exact le_trans (wanT_len _ _) hj
theorem stepA{a b c n s:Nat}(h1:b≤n-s)(h2:c=b)(h3:a+1≤c):a≤n-(s+1)∧s<n:=by omega
theorem stepB(n s:Nat):2*n+20*s+1+19=2*n+20*(s+1):=by omega
theorem coreWaits_walk(a0:Option Addr)(len0 cap0:Nat)(zs:List Int)(a1:Option Addr)(len1 cap1:Nat)(ys:List Int)(fl:Int)(w:World)(h0:IsRow .i64 w a0 len0 cap0 zs)(h1:IsRow .i64 w a1 len1 cap1 ys)(wf:(Lit.int .i64 fl).wf=true)(hN:True) :
  Calls Tryz.prog 3 #[.slice a0 len0 cap0,.slice a1 len1 cap1,.int .i64 fl] w fun e w'=>e=.returned (.bool true)∧Below w.heap.size w w':=by
 have hl0:=h0.len_le
 have hl1:=h1.len_le
 obtain⟨n,hn16,hnl,hnc⟩:∃n:Nat,n≤16∧n≤len0∧((len0≤16∧n=len0)∨(¬len0≤16∧n=16)):=by
  by_cases c:len0≤16
  ·exact⟨len0,c,le_refl _,.inl ⟨c,rfl⟩⟩
  ·exact⟨16,by omega,by omega,.inr ⟨c,rfl⟩⟩
 have P:Calls Tryz.prog 8 #[.agg #[.int .i64 2,.int .i64 3,.int .i64 64]] w fun e w'=>∃D F,e=.returned (.tuple #[pt D.B,.int .i64 0])∧Co w' (w.heap.size+1) D F (.slice none 0 0) (.slice none 0 0) (newS 2 3 64)∧Below w.heap.size w w':=newC 2 3 64 w (by omega) (by omega) (by omega) (by omega) (by omega)
 have HNC:Aside _:=hnc
 have HN:Aside (n≤16∧len1≤9223372036854775807):=⟨hn16,by omega⟩
 -- one word,as it is read
 have RD:Aside (∀(W:World)(k:Nat),Below w.heap.size w W→k<n→∃gb off,a0=some ⟨gb,off,none⟩∧gb<W.heap.size∧W.cell? ⟨gb,off+k,none⟩=some (.int .i64 (zs.getD k 0))):=by
  intro W k bW hk
  obtain⟨gb,off,e,glt,gc,gw⟩:=h0.at (j:=k) (by omega)
  exact⟨gb,off,e,Nat.lt_of_lt_of_le glt bW.size,by rw[←gc];exact World.cell?_of_block (bW.block gb glt)⟩
 have RS:Aside (∀(W:World)(k:Nat),Below w.heap.size w W→k<len1→∃gb off,a1=some ⟨gb,off,none⟩∧gb<W.heap.size∧W.cell? ⟨gb,off+k,none⟩=some (.int .i64 (ys.getD k 0))):=by
  intro W k bW hk
  obtain⟨gb,off,e,glt,gc,gw⟩:=h1.at (j:=k) hk
  exact⟨gb,off,e,Nat.lt_of_lt_of_le glt bW.size,by rw[←gc];exact World.cell?_of_block (bW.block gb glt)⟩
 have BT:Aside (∀k:Nat,∃t:Nat,bits .and .i64 (k:Int) 1=(t:Int)∧t<2):=fun k=>⟨((k:Int)%2).toNat,by rw[mask_i64 (k:Int) 1 1 2 (by omega) rfl rfl];omega,by omega⟩
 have BP:Aside (∀k:Nat,∃p:Int,bits .and .i64 (k:Int) 7=p∧0≤p∧p≤7):=fun k=>⟨(k:Int)%8,mask_i64 (k:Int) 3 7 8 (by omega) rfl rfl,by omega,by omega⟩
 clear h0 h1 hN hnc wf
 go_enter Tryz.func3,Tryz.ntmps3
 go_wp2_with fail
 refine Calls.mono P ?_
 rintro e w1 ⟨D,F1,rfl,C1,b1⟩
 clear P
 have X1:Aside (Below w.heap.size w w1∧Co w1 (w.heap.size+1) D F1 (.slice none 0 0) (.slice none 0 0) (newS 2 3 64)):=⟨b1,C1⟩
 clear C1 b1
 go_upto_region 4 with fail
 go_cut [9] from 40 to 42 (fun s9 wx=>s9=.int .i64 n∧wx=w1)
 case first=>
  have hnn:=HNC.out
  go_wp2_with fail
  go_meet
  exact⟨congrArg (Value.int .i64) (by omega),rfl⟩
 case rest=>
  obtain⟨rfl,rfl⟩:=hcut
  obtain⟨K,hK⟩:∃K,wc.heap.size=K:=⟨_,rfl⟩
  obtain⟨u,hu⟩:∃u,wc.alloc (.cells #[.slice none 0 0,.slice none 0 0,.slice none 0 0,.slice none 0 0,.slice none 0 0,.slice none 0 0,.slice none 0 0,.slice none 0 0,.slice none 0 0,.slice none 0 0,.slice none 0 0,.slice none 0 0,.slice none 0 0,.slice none 0 0,.slice none 0 0,.slice none 0 0,.slice none 0 0,.slice none 0 0] 29)=u:=⟨_,rfl⟩
  have bu:Below wc.heap.size wc u:=by rw[←hu];exact belA _ _
  have XU:Aside (Co u (w.heap.size+1) D F1 (.slice none 0 0) (.slice none 0 0) (newS 2 3 64)∧Gc (w.heap.size+1) F1 wc F1 u∧WB (K+1) u F1 K (WN zs 0)∧w.heap.size+1≤wc.heap.size∧wc.heap.size=K∧K+1≤u.heap.size):=by
   have q:=WB.new X1.out.2
   rw[hu,hK] at q
   refine⟨X1.out.2.below bu,Gc.below F1 X1.out.2.lw bu,q.congr (fun t ht=>?_),X1.out.2.lw,hK,?_⟩
   ·unfold WN
    by_cases c:t=0∨0<t
    ·rw[if_pos c]
    ·omega
   ·obtain⟨_,cs,b,_⟩:=q
    exact lt_of_block b.1
  have HU:Aside _:=hu
  have HK:Aside _:=hK
  clear hu hK bu
  go_wp2_with fail
  rw[HU.out]
  try simp only[HK.out]
  go_loopg [11,12,13,14] 16 (fun kx s11 s12 s13 s14 wr=>∃(k:Nat),s11=.int .i64 ((k:Int)+1)∧k≤n∧n-k≤kx∧∃(σ:CS)(Fr:Nat→Nat→Prop)(gr vr:Value),Aside (Co wr (w.heap.size+1) D Fr gr vr σ)∧Aside (Gc (w.heap.size+1) F1 wc Fr wr)∧Aside (WB (K+1) wr Fr K (WN zs k)∧K+1≤wr.heap.size)∧Aside (RU (PB zs) σ k (2*k)∧∀j,j<k→sN σ.T j=1∨sN σ.T j=2))
  case atStart=>exact⟨0,rfl,by omega,by omega,_,F1,_,_,XU.out.1,XU.out.2.1,⟨XU.out.2.2.1,XU.out.2.2.2.2.2⟩,⟨RU.new (fun j k h=>h.1),fun j hj=>by omega⟩⟩
  case round=>
   obtain⟨k,rfl,hk,hkx,σ,Fr,gr,vr,Cr,Gr,Wr,K1⟩:=hrel
   obtain⟨I,hI⟩:∃I:Nat,k+1=I:=⟨_,rfl⟩
   have eI:((k:Int)+1)=(I:Int):=by omega
   rw[eI]
   have HI:Aside (k+1=I∧k≤n):=⟨hI,hk⟩
   by_cases c:k<n
   ·have hlt:(I:Int)≤(n:Int):=by omega
    have Hc:Aside (k<n):=c
    have hwI:IntKind.i64.wrap ((I:Int)-1)=(k:Int):=by rw[IntKind.wrap_i64];omega
    clear c hk eI hI
    go_wp2_with fail
    go_loopg [12] 16 (fun kx s12 wx=>∃j:Nat,s12=.int .i64 ((j:Int)+1)∧j≤k∧k-j≤kx∧Aside (Co wx (w.heap.size+1) D Fr gr vr σ)∧Aside (Gc (w.heap.size+1) F1 wc Fr wx)∧Aside (WB (K+1) wx Fr K (WM zs k j)∧K+1≤wx.heap.size))
    case atStart=>exact⟨0,rfl,by omega,by have:=HN.out.1;have:=Hc.out;omega,Cr,Gr,⟨Wr.out.1.congr (fun t _=>WM_0 zs k t),Wr.out.2⟩⟩
    case round=>
     obtain⟨j,rfl,hj,hkx2,Cx,Gx,Wx⟩:=hrel
     obtain⟨J,hJ⟩:∃J:Nat,j+1=J:=⟨_,rfl⟩
     have eJ:((j:Int)+1)=(J:Int):=by omega
     rw[eJ]
     have HJ:Aside (j+1=J):=hJ
     by_cases cj:j<k
     ·have hlt2:(J:Int)<(I:Int):=by have:=HI.out.1;omega
      have hwJ:IntKind.i64.wrap ((J:Int)+1)=((J+1:Nat):Int):=by have:=HN.out.1;have:=HI.out;rw[IntKind.wrap_i64];omega
      obtain⟨gb,off,rfl,glt,hc0⟩:=RD.out wr k (X1.out.1.trans (Gx.out.low.mono (by omega))) Hc.out
      obtain⟨z,hz⟩:∃z,zs.getD k 0=z:=⟨_,rfl⟩
      rw[hz] at hc0
      have HZ:Aside (zs.getD k 0=z∧j<k):=⟨hz,cj⟩
      have hkl:k<len0:=by have:=Hc.out;omega
      clear hz cj hJ eJ
      cases hb:bitB z J with
      | true=>
       have hq:(bits .and .i64 (z/2^J) 1==1)=true:=hb
       have hI18:I<18:=by have:=HI.out;have:=HN.out.1;omega
       obtain⟨a2,cap2,hc2,o2,_⟩:=Wx.out.1.at hI18
       obtain⟨_,w3,⟨a3,n3,cap3,rfl⟩,hr3,hc3,hf3,hk3,W3,C3,G3⟩:=Wx.out.1.push Cx.out Gx.out (by have:=XU.out.2.2.2.2.1;omega) Wx.out.2 XU.out.2.2.2.1 hI18 (J:Int) (by rw[←HI.out.1];exact Nat.lt_of_le_of_lt (WM_len zs (by have:=HZ.out.2;have:=HN.out.1;have:=Hc.out;omega)) (by decide)) _ _ _ hc2
       obtain⟨n2,hn2⟩:∃n2,(WM zs k j I).length=n2:=⟨_,rfl⟩
       rw[hn2] at hc2 hr3 hc3
       have NX:Aside (Co (w3.setCell ⟨K,I,none⟩ (.slice a3 n3 cap3)) (w.heap.size+1) D Fr gr vr σ∧Gc (w.heap.size+1) F1 wc Fr (w3.setCell ⟨K,I,none⟩ (.slice a3 n3 cap3))∧(WB (K+1) (w3.setCell ⟨K,I,none⟩ (.slice a3 n3 cap3)) Fr K (WM zs k (j+1))∧K+1≤(w3.setCell ⟨K,I,none⟩ (.slice a3 n3 cap3)).heap.size)):=by
        refine⟨C3,G3,W3.congr (fun t ht=>?_),by simp[World.setCell];omega⟩
        rw[WM_up (by rw[HZ.out.1,HJ.out];exact hb),HI.out.1,←HJ.out]
        rfl
       have hKlt:K<wr.heap.size:=by have:=Wx.out.2;omega
       clear o2 W3 C3 G3 hb
       go_wp2_with (at_builtin;refine Da.wpList_app _ rfl _ _ 22 rfl _ _ rfl rfl (.slice a3 n3 cap3) w3 hr3 ?_;clear hr3)
       go_roundg (k-(j+1))
       case measure=>have:=HZ.out.2;omega
       case rel=>exact⟨j+1,congrArg (Value.int .i64) (by have:=HJ.out;omega),HZ.out.2,le_refl _,NX.out.1,NX.out.2.1,NX.out.2.2⟩
      | false=>
       have hq:(bits .and .i64 (z/2^J) 1==1)=false:=hb
       have NX:Aside (WB (K+1) wr Fr K (WM zs k (j+1))∧K+1≤wr.heap.size):=⟨Wx.out.1.congr (fun t ht=>WM_no (by rw[HZ.out.1,HJ.out];exact hb) t),Wx.out.2⟩
       clear hb
       go_wp2_with fail
       go_roundg (k-(j+1))
       case measure=>have:=HZ.out.2;omega
       case rel=>exact⟨j+1,congrArg (Value.int .i64) (by have:=HJ.out;omega),HZ.out.2,le_refl _,Cx,Gx,NX⟩
     ·have hnl2:¬(J:Int)<(I:Int):=by have:=HI.out.1;omega
      obtain rfl:j=k:=by omega
      have W2:WB (K+1) wr Fr K (WN zs (j+1)):=Wx.out.1.congr (fun t _=>WM_end zs j t)
      have hI18:I<18:=by have:=HI.out;have:=HN.out.1;omega
      obtain⟨a2,cap2,hc2,o2,hz2⟩:=W2.at hI18
      rw[←HI.out.1,WN_at (Nat.lt_succ_self _)] at hc2 o2 hz2
      rw[HI.out.1] at hc2
      obtain⟨n2,hn2⟩:∃n2,(wanI zs j).length=n2:=⟨_,rfl⟩
      rw[hn2] at hc2 o2 hz2
      obtain⟨t1,ht1,ht2⟩:=BT.out I
      obtain⟨p1,hp1,hp2,hp3⟩:=BP.out I
      have P:=submitW Cx.out K1.out.1 K1.out.2 (by have:=Hc.out;have:=HN.out.1;omega) (by have:=Hc.out;have:=HN.out.1;omega) hn2 o2 hz2 ht2 hp2 hp3
      rw[show((j:Int)+1)=(I:Int) by have:=HI.out.1;omega] at P
      have hwi:IntKind.i64.wrap ((I:Int)+1)=((I+1:Nat):Int):=by have:=HN.out.1;have:=HI.out;rw[IntKind.wrap_i64];omega
      have hKlt:K<wr.heap.size:=by have:=Wx.out.2;omega
      have NX:Aside (WB (K+1) wr Fr K (WN zs (j+1))∧Gc (w.heap.size+1) F1 wc Fr wr∧K+1≤wr.heap.size):=⟨W2,Gx.out,Wx.out.2⟩
      clear W2 o2 hz2 hn2 hJ eJ cj
      go_wp2_with fail
      refine Calls.mono P ?_
      rintro r w2 ⟨τ,F2,g2,v2,rfl,C2,G2,R2⟩
      have N2:Aside (Co w2 (w.heap.size+1) D F2 g2 v2 τ∧Gc (w.heap.size+1) F1 wc F2 w2∧(WB (K+1) w2 F2 K (WN zs (j+1))∧K+1≤w2.heap.size)∧(RU (PB zs) τ (j+1) (2*(j+1))∧∀i,i<j+1→sN τ.T i=1∨sN τ.T i=2)):=⟨C2,NX.out.2.1.trans G2,⟨NX.out.1.gc G2,le_trans NX.out.2.2 G2.size⟩,R2⟩
      clear P C2 G2 R2 hc2
      go_wp2_with fail
      go_roundg (n-(j+1))
      case measure=>have:=Hc.out;omega
      case rel=>exact⟨j+1,congrArg (Value.int .i64) (by have:=HI.out.1;omega),Hc.out,le_refl _,τ,F2,g2,v2,N2.out.1,N2.out.2.1,N2.out.2.2.1,N2.out.2.2.2⟩
   ·have hnl:¬(I:Int)≤(n:Int):=by omega
    have hkn:k=n:=by omega
    have SS:Aside (∃(σ:CS)(Fr:Nat→Nat→Prop)(gr vr:Value),Aside (Co wr (w.heap.size+1) D Fr gr vr σ)∧Aside (Gc (w.heap.size+1) F1 wc Fr wr)∧Aside (WB (K+1) wr Fr K (WN zs n)∧K+1≤wr.heap.size)∧Aside (RU (PB zs) σ n (2*n+20*0)∧(∀j,j<n→sN σ.T j≠3)∧σ.o≤n-0)):=⟨σ,Fr,gr,vr,Cr,Gr,by rw[←hkn];exact Wr,by rw[←hkn];exact⟨K1.out.1,fun j hj=>by have:=K1.out.2 j hj;omega,K1.out.1.cnt.2.2⟩⟩
    clear hkn Cr Gr Wr K1
    go_wp2_with fail
    obtain⟨σ1,Fq,gq,vq,Cq,Gq1,Wq,Kq⟩:=SS.out
    clear hnl hkx hk eI hI c
    go_loopg [15,16,17,18,19,20,21,22,23,24,25,26] 16 (fun kx s15 s16 s17 s18 s19 s20 s21 s22 s23 s24 s25 s26 wx=>∃(st:Nat),s15=.int .i64 st∧st≤n∧n-st≤kx∧∃(σ:CS)(Fr:Nat→Nat→Prop)(gr vr:Value),Aside (Co wx (w.heap.size+1) D Fr gr vr σ)∧Aside (Gc (w.heap.size+1) F1 wc Fr wx)∧Aside (WB (K+1) wx Fr K (WN zs n)∧K+1≤wx.heap.size)∧Aside (RU (PB zs) σ n (2*n+20*st)∧(∀j,j<n→sN σ.T j≠3)∧σ.o≤n-st))
    case atStart=>exact⟨0,rfl,by omega,by have:=HN.out.1;omega,σ1,Fq,gq,vq,Cq,Gq1,Wq,Kq⟩
    case round=>
     clear Cq Gq1 Wq Kq SS HI
     obtain⟨st,rfl,hst,hkx,σ,Fr,gr,vr,Cr,Gr,Wr,K1⟩:=hrel
     have hlst:(st:Int)≤(n:Int):=by omega
     have HST:Aside (st≤n):=hst
     clear hst
     go_wp2_with fail
     go_loopg [16,17,18,19,20,21] 16 (fun kx s16 s17 s18 s19 s20 s21 wx=>∃(k:Nat),s16=.int .i64 ((k:Int)+1)∧k≤n∧n-k≤kx∧∃(Fr:Nat→Nat→Prop)(gr vr:Value),Aside (Co wx (w.heap.size+1) D Fr gr vr σ)∧Aside (Gc (w.heap.size+1) F1 wc Fr wx)∧Aside (WB (K+1) wx Fr K (WN zs n)∧K+1≤wx.heap.size))
     case atStart=>exact⟨0,rfl,by omega,by have:=HN.out.1;omega,Fr,gr,vr,Cr,Gr,Wr⟩
     case round=>
      clear Cr Gr Wr
      obtain⟨k,rfl,hk,hkx,F4,g4,v4,C4,G4,W4⟩:=hrel
      obtain⟨I,hI⟩:∃I:Nat,k+1=I:=⟨_,rfl⟩
      have eI:((k:Int)+1)=(I:Int):=by omega
      rw[eI]
      have HI:Aside (k+1=I∧k≤n):=⟨hI,hk⟩
      by_cases c:k<n
      ·have hlt:(I:Int)≤(n:Int):=by omega
       have Hc:Aside (k<n):=c
       have hwI:IntKind.i64.wrap ((I:Int)+1)=((I+1:Nat):Int):=by have:=HN.out.1;rw[IntKind.wrap_i64];omega
       clear c hk eI hI
       have hI18:I<18:=by have:=HI.out;have:=HN.out.1;omega
       obtain⟨d,hd⟩:∃d,wanI zs k=d:=⟨_,rfl⟩
       obtain⟨n2,hn2⟩:∃n2,d.length=n2:=⟨_,rfl⟩
       have HD:Aside (wanI zs k=d∧d.length=n2∧n2≤16):=⟨hd,hn2,by rw[←hn2,←hd];exact le_trans (wanT_len _ _) (by have:=HN.out.1;have:=HI.out;omega)⟩
       have WD:WN zs n I=d:=by rw[←HI.out.1,WN_at Hc.out];exact hd
       have HW:Aside (WN zs n I=d):=WD
       clear hd hn2 WD
       go_wp2_with fail
       go_loopg [17,18,19,20] 16 (fun kx s17 s18 s19 s20 wx=>∃t:Nat,s19=.int .i64 t∧s17=.bool (allB σ.T d t)∧s18=.bool (anyB σ.T d t)∧t≤n2∧n2-t≤kx∧∃(Fr:Nat→Nat→Prop)(gr vr:Value),Aside (Co wx (w.heap.size+1) D Fr gr vr σ)∧Aside (Gc (w.heap.size+1) F1 wc Fr wx)∧Aside (WB (K+1) wx Fr K (WN zs n)∧K+1≤wx.heap.size))
       case atStart=>exact⟨0,rfl,rfl,rfl,by omega,by have:=HD.out.2.2;omega,F4,g4,v4,C4,G4,W4⟩
       case round=>
        clear C4 G4 W4
        obtain⟨t,rfl,rfl,rfl,ht,hkx,F5,g5,v5,C5,G5,W5⟩:=hrel
        obtain⟨a5,cap5,hc5,o5,_⟩:=W5.out.1.at hI18
        rw[HW.out] at hc5 o5
        rw[HD.out.2.1] at hc5 o5
        have hKlt:K<wr.heap.size:=by have:=W5.out.2;omega
        by_cases ct:t<n2
        ·have hltt:(t:Int)<(n2:Int):=by omega
         have hn2b:n2≤16:=HD.out.2.2
         have hwt:IntKind.i64.wrap ((t:Int)+1)=((t+1:Nat):Int):=by have:=HD.out.2.2;rw[IntKind.wrap_i64];omega
         obtain⟨gg,off,rfl,glt,hcell⟩:=o5.at HD.out.2.1 ct
         have P:=statusA C5.out (d.getD t 0)
         have up1:=allB_up (T:=σ.T) (d:=d) (t:=t) (by rw[HD.out.2.1];exact ct)
         have up2:=anyB_up (T:=σ.T) (d:=d) (t:=t) (by rw[HD.out.2.1];exact ct)
         obtain⟨q,hq⟩:∃q,d.getD t 0=q:=⟨_,rfl⟩
         rw[hq] at P hcell up1 up2
         obtain⟨B,hB⟩:∃B,stT σ.T q=B:=⟨_,rfl⟩
         rw[hB] at P up1 up2
         obtain⟨A,hA⟩:∃A,allB σ.T d t=A:=⟨_,rfl⟩
         obtain⟨Y,hY⟩:∃Y,anyB σ.T d t=Y:=⟨_,rfl⟩
         rw[hA] at up1
         rw[hY] at up2
         rw[hA,hY]
         have UP:Aside (allB σ.T d (t+1)=(A&&(B==4))∧anyB σ.T d (t+1)=(Y||(B==5||B==6))∧t<n2):=⟨up1,up2,ct⟩
         have XG:Aside (Gc (w.heap.size+1) F1 wc F5 wr∧WB (K+1) wr F5 K (WN zs n)∧K+1≤wr.heap.size):=⟨G5.out,W5.out⟩
         clear up1 up2 hq hB hA hY ct o5 C5 G5 W5 ht
         go_wp2_with fail
         refine Calls.mono P ?_
         rintro r w6 ⟨rfl,F6,g6,v6,C6,G6⟩
         have NX:Aside (Co w6 (w.heap.size+1) D F6 g6 v6 σ∧Gc (w.heap.size+1) F1 wc F6 w6∧WB (K+1) w6 F6 K (WN zs n)∧K+1≤w6.heap.size):=⟨C6,XG.out.1.trans G6,XG.out.2.1.gc G6,le_trans XG.out.2.2 G6.size⟩
         clear P C6 G6 hcell hc5 glt
         have hA4:(A=true∧B=4)∨(A=true∧(B==4)=false)∨A=false:=by
          by_cases e:B=4
          ·cases A
           ·exact .inr (.inr rfl)
           ·exact .inl ⟨rfl,e⟩
          ·cases A
           ·exact .inr (.inr rfl)
           ·exact .inr (.inl ⟨rfl,by simpa using e⟩)
         have hY5:Y=true∨(Y=false∧(B==5)=true)∨(Y=false∧(B==5)=false∧∃e6,(B==6)=e6):=by
          cases Y
          ·by_cases e:B=5
           ·exact .inr (.inl ⟨rfl,by simpa using e⟩)
           ·exact .inr (.inr ⟨rfl,by simpa using e,_,rfl⟩)
          ·exact .inl rfl
         rcases hA4 with⟨rfl,rfl⟩|⟨rfl,h4⟩|rfl<;>rcases hY5 with rfl|⟨rfl,h5⟩|⟨rfl,h5,e6,h6⟩
         all_goals try (exfalso;exact absurd h5 (by decide))
         all_goals
          go_wp2_with fail
          go_roundg (n2-(t+1))
         all_goals try (have:=UP.out.2.2;omega)
         all_goals
          refine⟨t+1,rfl,congrArg Value.bool ?_,congrArg Value.bool ?_,UP.out.2.2,le_refl _,F6,g6,v6,NX.out.1,NX.out.2.1,NX.out.2.2⟩
         all_goals first|(rw[UP.out.1];first|rfl|(simp only[h4,Bool.true_and])|simp)|(rw[UP.out.2.1];first|rfl|(simp only[h5,h6,Bool.false_or])|simp[h5]|simp)
        ·have hnlt:¬(t:Int)<(n2:Int):=by omega
         have etn:t=n2:=by omega
         obtain⟨x,hx,hp,hs⟩:=K1.out.1.at Hc.out
         have P:=statusC C5.out hx
         have ts:=K1.out.1.tst Hc.out (t:=t) (by rw[HD.out.1,HD.out.2.1];exact etn)
         rw[HD.out.1,hs] at ts
         obtain⟨S,hS⟩:∃S,x.s=S:=⟨_,rfl⟩
         rw[hS] at P ts
         rw[show((k:Int)+1)=(I:Int) by have:=HI.out.1;omega] at P
         obtain⟨A,hA⟩:∃A,allB σ.T d t=A:=⟨_,rfl⟩
         obtain⟨Y,hY⟩:∃Y,anyB σ.T d t=Y:=⟨_,rfl⟩
         rw[hA,hY] at ts
         rw[hA,hY]
         have XG:Aside (Gc (w.heap.size+1) F1 wc F5 wr∧WB (K+1) wr F5 K (WN zs n)∧K+1≤wr.heap.size):=⟨G5.out,W5.out⟩
         clear hA hY hS hs hx hp etn ct o5 C5 G5 W5 ht
         go_wp2_with fail
         refine Calls.mono P ?_
         rintro r w6 ⟨rfl,F6,g6,v6,C6,G6⟩
         have NX:Aside (Co w6 (w.heap.size+1) D F6 g6 v6 σ∧Gc (w.heap.size+1) F1 wc F6 w6∧WB (K+1) w6 F6 K (WN zs n)∧K+1≤w6.heap.size):=⟨C6,XG.out.1.trans G6,XG.out.2.1.gc G6,le_trans XG.out.2.2 G6.size⟩
         clear P C6 G6 hc5
         rcases ts with⟨rfl,rfl⟩|⟨rfl,n6,⟨rfl,n1⟩|⟨rfl,rfl⟩⟩
         case' inl=>
          have q6:((6:Int)==6)=true:=rfl
          go_wp2_with fail
         case' inr.inl=>
          have q6:(S==6)=false:=by simpa using n6
          have q1:(S==1)=false:=by simpa using n1
          clear n6 n1
          go_wp2_with fail
         case' inr.inr=>
          have q6:((1:Int)==6)=false:=rfl
          have q1:((1:Int)==1)=true:=rfl
          go_wp2_with fail
         all_goals
          go_roundg (n-(k+1))
         all_goals try (have:=Hc.out;omega)
         all_goals exact⟨k+1,congrArg (Value.int .i64) (by have:=HI.out.1;omega),Hc.out,le_refl _,F6,g6,v6,NX.out.1,NX.out.2.1,NX.out.2.2⟩
      ·have hnl:¬(I:Int)≤(n:Int):=by omega
       clear c hk eI hI
       go_wp2_with fail
       go_loopg [22,23] 16 (fun kx s22 s23 wx=>∃k:Nat,s23=.int .i64 ((k:Int)+1)∧k≤n∧n-k≤kx∧Aside (RL wr F4 D.Bt σ.T wx s22 (rdL σ.T k)))
       case atStart=>exact⟨0,rfl,by omega,by have:=HN.out.1;omega,RL.start C4.out⟩
       case round=>
        obtain⟨k2,rfl,hk,hkx,Rr⟩:=hrel
        obtain⟨I2,hI2⟩:∃I:Nat,k2+1=I:=⟨_,rfl⟩
        have eI:((k2:Int)+1)=(I2:Int):=by omega
        rw[eI]
        have HI2:Aside (k2+1=I2∧k2≤n):=⟨hI2,hk⟩
        by_cases c:k2<n
        ·have hlt:(I2:Int)≤(n:Int):=by omega
         have Hc:Aside (k2<n):=c
         have hwI:IntKind.i64.wrap ((I2:Int)+1)=((I2+1:Nat):Int):=by have:=HN.out.1;rw[IntKind.wrap_i64];omega
         obtain⟨x,hx,hp,hs⟩:=K1.out.1.at c
         have P:=Rr.out.status C4.out hx
         obtain⟨S,hS⟩:∃S,x.s=S:=⟨_,rfl⟩
         rw[hS,eI] at P
         have up:=rdL_up σ.T k2
         rw[hs,hS,eI] at up
         clear c hk eI hI2 hx hp hs hS
         go_wp2_with fail
         refine Calls.mono P ?_
         rintro r w6 ⟨rfl,R6⟩
         clear P
         by_cases e2:S=2
         ·subst e2
          rw[if_pos rfl] at up
          have hq:((2:Int)==2)=true:=rfl
          obtain⟨v7,w7,hr7,R7⟩:=R6.push ((0:Int),(I2:Int)) (by have:=rdL_len σ.T k2;have:=Hc.out;have:=HN.out.1;omega)
          rw[←up] at R7
          have NX:Aside _:=R7
          clear R7 R6 up
          go_wp2_with (at_builtin;refine Da.wpList_app _ rfl _ _ 33 rfl _ _ rfl rfl v7 w7 hr7 ?_;clear hr7)
          go_roundg (n-(k2+1))
          case measure=>have:=Hc.out;omega
          case rel=>exact⟨k2+1,congrArg (Value.int .i64) (by have:=HI2.out.1;omega),Hc.out,le_refl _,NX⟩
         ·have hq:(S==2)=false:=by simpa using e2
          rw[if_neg e2,List.append_nil] at up
          rw[←up] at R6
          have NX:Aside _:=R6
          clear R6 up e2
          go_wp2_with fail
          go_roundg (n-(k2+1))
          case measure=>have:=Hc.out;omega
          case rel=>exact⟨k2+1,congrArg (Value.int .i64) (by have:=HI2.out.1;omega),Hc.out,le_refl _,NX⟩
        ·have hnl2:¬(I2:Int)≤(n:Int):=by omega
         obtain⟨F6,C6,G6,nb⟩:=Rr.out.co C4.out
         obtain⟨a7,cap7,rfl,isl⟩:=Rr.out.own.isL
         have ekn:k2=n:=by omega
         obtain⟨rl,hrl⟩:∃rl,(rdL σ.T k2).length=rl:=⟨_,rfl⟩
         have XC:Aside (Co wr (w.heap.size+1) D F6 g4 v4 σ∧Gc (w.heap.size+1) F1 wc F6 wr∧WB (K+1) wr F6 K (WN zs n)∧K+1≤wr.heap.size):=⟨C6,G4.out.trans G6,W4.out.1.gc G6,le_trans W4.out.2 G6.size⟩
         have HRL:Aside ((rdL σ.T n).length=rl):=by show(rdL σ.T n).length=rl;rw[←ekn];exact hrl
         rw[ekn] at isl
         rw[hrl]
         have ISL:Aside _:=isl
         have QN:Aside (σ.qn≤1000):=by have h1:=K1.out.1.qn;have h2:=HN.out.1;have h3:=HST.out;show σ.qn≤1000;omega
         have XB:Aside (Below w.heap.size w wr):=X1.out.1.trans (XC.out.2.1.low.mono (by omega))
         have hrl16:rl≤16:=by rw[←hrl];exact le_trans (rdL_len _ _) (by have:=HN.out.1;omega)
         clear C6 G6 nb isl ekn hrl hk eI hI2 c Rr C4 G4 W4 hkx
         by_cases cz:rl=0
         ·subst cz
          have EN:Aside _:=K1.out.1.ends (rdL_nil HRL.out) K1.out.2.1
          have q0:(((0:Nat):Int)==0)=true:=rfl
          go_wp2_with fail
          go_loopg [27,28] 16 (fun kx s27 s28 wx=>∃k:Nat,s27=.int .i64 ((k:Int)+1)∧k≤n∧n-k≤kx∧∃(Fr:Nat→Nat→Prop)(gr vr:Value),Aside (Co wx (w.heap.size+1) D Fr gr vr σ)∧Aside (Gc (w.heap.size+1) F1 wc Fr wx))
          case atStart=>exact⟨0,rfl,by omega,by have:=HN.out.1;omega,F6,g4,v4,XC.out.1,XC.out.2.1⟩
          case round=>
           obtain⟨k,rfl,hk,hkx,F7,g7,v7,C7,G7⟩:=hrel
           obtain⟨I3,hI3⟩:∃I:Nat,k+1=I:=⟨_,rfl⟩
           have eI:((k:Int)+1)=(I3:Int):=by omega
           rw[eI]
           have HI3:Aside (k+1=I3∧k≤n):=⟨hI3,hk⟩
           by_cases c:k<n
           ·have hlt:(I3:Int)≤(n:Int):=by omega
            have Hc:Aside (k<n):=c
            have hwI:IntKind.i64.wrap ((I3:Int)+1)=((I3+1:Nat):Int):=by have:=HN.out.1;rw[IntKind.wrap_i64];omega
            obtain⟨x,hx,hp,hs⟩:=K1.out.1.at c
            have P:=statusC C7.out hx
            have ov:=EN.out.1 k c
            rw[hs] at ov
            obtain⟨S,hS⟩:∃S,x.s=S:=⟨_,rfl⟩
            rw[hS,eI] at P
            rw[hS] at ov
            clear c hk eI hI3 hx hp hs hS C7
            go_wp2_with fail
            refine Calls.mono P ?_
            rintro r w8 ⟨rfl,F8,g8,v8,C8,G8⟩
            have NX:Aside (Co w8 (w.heap.size+1) D F8 g8 v8 σ∧Gc (w.heap.size+1) F1 wc F8 w8):=⟨C8,G7.out.trans G8⟩
            clear P C8 G8 G7
            rcases ov with rfl|rfl|rfl
            all_goals
             go_wp2_with fail
             go_roundg (n-(k+1))
            all_goals try (have:=Hc.out;omega)
            all_goals exact⟨k+1,congrArg (Value.int .i64) (by have:=HI3.out.1;omega),Hc.out,le_refl _,F8,g8,v8,NX.out.1,NX.out.2⟩
           ·have hnl3:¬(I3:Int)≤(n:Int):=by omega
            have P:=stateC C7.out QN.out
            have X7:Aside (Below w.heap.size w wr):=X1.out.1.trans (G7.out.low.mono (by omega))
            clear C7
            go_wp2_with fail
            refine Calls.mono P ?_
            rintro r w9 ⟨KT3,cs,s1,n1,c1,s2,n2,c2',s3,n3,c3,s4,c4,F9,g9,v9,rfl,C9,G9,BT9,fil⟩
            rw[show(σ.n:Int)-σ.o=64 by rw[K1.out.1.n,EN.out.2];rfl]
            have X9:Aside (Below w.heap.size w w9):=X7.out.trans (G9.low.mono (by omega))
            obtain⟨u1,hu1⟩:∃u,σ.now=u:=⟨_,rfl⟩
            obtain⟨u2,hu2⟩:∃u,σ.tk=u:=⟨_,rfl⟩
            obtain⟨u3,hu3⟩:∃u,σ.cl=u:=⟨_,rfl⟩
            obtain⟨u4,hu4⟩:∃u,σ.T.length=u:=⟨_,rfl⟩
            obtain⟨u5,hu5⟩:∃u,σ.tm.length=u:=⟨_,rfl⟩
            rw[hu1,hu2,hu3,hu4,hu5]
            have P:=awakeC w9
            clear C9 G9 BT9 fil hu1 hu2 hu3 hu4 hu5
            have ff:=fldFree u1 u2 u3 64 (some ⟨KT3,0,none⟩) s1 s2 s3 s4 u4 n1 n2 n3 u5 u4 c1 c2' c3 c4 w9
            go_wp2_with fail
            refine P.mono ?_
            rintro r w10 ⟨rfl,b10⟩
            have FI2:Aside (Below w.heap.size w w10):=X9.out.trans (b10.mono X9.out.size)
            clear b10
            go_wp2_with fail
            go_ret
            exact⟨rfl,FI2.out⟩
         ·have hz0:¬(rl:Int)=0:=by omega
          have q0:((rl:Int)==0)=false:=by simp;omega
          have hrl1:1≤rl:=by omega
          clear cz
          go_upto_if 166 with fail
          go_cut [24] from 89 to 204 (fun s24 wx=>∃kk:Nat,s24=.int .i64 kk∧kk<rl∧wx=wr)
          case first=>
           by_cases cs:st<len1
           ·have hs1:(st:Int)<(len1:Int):=by omega
            have hs2:decide ((st:Int)<(len1:Int))=true:=decide_eq_true hs1
            obtain⟨gb,off,rfl,glt,hc0⟩:=RS.out wr st XB.out cs
            obtain⟨z,hz⟩:∃z,ys.getD st 0=z:=⟨_,rfl⟩
            rw[hz] at hc0
            obtain⟨kk,hkk,hkn⟩:∃kk:Nat,(bits .and .i64 z 255).tmod (rl:Int)=(kk:Int)∧kk<rl:=by
             have h1:=mask_i64 z 8 255 256 (by omega) rfl rfl
             have h0:0≤bits .and .i64 z 255%(rl:Int):=Int.emod_nonneg _ (by omega)
             have h2:bits .and .i64 z 255%(rl:Int)<rl:=Int.emod_lt_of_pos _ (by omega)
             have h3:0≤bits .and .i64 z 255:=by omega
             exact⟨(bits .and .i64 z 255%(rl:Int)).toNat,by rw[Int.tmod_eq_emod_of_nonneg h3];omega,by omega⟩
            have HKK:Aside (kk<rl):=hkn
            clear hz cs hkn
            go_wp2_with fail
            go_meet
            exact⟨kk,rfl,HKK.out,rfl⟩
           ·have hs1:¬(st:Int)<(len1:Int):=by omega
            have hs2:decide ((st:Int)<(len1:Int))=false:=decide_eq_false hs1
            go_wp2_with fail
            go_meet
            exact⟨0,rfl,by omega,rfl⟩
          case rest=>
           obtain⟨kk,rfl,hkk,rfl⟩:=hcut
           obtain⟨kJ,hkJ,hsJ,heJ⟩:=rdL_at (T:=σ.T) (n:=n) (i:=kk) (by rw[HRL.out];exact hkk)
           obtain⟨b7,off7,rfl,hb7,_,hc7'⟩:=ISL.out.elem kk _ heJ
           obtain⟨x,hx,hp,hs⟩:=K1.out.1.at hkJ
           obtain⟨J,hJ⟩:∃J:Nat,kJ+1=J:=⟨_,rfl⟩
           have eJ:((kJ:Int)+1)=(J:Int):=by omega
           have hc7:World.cell? _ ⟨b7,off7+kk*2+1,none⟩=some (.int .i64 ((kJ:Int)+1)):=hc7'
           rw[eJ] at hc7
           clear hc7'
           have P:=stateC XC.out.1 QN.out
           have HJ:Aside (kJ+1=J∧kJ<n∧σ.T[kJ]?=some x∧x.s=2∧x.p=0):=⟨hJ,hkJ,hx,by rw[←hs];exact hsJ,hp⟩
           have hlt7:(kk:Int)<(rl:Int):=by omega
           clear heJ hx hp hs hsJ hJ eJ
           go_wp2_with fail
           refine Calls.mono P ?_
           rintro r w8 ⟨KT,cs,s1,n1,c1,s2,n2,c2',s3,n3,c3,s4,c4,F8,g8,v8,rfl,C8,G8,BT8,fil⟩
           rw[K1.out.1.len]
           obtain⟨ky,hky⟩:∃y,x.key=y:=⟨_,rfl⟩
           obtain⟨U1,hU1⟩:∃u,σ.now=u:=⟨_,rfl⟩
           obtain⟨U2,hU2⟩:∃u,σ.tk=u:=⟨_,rfl⟩
           obtain⟨U3,hU3⟩:∃u,σ.cl=u:=⟨_,rfl⟩
           obtain⟨U4,hU4⟩:∃u,(σ.n:Int)-σ.o=u:=⟨_,rfl⟩
           obtain⟨U5,hU5⟩:∃u,σ.tm.length=u:=⟨_,rfl⟩
           rw[hU1,hU2,hU3,hU4,hU5]
           clear hU1 hU2 hU3 hU4 hU5
           obtain⟨S8,hS8⟩:∃q,w8.heap.size=q:=⟨_,rfl⟩
           obtain⟨u9,hu9⟩:∃u,w8.alloc (.cells #[.int .u64 U1,.int .u64 U2,.bool U3,.int .i64 U4,.slice (some ⟨KT,0,none⟩) n n,.slice s1 n1 c1,.slice s2 n2 c2',.slice s3 n3 c3,.slice s4 U5 c4] 41)=u:=⟨_,rfl⟩
           have b9:Below w8.heap.size w8 u9:=by rw[←hu9];exact belA _ _
           have C9:=C8.below b9
           have BT9:=BT8.below b9
           have BX9:u9.heap[S8]?=some (.cells #[.int .u64 U1,.int .u64 U2,.bool U3,.int .i64 U4,.slice (some ⟨KT,0,none⟩) n n,.slice s1 n1 c1,.slice s2 n2 c2',.slice s3 n3 c3,.slice s4 U5 c4] 41 (0,0)):=by rw[←hu9,←hS8];exact heap_alloc_new w8 _
           have hSt:u9.cell? ⟨S8,4,none⟩=some (.slice (some ⟨KT,0,none⟩) n n):=by rw[cell_of_row _ _ _ _ _ _ BX9];rfl
           have hkey:u9.cell? ⟨KT,kJ*7+4,none⟩=some (.int .u64 ky):=by
            rw[BT9.cell,fil kJ (by rw[K1.out.1.len];exact HJ.out.2.1) x HJ.out.2.2.1 4 (by decide),←hky];rfl
           have hwJ:IntKind.i64.wrap ((J:Int)-1)=(kJ:Int):=by have:=HJ.out.1;have:=HJ.out.2.1;have:=HN.out.1;rw[IntKind.wrap_i64];omega
           have hkn:(kJ:Int)<(n:Int):=by have:=HJ.out.2.1;omega
           have hKTlt:KT<u9.heap.size:=lt_of_block BT9.1
           have hS8lt:S8<u9.heap.size:=lt_of_block BX9
           have WB9:=(XC.out.2.2.1.gc G8).gc (Gc.below F8 C8.lw b9)
           have X9:Aside (Gc (w.heap.size+1) F1 _ F8 u9∧WB (K+1) u9 F8 K (WN zs n)∧K+1≤u9.heap.size):=⟨(XC.out.2.1.trans G8).trans (Gc.below F8 C8.lw b9),WB9,le_trans (le_trans XC.out.2.2.2 G8.size) b9.size⟩
           have P1:Calls Tryz.prog 12 #[pt D.B,.int .i64 0,.agg #[.int .u64 ky,.int .i64 J]] u9 fun e w'=>e=.returned (.int .i64 0)∧∃τ F' g' v',Co w' (w.heap.size+1) D F' g' v' τ∧Gc (w.heap.size+1) F8 u9 F' w'∧RU (PB zs) τ n (2*n+20*st+1)∧(∃y,τ.T[kJ]?=some y∧y.s=3)∧τ.o=σ.o∧∀j,j<n→j≠kJ→sN τ.T j≠3:=by
            have hev:=K1.out.1.ev
            have hqn:=K1.out.1.qn
            have htk:=K1.out.1.tk
            have h16:=HN.out.1
            have hst:=HST.out
            have q:=claimC C9 (t:=0) (by rw[K1.out.1.th];decide) HJ.out.2.2.1 HJ.out.2.2.2.1 (by have:=HJ.out.2.2.2.2;omega) (by omega) (by omega) (by omega)
            rw[hky,show((kJ:Int)+1)=(J:Int) by have:=HJ.out.1;omega] at q
            refine Calls.mono (show Calls Tryz.prog 12 #[pt D.B,.int .i64 0,.agg #[.int .u64 ky,.int .i64 J]] u9 _ from q) ?_
            rintro e w' ⟨rfl,F',g',v',C',G'⟩
            obtain⟨r1,r2,r3,r4,r5,r6⟩:=K1.out.1.claim HJ.out.2.2.1 HJ.out.2.2.2.1 0
            exact⟨rfl,_,F',g',v',C',G',r1,⟨_,r2,r3⟩,r5,fun j hj hjk=>by rw[r6 j hjk];exact K1.out.2.1 j hj⟩
           have hwst:IntKind.i64.wrap ((st:Int)+1)=((st+1:Nat):Int):=by have:=HST.out;have:=HN.out.1;rw[IntKind.wrap_i64];omega
           have HU9:Aside _:=hu9
           have HS8:Aside _:=hS8
           clear C8 G8 BT8 fil C9 BT9 BX9 WB9 hu9 hS8 b9 hky hkk hc7 hb7 hlt7
           go_upto_region 45 with fail
           rw[HU9.out]
           try simp only[HS8.out]
           go_wp2_with fail
           refine Calls.mono P1 ?_
           rintro r w10 ⟨rfl,τ,F10,g10,v10,C10,G10,R10,⟨y,hy,ys⟩,ho,n3'⟩
           have P2:=finW C10 R10 HN.out.1 (by have:=HST.out;have:=HN.out.1;omega) hy ys n3' (bits .and .i64 (fl/2^min J 64) 1==0)
           rw[show((kJ:Int)+1)=(J:Int) by have:=HJ.out.1;omega] at P2
           have X10:Aside (Gc (w.heap.size+1) F1 _ F10 w10∧WB (K+1) w10 F10 K (WN zs n)∧K+1≤w10.heap.size∧τ.o=σ.o):=⟨X9.out.1.trans G10,X9.out.2.1.gc G10,le_trans X9.out.2.2 G10.size,ho⟩
           clear P P1 C10 G10 R10 hy ys ho n3' hSt hkey hKTlt hS8lt
           go_wp2_with fail
           refine Calls.mono P2 ?_
           rintro r w11 ⟨τ',F11,g11,v11,rfl,C11,G11,R11,ho',n3''⟩
           have sA:=stepA K1.out.2.2 X10.out.2.2.2 ho'
           have G12:=X10.out.1.trans G11
           have W12:=X10.out.2.1.gc G11
           have Z12:=le_trans X10.out.2.2.1 G11.size
           have R12:=R11
           rw[stepB n st] at R12
           have NX:Aside (Co w11 (w.heap.size+1) D F11 g11 v11 τ'∧Gc (w.heap.size+1) F1 _ F11 w11∧(WB (K+1) w11 F11 K (WN zs n)∧K+1≤w11.heap.size)∧(RU (PB zs) τ' n (2*n+20*(st+1))∧(∀j,j<n→sN τ'.T j≠3)∧τ'.o≤n-(st+1))∧st<n):=⟨C11,G12,⟨W12,Z12⟩,⟨R12,n3'',sA.1⟩,sA.2⟩
           clear sA G12 W12 Z12 R12
           clear P2 C11 G11 R11 ho' n3''
           go_wp2_with fail
           go_roundg (n-(st+1))
           case measure=>have hm:=NX.out.2.2.2.2;clear hwJ hkn hwst;omega
           case rel=>exact⟨st+1,rfl,NX.out.2.2.2.2,le_refl _,τ',F11,g11,v11,NX.out.1,NX.out.2.1,NX.out.2.2.1,NX.out.2.2.2.1⟩
end Go.Proofs.YthpgfmmpjoodkaaGreatDoor
