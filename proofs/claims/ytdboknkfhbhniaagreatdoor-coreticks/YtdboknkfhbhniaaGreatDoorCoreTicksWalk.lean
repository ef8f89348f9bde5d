import Derived.Test.YtdboknkfhbhniaaGreatDoorCoP
open Nat(le_refl)
namespace Go.Proofs.YtdboknkfhbhniaaGreatDoor
set_option maxHeartbeats 8000000
set_option maxRecDepth 100000
set_option linter.unusedVariables false
open Go.RowKit Go.Lib Go.WideMaps Go.Maps
theorem fldNow(n t:Int)(c:Bool)(f:Int)(a1 a2 a3 a4 a5:Option Addr)(n1 n2 n3 n4 n5 c1 c2 c3 c4 c5:Nat)(w:World):(Instr.field 38 (.agg #[.int .u64 n,.int .u64 t,.bool c,.int .i64 f,.slice a1 n1 c1,.slice a2 n2 c2,.slice a3 n3 c3,.slice a4 n4 c4,.slice a5 n5 c5]) 0).run Tryz.prog w=.ok (.int .u64 n) w:=by
 simp[Instr.field,asAgg,part,isAgg,run_underlying Tryz.underlying38,run_underlying Tryz.underlying31,go_sem]
theorem mask_u64(n:Int)(k:Nat)(m K:Int)(h0:0≤n)(h1:n<18446744073709551616)(hm:m.toNat=2^k-1)(hm0:0≤m)(hm1:m<18446744073709551616)(hK:((2^k:Nat):Int)=K):bits .and .u64 n m=n%K:=by
 rw[u64_and n m h0 h1 hm0 hm1,hm,Nat.and_two_pow_sub_one_eq_mod]
 rw[←hK,Int.natCast_emod,Int.toNat_of_nonneg h0]
def dlN(zs:List Int)(k:Nat):Nat:=((zs.getD k 0)%256%200).toNat
theorem dlN_le(zs:List Int)(k:Nat):dlN zs k<200:=by unfold dlN;omega
theorem isT_of{z:Int}(h:(Lit.int .u64 z).wf=true):0≤z∧z<18446744073709551616:=by
 simp only[Lit.wf,IntKind.min,IntKind.max,IntKind.signed,IntKind.bits,Bool.and_eq_true] at h
 obtain⟨h1,h2⟩:=h
 simp at h1 h2
 omega
structure TJ(σ:CS)(i s:Nat):Prop where
 qt:σ.qn+σ.tm.length≤i
 ev:σ.ev.length+σ.tm.length≤2*i+s
theorem TJ.new:TJ (newS 1 16 64) 0 0:=⟨le_refl _,le_refl _⟩
theorem tim_tm{σ:CS}{dl:Nat→Nat}{i now:Nat}(h:TI σ dl i now)(d:Nat):(Wl.addT σ.tm ((σ.T.length:Int)+1) d).length≤σ.tm.length+1:=by
 unfold Wl.addT
 split
 ·rw[Wl.insL_len];exact le_refl _
 ·exact Nat.le_succ _
theorem TJ.wait{σ:CS}{dl:Nat→Nat}{i s now:Nat}(h:TJ σ i s)(k:TI σ dl i now)(d:Nat):TJ (timS σ (Ta.mkT 0 0 0 d 0 0 1) d) (i+1) s:=by
 have h0:=tim_tm k d
 have h1:=h.qt
 have h2:=h.ev
 refine⟨?_,?_⟩
 ·show σ.qn+(Wl.addT σ.tm ((σ.T.length:Int)+1) d).length≤i+1
  omega
 ·show(σ.ev++[_]).length+(Wl.addT σ.tm ((σ.T.length:Int)+1) d).length≤2*(i+1)+s
  simp
  omega
theorem TJ.here{σ:CS}{i s:Nat}(h:TJ σ i s):TJ (subS σ 0 0) (i+1) s:=by
 have h1:=h.qt
 have h2:=h.ev
 refine⟨?_,?_⟩
 ·show σ.qn+1+σ.tm.length≤i+1
  omega
 ·show((σ.ev++[_])++[_]).length+σ.tm.length≤2*(i+1)+s
  simp
  omega
theorem due_rest(thn:Nat)(d:List Wl.Ent):(Wl.dueL thn d).length+(Wl.restL thn d).length=d.length:=by
 induction d with
 | nil=>rfl
 | cons x d ih=>
  unfold Wl.dueL Wl.restL at *
  by_cases c:x.1≤(thn:Int)
  ·have c':¬(thn:Int)<x.1:=by omega
   simp[c,c']
   omega
  ·have c':(thn:Int)<x.1:=by omega
   simp[c,c']
   omega
theorem TJ.adv{σ:CS}{dl:Nat→Nat}{n s was now:Nat}(h:TJ σ n s)(k:TI σ dl n was):TJ (relL 0 (dueI σ now) (tickS σ 0 now)) n (s+1):=by
 have hw:∀j∈dueI σ now,Wt (tickS σ 0 now).T j:=fun j hj=>by
  obtain⟨x,hx,rfl⟩:=List.mem_map.1 hj
  exact k.wt x (Wl.mem_due.1 hx).1
 obtain⟨a,q,e,T⟩:=relL_inv 0 (tickS σ 0 now) (k.dueN now) hw _ (le_refl _)
 rw[List.take_length] at a q e
 have h0:=due_rest now σ.tm
 have h1:=h.qt
 have h2:=h.ev
 have h3:=dueI_len σ now
 have e1:(tickS σ 0 now).ev.length=σ.ev.length+1:=by show(σ.ev++[_]).length=_;simp
 have e2:(tickS σ 0 now).tm=Wl.restL now σ.tm:=rfl
 have e3:(tickS σ 0 now).qn=σ.qn:=rfl
 refine⟨?_,?_⟩
 ·rw[q,a.tm,e2,e3];omega
 ·rw[e,a.tm,e1,e2];omega
theorem coreTicks_walk(a0:Option Addr)(len0 cap0:Nat)(zs:List Int)(a1:Option Addr)(len1 cap1:Nat)(ys:List Int)(w:World)(h0:IsRow .u64 w a0 len0 cap0 zs)(h1:IsRow .u64 w a1 len1 cap1 ys)(hN:Wl.TabW w∧1<w.heap.size) :
  Calls Tryz.prog 3 #[.slice a0 len0 cap0,.slice a1 len1 cap1] w fun e w'=>e=.returned (.bool true)∧Below w.heap.size w w':=by
 have hl0:=h0.len_le
 have hl1:=h1.len_le
 obtain⟨n,hn40,hnl,hnc⟩:∃n:Nat,n≤40∧n≤len0∧((len0≤40∧n=len0)∨(¬len0≤40∧n=40)):=by
  by_cases c:len0≤40
  ·exact⟨len0,c,le_refl _,.inl ⟨c,rfl⟩⟩
  ·exact⟨40,by omega,by omega,.inr ⟨c,rfl⟩⟩
 have HR:Aside (IsRow .u64 w a0 len0 cap0 zs∧IsRow .u64 w a1 len1 cap1 ys∧Wl.TabW w∧1<w.heap.size):=⟨h0,h1,hN.1,hN.2⟩
 obtain⟨S,hS⟩:∃S,w.heap.size=S:=⟨_,rfl⟩
 have P:Calls Tryz.prog 8 #[.agg #[.int .i64 1,.int .i64 16,.int .i64 64]] w fun e w'=>∃D F,e=.returned (.tuple #[pt D.B,.int .i64 0])∧Co w' (w.heap.size+1) D F (.slice none 0 0) (.slice none 0 0) (newS 1 16 64)∧Below w.heap.size w w'∧w.heap.size≤D.wb:=newC2 1 16 64 w (by omega) (by omega) (by omega) (by omega) (by omega)
 have HD:Aside (∀k,dlN zs k<200):=dlN_le zs
 obtain⟨dl,hdl⟩:∃dl,dlN zs=dl:=⟨_,rfl⟩
 rw[hdl] at HD
 have HDL:Aside (dlN zs=dl):=hdl
 have HNC:Aside _:=hnc
 -- one delay,as it is read
 have RD:Aside (∀(W:World)(k:Nat),Below w.heap.size w W→k<n→∃gb off z,a0=some ⟨gb,off,none⟩∧gb<W.heap.size∧W.cell? ⟨gb,off+k,none⟩=some (.int .u64 z)∧∃b:Nat,bits .and .u64 z 255=(b:Int)∧(b:Int)%200=(dl k:Int)∧dl k<200):=by
  intro W k bW hk
  obtain⟨gb,off,e,glt,gc,gw⟩:=h0.at (j:=k) (by omega)
  have hb:bits .and .u64 (zs.getD k 0) 255=zs.getD k 0%256:=mask_u64 _ 8 255 256 (isT_of gw).1 (isT_of gw).2 (by rfl) (by omega) (by omega) rfl
  refine⟨gb,off,zs.getD k 0,e,Nat.lt_of_lt_of_le glt bW.size,by rw[←gc];exact World.cell?_of_block (bW.block gb glt),(zs.getD k 0%256).toNat,by rw[hb];omega,?_,HD.out k⟩
  rw[←hdl]
  unfold dlN
  omega
 have RS:Aside (∀(W:World)(k:Nat),Below w.heap.size w W→k<len1→∃gb off z,a1=some ⟨gb,off,none⟩∧gb<W.heap.size∧W.cell? ⟨gb,off+k,none⟩=some (.int .u64 z)∧∃b:Nat,bits .and .u64 z 63=(b:Int)∧b<64):=by
  intro W k bW hk
  obtain⟨gb,off,e,glt,gc,gw⟩:=h1.at (j:=k) hk
  have hb:bits .and .u64 (ys.getD k 0) 63=ys.getD k 0%64:=mask_u64 _ 6 63 64 (isT_of gw).1 (isT_of gw).2 (by rfl) (by omega) (by omega) rfl
  exact⟨gb,off,ys.getD k 0,e,Nat.lt_of_lt_of_le glt bW.size,by rw[←gc];exact World.cell?_of_block (bW.block gb glt),(ys.getD k 0%64).toNat,by rw[hb];omega,by omega⟩
 clear h0 h1 hN hdl hnc
 go_enter Tryz.func3,Tryz.ntmps3
 go_wp2_with fail
 refine Calls.mono P ?_
 rintro e w1 ⟨D,F1,rfl,C1,b1,hwb⟩
 clear P
 have X1:Aside (Below w.heap.size w w1∧Co w1 (w.heap.size+1) D F1 (.slice none 0 0) (.slice none 0 0) (newS 1 16 64)∧1<D.wb):=⟨b1,C1,Nat.lt_of_lt_of_le HR.out.2.2.2 hwb⟩
 clear C1 b1 hwb
 go_upto_region 4 with fail
 go_cut [7] from 32 to 35 (fun s7 wx=>s7=.int .i64 n∧wx=w1)
 case first=>
  have hnn:=HNC.out
  go_wp2_with fail
  go_meet
  exact⟨congrArg (Value.int .i64) (by omega),rfl⟩
 case rest=>
  obtain⟨rfl,rfl⟩:=hcut
  go_wp2_with fail
  go_loopg [8,9,10] n (fun kx s8 s9 s10 wr=>∃(i:Nat),s8=.int .i64 i∧i≤n∧n-i≤kx∧∃(σ:CS)(Fr:Nat→Nat→Prop)(gr vr:Value),Aside (Co wr (w.heap.size+1) D Fr gr vr σ)∧Aside (Gc (w.heap.size+1) F1 wc Fr wr)∧Aside (TI σ dl i 0∧TJ σ i 0))
  case atStart=>exact⟨0,rfl,by omega,by omega,_,_,_,_,X1.out.2.1,Gc.refl _ _ _,TI.new dl,TJ.new⟩
  case round=>
   obtain⟨i,rfl,hi,hkx,σ,Fr,gr,vr,Cr,Gr,K⟩:=hrel
   have FB:Aside (Below w.heap.size w wr):=X1.out.1.trans (Gr.out.low.mono (by omega))
   by_cases c:i<n
   ·have hlt:(i:Int)<(n:Int):=by omega
    obtain⟨gb,off,z,rfl,glt,gc,b,hb,hr,hd⟩:=RD.out wr i FB.out c
    obtain⟨e,he⟩:∃e,dl i=e:=⟨_,rfl⟩
    rw[he] at hr hd
    have hE:Aside (dl i=e∧e<200∧i<n):=⟨he,hd,c⟩
    obtain⟨I1,hI1⟩:∃I1:Nat,i+1=I1:=⟨_,rfl⟩
    have hwi:IntKind.i64.wrap ((i:Int)+1)=(I1:Int):=by rw[IntKind.wrap_i64];omega
    have HI1:Aside (i+1=I1):=hI1
    have P:Calls Tryz.prog 9 #[pt D.B,.int .i64 0,.int .i64 0,.slice none 0 0,.int .u64 (e:Int)] wr fun r w'=>∃id τ F2 g2 v2,r=.returned (.tuple #[.int .i64 id,.int .i64 0])∧Co w' (w.heap.size+1) D F2 g2 v2 τ∧Gc (w.heap.size+1) F1 wc F2 w'∧TI τ dl (i+1) 0∧TJ τ (i+1) 0:=by
     have K1:=K.out.1
     have K2:=K.out.2
     have t0:0<σ.th:=by rw[K1.th];omega
     have hl:σ.T.length<200:=by rw[K1.len];omega
     have ho:σ.o<σ.n:=by rw[K1.o,K1.n];omega
     have q1:=K2.qt
     have q2:=K2.ev
     by_cases ce:e=0
     ·subst ce
      refine(after0 Cr.out (t:=0) t0 K1.cl hl ho (by omega) (by omega) (by rw[K1.tk];omega) 0 (by omega) (by omega)).mono ?_
      rintro r w' ⟨rfl,F2,g2,v2,C2,G2⟩
      exact⟨_,_,F2,g2,v2,rfl,C2,Gr.out.trans G2,K1.here (by rw[he];omega),K2.here⟩
     ·have hD:Aside (Ta.addT (σ.now:Int) (e:Int)=((e:Nat):Int)):=by
       show Ta.addT (σ.now:Int) (e:Int)=((e:Nat):Int)
       rw[K1.nw]
       unfold Ta.addT
       rw[if_pos (by omega)]
       omega
      refine(afterW Cr.out (t:=0) t0 K1.cl hl ho (by omega) 0 (e:Int) (by omega) (by omega) (by omega) (by rw[K1.nw];unfold Ta.IsT;omega) (by unfold Ta.IsT;omega) hD.out (Nat.lt_trans hd (by decide))).mono ?_
      rintro r w' ⟨rfl,F2,g2,v2,C2,G2⟩
      refine⟨_,_,F2,g2,v2,rfl,C2,Gr.out.trans G2,?_,K2.wait K1 e⟩
      have:=K1.wait (by rw[he];omega) (by omega)
      rw[he] at this
      exact this
    clear hI1 c he hd
    go_wp2_with fail
    refine Calls.mono P ?_
    rintro r w2 ⟨id,τ,F2,g2,v2,rfl,C2,G2,K2⟩
    have NX:Aside (Co w2 (w.heap.size+1) D F2 g2 v2 τ∧Gc (w.heap.size+1) F1 wc F2 w2∧TI τ dl (i+1) 0∧TJ τ (i+1) 0):=⟨C2,G2,K2⟩
    clear P C2 G2 K2 hb hr glt gc
    go_wp2_with fail
    go_roundg (n-(i+1))
    case measure=>have:=hE.out.2.2;omega
    case rel=>exact⟨i+1,congrArg (Value.int .i64) (by have:=HI1.out;omega),hE.out.2.2,le_refl _,τ,F2,g2,v2,NX.out.1,NX.out.2.1,NX.out.2.2⟩
   ·have hnl:¬(i:Int)<(n:Int):=by omega
    have hin:i=n:=by omega
    have SS:Aside (∃(σ:CS)(Fr:Nat→Nat→Prop)(gr vr:Value),Aside (Co wr (w.heap.size+1) D Fr gr vr σ)∧Aside (Gc (w.heap.size+1) F1 wc Fr wr)∧Aside (TI σ dl n 0∧TJ σ n 0)):=⟨σ,Fr,gr,vr,Cr,Gr,by rw[←hin];exact K⟩
    clear hin Cr Gr K
    go_wp2_with fail
    obtain⟨σ1,Fq,gq,vq,Cq,Gq1,Kq⟩:=SS.out
    clear hnl hkx hi
    go_loopg [11,12,13,14,15,16,17,18,19,20] 30 (fun kx s11 s12 s13 s14 s15 s16 s17 s18 s19 s20 wx=>∃(i nw:Nat),s12=.int .i64 i∧s11=.int .u64 nw∧i≤30∧30-i≤kx∧nw≤63*i∧∃(σ:CS)(Fr:Nat→Nat→Prop)(gr vr:Value),Aside (Co wx (w.heap.size+1) D Fr gr vr σ)∧Aside (Gc (w.heap.size+1) F1 wc Fr wx)∧Aside (TI σ dl n nw∧TJ σ n i))
    case atStart=>exact⟨0,0,rfl,rfl,by omega,by omega,by omega,σ1,Fq,gq,vq,Cq,Gq1,Kq.out⟩
    case round=>
     clear Cq Gq1 Kq SS
     obtain⟨i,nw,rfl,rfl,hi,hkx,hnw,σ,Fr,gr,vr,Cr,Gr,K⟩:=hrel
     have FB:Aside (∀(Fz:Nat→Nat→Prop)(W:World),Gc (w.heap.size+1) F1 wc Fz W→Below w.heap.size w W):=fun Fz W G=>X1.out.1.trans (G.low.mono (by omega))
     by_cases c:i<len1∧i<30
     ·obtain⟨c1,c2⟩:=c
      have h1:(i:Int)<(len1:Int):=by omega
      have h2:(i:Int)<30:=by omega
      obtain⟨gb,off,z,rfl,glt,gc,b,hb,hb64⟩:=RS.out wr i (FB.out _ wr Gr.out) c1
      obtain⟨nx,hnx⟩:∃nx:Nat,nw+b=nx:=⟨_,rfl⟩
      have hwx:IntKind.u64.wrap ((nw:Int)+(b:Int))=(nx:Int):=by rw[IntKind.wrap_u64];omega
      have hwb:IntKind.u64.wrap ((nx:Int)-(nw:Int))=(b:Int):=by rw[IntKind.wrap_u64];omega
      obtain⟨I1,hI1⟩:∃I1:Nat,i+1=I1:=⟨_,rfl⟩
      have hwi:IntKind.i64.wrap ((i:Int)+1)=(I1:Int):=by rw[IntKind.wrap_i64];omega
      have HI:Aside (i+1=I1∧nw+b=nx∧b<64∧nw≤63*i∧i<30):=⟨hI1,hnx,hb64,hnw,c2⟩
      clear hI1 hnx hb64 hnw c1 c2
      go_wp2_with fail
      go_loopg [14,15,16] n (fun kx s14 s15 s16 wx=>∃(k ct:Nat),s15=.int .i64 k∧s14=.int .i64 ct∧k≤n∧n-k≤kx∧ct≤k∧Aside (ct=cntW dl nw nx k)∧wx=wr)
      case atStart=>exact⟨0,0,rfl,rfl,by omega,by omega,by omega,rfl,rfl⟩
      case round=>
       obtain⟨k,ct,rfl,rfl,hk,hkx2,hct,H1,rfl⟩:=hrel
       by_cases ck:k<n
       ·have hltk:(k:Int)<(n:Int):=by omega
        obtain⟨gb0,off0,z0,rfl,glt0,gc0,b0,hb0,hr0,hd0⟩:=RD.out _ k (FB.out _ _ Gr.out) ck
        obtain⟨e,he⟩:∃e,dl k=e:=⟨_,rfl⟩
        rw[he] at hr0 hd0
        have hwk:IntKind.i64.wrap ((k:Int)+1)=((k+1:Nat):Int):=by rw[IntKind.wrap_i64];omega
        have hwc:IntKind.i64.wrap ((ct:Int)+1)=((ct+1:Nat):Int):=by rw[IntKind.wrap_i64];omega
        by_cases ce:nw<e∧e≤nx
        ·obtain⟨ce1,ce2⟩:=ce
         have d1:(nw:Int)<(e:Int):=by omega
         have d2:(e:Int)≤(nx:Int):=by omega
         have H2:Aside (ct+1=cntW dl nw nx (k+1)):=by
          show ct+1=cntW dl nw nx (k+1)
          rw[cntW_up,he,if_pos ⟨ce1,ce2⟩,H1.out]
         clear ce1 ce2 H1
         go_wp2_with fail
         go_roundg (n-(k+1))
         case measure=>omega
         case rel=>exact⟨k+1,ct+1,by go_num,by go_num,by omega,le_refl _,by omega,H2,rfl⟩
        ·have H2:Aside (ct=cntW dl nw nx (k+1)):=by
          show ct=cntW dl nw nx (k+1)
          rw[cntW_up,he,if_neg ce,H1.out];rfl
         have ce':¬(nw:Int)<(e:Int)∨((nw:Int)<(e:Int)∧¬(e:Int)≤(nx:Int)):=by omega
         clear ce H1
         rcases ce' with d1|⟨d1,d2⟩
         all_goals go_wp2_with fail
         all_goals go_roundg (n-(k+1))
         all_goals try (case measure=>omega)
         all_goals exact⟨k+1,ct,by go_num,rfl,by omega,le_refl _,by omega,H2,rfl⟩
       ·have hnl:¬(k:Int)<(n:Int):=by omega
        have hkn:k=n:=by omega
        have H2:Aside (ct=cntW dl nw nx n):=by show ct=cntW dl nw nx n;rw[←hkn];exact H1.out
        have K1:=K.out.1
        have K2:=K.out.2
        have P:Calls Tryz.prog 10 #[pt D.B,.int .i64 0,.int .u64 (b:Int)] wr fun r w'=>∃F2 g2 v2,r=.returned (.tuple #[.int .i64 (ct:Int),.int .i64 0])∧Co w' (w.heap.size+1) D F2 g2 v2 (relL 0 (dueI σ nx) (tickS σ 0 nx))∧Gc (w.heap.size+1) Fr wr F2 w':=by
         have q1:=K2.qt
         have q2:=K2.ev
         have h8:=HI.out
         have hle:=Ta.cntP_le isW σ.T
         rw[K1.len] at hle
         have hlt:nx<2000:=by omega
         have hadd:Aside (Ta.addT (σ.now:Int) (b:Int)=(nx:Int)):=by
          show Ta.addT (σ.now:Int) (b:Int)=(nx:Int)
          rw[K1.nw]
          unfold Ta.addT
          rw[if_pos (by omega)]
          omega
         have hgc:=X1.out.1.trans (Gr.out.low.mono (Nat.le_succ w.heap.size))
         have P:=advC Cr.out (t:=0) (n:=b) (thn:=nx) (by rw[K1.th];omega) (by unfold Ta.IsT;omega) (by rw[K1.nw];unfold Ta.IsT;omega) hadd.out (by rw[K1.nw];omega) (Nat.lt_trans hlt (by decide)) (tabW_of HR.out.2.2.1 hgc HR.out.2.2.2 HR.out.2.2.2) X1.out.2.2 (by omega) (by rw[K1.len];omega) (by omega) (by rw[K1.tk];omega) K1.wt K1.ids
         refine P.mono ?_
         rintro r w' ⟨rfl,F2,g2,v2,C2,G2⟩
         exact⟨F2,g2,v2,by rw[K1.count nx,←H2.out],C2,G2⟩
        obtain⟨τ,hτ⟩:∃τ,relL 0 (dueI σ nx) (tickS σ 0 nx)=τ:=⟨_,rfl⟩
        rw[hτ] at P
        have KT:Aside (TI τ dl n nx∧TJ τ n (i+1)):=by
         show TI τ dl n nx∧TJ τ n (i+1)
         rw[←hτ]
         exact⟨K1.adv (by have:=HI.out;omega),K2.adv K1⟩
        clear H1 H2 hkn hnl hk hkx2 K1 K2 hτ hwi
        go_wp2_with fail
        refine Calls.mono P ?_
        rintro r w2 ⟨F2,g2,v2,rfl,C2,G2⟩
        have P:=stateC C2 (by have:=KT.out.2.qt;omega)
        have X2:Aside (Gc (w.heap.size+1) F1 wc F2 w2):=Gr.out.trans G2
        clear C2 G2 glt gc hb hwx hwb
        go_wp2_with fail
        refine Calls.mono P ?_
        rintro r w3 ⟨KT3,cs,s1,n1,c1,s2,n2,c2',s3,n3,c3,s4,c4,F3,g3,v3,rfl,C3,G3,BT,fil⟩
        rw[KT.out.1.nw]
        have X3:Aside (Co w3 (w.heap.size+1) D F3 g3 v3 τ∧Gc (w.heap.size+1) F1 wc F3 w3):=⟨C3,X2.out.trans G3⟩
        obtain⟨u2,hu2⟩:∃u,τ.tk=u:=⟨_,rfl⟩
        obtain⟨u3,hu3⟩:∃u,τ.cl=u:=⟨_,rfl⟩
        obtain⟨u4,hu4⟩:∃u,(τ.n:Int)-τ.o=u:=⟨_,rfl⟩
        obtain⟨u5,hu5⟩:∃u,τ.T.length=u:=⟨_,rfl⟩
        obtain⟨u6,hu6⟩:∃u,τ.tm.length=u:=⟨_,rfl⟩
        rw[hu2,hu3,hu4,hu5,hu6]
        clear P C3 G3 BT fil hu2 hu3 hu4 hu5 hu6
        have ff:=fldNow nx u2 u3 u4 (some ⟨KT3,0,none⟩) s1 s2 s3 s4 u5 n1 n2 n3 u6 u5 c1 c2' c3 c4 w3
        go_wp2_with fail
        clear ff
        go_loopg [19,20] n (fun kx s19 s20 wx=>∃(k:Nat),s19=.int .i64 k∧k≤n∧n-k≤kx∧∃(Fr:Nat→Nat→Prop)(gr vr:Value),Aside (Co wx (w.heap.size+1) D Fr gr vr τ)∧Aside (Gc (w.heap.size+1) F1 wc Fr wx))
        case atStart=>exact⟨0,rfl,by omega,by omega,F3,g3,v3,X3.out.1,X3.out.2⟩
        case round=>
         obtain⟨k,rfl,hk,hkx2,F4,g4,v4,C4,G4⟩:=hrel
         by_cases ck:k<n
         ·have hltk:(k:Int)<(n:Int):=by omega
          obtain⟨gb0,off0,z0,rfl,glt0,gc0,b0,hb0,hr0,hd0⟩:=RD.out _ k (FB.out _ _ G4.out) ck
          obtain⟨x,hx,hp,hs⟩:=KT.out.1.at' k ck
          obtain⟨e,he⟩:∃e,dl k=e:=⟨_,rfl⟩
          rw[he] at hr0 hd0 hs
          have P:=statusC C4.out hx
          obtain⟨K1,hK1⟩:∃K1:Nat,k+1=K1:=⟨_,rfl⟩
          have hwk:IntKind.i64.wrap ((k:Int)+1)=(K1:Int):=by rw[IntKind.wrap_i64];omega
          rw[show((k:Int)+1)=(K1:Int) by omega] at P
          have HK1:Aside (k+1=K1):=hK1
          by_cases ce:e≤nx
          ·rw[hs,if_pos ce] at P
           have d2:(e:Int)≤(nx:Int):=by omega
           have hq:((2:Int)==2)=true:=rfl
           clear hs hx hp hK1 he ce
           go_wp2_with fail
           refine Calls.mono P ?_
           rintro r w5 ⟨rfl,F5,g5,v5,C5,G5⟩
           have NX:Aside (Co w5 (w.heap.size+1) D F5 g5 v5 τ∧Gc (w.heap.size+1) F1 wc F5 w5):=⟨C5,G4.out.trans G5⟩
           clear P C5 G5 glt0 gc0
           go_wp2_with fail
           go_roundg (n-(k+1))
           case measure=>omega
           case rel=>exact⟨k+1,congrArg (Value.int .i64) (by have:=HK1.out;omega),by omega,le_refl _,F5,g5,v5,NX.out.1,NX.out.2⟩
          ·rw[hs,if_neg ce] at P
           have d2:¬(e:Int)≤(nx:Int):=by omega
           have hq:((1:Int)==2)=false:=rfl
           clear hs hx hp hK1 he ce
           go_wp2_with fail
           refine Calls.mono P ?_
           rintro r w5 ⟨rfl,F5,g5,v5,C5,G5⟩
           have NX:Aside (Co w5 (w.heap.size+1) D F5 g5 v5 τ∧Gc (w.heap.size+1) F1 wc F5 w5):=⟨C5,G4.out.trans G5⟩
           clear P C5 G5 glt0 gc0
           go_wp2_with fail
           go_roundg (n-(k+1))
           case measure=>omega
           case rel=>exact⟨k+1,congrArg (Value.int .i64) (by have:=HK1.out;omega),by omega,le_refl _,F5,g5,v5,NX.out.1,NX.out.2⟩
         ·have hnl:¬(k:Int)<(n:Int):=by omega
          have NX:Aside (Co wr (w.heap.size+1) D F4 g4 v4 τ∧Gc (w.heap.size+1) F1 wc F4 wr):=⟨C4.out,G4.out⟩
          have hwi:IntKind.i64.wrap ((i:Int)+1)=(I1:Int):=by have:=HI.out;rw[IntKind.wrap_i64];omega
          clear C4 G4
          go_wp2_with fail
          go_roundg (30-(i+1))
          case measure=>have:=HI.out;omega
          case rel=>exact⟨i+1,nx,congrArg (Value.int .i64) (by have:=HI.out;omega),rfl,by have:=HI.out;omega,le_refl _,by have:=HI.out;omega,τ,F4,g4,v4,NX.out.1,NX.out.2,KT⟩
     ·have P:=awakeC wr
      have c':¬((i:Int)<(len1:Int))∨((i:Int)<(len1:Int)∧¬((i:Int)<30)):=by omega
      have FIN:Aside (Below w.heap.size w wr):=FB.out _ wr Gr.out
      clear c
      rcases c' with h1|⟨h1,h2⟩
      all_goals
       go_wp2_with fail
       refine P.mono ?_
       rintro r w2 ⟨rfl,b2⟩
       have FI2:Aside (Below w.heap.size w w2):=FIN.out.trans (b2.mono FIN.out.size)
       clear b2
       go_wp2_with fail
       go_ret
       exact⟨rfl,FI2.out⟩
end Go.Proofs.YtdboknkfhbhniaaGreatDoor
