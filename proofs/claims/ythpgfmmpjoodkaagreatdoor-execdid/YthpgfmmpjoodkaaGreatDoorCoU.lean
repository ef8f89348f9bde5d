import Derived.Test.YthpgfmmpjoodkaaGreatDoorCoL
open Nat(le_trans)
namespace Go.Proofs.YthpgfmmpjoodkaaGreatDoor
set_option maxHeartbeats 8000000
set_option maxRecDepth 100000
set_option linter.unusedVariables false
section
open Go.RowKit Go.Lib Go.WideMaps Go.Maps
variable {w w' u:World}{L i:Nat}{D:CAd}{F F':Nat->Nat->Prop}{g v:Value}{σ:CS}{x:Ta.TR}
theorem infoEs:∃i,Tryz.prog.info? 33=some i/\i.zero=some (.slice none 0 0)/\i.size=1/\i.bytes=24:=by
 have h:(Tryz.prog.info? 33).map (fun i=>(i.zero,i.size,i.bytes))=some (some (.slice none 0 0),1,24):=by kernel_rfl
 obtain⟨i,h1,h2⟩:=Option.map_eq_some_iff.1 h;simp at h2;exact⟨i,h1,h2.1,h2.2.1,h2.2.2⟩
theorem makeEs(w:World)(n:Nat)(hn:n<=8) :
  ∃cs:Array Value,(Instr.makeSlice 38 (.int .i64 (n:Int)) (.int .i64 (n:Int))).run Tryz.prog w=.ok (.slice (some ⟨w.heap.size,0,none⟩) n n) (w.alloc (.cells cs 33))/\cs.size=n:=by
 obtain⟨i,hi,hz,hs,hby⟩:=infoEs;have hm:=run_make (P:=Tryz.prog) w 38 33 i _ Tryz.underlying38 hi hz .i64 .i64 n n (by omega) (Int.le_refl _) (by rw[hby];omega) (by omega);simp only[Int.toNat_natCast,hs] at hm;exact⟨_,hm,by simp[madeCells]⟩
theorem localsC(C:Co w L D F g v σ):Calls Tryz.prog 54 #[pt D.B] w fun e w'=>∃K,e=.returned (.slice (some ⟨K,0,none⟩) σ.th σ.th)/\Below w.heap.size w w':=by
 have c0:=C.c0;obtain⟨n,hn⟩:∃n,σ.th=n:=⟨_,rfl⟩;obtain⟨cs0,hmk,hcs⟩:=makeEs w n (by have:=C.th8;omega);obtain⟨u,hu⟩:∃z,w.alloc (.cells cs0 33)=z:=⟨_,rfl⟩;rw[hu] at hmk;obtain⟨K,hK⟩:∃K,w.heap.size=K:=⟨_,rfl⟩;have b0:Below w.heap.size w u:=by rw[<-hu];exact belA _ _
 have hB:u.heap[K]?=some (.cells cs0 33 (0,0)):=by rw[<-hu,<-hK];exact heap_alloc_new w _
 have HC:Aside (Co w L D F g v σ/\σ.th=n/\w.heap.size=K):=⟨C,hn,hK⟩;have ST:Aside (Below w.heap.size w u/\u.heap[K]?=some (.cells cs0 33 (0,0))/\cs0.size=n):=⟨b0,hB,hcs⟩;have hn8:n<=8:=by have:=C.th8;omega
 rw[hK] at hmk;rw[hn] at c0;rw[hn];clear C hu b0 hB hcs hn;go_enter Tryz.func54,Tryz.ntmps54
 go_wp2_with fail
 go_loopg [4,13] n (fun kx s4 s13 wr=>∃(k:Nat),s13=.int .i64 k/\k<=n/\n-k<=kx/\Aside (Below w.heap.size w wr/\∃cs,wr.heap[K]?=some (.cells cs 33 (0,0))/\cs.size=n))
 case atStart=>exact⟨0,rfl,by omega,by omega,ST.out.1,cs0,ST.out.2.1,ST.out.2.2⟩
 case round=>
  obtain⟨k,rfl,hk,hkx,S1⟩:=hrel;by_cases c:k<n
  ·have hlt:(k:Int)<(n:Int):=by omega
   have C1:=HC.out.1.below S1.out.1;have c4:=C1.c4;obtain⟨m,hm⟩:∃m,(σ.q.ls k).flatten.length=m:=⟨_,rfl⟩;have P:=Qu.qlocal_in wr L D.A σ.th σ.k σ.qn σ.q k m C1.que C1.qok C1.k16 (by rw[HC.out.2.1];exact c) C1.th8 hm;clear C1 hm
   go_wp2_with fail
   refine Calls.mono P ?_;rintro e w2 ⟨a2,cap2,rfl,o2,b2⟩;clear P c4 o2;obtain⟨b1,cs,hcs,hsz⟩:=S1.out;have hK2:w2.heap[K]?=some (.cells cs 33 (0,0)):=(b2.block K (lt_of_block hcs)).trans hcs;have m0:w2.cell? ⟨K,k,none⟩=some (cs[k]'(by omega)):=by rw[cell_of_row _ _ _ _ _ _ hK2,Array.getElem?_eq_getElem (by omega)]
   obtain⟨z0,hz0⟩:∃z,cs[k]'(by omega)=z:=⟨_,rfl⟩;rw[hz0] at m0;have mlt:=lt_of_block hK2;have mfz:∀o,w2.frozen? ⟨K,o,none⟩=false:=(fun o=>by simp[World.frozen?,hK2]);have FIN:Aside (Below w.heap.size w (w2.setCell ⟨K,k,none⟩ (.slice a2 m cap2))/\∃cs,(w2.setCell ⟨K,k,none⟩ (.slice a2 m cap2)).heap[K]?=some (.cells cs 33 (0,0))/\cs.size=n):=⟨(belT b1 b2).setCell (by rw[HC.out.2.2];exact Nat.le_refl _) _,_,set_at hK2 _,by simp;exact hsz⟩;clear b1 b2 hcs hsz hK2 S1 hz0
   go_wp2_with fail
   go_roundg (n-(k+1))
   case measure=>omega
   case rel=>exact⟨k+1,by go_num,by omega,Nat.le_refl _,FIN⟩
  ·have hnl:¬(k:Int)<(n:Int):=by omega
   have FIN:Aside (Below w.heap.size w wr):=S1.out.1;clear S1
   go_wp2_with fail
   go_ret;exact⟨⟨K,rfl⟩,by first|exact FIN.out|(rw[HC.out.2.2];exact FIN.out)|(rw[<-HC.out.2.2];exact FIN.out)⟩
def StIs(L:Nat)(D:CAd)(F:Nat->Nat->Prop)(w:World)(σ:CS)(e:Ending)(w':World):Prop:=∃K cs s1 n1 c1 s2 n2 c2 s3 n3 c3 s4 c4 F' g' v',e=.returned (.agg #[.int .u64 σ.now,.int .u64 σ.tk,.bool σ.cl,.int .i64 ((σ.n:Int)-σ.o),.slice (some ⟨K,0,none⟩) σ.T.length σ.T.length,.slice s1 n1 c1,.slice s2 n2 c2,.slice s3 n3 c3,.slice s4 σ.tm.length c4])/\Co w' L D F' g' v' σ/\Gc L F w F' w'/\Bx w' F' K cs 45/\Fil cs σ.T σ.T.length
theorem Co.hd6(C:Co w L D F g v σ):w.cell? ⟨D.B,3,none⟩=some (pt D.Bt)/\w.cell? ⟨D.B,4,none⟩=some (pt D.A.B)/\w.cell? ⟨D.B,5,none⟩=some (pt D.Bw)/\w.cell? ⟨D.B,7,none⟩=some (pt D.ca)/\w.cell? ⟨D.B,8,none⟩=some (.int .u64 σ.tk)/\w.cell? ⟨D.B,9,none⟩=some (.bool σ.cl):=⟨C.c3,C.c4,C.c5,C.c7,C.c8,C.c9⟩
theorem Co.fr1{K:Nat}{cs:Array Value}{U:TypeId}(C:Co w L D F g v σ)(hB:Bx w F K cs U)(hU:¬QT U)(f:Ta.Fr (fun k=>k=K) w w'):Co w' L D F g v σ:=by
 have KK:K8 (fun q=>False) w' L D F g v σ:=C.keep (fun q=>False) f (fun q _ k hk hy=>by subst hy;exact hB.2 q hk) (fun _ k hk=>by subst hk;exact nq_of hB.1 hU);exact⟨KK.head (by simp),KK.tab (by simp),KK.que (by simp),KK.whl (by simp),KK.dag (by simp),KK.cre (by simp),KK.evs (by simp),KK.gon (by simp),C.f0,C.f2,C.f5,C.f6,C.f7,C.f8,C.fp.grow f.size,le_trans C.lw f.size,le_trans C.wb f.size,C.qok,C.th1,C.th8,C.k16⟩
theorem Gc.own{w0:World}{F0:Nat->Nat->Prop}{K:Nat}(G:Gc L F0 w0 F w)(hK:w0.heap.size<=K)(hL:L<=w0.heap.size)(f:Ta.Fr (fun k=>k=K) w w'):Gc L F0 w0 F w':=
 ⟨⟨G.low.trans (f.toBelow (fun k hk=>by subst hk;exact le_trans hL hK) (le_trans hL G.size)),fun k hk hF hU=>(f.block k (Nat.lt_of_lt_of_le hk G.size) (fun e=>by subst e;omega)).trans (G.block k hk hF hU),G.new⟩,fun k cs fr hk=>by
  obtain⟨cs',h1,e1⟩:=G.hd k cs fr hk;exact⟨cs',(f.block k (lt_of_block h1) (fun e=>by have:=lt_of_block hk;omega)).trans h1,e1⟩⟩
theorem mq_st:¬Qu.MQ 41:=by unfold Qu.MQ;decide
theorem qt_st:¬QT 41:=by unfold QT;decide
theorem Co.freeC(C:Co w L D F g v σ):Calls Tryz.prog 51 #[pt D.ca] w fun e w'=>e=.returned (.int .i64 ((σ.n:Int)-σ.o))/\Cox L D F w σ w':=by
 refine(Ca.free_any w C.cre).mono ?_;rintro e w' ⟨rfl,h,s⟩;obtain⟨C',G'⟩:=C.setCre h s;exact⟨rfl,_,_,_,C',G'⟩
theorem Co.allC(C:Co w L D F g v σ):Calls Tryz.prog 52 #[pt D.Bt] w fun e w'=>∃K cs,e=.returned (.slice (some ⟨K,0,none⟩) σ.T.length σ.T.length)/\∃F',(∃g' v',Co w' L D F' g' v' σ)/\Gc L F w F' w'/\Bx w' F' K cs 45/\Fil cs σ.T σ.T.length:=by
 refine(allT C.tab).mono ?_;rintro e w' ⟨K,cs,rfl,lK,hK,fil,T',f⟩;obtain⟨C',G'⟩:=C.setTab T' ⟨f,fun k hk=>.inl hk⟩;rw[fset_id] at C' G';exact⟨K,cs,rfl,F,⟨_,_,C'⟩,G',⟨hK,fun p hp=>by have:=C.fp.lt p K hp;omega⟩,fil⟩
theorem Co.slotsC(C:Co w L D F g v σ):Calls Tryz.prog 53 #[pt D.A.B] w fun e w'=>∃a n cap,e=.returned (.slice a n cap)/\Below w.heap.size w w':=by
 refine Calls.mono (Qu.qslots_any w L D.A σ.th σ.k σ.q _ C.que rfl) ?_;rintro e w' ⟨a,cap,rfl,_,b⟩;exact⟨a,_,cap,rfl,b⟩
theorem Co.sharedC(C:Co w L D F g v σ)(hn:σ.qn<=1000):Calls Tryz.prog 55 #[pt D.A.B] w fun e w'=>∃a n cap,e=.returned (.slice a n cap)/\Below w.heap.size w w':=by
 refine Calls.mono (Qu.qshared_any w L D.A σ.th σ.k σ.qn σ.q _ C.que C.qok hn rfl) ?_;rintro e w' ⟨a,cap,rfl,_,b⟩;exact⟨a,_,cap,rfl,b⟩
theorem Co.wallC(C:Co w L D F g v σ):Calls Tryz.prog 56 #[pt D.Bw] w fun e w'=>∃a cap,e=.returned (.slice a σ.tm.length cap)/\Wl.OwnF w' w.heap.size (.slice a σ.tm.length cap) σ.tm/\Below w.heap.size w w':=by
 refine Calls.mono (Wl.all_any C.whl) ?_;rintro e w' ⟨v,rfl,o,b⟩;rcases o with⟨hd,hv|⟨gg,off,hv⟩⟩|⟨gg,off,cap,hv,r⟩
 ·refine⟨none,0,?_,.inl ⟨hd,.inl ?_⟩,b⟩
  ·rw[hv,hd];rfl
  ·rw[hd];rfl
 ·refine⟨some ⟨gg,off,none⟩,0,?_,.inl ⟨hd,.inr ⟨gg,off,?_⟩⟩,b⟩
  ·rw[hv,hd];rfl
  ·rw[hd];rfl
 ·exact⟨some ⟨gg,off,none⟩,cap,by rw[hv],.inr ⟨gg,off,cap,rfl,r⟩,b⟩
def z9:Array Value:=#[.int .u64 0,.int .u64 0,.bool false,.int .i64 0,.slice none 0 0,.slice none 0 0,.slice none 0 0,.slice none 0 0,.slice none 0 0]
def set9(w:World)(K:Nat)(a0 a1 a2 a3 a4 a5 a6 a7 a8:Value):World:=((((((((w.setCell ⟨K,0,none⟩ a0).setCell ⟨K,1,none⟩ a1).setCell ⟨K,2,none⟩ a2).setCell ⟨K,3,none⟩ a3).setCell ⟨K,4,none⟩ a4).setCell ⟨K,5,none⟩ a5).setCell ⟨K,6,none⟩ a6).setCell ⟨K,7,none⟩ a7).setCell ⟨K,8,none⟩ a8
theorem set9_fr(w:World)(K:Nat)(a0 a1 a2 a3 a4 a5 a6 a7 a8:Value):Ta.Fr (fun k=>k=K) w (set9 w K a0 a1 a2 a3 a4 a5 a6 a7 a8):=by
 have sK:∀(u0:World)(j:Nat)(z:Value),Ta.Fr (fun k=>k=K) u0 (u0.setCell ⟨K,j,none⟩ z):=fun u0 j z=>Ta.Fr.setCell (fun k=>k=K) u0 K j z rfl;exact((((((((sK w 0 _).trans (sK _ 1 _) (fun j hj=>.inl hj)).trans (sK _ 2 _) (fun j hj=>.inl hj)).trans (sK _ 3 _) (fun j hj=>.inl hj)).trans (sK _ 4 _) (fun j hj=>.inl hj)).trans (sK _ 5 _) (fun j hj=>.inl hj)).trans (sK _ 6 _) (fun j hj=>.inl hj)).trans (sK _ 7 _) (fun j hj=>.inl hj)).trans (sK _ 8 _) (fun j hj=>.inl hj)
theorem set9_at{w:World}{K:Nat}(h:w.heap[K]?=some (.cells z9 41 (0,0)))(a0 a1 a2 a3 a4 a5 a6 a7 a8:Value):(set9 w K a0 a1 a2 a3 a4 a5 a6 a7 a8).heap[K]?=some (.cells #[a0,a1,a2,a3,a4,a5,a6,a7,a8] 41 (0,0)):=by
 unfold set9;rw[set_at (set_at (set_at (set_at (set_at (set_at (set_at (set_at (set_at h a0) a1) a2) a3) a4) a5) a6) a7) a8];simp[z9]
theorem stateC(C:Co w L D F g v σ)(hn:σ.qn<=1000):Calls Tryz.prog 11 #[pt D.B] w (StIs L D F w σ):=by
 obtain⟨K,hK⟩:∃J,w.heap.size=J:=⟨_,rfl⟩;obtain⟨u,hu⟩:∃z,w.alloc (.cells z9 41)=z:=⟨_,rfl⟩;have b0:Below w.heap.size w u.drew:=by rw[<-hu];exact(belA _ _).drew
 have BK:Bx u.drew F K z9 41:=by rw[<-hu,<-hK];exact Bx.new C _ _
 have C0:=C.below b0;have HC:Aside (Co u.drew L D F g v σ/\Gc L F w F u.drew/\Bx u.drew F K z9 41/\σ.qn<=1000/\L<=w.heap.size/\w.heap.size=K):=⟨C0,Gc.below F C.lw b0,BK,hn,C.lw,hK⟩;have h0:=C0.hd6;have NW:Aside (Calls Tryz.prog 50 #[pt D.Bw] u.drew fun e w'=>e=.returned (.int .u64 σ.now)/\w'=u.drew):=Wl.now_any C0.whl;have PF:Aside (Calls Tryz.prog 51 #[pt D.ca] u.drew fun e w'=>e=.returned (.int .i64 ((σ.n:Int)-σ.o))/\Cox L D F u.drew σ w'):=C0.freeC;obtain⟨fr,hfr⟩:∃fr,(σ.n:Int)-σ.o=fr:=⟨_,rfl⟩;rw[hfr] at PF;obtain⟨nT,hnT⟩:∃nT,σ.T.length=nT:=⟨_,rfl⟩;obtain⟨nM,hnM⟩:∃nT,σ.tm.length=nT:=⟨_,rfl⟩;obtain⟨nH,hnH⟩:∃nT,σ.th=nT:=⟨_,rfl⟩;have HL:Aside ((σ.n:Int)-σ.o=fr/\σ.T.length=nT/\σ.tm.length=nM/\σ.th=nH):=⟨hfr,hnT,hnM,hnH⟩;have HU:Aside (w.alloc (.cells #[.int .u64 0,.int .u64 0,.bool false,.int .i64 0,.slice none 0 0,.slice none 0 0,.slice none 0 0,.slice none 0 0,.slice none 0 0] 41)=u):=hu;have HK:Aside _:=hK;clear C C0 hu hK b0 BK hn hfr hnT hnM hnH;go_enter Tryz.func11,Tryz.ntmps11
 go_upto_region 1 with fail
 rw[HU.out];try simp only[HK.out]
 go_region_held3 (fun W=>W.cell? ⟨D.B,3,none⟩=some (pt D.Bt)/\W.cell? ⟨D.B,4,none⟩=some (pt D.A.B)/\W.cell? ⟨D.B,5,none⟩=some (pt D.Bw)/\W.cell? ⟨D.B,7,none⟩=some (pt D.ca)/\W.cell? ⟨D.B,8,none⟩=some (.int .u64 σ.tk)/\W.cell? ⟨D.B,9,none⟩=some (.bool σ.cl)) (first|with_reducible exact h0|with_reducible exact h1|with_reducible exact h2|with_reducible exact h3|with_reducible exact h4|with_reducible exact h5|with_reducible exact h6|exact K9.out _ _ _ _ _ _ _ _ _)
  ((first
   | (go_at_call 56;(with_reducible refine Calls.mono PW.out ?_);rintro e w6 ⟨s4,c4,rfl,b6⟩;have C6:Aside (Co w6 L D F2 g2 v2 σ):=C5.out.below b6;have h6:=C6.out.hd6;have B6:Aside (Bx w6 F2 K z9 41/\Bx w6 F2 KT cs 45):=⟨B5.out.1.below b6,B5.out.2.below b6⟩;have K9:Aside (∀a0 a1 a2 a3 a4 a5 a6 a7 a8,(set9 w6 K a0 a1 a2 a3 a4 a5 a6 a7 a8).cell? ⟨D.B,3,none⟩=some (pt D.Bt)/\(set9 w6 K a0 a1 a2 a3 a4 a5 a6 a7 a8).cell? ⟨D.B,4,none⟩=some (pt D.A.B)/\(set9 w6 K a0 a1 a2 a3 a4 a5 a6 a7 a8).cell? ⟨D.B,5,none⟩=some (pt D.Bw)/\(set9 w6 K a0 a1 a2 a3 a4 a5 a6 a7 a8).cell? ⟨D.B,7,none⟩=some (pt D.ca)/\(set9 w6 K a0 a1 a2 a3 a4 a5 a6 a7 a8).cell? ⟨D.B,8,none⟩=some (.int .u64 σ.tk)/\(set9 w6 K a0 a1 a2 a3 a4 a5 a6 a7 a8).cell? ⟨D.B,9,none⟩=some (.bool σ.cl)):=(fun a0 a1 a2 a3 a4 a5 a6 a7 a8=>(C6.out.fr1 B6.out.1 qt_st (set9_fr w6 K a0 a1 a2 a3 a4 a5 a6 a7 a8)).hd6);have m0:w6.cell? ⟨K,0,none⟩=some (.int .u64 0):=(B6.out.1.cell 0);have m1:w6.cell? ⟨K,1,none⟩=some (.int .u64 0):=(B6.out.1.cell 1);have m2:w6.cell? ⟨K,2,none⟩=some (.bool false):=(B6.out.1.cell 2);have m3:w6.cell? ⟨K,3,none⟩=some (.int .i64 0):=(B6.out.1.cell 3);have m4:w6.cell? ⟨K,4,none⟩=some (.slice none 0 0):=(B6.out.1.cell 4);have m5:w6.cell? ⟨K,5,none⟩=some (.slice none 0 0):=(B6.out.1.cell 5);have m6:w6.cell? ⟨K,6,none⟩=some (.slice none 0 0):=(B6.out.1.cell 6);have m7:w6.cell? ⟨K,7,none⟩=some (.slice none 0 0):=(B6.out.1.cell 7);have m8:w6.cell? ⟨K,8,none⟩=some (.slice none 0 0):=(B6.out.1.cell 8);have mlt:=lt_of_block B6.out.1.1;have mfz:∀o,w6.frozen? ⟨K,o,none⟩=false:=(fun o=>by simp[World.frozen?,B6.out.1.1]))
   | (go_at_call 55;(with_reducible refine Calls.mono PH.out ?_);rintro e w5 ⟨s3,n3,c3,rfl,b5⟩;have C5:Aside (Co w5 L D F2 g2 v2 σ):=C4.out.below b5;have h5:=C5.out.hd6;have B5:Aside (Bx w5 F2 K z9 41/\Bx w5 F2 KT cs 45):=⟨B4.out.1.below b5,B4.out.2.below b5⟩;have PW:Aside (Calls Tryz.prog 56 #[pt D.Bw] w5 fun e w'=>∃a cap,e=.returned (.slice a nM cap)/\Below w5.heap.size w5 w'):=(by have:=C5.out.wallC;rw[HL.out.2.2.1] at this;exact this.mono (fun e w' ⟨a,cap,h1,_,h2⟩=>⟨a,cap,h1,h2⟩)))
   | (go_at_call 54;(with_reducible refine Calls.mono PL.out ?_);rintro e w4 ⟨K4,rfl,b4⟩;have C4:Aside (Co w4 L D F2 g2 v2 σ):=C3.out.below b4;have h4:=C4.out.hd6;have B4:Aside (Bx w4 F2 K z9 41/\Bx w4 F2 KT cs 45):=⟨B3.out.1.below b4,B3.out.2.below b4⟩;have PH:Aside (Calls Tryz.prog 55 #[pt D.A.B] w4 fun e w'=>∃a n cap,e=.returned (.slice a n cap)/\Below w4.heap.size w4 w'):=C4.out.sharedC HC.out.2.2.2.1)
   | (go_at_call 53;(with_reducible refine Calls.mono PS.out ?_);rintro e w3 ⟨s1,n1,c1,rfl,b3⟩;have C3:Aside (Co w3 L D F2 g2 v2 σ):=C2.out.below b3;have h3:=C3.out.hd6;have B3:Aside (Bx w3 F2 K z9 41/\Bx w3 F2 KT cs 45):=⟨B2.out.1.below b3,B2.out.2.below b3⟩;have PL:Aside (Calls Tryz.prog 54 #[pt D.B] w3 fun e w'=>∃K,e=.returned (.slice (some ⟨K,0,none⟩) nH nH)/\Below w3.heap.size w3 w'):=(by have:=localsC C3.out;rw[HL.out.2.2.2] at this;exact this))
   | (go_at_call 52;(with_reducible refine Calls.mono PT.out ?_);rintro e w2 ⟨KT,cs,rfl,F2,⟨g2,v2,C2'⟩,G2,BT,fil⟩;have C2:Aside (Co w2 L D F2 g2 v2 σ):=C2';have h2:=C2'.hd6;have B2:Aside (Bx w2 F2 K z9 41/\Bx w2 F2 KT cs 45):=⟨B1.out.gc mq_st G2,BT⟩;have X2:Aside (Gc L F w F2 w2):=X1.out.trans G2;have FIL:Aside _:=fil;have PS:Aside (Calls Tryz.prog 53 #[pt D.A.B] w2 fun e w'=>∃a n cap,e=.returned (.slice a n cap)/\Below w2.heap.size w2 w'):=C2'.slotsC;clear C2' G2 BT fil)
   | (go_at_call 51;(with_reducible refine Calls.mono PF.out ?_);rintro e w1 ⟨rfl,F1,g1,v1,C1,G1⟩;have h1:=C1.hd6;have B1:Aside (Bx w1 F1 K z9 41):=HC.out.2.2.1.gc mq_st G1;have X1:Aside (Gc L F w F1 w1):=HC.out.2.1.trans G1;have PT:Aside (Calls Tryz.prog 52 #[pt D.Bt] w1 fun e w'=>∃K cs,e=.returned (.slice (some ⟨K,0,none⟩) nT nT)/\∃F',(∃g' v',Co w' L D F' g' v' σ)/\Gc L F1 w1 F' w'/\Bx w' F' K cs 45/\Fil cs σ.T nT):=(by have:=C1.allC;rw[HL.out.2.1] at this;exact this);clear C1 G1)
   | (go_at_call 50;(with_reducible refine Calls.mono NW.out ?_);rintro e v2 ⟨rfl,rfl⟩)))
 have E:Aside ((set9 w6 K (.int .u64 σ.now) (.int .u64 σ.tk) (.bool σ.cl) (.int .i64 fr) (.slice (some ⟨KT,0,none⟩) nT nT) (.slice s1 n1 c1) (.slice (some ⟨K4,0,none⟩) nH nH) (.slice s3 n3 c3) (.slice s4 nM c4)).heap[K]?=some (.cells #[.int .u64 σ.now,.int .u64 σ.tk,.bool σ.cl,.int .i64 fr,.slice (some ⟨KT,0,none⟩) nT nT,.slice s1 n1 c1,.slice (some ⟨K4,0,none⟩) nH nH,.slice s3 n3 c3,.slice s4 nM c4] 41 (0,0))):=set9_at B6.out.1.1 _ _ _ _ _ _ _ _ _
 have FIN:Aside (StIs L D F w σ (.returned (.agg #[.int .u64 σ.now,.int .u64 σ.tk,.bool σ.cl,.int .i64 fr,.slice (some ⟨KT,0,none⟩) nT nT,.slice s1 n1 c1,.slice (some ⟨K4,0,none⟩) nH nH,.slice s3 n3 c3,.slice s4 nM c4])) (set9 w6 K (.int .u64 σ.now) (.int .u64 σ.tk) (.bool σ.cl) (.int .i64 fr) (.slice (some ⟨KT,0,none⟩) nT nT) (.slice s1 n1 c1) (.slice (some ⟨K4,0,none⟩) nH nH) (.slice s3 n3 c3) (.slice s4 nM c4))):=by
  have f:=set9_fr w6 K (.int .u64 σ.now) (.int .u64 σ.tk) (.bool σ.cl) (.int .i64 fr) (.slice (some ⟨KT,0,none⟩) nT nT) (.slice s1 n1 c1) (.slice (some ⟨K4,0,none⟩) nH nH) (.slice s3 n3 c3) (.slice s4 nM c4);have G6:Gc L F w F2 w6:=X2.out.trans (Gc.below F2 C2.out.lw (belT b3 (belT b4 (belT b5 b6))));have KT6:=B6.out.2
  have hne:KT≠K:=fun e=>by
   have h1:=KT6.1;have h2:=B6.out.1.1;rw[e,h2] at h1;simp only[Option.some.injEq,Obj.cells.injEq] at h1;exact absurd h1.2.1 (by decide)
  refine⟨KT,cs,s1,n1,c1,some ⟨K4,0,none⟩,nH,nH,s3,n3,c3,s4,c4,F2,g2,v2,?_,C6.out.fr1 B6.out.1 qt_st f,G6.own (Nat.le_of_eq HC.out.2.2.2.2.2) HC.out.2.2.2.2.1 f,⟨(f.block KT (lt_of_block KT6.1) hne).trans KT6.1,KT6.2⟩,?_⟩
  ·rw[HL.out.1,HL.out.2.1,HL.out.2.2.1]
  ·rw[HL.out.2.1];exact FIL.out
 clear h0 h1 h2 h3 h4 h5 h6 b3 b4 b5 b6 m0 m1 m2 m3 m4 m5 m6 m7 m8 mlt mfz;have eb:=fun j=>cell_of_row _ _ j _ _ _ E.out;unfold set9 at eb FIN
 go_wp2_with fail
 have q0:=eb 0;have q1:=eb 1;have q2:=eb 2;have q3:=eb 3;have q4:=eb 4;have q5:=eb 5;have q6:=eb 6;have q7:=eb 7;have q8:=eb 8;refine bodyPost_ret (v:=.agg #[.int .u64 σ.now,.int .u64 σ.tk,.bool σ.cl,.int .i64 fr,.slice (some ⟨KT,0,none⟩) nT nT,.slice s1 n1 c1,.slice (some ⟨K4,0,none⟩) nH nH,.slice s3 n3 c3,.slice s4 nM c4]) (by simp[results,Tryz.results11,go_sem,q0,q1,q2,q3,q4,q5,q6,q7,q8]) rfl ?_;exact FIN.out
end
section
open Go.RowKit Go.Lib
variable {σ:CS}{i tk k:Nat}{x:Ta.TR}
def lk(σ:CS)(k:Nat)(x:Ta.TR):CS:=tellS σ 10 ((0:Nat):Int) ((k:Int)+1) x.key
def clm(σ:CS)(k:Nat)(x:Ta.TR):CS:=handS (turnS (lk σ k x) k x 3) 0 k (turnX x 3)
def fin(σ:CS)(k:Nat)(x:Ta.TR):CS:=relL 0 [] {endS (turnS (clm σ k x) k (turnX x 3) 4) ((0:Nat):Int) ((k:Int)+1) with E:=fun q j=>(clm σ k x).E q j/\q≠(k:Int)+1}
end
section
open Go.RowKit Go.Lib Go.WideMaps Go.Maps
structure FI(σ:CS)(n j:Nat):Prop where
 th:σ.th=2
 cn:σ.n=n
 cl:σ.cl=false
 N:σ.N=0
 E:σ.E=fun _ _=>False
 len:σ.T.length=j
 o:σ.o=j
 qn:σ.qn<=j
 ev:σ.ev.length<=2*j
 tk:σ.tk=0
 now:σ.now=0
 st:∀x∈σ.T,0<=x.p/\(x.s=1\/x.s=2)
variable {σ:CS}{n j k d:Nat}{x:Ta.TR}
structure FC(σ τ:CS)(n k:Nat):Prop where
 th:τ.th=2
 cn:τ.n=n
 cl:τ.cl=false
 N:τ.N=0
 o:τ.o=n-1
 len:τ.T.length=n
 qn:τ.qn<=n+1
 ev:τ.ev.length<=2*n+1
 tk:τ.tk=0
 at':∃y,τ.T[k]?=some y/\y.s=6
end
section
open Go.RowKit Go.Lib Go.WideMaps Go.Maps
def liv(x:Ta.TR):Bool:=decide (1<=x.s/\x.s<=3)
theorem cnt_set{T:List Ta.TR}{i:Nat}{x:Ta.TR}(y:Ta.TR)(h:T[i]?=some x):(T.set i y).countP liv+(if liv x=true then 1 else 0)=T.countP liv+if liv y=true then 1 else 0:=Ta.cntP_set liv T i x y h
structure RS(P:Nat->Nat->Prop)(m:Nat)(S:Nat->Int):Prop where
 lo:∀j k,P j k->j<k
 rg:∀k,k<m->1<=S k/\S k<=6
 r1:∀k,k<m->S k=1->∃j,P j k/\S j≠4
 r2:∀k,k<m->(S k=2\/S k=3\/S k=4\/S k=5)->∀j,P j k->S j=4
 r3:∀k,k<m->(S k=6↔∃j,P j k/\(S j=5\/S j=6))
variable {P:Nat->Nat->Prop}{m k:Nat}{S S':Nat->Int}
end
section
open Go.RowKit Go.Lib Go.WideMaps Go.Maps
variable {P:Nat->Nat->Prop}{σ:CS}{m c k:Nat}{x:Ta.TR}
theorem push_at{α:Type}{T:List α}{y z:α}{i m:Nat}(hl:T.length=m)(h:(T++[y])[i]?=some z):(i<m/\T[i]?=some z)\/(i=m/\z=y):=by
 subst hl;by_cases c:i<T.length
 ·rw[List.getElem?_append_left c] at h;exact .inl ⟨c,h⟩
 ·have hi:=(List.getElem?_eq_some_iff.1 h).1;simp at hi;obtain rfl:i=T.length:=by omega
  simp at h;exact .inr ⟨rfl,h.symm⟩
def donS(σ:CS)(t:Nat)(k:Nat)(x:Ta.TR):CS:={endS (turnS σ k x 4) t ((k:Int)+1) with E:=fun q j=>σ.E q j/\q≠(k:Int)+1}
end
section
open Go.RowKit Go.Lib Go.WideMaps Go.Maps
variable {w w' u:World}{L i:Nat}{D:CAd}{F F':Nat->Nat->Prop}{g v:Value}{σ:CS}{x:Ta.TR}
def OwL(w:World)(base:Nat)(a:Option Addr)(n cap:Nat)(d:List Qu.Ent):Prop:=d.length=n/\Qu.OwnE w base (.slice a n cap) d
theorem OwL.below{base n cap:Nat}{a:Option Addr}{d:List Qu.Ent}(h:OwL w base a n cap d)(b:Below w.heap.size w w'):OwL w' base a n cap d:=⟨h.1,h.2.below b⟩
theorem OwL.set{base n cap:Nat}{a:Option Addr}{d:List Qu.Ent}(h:OwL w base a n cap d){p:Addr}(hp:p.block<base)(u:Value):OwL (w.setCell p u) base a n cap d:=⟨h.1,h.2.set hp u⟩
theorem OwL.is{base n cap:Nat}{a:Option Addr}{d:List Qu.Ent}(h:OwL w base a n cap d):Qu.IsL w a cap d:=h.2.is
def OwLL(w:World)(base K:Nat)(ls:List (List Qu.Ent)):Prop:=base<=K/\∃cs:Array Value,w.heap[K]?=some (.cells cs 33 (0,0))/\∀(i:Nat)(d:List Qu.Ent),ls[i]?=some d->∃p k,cs[i]?=some (Value.slice p d.length k)/\OwL w base p d.length k d
theorem OwLL.below{base K:Nat}{ls:List (List Qu.Ent)}(h:OwLL w base K ls)(b:Below w.heap.size w w'):OwLL w' base K ls:=by
 obtain⟨h0,cs,h1,h2⟩:=h
 exact⟨h0,cs,(b.block K (lt_of_block h1)).trans h1,fun i d hd=>by
  obtain⟨p,k,q1,q2⟩:=h2 i d hd;exact⟨p,k,q1,q2.below b⟩⟩
theorem OwLL.set{base K:Nat}{ls:List (List Qu.Ent)}(h:OwLL w base K ls){p:Addr}(hp:p.block<base)(u:Value):OwLL (w.setCell p u) base K ls:=by
 obtain⟨h0,cs,h1,h2⟩:=h
 exact⟨h0,cs,(heap_setCell_other _ _ K _ (by omega)).trans h1,fun i d hd=>by
  obtain⟨p,k,q1,q2⟩:=h2 i d hd;exact⟨p,k,q1,q2.set hp u⟩⟩
theorem OwLL.is{base K:Nat}{ls:List (List Qu.Ent)}(h:OwLL w base K ls)(hl:ls.length<=8):Qu.IsLL w (some ⟨K,0,none⟩) ls:=by
 obtain⟨h0,cs,h1,h2⟩:=h;refine⟨by omega,fun i d hd=>?_⟩;obtain⟨p,k,q1,q2⟩:=h2 i d hd;exact⟨K,0,p,k,rfl,lt_of_block h1,by rw[Nat.zero_add,cell_of_row _ _ _ _ _ _ h1,q1],q2.is⟩
def locL(σ:CS):List (List Qu.Ent):=(List.range σ.th).map fun t=>Qu.sortE (σ.q.ls t).flatten
theorem locL_len(σ:CS):(locL σ).length=σ.th:=by simp[locL]
theorem locL_at(σ:CS){k:Nat}(hk:k<σ.th):(locL σ)[k]?=some (Qu.sortE (σ.q.ls k).flatten):=by simp[locL,hk]
theorem localsQ(C:Co w L D F g v σ):Calls Tryz.prog 54 #[pt D.B] w fun e w'=>∃K,e=.returned (.slice (some ⟨K,0,none⟩) σ.th σ.th)/\OwLL w' w.heap.size K (locL σ)/\Below w.heap.size w w':=by
 have c0:=C.c0;obtain⟨n,hn⟩:∃n,σ.th=n:=⟨_,rfl⟩;obtain⟨cs0,hmk,hcs⟩:=makeEs w n (by have:=C.th8;omega);obtain⟨u,hu⟩:∃z,w.alloc (.cells cs0 33)=z:=⟨_,rfl⟩;rw[hu] at hmk;obtain⟨K,hK⟩:∃K,w.heap.size=K:=⟨_,rfl⟩;have b0:Below w.heap.size w u:=by rw[<-hu];exact belA _ _
 have hB:u.heap[K]?=some (.cells cs0 33 (0,0)):=by rw[<-hu,<-hK];exact heap_alloc_new w _
 have HC:Aside (Co w L D F g v σ/\σ.th=n/\w.heap.size=K):=⟨C,hn,hK⟩;have ST:Aside (Below w.heap.size w u/\u.heap[K]?=some (.cells cs0 33 (0,0))/\cs0.size=n):=⟨b0,hB,hcs⟩;have hn8:n<=8:=by have:=C.th8;omega
 rw[hK] at hmk;rw[hn] at c0;rw[hn];clear C hu b0 hB hcs hn;go_enter Tryz.func54,Tryz.ntmps54
 go_wp2_with fail
 go_loopg [4,13] n (fun kx s4 s13 wr=>∃(k:Nat),s13=.int .i64 k/\k<=n/\n-k<=kx/\Aside (Below w.heap.size w wr/\∃cs:Array Value,wr.heap[K]?=some (.cells cs 33 (0,0))/\cs.size=n/\∀i d,i<k->(locL σ)[i]?=some d->∃p q,cs[i]?=some (.slice p d.length q)/\OwL wr (K+1) p d.length q d))
 case atStart=>exact⟨0,rfl,by omega,by omega,ST.out.1,cs0,ST.out.2.1,ST.out.2.2,fun i d hi=>absurd hi (by omega)⟩
 case round=>
  obtain⟨k,rfl,hk,hkx,S1⟩:=hrel;by_cases c:k<n
  ·have hlt:(k:Int)<(n:Int):=by omega
   have C1:=HC.out.1.below S1.out.1;have c4:=C1.c4;obtain⟨m,hm⟩:∃m,(σ.q.ls k).flatten.length=m:=⟨_,rfl⟩;have P:=Qu.qlocal_in wr L D.A σ.th σ.k σ.qn σ.q k m C1.que C1.qok C1.k16 (by rw[HC.out.2.1];exact c) C1.th8 hm;have HM:Aside ((σ.q.ls k).flatten.length=m):=hm;clear C1 hm
   go_wp2_with fail
   refine Calls.mono P ?_;rintro e w2 ⟨a2,cap2,rfl,o2,b2⟩;clear P c4;obtain⟨b1,cs,hcs,hsz,hall⟩:=S1.out;have hK2:w2.heap[K]?=some (.cells cs 33 (0,0)):=(b2.block K (lt_of_block hcs)).trans hcs;have m0:w2.cell? ⟨K,k,none⟩=some (cs[k]'(by omega)):=by rw[cell_of_row _ _ _ _ _ _ hK2,Array.getElem?_eq_getElem (by omega)]
   obtain⟨z0,hz0⟩:∃z,cs[k]'(by omega)=z:=⟨_,rfl⟩;rw[hz0] at m0;have mlt:=lt_of_block hK2;have mfz:∀o,w2.frozen? ⟨K,o,none⟩=false:=(fun o=>by simp[World.frozen?,hK2])
   have FIN:Aside (Below w.heap.size w (w2.setCell ⟨K,k,none⟩ (.slice a2 m cap2))/\∃cs:Array Value,(w2.setCell ⟨K,k,none⟩ (.slice a2 m cap2)).heap[K]?=some (.cells cs 33 (0,0))/\cs.size=n/\∀i d,i<k+1->(locL σ)[i]?=some d->∃p q,cs[i]?=some (.slice p d.length q)/\OwL (w2.setCell ⟨K,k,none⟩ (.slice a2 m cap2)) (K+1) p d.length q d):=by
    refine⟨(belT b1 b2).setCell (by rw[HC.out.2.2];exact Nat.le_refl _) _,_,set_at hK2 _,by simp;exact hsz,fun i d hi hd=>?_⟩;by_cases e:i=k
    ·subst e;rw[locL_at σ (by rw[HC.out.2.1];exact c)] at hd;injection hd with hd
     subst hd;have e1:(Qu.sortE (σ.q.ls i).flatten).length=m:=by rw[Qu.sortE_len];exact HM.out
     have h1:=b1.size;have h2:=HC.out.2.2;refine⟨a2,cap2,?_,rfl,?_⟩
     ·rw[e1,Array.getElem?_setIfInBounds_self_of_lt (by omega)]
     ·rw[e1];exact(o2.low (b':=K+1) (by have:=lt_of_block hcs;omega)).set (Nat.lt_succ_self _) _
    ·obtain⟨p,q,q1,q2⟩:=hall i d (by omega) hd;exact⟨p,q,by rw[Array.getElem?_setIfInBounds_ne (fun h=>e h.symm)];exact q1,(q2.below b2).set (Nat.lt_succ_self _) _⟩
   clear b1 b2 hcs hsz hall hK2 S1 hz0 o2
   go_wp2_with fail
   go_roundg (n-(k+1))
   case measure=>omega
   case rel=>exact⟨k+1,by go_num,by omega,Nat.le_refl _,FIN⟩
  ·have hnl:¬(k:Int)<(n:Int):=by omega
   have hkn:k=n:=by omega
   have FIN:Aside (Below w.heap.size w wr/\OwLL wr K K (locL σ)):=by
    obtain⟨b1,cs,hcs,hsz,hall⟩:=S1.out;refine⟨b1,Nat.le_refl _,cs,hcs,fun i d hd=>?_⟩;have hi:=(List.getElem?_eq_some_iff.1 hd).1;rw[locL_len,HC.out.2.1] at hi;obtain⟨p,q,q1,q2⟩:=hall i d (by omega) hd;exact⟨p,q,q1,q2.1,q2.2.low (Nat.le_succ _)⟩
   clear S1 hkn
   go_wp2_with fail
   go_ret;exact⟨K,rfl,by first|exact FIN.out.2|(rw[HC.out.2.2];exact FIN.out.2),by first|exact FIN.out.1|(rw[<-HC.out.2.2];exact FIN.out.1)⟩
def StQ(L:Nat)(D:CAd)(F:Nat->Nat->Prop)(w:World)(σ:CS)(e:Ending)(w':World):Prop:=∃K cs s1 n1 c1 K2 s3 n3 c3 s4 c4 F' g' v',e=.returned (.agg #[.int .u64 σ.now,.int .u64 σ.tk,.bool σ.cl,.int .i64 ((σ.n:Int)-σ.o),.slice (some ⟨K,0,none⟩) σ.T.length σ.T.length,.slice s1 n1 c1,.slice (some ⟨K2,0,none⟩) σ.th σ.th,.slice s3 n3 c3,.slice s4 σ.tm.length c4])/\Co w' L D F' g' v' σ/\Gc L F w F' w'/\Bx w' F' K cs 45/\Fil cs σ.T σ.T.length/\OwL w' (w.heap.size+1) s1 n1 c1 (Qu.slAll σ.q.g σ.th)/\OwLL w' (w.heap.size+1) K2 (locL σ)/\OwL w' (w.heap.size+1) s3 n3 c3 (Qu.sortE σ.q.hs.flatten)
theorem Co.slotsQ(C:Co w L D F g v σ):Calls Tryz.prog 53 #[pt D.A.B] w fun e w'=>∃a n cap,e=.returned (.slice a n cap)/\OwL w' w.heap.size a n cap (Qu.slAll σ.q.g σ.th)/\Below w.heap.size w w':=by
 refine Calls.mono (Qu.qslots_any w L D.A σ.th σ.k σ.q _ C.que rfl) ?_;rintro e w' ⟨a,cap,rfl,o,b⟩;exact⟨a,_,cap,rfl,⟨rfl,o⟩,b⟩
theorem Co.sharedQ(C:Co w L D F g v σ)(hn:σ.qn<=1000):Calls Tryz.prog 55 #[pt D.A.B] w fun e w'=>∃a n cap,e=.returned (.slice a n cap)/\OwL w' w.heap.size a n cap (Qu.sortE σ.q.hs.flatten)/\Below w.heap.size w w':=by
 refine Calls.mono (Qu.qshared_any w L D.A σ.th σ.k σ.qn σ.q _ C.que C.qok hn rfl) ?_;rintro e w' ⟨a,cap,rfl,o,b⟩;exact⟨a,_,cap,rfl,⟨Qu.sortE_len _,o⟩,b⟩
theorem OwL.low{base b' n cap:Nat}{a:Option Addr}{d:List Qu.Ent}(h:OwL w base a n cap d)(hb:b'<=base):OwL w b' a n cap d:=⟨h.1,h.2.low hb⟩
theorem OwLL.low{base b' K:Nat}{ls:List (List Qu.Ent)}(h:OwLL w base K ls)(hb:b'<=base):OwLL w b' K ls:=by
 obtain⟨h0,cs,h1,h2⟩:=h
 exact⟨le_trans hb h0,cs,h1,fun i d hd=>by
  obtain⟨p,k,q1,q2⟩:=h2 i d hd;exact⟨p,k,q1,q2.low hb⟩⟩
theorem OwL.set9{base n cap K:Nat}{a:Option Addr}{d:List Qu.Ent}(h:OwL w base a n cap d)(hp:K<base)(a0 a1 a2 a3 a4 a5 a6 a7 a8:Value):OwL (set9 w K a0 a1 a2 a3 a4 a5 a6 a7 a8) base a n cap d:=by
 unfold Go.Proofs.YthpgfmmpjoodkaaGreatDoor.set9;exact((((((((h.set hp _).set hp _).set hp _).set hp _).set hp _).set hp _).set hp _).set hp _).set hp _
theorem OwLL.set9{base K K2:Nat}{ls:List (List Qu.Ent)}(h:OwLL w base K2 ls)(hp:K<base)(a0 a1 a2 a3 a4 a5 a6 a7 a8:Value):OwLL (set9 w K a0 a1 a2 a3 a4 a5 a6 a7 a8) base K2 ls:=by
 unfold Go.Proofs.YthpgfmmpjoodkaaGreatDoor.set9;exact((((((((h.set hp _).set hp _).set hp _).set hp _).set hp _).set hp _).set hp _).set hp _).set hp _
theorem stateQ(C:Co w L D F g v σ)(hn:σ.qn<=1000):Calls Tryz.prog 11 #[pt D.B] w (StQ L D F w σ):=by
 obtain⟨K,hK⟩:∃J,w.heap.size=J:=⟨_,rfl⟩;obtain⟨u,hu⟩:∃z,w.alloc (.cells z9 41)=z:=⟨_,rfl⟩;have b0:Below w.heap.size w u.drew:=by rw[<-hu];exact(belA _ _).drew
 have BK:Bx u.drew F K z9 41:=by rw[<-hu,<-hK];exact Bx.new C _ _
 have C0:=C.below b0;have HC:Aside (Co u.drew L D F g v σ/\Gc L F w F u.drew/\Bx u.drew F K z9 41/\σ.qn<=1000/\L<=w.heap.size/\w.heap.size=K):=⟨C0,Gc.below F C.lw b0,BK,hn,C.lw,hK⟩;have h0:=C0.hd6;have NW:Aside (Calls Tryz.prog 50 #[pt D.Bw] u.drew fun e w'=>e=.returned (.int .u64 σ.now)/\w'=u.drew):=Wl.now_any C0.whl;have PF:Aside (Calls Tryz.prog 51 #[pt D.ca] u.drew fun e w'=>e=.returned (.int .i64 ((σ.n:Int)-σ.o))/\Cox L D F u.drew σ w'):=C0.freeC;obtain⟨fr,hfr⟩:∃fr,(σ.n:Int)-σ.o=fr:=⟨_,rfl⟩;rw[hfr] at PF;obtain⟨nT,hnT⟩:∃nT,σ.T.length=nT:=⟨_,rfl⟩;obtain⟨nM,hnM⟩:∃nT,σ.tm.length=nT:=⟨_,rfl⟩;obtain⟨nH,hnH⟩:∃nT,σ.th=nT:=⟨_,rfl⟩;have HL:Aside ((σ.n:Int)-σ.o=fr/\σ.T.length=nT/\σ.tm.length=nM/\σ.th=nH):=⟨hfr,hnT,hnM,hnH⟩;have HU:Aside (w.alloc (.cells #[.int .u64 0,.int .u64 0,.bool false,.int .i64 0,.slice none 0 0,.slice none 0 0,.slice none 0 0,.slice none 0 0,.slice none 0 0] 41)=u):=hu;have HK:Aside _:=hK;clear C C0 hu hK b0 BK hn hfr hnT hnM hnH;go_enter Tryz.func11,Tryz.ntmps11
 go_upto_region 1 with fail
 rw[HU.out];try simp only[HK.out]
 go_region_held3 (fun W=>W.cell? ⟨D.B,3,none⟩=some (pt D.Bt)/\W.cell? ⟨D.B,4,none⟩=some (pt D.A.B)/\W.cell? ⟨D.B,5,none⟩=some (pt D.Bw)/\W.cell? ⟨D.B,7,none⟩=some (pt D.ca)/\W.cell? ⟨D.B,8,none⟩=some (.int .u64 σ.tk)/\W.cell? ⟨D.B,9,none⟩=some (.bool σ.cl)) (first|with_reducible exact h0|with_reducible exact h1|with_reducible exact h2|with_reducible exact h3|with_reducible exact h4|with_reducible exact h5|with_reducible exact h6|exact K9.out _ _ _ _ _ _ _ _ _)
  ((first
   | (go_at_call 56;(with_reducible refine Calls.mono PW.out ?_);rintro e w6 ⟨s4,c4,rfl,b6⟩;have C6:Aside (Co w6 L D F2 g2 v2 σ):=C5.out.below b6;have h6:=C6.out.hd6;have B6:Aside (Bx w6 F2 K z9 41/\Bx w6 F2 KT cs 45):=⟨B5.out.1.below b6,B5.out.2.below b6⟩;have K9:Aside (∀a0 a1 a2 a3 a4 a5 a6 a7 a8,(set9 w6 K a0 a1 a2 a3 a4 a5 a6 a7 a8).cell? ⟨D.B,3,none⟩=some (pt D.Bt)/\(set9 w6 K a0 a1 a2 a3 a4 a5 a6 a7 a8).cell? ⟨D.B,4,none⟩=some (pt D.A.B)/\(set9 w6 K a0 a1 a2 a3 a4 a5 a6 a7 a8).cell? ⟨D.B,5,none⟩=some (pt D.Bw)/\(set9 w6 K a0 a1 a2 a3 a4 a5 a6 a7 a8).cell? ⟨D.B,7,none⟩=some (pt D.ca)/\(set9 w6 K a0 a1 a2 a3 a4 a5 a6 a7 a8).cell? ⟨D.B,8,none⟩=some (.int .u64 σ.tk)/\(set9 w6 K a0 a1 a2 a3 a4 a5 a6 a7 a8).cell? ⟨D.B,9,none⟩=some (.bool σ.cl)):=(fun a0 a1 a2 a3 a4 a5 a6 a7 a8=>(C6.out.fr1 B6.out.1 qt_st (set9_fr w6 K a0 a1 a2 a3 a4 a5 a6 a7 a8)).hd6);have m0:w6.cell? ⟨K,0,none⟩=some (.int .u64 0):=(B6.out.1.cell 0);have m1:w6.cell? ⟨K,1,none⟩=some (.int .u64 0):=(B6.out.1.cell 1);have m2:w6.cell? ⟨K,2,none⟩=some (.bool false):=(B6.out.1.cell 2);have m3:w6.cell? ⟨K,3,none⟩=some (.int .i64 0):=(B6.out.1.cell 3);have m4:w6.cell? ⟨K,4,none⟩=some (.slice none 0 0):=(B6.out.1.cell 4);have m5:w6.cell? ⟨K,5,none⟩=some (.slice none 0 0):=(B6.out.1.cell 5);have m6:w6.cell? ⟨K,6,none⟩=some (.slice none 0 0):=(B6.out.1.cell 6);have m7:w6.cell? ⟨K,7,none⟩=some (.slice none 0 0):=(B6.out.1.cell 7);have m8:w6.cell? ⟨K,8,none⟩=some (.slice none 0 0):=(B6.out.1.cell 8);have mlt:=lt_of_block B6.out.1.1;have mfz:∀o,w6.frozen? ⟨K,o,none⟩=false:=(fun o=>by simp[World.frozen?,B6.out.1.1]))
   | (go_at_call 55;(with_reducible refine Calls.mono PH.out ?_);rintro e w5 ⟨s3,n3,c3,rfl,o3,b5⟩;have O3:Aside (OwL w5 (K+1) s1 n1 c1 (Qu.slAll σ.q.g σ.th)/\OwLL w5 (K+1) K4 (locL σ)/\OwL w5 (K+1) s3 n3 c3 (Qu.sortE σ.q.hs.flatten)):=⟨O2.out.1.below b5,O2.out.2.below b5,o3.low (lt_of_block B4.out.1.1)⟩;clear o3;have C5:Aside (Co w5 L D F2 g2 v2 σ):=C4.out.below b5;have h5:=C5.out.hd6;have B5:Aside (Bx w5 F2 K z9 41/\Bx w5 F2 KT cs 45):=⟨B4.out.1.below b5,B4.out.2.below b5⟩;have PW:Aside (Calls Tryz.prog 56 #[pt D.Bw] w5 fun e w'=>∃a cap,e=.returned (.slice a nM cap)/\Below w5.heap.size w5 w'):=(by have:=C5.out.wallC;rw[HL.out.2.2.1] at this;exact this.mono (fun e w' ⟨a,cap,h1,_,h2⟩=>⟨a,cap,h1,h2⟩)))
   | (go_at_call 54;(with_reducible refine Calls.mono PL.out ?_);rintro e w4 ⟨K4,rfl,o2,b4⟩;have O2:Aside (OwL w4 (K+1) s1 n1 c1 (Qu.slAll σ.q.g σ.th)/\OwLL w4 (K+1) K4 (locL σ)):=⟨O1.out.below b4,o2.low (lt_of_block B3.out.1.1)⟩;clear o2;have C4:Aside (Co w4 L D F2 g2 v2 σ):=C3.out.below b4;have h4:=C4.out.hd6;have B4:Aside (Bx w4 F2 K z9 41/\Bx w4 F2 KT cs 45):=⟨B3.out.1.below b4,B3.out.2.below b4⟩;have PH:Aside (Calls Tryz.prog 55 #[pt D.A.B] w4 fun e w'=>∃a n cap,e=.returned (.slice a n cap)/\OwL w' w4.heap.size a n cap (Qu.sortE σ.q.hs.flatten)/\Below w4.heap.size w4 w'):=C4.out.sharedQ HC.out.2.2.2.1)
   | (go_at_call 53;(with_reducible refine Calls.mono PS.out ?_);rintro e w3 ⟨s1,n1,c1,rfl,o1,b3⟩;have O1:Aside (OwL w3 (K+1) s1 n1 c1 (Qu.slAll σ.q.g σ.th)):=o1.low (lt_of_block B2.out.1.1);clear o1;have C3:Aside (Co w3 L D F2 g2 v2 σ):=C2.out.below b3;have h3:=C3.out.hd6;have B3:Aside (Bx w3 F2 K z9 41/\Bx w3 F2 KT cs 45):=⟨B2.out.1.below b3,B2.out.2.below b3⟩;have PL:Aside (Calls Tryz.prog 54 #[pt D.B] w3 fun e w'=>∃K,e=.returned (.slice (some ⟨K,0,none⟩) nH nH)/\OwLL w' w3.heap.size K (locL σ)/\Below w3.heap.size w3 w'):=(by have:=localsQ C3.out;rw[HL.out.2.2.2] at this;exact this))
   | (go_at_call 52;(with_reducible refine Calls.mono PT.out ?_);rintro e w2 ⟨KT,cs,rfl,F2,⟨g2,v2,C2'⟩,G2,BT,fil⟩;have C2:Aside (Co w2 L D F2 g2 v2 σ):=C2';have h2:=C2'.hd6;have B2:Aside (Bx w2 F2 K z9 41/\Bx w2 F2 KT cs 45):=⟨B1.out.gc mq_st G2,BT⟩;have X2:Aside (Gc L F w F2 w2):=X1.out.trans G2;have FIL:Aside _:=fil;have PS:Aside (Calls Tryz.prog 53 #[pt D.A.B] w2 fun e w'=>∃a n cap,e=.returned (.slice a n cap)/\OwL w' w2.heap.size a n cap (Qu.slAll σ.q.g σ.th)/\Below w2.heap.size w2 w'):=C2'.slotsQ;clear C2' G2 BT fil)
   | (go_at_call 51;(with_reducible refine Calls.mono PF.out ?_);rintro e w1 ⟨rfl,F1,g1,v1,C1,G1⟩;have h1:=C1.hd6;have B1:Aside (Bx w1 F1 K z9 41):=HC.out.2.2.1.gc mq_st G1;have X1:Aside (Gc L F w F1 w1):=HC.out.2.1.trans G1;have PT:Aside (Calls Tryz.prog 52 #[pt D.Bt] w1 fun e w'=>∃K cs,e=.returned (.slice (some ⟨K,0,none⟩) nT nT)/\∃F',(∃g' v',Co w' L D F' g' v' σ)/\Gc L F1 w1 F' w'/\Bx w' F' K cs 45/\Fil cs σ.T nT):=(by have:=C1.allC;rw[HL.out.2.1] at this;exact this);clear C1 G1)
   | (go_at_call 50;(with_reducible refine Calls.mono NW.out ?_);rintro e v2 ⟨rfl,rfl⟩)))
 have E:Aside ((set9 w6 K (.int .u64 σ.now) (.int .u64 σ.tk) (.bool σ.cl) (.int .i64 fr) (.slice (some ⟨KT,0,none⟩) nT nT) (.slice s1 n1 c1) (.slice (some ⟨K4,0,none⟩) nH nH) (.slice s3 n3 c3) (.slice s4 nM c4)).heap[K]?=some (.cells #[.int .u64 σ.now,.int .u64 σ.tk,.bool σ.cl,.int .i64 fr,.slice (some ⟨KT,0,none⟩) nT nT,.slice s1 n1 c1,.slice (some ⟨K4,0,none⟩) nH nH,.slice s3 n3 c3,.slice s4 nM c4] 41 (0,0))):=set9_at B6.out.1.1 _ _ _ _ _ _ _ _ _
 have FIN:Aside (StQ L D F w σ (.returned (.agg #[.int .u64 σ.now,.int .u64 σ.tk,.bool σ.cl,.int .i64 fr,.slice (some ⟨KT,0,none⟩) nT nT,.slice s1 n1 c1,.slice (some ⟨K4,0,none⟩) nH nH,.slice s3 n3 c3,.slice s4 nM c4])) (set9 w6 K (.int .u64 σ.now) (.int .u64 σ.tk) (.bool σ.cl) (.int .i64 fr) (.slice (some ⟨KT,0,none⟩) nT nT) (.slice s1 n1 c1) (.slice (some ⟨K4,0,none⟩) nH nH) (.slice s3 n3 c3) (.slice s4 nM c4))):=by
  have f:=set9_fr w6 K (.int .u64 σ.now) (.int .u64 σ.tk) (.bool σ.cl) (.int .i64 fr) (.slice (some ⟨KT,0,none⟩) nT nT) (.slice s1 n1 c1) (.slice (some ⟨K4,0,none⟩) nH nH) (.slice s3 n3 c3) (.slice s4 nM c4);have G6:Gc L F w F2 w6:=X2.out.trans (Gc.below F2 C2.out.lw (belT b3 (belT b4 (belT b5 b6))));have KT6:=B6.out.2
  have hne:KT≠K:=fun e=>by
   have h1:=KT6.1;have h2:=B6.out.1.1;rw[e,h2] at h1;simp only[Option.some.injEq,Obj.cells.injEq] at h1;exact absurd h1.2.1 (by decide)
  have O6:OwL w6 (K+1) s1 n1 c1 (Qu.slAll σ.q.g σ.th)/\OwLL w6 (K+1) K4 (locL σ)/\OwL w6 (K+1) s3 n3 c3 (Qu.sortE σ.q.hs.flatten):=⟨O3.out.1.below b6,O3.out.2.1.below b6,O3.out.2.2.below b6⟩;rw[<-HC.out.2.2.2.2.2] at O6;have lk:K<w.heap.size+1:=by have:=HC.out.2.2.2.2.2;omega
  refine⟨KT,cs,s1,n1,c1,K4,s3,n3,c3,s4,c4,F2,g2,v2,?_,C6.out.fr1 B6.out.1 qt_st f,G6.own (Nat.le_of_eq HC.out.2.2.2.2.2) HC.out.2.2.2.2.1 f,⟨(f.block KT (lt_of_block KT6.1) hne).trans KT6.1,KT6.2⟩,?_,O6.1.set9 lk _ _ _ _ _ _ _ _ _,O6.2.1.set9 lk _ _ _ _ _ _ _ _ _,O6.2.2.set9 lk _ _ _ _ _ _ _ _ _⟩
  ·rw[HL.out.1,HL.out.2.1,HL.out.2.2.1,HL.out.2.2.2]
  ·rw[HL.out.2.1];exact FIL.out
 clear h0 h1 h2 h3 h4 h5 h6 b3 b4 b5 b6 m0 m1 m2 m3 m4 m5 m6 m7 m8 mlt mfz;have eb:=fun j=>cell_of_row _ _ j _ _ _ E.out;unfold set9 at eb FIN
 go_wp2_with fail
 have q0:=eb 0;have q1:=eb 1;have q2:=eb 2;have q3:=eb 3;have q4:=eb 4;have q5:=eb 5;have q6:=eb 6;have q7:=eb 7;have q8:=eb 8;refine bodyPost_ret (v:=.agg #[.int .u64 σ.now,.int .u64 σ.tk,.bool σ.cl,.int .i64 fr,.slice (some ⟨KT,0,none⟩) nT nT,.slice s1 n1 c1,.slice (some ⟨K4,0,none⟩) nH nH,.slice s3 n3 c3,.slice s4 nM c4]) (by simp[results,Tryz.results11,go_sem,q0,q1,q2,q3,q4,q5,q6,q7,q8]) rfl ?_;exact FIN.out
end
end Go.Proofs.YthpgfmmpjoodkaaGreatDoor
