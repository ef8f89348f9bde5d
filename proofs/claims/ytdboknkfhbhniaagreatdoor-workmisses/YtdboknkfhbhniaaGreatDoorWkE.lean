import Derived.Test.YtdboknkfhbhniaaGreatDoorCoJ
namespace Go.Proofs.YtdboknkfhbhniaaGreatDoor
set_option maxHeartbeats 8000000
set_option maxRecDepth 100000
set_option linter.unusedVariables false
section
open Go.RowKit Go.Lib Go.WideMaps Go.Maps
variable {w w' u w0:World}{L i:Nat}{D:CAd}{F F' F0:Nat→Nat→Prop}{g v:Value}{σ:CS}{x:Ta.TR}
theorem seekL(C:Co w L D F g v σ)(x:WR){t:Nat}(ht:t<σ.th)(hn:σ.qn≤1000)(hf:(σ.q.g t).f=false)(dr k d:Int){σ':CS}(PL:∀w1 F1 g1 v1,Co w1 L D F1 g1 v1 (setS σ t)→Calls Tryz.prog 52 #[pt D.B,.int .i64 t,.int .u64 dr] w1 fun e w'=>e=.returned (.tuple #[.agg #[.int .u64 k,.int .i64 d],.bool true])∧Cox L D F1 w1 σ' w') :
  Calls Tryz.prog 116 #[pt D.B,wkV x,.int .i64 t,.int .u64 dr] w fun e w'=>e=.returned (.tuple #[wkV ⟨x.ph,k,d,x.pc,x.bad⟩,.int .i64 1])∧Cox L D F w σ' w':=by
 obtain⟨K,hK⟩:∃J,w.heap.size=J:=⟨_,rfl⟩
 have W0:=WB.new C x hK
 obtain⟨u,hu⟩:∃q,(w.alloc (.cells (wkA x) 59)).alloc (.cells (wkA wk0) 59)=q:=⟨_,rfl⟩
 have b0:Below w.heap.size w u:=by rw[←hu];exact belT (belA _ _) (belA _ _)
 rw[hu] at W0
 have P:=settleC (C.below b0) ht hn
 rw[hf] at P
 have HC:Aside (Gc L F w F u∧w.heap.size=K∧L≤w.heap.size∧WB w u F K x wk0):=⟨Gc.below F C.lw b0,hK,C.lw,W0⟩
 have HP:Aside _:=PL
 obtain⟨x0,x1,x2,x3,x4⟩:=x
 have HU:Aside _:=hu
 clear C W0 hu b0 hn hf ht PL
 go_enter Tryz.func116,Tryz.ntmps116
 go_upto_region 1 with fail
 rw[show(w.alloc (.cells #[.int .i64 x0,.int .u64 x1,.int .i64 x2,.int .i64 x3,.bool x4] 59)).alloc (.cells #[.int .i64 0,.int .u64 0,.int .i64 0,.int .i64 0,.bool false] 59)=u from HU.out]
 try simp only[hK]
 go_wp2_with fail
 refine P.mono ?_
 rintro e w1 ⟨rfl,F1,g1,v1,C1,G1⟩
 have W1:=HC.out.2.2.2.gc G1
 have X1:Aside (Gc L F w F1 w1∧WB w w1 F1 K ⟨x0,x1,x2,x3,x4⟩ wk0):=⟨HC.out.1.trans G1,W1⟩
 have P:=HP.out w1 F1 g1 v1 C1
 clear C1 G1 W1
 go_wp2_with fail
 refine P.mono ?_
 rintro e w2 ⟨rfl,F2,g2,v2,C2,G2⟩
 obtain⟨J,hJ⟩:∃J,w2.heap.size=J:=⟨_,rfl⟩
 obtain⟨u2,hu2⟩:∃q,w2.alloc (.cells #[.int .u64 k,.int .i64 d] 47)=q:=⟨_,rfl⟩
 have b2:Below w2.heap.size w2 u2:=by rw[←hu2];exact belA _ _
 have BJ:Bx u2 F2 J #[.int .u64 k,.int .i64 d] 47:=by rw[←hu2,←hJ];exact Bx.new C2 _ _
 have W2:=(X1.out.2.gc G2).bel b2
 have C3:=C2.below b2
 have G3:Gc L F w F2 u2:=(X1.out.1.trans G2).trans (Gc.below F2 C2.lw b2)
 obtain⟨a0,a1,a2,a3,a4⟩:=bx5 W2.a.1
 obtain⟨b0,b1,b2',b3,b4⟩:=bx5 W2.b.1
 have alt:=lt_of_block W2.a.1
 have blt:=lt_of_block W2.b.1
 have bfz:∀o,u2.frozen? ⟨K+1,o,none⟩=false:=(fun o=>by simp[World.frozen?,W2.b.1])
 have afz:∀o,u2.frozen? ⟨K,o,none⟩=false:=(fun o=>by simp[World.frozen?,W2.a.1])
 obtain⟨j0,j1⟩:=bx2 BJ.1
 have jlt:=lt_of_block BJ.1
 -- the entry is laid into the worker
 obtain⟨u3,hu3⟩:∃q,(u2.setCell ⟨K,1,none⟩ (.int .u64 k)).setCell ⟨K,2,none⟩ (.int .i64 d)=q:=⟨_,rfl⟩
 have hA3:u3.heap[K]?=some (.cells #[.int .i64 x0,.int .u64 k,.int .i64 d,.int .i64 x3,.bool x4] 59 (0,0)):=by rw[←hu3];exact set_at (set_at W2.a.1 _) _
 have f3:Ta.Fr (fun j=>j=K) u2 u3:=by
  rw[←hu3]
  exact(Ta.Fr.setCell (fun j=>j=K) u2 K 1 (.int .u64 k) rfl).trans (Ta.Fr.setCell (fun j=>j=K) _ K 2 (.int .i64 d) rfl) (fun j hj=>.inl hj)
 have hB3:u3.heap[K+1]?=some (.cells (wkA wk0) 59 (0,0)):=(f3.block (K+1) blt (by omega)).trans W2.b.1
 have f5:Ta.Fr (fun j=>j=K∨j=K+1) u2 (set5 u3 (K+1) (.int .i64 x0) (.int .u64 k) (.int .i64 d) (.int .i64 x3) (.bool x4)):=(f3.mono (fun j hj=>.inl hj)).trans (set5_fr u3 (K+1) _ _ _ _ _) (fun j hj=>.inl (.inr hj))
 have E:Aside ((set5 u3 (K+1) (.int .i64 x0) (.int .u64 k) (.int .i64 d) (.int .i64 x3) (.bool x4)).heap[K+1]?=some (.cells #[.int .i64 x0,.int .u64 k,.int .i64 d,.int .i64 x3,.bool x4] 59 (0,0))):=set5_at hB3 _ _ _ _ _
 have FIN:Aside (Cox L D F w σ' (set5 u3 (K+1) (.int .i64 x0) (.int .u64 k) (.int .i64 d) (.int .i64 x3) (.bool x4))):=C3.own G3 (fun j hj=>by
  rcases hj with rfl|rfl
  ·exact⟨by omega,W2.a.2,nq_of W2.a.1 qt_wk⟩
  ·exact⟨by omega,W2.b.2,nq_of W2.b.1 qt_wk⟩) HC.out.2.2.1 f5
 obtain⟨d0,d1,d2,d3,d4⟩:=bx5 hA3
 obtain⟨e0,e1,e2,e3,e4⟩:=bx5 hB3
 have dlt:=lt_of_block hA3
 have elt:=lt_of_block hB3
 have efz:∀o,u3.frozen? ⟨K+1,o,none⟩=false:=(fun o=>by simp[World.frozen?,hB3])
 have HU2:Aside _:=hu2
 have HJ:Aside _:=hJ
 have HU3:Aside _:=hu3
 clear P C2 G2 W2 C3 G3 BJ hu2 hJ hu3 b2 hA3 hB3 f3 f5
 go_upto_region 4 with fail
 rw[HU2.out]
 try simp only[HJ.out]
 go_upto_region 7 with fail
 rw[HU3.out]
 go_wp2_with fail
 have eb:=fun j=>cell_of_row _ _ j _ _ _ E.out
 have q0:=eb 0
 have q1:=eb 1
 have q2:=eb 2
 have q3:=eb 3
 have q4:=eb 4
 unfold set5 at q0 q1 q2 q3 q4
 refine bodyPost_ret (v:=.tuple #[.agg #[.int .i64 x0,.int .u64 k,.int .i64 d,.int .i64 x3,.bool x4],.int .i64 1]) (by simp[results,Tryz.results116,go_sem,q0,q1,q2,q3,q4]) rfl ⟨rfl,?_⟩
 exact FIN.out
end
section
open Go.RowKit Go.Lib Go.WideMaps Go.Maps
theorem wf_of{a:Int}(h1 : -9223372036854775808≤a)(h2:a≤9223372036854775807):Da.wfI a:=Da.wfI_of h1 h2
end
section
open Go.RowKit Go.Lib Go.WideMaps Go.Maps
variable {w w' u:World}{L i:Nat}{D:CAd}{F F':Nat→Nat→Prop}{g v:Value}{σ:CS}{x:Ta.TR}
theorem infoEs:∃i,Tryz.prog.info? 34=some i∧i.zero=some (.slice none 0 0)∧i.size=1∧i.bytes=24:=by
 have h:(Tryz.prog.info? 34).map (fun i=>(i.zero,i.size,i.bytes))=some (some (.slice none 0 0),1,24):=by kernel_rfl
 obtain⟨i,h1,h2⟩:=Option.map_eq_some_iff.1 h
 simp at h2
 exact⟨i,h1,h2.1,h2.2.1,h2.2.2⟩
theorem makeEs(w:World)(n:Nat)(hn:n≤8) :
  ∃cs:Array Value,(Instr.makeSlice 35 (.int .i64 (n:Int)) (.int .i64 (n:Int))).run Tryz.prog w=.ok (.slice (some ⟨w.heap.size,0,none⟩) n n) (w.alloc (.cells cs 34))∧cs.size=n:=by
 obtain⟨i,hi,hz,hs,hby⟩:=infoEs
 have hm:=run_make (P:=Tryz.prog) w 35 34 i _ Tryz.underlying35 hi hz .i64 .i64 n n (by omega) (Int.le_refl _) (by rw[hby];omega) (by omega)
 simp only[Int.toNat_natCast,hs] at hm
 exact⟨_,hm,by simp[madeCells]⟩
def z9:Array Value:=#[.int .u64 0,.int .u64 0,.bool false,.int .i64 0,.slice none 0 0,.slice none 0 0,.slice none 0 0,.slice none 0 0,.slice none 0 0]
end
section
open Go.RowKit Go.Lib
structure KI(σ:CS)(i c:Nat):Prop where
 th:σ.th=1
 n:σ.n=64
 cl:σ.cl=false
 N:σ.N=0
 E:σ.E=fun _ _=>False
 len:σ.T.length=i
 o:σ.o≤i
 qn:σ.qn≤2*i
 ev:σ.ev.length≤10*i
 tk:σ.tk=c
 tkl:c≤i
 st:∀x∈σ.T,x.p=0∧(x.s=2∨x.s=4)
 qi:QI σ
variable {σ:CS}{i tk k:Nat}{x:Ta.TR}
def lk(σ:CS)(k:Nat)(x:Ta.TR):CS:=tellS σ 10 ((0:Nat):Int) ((k:Int)+1) x.key
def clm(σ:CS)(k:Nat)(x:Ta.TR):CS:=handS (turnS (lk σ k x) k x 3) 0 k (turnX x 3)
def fin(σ:CS)(k:Nat)(x:Ta.TR):CS:=relL 0 [] {endS (turnS (clm σ k x) k (turnX x 3) 4) ((0:Nat):Int) ((k:Int)+1) with E:=fun q j=>(clm σ k x).E q j∧q≠(k:Int)+1}
end
section
open Go.RowKit Go.Lib Go.WideMaps Go.Maps
variable {w w' u:World}{L i:Nat}{D:CAd}{F F':Nat→Nat→Prop}{g v:Value}{σ:CS}{x:Ta.TR}
def CanT(T:List Ta.TR)(j:Int):Prop:=∃(k:Nat)(x:Ta.TR),j=(k:Int)+1∧T[k]?=some x∧(x.s=1∨x.s=2)∧0≤x.p
def isC(x:Ta.TR):Bool:=x.s==1||x.s==2
theorem can_len:∀(d:List Int)(T:List Ta.TR),d.Nodup→(∀j∈d,CanT T j)→d.length≤T.countP isC
 | [],T,_,_=>Nat.zero_le _
 | j::d,T,h,hw=>by
  obtain⟨h1,h2⟩:=List.nodup_cons.1 h
  obtain⟨k,x,rfl,hx,hs,hp⟩:=hw j (by simp)
  have ih:=can_len d (T.set k {x with s:=3}) h2 (fun j' hj'=>by
   obtain⟨k',x',rfl,hx',hs',hp'⟩:=hw j' (by simp[hj'])
   have hne:k≠k':=fun e=>h1 (by rw[e];exact hj')
   exact⟨k',x',rfl,by rw[List.getElem?_set_ne hne];exact hx',hs',hp'⟩)
  have:=Ta.cntP_set isC T k x {x with s:=3} hx
  have e1:isC x=true:=by rcases hs with hs|hs<;>simp[isC,hs]
  have e2:isC {x with s:=3}=false:=by simp[isC]
  rw[e1,e2] at this
  simp at this
  simp
  omega
theorem CanT.le{T:List Ta.TR}{j:Int}(h:CanT T j):1≤j∧j≤T.length:=by
 obtain⟨k,x,rfl,hx,_⟩:=h
 have:=(List.getElem?_eq_some_iff.1 hx).1
 omega
theorem Wt.can{T:List Ta.TR}{j:Int}(h:Wt T j):CanT T j:=by
 obtain⟨k,x,e,hx,hs,hp⟩:=h
 exact⟨k,x,e,hx,.inl hs,hp⟩
def canX(σ:CS)(i:Nat)(x:Ta.TR):CS:=if x.s=1 then stopS (turnS σ i x 6) ((i:Int)+1) else wdrS (turnS σ i x 6) ((i:Int)+1)
def canStep(σ:CS)(j:Int):CS:=match σ.T[(j-1).toNat]? with
 | some x=>canX σ (j-1).toNat x
 | none=>σ
def canL(d:List Int)(σ:CS):CS:=d.foldl canStep σ
theorem canStep_at(σ:CS)(k:Nat)(x:Ta.TR)(h:σ.T[k]?=some x):canStep σ ((k:Int)+1)=canX σ k x:=by
 unfold canStep
 rw[show((k:Int)+1-1).toNat=k by omega,h]
structure SamC(σ σ':CS):Prop where
 th:σ'.th=σ.th
 k:σ'.k=σ.k
 n:σ'.n=σ.n
 now:σ'.now=σ.now
 E:σ'.E=σ.E
 N:σ'.N=σ.N
 m:σ'.m=σ.m
 tk:σ'.tk=σ.tk
 cl:σ'.cl=σ.cl
 gone:σ'.gone=σ.gone
 len:σ'.T.length=σ.T.length
theorem SamC.refl(σ:CS):SamC σ σ:=⟨rfl,rfl,rfl,rfl,rfl,rfl,rfl,rfl,rfl,rfl,rfl⟩
theorem SamC.trans{a b c:CS}(h:SamC a b)(k:SamC b c):SamC a c:=⟨k.th.trans h.th,k.k.trans h.k,k.n.trans h.n,k.now.trans h.now,k.E.trans h.E,k.N.trans h.N,k.m.trans h.m,k.tk.trans h.tk,k.cl.trans h.cl,k.gone.trans h.gone,k.len.trans h.len⟩
theorem canX_T(σ:CS)(i:Nat)(x:Ta.TR):(canX σ i x).T=σ.T.set i (turnX x 6):=by
 unfold canX
 split<;>rfl
theorem canX_sam(σ:CS)(i:Nat)(x:Ta.TR):SamC σ (canX σ i x):=by
 refine⟨?_,?_,?_,?_,?_,?_,?_,?_,?_,?_,by rw[canX_T,List.length_set]⟩<;>(unfold canX;split<;>rfl)
theorem canX_o(σ:CS)(i:Nat)(x:Ta.TR):(canX σ i x).o=σ.o-1∧(canX σ i x).qn≤σ.qn+1∧(canX σ i x).ev.length=σ.ev.length+1:=by
 unfold canX
 split
 ·exact⟨rfl,Nat.le_succ _,by show(σ.ev++[_]).length=_;simp⟩
 ·exact⟨rfl,Nat.le_refl _,by show(σ.ev++[_]).length=_;simp⟩
theorem canL_one(d:List Int)(σ:CS)(I:Nat)(hI:I<d.length):canL (d.take (I+1)) σ=canStep (canL (d.take I) σ) (d.getD I 0):=by
 unfold canL
 rw[Da.take_up hI,List.foldl_append]
 rfl
theorem canL_inv(σ:CS){d:List Int}(hn:d.Nodup)(hw:∀j∈d,CanT σ.T j):∀I,I≤d.length→SamC σ (canL (d.take I) σ)∧(canL (d.take I) σ).qn≤σ.qn+I∧(canL (d.take I) σ).ev.length=σ.ev.length+I∧(canL (d.take I) σ).o=σ.o-I∧(∀k:Nat,((k:Int)+1)∉d.take I→(canL (d.take I) σ).T[k]?=σ.T[k]?):=by
 intro I
 induction I with
 | zero=>intro _;exact⟨SamC.refl σ,Nat.le_refl _,rfl,rfl,fun k _=>rfl⟩
 | succ I ih=>
  intro hI
  have hI':I<d.length:=by omega
  obtain⟨s,q,e,o,T⟩:=ih (by omega)
  obtain⟨k,x,hj,hx,hs,hp⟩:=hw _ (Da.getD_mem hI')
  have hk:((k:Int)+1)∉d.take I:=by rw[←hj];exact Da.nodup_take hn hI'
  have hx':(canL (d.take I) σ).T[k]?=some x:=(T k hk).trans hx
  rw[canL_one d σ I hI',hj,canStep_at _ k x hx']
  obtain⟨c1,c2,c3⟩:=canX_o (canL (d.take I) σ) k x
  refine⟨s.trans (canX_sam _ _ _),by omega,by omega,by omega,fun k' hk'=>?_⟩
  rw[Da.mem_take_up hI',hj] at hk'
  have hne:k≠k':=fun e=>hk' (.inr (by rw[e]))
  rw[canX_T,List.getElem?_set_ne hne]
  exact T k' (fun h=>hk' (.inl h))
theorem turnC6(C:Co w L D F g v σ)(hl:σ.ev.length<1000000)(hn:σ.qn≤1000)(t:Int)(hi:σ.T[i]?=some x)(hs:x.s=1∨x.s=2)(hp:0≤x.p)(wi:Wl.wfI ((i:Int)+1)) :
  Calls Tryz.prog 44 #[pt D.B,.int .i64 t,.int .i64 ((i:Int)+1),.int .i64 6] w fun e w'=>e=.returned (.tuple #[])∧Cox L D F w (canX σ i x) w':=by
 unfold canX
 rcases hs with hs|hs
 ·rw[if_pos hs]
  exact turn16 C hl t hi hs hp wi
 ·rw[if_neg (by omega)]
  exact turn26 C hl hn t hi hs hp
theorem wf_lt{T:List Ta.TR}{j:Int}(h:CanT T j)(hT:T.length≤200):Wl.wfI j:=by
 have:=h.le
 exact Da.wfI_of (by omega) (by omega)
theorem cancelAllC(C:Co w L D F g v σ){a:Option Addr}{n cap:Nat}{d:List Int}(hd:d.length=n)(o:Ow w F (.slice a n cap) d)(nd:d.Nodup)(hw:∀j∈d,CanT σ.T j)(hl:σ.ev.length+300<1000000)(hT:σ.T.length≤200)(hq:σ.qn+n≤1000) :
  Calls Tryz.prog 120 #[pt D.B,.slice a n cap] w fun e w'=>e=.returned (.tuple #[])∧Cox L D F w (canL d σ) w':=by
 have hn200:n≤200:=by
  have h1:=can_len d σ.T nd hw
  have h2:=Ta.cntP_le isC σ.T
  omega
 have CT:Aside (Co w L D F g v (canL (d.take 0) σ)):=C
 have OW:Aside (Ow w F (.slice a n cap) d):=o
 have HD:Aside (d.length=n∧d.Nodup∧(∀j∈d,CanT σ.T j)∧σ.ev.length+300<1000000∧σ.T.length≤200∧σ.qn+n≤1000):=⟨hd,nd,hw,hl,hT,hq⟩
 have X:Aside (Gc L F w F w):=Gc.refl _ _ _
 clear C o hd nd hw hl hT hq
 go_enter Tryz.func120,Tryz.ntmps120
 go_wp2_with fail
 go_loopg [5,8] n (fun kx s5 s8 wr=>∃(k:Nat),s8=.int .i64 k∧k≤n∧n-k≤kx∧∃Fr gr vr,Aside (Co wr L D Fr gr vr (canL (d.take k) σ))∧Aside (Ow wr Fr (.slice a n cap) d)∧Aside (Gc L F w Fr wr))
 case atStart=>exact⟨0,rfl,by omega,by omega,F,g,v,CT,OW,X⟩
 case round=>
  obtain⟨k,rfl,hk,hkx,Fr,gr,vr,Cr,Or,Gr⟩:=hrel
  by_cases c:k<n
  ·have hlt:(k:Int)<(n:Int):=by omega
   obtain⟨gg,off,rfl,glt,hc⟩:=Or.out.at HD.out.1 c
   have hkd:k<d.length:=by rw[HD.out.1];exact c
   have hcan:=HD.out.2.2.1 _ (Da.getD_mem hkd)
   have hwf:=wf_lt hcan HD.out.2.2.2.2.1
   obtain⟨kk,x,ej,hx,hs,hp⟩:=hcan
   obtain⟨s1,q1,e1,o1,T1⟩:=canL_inv σ HD.out.2.1 HD.out.2.2.1 k (by omega)
   have hx':(canL (d.take k) σ).T[kk]?=some x:=(T1 kk (by rw[←ej];exact Da.nodup_take HD.out.2.1 hkd)).trans hx
   rw[ej] at hwf
   have P:=turnC6 Cr.out (by have:=HD.out.2.2.2.1;omega) (by have:=HD.out.2.2.2.2.2;omega) (-1) hx' hs hp hwf
   have RL:Aside (canL (d.take (k+1)) σ=canX (canL (d.take k) σ) kk x):=by
    show _=_
    rw[canL_one d σ k hkd,ej,canStep_at _ kk x hx']
   rw[ej] at hc
   clear hx hx' hs hp s1 q1 e1 o1 T1 ej hkd hwf
   go_wp2_with fail
   refine P.mono ?_
   rintro e w4 ⟨rfl,F4,g4,v4,C4,G4⟩
   have C4':Aside (Co w4 L D F4 g4 v4 (canL (d.take (k+1)) σ)):=by
    show Co w4 L D F4 g4 v4 (canL (d.take (k+1)) σ)
    rw[RL.out];exact C4
   have O4:Aside (Ow w4 F4 (.slice (some ⟨gg,off,none⟩) n cap) d):=Or.out.gc G4
   have X4:Aside (Gc L F w F4 w4):=Gr.out.trans G4
   clear P C4 G4 hc RL
   go_wp2_with fail
   go_roundg (n-(k+1))
   case measure=>omega
   case rel=>exact⟨k+1,by go_num,by omega,Nat.le_refl _,F4,g4,v4,C4',O4,X4⟩
  ·have hnl:¬(k:Int)<(n:Int):=by omega
   have FIN:Aside (Cox L D F w (canL d σ) wr):=by
    refine⟨Fr,gr,vr,?_,Gr.out⟩
    have:=Cr.out
    rw[List.take_of_length_le (by rw[HD.out.1];omega)] at this
    exact this
   clear hk hkx
   go_wp2_with fail
   go_end0
   exact⟨rfl,FIN.out⟩
end
section
open Go.RowKit Go.Lib Go.WideMaps Go.Maps
variable {w w' u:World}{L i:Nat}{D:CAd}{F F':Nat→Nat→Prop}{g v:Value}{σ:CS}{x:Ta.TR}
def KillL(E:Da.Rel)(id:Int)(d:List Int):Prop:=Da.Up d∧∀j,j∈d↔Da.Rch E id j
def kilE(E:Da.Rel)(id:Int):Da.Rel:=fun q j=>E q j∧j≠id∧¬Da.Rch E id j
theorem Co.killC(C:Co w L D F g v σ)(hN:σ.N<100000){id:Int}(hi:Da.wfI id) :
  Calls Tryz.prog 119 #[pt D.Bd,.int .i64 id] w fun e w'=>∃a n cap d F',e=.returned (.slice a n cap)∧d.length=n∧KillL σ.E id d∧Owb w.heap.size w' F' (.slice a n cap) d∧(∃g' v',Co w' L D F' g' v' {σ with E:=kilE σ.E id})∧Gc L F w F' w':=by
 refine(Da.killG C.dag hN hi).mono ?_
 rintro e w' ⟨v',d,X',rfl,o,up,md,Dg',st,dis,_⟩
 obtain⟨C',G'⟩:=C.setDag Dg' st
 obtain⟨a,cap,e,_⟩:=o.isI
 subst e
 refine⟨a,_,cap,d,_,rfl,rfl,⟨up,md⟩,⟨o,fun k hk p hp=>?_⟩,⟨_,_,C'⟩,G'⟩
 by_cases e:p=4
 ·subst e;rw[fset_same] at hp;exact dis k hk hp
 ·rw[fset_ne _ _ e] at hp
  have:=C.fp.lt p k hp
  have:=(o.rowLt hk).1
  omega
theorem Owb.app{S:Nat}{w0:World}{F0:Nat→Nat→Prop}{v v0:Value}{d c:List Int}{a:Option Addr}{n cap:Nat}(o:Owb S w F v d)(oc:Ow w F (.slice a n cap) c)(hc:c.length=n)(C:Co w L D F g v0 σ)(G:Gc L F0 w0 F w)(hS:w0.heap.size≤S)(hS2:S≤w.heap.size)(hL:L≤w0.heap.size)(hd:d.length+c.length≤1000000) :
  ∃v' w',(Builtin.append_ #[43,43] 43 #[v,.slice a n cap]).run Tryz.prog w=.ok v' w'∧
  Owb S w' F v' (d++c)∧Co w' L D F g v0 σ∧Gc L F0 w0 F w'∧Ta.Fr (fun k=>v.ownBlock=some k) w w'∧(∀k,v'.ownBlock=some k→v.ownBlock=some k∨w.heap.size≤k):=by
 subst hc
 obtain⟨v',w',hr,o',gr,hn⟩:=Da.app_run o.1 oc.1.isIv hd hS2 43
 have f':Ta.Fr (fun k=>v.ownBlock=some k) w w':=ofD (Da.Fr.of_grown gr)
 refine⟨v',w',hr,⟨o',fun k hk p hp=>?_⟩,C.frX f' (fun k hk=>⟨o.2 k hk,?_⟩),G.ownX (fun k hk=>Nat.le_trans hS (o.1.rowLt hk).1) hL f',f',hn⟩
 ·rcases hn k hk with e|e
  ·exact o.2 k e p hp
  ·have:=C.fp.lt p k hp;omega
 ·obtain⟨cs,hc⟩:=o.1.rowT hk
  exact nq_of hc (by unfold QT;decide)
theorem Owb.one(C:Co w L D F g v σ)(x:Int){S:Nat}(hS:S≤w.heap.size):Owb S (w.alloc (.cells #[.int .i64 x] 3)) F (.slice (some ⟨w.heap.size,0,none⟩) 1 1) [x]:=
 ⟨Da.OwnI.one w x hS,fun k hk p hp=>by
  have:=C.fp.lt p k hp
  injection hk with hk
  have hk:w.heap.size=k:=hk
  omega⟩
def dropE(σ:CS)(id:Int):CS:={σ with E:=kilE σ.E id}
theorem kill_nodup{E:Da.Rel}{id:Int}{d:List Int}(h:KillL E id d)(hlt:∀p i,E p i→p<i):(id::d).Nodup:=by
 refine List.nodup_cons.2 ⟨fun hm=>?_,up_nodup h.1⟩
 have:=Da.Rch.lt hlt ((h.2 id).1 hm)
 omega
theorem dropC(C:Co w L D F g v σ){id:Int}(hc:CanT σ.T id)(hN:σ.N<100000)(hw:∀j,Da.Rch σ.E id j→Wt σ.T j)(hl:σ.ev.length+300<1000000)(hT:σ.T.length≤200)(hq:σ.qn+σ.T.countP isC≤1000) :
  Calls Tryz.prog 68 #[pt D.B,.int .i64 id] w fun e w'=>∃a n cap,e=.returned (.slice a n cap)∧∃d F',KillL σ.E id d∧n=d.length+1∧Owb w.heap.size w' F' (.slice a n cap) (id::d)∧(∃g' v',Co w' L D F' g' v' (canL (id::d) (dropE σ id)))∧Gc L F w F' w':=by
 have hwf:Da.wfI id:=wf_lt hc hT
 obtain⟨S,hS⟩:∃S,w.heap.size=S:=⟨_,rfl⟩
 obtain⟨u,hu⟩:∃z,w.alloc (.cells #[.int .i64 id] 3)=z:=⟨_,rfl⟩
 have bu:Below w.heap.size w u:=by rw[←hu];exact belA _ _
 have Cu:Co u L D F g v σ:=C.below bu
 have c6:u.cell? ⟨D.B,6,none⟩=some (pt D.Bd):=Cu.c6
 have ou:Owb S u F (.slice (some ⟨S,0,none⟩) 1 1) [id]:=by rw[←hu,←hS];exact Owb.one C id (Nat.le_refl _)
 have PK:Calls Tryz.prog 119 #[pt D.Bd,.int .i64 id] u fun e w'=>∃a n cap d F' v' w'',e=.returned (.slice a n cap)∧d.length=n∧KillL σ.E id d∧(Builtin.append_ #[43,43] 43 #[.slice (some ⟨S,0,none⟩) 1 1,.slice a n cap]).run Tryz.prog w'=.ok v' w''∧Owb S w'' F' v' (id::d)∧(∃g' v0,Co w'' L D F' g' v0 (dropE σ id))∧Gc L F w F' w'':=by
  refine(Cu.killC hN hwf).mono ?_
  rintro e w' ⟨a,n,cap,d,F',h1,h2,h3,h4,⟨g',v',h5⟩,h6⟩
  have hdl:d.length≤200:=by
   have h1:=wt_len d σ.T (up_nodup h3.1) (fun j hj=>hw j ((h3.2 j).1 hj))
   have h2:=Ta.cntP_le isW σ.T
   omega
  have G0:Gc L F w F' w':=(Gc.below F C.lw bu).trans h6
  have o1:=ou.gc h6
  obtain⟨v1,w1,hr,o3,C3,G3,_,_⟩:=o1.app h4.ow h2 h5 G0 (Nat.le_of_eq hS) (by rw[←hS];exact G0.size) C.lw (by simp;omega)
  exact⟨a,n,cap,d,F',v1,w1,h1,h2,h3,hr,o3,⟨g',v',C3⟩,G3⟩
 have HH:Aside (CanT σ.T id∧(∀j,Da.Rch σ.E id j→Wt σ.T j)∧σ.ev.length+300<1000000∧σ.T.length≤200∧σ.qn+σ.T.countP isC≤1000∧∀p i,σ.E p i→p<i):=⟨hc,hw,hl,hT,hq,fun p i h=>(C.dag.ord p i h).2.1⟩
 have HU:Aside _:=hu
 have HS:Aside (w.heap.size=S):=hS
 rw[hS]
 clear C Cu hu hS bu ou hc hN hw hl hT hq hwf
 go_enter Tryz.func68,Tryz.ntmps68
 have cA:(w.alloc (.cells #[.int .i64 id] 3)).cell? ⟨D.B,6,none⟩=some (pt D.Bd):=by rw[HU.out];exact c6
 go_wp2_with fail
 rw[HU.out]
 try simp only[HS.out]
 clear cA
 refine PK.mono ?_
 rintro e w1 ⟨a,n,cap,d,F1,v1,w2,rfl,hd,kl,hr,o2,⟨g2,v2,C2⟩,G2⟩
 clear PK c6
 have nd:=kill_nodup kl HH.out.2.2.2.2.2
 have can:∀j∈id::d,CanT (dropE σ id).T j:=fun j hj=>by
  rcases List.mem_cons.1 hj with rfl|hj
  ·exact HH.out.1
  ·exact(HH.out.2.1 j ((kl.2 j).1 hj)).can
 have hlen:=can_len (id::d) σ.T nd can
 obtain⟨a2,cap2,e2,_⟩:=o2.1.isI
 subst e2
 obtain⟨n2,hn2⟩:∃n2,(id::d).length=n2:=⟨_,rfl⟩
 rw[hn2] at o2 hr
 have P:=cancelAllC C2 hn2 o2.ow nd can (show σ.ev.length+300<1000000 from HH.out.2.2.1) (show σ.T.length≤200 from HH.out.2.2.2.1) (show σ.qn+n2≤1000 by have:=HH.out.2.2.2.2.1;omega)
 have HK:Aside (KillL σ.E id d∧n2=d.length+1):=⟨kl,by rw[←hn2];rfl⟩
 have X2:Aside (Gc L F w F1 w2∧Owb S w2 F1 (.slice a2 n2 cap2) (id::d)):=⟨G2,o2⟩
 clear o2 C2 G2 nd can hlen kl hn2 hd
 go_wp2_with (at_builtin;refine Da.wpList_app _ rfl _ _ 43 rfl _ _ rfl rfl _ w2 hr ?_;clear hr)
 refine P.mono ?_
 rintro e w3 ⟨rfl,F3,g3,v3,C3,G3⟩
 have FIN:Aside (∃a n cap,Ending.returned (.slice a2 n2 cap2)=.returned (.slice a n cap)∧∃d F',KillL σ.E id d∧n=d.length+1∧Owb S w3 F' (.slice a n cap) (id::d)∧(∃g' v',Co w3 L D F' g' v' (canL (id::d) (dropE σ id)))∧Gc L F w F' w3):=
  ⟨a2,n2,cap2,rfl,d,F3,HK.out.1,HK.out.2,X2.out.2.gc G3,⟨g3,v3,C3⟩,X2.out.1.trans G3⟩
 clear P C3 G3
 go_wp2_with fail
 go_ret
 exact FIN.out
theorem cancelW(C:Co w L D F g v σ)(hi:σ.T[i]?=some x)(hs:x.s=1∨x.s=2)(hp:0≤x.p)(hN:σ.N<100000)(hw:∀j,Da.Rch σ.E ((i:Int)+1) j→Wt σ.T j)(hl:σ.ev.length+300<1000000)(hT:σ.T.length≤200)(hq:σ.qn+σ.T.countP isC≤1000) :
  Calls Tryz.prog 19 #[pt D.B,.int .i64 ((i:Int)+1)] w fun e w'=>e=.returned (.int .i64 0)∧∃d,KillL σ.E ((i:Int)+1) d∧Cox L D F w (canL (((i:Int)+1)::d) (dropE σ ((i:Int)+1))) w':=by
 have P:=statusC C hi
 obtain⟨I1,hI1⟩:∃J,(i:Int)+1=J:=⟨_,rfl⟩
 have hcan:CanT σ.T I1:=⟨i,x,hI1.symm,hi,hs,hp⟩
 rw[hI1] at P hw
 rw[hI1]
 have HH:Aside (CanT σ.T I1∧σ.N<100000∧(∀j,Da.Rch σ.E I1 j→Wt σ.T j)∧σ.ev.length+300<1000000∧σ.T.length≤200∧σ.qn+σ.T.countP isC≤1000):=⟨hcan,hN,hw,hl,hT,hq⟩
 obtain⟨s,hs'⟩:∃s,x.s=s:=⟨_,rfl⟩
 rw[hs'] at P hs
 clear C hi hs' hp hN hw hl hT hq hcan hI1
 go_enter Tryz.func19,Tryz.ntmps19
 go_wp2_with fail
 refine P.mono ?_
 rintro e w1 ⟨rfl,F1,g1,v1,C1,G1⟩
 have Q:=dropC C1 HH.out.1 HH.out.2.1 HH.out.2.2.1 HH.out.2.2.2.1 HH.out.2.2.2.2.1 HH.out.2.2.2.2.2
 have X1:Aside (Gc L F w F1 w1):=G1
 clear P C1 G1
 rcases hs with rfl|rfl
 ·go_wp2_with fail
  refine Q.mono ?_
  rintro e w2 ⟨a,n,cap,rfl,d,F2,kl,rfl,o2,⟨g2,v2,C2⟩,G2⟩
  have FIN:Aside (∃d,KillL σ.E I1 d∧Cox L D F w (canL (I1::d) (dropE σ I1)) w2):=⟨d,kl,F2,g2,v2,C2,X1.out.trans G2⟩
  clear Q kl o2 C2 G2
  go_wp2_with fail
  go_ret
  exact⟨rfl,FIN.out⟩
 ·go_wp2_with fail
  refine Q.mono ?_
  rintro e w2 ⟨a,n,cap,rfl,d,F2,kl,rfl,o2,⟨g2,v2,C2⟩,G2⟩
  have FIN:Aside (∃d,KillL σ.E I1 d∧Cox L D F w (canL (I1::d) (dropE σ I1)) w2):=⟨d,kl,F2,g2,v2,C2,X1.out.trans G2⟩
  clear Q kl o2 C2 G2
  go_wp2_with fail
  go_ret
  exact⟨rfl,FIN.out⟩
end
section
open Go.RowKit Go.Lib Go.WideMaps Go.Maps
structure FI(σ:CS)(n j:Nat):Prop where
 th:σ.th=2
 cn:σ.n=n
 cl:σ.cl=false
 N:σ.N=0
 E:σ.E=fun _ _=>False
 len:σ.T.length=j
 o:σ.o=j
 qn:σ.qn≤j
 ev:σ.ev.length≤2*j
 tk:σ.tk=0
 now:σ.now=0
 st:∀x∈σ.T,0≤x.p∧(x.s=1∨x.s=2)
variable {σ:CS}{n j k d:Nat}{x:Ta.TR}
theorem kill_nil{d:List Int}{id:Int}(h:KillL (fun _ _=>False) id d):d=[]:=by
 cases d with
 | nil=>rfl
 | cons a l=>
  have:=(h.2 a).1 (by simp)
  exact(this (fun _=>False) (fun _ h=>h) (fun _ _ h _=>h)).elim
end
end Go.Proofs.YtdboknkfhbhniaaGreatDoor
