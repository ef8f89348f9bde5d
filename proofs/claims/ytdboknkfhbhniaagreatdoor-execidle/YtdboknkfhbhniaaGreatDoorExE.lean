import Derived.Test.YtdboknkfhbhniaaGreatDoorWkH
open List(append_nil flatten_cons flatten_nil length_append)
namespace Go.Proofs.YtdboknkfhbhniaaGreatDoor
set_option maxHeartbeats 8000000
set_option maxRecDepth 100000
set_option linter.unusedVariables false
open Go.RowKit Go.Lib Go.WideMaps Go.Maps
section
variable {w w' w'' u:World}{L i n M R:Nat}{D:CAd}{F F' F'':Nat→Nat→Prop}{g v:Value}{σ σ':CS}{xs:List WR}{d:DD}
theorem infoW:∃i,Tryz.prog.info? 59=some i∧i.zero=some (.agg #[.int .i64 0,.int .u64 0,.int .i64 0,.int .i64 0,.bool false])∧i.size=5∧i.bytes=40:=by
 have h:(Tryz.prog.info? 59).map (fun i=>(i.zero,i.size,i.bytes))=some (some (.agg #[.int .i64 0,.int .u64 0,.int .i64 0,.int .i64 0,.bool false]),5,40):=by kernel_rfl
 obtain⟨i,h1,h2⟩:=Option.map_eq_some_iff.1 h
 simp at h2
 exact⟨i,h1,h2.1,h2.2.1,h2.2.2⟩
theorem made5(n:Nat)(h1:1≤n)(h8:n≤8):madeCells (Value.agg #[.int .i64 0,.int .u64 0,.int .i64 0,.int .i64 0,.bool false]).cells (n*5)=(wkF (List.replicate n wk0)).toArray:=by
 have:n=1∨n=2∨n=3∨n=4∨n=5∨n=6∨n=7∨n=8:=by omega
 rcases this with rfl|rfl|rfl|rfl|rfl|rfl|rfl|rfl<;>simp[madeCells,Value.cells,wkF,wk0,List.replicate,Array.range,Array.ofFn_succ]
theorem makeW(w:World)(n:Nat)(h1:1≤n)(h8:n≤8) :
  (Instr.makeSlice 137 (.int .i64 (n:Int)) (.int .i64 (n:Int))).run Tryz.prog w=.ok (.slice (some ⟨w.heap.size,0,none⟩) n n) (w.alloc (.cells (wkF (List.replicate n wk0)).toArray 59)):=by
 obtain⟨i,hi,hz,hs,hby⟩:=infoW
 have hm:=run_make (P:=Tryz.prog) w 137 59 i _ Tryz.underlying137 hi hz .i64 .i64 n n (by omega) (Int.le_refl _) (by rw[hby];omega) (by omega)
 simp only[Int.toNat_natCast,hs] at hm
 rw[made5 n h1 h8] at hm
 exact hm
theorem newM(th k c:Nat)(w:World)(t1:1≤th)(t8:th≤8)(k16:k≤16)(n1:1≤c)(n64:c≤64) :
  Calls Tryz.prog 21 #[.agg #[.int .i64 th,.int .i64 k,.int .i64 c]] w fun e w'=>∃M,e=.returned (.tuple #[pt M,.int .i64 0])∧∃L D F R,w.heap.size≤L∧Mc w' L D F (.slice none 0 0) (.slice none 0 0) M R th (newS th k c) (List.replicate th wk0) DD.z∧Below w.heap.size w w':=by
 obtain⟨K,hK⟩:∃J,w.heap.size=J:=⟨_,rfl⟩
 obtain⟨u,hu⟩:∃q,w.alloc (.cells #[.int .i64 th,.int .i64 k,.int .i64 c] 28)=q:=⟨_,rfl⟩
 have b0:Below w.heap.size w u:=by rw[←hu];exact belA _ _
 have hk:u.heap[K]?=some (.cells #[.int .i64 th,.int .i64 k,.int .i64 c] 28 (0,0)):=by rw[←hu,←hK];exact heap_alloc_new w _
 have P:=newC th k c u t1 t8 k16 n1 n64
 have HB:Aside (Below w.heap.size w u∧u.heap[K]?=some (.cells #[.int .i64 th,.int .i64 k,.int .i64 c] 28 (0,0))∧w.heap.size=K∧1≤th∧th≤8):=⟨b0,hk,hK,t1,t8⟩
 obtain⟨k0,k1,k2⟩:=bx3 hk
 have klt:=lt_of_block hk
 have HU:Aside _:=hu
 clear hu b0 hk t1 t8 k16 n1 n64
 go_enter Tryz.func21,Tryz.ntmps21
 go_upto_region 1 with fail
 rw[HU.out]
 try simp only[hK]
 go_wp2_with fail
 refine P.mono ?_
 rintro e w1 ⟨D,F,rfl,C1,b1⟩
 clear k0 k1 k2 klt P
 have hk1:w1.heap[K]?=some (.cells #[.int .i64 th,.int .i64 k,.int .i64 c] 28 (0,0)):=(b1.block K (lt_of_block HB.out.2.1)).trans HB.out.2.1
 obtain⟨k0,k1,k2⟩:=bx3 hk1
 have klt:=lt_of_block hk1
 obtain⟨R,hR⟩:∃J,w1.heap.size=J:=⟨_,rfl⟩
 have hmk:=makeW w1 th HB.out.2.2.2.1 HB.out.2.2.2.2
 obtain⟨u1,hu1⟩:∃q,w1.alloc (.cells (wkF (List.replicate th wk0)).toArray 59)=q:=⟨_,rfl⟩
 rw[hR,hu1] at hmk
 have b2:Below w1.heap.size w1 u1:=by rw[←hu1];exact belA _ _
 have BR:Bx u1 F R (wkF (List.replicate th wk0)).toArray 59:=by rw[←hu1,←hR];exact Bx.new C1 _ _
 have X1:Aside (Co u1 (u.heap.size+1) D F (.slice none 0 0) (.slice none 0 0) (newS th k c)∧Below w.heap.size w u1∧w.heap.size≤u.heap.size+1∧Bx u1 F R (wkF (List.replicate th wk0)).toArray 59∧u.heap.size+1≤R):=⟨C1.below b2,belT (belT HB.out.1 b1) b2,Nat.le_succ_of_le HB.out.1.size,BR,by rw[←hR];exact C1.lw⟩
 have hd0:u1.drew.heap=u1.heap:=rfl
 clear C1 b1 hk1 b2 BR hu1
 go_wp2_with fail
 go_ret2
 exact⟨_,rfl,_,D,F,R,X1.out.2.2.1,⟨X1.out.1.below (belA _ _),Bx.new X1.out.1 _ _,X1.out.2.2.2.1.below (belA _ _),List.length_replicate,HB.out.2.2.2.1,HB.out.2.2.2.2,X1.out.1.lw,X1.out.2.2.2.2⟩,belT X1.out.2.1 (belA _ _)⟩
theorem ix7_0(d0 d1 d2 d3 d4 d5 d6:Int)(w:World):(Instr.index 138 (.agg #[.int .i64 d0,.int .i64 d1,.int .i64 d2,.int .i64 d3,.int .i64 d4,.int .i64 d5,.int .i64 d6]) (.int .i64 0)).run Tryz.prog w=.ok (.int .i64 d0) w:=by kernel_rfl
theorem ix7_1(d0 d1 d2 d3 d4 d5 d6:Int)(w:World):(Instr.index 138 (.agg #[.int .i64 d0,.int .i64 d1,.int .i64 d2,.int .i64 d3,.int .i64 d4,.int .i64 d5,.int .i64 d6]) (.int .i64 1)).run Tryz.prog w=.ok (.int .i64 d1) w:=by kernel_rfl
theorem ix7_2(d0 d1 d2 d3 d4 d5 d6:Int)(w:World):(Instr.index 138 (.agg #[.int .i64 d0,.int .i64 d1,.int .i64 d2,.int .i64 d3,.int .i64 d4,.int .i64 d5,.int .i64 d6]) (.int .i64 2)).run Tryz.prog w=.ok (.int .i64 d2) w:=by kernel_rfl
theorem ix7_3(d0 d1 d2 d3 d4 d5 d6:Int)(w:World):(Instr.index 138 (.agg #[.int .i64 d0,.int .i64 d1,.int .i64 d2,.int .i64 d3,.int .i64 d4,.int .i64 d5,.int .i64 d6]) (.int .i64 3)).run Tryz.prog w=.ok (.int .i64 d3) w:=by kernel_rfl
theorem ix7_4(d0 d1 d2 d3 d4 d5 d6:Int)(w:World):(Instr.index 138 (.agg #[.int .i64 d0,.int .i64 d1,.int .i64 d2,.int .i64 d3,.int .i64 d4,.int .i64 d5,.int .i64 d6]) (.int .i64 4)).run Tryz.prog w=.ok (.int .i64 d4) w:=by kernel_rfl
theorem ix7_5(d0 d1 d2 d3 d4 d5 d6:Int)(w:World):(Instr.index 138 (.agg #[.int .i64 d0,.int .i64 d1,.int .i64 d2,.int .i64 d3,.int .i64 d4,.int .i64 d5,.int .i64 d6]) (.int .i64 5)).run Tryz.prog w=.ok (.int .i64 d5) w:=by kernel_rfl
theorem ix7_6(d0 d1 d2 d3 d4 d5 d6:Int)(w:World):(Instr.index 138 (.agg #[.int .i64 d0,.int .i64 d1,.int .i64 d2,.int .i64 d3,.int .i64 d4,.int .i64 d5,.int .i64 d6]) (.int .i64 6)).run Tryz.prog w=.ok (.int .i64 d6) w:=by kernel_rfl
theorem idx7(d:DD)(w:World){k:Nat}(hk:k<7):(Instr.index 138 (.agg #[.int .i64 d.d0,.int .i64 d.d1,.int .i64 d.d2,.int .i64 d.d3,.int .i64 d.d4,.int .i64 d.d5,.int .i64 d.d6]) (.int .i64 (k:Int))).run Tryz.prog w=.ok (.int .i64 (d.get k)) w:=by
 have:k=0∨k=1∨k=2∨k=3∨k=4∨k=5∨k=6:=by omega
 rcases this with rfl|rfl|rfl|rfl|rfl|rfl|rfl
 ·exact ix7_0 _ _ _ _ _ _ _ w
 ·exact ix7_1 _ _ _ _ _ _ _ w
 ·exact ix7_2 _ _ _ _ _ _ _ w
 ·exact ix7_3 _ _ _ _ _ _ _ w
 ·exact ix7_4 _ _ _ _ _ _ _ w
 ·exact ix7_5 _ _ _ _ _ _ _ w
 ·exact ix7_6 _ _ _ _ _ _ _ w
def DD.part(d:DD)(k:Nat):Int:=match k with
 | 0=>0
 | 1=>d.d0
 | 2=>d.d0+d.d1
 | 3=>d.d0+d.d1+d.d2
 | 4=>d.d0+d.d1+d.d2+d.d3
 | 5=>d.d0+d.d1+d.d2+d.d3+d.d4
 | 6=>d.d0+d.d1+d.d2+d.d3+d.d4+d.d5
 | _=>d.d0+d.d1+d.d2+d.d3+d.d4+d.d5+d.d6
theorem DD.part_up(d:DD){k:Nat}(hk:k<7):d.part (k+1)=d.part k+d.get k:=by
 have:k=0∨k=1∨k=2∨k=3∨k=4∨k=5∨k=6:=by omega
 rcases this with rfl|rfl|rfl|rfl|rfl|rfl|rfl
 ·show d.d0=0+d.d0
  omega
 all_goals rfl
theorem DD.part_le(d:DD){k:Nat}(h:0≤d.d0∧0≤d.d1∧0≤d.d2∧0≤d.d3∧0≤d.d4∧0≤d.d5∧0≤d.d6):0≤d.part k∧d.part k≤d.sum:=by
 unfold DD.part DD.sum
 split<;>omega
theorem picksM(h:Mc w L D F g v M R n σ xs d)(hd:d.few 1000000):Calls Tryz.prog 27 #[pt M] w fun e w'=>e=.returned (.int .i64 d.sum)∧w'=w:=by
 obtain⟨d0,d1,d2,d3,d4,d5,d6⟩:=d
 have cc:=fun j (hj:j<7)=>h.cd hj
 have q0:w.cell? ⟨M,2,none⟩=some (.int .i64 d0):=cc 0 (by omega)
 have q1:w.cell? ⟨M,3,none⟩=some (.int .i64 d1):=cc 1 (by omega)
 have q2:w.cell? ⟨M,4,none⟩=some (.int .i64 d2):=cc 2 (by omega)
 have q3:w.cell? ⟨M,5,none⟩=some (.int .i64 d3):=cc 3 (by omega)
 have q4:w.cell? ⟨M,6,none⟩=some (.int .i64 d4):=cc 4 (by omega)
 have q5:w.cell? ⟨M,7,none⟩=some (.int .i64 d5):=cc 5 (by omega)
 have q6:w.cell? ⟨M,8,none⟩=some (.int .i64 d6):=cc 6 (by omega)
 have mlt:=lt_of_block h.bm.1
 obtain⟨h0,h1,h2,h3,h4,h5,h6,hs⟩:=hd
 obtain⟨S,hS⟩:∃S,DD.sum ⟨d0,d1,d2,d3,d4,d5,d6⟩=S:=⟨_,rfl⟩
 have HS:Aside (d0+d1+d2+d3+d4+d5+d6=S∧S≤1000000):=⟨hS,by rw[←hS];exact hs⟩
 have HN:Aside (0≤d0∧0≤d1∧0≤d2∧0≤d3∧0≤d4∧0≤d5∧0≤d6):=⟨h0,h1,h2,h3,h4,h5,h6⟩
 rw[hS]
 clear h hs hS h0 h1 h2 h3 h4 h5 h6 cc
 go_enter Tryz.func27,Tryz.ntmps27
 go_wp2_with fail
 go_loopg [3,5,10] 7 (fun kx s3 s5 s10 wr=>∃k:Nat,s10=.int .i64 k∧k≤7∧7-k≤kx∧wr=w∧s3=.int .i64 ((DD.mk d0 d1 d2 d3 d4 d5 d6).part k))
 case atStart=>exact⟨0,rfl,by omega,by omega,rfl,rfl⟩
 case round=>
  obtain⟨k,rfl,hk,hkx,rfl,rfl⟩:=hrel
  have hn:=HN.out
  have hs:=HS.out
  by_cases c:k<7
  ·have ix:=idx7 ⟨d0,d1,d2,d3,d4,d5,d6⟩ wr c
   have hlt:(k:Int)<7:=by omega
   obtain⟨G,hG⟩:∃G,DD.get ⟨d0,d1,d2,d3,d4,d5,d6⟩ k=G:=⟨_,rfl⟩
   obtain⟨A,hA⟩:∃A,DD.part ⟨d0,d1,d2,d3,d4,d5,d6⟩ k=A:=⟨_,rfl⟩
   obtain⟨A1,hA1⟩:∃A,DD.part ⟨d0,d1,d2,d3,d4,d5,d6⟩ (k+1)=A:=⟨_,rfl⟩
   have hs1:A+G=A1∧-1≤A1∧A1≤1000000:=by
    have hu:=DD.part_up ⟨d0,d1,d2,d3,d4,d5,d6⟩ c
    have hb:=DD.part_le ⟨d0,d1,d2,d3,d4,d5,d6⟩ (k:=k+1) hn
    rw[hG,hA,hA1] at hu
    rw[hA1] at hb
    have e7:DD.sum ⟨d0,d1,d2,d3,d4,d5,d6⟩=S:=hs.1
    rw[e7] at hb
    exact⟨hu.symm,by have:=hb.1;omega,Int.le_trans hb.2 hs.2⟩
   have hwA:IntKind.i64.wrap (A+G)=A1:=by rw[IntKind.wrap_i64];omega
   rw[hG] at ix
   rw[hA]
   have HA1:Aside _:=hA1
   clear hn hs hG hA hA1 hs1 c
   go_wp2_with fail
   go_roundg (7-(k+1))
   case measure=>omega
   case rel=>exact⟨k+1,by go_num,by omega,Nat.le_refl _,rfl,by rw[HA1.out]⟩
  ·obtain rfl:k=7:=by omega
   unfold DD.part
   go_wp2_with fail
   go_ret
   exact⟨congrArg (fun z=>Ending.returned (.int .i64 z)) hs.1,rfl⟩
def DD.list(d:DD):List Int:=[d.d0,d.d1,d.d2,d.d3,d.d4,d.d5,d.d6]
theorem didM(h:Mc w L D F g v M R n σ xs d):Calls Tryz.prog 25 #[pt M] w fun e w'=>∃a cap,e=.returned (.slice a 7 cap)∧Da.OwnI w' w.heap.size (.slice a 7 cap) d.list∧Below w.heap.size w w':=by
 have mlt:=lt_of_block h.bm.1
 have I:Da.IsI w (some ⟨M,2,none⟩) 7 d.list:=⟨by show 7≤7;omega,by unfold maxLen;omega,fun i x hx=>by
  have hi:=(List.getElem?_eq_some_iff.1 hx).1
  refine⟨M,2,rfl,mlt,?_⟩
  have hi7:i<7:=hi
  rw[h.cd hi7]
  have:i=0∨i=1∨i=2∨i=3∨i=4∨i=5∨i=6:=by omega
  rcases this with rfl|rfl|rfl|rfl|rfl|rfl|rfl<;>(simp[DD.list] at hx;subst hx;rfl)⟩
 have P:Calls Tryz.prog 71 #[.slice (some ⟨M,2,none⟩) 7 7] w fun e w'=>∃v',e=.returned v'∧Da.OwnI w' w.heap.size v' d.list∧Below w.heap.size w w':=Da.clone_any I (by show 7≤1000000;omega)
 clear I h
 go_enter Tryz.func25,Tryz.ntmps25
 go_wp2_with fail
 refine P.mono ?_
 rintro e w1 ⟨v',rfl,o,b⟩
 obtain⟨a,cap,rfl,_⟩:=o.isI
 have FIN:Aside (Da.OwnI w1 w.heap.size (.slice a 7 cap) d.list∧Below w.heap.size w w1):=⟨o,b⟩
 clear P o b
 go_wp2_with fail
 go_ret
 exact⟨_,_,rfl,FIN.out.1,FIN.out.2⟩
theorem allIdleM(h:Mc w L D F g v M R n σ xs d):Calls Tryz.prog 72 #[pt M] w fun e w'=>e=.returned (.bool (xs.all fun x=>x.ph==0))∧Below w.heap.size w w':=by
 have n1:=h.n1
 have n8:=h.n8
 have c1:=h.c1
 have mlt:=lt_of_block h.bm.1
 obtain⟨B,hB⟩:∃B,(xs.all fun x=>x.ph==0)=B:=⟨_,rfl⟩
 rw[hB]
 have HH:Aside (Mc w L D F g v M R n σ xs d∧(xs.all fun x=>x.ph==0)=B):=⟨h,hB⟩
 clear h hB
 go_enter Tryz.func72,Tryz.ntmps72
 go_wp2_with fail
 go_loopg [4,10] n (fun kx s4 s10 wr=>∃(k:Nat),s10=.int .i64 k∧k≤n∧n-k≤kx∧Aside (Below w.heap.size w wr∧∀i x,i<k→xs[i]?=some x→x.ph=0))
 case atStart=>exact⟨0,rfl,by omega,by omega,Below.refl _ _,fun i x hi=>absurd hi (by omega)⟩
 case round=>
  obtain⟨k,rfl,hk,hkx,S1⟩:=hrel
  by_cases c:k<n
  ·have hlt:(k:Int)<(n:Int):=by omega
   obtain⟨x,hx⟩:∃x,xs[k]?=some x:=⟨_,List.getElem?_eq_getElem (by rw[HH.out.1.len];exact c)⟩
   obtain⟨O,hO⟩:∃O,k*5=O:=⟨_,rfl⟩
   have h1:=HH.out.1.below S1.out.1
   obtain⟨k0,k1,k2,k3,k4⟩:=h1.wk hx hO
   have rlt:=lt_of_block h1.br.1
   obtain⟨x0,x1,x2,x3,x4⟩:=x
   have PI:Aside (∀W,Calls Tryz.prog 69 #[.agg #[.int .i64 x0,.int .u64 x1,.int .i64 x2,.int .i64 x3,.bool x4]] W fun e w'=>e=.returned (.bool (x0==0))∧Below W.heap.size W w'):=fun W=>idleC ⟨x0,x1,x2,x3,x4⟩ W
   have HX:Aside (xs[k]?=some ⟨x0,x1,x2,x3,x4⟩):=hx
   obtain⟨J,hJ⟩:∃J,wr.heap.size=J:=⟨_,rfl⟩
   obtain⟨u,hu⟩:∃q,wr.alloc (.cells #[.int .i64 x0,.int .u64 x1,.int .i64 x2,.int .i64 x3,.bool x4] 59)=q:=⟨_,rfl⟩
   have b0:Below wr.heap.size wr u:=by rw[←hu];exact belA _ _
   have hb:u.heap[J]?=some (.cells #[.int .i64 x0,.int .u64 x1,.int .i64 x2,.int .i64 x3,.bool x4] 59 (0,0)):=by rw[←hu,←hJ];exact heap_alloc_new wr _
   obtain⟨a0,a1,a2,a3,a4⟩:=bx5 hb
   have alt:=lt_of_block hb
   have P:=PI.out u
   have X1:Aside (Below w.heap.size w u):=belT S1.out.1 b0
   have HU:Aside _:=hu
   have HJ:Aside _:=hJ
   clear hx h1 hu hJ b0 hb
   go_upto_region 4 with fail
   rw[HU.out]
   try simp only[HJ.out]
   go_wp2_with fail
   refine P.mono ?_
   rintro e w2 ⟨rfl,b2⟩
   have X2:Aside (Below w.heap.size w w2):=belT X1.out b2
   clear P b2 a0 a1 a2 a3 a4 alt k0 k1 k2 k3 k4 rlt
   by_cases hx0:x0=0
   ·subst hx0
    have hb:((0:Int)==0)=true:=rfl
    have NX:Aside (Below w.heap.size w w2∧∀i x,i<k+1→xs[i]?=some x→x.ph=0):=by
     refine⟨X2.out,fun i x hi hx=>?_⟩
     by_cases e:i=k
     ·subst e;rw[HX.out] at hx;injection hx with hx;subst hx;rfl
     ·exact S1.out.2 i x (by omega) hx
    go_wp2_with fail
    go_roundg (n-(k+1))
    case measure=>omega
    case rel=>exact⟨k+1,by go_num,by omega,Nat.le_refl _,NX⟩
   ·have hb:(x0==0)=false:=by simp[hx0]
    obtain rfl:B=false:=by
     rw[←HH.out.2,List.all_eq_false]
     exact⟨_,List.mem_of_getElem? HX.out,by simp[hx0]⟩
    go_wp2_with fail
    go_ret
    exact⟨rfl,X2.out⟩
  ·have hnl:¬(k:Int)<(n:Int):=by omega
   have FIN:Aside (Below w.heap.size w wr∧B=true):=by
    refine⟨S1.out.1,?_⟩
    rw[←HH.out.2,List.all_eq_true]
    intro x hx
    obtain⟨i,hi,e⟩:=List.getElem_of_mem hx
    rw[HH.out.1.len] at hi
    have:=S1.out.2 i x (by omega) (by rw[List.getElem?_eq_getElem (by rw[HH.out.1.len];exact hi),e])
    simp[this]
   obtain rfl:B=true:=FIN.out.2
   clear S1
   go_wp2_with fail
   go_ret
   exact⟨rfl,FIN.out.1⟩
end
section
variable {w w' w'' u:World}{L i n M R:Nat}{D:CAd}{F F' F'':Nat→Nat→Prop}{g v:Value}{σ σ':CS}{xs:List WR}{d:DD}
def qall(σ:CS):Nat:=((Qu.slAll σ.q.g σ.th)++((locL σ).flatten++Qu.sortE σ.q.hs.flatten)).length
def quietB(xs:List WR)(σ:CS):Bool:=(xs.all fun x=>x.ph==0)&&(qall σ==0)
theorem ll3{w:World}{X n1 c1 n2 c2 n3 c3:Nat}{a1 a2 a3:Option Addr}{d1 d2 d3:List Qu.Ent}(hX:w.heap[X]?=some (.cells #[.slice a1 n1 c1,.slice a2 n2 c2,.slice a3 n3 c3] 34 (0,0)))(h1:d1.length=n1∧Qu.IsL w a1 c1 d1)(h2:d2.length=n2∧Qu.IsL w a2 c2 d2)(h3:d3.length=n3∧Qu.IsL w a3 c3 d3):Qu.IsLL w (some ⟨X,0,none⟩) [d1,d2,d3]:=by
 refine⟨by simp,fun i d hd=>?_⟩
 have hi:=(List.getElem?_eq_some_iff.1 hd).1
 have q:∀j,w.cell? ⟨X,0+j,none⟩=(#[.slice a1 n1 c1,.slice a2 n2 c2,.slice a3 n3 c3]:Array Value)[j]?:=fun j=>by rw[Nat.zero_add];exact cell_of_row _ _ _ _ _ _ hX
 have:i=0∨i=1∨i=2:=by simp at hi;omega
 rcases this with rfl|rfl|rfl
 ·simp at hd;subst hd;exact⟨X,0,a1,c1,rfl,lt_of_block hX,by rw[q,h1.1];rfl,h1.2⟩
 ·simp at hd;subst hd;exact⟨X,0,a2,c2,rfl,lt_of_block hX,by rw[q,h2.1];rfl,h2.2⟩
 ·simp at hd;subst hd;exact⟨X,0,a3,c3,rfl,lt_of_block hX,by rw[q,h3.1];rfl,h3.2⟩
theorem anyQM(h:Mc w L D F g v M R n σ xs d)(hq:σ.qn≤1000)(hB:qall σ≤1000000):Calls Tryz.prog 73 #[pt M] w fun e w'=>e=.returned (.bool (decide (0<qall σ)))∧Mx L D F M R n w σ xs d w':=by
 have c0:=h.c0
 have mlt:=lt_of_block h.bm.1
 have P:=stateQ h.co hq
 obtain⟨nQ,hnQ⟩:∃nQ,qall σ=nQ:=⟨_,rfl⟩
 obtain⟨nF,hnF⟩:∃nF,(locL σ).flatten.length=nF:=⟨_,rfl⟩
 have HH:Aside (Mc w L D F g v M R n σ xs d∧qall σ=nQ∧(locL σ).flatten.length=nF∧nQ≤1000000):=⟨h,hnQ,hnF,by rw[←hnQ];exact hB⟩
 have h8:=h.co.th8
 have hT:Aside (σ.th≤8):=h8
 rw[hnQ]
 clear h hq hnQ hnF hB h8
 go_enter Tryz.func73,Tryz.ntmps73
 go_wp2_with fail
 refine P.mono ?_
 rintro e w1 ⟨K,cs,s1,n1,c1,K2,s3,n3,c3,s4,c4,F1,g1,v1,rfl,C1,G1,BT,fil,o1,o2,o3⟩
 clear P c0 mlt BT fil
 obtain⟨S0,hS0⟩:∃J,w1.heap.size=J:=⟨_,rfl⟩
 obtain⟨nH,hnH⟩:∃J,σ.th=J:=⟨_,rfl⟩
 obtain⟨fr,hfr⟩:∃J,(σ.n:Int)-σ.o=J:=⟨_,rfl⟩
 obtain⟨nT,hnT⟩:∃J,σ.T.length=J:=⟨_,rfl⟩
 obtain⟨nM,hnM⟩:∃J,σ.tm.length=J:=⟨_,rfl⟩
 rw[hnH,hfr,hnT,hnM]
 obtain⟨u,hu⟩:∃q,w1.alloc (.cells #[.int .u64 σ.now,.int .u64 σ.tk,.bool σ.cl,.int .i64 fr,.slice (some ⟨K,0,none⟩) nT nT,.slice s1 n1 c1,.slice (some ⟨K2,0,none⟩) nH nH,.slice s3 n3 c3,.slice s4 nM c4] 38)=q:=⟨_,rfl⟩
 have b1:Below w1.heap.size w1 u:=by rw[←hu];exact belA _ _
 have hb:u.heap[S0]?=some (.cells #[.int .u64 σ.now,.int .u64 σ.tk,.bool σ.cl,.int .i64 fr,.slice (some ⟨K,0,none⟩) nT nT,.slice s1 n1 c1,.slice (some ⟨K2,0,none⟩) nH nH,.slice s3 n3 c3,.slice s4 nM c4] 38 (0,0)):=by rw[←hu,←hS0];exact heap_alloc_new w1 _
 have MX:Aside (Mx L D F M R n w σ xs d u):=(HH.out.1.cox ⟨F1,g1,v1,C1,G1⟩).then fun F' g' v' h'=>h'.xb b1
 have KP:Aside (∀W:World,Below u.heap.size u W→W.cell? ⟨S0,5,none⟩=some (.slice s1 n1 c1)∧W.cell? ⟨S0,6,none⟩=some (.slice (some ⟨K2,0,none⟩) nH nH)∧W.cell? ⟨S0,7,none⟩=some (.slice s3 n3 c3)):=fun W b=>by
  have:=(b.block S0 (lt_of_block hb)).trans hb
  exact⟨by rw[cell_of_row _ _ _ _ _ _ this];rfl,by rw[cell_of_row _ _ _ _ _ _ this];rfl,by rw[cell_of_row _ _ _ _ _ _ this];rfl⟩
 have hle:nF≤nQ:=by
  rw[←HH.out.2.1,←HH.out.2.2.1]
  unfold qall
  simp only[length_append]
  omega
 have hsum:n1+(nF+n3)=nQ:=by
  rw[←HH.out.2.1,←HH.out.2.2.1]
  unfold qall
  simp only[length_append]
  rw[←o1.1,←o3.1]
 have PA:Aside (∀W,Below u.heap.size u W→Calls Tryz.prog 121 #[.slice (some ⟨K2,0,none⟩) nH nH] W fun e w'=>∃a cap,e=.returned (.slice a nF cap)∧Qu.IsL w' a cap (locL σ).flatten∧Below W.heap.size W w'):=fun W b=>by
  have:=Qu.concat_any (some ⟨K2,0,none⟩) nH (locL σ) W (((o2.below b1).below b).is (by rw[locL_len];exact hT.out)) (by rw[HH.out.2.2.1];have:=HH.out.2.2.2;omega)
  rw[locL_len,hnH] at this
  refine this.mono ?_
  rintro e w' ⟨a,cap,rfl,o,b'⟩
  exact⟨a,cap,by rw[HH.out.2.2.1],o.is,b'⟩
 have O1:Aside (∀W,Below u.heap.size u W→(Qu.slAll σ.q.g σ.th).length=n1∧Qu.IsL W s1 c1 (Qu.slAll σ.q.g σ.th)):=fun W b=>⟨o1.1,((o1.below b1).below b).is⟩
 have O3:Aside (∀W,Below u.heap.size u W→(Qu.sortE σ.q.hs.flatten).length=n3∧Qu.IsL W s3 c3 (Qu.sortE σ.q.hs.flatten)):=fun W b=>⟨o3.1,((o3.below b1).below b).is⟩
 have HS:Aside (n1+(nF+n3)=nQ∧nF≤nQ):=⟨hsum,hle⟩
 have PB:Aside (∀(W:World)(a:Option Addr)(cap:Nat),Below u.heap.size u W→Qu.IsL W a cap (locL σ).flatten→Calls Tryz.prog 121 #[.slice (some ⟨W.heap.size,0,none⟩) 3 3] (W.alloc (.cells #[.slice s1 n1 c1,.slice a nF cap,.slice s3 n3 c3] 34)) fun e w'=>∃a cap,e=.returned (.slice a nQ cap)∧Below u.heap.size u w'):=fun W a cap b hL=>by
  have bA:=belA W (.cells #[.slice s1 n1 c1,.slice a nF cap,.slice s3 n3 c3] 34)
  have bb:Below u.heap.size u (W.alloc (.cells #[.slice s1 n1 c1,.slice a nF cap,.slice s3 n3 c3] 34)):=belT b bA
  have:=Qu.concat_any (some ⟨W.heap.size,0,none⟩) 3 [Qu.slAll σ.q.g σ.th,(locL σ).flatten,Qu.sortE σ.q.hs.flatten] _ (ll3 (heap_alloc_new W _) (O1.out _ bb) ⟨HH.out.2.2.1,hL.below bA⟩ (O3.out _ bb)) (by
   simp only[flatten_cons,flatten_nil,append_nil,length_append]
   rw[(O1.out _ bb).1,(O3.out _ bb).1,HH.out.2.2.1]
   have:=HS.out.1
   have:=HH.out.2.2.2
   omega)
  refine this.mono ?_
  rintro e w' ⟨a',cap',rfl,o,b'⟩
  refine⟨a',cap',?_,belT bb b'⟩
  congr 2
  simp only[flatten_cons,flatten_nil,append_nil,length_append]
  rw[(O1.out _ bb).1,(O3.out _ bb).1,HH.out.2.2.1]
  exact HS.out.1
 obtain⟨m5,m6,m7⟩:=KP.out u (Below.refl _ _)
 have e5:u.drew.cell? ⟨S0,5,none⟩=some (.slice s1 n1 c1):=m5
 have e6:u.drew.cell? ⟨S0,6,none⟩=some (.slice (some ⟨K2,0,none⟩) nH nH):=m6
 have e7:u.drew.cell? ⟨S0,7,none⟩=some (.slice s3 n3 c3):=m7
 have HU:Aside _:=hu
 have HS0:Aside _:=hS0
 clear hu hS0 hnH hfr hnT hnM C1 G1 o1 o2 o3 b1 hb hle hsum m5 m6 m7
 go_upto_region 2 with fail
 rw[HU.out]
 try simp only[HS0.out]
 go_region_held3 (fun W=>W.cell? ⟨S0,5,none⟩=some (.slice s1 n1 c1)∧W.cell? ⟨S0,6,none⟩=some (.slice (some ⟨K2,0,none⟩) nH nH)∧W.cell? ⟨S0,7,none⟩=some (.slice s3 n3 c3)) (first|with_reducible exact⟨e5,e6,e7⟩|with_reducible exact⟨f5,f6,f7⟩|exact KP.out _ (belT hb2 (belA _ _))|with_reducible exact⟨g5,g6,g7⟩)
  ((first
   | (go_at_call 121;(with_reducible refine Calls.mono (PB.out w2 a2 cap2 hb2 hl2) ?_);rintro e w3 ⟨a3,cap3,rfl,hb3⟩;obtain⟨g5,g6,g7⟩:=KP.out w3 hb3)
   | (go_at_call 121;(with_reducible refine Calls.mono (PA.out u.drew (Below.refl _ _).drew) ?_);rintro e w2 ⟨a2,cap2,rfl,hl2,b2⟩;have hb2:Below u.heap.size u w2:=⟨b2.os,b2.tape,b2.output,b2.size,b2.block⟩;obtain⟨f5,f6,f7⟩:=KP.out w2 hb2)))
 have FIN:Aside (Mx L D F M R n w σ xs d w3):=MX.out.then fun F' g' v' h'=>h'.xb hb3
 clear e5 e6 e7 f5 f6 f7 g5 g6 g7 hl2 hb2 b2 hb3
 go_wp2_with fail
 go_ret
 exact⟨by first|rfl|simp,FIN.out⟩
theorem quietM(h:Mc w L D F g v M R n σ xs d)(hq:σ.qn≤1000)(hB:qall σ≤1000000):Calls Tryz.prog 26 #[pt M] w fun e w'=>e=.returned (.bool (quietB xs σ))∧Mx L D F M R n w σ xs d w':=by
 have P:=allIdleM h
 have HH:Aside (Mc w L D F g v M R n σ xs d∧σ.qn≤1000∧qall σ≤1000000):=⟨h,hq,hB⟩
 unfold quietB
 obtain⟨A,hA⟩:∃A,(xs.all fun x=>x.ph==0)=A:=⟨_,rfl⟩
 obtain⟨Q,hQ⟩:∃Q,decide (0<qall σ)=Q:=⟨_,rfl⟩
 have hQ':(qall σ==0)=!Q:=by
  rw[←hQ]
  by_cases c:qall σ=0
  ·rw[c];rfl
  ·have:0<qall σ:=by omega
   simp[c,this]
 rw[hA] at P⊢
 rw[hQ']
 have HQ:Aside (decide (0<qall σ)=Q):=hQ
 clear h hq hB hA hQ hQ'
 go_enter Tryz.func26,Tryz.ntmps26
 cases A with
 | false=>
  go_wp2_with fail
  refine P.mono ?_
  rintro e w1 ⟨rfl,b1⟩
  have FIN:Aside (Mx L D F M R n w σ xs d w1):=HH.out.1.xb b1
  clear P b1
  go_wp2_with fail
  go_ret
  exact⟨rfl,FIN.out⟩
 | true=>
  go_wp2_with fail
  refine P.mono ?_
  rintro e w1 ⟨rfl,b1⟩
  have P2:=anyQM (HH.out.1.below b1) HH.out.2.1 HH.out.2.2
  rw[HQ.out] at P2
  have X1:Aside (Below w.heap.size w w1):=b1
  clear P b1
  go_wp2_with fail
  refine P2.mono ?_
  rintro e w2 ⟨rfl,X⟩
  have FIN:Aside (Mx L D F M R n w σ xs d w2):=by
   obtain⟨F2,g2,v2,h2,G2⟩:=X
   exact⟨F2,g2,v2,h2,(Fm.below HH.out.1 X1.out).trans G2⟩
  clear P2 X
  go_wp2_with fail
  go_ret
  exact⟨rfl,FIN.out⟩
end
section
variable {w w' w'' u:World}{L i n M R:Nat}{D:CAd}{F F' F'':Nat→Nat→Prop}{g v:Value}{σ σ':CS}{xs:List WR}{d:DD}
theorem Co.qall_le(C:Co w L D F g v σ)(hn:σ.qn≤1000):qall σ≤1000000:=by
 have h8:=C.th8
 have k16:=C.k16
 have h1:(locL σ).flatten.length≤σ.th*16:=by
  have:∀m,m≤σ.th→((List.range m).map fun t=>Qu.sortE (σ.q.ls t).flatten).flatten.length≤m*16:=by
   intro m
   induction m with
   | zero=>intro _;simp
   | succ m ih=>
    intro hm
    have:=ih (by omega)
    have h2:=C.qok.len m (by omega)
    rw[List.range_succ,List.map_append,List.flatten_append,length_append]
    simp only[List.map_cons,List.map_nil,flatten_cons,flatten_nil,append_nil]
    rw[Qu.sortE_len]
    omega
  exact this σ.th (Nat.le_refl _)
 have h2:=C.qok.hsum
 have h3:=Qu.slAll_len σ.q.g σ.th
 unfold qall
 simp only[length_append]
 rw[Qu.sortE_len]
 omega
theorem mq_intT:¬Qu.MQ 3:=mq_int
def StepsTo(L:Nat)(D:CAd)(σ:CS)(x:WR)(t dr:Nat)(Z:WR→Nat→CS→Prop):Prop:=∀w1 F1 g1 v1,Co w1 L D F1 g1 v1 σ→Calls Tryz.prog 18 #[pt D.B,wkV x,.int .i64 t,.int .u64 dr] w1 fun e w'=>∃(y0 y1 y2 y3:Int)(y4:Bool)(j:Nat),e=.returned (.tuple #[wkV ⟨y0,y1,y2,y3,y4⟩,.int .i64 j])∧j<7∧∃σ',Z ⟨y0,y1,y2,y3,y4⟩ j σ'∧Cox L D F1 w1 σ' w'
def RowJ(cs:Array Value)(js:List Nat):Prop:=∀(i j:Nat),js[i]?=some j→cs[i]?=some (Value.int .i64 (j:Int))
theorem RowJ.push{cs:Array Value}{js:List Nat}(h:RowJ cs js)(hl:js.length<cs.size)(j:Nat):RowJ (cs.setIfInBounds js.length (.int .i64 (j:Nat))) (js++[j]):=fun i y hy=>by
 by_cases e:i=js.length
 ·subst e
  rw[List.getElem?_append_right (Nat.le_refl _),Nat.sub_self] at hy
  simp at hy
  subst hy
  rw[Array.getElem?_setIfInBounds_self_of_lt hl]
 ·have hi:=(List.getElem?_eq_some_iff.1 hy).1
  rw[length_append,List.length_singleton] at hi
  rw[List.getElem?_append_left (by omega)] at hy
  rw[Array.getElem?_setIfInBounds_ne (fun h=>e h.symm)]
  exact h i y hy
theorem makeI(w:World)(n:Nat)(hn:n≤8):∃cs:Array Value,(Instr.makeSlice 43 (.int .i64 (n:Int)) (.int .i64 (n:Int))).run Tryz.prog w=.ok (.slice (some ⟨w.heap.size,0,none⟩) n n) (w.alloc (.cells cs 3))∧cs.size=n:=by
 have h:(Tryz.prog.info? 3).map (fun i=>(i.zero,i.size,i.bytes))=some (some (.int .i64 0),1,8):=by kernel_rfl
 obtain⟨i,hi,h2⟩:=Option.map_eq_some_iff.1 h
 simp at h2
 have hm:=run_make (P:=Tryz.prog) w 43 3 i _ Tryz.underlying43 hi h2.1 .i64 .i64 n n (by omega) (Int.le_refl _) (by rw[h2.2.2];omega) (by omega)
 simp only[Int.toNat_natCast,h2.2.1] at hm
 exact⟨_,hm,by simp[madeCells]⟩
def RoundIs(L:Nat)(D:CAd)(F:Nat→Nat→Prop)(M R n:Nat)(J:List Nat→List WR→DD→CS→Prop)(A:Nat)(w w':World):Prop:=∃(cs:Array Value)(js:List Nat)(ys:List WR)(dd:DD)(τ:CS)(F':Nat→Nat→Prop)(g' v':Value),js.length=n∧RowJ cs js∧J js ys dd τ∧Mc w' L D F' g' v' M R n τ ys dd∧Gc L (Fm F M R) w (Fm F' M R) w'∧Bx w' (Fm F' M R) A cs 3∧cs.size=n
theorem roundM(h:Mc w L D F g v M R n σ xs d){dr:Nat}(J:List Nat→List WR→DD→CS→Prop)(h0:J [] xs d σ)
  (hst:∀js ys e τ x,js.length<n→J js ys e τ→ys[js.length]?=some x→e.few 1000000∧StepsTo L D τ x js.length dr fun y j τ'=>J (js++[j]) (ys.set js.length y) (e.inc j) τ') :
  Calls Tryz.prog 70 #[pt M,.int .u64 dr] w fun e w'=>∃A,e=.returned (.slice (some ⟨A,0,none⟩) n n)∧RoundIs L D F M R n J A w w':=by
 have n1:=h.n1
 have n8:=h.n8
 have c1:=h.c1
 have mlt:=lt_of_block h.bm.1
 obtain⟨A,hA⟩:∃A,w.heap.size=A:=⟨_,rfl⟩
 obtain⟨cs0,hmk,hcs⟩:=makeI w n n8
 obtain⟨u,hu⟩:∃z,w.alloc (.cells cs0 3)=z:=⟨_,rfl⟩
 rw[hA,hu] at hmk
 have b0:Below w.heap.size w u:=by rw[←hu];exact belA _ _
 have BA:Bx u (Fm F M R) A cs0 3:=by rw[←hu,←hA];exact Bx.newM h _ _
 have ST:Aside (Mc u L D F g v M R n σ xs d∧Gc L (Fm F M R) w (Fm F M R) u∧Bx u (Fm F M R) A cs0 3∧cs0.size=n∧J [] xs d σ):=⟨h.below b0,Fm.below h b0,BA,hcs,h0⟩
 have HS:Aside _:=hst
 have HW:Aside (w.heap.size=A∧L≤w.heap.size):=⟨hA,h.co.lw⟩
 clear h hu b0 BA hcs h0 hst
 go_enter Tryz.func70,Tryz.ntmps70
 go_wp2_with fail
 go_loopg [6,15] n (fun kx s6 s15 wr=>∃(k:Nat),s15=.int .i64 k∧k≤n∧n-k≤kx∧∃(js:List Nat)(ys:List WR)(dd:DD)(τ:CS)(Fr:Nat→Nat→Prop)(gr vr:Value)(cs:Array Value),Aside (js.length=k∧J js ys dd τ∧RowJ cs js∧cs.size=n)∧Aside (Mc wr L D Fr gr vr M R n τ ys dd)∧Aside (Gc L (Fm F M R) w (Fm Fr M R) wr)∧Aside (Bx wr (Fm Fr M R) A cs 3))
 case atStart=>exact⟨0,rfl,by omega,by omega,[],xs,d,σ,F,g,v,cs0,⟨rfl,ST.out.2.2.2.2,fun i j hj=>by simp at hj,ST.out.2.2.2.1⟩,ST.out.1,ST.out.2.1,ST.out.2.2.1⟩
 case round=>
  obtain⟨k,rfl,hk,hkx,js,ys,dd,τ,Fr,gr,vr,cs,H1,H2,H3,H4⟩:=hrel
  by_cases c:k<n
  ·have hlt:(k:Int)<(n:Int):=by omega
   have wk:IntKind.u64.wrap (k:Int)=(k:Int):=by rw[IntKind.wrap_u64];omega
   have P:Calls Tryz.prog 23 #[pt M,.int .u64 k,.int .u64 dr] wr fun e w'=>∃j y τ',e=.returned (.int .i64 (j:Nat))∧j<7∧J (js++[j]) (ys.set k y) (dd.inc j) τ'∧Mx L D Fr M R n wr τ' (ys.set k y) (dd.inc j) w':=by
    obtain⟨x,hx⟩:∃x,ys[k]?=some x:=⟨_,List.getElem?_eq_getElem (by rw[H2.out.len];exact c)⟩
    obtain⟨hl,hJ,_⟩:=H1.out
    subst hl
    obtain⟨hf,hs⟩:=HS.out js ys dd τ x c hJ hx
    exact pickC H2.out (dr:=dr) (by omega) (Nat.mod_eq_of_lt c) hx hf hs
   go_wp2_with fail
   refine P.mono ?_
   rintro e w2 ⟨j,y,τ',rfl,hj,hJ,F2,g2,v2,M2,G2⟩
   clear P
   have B2:=H4.out.gc mq_intT G2
   have mlt2:=lt_of_block B2.1
   have mfz:∀o,w2.frozen? ⟨A,o,none⟩=false:=(fun o=>by simp[World.frozen?,B2.1])
   obtain⟨z0,hz0⟩:∃z,cs[k]?=some z:=⟨_,Array.getElem?_eq_getElem (by rw[H1.out.2.2.2];exact c)⟩
   have m0:w2.cell? ⟨A,k,none⟩=some z0:=(B2.cell k).trans hz0
   have f:Ta.Fr (fun q=>q=A) w2 (w2.setCell ⟨A,k,none⟩ (.int .i64 (j:Nat))):=Ta.Fr.setCell (fun q=>q=A) w2 A k _ rfl
   have qt:¬QT 3:=by unfold QT;decide
   have FIN:Aside (∃(js:List Nat)(ys:List WR)(dd:DD)(τ:CS)(Fr:Nat→Nat→Prop)(gr vr:Value)(cs:Array Value),Aside (js.length=k+1∧J js ys dd τ∧RowJ cs js∧cs.size=n)∧Aside (Mc (w2.setCell ⟨A,k,none⟩ (.int .i64 (j:Nat))) L D Fr gr vr M R n τ ys dd)∧Aside (Gc L (Fm F M R) w (Fm Fr M R) (w2.setCell ⟨A,k,none⟩ (.int .i64 (j:Nat))))∧Aside (Bx (w2.setCell ⟨A,k,none⟩ (.int .i64 (j:Nat))) (Fm Fr M R) A cs 3)):=by
    obtain⟨hl,_,hr,hsz⟩:=H1.out
    have hrp:=hr.push (by rw[hl,hsz];exact c) j
    rw[hl] at hrp
    exact⟨js++[j],ys.set k y,dd.inc j,τ',F2,g2,v2,_,⟨by simp[hl],hJ,hrp,by simp[hsz]⟩,M2.fr1 B2 qt f,(H3.out.trans G2).own (Nat.le_of_eq HW.out.1) HW.out.2 f,set_at B2.1 _,B2.2⟩
   clear hJ M2 G2 B2 hz0 f qt hj H1 H2 H3 H4
   go_wp2_with fail
   go_roundg (n-(k+1))
   case measure=>omega
   case rel=>exact⟨k+1,by go_num,by omega,Nat.le_refl _,FIN⟩
  ·have hnl:¬(k:Int)<(n:Int):=by omega
   have hkn:Aside (k=n):=(by omega:k=n)
   have FIN:Aside (RoundIs L D F M R n J A w wr):=⟨cs,js,ys,dd,τ,Fr,gr,vr,by rw[H1.out.1];exact hkn.out,H1.out.2.2.1,H1.out.2.1,H2.out,H3.out,H4.out,H1.out.2.2.2⟩
   go_wp2_with fail
   go_ret
   exact⟨A,rfl,FIN.out⟩
theorem restM(h:Mc w L D F g v M R n σ xs d){most dr:Nat}(hmost:most≤100000)(K:Nat→List WR→DD→CS→Prop)(h0:K 0 xs d σ)
  (hq:∀k ys e τ,K k ys e τ→τ.qn≤1000)
  (hr:∀k ys e τ,k<most→K k ys e τ→quietB ys τ=false→ys.length=n→∃J:List Nat→List WR→DD→CS→Prop,J [] ys e τ∧(∀js zs e' τ' x,js.length<n→J js zs e' τ'→zs[js.length]?=some x→e'.few 1000000∧StepsTo L D τ' x js.length dr fun y j τ''=>J (js++[j]) (zs.set js.length y) (e'.inc j) τ'')∧∀js zs e' τ',js.length=n→J js zs e' τ'→K (k+1) zs e' τ') :
  Calls Tryz.prog 24 #[pt M,.int .i64 most,.int .u64 dr] w fun e w'=>∃k b ys dd τ,e=.returned (.tuple #[.int .i64 (k:Nat),.bool b])∧k≤most∧K k ys dd τ∧b=quietB ys τ∧(k<most→b=true)∧Mx L D F M R n w τ ys dd w':=by
 have ST:Aside (Mc w L D F g v M R n σ xs d∧K 0 xs d σ):=⟨h,h0⟩
 have HQ:Aside _:=hq
 have HR:Aside _:=hr
 have m0:(0:Int)≤(most:Int):=by omega
 have m1:(most:Int)≤100000:=by omega
 clear h h0 hq hr
 go_enter Tryz.func24,Tryz.ntmps24
 have hmx:min (max (most:Int) 0) 100000=(most:Int):=by omega
 have hmy:min (most:Int) 100000=(most:Int):=by omega
 go_wp2_with fail
 try simp only[hmx,hmy]
 go_loopg [8,13] most (fun kx s8 s13 wr=>∃(k:Nat),s13=.int .i64 k∧k≤most∧most-k≤kx∧∃(ys:List WR)(dd:DD)(τ:CS)(Fr:Nat→Nat→Prop)(gr vr:Value),Aside (K k ys dd τ)∧Aside (Mc wr L D Fr gr vr M R n τ ys dd)∧Aside (Gc L (Fm F M R) w (Fm Fr M R) wr))
 case atStart=>exact⟨0,rfl,by omega,by omega,xs,d,σ,F,g,v,ST.out.2,ST.out.1,Gc.refl _ _ _⟩
 case round=>
  obtain⟨k,rfl,hk,hkx,ys,dd,τ,Fr,gr,vr,HK,HM,HG⟩:=hrel
  have P:=quietM HM.out (HQ.out k ys dd τ HK.out) (HM.out.co.qall_le (HQ.out k ys dd τ HK.out))
  obtain⟨Q,hQ⟩:∃Q,quietB ys τ=Q:=⟨_,rfl⟩
  rw[hQ] at P
  have HB:Aside (quietB ys τ=Q):=hQ
  clear hQ
  by_cases c:k<most
  ·have hlt:(k:Int)<(most:Int):=by omega
   go_wp2_with fail
   refine P.mono ?_
   rintro e w1 ⟨rfl,F1,g1,v1,M1,G1⟩
   clear P
   cases Q with
   | true=>
    have FIN:Aside (∃ys dd τ,K k ys dd τ∧quietB ys τ=true∧Mx L D F M R n w τ ys dd w1):=⟨ys,dd,τ,HK.out,HB.out,F1,g1,v1,M1,HG.out.trans G1⟩
    clear M1 G1 HM HG HK
    go_wp2_with fail
    go_ret2
    obtain⟨ys,dd,τ,q1,q2,q3⟩:=FIN.out
    exact⟨k,true,ys,dd,τ,rfl,hk,q1,q2.symm,fun _=>rfl,q3⟩
   | false=>
    have P2:Calls Tryz.prog 70 #[pt M,.int .u64 dr] w1 fun e w'=>∃A,e=.returned (.slice (some ⟨A,0,none⟩) n n)∧∃zs d2 τ2,K (k+1) zs d2 τ2∧Mx L D F1 M R n w1 τ2 zs d2 w':=by
     obtain⟨J,h0,hs,he⟩:=HR.out k ys dd τ c HK.out HB.out M1.len
     refine(roundM M1 J h0 hs).mono ?_
     rintro e w' ⟨A,rfl,cs,js,zs,d2,τ2,F2,g2,v2,hl,_,hJ,M2,G2,_,_⟩
     exact⟨A,rfl,zs,d2,τ2,he js zs d2 τ2 hl hJ,F2,g2,v2,M2,G2⟩
    have X1:Aside (Gc L (Fm F M R) w (Fm F1 M R) w1):=HG.out.trans G1
    clear M1 G1 HM HG HK HB
    go_wp2_with fail
    refine P2.mono ?_
    rintro e w2 ⟨A,rfl,zs,d2,τ2,hK2,F2,g2,v2,M2,G2⟩
    have NX:Aside (K (k+1) zs d2 τ2∧Mc w2 L D F2 g2 v2 M R n τ2 zs d2∧Gc L (Fm F M R) w (Fm F2 M R) w2):=⟨hK2,M2,X1.out.trans G2⟩
    clear P2 hK2 M2 G2
    have hw1:IntKind.i64.wrap ((k:Int)+1)=((k+1:Nat):Int):=by rw[IntKind.wrap_i64];omega
    go_wp2_with fail
    go_roundg (most-(k+1))
    case measure=>omega
    case rel=>exact⟨k+1,by go_num,by omega,Nat.le_refl _,zs,d2,τ2,F2,g2,v2,NX.out.1,NX.out.2.1,NX.out.2.2⟩
  ·have hnl:¬(k:Int)<(most:Int):=by omega
   obtain rfl:k=most:=by omega
   go_wp2_with fail
   refine P.mono ?_
   rintro e w1 ⟨rfl,F1,g1,v1,M1,G1⟩
   have FIN:Aside (∃ys dd τ,K k ys dd τ∧Q=quietB ys τ∧Mx L D F M R n w τ ys dd w1):=⟨ys,dd,τ,HK.out,HB.out.symm,F1,g1,v1,M1,HG.out.trans G1⟩
   clear P M1 G1 HM HG HK HB
   go_wp2_with fail
   go_ret2
   obtain⟨ys,dd,τ,q1,q2,q3⟩:=FIN.out
   exact⟨k,Q,ys,dd,τ,rfl,Nat.le_refl _,q1,q2,fun h=>absurd h (Nat.lt_irrefl _),q3⟩
end
section
variable {w w' w'' u:World}{L i n M R:Nat}{D:CAd}{F F' F'':Nat→Nat→Prop}{g v:Value}{σ σ':CS}{xs:List WR}{d:DD}{t dr a:Nat}{ky s:Int}
theorem locL_view{sl ow:Nat→List Qu.Ent}{sh:List Qu.Ent}(V:Qu.View σ.th σ.q sl ow sh):(locL σ).flatten=(List.range σ.th).flatMap ow:=by
 unfold locL
 rw[List.flatMap_def]
 congr 1
 exact List.map_congr_left fun t ht=>V.ow t (List.mem_range.1 ht)
theorem qall_view{sl ow:Nat→List Qu.Ent}{sh:List Qu.Ent}(V:Qu.View σ.th σ.q sl ow sh):qall σ=(Qu.allV σ.th sl ow sh).length:=by
 unfold qall Qu.allV
 rw[locL_view V,V.slots,V.sh]
theorem QI.qall0(h:QI σ)(hne:∀e,¬Rdy σ.T e):qall σ=0:=by
 obtain⟨sl,ow,sh,V,nd,al⟩:=h
 rw[qall_view V]
 cases hl:Qu.allV σ.th sl ow sh with
 | nil=>rfl
 | cons e l=>exact absurd ((al e).1 (by rw[hl];simp)) (hne e)
theorem QI.qall1(h:QI σ){e:Qu.Ent}(he:Rdy σ.T e):0<qall σ:=by
 obtain⟨sl,ow,sh,V,nd,al⟩:=h
 rw[qall_view V]
 exact List.length_pos_of_mem ((al e).2 he)
theorem stepNone(C:Co w L D F g v σ)(h:QI σ)(hne:∀e,¬Rdy σ.T e)(ht:t<σ.th)(hn:σ.qn≤900)(hdr:dr<18446744073709551616) :
  Calls Tryz.prog 18 #[pt D.B,wkV wk0,.int .i64 t,.int .u64 dr] w fun e w'=>e=.returned (.tuple #[wkV wk0,.int .i64 0])∧Cox L D F w (setS σ t) w':=by
 have h1:=h.settle ht
 have hf:(σ.q.g t).f=false:=h.idle ht hne
 refine stepC C wk0 wk0 ht dr 0 0 0 (j:=3) (by decide) rfl rfl (fun w1 F1 g1 v1 C1=>touch0 C1 wk0 wk0 t dr 0 rfl (fun w2 F2 g2 v2 C2=>seekN C2 wk0 ht (by omega) hf dr 0 0 (fun w3 F3 g3 v3 C3=>?_)))
 exact lookN C3 (t:=t) (dr:=dr) (show t<σ.th from ht) hdr (by show σ.qn+1≤1000;omega) (h1.none C3.qok (show t<σ.th from ht) dr hne)
structure Emp(σ:CS)(th a:Nat):Prop where
 th:σ.th=th
 T:σ.T=[]
 ev:σ.ev=[]
 qi:QI σ
 qn:σ.qn≤a
theorem Emp.new(th k c:Nat):Emp (newS th k c) th 0:=⟨rfl,rfl,rfl,QI.new th k c,Nat.le_refl _⟩
theorem Emp.set{th:Nat}(h:Emp σ th a)(ht:t<th):Emp (setS σ t) th (a+1):=⟨h.th,h.T,h.ev,h.qi.settle (by rw[h.th];exact ht),Nat.succ_le_succ h.qn⟩
theorem Emp.none{th:Nat}(h:Emp σ th a):∀e,¬Rdy σ.T e:=by
 rw[h.T]
 rintro e ⟨k,y,hy,_⟩
 simp at hy
theorem Emp.q0{th:Nat}(h:Emp σ th a):qall σ=0:=h.qi.qall0 h.none
theorem Emp.step{th:Nat}(h:Emp σ th a)(ht:t<th)(ha:a≤900)(hdr:dr<18446744073709551616):StepsTo L D σ wk0 t dr fun y j σ'=>y=wk0∧j=0∧Emp σ' th (a+1):=by
 intro w1 F1 g1 v1 C1
 refine(stepNone C1 h.qi h.none (by rw[h.th];exact ht) (by have:=h.qn;omega) hdr).mono ?_
 rintro e w' ⟨rfl,X⟩
 exact⟨0,0,0,0,false,0,rfl,by omega,_,⟨rfl,rfl,h.set ht⟩,X⟩
theorem idle_all(n:Nat):((List.replicate n wk0).all fun x=>x.ph==0)=true:=by
 rw[List.all_eq_true]
 intro x hx
 rw[List.eq_of_mem_replicate hx]
 rfl
theorem Emp.quiet{th n:Nat}(h:Emp σ th a):quietB (List.replicate n wk0) σ=true:=by
 unfold quietB
 rw[idle_all,h.q0]
 rfl
theorem Sst.quiet{k:Nat}{y:WR}(hk:k≤4)(h:Sst ky k σ y):quietB [y] σ=decide (k=4):=by
 have hk':k=0∨k=1∨k=2∨k=3∨k=4:=by omega
 have q:∀a,One σ 1 2 ky a→0<qall σ:=fun a o=>o.qi.qall1 o.rdy.1
 rcases hk' with rfl|rfl|rfl|rfl|rfl
 ·obtain⟨o,rfl,_⟩:=h
  have:=q _ o
  have e:(qall σ==0)=false:=by simp;omega
  unfold quietB
  rw[e];rfl
 ·obtain⟨o,rfl,_⟩:=h
  have:=q _ o
  have e:(qall σ==0)=false:=by simp;omega
  unfold quietB
  rw[e];rfl
 ·obtain⟨o,rfl⟩:=h
  rfl
 ·obtain⟨o,rfl⟩:=h
  rfl
 ·obtain⟨o,rfl⟩:=h
  unfold quietB
  rw[o.qi.qall0 (o.none (by omega))]
  rfl
theorem Sst.qn{k:Nat}{y:WR}(hk:k≤4)(h:Sst ky k σ y):σ.qn≤8:=by
 have hk':k=0∨k=1∨k=2∨k=3∨k=4:=by omega
 rcases hk' with rfl|rfl|rfl|rfl|rfl
 ·have:=h.1.qn;omega
 ·have:=h.1.qn;omega
 ·have:=h.1.qn;omega
 ·have:=h.1.qn;omega
 ·have:=h.1.qn;omega
theorem didL_nat{k:Nat}(hk:k<5):∃j:Nat,j<7∧didL.getD k 0=(j:Int):=by
 have hk':k=0∨k=1∨k=2∨k=3∨k=4:=by omega
 rcases hk' with rfl|rfl|rfl|rfl|rfl
 ·exact⟨1,by omega,rfl⟩
 ·exact⟨2,by omega,rfl⟩
 ·exact⟨3,by omega,rfl⟩
 ·exact⟨6,by omega,rfl⟩
 ·exact⟨0,by omega,rfl⟩
theorem Sst.step{k:Nat}{y:WR}(hk:k<5)(h:Sst ky k σ y):StepsTo L D σ y 0 0 fun y' j σ'=>Sst ky (k+1) σ' y':=by
 intro w1 F1 g1 v1 C1
 obtain⟨j,hj,e⟩:=didL_nat hk
 refine(aw_step C1 hk h).mono ?_
 rintro e' w' ⟨y0,y1,y2,y3,y4,rfl,σ',h',X⟩
 exact⟨y0,y1,y2,y3,y4,j,by rw[e],hj,σ',h',X⟩
end
section
variable {w w' w'' u:World}{L i n M R:Nat}{D:CAd}{F F' F'':Nat→Nat→Prop}{g v:Value}{σ σ':CS}{xs:List WR}{d:DD}{t dr a:Nat}{ky s:Int}
def Awk(ky:Int)(k:Nat)(ys:List WR)(e:DD)(τ:CS):Prop:=k≤4∧∃y,ys=[y]∧Sst ky k τ y∧e.few k∧e.sum=k
theorem awRest(h:Mc w L D F g v M R 1 σ [wk0] DD.z)(o:Sst ky 0 σ wk0) :
  Calls Tryz.prog 24 #[pt M,.int .i64 9,.int .u64 0] w fun e w'=>e=.returned (.tuple #[.int .i64 4,.bool true])∧∃y dd τ,One τ 1 4 ky 7∧dd.few 4∧dd.sum=4∧quietB [y] τ=true∧Mx L D F M R 1 w τ [y] dd w':=by
 refine Calls.mono (restM h (most:=9) (dr:=0) (by omega) (Awk ky) ⟨by omega,wk0,rfl,o,⟨by decide,by decide,by decide,by decide,by decide,by decide,by decide,by decide⟩,rfl⟩ ?_ ?_) ?_
 ·rintro k ys e τ ⟨hk,y,rfl,s,_⟩
  have:=s.qn hk
  omega
 ·rintro k ys e τ hk ⟨hk4,y,rfl,s,hf,hs⟩ hq _
  rw[s.quiet hk4] at hq
  have hk':k<4:=by
   have:k≠4:=fun e=>by simp[e] at hq
   omega
  refine⟨fun js zs e' τ'=>(js=[]∧zs=[y]∧e'=e∧τ'=τ)∨(js.length=1∧Awk ky (k+1) zs e' τ'),.inl ⟨rfl,rfl,rfl,rfl⟩,?_,?_⟩
  ·rintro js zs e' τ' x hl h hx
   rcases h with⟨rfl,rfl,rfl,rfl⟩|⟨hl',_⟩
   ·simp at hx
    subst hx
    refine⟨⟨hf.1,hf.2.1,hf.2.2.1,hf.2.2.2.1,hf.2.2.2.2.1,hf.2.2.2.2.2.1,hf.2.2.2.2.2.2.1,by have:=hf.2.2.2.2.2.2.2;omega⟩,?_⟩
    intro w1 F1 g1 v1 C1
    refine Calls.mono ((s.step (L:=L) (D:=D) (by omega)) w1 F1 g1 v1 C1) ?_
    rintro e'' w' ⟨y0,y1,y2,y3,y4,j,rfl,hj,σ',h',X⟩
    exact⟨y0,y1,y2,y3,y4,j,rfl,hj,σ',.inr ⟨rfl,by omega,_,rfl,h',by have:=DD.few_inc (d:=e') (B:=(k:Int)) hf j;exact this,by rw[DD.inc_sum,hs];push_cast;rfl⟩,X⟩
   ·omega
  ·rintro js zs e' τ' hl h
   rcases h with⟨rfl,_⟩|⟨_,h⟩
   ·simp at hl
   ·exact h
 ·rintro e w' ⟨k,b,ys,dd,τ,rfl,hk,⟨hk4,y,rfl,s,hf,hs⟩,hb,hlt,X⟩
  have hb1:=hlt (by omega)
  subst hb1
  have hb2:=hb
  rw[s.quiet hk4] at hb
  obtain rfl:k=4:=by simpa using hb
  obtain⟨o4,_⟩:=s
  exact⟨rfl,y,dd,τ,o4,hf,hs,hb2.symm,X⟩
theorem awake20C(w:World):Calls Tryz.prog 29 #[] w fun e w'=>e=.returned (.bool true)∧Below w.heap.size w w':=by
 have P:Calls Tryz.prog 21 #[.agg #[.int .i64 1,.int .i64 2,.int .i64 3]] w fun e w'=>∃M,e=.returned (.tuple #[pt M,.int .i64 0])∧∃L D F R,w.heap.size≤L∧Mc w' L D F (.slice none 0 0) (.slice none 0 0) M R 1 (newS 1 2 3) [wk0] DD.z∧Below w.heap.size w w':=newM 1 2 3 w (by omega) (by omega) (by omega) (by omega) (by omega)
 go_enter Tryz.func29,Tryz.ntmps29
 go_wp2_with fail
 refine P.mono ?_
 rintro e w1 ⟨M,rfl,L,D,F1,R,hL,M1,b1⟩
 have X1:Aside (Below w.heap.size w w1∧w.heap.size≤L∧Mc w1 L D F1 (.slice none 0 0) (.slice none 0 0) M R 1 (newS 1 2 3) [wk0] DD.z):=⟨b1,hL,M1⟩
 have P1:=coreM M1
 have P2:Calls Tryz.prog 14 #[pt D.B,.int .i64 0,.int .i64 3,.slice none 0 0,.slice none 0 0] w1 fun e w'=>e=.returned (.tuple #[.int .i64 1,.int .i64 0])∧Cox L D F1 w1 (subS (newS 1 2 3) 0 3) w':=subC M1.co (t:=0) (show 0<1 by omega) rfl (show 0<200 by omega) (show 0<3 by omega) (show 0+1<1000000 by omega) (show 0≤1000 by omega) (show 0<1000000 by omega) 3 (by omega) (by omega)
 have HP2:=asd P2
 clear P P2 M1 b1 hL
 go_wp2_with fail
 refine P1.mono ?_
 rintro e w2 ⟨rfl,rfl⟩
 clear P1
 go_wp2_with fail
 refine HP2.out.mono ?_
 rintro e w3 ⟨rfl,CX⟩
 obtain⟨F3,g3,v3,M3,G3⟩:=X1.out.2.2.cox CX
 obtain⟨ky,o⟩:=One.sub (th:=1) (k:=2) (n:=3) (t:=0) (by omega) 3
 have hf0:((subS (newS 1 2 3) 0 3).q.g 0).f=true:=put_same _ _ _ _
 have P:=awRest M3 (ky:=ky) ⟨o,rfl,hf0⟩
 have X3:Aside (Gc L (Fm F1 M R) w2 (Fm F3 M R) w3):=G3
 clear CX M3 G3 o hf0 HP2
 go_wp2_with fail
 refine P.mono ?_
 rintro e w4 ⟨rfl,y,dd,τ,o4,hf,hs,hq,F4,g4,v4,M4,G4⟩
 clear P
 have qn4:τ.qn≤1000:=by have:=o4.qn;omega
 have P:=quietM M4 qn4 (M4.co.qall_le qn4)
 rw[hq] at P
 obtain⟨x,hT,hxs,_⟩:=o4.at'
 have X4:Aside (Gc L (Fm F1 M R) w2 (Fm F4 M R) w4∧dd.few 1000000∧dd.sum=4∧τ.T[0]?=some x∧x.s=4):=⟨X3.out.trans G4,⟨hf.1,hf.2.1,hf.2.2.1,hf.2.2.2.1,hf.2.2.2.2.1,hf.2.2.2.2.2.1,hf.2.2.2.2.2.2.1,by have:=hf.2.2.2.2.2.2.2;omega⟩,hs,by rw[hT];rfl,hxs⟩
 clear M4 G4 o4 hf hs hq hT hxs qn4
 go_wp2_with fail
 refine P.mono ?_
 rintro e w5 ⟨rfl,F5,g5,v5,M5,G5⟩
 clear P
 have P:=picksM M5 X4.out.2.1
 rw[X4.out.2.2.1] at P
 have P1:=coreM M5
 have P2:=statusC M5.co X4.out.2.2.2.1
 rw[X4.out.2.2.2.2] at P2
 have X5:Aside (Gc L (Fm F1 M R) w2 (Fm F5 M R) w5∧Mc w5 L D F5 g5 v5 M R 1 τ [y] dd):=⟨X4.out.1.trans G5,M5⟩
 have HP1:=asd P1
 have HP2:=asd P2
 clear M5 G5 P1 P2
 go_wp2_with fail
 refine P.mono ?_
 rintro e w6 ⟨rfl,rfl⟩
 clear P
 go_wp2_with fail
 refine HP1.out.mono ?_
 rintro e w7 ⟨rfl,rfl⟩
 go_wp2_with fail
 refine HP2.out.mono ?_
 rintro e w8 ⟨rfl,CX⟩
 have FIN:Aside (Below w.heap.size w w8):=by
  obtain⟨F8,g8,v8,M8,G8⟩:=X5.out.2.cox CX
  exact X1.out.1.trans ((X5.out.1.trans G8).low.mono X1.out.2.1)
 clear CX HP1 HP2
 go_wp2_with fail
 go_ret
 exact⟨rfl,FIN.out⟩
end
def dIdle(i:Nat):DD:=⟨(i:Int),0,0,0,0,0,0⟩
theorem dIdle_inc(i:Nat):(dIdle i).inc 0=dIdle (i+1):=rfl
theorem dIdle_few(i:Nat)(h:i≤1000):(dIdle i).few 1000000:=by
 refine⟨by show(0:Int)≤(i:Int);omega,Int.le_refl 0,Int.le_refl 0,Int.le_refl 0,Int.le_refl 0,Int.le_refl 0,Int.le_refl 0,?_⟩
 show(i:Int)+0+0+0+0+0+0≤1000000
 omega
theorem dIdle_sum(i:Nat):(dIdle i).sum=(i:Int):=by
 show(i:Int)+0+0+0+0+0+0=i
 omega
theorem isU_of{z:Int}(h:(Lit.int .u64 z).wf=true):∃n:Nat,z=(n:Int)∧n<18446744073709551616:=by
 simp only[Lit.wf,IntKind.min,IntKind.max,IntKind.signed,IntKind.bits,Bool.and_eq_true] at h
 obtain⟨h1,h2⟩:=h
 simp at h1 h2
 exact⟨z.toNat,by omega,by omega⟩
theorem rep_set(n t:Nat):(List.replicate n wk0).set t wk0=List.replicate n wk0:=by
 refine List.ext_getElem? fun i=>?_
 by_cases e:t=i
 ·subst e
  by_cases h:t<n
  ·rw[List.getElem?_set_self (by simp;exact h),List.getElem?_replicate_of_lt h]
  ·rw[List.getElem?_eq_none (by simp;omega),List.getElem?_eq_none (by simp;omega)]
 ·rw[List.getElem?_set_ne e]
theorem pickIdle{w:World}{L n M R a i:Nat}{D:CAd}{F:Nat→Nat→Prop}{g v:Value}{σ:CS}(h:Mc w L D F g v M R n σ (List.replicate n wk0) (dIdle i))(e:Emp σ n a)(ha:a≤900)(hi:i≤1000){pk dr:Nat}(hpk:pk<18446744073709551616)(hdr:dr<18446744073709551616) :
  Calls Tryz.prog 23 #[pt M,.int .u64 pk,.int .u64 dr] w fun r w'=>r=.returned (.int .i64 0)∧∃σ',Emp σ' n (a+1)∧Mx L D F M R n w σ' (List.replicate n wk0) (dIdle (i+1)) w':=by
 have hn:=h.n1
 have ht:pk%n<n:=Nat.mod_lt _ (by omega)
 refine(pickC h hpk (t:=pk%n) rfl (x:=wk0) (List.getElem?_replicate_of_lt ht) (dIdle_few i hi) (Z:=fun y j σ'=>y=wk0∧j=0∧Emp σ' n (a+1)) (e.step (L:=L) (D:=D) ht ha hdr)).mono ?_
 rintro r w' ⟨j,y,σ',rfl,hj,⟨rfl,rfl,e'⟩,X⟩
 rw[rep_set,dIdle_inc] at X
 exact⟨rfl,σ',e',X⟩
theorem restIdle{w:World}{L n M R a i:Nat}{D:CAd}{F:Nat→Nat→Prop}{g v:Value}{σ:CS}(h:Mc w L D F g v M R n σ (List.replicate n wk0) (dIdle i))(e:Emp σ n a)(ha:a≤900) :
  Calls Tryz.prog 24 #[pt M,.int .i64 50,.int .u64 3] w fun r w'=>r=.returned (.tuple #[.int .i64 0,.bool true])∧Mx L D F M R n w σ (List.replicate n wk0) (dIdle i) w':=by
 refine Calls.mono (restM h (most:=50) (dr:=3) (by omega) (fun k ys d τ=>k=0∧ys=List.replicate n wk0∧d=dIdle i∧τ=σ) ⟨rfl,rfl,rfl,rfl⟩ ?_ ?_) ?_
 ·rintro k ys d τ ⟨_,_,_,rfl⟩
  have:=e.qn
  omega
 ·rintro k ys d τ _ ⟨_,rfl,_,rfl⟩ hq _
  rw[e.quiet] at hq
  cases hq
 ·rintro r w' ⟨k,b,ys,d,τ,rfl,hk,⟨rfl,rfl,rfl,rfl⟩,hb,_,X⟩
  rw[e.quiet] at hb
  subst hb
  exact⟨rfl,X⟩
theorem execIdle_walk(tz kz:Int)(a:Option Addr)(len cap:Nat)(zs:List Int)(w:World)(wt:(Lit.int .i64 tz).wf=true)(wk:(Lit.int .i64 kz).wf=true)(hrow:IsRow .u64 w a len cap zs)(hN:True) :
  Calls Tryz.prog 6 #[.int .i64 tz,.int .i64 kz,.slice a len cap] w fun e w'=>e=.returned (.bool true)∧Below w.heap.size w w':=by
 have hl:=hrow.len_le
 obtain⟨m,hm,hm7⟩:∃m:Nat,bits .and .i64 tz 7=(m:Int)∧m≤7:=⟨(tz%8).toNat,by rw[mask_i64 tz 3 7 8 (by omega) rfl rfl];omega,by omega⟩
 obtain⟨k,hk,hk15⟩:∃k:Nat,bits .and .i64 kz 15=(k:Int)∧k≤15:=⟨(kz%16).toNat,by rw[mask_i64 kz 4 15 16 (by omega) rfl rfl];omega,by omega⟩
 obtain⟨th,hth⟩:∃th,m+1=th:=⟨_,rfl⟩
 have hwt:IntKind.i64.wrap ((m:Int)+1)=(th:Int):=by rw[IntKind.wrap_i64];omega
 have P:Calls Tryz.prog 21 #[.agg #[.int .i64 th,.int .i64 k,.int .i64 5]] w fun e w'=>∃M,e=.returned (.tuple #[pt M,.int .i64 0])∧∃L D F R,w.heap.size≤L∧Mc w' L D F (.slice none 0 0) (.slice none 0 0) M R th (newS th k 5) (List.replicate th wk0) DD.z∧Below w.heap.size w w':=newM th k 5 w (by omega) (by omega) (by omega) (by omega) (by omega)
 obtain⟨n,hn60,hnl,hnm⟩:∃n:Nat,n≤60∧n≤len∧min (len:Int) 60=(n:Int):=⟨min len 60,by omega,by omega,by omega⟩
 have HR:Aside (IsRow .u64 w a len cap zs):=hrow
 have RD:Aside (∀(W:World)(i:Nat),Below w.heap.size w W→i<n→∃gb off,∃z:Nat,a=some ⟨gb,off,none⟩∧gb<W.heap.size∧W.cell? ⟨gb,off+i,none⟩=some (.int .u64 (z:Int))∧z<18446744073709551616):=by
  intro W i bW hi
  obtain⟨gb,off,e,glt,gc,gw⟩:=hrow.at (j:=i) (by omega)
  obtain⟨z,hz,hz2⟩:=isU_of gw
  exact⟨gb,off,z,e,Nat.lt_of_lt_of_le glt bW.size,by rw[←hz,←gc];exact World.cell?_of_block (bW.block gb glt),hz2⟩
 clear wt wk hrow hN hth hm7 hk15
 go_enter Tryz.func6,Tryz.ntmps6
 go_wp2_with fail
 try simp only[hm,hk]
 go_wp2_with fail
 refine P.mono ?_
 rintro e w1 ⟨M,rfl,L,D,F1,R,hL,M1,b1⟩
 have X1:Aside (Below w.heap.size w w1∧w.heap.size≤L∧Mc w1 L D F1 (.slice none 0 0) (.slice none 0 0) M R th (newS th k 5) (List.replicate th wk0) (dIdle 0)):=⟨b1,hL,M1⟩
 have P1:=coreM M1
 clear P M1 b1 hL
 go_wp2_with fail
 refine P1.mono ?_
 rintro e w2 ⟨rfl,rfl⟩
 clear P1
 go_wp2_with fail
 try simp only[hnm]
 go_loopg [10] n (fun kx s10 wr=>∃(i:Nat),s10=.int .i64 i∧i≤n∧n-i≤kx∧∃(σ:CS)(Fr:Nat→Nat→Prop)(gr vr:Value),Aside (Emp σ th i)∧Aside (Mc wr L D Fr gr vr M R th σ (List.replicate th wk0) (dIdle i))∧Aside (Gc L (Fm F1 M R) w2 (Fm Fr M R) wr))
 case atStart=>exact⟨0,rfl,by omega,by omega,_,_,_,_,Emp.new th k 5,X1.out.2.2,Gc.refl _ _ _⟩
 case round=>
  obtain⟨i,rfl,hi,hkx,σ,Fr,gr,vr,E1,M2,G2⟩:=hrel
  have FB:Aside (Below w.heap.size w wr):=X1.out.1.trans (G2.out.low.mono X1.out.2.1)
  by_cases c:i<n
  ·have hlt:(i:Int)<(n:Int):=by omega
   obtain⟨gb,off,z,rfl,glt,gc,hz⟩:=RD.out wr i FB.out c
   obtain⟨q,hq,hq2⟩:∃q:Nat,(z:Int)/8=(q:Int)∧q<18446744073709551616:=⟨z/8,by omega,by omega⟩
   have hq3:(z:Int)/2^3=(q:Int):=hq
   have P:=asd (pickIdle M2.out E1.out (show i≤900 by omega) (show i≤1000 by omega) hz hq2)
   obtain⟨I1,hI1⟩:∃I1:Nat,i+1=I1:=⟨_,rfl⟩
   have hwi:IntKind.i64.wrap ((i:Int)+1)=(I1:Int):=by rw[IntKind.wrap_i64];omega
   have PP:Aside (Calls Tryz.prog 23 #[pt M,.int .u64 (z:Int),.int .u64 (q:Int)] wr.drew fun r w'=>r=.returned (.int .i64 0)∧w'.cell? ⟨gb,off+i,none⟩=some (.int .u64 (z:Int))∧gb<w'.heap.size∧∃(σ:CS)(Fr:Nat→Nat→Prop)(gr vr:Value),Emp σ th (i+1)∧Mc w' L D Fr gr vr M R th σ (List.replicate th wk0) (dIdle (i+1))∧Gc L (Fm F1 M R) w2 (Fm Fr M R) w'):=by
    have b0:Below wr.heap.size wr wr.drew:=(Below.refl _ _).drew
    refine(pickIdle (M2.out.below b0) E1.out (show i≤900 by omega) (show i≤1000 by omega) hz hq2).mono ?_
    rintro r w' ⟨rfl,σ',e',F3,g3,v3,M3,G3⟩
    have G4:Gc L (Fm F1 M R) w2 (Fm F3 M R) w':=(G2.out.trans (Fm.below M2.out b0)).trans G3
    have b4:Below L wr.drew w':=G3.low
    have hgL:gb<L:=by
     obtain⟨gb',off',z',e,glt',_⟩:=RD.out w i (Below.refl _ _) c
     injection e with e
     injection e with e1 e2
     subst e1
     exact Nat.lt_of_lt_of_le glt' X1.out.2.1
    exact⟨rfl,(World.cell?_of_block (b4.block gb hgL)).trans gc,Nat.lt_of_lt_of_le glt b4.size,σ',F3,g3,v3,e',M3,G4⟩
   have gd:wr.drew.cell? ⟨gb,off+i,none⟩=some (.int .u64 (z:Int)):=gc
   have HI:Aside (i+1=I1∧i<n):=⟨hI1,c⟩
   have hil:(i:Int)<(len:Int):=by omega
   clear P hI1 c hz hq2
   go_upto_region 8 with fail
   go_region_held3 (fun W=>W.cell? ⟨gb,off+i,none⟩=some (.int .u64 (z:Int))) (first|with_reducible exact gd|with_reducible exact d1) ((go_at_call 23;(with_reducible refine Calls.mono PP.out ?_);rintro e w4 ⟨rfl,d1,d2,σ',F4,g4,v4,e4,M4,G4⟩))
   have NX:Aside (Emp σ' th (i+1)∧Mc w4 L D F4 g4 v4 M R th σ' (List.replicate th wk0) (dIdle (i+1))∧Gc L (Fm F1 M R) w2 (Fm F4 M R) w4):=⟨e4,M4,G4⟩
   clear gd d1 d2 e4 M4 G4 gc glt hq hq3
   go_wp2_with fail
   go_roundg (n-(i+1))
   case measure=>have:=HI.out.2;omega
   case rel=>exact⟨i+1,congrArg (Value.int .i64) (by have:=HI.out.1;omega),HI.out.2,Nat.le_refl _,σ',F4,g4,v4,NX.out.1,NX.out.2.1,NX.out.2.2⟩
  ·have hnl:¬(i:Int)<(n:Int):=by omega
   obtain rfl:i=n:=by omega
   have P:=restIdle M2.out E1.out (show i≤900 by omega)
   have X2:Aside (Emp σ th i∧Gc L (Fm F1 M R) w2 (Fm Fr M R) wr):=⟨E1.out,G2.out⟩
   clear E1 M2 G2 hkx hi
   go_wp2_with fail
   refine P.mono ?_
   rintro e w3 ⟨rfl,F3,g3,v3,M3,G3⟩
   have P:=didM M3
   have X3:Aside (Mc w3 L D F3 g3 v3 M R th σ (List.replicate th wk0) (dIdle i)∧Gc L (Fm F1 M R) w2 (Fm F3 M R) w3):=⟨M3,X2.out.2.trans G3⟩
   clear M3 G3
   go_wp2_with fail
   refine P.mono ?_
   rintro e w4 ⟨da,dc,rfl,od,b4⟩
   have OW:Ow w4 (Fm F3 M R) (.slice da 7 dc) (dIdle i).list:=⟨od.low (Nat.zero_le _),fun k hk p hp=>by
    have h1:=(od.rowLt hk).1
    rcases hp with hp|⟨_,hp|hp⟩
    ·have:=X3.out.1.co.fp.lt p k hp;omega
    ·have:=lt_of_block X3.out.1.bm.1;omega
    ·have:=lt_of_block X3.out.1.br.1;omega⟩
   have M4:=X3.out.1.below b4
   have qn4:σ.qn≤1000:=by have:=X2.out.1.qn;omega
   have P:=quietM M4 qn4 (M4.co.qall_le qn4)
   rw[X2.out.1.quiet] at P
   have X4:Aside (Mc w4 L D F3 g3 v3 M R th σ (List.replicate th wk0) (dIdle i)∧Gc L (Fm F1 M R) w2 (Fm F3 M R) w4∧Ow w4 (Fm F3 M R) (.slice da 7 dc) (dIdle i).list):=⟨M4,X3.out.2.trans (Fm.below X3.out.1 b4),OW⟩
   clear M4 od OW b4 qn4
   go_wp2_with fail
   refine P.mono ?_
   rintro e w5 ⟨rfl,F5,g5,v5,M5,G5⟩
   clear P
   have P:=picksM M5 (dIdle_few i (by omega))
   rw[dIdle_sum] at P
   have X5:Aside (Mc w5 L D F5 g5 v5 M R th σ (List.replicate th wk0) (dIdle i)∧Gc L (Fm F1 M R) w2 (Fm F5 M R) w5∧Ow w5 (Fm F5 M R) (.slice da 7 dc) (dIdle i).list):=⟨M5,X4.out.2.1.trans G5,X4.out.2.2.gc G5⟩
   clear M5 G5
   go_wp2_with fail
   refine P.mono ?_
   rintro e w6 ⟨rfl,rfl⟩
   clear P
   have P:=coreM X5.out.1
   go_wp2_with fail
   refine P.mono ?_
   rintro e w7 ⟨rfl,rfl⟩
   clear P
   have P:Calls Tryz.prog 28 #[pt D.B] w7 fun e w'=>∃a cap,e=.returned (.slice a 0 cap)∧Below w7.heap.size w7 w':=by
    refine(eventsC X5.out.1.co (by rw[X2.out.1.ev];simp)).mono ?_
    rintro e w' ⟨a,cap,rfl,_,b⟩
    rw[X2.out.1.ev]
    exact⟨a,cap,rfl,b⟩
   go_wp2_with fail
   refine P.mono ?_
   rintro e w8 ⟨ea,ec,rfl,b8⟩
   clear P
   obtain⟨dg,doff,rfl,dlt,dcell⟩:=(X5.out.2.2.below b8).at (I:=0) rfl (by omega)
   have dc0:w8.cell? ⟨dg,doff,none⟩=some (.int .i64 (i:Int)):=dcell
   have P:=awake20C w8
   have X8:Aside (Below w.heap.size w w8):=(X1.out.1.trans (X5.out.2.1.low.mono X1.out.2.1)).trans (b8.mono (X1.out.1.trans (X5.out.2.1.low.mono X1.out.2.1)).size)
   clear b8 dcell
   go_wp2_with fail
   refine P.mono ?_
   rintro e w9 ⟨rfl,b9⟩
   have FIN:Aside (Below w.heap.size w w9):=X8.out.trans (b9.mono X8.out.size)
   clear b9
   go_wp2_with fail
   go_ret
   exact⟨rfl,FIN.out⟩
end Go.Proofs.YtdboknkfhbhniaaGreatDoor
