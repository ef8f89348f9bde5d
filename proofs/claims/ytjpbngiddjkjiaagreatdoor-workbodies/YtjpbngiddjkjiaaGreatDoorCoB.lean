import Derived.Test.YtjpbngiddjkjiaaGreatDoorCoT
import Derived.Test.YtjpbngiddjkjiaaGreatDoorGTickNum
open Go.Proofs.Tryz
namespace Go.Proofs.YtjpbngiddjkjiaaGreatDoor.Ta
set_option maxHeartbeats 8000000
open Go.RowKit Go.Lib Go.WideMaps Go.Maps
set_option maxRecDepth 100000
set_option linter.unusedVariables false
variable {w w' w0 u:World}{X X' Y:Nat->Prop}{B n i S:Nat}{T T':List TR}{x y:TR}
theorem getN(h:Tb w X B n T)(id:Int)(hi:id<1\/(T.length:Int)<id) :
  Calls prog 28 #[.pointer (some ⟨B,0,none⟩),.int .i64 id] w fun e w'=>e=.returned (.tuple #[.agg #[.int .i64 0,.int .i64 0,.int .i64 0,.int .u64 0,.int .u64 0,.int .u64 0,.int .u64 0],.bool false])/\Below w.heap.size w w':=by
 obtain⟨hn,a,b,r,M,v,ws,fc,D,I,hX⟩:=h;obtain⟨u,hu⟩:∃z,w.alloc (.cells #[.int .i64 0,.int .i64 0,.int .i64 0,.int .u64 0,.int .u64 0,.int .u64 0,.int .u64 0] 80)=z:=⟨_,rfl⟩;have b0:Below w.heap.size w u:=by rw[<-hu];exact bel1 _ _
 have hf:=find_no (D.below b0) id hi;obtain⟨K,hK⟩:∃K,w.heap.size=K:=⟨_,rfl⟩;have hB:u.heap[K]?=some (.cells #[.int .i64 0,.int .i64 0,.int .i64 0,.int .u64 0,.int .u64 0,.int .u64 0,.int .u64 0] 80 (0,0)):=by rw[<-hu,<-hK];exact heap_alloc_new w _
 have kb:=fun j=>cell_of_row _ _ j _ _ _ hB;have fzk:∀o,u.frozen? ⟨K,o,none⟩=false:=(fun o=>by simp[World.frozen?,hB]);have ltk:K<u.heap.size:=lt_of_block hB;have m0:u.cell? ⟨K,0,none⟩=some (.int .i64 0):=kb 0;have m1:u.cell? ⟨K,1,none⟩=some (.int .i64 0):=kb 1;have m2:u.cell? ⟨K,2,none⟩=some (.int .i64 0):=kb 2;have m3:u.cell? ⟨K,3,none⟩=some (.int .u64 0):=kb 3;have m4:u.cell? ⟨K,4,none⟩=some (.int .u64 0):=kb 4;have m5:u.cell? ⟨K,5,none⟩=some (.int .u64 0):=kb 5;have m6:u.cell? ⟨K,6,none⟩=some (.int .u64 0):=kb 6;have E:Aside ((((((((u.setCell ⟨K,0,none⟩ (.int .i64 0)).setCell ⟨K,1,none⟩ (.int .i64 0)).setCell ⟨K,2,none⟩ (.int .i64 0)).setCell ⟨K,3,none⟩ (.int .u64 0)).setCell ⟨K,4,none⟩ (.int .u64 0)).setCell ⟨K,5,none⟩ (.int .u64 0)).setCell ⟨K,6,none⟩ (.int .u64 0)).heap[K]?=some (.cells #[.int .i64 0,.int .i64 0,.int .i64 0,.int .u64 0,.int .u64 0,.int .u64 0,.int .u64 0] 80 (0,0))):=set_head (set_head (set_head (set_head (set_head (set_head (set_head hB))))))
 have BB:Aside (Below w.heap.size w (((((((u.setCell ⟨K,0,none⟩ (.int .i64 0)).setCell ⟨K,1,none⟩ (.int .i64 0)).setCell ⟨K,2,none⟩ (.int .i64 0)).setCell ⟨K,3,none⟩ (.int .u64 0)).setCell ⟨K,4,none⟩ (.int .u64 0)).setCell ⟨K,5,none⟩ (.int .u64 0)).setCell ⟨K,6,none⟩ (.int .u64 0))):=by
  have q:w.heap.size<=K:=Nat.le_of_eq hK;exact((((((b0.setCell q _).setCell q _).setCell q _).setCell q _).setCell q _).setCell q _).setCell q _
 have HU:Aside _:=hu;clear D I hX hu hB kb b0;go_enter func28,ntmps28
 go_wp2_with fail
 rw[HU.out];refine hf.mono ?_;rintro e w1 ⟨rfl,rfl⟩;clear hf
 go_wp2_with fail
 have eb:=fun j=>cell_of_row _ _ j _ _ _ E.out;have q0:=eb 0;have q1:=eb 1;have q2:=eb 2;have q3:=eb 3;have q4:=eb 4;have q5:=eb 5;have q6:=eb 6;refine bodyPost_ret (v:=.tuple #[.agg #[.int .i64 0,.int .i64 0,.int .i64 0,.int .u64 0,.int .u64 0,.int .u64 0,.int .u64 0],.bool false]) (by simp[results,results28,go_sem,q0,q1,q2,q3,q4,q5,q6]) rfl ⟨rfl,?_⟩;exact BB.out
theorem keyG(h:Tb w X B n T)(hi:T[i]?=some x)(key:Int) :
  Calls prog 145 #[.pointer (some ⟨B,0,none⟩),.int .i64 ((i:Int)+1),.int .u64 key] w fun e w'=>e=.returned (.int .i64 0)/\Tb w' X B n (T.set i {x with key:=key})/\Sx X w X w':=by
 obtain⟨hn,a,b,r,M,v,ws,fc,D,I,hX⟩:=h;obtain⟨g,cap,rfl⟩:=D.len hi;have hlen:i<T.length:=(List.getElem?_eq_some_iff.1 hi).1;obtain⟨O,hO⟩:∃O,i*9=O:=⟨_,rfl⟩;have hf:=find_in D hlen (by have:=I.le;omega);rw[hO] at hf;have k2:=(D.tc hi hO).k2;have fz:=(D.tc hi hO).fz (O+2);have P:=D.setC (y:={x with key:=key}) hi (j:=2) (z:=.int .u64 key) rfl (by omega) (O:=O+2) (by rw[hO])
 have FIN:Aside (Tb (w.setCell ⟨g,O+2,none⟩ (.int .u64 key)) X B n (T.set i {x with key:=key})/\Sx X w X (w.setCell ⟨g,O+2,none⟩ (.int .u64 key))):=by
  refine⟨⟨hn,a,b,r,M,_,ws,fc,by simpa using P.1,I.same hi rfl rfl,?_⟩,sx_same hX P.2⟩;simpa using hX
 clear D I hi hO P;go_enter func145,ntmps145
 go_wp2_with fail
 refine hf.mono ?_;rintro e w1 ⟨rfl,rfl⟩;clear hf
 go_wp2_with fail
 go_ret;exact⟨rfl,FIN.out⟩
theorem againZ(h:Tb w X B n T)(hi:T[i]?=some x)(now:Int)(hp0:x.p=0) :
  Calls prog 118 #[.pointer (some ⟨B,0,none⟩),.int .i64 ((i:Int)+1),.int .u64 now] w fun e w'=>e=.returned (.tuple #[.int .u64 0,.bool false])/\Below w.heap.size w w':=by
 obtain⟨hn,a,b,r,M,v,ws,fc,D,I,hX⟩:=h;obtain⟨g,cap,rfl⟩:=D.len hi;have hlen:i<T.length:=(List.getElem?_eq_some_iff.1 hi).1;obtain⟨O,hO⟩:∃O,i*9=O:=⟨_,rfl⟩;have hf:=find_in D hlen (by have:=I.le;omega);rw[hO] at hf;obtain⟨k0,k1,k2,k4,k5,k6,k7,k8,fz⟩:=D.tc hi hO;have hag:=fun u=>again_any x.f x.p x.d x.r x.m u;simp only[show decide (x.p>0)=false by simp[hp0]] at hag;have HAG:Aside (∀u,Calls prog 69 #[.agg #[.int .u64 x.f,.int .u64 x.p,.int .u64 x.d,.int .u64 x.r,.int .u64 x.m]] u fun e w'=>e=.returned (.bool false)/\Below u.heap.size u w'):=hag;clear D I hi hO hp0 hag k0 k1 k2;go_enter func118,ntmps118
 go_wp2_with fail
 refine hf.mono ?_;rintro e w1 ⟨rfl,rfl⟩;clear hf
 go_wp2_with fail
 refine(HAG.out _).mono ?_;rintro e w2 ⟨rfl,b2⟩;have FIN:Aside _:=b2;clear b2
 go_wp2_with fail
 go_ret2;exact⟨rfl,FIN.out⟩
end Go.Proofs.YtjpbngiddjkjiaaGreatDoor.Ta
namespace Go.Proofs.YtjpbngiddjkjiaaGreatDoor
set_option maxHeartbeats 8000000
open Go.RowKit Go.Lib Go.WideMaps Go.Maps
set_option maxRecDepth 100000
set_option linter.unusedVariables false
variable {w w' u:World}{L i:Nat}{D:CAd}{F:Nat->Nat->Prop}{g v:Value}{σ:CS}{x:Ta.TR}
def noT(T:List Ta.TR)(id:Int):Prop:=id<1\/(T.length:Int)<id
theorem Co.getC(C:Co w L D F g v σ)(hi:σ.T[i]?=some x) :
  Calls prog 28 #[.pointer (some ⟨D.Bt,0,none⟩),.int .i64 ((i:Int)+1)] w fun e w'=>e=.returned (.tuple #[.agg #[.int .i64 ((i:Int)+1),.int .i64 x.prio,.int .i64 x.s,.int .u64 x.due,.int .u64 x.key,.int .u64 x.r,.int .u64 x.m],.bool true])/\Cox L D F w σ w':=by
 refine(Ta.getG C.tab hi).mono ?_;rintro e w' ⟨rfl,h,s⟩;obtain⟨C',G'⟩:=C.setTab h s;exact⟨rfl,_,_,_,C',G'⟩
theorem statusC(C:Co w L D F g v σ)(hi:σ.T[i]?=some x) :
  Calls prog 9 #[.pointer (some ⟨D.B,0,none⟩),.int .i64 ((i:Int)+1)] w fun e w'=>e=.returned (.int .i64 x.s)/\Cox L D F w σ w':=by
 have c3:=C.c3;have P:=C.getC hi;obtain⟨s,hs⟩:∃s,x.s=s:=⟨_,rfl⟩;rw[hs] at P⊢;clear C hi hs;go_enter func9,ntmps9
 go_wp2_with fail
 refine P.mono ?_;rintro e w1 ⟨rfl,C1⟩;have FIN:Aside _:=C1.below (belA w1 (.cells #[.int .i64 ((i:Int)+1),.int .i64 x.prio,.int .i64 s,.int .u64 x.due,.int .u64 x.key,.int .u64 x.r,.int .u64 x.m] 80));clear P C1 c3
 go_wp2_with fail
 go_ret;exact⟨rfl,FIN.out⟩
theorem statusN(C:Co w L D F g v σ)(id:Int)(hi:noT σ.T id) :
  Calls prog 9 #[.pointer (some ⟨D.B,0,none⟩),.int .i64 id] w fun e w'=>e=.returned (.int .i64 0)/\Cox L D F w σ w':=by
 have c3:=C.c3;have P:=Ta.getN C.tab id hi;have X:Aside _:=fun w' (b:Below w.heap.size w w')=>C.xb b;clear C hi;go_enter func9,ntmps9
 go_wp2_with fail
 refine P.mono ?_;rintro e w1 ⟨rfl,b1⟩;have FIN:Aside _:=(X.out w1 b1).below (belA w1 (.cells #[.int .i64 0,.int .i64 0,.int .i64 0,.int .u64 0,.int .u64 0,.int .u64 0,.int .u64 0] 80));clear P b1 c3
 go_wp2_with fail
 go_ret;exact⟨rfl,FIN.out⟩
theorem entryC(C:Co w L D F g v σ)(hi:σ.T[i]?=some x) :
  Calls prog 115 #[.pointer (some ⟨D.B,0,none⟩),.int .i64 ((i:Int)+1)] w fun e w'=>e=.returned (.agg #[.int .u64 x.key,.int .i64 ((i:Int)+1)])/\Cox L D F w σ w':=by
 obtain⟨u,hu⟩:∃z,w.alloc (.cells #[.int .u64 0,.int .i64 0] 35)=z:=⟨_,rfl⟩;have b0:Below w.heap.size w u:=by rw[<-hu];exact belA _ _
 obtain⟨K,hK⟩:∃K,w.heap.size=K:=⟨_,rfl⟩;have hB:u.heap[K]?=some (.cells #[.int .u64 0,.int .i64 0] 35 (0,0)):=by rw[<-hu,<-hK];exact heap_alloc_new w _
 have C0:=C.below b0;have c3:=C0.c3;have P:=Ta.getG C0.tab hi;obtain⟨ky,hs⟩:∃s,x.key=s:=⟨_,rfl⟩;obtain⟨I1,hI⟩:∃s,(i:Int)+1=s:=⟨_,rfl⟩;rw[hs,hI] at P;rw[hs,hI];have HC:Aside (Co w L D F g v σ/\Ta.Sx (F 1) w (F 1) u/\(∀k,F 1 k->k<K)/\w.heap.size=K):=⟨C,Ta.Sx.below (F 1) b0,fun k hk=>by have:=C.fp.lt 1 k hk;omega,hK⟩;have HU:Aside _:=hu;have HB:Aside _:=hB;clear C hi hs hI hu b0 hB C0;go_enter func115,ntmps115
 go_upto_region 1 with fail
 rw[HU.out]
 go_wp2_with fail
 refine P.mono ?_;rintro e w1 ⟨rfl,T1,s1⟩;clear P c3;have hB1:w1.heap[K]?=some (.cells #[.int .u64 0,.int .i64 0] 35 (0,0)):=(s1.fr.block K (lt_of_block HB.out) (fun e=>by have:=HC.out.2.2.1 K e;omega)).trans HB.out;obtain⟨u2,hu2⟩:∃z,w1.alloc (.cells #[.int .i64 I1,.int .i64 x.prio,.int .i64 x.s,.int .u64 x.due,.int .u64 ky,.int .u64 x.r,.int .u64 x.m] 80)=z:=⟨_,rfl⟩;have b2:Below w1.heap.size w1 u2:=by rw[<-hu2];exact belA _ _
 have hB2:u2.heap[K]?=some (.cells #[.int .u64 0,.int .i64 0] 35 (0,0)):=(b2.block K (lt_of_block hB1)).trans hB1;obtain⟨J,hJ⟩:∃J,w1.heap.size=J:=⟨_,rfl⟩;have hJ2:u2.heap[J]?=some (.cells #[.int .i64 I1,.int .i64 x.prio,.int .i64 x.s,.int .u64 x.due,.int .u64 ky,.int .u64 x.r,.int .u64 x.m] 80 (0,0)):=by rw[<-hu2,<-hJ];exact heap_alloc_new w1 _
 have j4:u2.cell? ⟨J,4,none⟩=some (.int .u64 ky):=by rw[cell_of_row _ _ _ _ _ _ hJ2];rfl
 have jlt:=lt_of_block hJ2;obtain⟨d0,d1⟩:=bx2 hB2;have dlt:=lt_of_block hB2;have fzk:∀o,u2.frozen? ⟨K,o,none⟩=false:=(fun o=>by simp[World.frozen?,hB2]);have E:Aside (((u2.setCell ⟨K,0,none⟩ (.int .u64 ky)).setCell ⟨K,1,none⟩ (.int .i64 I1)).heap[K]?=some (.cells #[.int .u64 ky,.int .i64 I1] 35 (0,0))):=set_at (set_at hB2 _) _
 have FIN:Aside (Cox L D F w σ ((u2.setCell ⟨K,0,none⟩ (.int .u64 ky)).setCell ⟨K,1,none⟩ (.int .i64 I1))):=by
  obtain⟨C,s0,hlt,hKS⟩:=HC.out;have f1:Ta.Fr (F 1) w u2:=((s0.trans s1).trans (Ta.Sx.below (F 1) b2)).fr;have fk:Ta.Fr (fun k=>k=K) u2 ((u2.setCell ⟨K,0,none⟩ (.int .u64 ky)).setCell ⟨K,1,none⟩ (.int .i64 I1)):=(Ta.Fr.setCell (fun k=>k=K) u2 K 0 (.int .u64 ky) rfl).trans (Ta.Fr.setCell (fun k=>k=K) _ K 1 (.int .i64 I1) rfl) (fun j hj=>.inl hj);have f2:=f1.trans fk (fun j hj=>.inr (by rw[hKS];exact Nat.le_of_eq hj.symm));have T2:=(T1.below b2).fr fk (fun k hk e=>by have:=hlt k hk;omega);obtain⟨C',G'⟩:=C.setTab T2 ⟨f2,fun k hk=>.inl hk⟩;exact⟨_,_,_,C',G'⟩
 have HU2:Aside _:=hu2;have HJ:Aside _:=hJ;clear hu2 hB1 hB2 hJ2 b2 T1 s1 hJ;go_upto_region 2 with fail
 rw[HU2.out];simp only[HJ.out]
 go_wp2_with fail
 have eb:=fun j=>cell_of_row _ _ j _ _ _ E.out;have q0:=eb 0;have q1:=eb 1;refine bodyPost_ret (v:=.agg #[.int .u64 ky,.int .i64 I1]) (by simp[results,results115,go_sem,q0,q1]) rfl ⟨rfl,?_⟩;exact FIN.out
end Go.Proofs.YtjpbngiddjkjiaaGreatDoor
