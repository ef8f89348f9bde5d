import Derived.Test.YthpgfmmpjoodkaaGreatDoorWkH
open List(append_nil flatten_cons flatten_nil length_append)
open Nat(lt_of_lt_of_le)
namespace Go.Proofs.YthpgfmmpjoodkaaGreatDoor
set_option maxHeartbeats 8000000
set_option maxRecDepth 100000
set_option linter.unusedVariables false
open Go.RowKit Go.Lib Go.WideMaps Go.Maps
section
variable {w w' w'' u:World}{L i n M R:Nat}{D:CAd}{F F' F'':Nat->Nat->Prop}{g v:Value}{σ σ':CS}{xs:List WR}{d:DD}
def qall(σ:CS):Nat:=((Qu.slAll σ.q.g σ.th)++((locL σ).flatten++Qu.sortE σ.q.hs.flatten)).length
def quietB(xs:List WR)(σ:CS):Bool:=(xs.all fun x=>x.ph==0)&&(qall σ==0)
theorem ll3{w:World}{X n1 c1 n2 c2 n3 c3:Nat}{a1 a2 a3:Option Addr}{d1 d2 d3:List Qu.Ent}(hX:w.heap[X]?=some (.cells #[.slice a1 n1 c1,.slice a2 n2 c2,.slice a3 n3 c3] 33 (0,0)))(h1:d1.length=n1/\Qu.IsL w a1 c1 d1)(h2:d2.length=n2/\Qu.IsL w a2 c2 d2)(h3:d3.length=n3/\Qu.IsL w a3 c3 d3):Qu.IsLL w (some ⟨X,0,none⟩) [d1,d2,d3]:=by
 refine⟨by simp,fun i d hd=>?_⟩;have hi:=(List.getElem?_eq_some_iff.1 hd).1;have q:∀j,w.cell? ⟨X,0+j,none⟩=(#[.slice a1 n1 c1,.slice a2 n2 c2,.slice a3 n3 c3]:Array Value)[j]?:=fun j=>by rw[Nat.zero_add];exact cell_of_row _ _ _ _ _ _ hX
 have:i=0\/i=1\/i=2:=by simp at hi;omega
 rcases this with rfl|rfl|rfl
 ·simp at hd;subst hd;exact⟨X,0,a1,c1,rfl,lt_of_block hX,by rw[q,h1.1];rfl,h1.2⟩
 ·simp at hd;subst hd;exact⟨X,0,a2,c2,rfl,lt_of_block hX,by rw[q,h2.1];rfl,h2.2⟩
 ·simp at hd;subst hd;exact⟨X,0,a3,c3,rfl,lt_of_block hX,by rw[q,h3.1];rfl,h3.2⟩
theorem anyQM(h:Mc w L D F g v M R n σ xs d)(hq:σ.qn<=1000)(hB:qall σ<=1000000):Calls Tryz.prog 125 #[pt M] w fun e w'=>e=.returned (.bool (decide (0<qall σ)))/\Mx L D F M R n w σ xs d w':=by
 have c0:=h.c0;have mlt:=lt_of_block h.bm.1;have P:=stateQ h.co hq;obtain⟨nQ,hnQ⟩:∃nQ,qall σ=nQ:=⟨_,rfl⟩;obtain⟨nF,hnF⟩:∃nF,(locL σ).flatten.length=nF:=⟨_,rfl⟩;have HH:Aside (Mc w L D F g v M R n σ xs d/\qall σ=nQ/\(locL σ).flatten.length=nF/\nQ<=1000000):=⟨h,hnQ,hnF,by rw[<-hnQ];exact hB⟩;have h8:=h.co.th8;have hT:Aside (σ.th<=8):=h8;rw[hnQ];clear h hq hnQ hnF hB h8;go_enter Tryz.func125,Tryz.ntmps125
 go_wp2_with fail
 refine P.mono ?_;rintro e w1 ⟨K,cs,s1,n1,c1,K2,s3,n3,c3,s4,c4,F1,g1,v1,rfl,C1,G1,BT,fil,o1,o2,o3⟩;clear P c0 mlt BT fil;obtain⟨S0,hS0⟩:∃J,w1.heap.size=J:=⟨_,rfl⟩;obtain⟨nH,hnH⟩:∃J,σ.th=J:=⟨_,rfl⟩;obtain⟨fr,hfr⟩:∃J,(σ.n:Int)-σ.o=J:=⟨_,rfl⟩;obtain⟨nT,hnT⟩:∃J,σ.T.length=J:=⟨_,rfl⟩;obtain⟨nM,hnM⟩:∃J,σ.tm.length=J:=⟨_,rfl⟩;rw[hnH,hfr,hnT,hnM];obtain⟨u,hu⟩:∃q,w1.alloc (.cells #[.int .u64 σ.now,.int .u64 σ.tk,.bool σ.cl,.int .i64 fr,.slice (some ⟨K,0,none⟩) nT nT,.slice s1 n1 c1,.slice (some ⟨K2,0,none⟩) nH nH,.slice s3 n3 c3,.slice s4 nM c4] 41)=q:=⟨_,rfl⟩;have b1:Below w1.heap.size w1 u:=by rw[<-hu];exact belA _ _
 have hb:u.heap[S0]?=some (.cells #[.int .u64 σ.now,.int .u64 σ.tk,.bool σ.cl,.int .i64 fr,.slice (some ⟨K,0,none⟩) nT nT,.slice s1 n1 c1,.slice (some ⟨K2,0,none⟩) nH nH,.slice s3 n3 c3,.slice s4 nM c4] 41 (0,0)):=by rw[<-hu,<-hS0];exact heap_alloc_new w1 _
 have MX:Aside (Mx L D F M R n w σ xs d u):=(HH.out.1.cox ⟨F1,g1,v1,C1,G1⟩).then fun F' g' v' h'=>h'.xb b1
 have KP:Aside (∀W:World,Below u.heap.size u W->W.cell? ⟨S0,5,none⟩=some (.slice s1 n1 c1)/\W.cell? ⟨S0,6,none⟩=some (.slice (some ⟨K2,0,none⟩) nH nH)/\W.cell? ⟨S0,7,none⟩=some (.slice s3 n3 c3)):=fun W b=>by
  have:=(b.block S0 (lt_of_block hb)).trans hb;exact⟨by rw[cell_of_row _ _ _ _ _ _ this];rfl,by rw[cell_of_row _ _ _ _ _ _ this];rfl,by rw[cell_of_row _ _ _ _ _ _ this];rfl⟩
 have hle:nF<=nQ:=by
  rw[<-HH.out.2.1,<-HH.out.2.2.1];unfold qall;simp only[length_append];omega
 have hsum:n1+(nF+n3)=nQ:=by
  rw[<-HH.out.2.1,<-HH.out.2.2.1];unfold qall;simp only[length_append];rw[<-o1.1,<-o3.1]
 have PA:Aside (∀W,Below u.heap.size u W->Calls Tryz.prog 184 #[.slice (some ⟨K2,0,none⟩) nH nH] W fun e w'=>∃a cap,e=.returned (.slice a nF cap)/\Qu.IsL w' a cap (locL σ).flatten/\Below W.heap.size W w'):=fun W b=>by
  have:=Qu.concat_any (some ⟨K2,0,none⟩) nH (locL σ) W (((o2.below b1).below b).is (by rw[locL_len];exact hT.out)) (by rw[HH.out.2.2.1];have:=HH.out.2.2.2;omega);rw[locL_len,hnH] at this;refine this.mono ?_;rintro e w' ⟨a,cap,rfl,o,b'⟩;exact⟨a,cap,by rw[HH.out.2.2.1],o.is,b'⟩
 have O1:Aside (∀W,Below u.heap.size u W->(Qu.slAll σ.q.g σ.th).length=n1/\Qu.IsL W s1 c1 (Qu.slAll σ.q.g σ.th)):=fun W b=>⟨o1.1,((o1.below b1).below b).is⟩;have O3:Aside (∀W,Below u.heap.size u W->(Qu.sortE σ.q.hs.flatten).length=n3/\Qu.IsL W s3 c3 (Qu.sortE σ.q.hs.flatten)):=fun W b=>⟨o3.1,((o3.below b1).below b).is⟩;have HS:Aside (n1+(nF+n3)=nQ/\nF<=nQ):=⟨hsum,hle⟩
 have PB:Aside (∀(W:World)(a:Option Addr)(cap:Nat),Below u.heap.size u W->Qu.IsL W a cap (locL σ).flatten->Calls Tryz.prog 184 #[.slice (some ⟨W.heap.size,0,none⟩) 3 3] (W.alloc (.cells #[.slice s1 n1 c1,.slice a nF cap,.slice s3 n3 c3] 33)) fun e w'=>∃a cap,e=.returned (.slice a nQ cap)/\Below u.heap.size u w'):=fun W a cap b hL=>by
  have bA:=belA W (.cells #[.slice s1 n1 c1,.slice a nF cap,.slice s3 n3 c3] 33);have bb:Below u.heap.size u (W.alloc (.cells #[.slice s1 n1 c1,.slice a nF cap,.slice s3 n3 c3] 33)):=belT b bA
  have:=Qu.concat_any (some ⟨W.heap.size,0,none⟩) 3 [Qu.slAll σ.q.g σ.th,(locL σ).flatten,Qu.sortE σ.q.hs.flatten] _ (ll3 (heap_alloc_new W _) (O1.out _ bb) ⟨HH.out.2.2.1,hL.below bA⟩ (O3.out _ bb)) (by
   simp only[flatten_cons,flatten_nil,append_nil,length_append];rw[(O1.out _ bb).1,(O3.out _ bb).1,HH.out.2.2.1];have:=HS.out.1;have:=HH.out.2.2.2;omega)
  refine this.mono ?_;rintro e w' ⟨a',cap',rfl,o,b'⟩;refine⟨a',cap',?_,belT bb b'⟩;congr 2;simp only[flatten_cons,flatten_nil,append_nil,length_append];rw[(O1.out _ bb).1,(O3.out _ bb).1,HH.out.2.2.1];exact HS.out.1
 obtain⟨m5,m6,m7⟩:=KP.out u (Below.refl _ _);have e5:u.drew.cell? ⟨S0,5,none⟩=some (.slice s1 n1 c1):=m5;have e6:u.drew.cell? ⟨S0,6,none⟩=some (.slice (some ⟨K2,0,none⟩) nH nH):=m6;have e7:u.drew.cell? ⟨S0,7,none⟩=some (.slice s3 n3 c3):=m7;have HU:Aside _:=hu;have HS0:Aside _:=hS0;clear hu hS0 hnH hfr hnT hnM C1 G1 o1 o2 o3 b1 hb hle hsum m5 m6 m7;go_upto_region 2 with fail
 rw[HU.out];try simp only[HS0.out]
 go_region_held3 (fun W=>W.cell? ⟨S0,5,none⟩=some (.slice s1 n1 c1)/\W.cell? ⟨S0,6,none⟩=some (.slice (some ⟨K2,0,none⟩) nH nH)/\W.cell? ⟨S0,7,none⟩=some (.slice s3 n3 c3)) (first|with_reducible exact⟨e5,e6,e7⟩|with_reducible exact⟨f5,f6,f7⟩|exact KP.out _ (belT hb2 (belA _ _))|with_reducible exact⟨g5,g6,g7⟩)
  ((first
   | (go_at_call 184;(with_reducible refine Calls.mono (PB.out w2 a2 cap2 hb2 hl2) ?_);rintro e w3 ⟨a3,cap3,rfl,hb3⟩;obtain⟨g5,g6,g7⟩:=KP.out w3 hb3)
   | (go_at_call 184;(with_reducible refine Calls.mono (PA.out u.drew (Below.refl _ _).drew) ?_);rintro e w2 ⟨a2,cap2,rfl,hl2,b2⟩;have hb2:Below u.heap.size u w2:=⟨b2.os,b2.tape,b2.output,b2.size,b2.block⟩;obtain⟨f5,f6,f7⟩:=KP.out w2 hb2)))
 have FIN:Aside (Mx L D F M R n w σ xs d w3):=MX.out.then fun F' g' v' h'=>h'.xb hb3;clear e5 e6 e7 f5 f6 f7 g5 g6 g7 hl2 hb2 b2 hb3
 go_wp2_with fail
 go_ret;exact⟨by first|rfl|simp,FIN.out⟩
theorem quietM(h:Mc w L D F g v M R n σ xs d)(hq:σ.qn<=1000)(hB:qall σ<=1000000):Calls Tryz.prog 74 #[pt M] w fun e w'=>e=.returned (.bool (quietB xs σ))/\Mx L D F M R n w σ xs d w':=by
 have P:=allIdleM h;have HH:Aside (Mc w L D F g v M R n σ xs d/\σ.qn<=1000/\qall σ<=1000000):=⟨h,hq,hB⟩;unfold quietB;obtain⟨A,hA⟩:∃A,(xs.all fun x=>x.ph==0)=A:=⟨_,rfl⟩;obtain⟨Q,hQ⟩:∃Q,decide (0<qall σ)=Q:=⟨_,rfl⟩
 have hQ':(qall σ==0)=!Q:=by
  rw[<-hQ];by_cases c:qall σ=0
  ·rw[c];rfl
  ·have:0<qall σ:=by omega
   simp[c,this]
 rw[hA] at P⊢;rw[hQ'];have HQ:Aside (decide (0<qall σ)=Q):=hQ;clear h hq hB hA hQ hQ';go_enter Tryz.func74,Tryz.ntmps74
 cases A with
 | false=>
  go_wp2_with fail
  refine P.mono ?_;rintro e w1 ⟨rfl,b1⟩;have FIN:Aside (Mx L D F M R n w σ xs d w1):=HH.out.1.xb b1;clear P b1
  go_wp2_with fail
  go_ret;exact⟨rfl,FIN.out⟩
 | true=>
  go_wp2_with fail
  refine P.mono ?_;rintro e w1 ⟨rfl,b1⟩;have P2:=anyQM (HH.out.1.below b1) HH.out.2.1 HH.out.2.2;rw[HQ.out] at P2;have X1:Aside (Below w.heap.size w w1):=b1;clear P b1
  go_wp2_with fail
  refine P2.mono ?_;rintro e w2 ⟨rfl,X⟩
  have FIN:Aside (Mx L D F M R n w σ xs d w2):=by
   obtain⟨F2,g2,v2,h2,G2⟩:=X;exact⟨F2,g2,v2,h2,(Fm.below HH.out.1 X1.out).trans G2⟩
  clear P2 X
  go_wp2_with fail
  go_ret;exact⟨rfl,FIN.out⟩
end
section
variable {w w' w'' u:World}{L i n M R:Nat}{D:CAd}{F F' F'':Nat->Nat->Prop}{g v:Value}{σ σ':CS}{xs:List WR}{d:DD}
theorem Co.qall_le(C:Co w L D F g v σ)(hn:σ.qn<=1000):qall σ<=1000000:=by
 have h8:=C.th8;have k16:=C.k16
 have h1:(locL σ).flatten.length<=σ.th*16:=by
  have:∀m,m<=σ.th->((List.range m).map fun t=>Qu.sortE (σ.q.ls t).flatten).flatten.length<=m*16:=by
   intro m
   induction m with
   | zero=>intro _;simp
   | succ m ih=>
    intro hm;have:=ih (by omega);have h2:=C.qok.len m (by omega);rw[List.range_succ,List.map_append,List.flatten_append,length_append];simp only[List.map_cons,List.map_nil,flatten_cons,flatten_nil,append_nil];rw[Qu.sortE_len];omega
  exact this σ.th (Nat.le_refl _)
 have h2:=C.qok.hsum;have h3:=Qu.slAll_len σ.q.g σ.th;unfold qall;simp only[length_append];rw[Qu.sortE_len];omega
theorem mq_intT:¬Qu.MQ 3:=mq_int
def StepsTo(L:Nat)(D:CAd)(σ:CS)(x:WR)(t dr:Nat)(Z:WR->Nat->CS->Prop):Prop:=∀w1 F1 g1 v1,Co w1 L D F1 g1 v1 σ->Calls Tryz.prog 32 #[pt D.B,wkV x,.int .i64 t,.int .u64 dr] w1 fun e w'=>∃(y0 y1 y2 y3:Int)(y4:Bool)(j:Nat),e=.returned (.tuple #[wkV ⟨y0,y1,y2,y3,y4⟩,.int .i64 j])/\j<7/\∃σ',Z ⟨y0,y1,y2,y3,y4⟩ j σ'/\Cox L D F1 w1 σ' w'
def StepsIf(I:World->(Nat->Nat->Prop)->Prop)(L:Nat)(D:CAd)(σ:CS)(x:WR)(t dr:Nat)(Z:WR->Nat->CS->Prop):Prop:=∀w1 F1 g1 v1,Co w1 L D F1 g1 v1 σ->I w1 F1->Calls Tryz.prog 32 #[pt D.B,wkV x,.int .i64 t,.int .u64 dr] w1 fun e w'=>∃(y0 y1 y2 y3:Int)(y4:Bool)(j:Nat),e=.returned (.tuple #[wkV ⟨y0,y1,y2,y3,y4⟩,.int .i64 j])/\j<7/\∃σ',Z ⟨y0,y1,y2,y3,y4⟩ j σ'/\Cox L D F1 w1 σ' w'
def RowJ(cs:Array Value)(js:List Nat):Prop:=∀(i j:Nat),js[i]?=some j->cs[i]?=some (Value.int .i64 (j:Int))
theorem RowJ.push{cs:Array Value}{js:List Nat}(h:RowJ cs js)(hl:js.length<cs.size)(j:Nat):RowJ (cs.setIfInBounds js.length (.int .i64 (j:Nat))) (js++[j]):=fun i y hy=>by
 by_cases e:i=js.length
 ·subst e;rw[List.getElem?_append_right (Nat.le_refl _),Nat.sub_self] at hy;simp at hy;subst hy;rw[Array.getElem?_setIfInBounds_self_of_lt hl]
 ·have hi:=(List.getElem?_eq_some_iff.1 hy).1;rw[length_append,List.length_singleton] at hi;rw[List.getElem?_append_left (by omega)] at hy;rw[Array.getElem?_setIfInBounds_ne (fun h=>e h.symm)];exact h i y hy
theorem makeI(w:World)(n:Nat)(hn:n<=8):∃cs:Array Value,(Instr.makeSlice 22 (.int .i64 (n:Int)) (.int .i64 (n:Int))).run Tryz.prog w=.ok (.slice (some ⟨w.heap.size,0,none⟩) n n) (w.alloc (.cells cs 3))/\cs.size=n:=by
 have h:(Tryz.prog.info? 3).map (fun i=>(i.zero,i.size,i.bytes))=some (some (.int .i64 0),1,8):=by kernel_rfl
 obtain⟨i,hi,h2⟩:=Option.map_eq_some_iff.1 h;simp at h2;have hm:=run_make (P:=Tryz.prog) w 22 3 i _ Tryz.underlying22 hi h2.1 .i64 .i64 n n (by omega) (Int.le_refl _) (by rw[h2.2.2];omega) (by omega);simp only[Int.toNat_natCast,h2.2.1] at hm;exact⟨_,hm,by simp[madeCells]⟩
def RoundIs(L:Nat)(D:CAd)(F:Nat->Nat->Prop)(M R n:Nat)(J:List Nat->List WR->DD->CS->Prop)(A:Nat)(w w':World):Prop:=∃(cs:Array Value)(js:List Nat)(ys:List WR)(dd:DD)(τ:CS)(F':Nat->Nat->Prop)(g' v':Value),js.length=n/\RowJ cs js/\J js ys dd τ/\Mc w' L D F' g' v' M R n τ ys dd/\Gc L (Fm F M R) w (Fm F' M R) w'/\Bx w' (Fm F' M R) A cs 3/\cs.size=n
theorem roundB(h:Mc w L D F g v M R n σ xs d){dr:Nat}(I:World->(Nat->Nat->Prop)->Prop)(hI:∀w F w' F',I w F->Gc L (Fm F M R) w (Fm F' M R) w'->I w' F')(i0:I w F)(J:List Nat->List WR->DD->CS->Prop)(h0:J [] xs d σ)
  (hst:∀js ys e τ x,js.length<n->J js ys e τ->ys[js.length]?=some x->e.few 1000000/\StepsIf I L D τ x js.length dr fun y j τ'=>J (js++[j]) (ys.set js.length y) (e.inc j) τ') :
  Calls Tryz.prog 75 #[pt M,.int .u64 dr] w fun e w'=>∃A,e=.returned (.slice (some ⟨A,0,none⟩) n n)/\RoundIs L D F M R n J A w w':=by
 have n1:=h.n1;have n8:=h.n8;have c1:=h.c1;have mlt:=lt_of_block h.bm.1;obtain⟨A,hA⟩:∃A,w.heap.size=A:=⟨_,rfl⟩;obtain⟨cs0,hmk,hcs⟩:=makeI w n n8;obtain⟨u,hu⟩:∃z,w.alloc (.cells cs0 3)=z:=⟨_,rfl⟩;rw[hA,hu] at hmk;have b0:Below w.heap.size w u:=by rw[<-hu];exact belA _ _
 have BA:Bx u (Fm F M R) A cs0 3:=by rw[<-hu,<-hA];exact Bx.newM h _ _
 have ST:Aside (Mc u L D F g v M R n σ xs d/\Gc L (Fm F M R) w (Fm F M R) u/\Bx u (Fm F M R) A cs0 3/\cs0.size=n/\J [] xs d σ):=⟨h.below b0,Fm.below h b0,BA,hcs,h0⟩;have HS:Aside _:=hst;have HI:Aside ((∀w F w' F',I w F->Gc L (Fm F M R) w (Fm F' M R) w'->I w' F')/\I w F):=⟨hI,i0⟩;have HW:Aside (w.heap.size=A/\L<=w.heap.size):=⟨hA,h.co.lw⟩;clear h hu b0 BA hcs h0 hst hI i0;go_enter Tryz.func75,Tryz.ntmps75
 go_wp2_with fail
 go_loopg [6,15] n (fun kx s6 s15 wr=>∃(k:Nat),s15=.int .i64 k/\k<=n/\n-k<=kx/\∃(js:List Nat)(ys:List WR)(dd:DD)(τ:CS)(Fr:Nat->Nat->Prop)(gr vr:Value)(cs:Array Value),Aside (js.length=k/\J js ys dd τ/\RowJ cs js/\cs.size=n)/\Aside (Mc wr L D Fr gr vr M R n τ ys dd)/\Aside (Gc L (Fm F M R) w (Fm Fr M R) wr)/\Aside (Bx wr (Fm Fr M R) A cs 3))
 case atStart=>exact⟨0,rfl,by omega,by omega,[],xs,d,σ,F,g,v,cs0,⟨rfl,ST.out.2.2.2.2,fun i j hj=>by simp at hj,ST.out.2.2.2.1⟩,ST.out.1,ST.out.2.1,ST.out.2.2.1⟩
 case round=>
  obtain⟨k,rfl,hk,hkx,js,ys,dd,τ,Fr,gr,vr,cs,H1,H2,H3,H4⟩:=hrel;by_cases c:k<n
  ·have hlt:(k:Int)<(n:Int):=by omega
   have wk:IntKind.u64.wrap (k:Int)=(k:Int):=by rw[IntKind.wrap_u64];omega
   have P:Calls Tryz.prog 27 #[pt M,.int .u64 k,.int .u64 dr] wr fun e w'=>∃j y τ',e=.returned (.int .i64 (j:Nat))/\j<7/\J (js++[j]) (ys.set k y) (dd.inc j) τ'/\Mx L D Fr M R n wr τ' (ys.set k y) (dd.inc j) w':=by
    obtain⟨x,hx⟩:∃x,ys[k]?=some x:=⟨_,List.getElem?_eq_getElem (by rw[H2.out.len];exact c)⟩;obtain⟨hl,hJ,_⟩:=H1.out;subst hl;obtain⟨hf,hs⟩:=HS.out js ys dd τ x c hJ hx;exact pickB H2.out (dr:=dr) (by omega) (Nat.mod_eq_of_lt c) hx hf (fun w1 b1 C1=>hs w1 Fr gr vr C1 (HI.out.1 _ _ _ _ (HI.out.1 _ _ _ _ HI.out.2 H3.out) (Fm.below H2.out b1)))
   go_wp2_with fail
   refine P.mono ?_;rintro e w2 ⟨j,y,τ',rfl,hj,hJ,F2,g2,v2,M2,G2⟩;clear P;have B2:=H4.out.gc mq_intT G2;have mlt2:=lt_of_block B2.1;have mfz:∀o,w2.frozen? ⟨A,o,none⟩=false:=(fun o=>by simp[World.frozen?,B2.1]);obtain⟨z0,hz0⟩:∃z,cs[k]?=some z:=⟨_,Array.getElem?_eq_getElem (by rw[H1.out.2.2.2];exact c)⟩;have m0:w2.cell? ⟨A,k,none⟩=some z0:=(B2.cell k).trans hz0;have f:Ta.Fr (fun q=>q=A) w2 (w2.setCell ⟨A,k,none⟩ (.int .i64 (j:Nat))):=Ta.Fr.setCell (fun q=>q=A) w2 A k _ rfl;have qt:¬QT 3:=by unfold QT;decide
   have FIN:Aside (∃(js:List Nat)(ys:List WR)(dd:DD)(τ:CS)(Fr:Nat->Nat->Prop)(gr vr:Value)(cs:Array Value),Aside (js.length=k+1/\J js ys dd τ/\RowJ cs js/\cs.size=n)/\Aside (Mc (w2.setCell ⟨A,k,none⟩ (.int .i64 (j:Nat))) L D Fr gr vr M R n τ ys dd)/\Aside (Gc L (Fm F M R) w (Fm Fr M R) (w2.setCell ⟨A,k,none⟩ (.int .i64 (j:Nat))))/\Aside (Bx (w2.setCell ⟨A,k,none⟩ (.int .i64 (j:Nat))) (Fm Fr M R) A cs 3)):=by
    obtain⟨hl,_,hr,hsz⟩:=H1.out;have hrp:=hr.push (by rw[hl,hsz];exact c) j;rw[hl] at hrp;exact⟨js++[j],ys.set k y,dd.inc j,τ',F2,g2,v2,_,⟨by simp[hl],hJ,hrp,by simp[hsz]⟩,M2.fr1 B2 qt f,(H3.out.trans G2).own (Nat.le_of_eq HW.out.1) HW.out.2 f,set_at B2.1 _,B2.2⟩
   clear hJ M2 G2 B2 hz0 f qt hj H1 H2 H3 H4
   go_wp2_with fail
   go_roundg (n-(k+1))
   case measure=>omega
   case rel=>exact⟨k+1,by go_num,by omega,Nat.le_refl _,FIN⟩
  ·have hnl:¬(k:Int)<(n:Int):=by omega
   have hkn:Aside (k=n):=(by omega:k=n);have FIN:Aside (RoundIs L D F M R n J A w wr):=⟨cs,js,ys,dd,τ,Fr,gr,vr,by rw[H1.out.1];exact hkn.out,H1.out.2.2.1,H1.out.2.1,H2.out,H3.out,H4.out,H1.out.2.2.2⟩
   go_wp2_with fail
   go_ret;exact⟨A,rfl,FIN.out⟩
theorem restB(h:Mc w L D F g v M R n σ xs d){most dr:Nat}(hmost:most<=100000)(I:World->(Nat->Nat->Prop)->Prop)(hI:∀w F w' F',I w F->Gc L (Fm F M R) w (Fm F' M R) w'->I w' F')(i0:I w F)(K:Nat->List WR->DD->CS->Prop)(h0:K 0 xs d σ)
  (hq:∀k ys e τ,K k ys e τ->τ.qn<=1000)
  (hr:∀k ys e τ,k<most->K k ys e τ->quietB ys τ=false->ys.length=n->∃J:List Nat->List WR->DD->CS->Prop,J [] ys e τ/\(∀js zs e' τ' x,js.length<n->J js zs e' τ'->zs[js.length]?=some x->e'.few 1000000/\StepsIf I L D τ' x js.length dr fun y j τ''=>J (js++[j]) (zs.set js.length y) (e'.inc j) τ'')/\∀js zs e' τ',js.length=n->J js zs e' τ'->K (k+1) zs e' τ') :
  Calls Tryz.prog 24 #[pt M,.int .i64 most,.int .u64 dr] w fun e w'=>∃k b ys dd τ,e=.returned (.tuple #[.int .i64 (k:Nat),.bool b])/\k<=most/\K k ys dd τ/\b=quietB ys τ/\(k<most->b=true)/\Mx L D F M R n w τ ys dd w':=by
 have ST:Aside (Mc w L D F g v M R n σ xs d/\K 0 xs d σ):=⟨h,h0⟩;have HQ:Aside _:=hq;have HR:Aside _:=hr;have HI:Aside ((∀w F w' F',I w F->Gc L (Fm F M R) w (Fm F' M R) w'->I w' F')/\I w F):=⟨hI,i0⟩;have m0:(0:Int)<=(most:Int):=by omega
 have m1:(most:Int)<=100000:=by omega
 clear h h0 hq hr hI i0;go_enter Tryz.func24,Tryz.ntmps24
 have hmx:min (max (most:Int) 0) 100000=(most:Int):=by omega
 have hmy:min (most:Int) 100000=(most:Int):=by omega
 go_wp2_with fail
 try simp only[hmx,hmy]
 go_loopg [8,13] most (fun kx s8 s13 wr=>∃(k:Nat),s13=.int .i64 k/\k<=most/\most-k<=kx/\∃(ys:List WR)(dd:DD)(τ:CS)(Fr:Nat->Nat->Prop)(gr vr:Value),Aside (K k ys dd τ)/\Aside (Mc wr L D Fr gr vr M R n τ ys dd)/\Aside (Gc L (Fm F M R) w (Fm Fr M R) wr))
 case atStart=>exact⟨0,rfl,by omega,by omega,xs,d,σ,F,g,v,ST.out.2,ST.out.1,Gc.refl _ _ _⟩
 case round=>
  obtain⟨k,rfl,hk,hkx,ys,dd,τ,Fr,gr,vr,HK,HM,HG⟩:=hrel;have P:=quietM HM.out (HQ.out k ys dd τ HK.out) (HM.out.co.qall_le (HQ.out k ys dd τ HK.out));obtain⟨Q,hQ⟩:∃Q,quietB ys τ=Q:=⟨_,rfl⟩;rw[hQ] at P;have HB:Aside (quietB ys τ=Q):=hQ;clear hQ;by_cases c:k<most
  ·have hlt:(k:Int)<(most:Int):=by omega
   go_wp2_with fail
   refine P.mono ?_;rintro e w1 ⟨rfl,F1,g1,v1,M1,G1⟩;clear P
   cases Q with
   | true=>
    have FIN:Aside (∃ys dd τ,K k ys dd τ/\quietB ys τ=true/\Mx L D F M R n w τ ys dd w1):=⟨ys,dd,τ,HK.out,HB.out,F1,g1,v1,M1,HG.out.trans G1⟩;clear M1 G1 HM HG HK
    go_wp2_with fail
    go_ret2;obtain⟨ys,dd,τ,q1,q2,q3⟩:=FIN.out;exact⟨k,true,ys,dd,τ,rfl,hk,q1,q2.symm,fun _=>rfl,q3⟩
   | false=>
    have P2:Calls Tryz.prog 75 #[pt M,.int .u64 dr] w1 fun e w'=>∃A,e=.returned (.slice (some ⟨A,0,none⟩) n n)/\∃zs d2 τ2,K (k+1) zs d2 τ2/\Mx L D F1 M R n w1 τ2 zs d2 w':=by
     obtain⟨J,h0,hs,he⟩:=HR.out k ys dd τ c HK.out HB.out M1.len;refine(roundB M1 I HI.out.1 (HI.out.1 _ _ _ _ HI.out.2 (HG.out.trans G1)) J h0 hs).mono ?_;rintro e w' ⟨A,rfl,cs,js,zs,d2,τ2,F2,g2,v2,hl,_,hJ,M2,G2,_,_⟩;exact⟨A,rfl,zs,d2,τ2,he js zs d2 τ2 hl hJ,F2,g2,v2,M2,G2⟩
    have X1:Aside (Gc L (Fm F M R) w (Fm F1 M R) w1):=HG.out.trans G1;clear M1 G1 HM HG HK HB
    go_wp2_with fail
    refine P2.mono ?_;rintro e w2 ⟨A,rfl,zs,d2,τ2,hK2,F2,g2,v2,M2,G2⟩;have NX:Aside (K (k+1) zs d2 τ2/\Mc w2 L D F2 g2 v2 M R n τ2 zs d2/\Gc L (Fm F M R) w (Fm F2 M R) w2):=⟨hK2,M2,X1.out.trans G2⟩;clear P2 hK2 M2 G2;have hw1:IntKind.i64.wrap ((k:Int)+1)=((k+1:Nat):Int):=by rw[IntKind.wrap_i64];omega
    go_wp2_with fail
    go_roundg (most-(k+1))
    case measure=>omega
    case rel=>exact⟨k+1,by go_num,by omega,Nat.le_refl _,zs,d2,τ2,F2,g2,v2,NX.out.1,NX.out.2.1,NX.out.2.2⟩
  ·have hnl:¬(k:Int)<(most:Int):=by omega
   obtain rfl:k=most:=by omega
   go_wp2_with fail
   refine P.mono ?_;rintro e w1 ⟨rfl,F1,g1,v1,M1,G1⟩;have FIN:Aside (∃ys dd τ,K k ys dd τ/\Q=quietB ys τ/\Mx L D F M R n w τ ys dd w1):=⟨ys,dd,τ,HK.out,HB.out.symm,F1,g1,v1,M1,HG.out.trans G1⟩;clear P M1 G1 HM HG HK HB
   go_wp2_with fail
   go_ret2;obtain⟨ys,dd,τ,q1,q2,q3⟩:=FIN.out;exact⟨k,Q,ys,dd,τ,rfl,Nat.le_refl _,q1,q2,fun h=>absurd h (Nat.lt_irrefl _),q3⟩
theorem restM(h:Mc w L D F g v M R n σ xs d){most dr:Nat}(hmost:most<=100000)(K:Nat->List WR->DD->CS->Prop)(h0:K 0 xs d σ)
  (hq:∀k ys e τ,K k ys e τ->τ.qn<=1000)
  (hr:∀k ys e τ,k<most->K k ys e τ->quietB ys τ=false->ys.length=n->∃J:List Nat->List WR->DD->CS->Prop,J [] ys e τ/\(∀js zs e' τ' x,js.length<n->J js zs e' τ'->zs[js.length]?=some x->e'.few 1000000/\StepsTo L D τ' x js.length dr fun y j τ''=>J (js++[j]) (zs.set js.length y) (e'.inc j) τ'')/\∀js zs e' τ',js.length=n->J js zs e' τ'->K (k+1) zs e' τ') :
  Calls Tryz.prog 24 #[pt M,.int .i64 most,.int .u64 dr] w fun e w'=>∃k b ys dd τ,e=.returned (.tuple #[.int .i64 (k:Nat),.bool b])/\k<=most/\K k ys dd τ/\b=quietB ys τ/\(k<most->b=true)/\Mx L D F M R n w τ ys dd w':=
 restB h hmost (fun _ _=>True) (fun _ _ _ _ _ _=>trivial) trivial K h0 hq (fun k ys e τ a b c l=>by
  obtain⟨J,j0,js,je⟩:=hr k ys e τ a b c l;exact⟨J,j0,fun js' zs e' τ' x a b c=>⟨(js js' zs e' τ' x a b c).1,fun w1 F1 g1 v1 C _=>(js js' zs e' τ' x a b c).2 w1 F1 g1 v1 C⟩,je⟩)
end
section
variable {w w' w'' u:World}{L i n M R:Nat}{D:CAd}{F F' F'':Nat->Nat->Prop}{g v:Value}{σ σ':CS}{xs:List WR}{d:DD}{t dr a:Nat}{ky s:Int}
theorem locL_view{sl ow:Nat->List Qu.Ent}{sh:List Qu.Ent}(V:Qu.View σ.th σ.q sl ow sh):(locL σ).flatten=(List.range σ.th).flatMap ow:=by
 unfold locL;rw[List.flatMap_def];congr 1;exact List.map_congr_left fun t ht=>V.ow t (List.mem_range.1 ht)
theorem qall_view{sl ow:Nat->List Qu.Ent}{sh:List Qu.Ent}(V:Qu.View σ.th σ.q sl ow sh):qall σ=(Qu.allV σ.th sl ow sh).length:=by
 unfold qall Qu.allV;rw[locL_view V,V.slots,V.sh]
theorem QI.qall0(h:QI σ)(hne:∀e,¬Rdy σ.T e):qall σ=0:=by
 obtain⟨sl,ow,sh,V,nd,al⟩:=h;rw[qall_view V]
 cases hl:Qu.allV σ.th sl ow sh with
 | nil=>rfl
 | cons e l=>exact absurd ((al e).1 (by rw[hl];simp)) (hne e)
theorem QI.qall1(h:QI σ){e:Qu.Ent}(he:Rdy σ.T e):0<qall σ:=by
 obtain⟨sl,ow,sh,V,nd,al⟩:=h;rw[qall_view V];exact List.length_pos_of_mem ((al e).2 he)
theorem stepNone(C:Co w L D F g v σ)(h:QI σ)(hne:∀e,¬Rdy σ.T e)(ht:t<σ.th)(hn:σ.qn<=900)(hdr:dr<18446744073709551616) :
  Calls Tryz.prog 32 #[pt D.B,wkV wk0,.int .i64 t,.int .u64 dr] w fun e w'=>e=.returned (.tuple #[wkV wk0,.int .i64 0])/\Cox L D F w (setS σ t) w':=by
 have h1:=h.settle ht;have hf:(σ.q.g t).f=false:=h.idle ht hne;refine stepC C wk0 wk0 ht dr 0 0 0 (j:=3) (by decide) rfl rfl (fun w1 F1 g1 v1 C1=>touch0 C1 wk0 wk0 t dr 0 rfl (fun w2 F2 g2 v2 C2=>seekN C2 wk0 ht (by omega) hf dr 0 0 (fun w3 F3 g3 v3 C3=>?_)));exact lookN C3 (t:=t) (dr:=dr) (show t<σ.th from ht) hdr (by show σ.qn+1<=1000;omega) (h1.none C3.qok (show t<σ.th from ht) dr hne)
theorem Sst.quiet{k:Nat}{y:WR}(hk:k<=4)(h:Sst ky k σ y):quietB [y] σ=decide (k=4):=by
 have hk':k=0\/k=1\/k=2\/k=3\/k=4:=by omega
 have q:∀a,One σ 1 2 ky a->0<qall σ:=fun a o=>o.qi.qall1 o.rdy.1;rcases hk' with rfl|rfl|rfl|rfl|rfl
 ·obtain⟨o,rfl,_⟩:=h;have:=q _ o;have e:(qall σ==0)=false:=by simp;omega
  unfold quietB;rw[e];rfl
 ·obtain⟨o,rfl,_⟩:=h;have:=q _ o;have e:(qall σ==0)=false:=by simp;omega
  unfold quietB;rw[e];rfl
 ·obtain⟨o,rfl⟩:=h
  rfl
 ·obtain⟨o,rfl⟩:=h
  rfl
 ·obtain⟨o,rfl⟩:=h;unfold quietB;rw[o.qi.qall0 (o.none (by omega))]
  rfl
theorem Sst.qn{k:Nat}{y:WR}(hk:k<=4)(h:Sst ky k σ y):σ.qn<=8:=by
 have hk':k=0\/k=1\/k=2\/k=3\/k=4:=by omega
 rcases hk' with rfl|rfl|rfl|rfl|rfl
 ·have:=h.1.qn;omega
 ·have:=h.1.qn;omega
 ·have:=h.1.qn;omega
 ·have:=h.1.qn;omega
 ·have:=h.1.qn;omega
theorem didL_nat{k:Nat}(hk:k<5):∃j:Nat,j<7/\didL.getD k 0=(j:Int):=by
 have hk':k=0\/k=1\/k=2\/k=3\/k=4:=by omega
 rcases hk' with rfl|rfl|rfl|rfl|rfl
 ·exact⟨1,by omega,rfl⟩
 ·exact⟨2,by omega,rfl⟩
 ·exact⟨3,by omega,rfl⟩
 ·exact⟨6,by omega,rfl⟩
 ·exact⟨0,by omega,rfl⟩
theorem Sst.step{k:Nat}{y:WR}(hk:k<5)(h:Sst ky k σ y):StepsTo L D σ y 0 0 fun y' j σ'=>Sst ky (k+1) σ' y':=by
 intro w1 F1 g1 v1 C1;obtain⟨j,hj,e⟩:=didL_nat hk;refine(aw_step C1 hk h).mono ?_;rintro e' w' ⟨y0,y1,y2,y3,y4,rfl,σ',h',X⟩;exact⟨y0,y1,y2,y3,y4,j,by rw[e],hj,σ',h',X⟩
end
section
variable {w w' u:World}{L M R:Nat}{D:CAd}{F F':Nat->Nat->Prop}{g v:Value}{σ σ' τ:CS}{th cr n a k t dr p:Nat}{x:Ta.TR}{y:WR}{e:DD}{T0:List Ta.TR}{L0:List Ta.OpR}
theorem Al.look(h:Al σ th cr n a)(ht:t<th)(z:Qu.Ent):Al (lkA σ t z) th cr n (a+1):=
 ⟨h.th,h.nc,h.cl,h.len,h.st,h.o,h.N,h.E,(h.set ht).qi.same rfl rfl (fun e=>Iff.rfl),Nat.succ_le_succ h.qn,by
  show(σ.ev++[_]).length<=a+1;have:=h.ev;simp;exact this,Nat.le_succ_of_le h.tk⟩
def OpM(M R:Nat)(T0:List Ta.TR)(L0:List Ta.OpR)(w:World)(F:Nat->Nat->Prop):Prop:=∀v∈T0.map opv,OwO w (Fm F M R) (.slice v.1 v.2.1 v.2.2) L0
theorem OpM.gc(L:Nat)(M R:Nat)(T0:List Ta.TR)(L0:List Ta.OpR):∀w F w' F',OpM M R T0 L0 w F->Gc L (Fm F M R) w (Fm F' M R) w'->OpM M R T0 L0 w' F':=fun w F w' F' h G v hv=>(h v hv).gc G
theorem OpM.at(h:OpM M R T0 L0 w F)(e:τ.T.map opv=T0.map opv){i:Nat}(hx:τ.T[i]?=some x):OwO w F (.slice x.oa x.on x.oc) L0:=by
 have hm:opv x∈T0.map opv:=by
  rw[<-e];exact List.mem_map.2 ⟨x,List.mem_of_getElem? hx,rfl⟩
 have q:=h _ hm;exact⟨q.1,fun k hk p hp=>q.2 k hk p (.inl hp)⟩
end
section
variable {w w' u:World}{L M R:Nat}{D:CAd}{F F':Nat->Nat->Prop}{g v:Value}{σ σ' τ:CS}{th cr n a k t dr p i:Nat}{x:Ta.TR}{y:WR}{e:DD}{T0:List Ta.TR}{L0:List Ta.OpR}
theorem OwO.fm{v':Value}{os:List Ta.OpR}{xs:List WR}{d:DD}(h:OwO w F v' os)(m:Mc w L D F g v M R n σ xs d):OwO w (Fm F M R) v' os:=by
 refine⟨h.1,fun k hk p hp=>?_⟩;rcases hp with hp|⟨_,rfl|rfl⟩
 ·exact h.2 k hk p hp
 ·obtain⟨cs,hc⟩:=h.1.rowT hk;rw[m.bm.1] at hc;simp only[Option.some.injEq,Obj.cells.injEq] at hc;exact absurd hc.2.1 (by unfold Ta.rO;decide)
 ·obtain⟨cs,hc⟩:=h.1.rowT hk;rw[m.br.1] at hc;simp only[Option.some.injEq,Obj.cells.injEq] at hc;exact absurd hc.2.1 (by unfold Ta.rO;decide)
end
section
variable {w w' u:World}{L M R:Nat}{D:CAd}{F F':Nat->Nat->Prop}{g v:Value}{σ σ' τ τ':CS}{th cr n a k t dr p i:Nat}{x:Ta.TR}{y y' z:WR}{e:DD}{xs:List WR}
theorem alMiss(C:Co w L D F g v σ)(h:Al σ th cr n a)(ht:t<th)(hx:σ.T[i]?=some x)(h2:x.s≠2)(ky:Int) :
  Calls Tryz.prog 32 #[pt D.B,wkV ⟨1,ky,(i:Int)+1,0,false⟩,.int .i64 t,.int .u64 dr] w fun e w'=>e=.returned (.tuple #[wkV wk0,.int .i64 4])/\Cox L D F w σ w':=by
 have ht':t<σ.th:=by rw[h.th];exact ht
 refine stepC C ⟨1,ky,(i:Int)+1,0,false⟩ wk0 ht' dr 0 4 0 (j:=12) (by decide) rfl rfl (fun w1 F1 g1 v1 C1=>touch1 C1 ⟨1,ky,(i:Int)+1,0,false⟩ wk0 t dr 0 rfl (fun w2 F2 g2 v2 C2=>wclaimN C2 ⟨1,ky,(i:Int)+1,0,false⟩ t 8 (by decide) (fun w3 F3 g3 v3 C3=>?_)));exact claimG C3 (t:=t) (i:=i) (x:=x) ht' hx rfl (by have:=(h.st i x hx).2.1;omega) h2 ky
def WOk(τ:CS)(y:WR):Prop:=
 y=wk0\/(∃(i:Nat)(x:Ta.TR),τ.T[i]?=some x/\y=⟨1,x.key,(i:Int)+1,0,false⟩)\/
 ∃(i:Nat)(x:Ta.TR)(ky:Int)(pc:Nat),τ.T[i]?=some x/\x.s=3/\pc<=1/\y=⟨2,ky,(i:Int)+1,pc,false⟩
theorem WOk.run(h:WOk τ y)(hp:y.ph=2):∃(i:Nat)(x:Ta.TR),τ.T[i]?=some x/\x.s=3/\y.id=(i:Int)+1:=by
 rcases h with rfl|⟨i,x,hx,rfl⟩|⟨i,x,ky,pc,hx,hs,hpc,rfl⟩
 ·cases hp
 ·cases hp
 ·exact⟨i,x,hx,hs,rfl⟩
theorem WOk.set(h:WOk τ y)(hx:τ.T[i]?=some x){q:Ta.TR}(hk:q.key=x.key)(hT:τ'.T=τ.T.set i q)(hne:y.ph=2->y.id≠(i:Int)+1):WOk τ' y:=by
 have hl:=(List.getElem?_eq_some_iff.1 hx).1;rcases h with rfl|⟨i',x',hx',rfl⟩|⟨i',x',ky,pc,hx',hs,hpc,rfl⟩
 ·exact .inl rfl
 ·by_cases c:i=i'
  ·subst c;rw[hx] at hx';injection hx' with hx'
   subst hx';exact .inr (.inl ⟨i,q,by rw[hT,List.getElem?_set_self hl],by rw[hk]⟩)
  ·exact .inr (.inl ⟨i',x',by rw[hT,List.getElem?_set_ne c];exact hx',rfl⟩)
 ·have c:i≠i':=fun e=>hne rfl (by rw[e]);exact .inr (.inr ⟨i',x',ky,pc,by rw[hT,List.getElem?_set_ne c];exact hx',hs,hpc,rfl⟩)
theorem WOk.push(h:WOk τ y){q:Ta.TR}(hT:τ'.T=τ.T++[q]):WOk τ' y:=by
 have q':∀(i:Nat)(x:Ta.TR),τ.T[i]?=some x->τ'.T[i]?=some x:=fun i x hx=>by rw[hT,List.getElem?_append_left (List.getElem?_eq_some_iff.1 hx).1];exact hx
 rcases h with rfl|⟨i',x',hx',rfl⟩|⟨i',x',ky,pc,hx',hs,hpc,rfl⟩
 ·exact .inl rfl
 ·exact .inr (.inl ⟨i',x',q' _ _ hx',rfl⟩)
 ·exact .inr (.inr ⟨i',x',ky,pc,q' _ _ hx',hs,hpc,rfl⟩)
def wLk(y:WR):Bool:=y.ph==1
def wC0(y:WR):Bool:=y.ph==2&&y.pc==0
def wC1(y:WR):Bool:=y.ph==2&&y.pc==1
theorem cntWR(f:WR->Bool)(xs:List WR)(t:Nat)(y y':WR)(h:xs[t]?=some y):(xs.set t y').countP f+(f y).toNat=xs.countP f+(f y').toNat:=by
 induction xs generalizing t with
 | nil=>simp at h
 | cons z xs ih=>
  cases t with
  | zero=>
   simp at h;subst h;simp only[List.set_cons_zero,List.countP_cons]
   cases f z<;>cases f y'<;>simp<;>omega
  | succ t=>
   have:=ih t (by simpa using h);simp only[List.set_cons_succ,List.countP_cons];omega
structure MI(th n k:Nat)(xs:List WR)(e:DD)(τ:CS):Prop where
 len:xs.length=th
 al:Al τ th 64 n (k+2*n)
 wk:∀(t:Nat)(y:WR),xs[t]?=some y->WOk τ y
 ds:∀(t t':Nat)(y y':WR),t≠t'->xs[t]?=some y->xs[t']?=some y'->y.ph=2->y'.ph=2->y.id≠y'.id
 c2:e.d2=e.d3+e.d4+(xs.countP wLk:Nat)
 c3:e.d3=e.d5+(xs.countP wC0:Nat)
 c5:e.d5=e.d6+(xs.countP wC1:Nat)
 tk:e.d3=(τ.tk:Int)
 fw:e.few k
 sm:e.sum=k
theorem MI.go(h:MI th n k xs e τ)(hy:xs[t]?=some y){j:Nat}(al:Al τ' th 64 n (k+1+2*n))(ow:∀(t':Nat)(z:WR),t≠t'->xs[t']?=some z->WOk τ' z)(wy:WOk τ' y')
  (dy:y'.ph=2->∀(t':Nat)(z:WR),t≠t'->xs[t']?=some z->z.ph=2->z.id≠y'.id)
  (q2:(e.inc j).d2+e.d3+e.d4+((wLk y).toNat:Int)=e.d2+(e.inc j).d3+(e.inc j).d4+((wLk y').toNat:Int))
  (q3:(e.inc j).d3+e.d5+((wC0 y).toNat:Int)=e.d3+(e.inc j).d5+((wC0 y').toNat:Int))
  (q5:(e.inc j).d5+e.d6+((wC1 y).toNat:Int)=e.d5+(e.inc j).d6+((wC1 y').toNat:Int))
  (qt:(e.inc j).d3+(τ.tk:Int)=e.d3+(τ'.tk:Int)):MI th n (k+1) (xs.set t y') (e.inc j) τ':=by
 have hl:=(List.getElem?_eq_some_iff.1 hy).1
 have at':∀(t':Nat)(z:WR),(xs.set t y')[t']?=some z->(t'=t/\z=y')\/(t≠t'/\xs[t']?=some z):=fun t' z hz=>by
  by_cases c:t=t'
  ·subst c;rw[List.getElem?_set_self hl] at hz;injection hz with hz
   exact .inl ⟨rfl,hz.symm⟩
  ·rw[List.getElem?_set_ne c] at hz;exact .inr ⟨c,hz⟩
 have n2:=cntWR wLk xs t y y' hy;have n3:=cntWR wC0 xs t y y' hy;have n5:=cntWR wC1 xs t y y' hy;have:=h.c2;have:=h.c3;have:=h.c5;have:=h.tk;refine⟨by rw[List.length_set];exact h.len,al,fun t' z hz=>?_,fun t1 t2 z1 z2 hne h1 h2 p1 p2=>?_,by omega,by omega,by omega,by omega,by have:=h.fw;exact DD.few_inc this j,by rw[DD.inc_sum,h.sm];push_cast;rfl⟩
 ·rcases at' t' z hz with⟨_,rfl⟩|⟨c,hz⟩
  ·exact wy
  ·exact ow t' z c hz
 ·rcases at' t1 z1 h1 with⟨rfl,rfl⟩|⟨c1,k1⟩<;>rcases at' t2 z2 h2 with⟨rfl,rfl⟩|⟨c2,k2⟩
  ·exact absurd rfl hne
  ·exact fun e=>dy p1 t2 z2 c2 k2 p2 e.symm
  ·exact dy p2 t1 z1 c1 k1 p1
  ·exact h.ds t1 t2 z1 z2 hne k1 k2 p1 p2
theorem MI.step(h:MI th n k xs e τ)(hb:k+2*n<=600)(hn:n<=200)(hy:xs[t]?=some y)(hdr:dr<18446744073709551616)(I:OpM M R τ.T [(1,0,0)] w F)(C:Co w L D F g v τ) :
  Calls Tryz.prog 32 #[pt D.B,wkV y,.int .i64 t,.int .u64 dr] w fun r w'=>∃(y0 y1 y2 y3:Int)(y4:Bool)(j:Nat),r=.returned (.tuple #[wkV ⟨y0,y1,y2,y3,y4⟩,.int .i64 j])/\j<7/\∃τ',(MI th n (k+1) (xs.set t ⟨y0,y1,y2,y3,y4⟩) (e.inc j) τ'/\τ'.T.map opv=τ.T.map opv/\1<=(e.inc j).get j)/\Cox L D F w τ' w':=by
 have ht:t<th:=by rw[<-h.len];exact(List.getElem?_eq_some_iff.1 hy).1
 have hA:=h.al;have fw:=h.fw
 have gj:∀j,j<7->1<=(e.inc j).get j:=fun j hj=>by
  have:j=0\/j=1\/j=2\/j=3\/j=4\/j=5\/j=6:=by omega
  obtain⟨f0,f1,f2,f3,f4,f5,f6,_⟩:=fw;rcases this with rfl|rfl|rfl|rfl|rfl|rfl|rfl<;>simp only[DD.inc,DD.get]<;>omega
 have ow0:∀(t':Nat)(z:WR),t≠t'->xs[t']?=some z->WOk τ z:=fun t' z _ hz=>h.wk t' z hz;rcases h.wk t y hy with rfl|⟨i,x,hx,rfl⟩|⟨i,x,ky,pc,hx,hs,hpc,rfl⟩
 ·cases hf:(τ.q.g t).f with
  | true=>
   refine(alSettle C hA (dr:=dr) ht (by omega) hf).mono ?_;rintro r w' ⟨rfl,X⟩;exact⟨0,0,0,0,false,1,rfl,by omega,_,⟨h.go hy ((hA.set ht).mono (by omega)) ow0 (.inl rfl) (fun h=>by cases h) (by rfl) (by rfl) (by rfl) (by rfl),rfl,gj 1 (by omega)⟩,X⟩
  | false=>
   by_cases hr:∃e,Rdy τ.T e
   ·obtain⟨zz,⟨i,x,hx,hs,rfl⟩,P⟩:=alLook C hA ht (by omega) hdr hf hr;refine(P w F g v C).mono ?_;rintro r w' ⟨rfl,X⟩;refine⟨1,x.key,(i:Int)+1,0,false,2,rfl,by omega,_,⟨h.go hy ((hA.look ht _).mono (by omega)) ow0 (.inr (.inl ⟨i,x,hx,rfl⟩)) (fun h=>by cases h) ?_ (by rfl) (by rfl) (by rfl),rfl,gj 2 (by omega)⟩,X⟩;show e.d2+1+e.d3+e.d4+((0:Nat):Int)=e.d2+e.d3+e.d4+((1:Nat):Int);omega
   ·refine(stepNone C hA.qi (fun e he=>hr ⟨e,he⟩) (by rw[hA.th];exact ht) (by have:=hA.qn;omega) hdr).mono ?_;rintro r w' ⟨rfl,X⟩;exact⟨0,0,0,0,false,0,rfl,by omega,_,⟨h.go hy ((hA.set ht).mono (by omega)) ow0 (.inl rfl) (fun h=>by cases h) (by rfl) (by rfl) (by rfl) (by rfl),rfl,gj 0 (by omega)⟩,X⟩
 ·by_cases h2:x.s=2
  ·refine(alClaim C hA (dr:=dr) ht (by omega) hx h2).mono ?_;rintro r w' ⟨rfl,X⟩;have tx:=turnX_key x 3
   have ne:∀(t':Nat)(z:WR),xs[t']?=some z->z.ph=2->z.id≠(i:Int)+1:=fun t' z hz hp he=>by
    obtain⟨i',x',hx',hs',e'⟩:=(h.wk t' z hz).run hp;obtain rfl:i'=i:=by omega
    rw[hx] at hx';injection hx' with hx'
    rw[hx'] at h2;omega
   refine⟨2,x.key,(i:Int)+1,0,false,3,rfl,by omega,_,⟨h.go hy ((hA.claim hx h2 t).mono (by omega)) (fun t' z c hz=>(h.wk t' z hz).set hx tx.1 rfl (ne t' z hz)) (.inr (.inr ⟨i,turnX x 3,x.key,0,List.getElem?_set_self (List.getElem?_eq_some_iff.1 hx).1,tx.2.2.1,by omega,rfl⟩)) (fun _ t' z c hz hp=>ne t' z hz hp) ?_ ?_ (by rfl) ?_,map_set hx (turnX_opv x 3),gj 3 (by omega)⟩,X⟩
   ·show e.d2+e.d3+e.d4+((1:Nat):Int)=e.d2+(e.d3+1)+e.d4+((0:Nat):Int);omega
   ·show e.d3+1+e.d5+((0:Nat):Int)=e.d3+e.d5+((1:Nat):Int);omega
   ·show e.d3+1+(τ.tk:Int)=e.d3+((τ.tk+1:Nat):Int)
    push_cast
    omega
  ·refine(alMiss C hA (dr:=dr) ht hx h2 x.key).mono ?_;rintro r w' ⟨rfl,X⟩;refine⟨0,0,0,0,false,4,rfl,by omega,_,⟨h.go hy (hA.mono (by omega)) ow0 (.inl rfl) (fun h=>by cases h) ?_ (by rfl) (by rfl) (by rfl),rfl,gj 4 (by omega)⟩,X⟩;show e.d2+e.d3+e.d4+((1:Nat):Int)=e.d2+e.d3+(e.d4+1)+((0:Nat):Int);omega
 ·have hO:=I.at (τ:=τ) rfl hx;have hc:pc=0\/pc=1:=by omega
  rcases hc with rfl|rfl
  ·refine(alOp C hA (dr:=dr) ht hx hO (by decide) (o:=(1,0,0)) (pc:=0) rfl rfl ky).mono ?_;rintro r w' ⟨rfl,X⟩;refine⟨2,ky,(i:Int)+1,1,false,5,rfl,by omega,_,⟨h.go hy (hA.mono (by omega)) ow0 (.inr (.inr ⟨i,x,ky,1,hx,hs,by omega,rfl⟩)) (fun _ t' z c hz hp he=>?_) (by rfl) ?_ ?_ (by rfl),rfl,gj 5 (by omega)⟩,X⟩
   ·exact h.ds t t' _ z c hy hz rfl hp he.symm
   ·show e.d3+e.d5+((1:Nat):Int)=e.d3+(e.d5+1)+((0:Nat):Int);omega
   ·show e.d5+1+e.d6+((0:Nat):Int)=e.d5+e.d6+((1:Nat):Int);omega
  ·refine(alFin C hA (dr:=dr) hn ht (by omega) hx hs hO (by decide) (pc:=1) (by decide) ky).mono ?_;rintro r w' ⟨rfl,X⟩;have tx:=turnX_key x 4;refine⟨0,0,0,0,false,6,rfl,by omega,_,⟨h.go hy ((hA.fin hx hs t).mono (by omega)) (fun t' z c hz=>(h.wk t' z hz).set hx tx.1 rfl (fun hp he=>?_)) (.inl rfl) (fun h=>by cases h) (by rfl) (by rfl) ?_ (by rfl),map_set hx (turnX_opv x 4),gj 6 (by omega)⟩,X⟩
   ·exact h.ds t t' _ z c hy hz rfl hp he.symm
   ·show e.d5+e.d6+((1:Nat):Int)=e.d5+(e.d6+1)+((0:Nat):Int);omega
end
section
variable {w w' u:World}{L M R:Nat}{D:CAd}{F F':Nat->Nat->Prop}{g v:Value}{τ:CS}{th n k t pk dr:Nat}{e:DD}{xs:List WR}
theorem edSub(h:Mc w L D F g v M R th τ xs e)(m:MI th n k xs e τ)(hb:k+2*n<=600)(hn:n<=60)(ht:t<th)(I:OpM M R τ.T [(1,0,0)] w F){a0:Option Addr}{cap:Nat}(hO:OwO w (Fm F M R) (.slice a0 1 cap) [(1,0,0)])(hS:Ta.ShW w)(HL:0<L)(prio:Nat)(h7:prio<=7) :
  Calls Tryz.prog 9 #[pt D.B,.int .i64 t,.int .i64 (prio:Int),.slice a0 1 cap,.slice none 0 0] w fun r w'=>(∃z,r=.returned (.tuple #[.int .i64 z,.int .i64 0]))/\∃τ' F' g' v',Mc w' L D F' g' v' M R th τ' xs e/\Gc L (Fm F M R) w (Fm F' M R) w'/\MI th (n+1) k xs e τ'/\OpM M R τ'.T [(1,0,0)] w' F':=by
 have A:=m.al;have hO1:OwO w F (.slice a0 1 cap) [(1,0,0)]:=⟨hO.1,fun k hk p hp=>hO.2 k hk p (.inl hp)⟩;obtain⟨a1,cap1,e1,O1⟩:=hO1.ops;injection e1 with e2 e3 e4
 subst e2 e4;have hc:τ.T.countP liv<=n:=by rw[<-A.len];exact Ta.cntP_le liv τ.T
 refine(subO h.co (t:=t) (by rw[A.th];exact ht) A.cl (by rw[A.len];omega) (by rw[A.o,A.nc];omega) (by have:=A.ev;omega) (by have:=A.qn;omega) (by have:=A.tk;omega) (prio:Int) (by omega) (by omega) (Lo:=1) rfl O1 hS HL (by decide)).mono ?_;rintro r w' ⟨rfl,oa,oc,F',g',v',C',G',O'⟩;have M':=h.turn C' G';refine⟨⟨_,rfl⟩,_,F',g',v',M',Fm.gc G' M R,⟨m.len,(A.sub ht _ oa 1 oc).mono (by omega),fun t' y hy=>(m.wk t' y hy).push (subSO_T τ t prio oa 1 oc),m.ds,m.c2,m.c3,m.c5,m.tk,m.fw,m.sm⟩,fun z hz=>?_⟩;rw[subSO_T,List.map_append,List.mem_append] at hz;rcases hz with hz|hz
 ·exact OpM.gc L M R τ.T _ w F w' F' I (Fm.gc G' M R) z hz
 ·simp at hz;subst hz;exact O'.fm M'
theorem edPick(h:Mc w L D F g v M R th τ xs e)(m:MI th n k xs e τ)(hb:k+2*n<=600)(hn:n<=200)(I:OpM M R τ.T [(1,0,0)] w F)(hpk:pk<18446744073709551616)(hdr:dr<18446744073709551616) :
  Calls Tryz.prog 27 #[pt M,.int .u64 pk,.int .u64 dr] w fun r w'=>∃j,r=.returned (.int .i64 (j:Nat))/\j<7/\∃xs' τ' F' g' v',Mc w' L D F' g' v' M R th τ' xs' (e.inc j)/\Gc L (Fm F M R) w (Fm F' M R) w'/\MI th n (k+1) xs' (e.inc j) τ'/\OpM M R τ'.T [(1,0,0)] w' F'/\1<=(e.inc j).get j:=by
 have h1:=h.n1;have ht:pk%th<xs.length:=by rw[m.len];exact Nat.mod_lt _ (by omega)
 have hx:xs[pk%th]?=some xs[pk%th]:=List.getElem?_eq_getElem ht;have fw:e.few 1000000:=⟨m.fw.1,m.fw.2.1,m.fw.2.2.1,m.fw.2.2.2.1,m.fw.2.2.2.2.1,m.fw.2.2.2.2.2.1,m.fw.2.2.2.2.2.2.1,by have:=m.fw.2.2.2.2.2.2.2;omega⟩;refine(pickB h hpk rfl hx fw (Z:=fun y j τ'=>MI th n (k+1) (xs.set (pk%th) y) (e.inc j) τ'/\τ'.T.map opv=τ.T.map opv/\1<=(e.inc j).get j) (fun w1 b1 C1=>m.step hb hn hx hdr (OpM.gc L M R τ.T _ w F w1 F I (Fm.below h b1)) C1)).mono ?_;rintro r w' ⟨j,y,τ',rfl,hj,⟨m',hm,hg⟩,F',g',v',M',G'⟩;refine⟨j,rfl,hj,_,τ',F',g',v',M',G',m',fun z hz=>?_,hg⟩;rw[hm] at hz;exact OpM.gc L M R τ.T _ w F w' F' I G' z hz
end
section
variable {w w' w'' u:World}{L i n M R:Nat}{D:CAd}{F F' F'':Nat->Nat->Prop}{g v:Value}{σ σ':CS}{xs:List WR}{d:DD}{t dr a:Nat}{ky s:Int}
def Awk(ky:Int)(k:Nat)(ys:List WR)(e:DD)(τ:CS):Prop:=k<=4/\∃y,ys=[y]/\Sst ky k τ y/\e.few k/\e.sum=k
theorem awRest(h:Mc w L D F g v M R 1 σ [wk0] DD.z)(o:Sst ky 0 σ wk0) :
  Calls Tryz.prog 24 #[pt M,.int .i64 9,.int .u64 0] w fun e w'=>e=.returned (.tuple #[.int .i64 4,.bool true])/\∃y dd τ,One τ 1 4 ky 7/\dd.few 4/\dd.sum=4/\quietB [y] τ=true/\Mx L D F M R 1 w τ [y] dd w':=by
 refine Calls.mono (restM h (most:=9) (dr:=0) (by omega) (Awk ky) ⟨by omega,wk0,rfl,o,⟨by decide,by decide,by decide,by decide,by decide,by decide,by decide,by decide⟩,rfl⟩ ?_ ?_) ?_
 ·rintro k ys e τ ⟨hk,y,rfl,s,_⟩;have:=s.qn hk;omega
 ·rintro k ys e τ hk ⟨hk4,y,rfl,s,hf,hs⟩ hq _;rw[s.quiet hk4] at hq
  have hk':k<4:=by
   have:k≠4:=fun e=>by simp[e] at hq
   omega
  refine⟨fun js zs e' τ'=>(js=[]/\zs=[y]/\e'=e/\τ'=τ)\/(js.length=1/\Awk ky (k+1) zs e' τ'),.inl ⟨rfl,rfl,rfl,rfl⟩,?_,?_⟩
  ·rintro js zs e' τ' x hl h hx;rcases h with⟨rfl,rfl,rfl,rfl⟩|⟨hl',_⟩
   ·simp at hx;subst hx;refine⟨⟨hf.1,hf.2.1,hf.2.2.1,hf.2.2.2.1,hf.2.2.2.2.1,hf.2.2.2.2.2.1,hf.2.2.2.2.2.2.1,by have:=hf.2.2.2.2.2.2.2;omega⟩,?_⟩;intro w1 F1 g1 v1 C1;refine Calls.mono ((s.step (L:=L) (D:=D) (by omega)) w1 F1 g1 v1 C1) ?_;rintro e'' w' ⟨y0,y1,y2,y3,y4,j,rfl,hj,σ',h',X⟩;exact⟨y0,y1,y2,y3,y4,j,rfl,hj,σ',.inr ⟨rfl,by omega,_,rfl,h',by have:=DD.few_inc (d:=e') (B:=(k:Int)) hf j;exact this,by rw[DD.inc_sum,hs];push_cast;rfl⟩,X⟩
   ·omega
  ·rintro js zs e' τ' hl h;rcases h with⟨rfl,_⟩|⟨_,h⟩
   ·simp at hl
   ·exact h
 ·rintro e w' ⟨k,b,ys,dd,τ,rfl,hk,⟨hk4,y,rfl,s,hf,hs⟩,hb,hlt,X⟩;have hb1:=hlt (by omega);subst hb1;have hb2:=hb;rw[s.quiet hk4] at hb;obtain rfl:k=4:=by simpa using hb
  obtain⟨o4,_⟩:=s;exact⟨rfl,y,dd,τ,o4,hf,hs,hb2.symm,X⟩
theorem awake20C(w:World):Calls Tryz.prog 26 #[] w fun e w'=>e=.returned (.bool true)/\Below w.heap.size w w':=by
 have P:Calls Tryz.prog 22 #[.agg #[.int .i64 1,.int .i64 2,.int .i64 3]] w fun e w'=>∃M,e=.returned (.tuple #[pt M,.int .i64 0])/\∃L D F R,w.heap.size<=L/\Mc w' L D F (.slice none 0 0) (.slice none 0 0) M R 1 (newS 1 2 3) [wk0] DD.z/\Below w.heap.size w w':=newM 1 2 3 w (by omega) (by omega) (by omega) (by omega) (by omega);go_enter Tryz.func26,Tryz.ntmps26
 go_wp2_with fail
 refine P.mono ?_;rintro e w1 ⟨M,rfl,L,D,F1,R,hL,M1,b1⟩;have X1:Aside (Below w.heap.size w w1/\w.heap.size<=L/\Mc w1 L D F1 (.slice none 0 0) (.slice none 0 0) M R 1 (newS 1 2 3) [wk0] DD.z):=⟨b1,hL,M1⟩;have P1:=coreM M1;have P2:Calls Tryz.prog 9 #[pt D.B,.int .i64 0,.int .i64 3,.slice none 0 0,.slice none 0 0] w1 fun e w'=>e=.returned (.tuple #[.int .i64 1,.int .i64 0])/\Cox L D F1 w1 (subS (newS 1 2 3) 0 3) w':=subC M1.co (t:=0) (show 0<1 by omega) rfl (show 0<200 by omega) (show 0<3 by omega) (show 0+1<1000000 by omega) (show 0<=1000 by omega) (show 0<1000000 by omega) 3 (by omega) (by omega);have HP2:=asd P2;clear P P2 M1 b1 hL
 go_wp2_with fail
 refine P1.mono ?_;rintro e w2 ⟨rfl,rfl⟩;clear P1
 go_wp2_with fail
 refine HP2.out.mono ?_;rintro e w3 ⟨rfl,CX⟩;obtain⟨F3,g3,v3,M3,G3⟩:=X1.out.2.2.cox CX;obtain⟨ky,o⟩:=One.sub (th:=1) (k:=2) (n:=3) (t:=0) (by omega) 3;have hf0:((subS (newS 1 2 3) 0 3).q.g 0).f=true:=put_same _ _ _ _;have P:=awRest M3 (ky:=ky) ⟨o,rfl,hf0⟩;have X3:Aside (Gc L (Fm F1 M R) w2 (Fm F3 M R) w3):=G3;clear CX M3 G3 o hf0 HP2
 go_wp2_with fail
 refine P.mono ?_;rintro e w4 ⟨rfl,y,dd,τ,o4,hf,hs,hq,F4,g4,v4,M4,G4⟩;clear P;have qn4:τ.qn<=1000:=by have:=o4.qn;omega
 have P:=quietM M4 qn4 (M4.co.qall_le qn4);rw[hq] at P;obtain⟨x,hT,hxs,_⟩:=o4.at';have X4:Aside (Gc L (Fm F1 M R) w2 (Fm F4 M R) w4/\dd.few 1000000/\dd.sum=4/\τ.T[0]?=some x/\x.s=4):=⟨X3.out.trans G4,⟨hf.1,hf.2.1,hf.2.2.1,hf.2.2.2.1,hf.2.2.2.2.1,hf.2.2.2.2.2.1,hf.2.2.2.2.2.2.1,by have:=hf.2.2.2.2.2.2.2;omega⟩,hs,by rw[hT];rfl,hxs⟩;clear M4 G4 o4 hf hs hq hT hxs qn4
 go_wp2_with fail
 refine P.mono ?_;rintro e w5 ⟨rfl,F5,g5,v5,M5,G5⟩;clear P;have P:=picksM M5 X4.out.2.1;rw[X4.out.2.2.1] at P;have P1:=coreM M5;have P2:=statusC M5.co X4.out.2.2.2.1;rw[X4.out.2.2.2.2] at P2;have X5:Aside (Gc L (Fm F1 M R) w2 (Fm F5 M R) w5/\Mc w5 L D F5 g5 v5 M R 1 τ [y] dd):=⟨X4.out.1.trans G5,M5⟩;have HP1:=asd P1;have HP2:=asd P2;clear M5 G5 P1 P2
 go_wp2_with fail
 refine P.mono ?_;rintro e w6 ⟨rfl,rfl⟩;clear P
 go_wp2_with fail
 refine HP1.out.mono ?_;rintro e w7 ⟨rfl,rfl⟩
 go_wp2_with fail
 refine HP2.out.mono ?_;rintro e w8 ⟨rfl,CX⟩
 have FIN:Aside (Below w.heap.size w w8):=by
  obtain⟨F8,g8,v8,M8,G8⟩:=X5.out.2.cox CX;exact X1.out.1.trans ((X5.out.1.trans G8).low.mono X1.out.2.1)
 clear CX HP1 HP2
 go_wp2_with fail
 go_ret;exact⟨rfl,FIN.out⟩
end
theorem isUd{z:Int}(h:(Lit.int .u64 z).wf=true):∃n:Nat,z=(n:Int)/\n<18446744073709551616:=by
 simp only[Lit.wf,IntKind.min,IntKind.max,IntKind.signed,IntKind.bits,Bool.and_eq_true] at h;obtain⟨h1,h2⟩:=h;simp at h1 h2;exact⟨z.toNat,by omega,by omega⟩
theorem DD.list_at(d:DD){j:Nat}(hj:j<7):d.list[j]?=some (d.get j):=by
 have:j=0\/j=1\/j=2\/j=3\/j=4\/j=5\/j=6:=by omega
 rcases this with rfl|rfl|rfl|rfl|rfl|rfl|rfl<;>rfl
theorem MI.new{th:Nat}(h1:1<=th)(k:Nat):MI th 0 0 (List.replicate th wk0) DD.z (newS th k 64):=by
 have q:∀(t:Nat)(y:WR),(List.replicate th wk0)[t]?=some y->y=wk0:=fun t y hy=>List.eq_of_mem_replicate (List.mem_of_getElem? hy)
 have c:∀f:WR->Bool,f wk0=false->(List.replicate th wk0).countP f=0:=fun f hf=>by
  rw[List.countP_eq_zero];intro y hy;rw[List.eq_of_mem_replicate hy,hf]
  decide
 refine⟨List.length_replicate,Al.new th k 64,fun t y hy=>.inl (q t y hy),fun t t' y y' _ hy _ hp _=>?_,?_,?_,?_,rfl,⟨by decide,by decide,by decide,by decide,by decide,by decide,by decide,by decide⟩,rfl⟩
 ·rw[q t y hy] at hp;cases hp
 ·rw[c wLk rfl];rfl
 ·rw[c wC0 rfl];rfl
 ·rw[c wC1 rfl];rfl
def EdI(M R th:Nat)(i n:Nat)(w:World)(F:Nat->Nat->Prop)(xs:List WR)(e:DD)(τ:CS):Prop:=n<=i/\MI th n i xs e τ/\OpM M R τ.T [(1,0,0)] w F
theorem opNew{w:World}{F:Nat->Nat->Prop}(hF:∀p k,F p k->k<w.heap.size):OwO (w.alloc (.cells #[.int .i64 1,.int .i64 0,.int .i64 0] 62)) F (.slice (some ⟨w.heap.size,0,none⟩) 1 1) [(1,0,0)]:=by
 have hh:(w.alloc (.cells #[.int .i64 1,.int .i64 0,.int .i64 0] 62)).heap[w.heap.size]?=some (.cells #[.int .i64 1,.int .i64 0,.int .i64 0] 62 (0,0)):=heap_alloc_new w _;refine⟨⟨by simp[Ta.RowT.flat,Ta.rO],.inr ⟨w.heap.size,1,#[.int .i64 1,.int .i64 0,.int .i64 0],rfl,Nat.zero_le _,hh,by simp,by unfold maxLen;omega,by simp[Ta.rO],by simp[Ta.RowT.flat,Ta.rO]⟩⟩,fun k hk p hp=>?_⟩;have:k=w.heap.size:=by simp[Value.ownBlock] at hk;omega
 have:=hF p k hp;omega
theorem execDid_walk(tz kz:Int)(a1:Option Addr)(len1 cap1:Nat)(zs:List Int)(a2:Option Addr)(len2 cap2:Nat)(ys:List Int)(w:World)(wt:(Lit.int .i64 tz).wf=true)(wk:(Lit.int .i64 kz).wf=true)(r1:IsRow .i64 w a1 len1 cap1 zs)(r2:IsRow .u64 w a2 len2 cap2 ys)(hN:Ta.ShW w) :
  Calls Tryz.prog 6 #[.int .i64 tz,.int .i64 kz,.slice a1 len1 cap1,.slice a2 len2 cap2] w fun e w'=>e=.returned (.bool true)/\Below w.heap.size w w':=by
 have hl1:=r1.len_le;have hl2:=r2.len_le;obtain⟨m,hm,hm7⟩:∃m:Nat,bits .and .i64 tz 7=(m:Int)/\m<=7:=⟨(tz%8).toNat,by rw[mask_i64 tz 3 7 8 (by omega) rfl rfl];omega,by omega⟩;obtain⟨k,hk,hk15⟩:∃k:Nat,bits .and .i64 kz 15=(k:Int)/\k<=15:=⟨(kz%16).toNat,by rw[mask_i64 kz 4 15 16 (by omega) rfl rfl];omega,by omega⟩;obtain⟨th,hth⟩:∃th,m+1=th:=⟨_,rfl⟩;have hwt:IntKind.i64.wrap ((m:Int)+1)=(th:Int):=by rw[IntKind.wrap_i64];omega
 have P:Calls Tryz.prog 22 #[.agg #[.int .i64 th,.int .i64 k,.int .i64 64]] w fun e w'=>∃M,e=.returned (.tuple #[pt M,.int .i64 0])/\∃L D F R,w.heap.size<=L/\Mc w' L D F (.slice none 0 0) (.slice none 0 0) M R th (newS th k 64) (List.replicate th wk0) DD.z/\Below w.heap.size w w':=newM th k 64 w (by omega) (by omega) (by omega) (by omega) (by omega);have HR:Aside (Ta.ShW w/\1<=th/\th<=8):=⟨hN,by omega,by omega⟩
 have RD1:Aside (∀(W:World)(i:Nat),Below w.heap.size w W->i<len1->∃gb off,∃z:Int,a1=some ⟨gb,off,none⟩/\gb<w.heap.size/\W.cell? ⟨gb,off+i,none⟩=some (.int .i64 z)):=by
  intro W i bW hi;obtain⟨gb,off,e,glt,gc,gw⟩:=r1.at (j:=i) hi;exact⟨gb,off,_,e,glt,by rw[<-gc];exact World.cell?_of_block (bW.block gb glt)⟩
 have RD2:Aside (∀(W:World)(i:Nat),Below w.heap.size w W->i<len2->∃gb off,∃z:Nat,a2=some ⟨gb,off,none⟩/\gb<w.heap.size/\W.cell? ⟨gb,off+i,none⟩=some (.int .u64 (z:Int))/\z<18446744073709551616):=by
  intro W i bW hi;obtain⟨gb,off,e,glt,gc,gw⟩:=r2.at (j:=i) hi;obtain⟨z,hz,hz2⟩:=isUd gw;exact⟨gb,off,z,e,glt,by rw[<-hz,<-gc];exact World.cell?_of_block (bW.block gb glt),hz2⟩
 clear wt wk r1 r2 hN hth hm7 hk15;go_enter Tryz.func6,Tryz.ntmps6
 go_wp2_with fail
 try simp only[hm,hk]
 go_wp2_with fail
 refine P.mono ?_;rintro e w1 ⟨M,rfl,L,D,F1,R,hL,M1,b1⟩;have X1:Aside (Below w.heap.size w w1/\w.heap.size<=L/\Mc w1 L D F1 (.slice none 0 0) (.slice none 0 0) M R th (newS th k 64) (List.replicate th wk0) DD.z):=⟨b1,hL,M1⟩;have P1:=coreM M1;clear P M1 b1 hL
 go_wp2_with fail
 refine P1.mono ?_;rintro e w2 ⟨rfl,rfl⟩;clear P1
 go_wp2_with fail
 go_loopg [11,12,13,14,15,16] 60 (fun kx s11 s12 s13 s14 s15 s16 wr=>∃(i:Nat),s11=.int .i64 i/\i<=60/\60-i<=kx/\∃(n:Nat)(xs:List WR)(dd:DD)(τ:CS)(Fr:Nat->Nat->Prop)(gr vr:Value),Aside (EdI M R th i n wr Fr xs dd τ)/\Aside (Mc wr L D Fr gr vr M R th τ xs dd)/\Aside (Gc L (Fm F1 M R) w2 (Fm Fr M R) wr))
 case atStart=>exact⟨0,rfl,by omega,by omega,0,_,_,_,_,_,_,⟨Nat.le_refl _,MI.new HR.out.2.1 k,fun z hz=>by simp[newS] at hz⟩,X1.out.2.2,Gc.refl _ _ _⟩
 case round=>
  obtain⟨i,rfl,hi,hkx,n,xs,dd,τ,Fr,gr,vr,E1,M2,G2⟩:=hrel;have FB:Aside (Below w.heap.size w wr):=X1.out.1.trans (G2.out.low.mono X1.out.2.1);by_cases c1:i<len2
  ·have hlt1:(i:Int)<(len2:Int):=by omega
   by_cases c2:i<60
   ·have hlt2:(i:Int)<60:=by omega
    go_upto_if 51 with fail
    go_cut [] from 38 to 165 (fun wx=>∃(n:Nat)(xs:List WR)(dd:DD)(τ:CS)(Fr:Nat->Nat->Prop)(gr vr:Value),Aside (n<=i+1/\MI th n i xs dd τ/\OpM M R τ.T [(1,0,0)] wx Fr)/\Aside (Mc wx L D Fr gr vr M R th τ xs dd)/\Aside (Gc L (Fm F1 M R) w2 (Fm Fr M R) wx))
    case first=>
     by_cases c3:i<len1
     ·have hlt3:(i:Int)<(len1:Int):=by omega
      obtain⟨gb,off,z,rfl,glt,gc⟩:=RD1.out wr i FB.out c3;obtain⟨pr,hpr,hp7⟩:∃p:Nat,bits .and .i64 z 7=(p:Int)/\p<=7:=⟨(z%8).toNat,by rw[mask_i64 z 3 7 8 (by omega) rfl rfl];omega,by omega⟩;obtain⟨t,htd⟩:∃t,i%th=t:=⟨_,rfl⟩;have htl:t<th:=by rw[<-htd];exact Nat.mod_lt _ (by have:=HR.out;omega)
      have hmt:(i:Int).tmod (th:Int)=(t:Int):=by rw[<-htd];rfl
      have hn0:¬th=0:=by have:=HR.out;omega
      have hn0':¬(th:Int)=0:=by omega
      have glt':gb<wr.heap.size:=lt_of_lt_of_le glt FB.out.size;have b0:Below wr.heap.size wr wr.drew:=(Below.refl _ _).drew;have bA:Below wr.heap.size wr (wr.alloc (.cells #[.int .i64 1,.int .i64 0,.int .i64 0] 62)).drew:=(belA wr _).drew;have gd:wr.drew.cell? ⟨gb,off+i,none⟩=some (.int .i64 z):=gc;have ga:(wr.alloc (.cells #[.int .i64 1,.int .i64 0,.int .i64 0] 62)).drew.cell? ⟨gb,off+i,none⟩=some (.int .i64 z):=(World.cell?_of_block (bA.block gb glt')).trans gc;have PC0:=asd (coreM (M2.out.below b0));have PCA:=asd (coreM (M2.out.below bA))
      have PS:Aside (Calls Tryz.prog 9 #[pt D.B,.int .i64 t,.int .i64 (pr:Int),.slice (some ⟨wr.heap.size,0,none⟩) 1 1,.slice none 0 0] (wr.alloc (.cells #[.int .i64 1,.int .i64 0,.int .i64 0] 62)).drew fun r w'=>(∃z,r=.returned (.tuple #[.int .i64 z,.int .i64 0]))/\w'.cell? ⟨gb,off+i,none⟩=some (.int .i64 z)/\∃(n:Nat)(xs:List WR)(dd:DD)(τ:CS)(Fr:Nat->Nat->Prop)(gr vr:Value),Aside (n<=i+1/\MI th n i xs dd τ/\OpM M R τ.T [(1,0,0)] w' Fr)/\Aside (Mc w' L D Fr gr vr M R th τ xs dd)/\Aside (Gc L (Fm F1 M R) w2 (Fm Fr M R) w')):=by
       obtain⟨q1,q2,q3⟩:=E1.out;have GA:=Fm.below M2.out bA
       have hfp:∀p k,Fm Fr M R p k->k<wr.heap.size:=fun p k hp=>by
        rcases hp with hp|⟨_,hp|hp⟩
        ·exact M2.out.co.fp.lt p k hp
        ·have:=lt_of_block M2.out.bm.1;omega
        ·have:=lt_of_block M2.out.br.1;omega
       have hO:OwO (wr.alloc (.cells #[.int .i64 1,.int .i64 0,.int .i64 0] 62)).drew (Fm Fr M R) (.slice (some ⟨wr.heap.size,0,none⟩) 1 1) [(1,0,0)]:=(opNew hfp).below (Below.refl _ _).drew;have bB:=FB.out.trans (bA.mono FB.out.size);refine(edSub (M2.out.below bA) q2 (by omega) (by omega) htl (OpM.gc L M R τ.T _ _ _ _ _ q3 GA) hO (HR.out.1.low bB HR.out.1.big) (lt_of_lt_of_le HR.out.1.big X1.out.2.1) pr hp7).mono ?_;rintro r w' ⟨hz,τ',F',g',v',M',G',m',I'⟩;have G4:=(G2.out.trans GA).trans G';exact⟨hz,(World.cell?_of_block (G'.low.block gb (lt_of_lt_of_le glt X1.out.2.1))).trans ga,n+1,xs,dd,τ',F',g',v',⟨by omega,m',I'⟩,M',G4⟩
      have mlt:=lt_of_block M2.out.bm.1;clear hp7 htd htl;go_upto_region 8 with fail
      go_region_held3 (fun W=>W.cell? ⟨gb,off+i,none⟩=some (.int .i64 z)) (first|with_reducible exact gd|with_reducible exact ga|with_reducible exact d1) ((first|(go_at_call 23;first|((with_reducible refine Calls.mono PC0.out ?_);rintro e w4 ⟨rfl,rfl⟩)|((with_reducible refine Calls.mono PCA.out ?_);rintro e w4 ⟨rfl,rfl⟩))|(go_at_call 9;(with_reducible refine Calls.mono PS.out ?_);rintro e w4 ⟨⟨zz,rfl⟩,d1,NX⟩)))
      all_goals go_wp2_with fail
      all_goals go_meet
      all_goals exact NX
     ·have hnl3:¬(i:Int)<(len1:Int):=by omega
      have NX:Aside (∃(n:Nat)(xs:List WR)(dd:DD)(τ:CS)(Fr:Nat->Nat->Prop)(gr vr:Value),Aside (n<=i+1/\MI th n i xs dd τ/\OpM M R τ.T [(1,0,0)] wr Fr)/\Aside (Mc wr L D Fr gr vr M R th τ xs dd)/\Aside (Gc L (Fm F1 M R) w2 (Fm Fr M R) wr)):=⟨n,xs,dd,τ,Fr,gr,vr,⟨by have:=E1.out.1;omega,E1.out.2.1,E1.out.2.2⟩,M2,G2⟩
      go_wp2_with fail
      go_meet
      exact NX.out
    case rest=>
     clear E1 M2 G2 FB;obtain⟨n',xs',dd',τ',Fc,gc',vc',H1,M3,G3⟩:=hcut;have FC:Aside (Below w.heap.size w wc):=X1.out.1.trans (G3.out.low.mono X1.out.2.1);obtain⟨gb,off,z,rfl,glt,gcell,hz⟩:=RD2.out wc i FC.out c1;obtain⟨q,hq,hq2⟩:∃q:Nat,(z:Int)/512=(q:Int)/\q<18446744073709551616:=⟨z/512,by omega,by omega⟩;have hq3:(z:Int)/2^9=(q:Int):=hq
     have PP:Aside (Calls Tryz.prog 27 #[pt M,.int .u64 (z:Int),.int .u64 (q:Int)] wc.drew fun r w'=>∃j:Nat,r=.returned (.int .i64 (j:Int))/\w'.cell? ⟨gb,off+i,none⟩=some (.int .u64 (z:Int))/\gb<w'.heap.size/\∃(xs:List WR)(d2:DD)(τ:CS)(Fr:Nat->Nat->Prop)(gr vr:Value),Mc w' L D Fr gr vr M R th τ xs d2/\Gc L (Fm F1 M R) w2 (Fm Fr M R) w'/\MI th n' (i+1) xs d2 τ/\OpM M R τ.T [(1,0,0)] w' Fr/\1<=d2.get j/\j<7):=by
      have b0:Below wc.heap.size wc wc.drew:=(Below.refl _ _).drew;have GA:=Fm.below M3.out b0;refine(edPick (M3.out.below b0) H1.out.2.1 (by have:=H1.out.1;omega) (by have:=H1.out.1;omega) (OpM.gc L M R τ'.T _ _ _ _ _ H1.out.2.2 GA) hz hq2).mono ?_;rintro r w' ⟨j,rfl,hj,xs2,τ2,F2,g2,v2,M4,G4,m4,I4,hg⟩;exact⟨j,rfl,(World.cell?_of_block (G4.low.block gb (lt_of_lt_of_le glt X1.out.2.1))).trans gcell,lt_of_lt_of_le (lt_of_lt_of_le glt FC.out.size) G4.low.size,xs2,_,τ2,F2,g2,v2,M4,(G3.out.trans GA).trans G4,m4,I4,hg,hj⟩
     have gd:wc.drew.cell? ⟨gb,off+i,none⟩=some (.int .u64 (z:Int)):=gcell;have glt':gb<wc.heap.size:=lt_of_lt_of_le glt FC.out.size;obtain⟨I1,hI1⟩:∃I1:Nat,i+1=I1:=⟨_,rfl⟩;have hwi:IntKind.i64.wrap ((i:Int)+1)=(I1:Int):=by rw[IntKind.wrap_i64];omega
     have HI:Aside (i+1=I1/\i<60/\n'<=i+1):=⟨hI1,c2,H1.out.1⟩;clear hz hq2 H1 M3 G3 hI1 c2 c1;go_upto_region 9 with fail
     go_region_held3 (fun W=>W.cell? ⟨gb,off+i,none⟩=some (.int .u64 (z:Int))) (first|with_reducible exact gd|with_reducible exact d1) ((go_at_call 27;(with_reducible refine Calls.mono PP.out ?_);rintro e w4 ⟨j,rfl,d1,d2,xs4,⟨k0,k1,k2,k3,k4,k5,k6⟩,τ4,F4,g4,v4,M4,G4,m4,I4,hg4,hj4⟩))
     have X4:Aside (Mc w4 L D F4 g4 v4 M R th τ4 xs4 ⟨k0,k1,k2,k3,k4,k5,k6⟩/\Gc L (Fm F1 M R) w2 (Fm F4 M R) w4/\MI th n' (i+1) xs4 ⟨k0,k1,k2,k3,k4,k5,k6⟩ τ4/\OpM M R τ4.T [(1,0,0)] w4 F4):=⟨M4,G4,m4,I4⟩;have P:=didM M4;clear gd d1 d2 M4 G4 m4 I4 gcell glt glt' hq hq3
     go_wp2_with fail
     refine P.mono ?_;rintro e w5 ⟨da,dc,rfl,od,b5⟩
     have OW:Ow w5 (Fm F4 M R) (.slice da 7 dc) (DD.list ⟨k0,k1,k2,k3,k4,k5,k6⟩):=⟨od.low (Nat.zero_le _),fun k hk p hp=>by
      have h1:=(od.rowLt hk).1;rcases hp with hp|⟨_,hp|hp⟩
      ·have:=X4.out.1.co.fp.lt p k hp;omega
      ·have:=lt_of_block X4.out.1.bm.1;omega
      ·have:=lt_of_block X4.out.1.br.1;omega⟩
     have GB:=Fm.below X4.out.1 b5;have X5:Aside (Mc w5 L D F4 g4 v4 M R th τ4 xs4 ⟨k0,k1,k2,k3,k4,k5,k6⟩/\Gc L (Fm F1 M R) w2 (Fm F4 M R) w5/\OpM M R τ4.T [(1,0,0)] w5 F4/\Ow w5 (Fm F4 M R) (.slice da 7 dc) (DD.list ⟨k0,k1,k2,k3,k4,k5,k6⟩)):=⟨X4.out.1.below b5,X4.out.2.1.trans GB,OpM.gc L M R τ4.T _ _ _ _ _ X4.out.2.2.2 GB,OW⟩;clear P od OW b5 GB
     go_wp2_with fail
     go_loopg [14,15] 7 (fun kx s14 s15 wq=>∃(q:Nat),s15=.int .i64 q/\q<=7/\7-q<=kx/\s14=.int .i64 (DD.part ⟨k0,k1,k2,k3,k4,k5,k6⟩ q)/\wq=w5)
     case atStart=>exact⟨0,rfl,by omega,by omega,rfl,rfl⟩
     case round=>
      obtain⟨qq,rfl,hqq,hkq,rfl,rfl⟩:=hrel
      have SM:Aside (DD.sum ⟨k0,k1,k2,k3,k4,k5,k6⟩=(I1:Int)/\DD.few ⟨k0,k1,k2,k3,k4,k5,k6⟩ 100):=⟨by rw[X4.out.2.2.1.sm];have:=HI.out.1;push_cast;omega,by
       obtain⟨f0,f1,f2,f3,f4,f5,f6,f7⟩:=X4.out.2.2.1.fw;exact⟨f0,f1,f2,f3,f4,f5,f6,by have:=HI.out.2.1;push_cast at f7;omega⟩⟩
      by_cases c4:qq<7
      ·have hlt4:(qq:Int)<7:=by omega
       obtain⟨dg,doff,rfl,dlt,dcell⟩:=X5.out.2.2.2.at (I:=qq) rfl c4;have dval:=DD.list_at ⟨k0,k1,k2,k3,k4,k5,k6⟩ c4
       have dc0:wr.cell? ⟨dg,doff+qq,none⟩=some (.int .i64 (DD.get ⟨k0,k1,k2,k3,k4,k5,k6⟩ qq)):=by
        rw[show DD.get ⟨k0,k1,k2,k3,k4,k5,k6⟩ qq=(DD.list ⟨k0,k1,k2,k3,k4,k5,k6⟩).getD qq 0 by rw[List.getD,dval];rfl];exact dcell
       have hup:=DD.part_up ⟨k0,k1,k2,k3,k4,k5,k6⟩ c4
       have hpb:0<=DD.part ⟨k0,k1,k2,k3,k4,k5,k6⟩ (qq+1)/\DD.part ⟨k0,k1,k2,k3,k4,k5,k6⟩ (qq+1)<=100:=by
        obtain⟨f0,f1,f2,f3,f4,f5,f6,f7⟩:=SM.out.2;have:=DD.part_le ⟨k0,k1,k2,k3,k4,k5,k6⟩ (k:=qq+1) ⟨f0,f1,f2,f3,f4,f5,f6⟩;omega
       obtain⟨V0,hV0⟩:∃V,DD.part ⟨k0,k1,k2,k3,k4,k5,k6⟩ qq=V:=⟨_,rfl⟩;obtain⟨V1,hV1⟩:∃V,DD.get ⟨k0,k1,k2,k3,k4,k5,k6⟩ qq=V:=⟨_,rfl⟩;obtain⟨V2,hV2⟩:∃V,DD.part ⟨k0,k1,k2,k3,k4,k5,k6⟩ (qq+1)=V:=⟨_,rfl⟩;rw[hV0,hV1,hV2] at hup;rw[hV2] at hpb;rw[hV1] at dc0;rw[hV0];have hsum:IntKind.i64.wrap (V0+V1)=V2:=by rw[IntKind.wrap_i64];omega
       have hwq:IntKind.i64.wrap ((qq:Int)+1)=((qq+1:Nat):Int):=by rw[IntKind.wrap_i64];omega
       have HV2:Aside _:=hV2;have HQ:Aside (qq<7):=c4;clear hV0 hV1 hV2 hup hpb dval dcell c4
       go_wp2_with fail
       go_roundg (7-(qq+1))
       case measure=>have:=HQ.out;omega
       case rel=>exact⟨qq+1,by go_num,HQ.out,Nat.le_refl _,by rw[HV2.out],rfl⟩
      ·have hnl4:¬(qq:Int)<7:=by omega
       obtain rfl:qq=7:=by omega
       rw[show DD.part ⟨k0,k1,k2,k3,k4,k5,k6⟩ 7=(I1:Int) from SM.out.1];obtain⟨dg,doff,rfl,dlt,_⟩:=X5.out.2.2.2.at (I:=0) rfl (by omega);have P1:=coreM X5.out.1;obtain⟨T3,hT3⟩:∃T3,τ4.tk=T3:=⟨_,rfl⟩
       have P2:Calls Tryz.prog 11 #[pt D.B] wr fun e w'=>∃(u1:Nat)(cl:Bool)(FR:Int)(K:Nat)(s1:Option Addr)(n1 c1:Nat)(s2:Option Addr)(n2 c2:Nat)(s3:Option Addr)(n3 c3:Nat)(s4:Option Addr)(n4 c4 len:Nat),e=.returned (.agg #[.int .u64 u1,.int .u64 T3,.bool cl,.int .i64 FR,.slice (some ⟨K,0,none⟩) len len,.slice s1 n1 c1,.slice s2 n2 c2,.slice s3 n3 c3,.slice s4 n4 c4])/\∃F' g' v',Co w' L D F' g' v' τ4/\Gc L F4 wr F' w':=by
        refine(stateC X5.out.1.co (by have:=X4.out.2.2.1.al.qn;have:=HI.out;omega)).mono ?_;rintro e w' ⟨K,cs,s1,n1,c1,s2,n2,c2,s3,n3,c3,s4,c4,F',g',v',rfl,C',G',_,_⟩;exact⟨τ4.now,τ4.cl,(τ4.n:Int)-τ4.o,K,s1,n1,c1,s2,n2,c2,s3,n3,c3,s4,τ4.tm.length,c4,τ4.T.length,by rw[hT3],F',g',v',C',G'⟩
       have HT3:Aside (τ4.tk=T3):=hT3;clear hT3 hqq hkq
       go_wp2_with fail
       refine Calls.mono P1 ?_;rintro e w6 ⟨rfl,rfl⟩;clear P1
       go_wp2_with fail
       refine Calls.mono P2 ?_;rintro e w7 ⟨u1,cl,FR,K,s1,n1,c1',s2,n2,c2',s3,n3,c3',s4,n4,c4',len,rfl,F6,g6,v6,C6,G6⟩;clear P2;obtain⟨Y,hY⟩:∃Y,w7.heap.size=Y:=⟨_,rfl⟩;obtain⟨u,hu⟩:∃z,w7.alloc (.cells #[.int .u64 u1,.int .u64 T3,.bool cl,.int .i64 FR,.slice (some ⟨K,0,none⟩) len len,.slice s1 n1 c1',.slice s2 n2 c2',.slice s3 n3 c3',.slice s4 n4 c4'] 41)=z:=⟨_,rfl⟩;have bu:Below w7.heap.size w7 u:=by rw[<-hu];exact belA _ _
       have hd:u.heap[Y]?=some (.cells #[.int .u64 u1,.int .u64 T3,.bool cl,.int .i64 FR,.slice (some ⟨K,0,none⟩) len len,.slice s1 n1 c1',.slice s2 n2 c2',.slice s3 n3 c3',.slice s4 n4 c4'] 41 (0,0)):=by rw[<-hu,<-hY];exact heap_alloc_new w7 _
       have y1:u.cell? ⟨Y,1,none⟩=some (.int .u64 T3):=cell_of_row _ _ _ _ _ _ hd;have GM:=Fm.gc G6 M R;have M6:=(X5.out.1.turn C6 G6).below bu;have GU:Gc L (Fm F4 M R) _ (Fm F6 M R) u:=GM.trans (Fm.below (X5.out.1.turn C6 G6) bu);have OWu:=(X5.out.2.2.2.gc GM).below bu
       have cc:∀q,q<7->u.cell? ⟨dg,doff+q,none⟩=some (.int .i64 (DD.get ⟨k0,k1,k2,k3,k4,k5,k6⟩ q)):=fun q hq=>by
        obtain⟨g',o',e',_,dcell⟩:=OWu.at (I:=q) rfl hq;injection e' with e'
        injection e' with e1 e2
        subst e1 e2;rw[show DD.get ⟨k0,k1,k2,k3,k4,k5,k6⟩ q=(DD.list ⟨k0,k1,k2,k3,k4,k5,k6⟩).getD q 0 by rw[List.getD,DD.list_at _ hq];rfl];exact dcell
       have dgl:=World.block_lt_of_cell? _ _ (cc 0 (by omega));have NX:Aside (Mc u L D F6 g6 v6 M R th τ4 xs4 ⟨k0,k1,k2,k3,k4,k5,k6⟩/\Gc L (Fm F1 M R) w2 (Fm F6 M R) u/\EdI M R th (i+1) n' u F6 xs4 ⟨k0,k1,k2,k3,k4,k5,k6⟩ τ4):=⟨M6,X5.out.2.1.trans GU,HI.out.2.2,X4.out.2.2.1,OpM.gc L M R τ4.T _ _ _ _ _ X5.out.2.2.1 GU⟩;have PK:=picksM NX.out.1 (by obtain⟨f0,f1,f2,f3,f4,f5,f6,f7⟩:=SM.out.2;exact⟨f0,f1,f2,f3,f4,f5,f6,by omega⟩);rw[SM.out.1] at PK;have q3:k3=(T3:Int):=by rw[<-HT3.out];exact X4.out.2.2.1.tk
       have q2:k2=k3+k4+(xs4.countP wLk:Nat):=X4.out.2.2.1.c2;have q5:k3=k5+(xs4.countP wC0:Nat):=X4.out.2.2.1.c3;have q6:k5=k6+(xs4.countP wC1:Nat):=X4.out.2.2.1.c5;have c22:u.cell? ⟨dg,doff+2,none⟩=some (.int .i64 k2):=cc 2 (by omega);have c33:u.cell? ⟨dg,doff+3,none⟩=some (.int .i64 (T3:Int)):=by rw[<-q3];exact cc 3 (by omega)
       have c44:u.cell? ⟨dg,doff+4,none⟩=some (.int .i64 k4):=cc 4 (by omega);have c55:u.cell? ⟨dg,doff+5,none⟩=some (.int .i64 k5):=cc 5 (by omega);have c66:u.cell? ⟨dg,doff+6,none⟩=some (.int .i64 k6):=cc 6 (by omega);have cj:=cc j hj4;obtain⟨GJ,hGJ⟩:∃G,DD.get ⟨k0,k1,k2,k3,k4,k5,k6⟩ j=G:=⟨_,rfl⟩;rw[hGJ] at cj hg4;have tj0:¬(j:Int)<0:=by omega
       have tj6:¬(6:Int)<(j:Int):=by omega
       have tj7:(j:Int)<7:=by omega
       have tg:¬GJ<1:=by omega
       have t56:¬k5<k6:=by omega
       have t35:¬(T3:Int)<k5:=by omega
       obtain⟨V34,hV⟩:∃V,(T3:Int)+k4=V:=⟨_,rfl⟩
       have hw34:IntKind.i64.wrap ((T3:Int)+k4)=V34:=by
        obtain⟨f0,f1,f2,f3,f4,f5,f6,f7⟩:=SM.out.2;unfold DD.sum at f7;dsimp only at f0 f1 f2 f3 f4 f5 f6 f7;rw[IntKind.wrap_i64];omega
       have hwT:IntKind.u64.wrap (T3:Int)=(T3:Int):=by
        obtain⟨f0,f1,f2,f3,f4,f5,f6,f7⟩:=SM.out.2;unfold DD.sum at f7;dsimp only at f0 f1 f2 f3 f4 f5 f6 f7;rw[IntKind.wrap_u64];omega
       have t234:¬k2<V34:=by omega
       have HJ:Aside (j<7):=hj4;have HU:Aside _:=hu;have HY:Aside _:=hY;clear q2 q3 q5 q6 hGJ hV C6 G6 GM M6 GU OWu cc hd bu hu hY hj4 hg4;go_upto_region 17 with fail
       rw[HU.out,HY.out];have BN:∀q,Below u.heap.size u (u.drewN q):=fun q=>⟨rfl,rfl,rfl,Nat.le_refl _,fun _ _=>rfl⟩
       have PKd:∀q,Calls Tryz.prog 28 #[pt M] (u.drewN q) fun e w'=>e=.returned (.int .i64 (I1:Int))/\w'=u.drewN q:=fun q=>by
        have:=picksM (NX.out.1.below (BN q)) (by obtain⟨f0,f1,f2,f3,f4,f5,f6,f7⟩:=SM.out.2;exact⟨f0,f1,f2,f3,f4,f5,f6,by omega⟩);rw[SM.out.1] at this;exact this
       have NQ:Aside (∀q,Mc (u.drewN q) L D F6 g6 v6 M R th τ4 xs4 ⟨k0,k1,k2,k3,k4,k5,k6⟩/\Gc L (Fm F1 M R) w2 (Fm F6 M R) (u.drewN q)/\EdI M R th (i+1) n' (u.drewN q) F6 xs4 ⟨k0,k1,k2,k3,k4,k5,k6⟩ τ4):=fun q=>
        ⟨NX.out.1.below (BN q),NX.out.2.1.trans (Fm.below NX.out.1 (BN q)),NX.out.2.2.1,NX.out.2.2.2.1,OpM.gc L M R τ4.T _ _ _ _ _ NX.out.2.2.2.2 (Fm.below NX.out.1 (BN q))⟩
       clear PK BN;go_quiet ((go_at_call 28;exact Calls.quiet_of_same (PKd _)))
       go_wp2_with fail
       go_roundg (60-(i+1))
       case measure=>have:=HI.out;omega
       case rel=>exact⟨i+1,congrArg (Value.int .i64) (by have:=HI.out.1;omega),HI.out.2.1,Nat.le_refl _,n',xs4,_,τ4,F6,g6,v6,(NQ.out _).2.2,(NQ.out _).1,(NQ.out _).2.1⟩
   ·have hnl2:¬(i:Int)<60:=by omega
    have P:=awake20C wr;clear E1 M2 G2
    go_wp2_with fail
    refine P.mono ?_;rintro e w9 ⟨rfl,b9⟩;have FIN:Aside (Below w.heap.size w w9):=FB.out.trans (b9.mono FB.out.size);clear b9
    go_wp2_with fail
    go_ret;exact⟨rfl,FIN.out⟩
  ·have hnl1:¬(i:Int)<(len2:Int):=by omega
   have P:=awake20C wr;clear E1 M2 G2
   go_wp2_with fail
   refine P.mono ?_;rintro e w9 ⟨rfl,b9⟩;have FIN:Aside (Below w.heap.size w w9):=FB.out.trans (b9.mono FB.out.size);clear b9
   go_wp2_with fail
   go_ret;exact⟨rfl,FIN.out⟩
end Go.Proofs.YthpgfmmpjoodkaaGreatDoor
