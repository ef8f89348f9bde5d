import Derived.Test.YthpgfmmpjoodkaaGreatDoorWkH
open List(append_nil flatten_cons flatten_nil length_append)
namespace Go.Proofs.YthpgfmmpjoodkaaGreatDoor
set_option maxHeartbeats 8000000
set_option maxRecDepth 100000
set_option linter.unusedVariables false
open Go.RowKit Go.Lib Go.WideMaps Go.Maps
section
variable {w w' w'' u:World}{L i n M R:Nat}{D:CAd}{F F' F'':Nat->Nat->Prop}{g v:Value}{σ σ':CS}{xs:List WR}{d:DD}
def qall(σ:CS):Nat:=((Qu.slAll σ.q.g σ.th)++((locL σ).flatten++Qu.sortE σ.q.hs.flatten)).length
def quietB(xs:List WR)(σ:CS):Bool:=(xs.all fun x=>x.ph==0)&&(qall σ==0)
theorem ll3{w:World}{X n1 c1 n2 c2 n3 c3:Nat}{a1 a2 a3:Option Addr}{d1 d2 d3:List Qu.Ent}(hX:w.heap[X]?=some (.cells #[.slice a1 n1 c1,.slice a2 n2 c2,.slice a3 n3 c3] 33 (0,0)))(h1:d1.length=n1/\Qu.IsL w a1 c1 d1)(h2:d2.length=n2/\Qu.IsL w a2 c2 d2)(h3:d3.length=n3/\Qu.IsL w a3 c3 d3):Qu.IsLL w (some ⟨X,0,none⟩) [d1,d2,d3]:=by
  refine⟨by simp,fun i d hd=>?_⟩;have hi:=(List.getElem?_eq_some_iff.1 hd).1;have q:∀j,w.cell? ⟨X,0+j,none⟩=(#[.slice a1 n1 c1,.slice a2 n2 c2,.slice a3 n3 c3]:Array Value)[j]?:=fun j=>by rw[Nat.zero_add];exact cell_of_row _ _ _ _ _ _ hX
  have:i=0\/i=1\/i=2:=by simp at hi;omega
  rcases this with rfl|rfl|rfl
  · simp at hd;subst hd;exact⟨X,0,a1,c1,rfl,lt_of_block hX,by rw[q,h1.1];rfl,h1.2⟩
  · simp at hd;subst hd;exact⟨X,0,a2,c2,rfl,lt_of_block hX,by rw[q,h2.1];rfl,h2.2⟩
  · simp at hd;subst hd;exact⟨X,0,a3,c3,rfl,lt_of_block hX,by rw[q,h3.1];rfl,h3.2⟩
theorem anyQM(h:Mc w L D F g v M R n σ xs d)(hq:σ.qn<=1000)(hB:qall σ<=1000000):Calls Tryz.prog 125 #[pt M] w fun e w'=>e=.returned (.bool (decide (0<qall σ)))/\Mx L D F M R n w σ xs d w':=by
  have c0:=h.c0;have mlt:=lt_of_block h.bm.1;have P:=stateQ h.co hq;obtain⟨nQ,hnQ⟩:∃nQ,qall σ=nQ:=⟨_,rfl⟩;obtain⟨nF,hnF⟩:∃nF,(locL σ).flatten.length=nF:=⟨_,rfl⟩;have HH:Aside (Mc w L D F g v M R n σ xs d/\qall σ=nQ/\(locL σ).flatten.length=nF/\nQ<=1000000):=⟨h,hnQ,hnF,by rw[<-hnQ];exact hB⟩;have h8:=h.co.th8;have hT:Aside (σ.th<=8):=h8;rw[hnQ];clear h hq hnQ hnF hB h8;go_enter Tryz.func125,Tryz.ntmps125
  go_wp2_with fail
  refine P.mono ?_;rintro e w1 ⟨K,cs,s1,n1,c1,K2,s3,n3,c3,s4,c4,F1,g1,v1,rfl,C1,G1,BT,fil,o1,o2,o3⟩;clear P c0 mlt BT fil;obtain⟨S0,hS0⟩:∃J,w1.heap.size=J:=⟨_,rfl⟩;obtain⟨nH,hnH⟩:∃J,σ.th=J:=⟨_,rfl⟩;obtain⟨fr,hfr⟩:∃J,(σ.n:Int)-σ.o=J:=⟨_,rfl⟩;obtain⟨nT,hnT⟩:∃J,σ.T.length=J:=⟨_,rfl⟩;obtain⟨nM,hnM⟩:∃J,σ.tm.length=J:=⟨_,rfl⟩;rw[hnH,hfr,hnT,hnM];obtain⟨u,hu⟩:∃q,w1.alloc (.cells #[.int .u64 σ.now,.int .u64 σ.tk,.bool σ.cl,.int .i64 fr,.slice (some ⟨K,0,none⟩) nT nT,.slice s1 n1 c1,.slice (some ⟨K2,0,none⟩) nH nH,.slice s3 n3 c3,.slice s4 nM c4] 41)=q:=⟨_,rfl⟩;have b1:Below w1.heap.size w1 u:=by rw[<-hu];exact belA _ _
  have hb:u.heap[S0]?=some (.cells #[.int .u64 σ.now,.int .u64 σ.tk,.bool σ.cl,.int .i64 fr,.slice (some ⟨K,0,none⟩) nT nT,.slice s1 n1 c1,.slice (some ⟨K2,0,none⟩) nH nH,.slice s3 n3 c3,.slice s4 nM c4] 41 (0,0)):=by rw[<-hu,<-hS0];exact heap_alloc_new w1 _
  have MX:Aside (Mx L D F M R n w σ xs d u):=(HH.out.1.cox ⟨F1,g1,v1,C1,G1⟩).then fun F' g' v' h'=>h'.xb b1
  have KP:Aside (∀W:World,Below u.heap.size u W->W.cell? ⟨S0,5,none⟩=some (.slice s1 n1 c1)/\W.cell? ⟨S0,6,none⟩=some (.slice (some ⟨K2,0,none⟩) nH nH)/\W.cell? ⟨S0,7,none⟩=some (.slice s3 n3 c3)):=fun W b=>by
    have:=(b.block S0 (lt_of_block hb)).trans hb;exact⟨by rw[cell_of_row _ _ _ _ _ _ this];rfl,by rw[cell_of_row _ _ _ _ _ _ this];rfl,by rw[cell_of_row _ _ _ _ _ _ this];rfl⟩
  have hle:nF<=nQ:=by
    rw[<-HH.out.2.1,<-HH.out.2.2.1];unfold qall;simp only[length_append];omega
  have hsum:n1+(nF+n3)=nQ:=by
    rw[<-HH.out.2.1,<-HH.out.2.2.1];unfold qall;simp only[length_append];rw[<-o1.1,<-o3.1]
  have PA:Aside (∀W,Below u.heap.size u W->Calls Tryz.prog 184 #[.slice (some ⟨K2,0,none⟩) nH nH] W fun e w'=>∃a cap,e=.returned (.slice a nF cap)/\Qu.IsL w' a cap (locL σ).flatten/\Below W.heap.size W w'):=fun W b=>by
    have:=Qu.concat_any (some ⟨K2,0,none⟩) nH (locL σ) W (((o2.below b1).below b).is (by rw[locL_len];exact hT.out)) (by rw[HH.out.2.2.1];have:=HH.out.2.2.2;omega);rw[locL_len,hnH] at this;refine this.mono ?_;rintro e w' ⟨a,cap,rfl,o,b'⟩;exact⟨a,cap,by rw[HH.out.2.2.1],o.is,b'⟩
  have O1:Aside (∀W,Below u.heap.size u W->(Qu.slAll σ.q.g σ.th).length=n1/\Qu.IsL W s1 c1 (Qu.slAll σ.q.g σ.th)):=fun W b=>⟨o1.1,((o1.below b1).below b).is⟩;have O3:Aside (∀W,Below u.heap.size u W->(Qu.sortE σ.q.hs.flatten).length=n3/\Qu.IsL W s3 c3 (Qu.sortE σ.q.hs.flatten)):=fun W b=>⟨o3.1,((o3.below b1).below b).is⟩;have HS:Aside (n1+(nF+n3)=nQ/\nF<=nQ):=⟨hsum,hle⟩
  have PB:Aside (∀(W:World)(a:Option Addr)(cap:Nat),Below u.heap.size u W->Qu.IsL W a cap (locL σ).flatten->Calls Tryz.prog 184 #[.slice (some ⟨W.heap.size,0,none⟩) 3 3] (W.alloc (.cells #[.slice s1 n1 c1,.slice a nF cap,.slice s3 n3 c3] 33)) fun e w'=>∃a cap,e=.returned (.slice a nQ cap)/\Below u.heap.size u w'):=fun W a cap b hL=>by
    have bA:=belA W (.cells #[.slice s1 n1 c1,.slice a nF cap,.slice s3 n3 c3] 33);have bb:Below u.heap.size u (W.alloc (.cells #[.slice s1 n1 c1,.slice a nF cap,.slice s3 n3 c3] 33)):=belT b bA
    have:=Qu.concat_any (some ⟨W.heap.size,0,none⟩) 3 [Qu.slAll σ.q.g σ.th,(locL σ).flatten,Qu.sortE σ.q.hs.flatten] _ (ll3 (heap_alloc_new W _) (O1.out _ bb) ⟨HH.out.2.2.1,hL.below bA⟩ (O3.out _ bb)) (by
      simp only[flatten_cons,flatten_nil,append_nil,length_append];rw[(O1.out _ bb).1,(O3.out _ bb).1,HH.out.2.2.1];have:=HS.out.1;have:=HH.out.2.2.2;omega)
    refine this.mono ?_;rintro e w' ⟨a',cap',rfl,o,b'⟩;refine⟨a',cap',?_,belT bb b'⟩;congr 2;simp only[flatten_cons,flatten_nil,append_nil,length_append];rw[(O1.out _ bb).1,(O3.out _ bb).1,HH.out.2.2.1];exact HS.out.1
  obtain⟨m5,m6,m7⟩:=KP.out u (Below.refl _ _);have e5:u.drew.cell? ⟨S0,5,none⟩=some (.slice s1 n1 c1):=m5;have e6:u.drew.cell? ⟨S0,6,none⟩=some (.slice (some ⟨K2,0,none⟩) nH nH):=m6;have e7:u.drew.cell? ⟨S0,7,none⟩=some (.slice s3 n3 c3):=m7;have HU:Aside _:=hu;have HS0:Aside _:=hS0;clear hu hS0 hnH hfr hnT hnM C1 G1 o1 o2 o3 b1 hb hle hsum m5 m6 m7;go_upto_region 2 with fail
  rw[HU.out];try simp only[HS0.out]
  go_region_held3 (fun W=>W.cell? ⟨S0,5,none⟩=some (.slice s1 n1 c1)/\W.cell? ⟨S0,6,none⟩=some (.slice (some ⟨K2,0,none⟩) nH nH)/\W.cell? ⟨S0,7,none⟩=some (.slice s3 n3 c3)) (first|with_reducible exact⟨e5,e6,e7⟩|with_reducible exact⟨f5,f6,f7⟩|exact KP.out _ (belT hb2 (belA _ _))|with_reducible exact⟨g5,g6,g7⟩)
    ((first
      | (go_at_call 184;(with_reducible refine Calls.mono (PB.out w2 a2 cap2 hb2 hl2) ?_);rintro e w3 ⟨a3,cap3,rfl,hb3⟩;obtain⟨g5,g6,g7⟩:=KP.out w3 hb3)
      | (go_at_call 184;(with_reducible refine Calls.mono (PA.out u.drew (Below.refl _ _).drew) ?_);rintro e w2 ⟨a2,cap2,rfl,hl2,b2⟩;have hb2:Below u.heap.size u w2:=⟨b2.os,b2.tape,b2.output,b2.size,b2.block⟩;obtain⟨f5,f6,f7⟩:=KP.out w2 hb2)))
  have FIN:Aside (Mx L D F M R n w σ xs d w3):=MX.out.then fun F' g' v' h'=>h'.xb hb3;clear e5 e6 e7 f5 f6 f7 g5 g6 g7 hl2 hb2 b2 hb3
  go_wp2_with fail
  go_ret;exact⟨by first|rfl|simp,FIN.out⟩
theorem quietM(h:Mc w L D F g v M R n σ xs d)(hq:σ.qn<=1000)(hB:qall σ<=1000000):Calls Tryz.prog 74 #[pt M] w fun e w'=>e=.returned (.bool (quietB xs σ))/\Mx L D F M R n w σ xs d w':=by
  have P:=allIdleM h;have HH:Aside (Mc w L D F g v M R n σ xs d/\σ.qn<=1000/\qall σ<=1000000):=⟨h,hq,hB⟩;unfold quietB;obtain⟨A,hA⟩:∃A,(xs.all fun x=>x.ph==0)=A:=⟨_,rfl⟩;obtain⟨Q,hQ⟩:∃Q,decide (0<qall σ)=Q:=⟨_,rfl⟩
  have hQ':(qall σ==0)=!Q:=by
    rw[<-hQ];by_cases c:qall σ=0
    · rw[c];rfl
    · have:0<qall σ:=by omega
      simp[c,this]
  rw[hA] at P⊢;rw[hQ'];have HQ:Aside (decide (0<qall σ)=Q):=hQ;clear h hq hB hA hQ hQ';go_enter Tryz.func74,Tryz.ntmps74
  cases A with
  | false=>
    go_wp2_with fail
    refine P.mono ?_;rintro e w1 ⟨rfl,b1⟩;have FIN:Aside (Mx L D F M R n w σ xs d w1):=HH.out.1.xb b1;clear P b1
    go_wp2_with fail
    go_ret;exact⟨rfl,FIN.out⟩
  | true=>
    go_wp2_with fail
    refine P.mono ?_;rintro e w1 ⟨rfl,b1⟩;have P2:=anyQM (HH.out.1.below b1) HH.out.2.1 HH.out.2.2;rw[HQ.out] at P2;have X1:Aside (Below w.heap.size w w1):=b1;clear P b1
    go_wp2_with fail
    refine P2.mono ?_;rintro e w2 ⟨rfl,X⟩
    have FIN:Aside (Mx L D F M R n w σ xs d w2):=by
      obtain⟨F2,g2,v2,h2,G2⟩:=X;exact⟨F2,g2,v2,h2,(Fm.below HH.out.1 X1.out).trans G2⟩
    clear P2 X
    go_wp2_with fail
    go_ret;exact⟨rfl,FIN.out⟩
end
section
variable {w w' w'' u:World}{L i n M R:Nat}{D:CAd}{F F' F'':Nat->Nat->Prop}{g v:Value}{σ σ':CS}{xs:List WR}{d:DD}
theorem Co.qall_le(C:Co w L D F g v σ)(hn:σ.qn<=1000):qall σ<=1000000:=by
  have h8:=C.th8;have k16:=C.k16
  have h1:(locL σ).flatten.length<=σ.th*16:=by
    have:∀m,m<=σ.th->((List.range m).map fun t=>Qu.sortE (σ.q.ls t).flatten).flatten.length<=m*16:=by
      intro m
      induction m with
      | zero=>intro _;simp
      | succ m ih=>
        intro hm;have:=ih (by omega);have h2:=C.qok.len m (by omega);rw[List.range_succ,List.map_append,List.flatten_append,length_append];simp only[List.map_cons,List.map_nil,flatten_cons,flatten_nil,append_nil];rw[Qu.sortE_len];omega
    exact this σ.th (Nat.le_refl _)
  have h2:=C.qok.hsum;have h3:=Qu.slAll_len σ.q.g σ.th;unfold qall;simp only[length_append];rw[Qu.sortE_len];omega
theorem mq_intT:¬Qu.MQ 3:=mq_int
def StepsTo(L:Nat)(D:CAd)(σ:CS)(x:WR)(t dr:Nat)(Z:WR->Nat->CS->Prop):Prop:=∀w1 F1 g1 v1,Co w1 L D F1 g1 v1 σ->Calls Tryz.prog 32 #[pt D.B,wkV x,.int .i64 t,.int .u64 dr] w1 fun e w'=>∃(y0 y1 y2 y3:Int)(y4:Bool)(j:Nat),e=.returned (.tuple #[wkV ⟨y0,y1,y2,y3,y4⟩,.int .i64 j])/\j<7/\∃σ',Z ⟨y0,y1,y2,y3,y4⟩ j σ'/\Cox L D F1 w1 σ' w'
def StepsIf(I:World->(Nat->Nat->Prop)->Prop)(L:Nat)(D:CAd)(σ:CS)(x:WR)(t dr:Nat)(Z:WR->Nat->CS->Prop):Prop:=∀w1 F1 g1 v1,Co w1 L D F1 g1 v1 σ->I w1 F1->Calls Tryz.prog 32 #[pt D.B,wkV x,.int .i64 t,.int .u64 dr] w1 fun e w'=>∃(y0 y1 y2 y3:Int)(y4:Bool)(j:Nat),e=.returned (.tuple #[wkV ⟨y0,y1,y2,y3,y4⟩,.int .i64 j])/\j<7/\∃σ',Z ⟨y0,y1,y2,y3,y4⟩ j σ'/\Cox L D F1 w1 σ' w'
def RowJ(cs:Array Value)(js:List Nat):Prop:=∀(i j:Nat),js[i]?=some j->cs[i]?=some (Value.int .i64 (j:Int))
theorem RowJ.push{cs:Array Value}{js:List Nat}(h:RowJ cs js)(hl:js.length<cs.size)(j:Nat):RowJ (cs.setIfInBounds js.length (.int .i64 (j:Nat))) (js++[j]):=fun i y hy=>by
  by_cases e:i=js.length
  · subst e
    rw[List.getElem?_append_right (Nat.le_refl _),Nat.sub_self] at hy;simp at hy;subst hy;rw[Array.getElem?_setIfInBounds_self_of_lt hl]
  · have hi:=(List.getElem?_eq_some_iff.1 hy).1
    rw[length_append,List.length_singleton] at hi;rw[List.getElem?_append_left (by omega)] at hy;rw[Array.getElem?_setIfInBounds_ne (fun h=>e h.symm)];exact h i y hy
theorem makeI(w:World)(n:Nat)(hn:n<=8):∃cs:Array Value,(Instr.makeSlice 22 (.int .i64 (n:Int)) (.int .i64 (n:Int))).run Tryz.prog w=.ok (.slice (some ⟨w.heap.size,0,none⟩) n n) (w.alloc (.cells cs 3))/\cs.size=n:=by
  have h:(Tryz.prog.info? 3).map (fun i=>(i.zero,i.size,i.bytes))=some (some (.int .i64 0),1,8):=by kernel_rfl
  obtain⟨i,hi,h2⟩:=Option.map_eq_some_iff.1 h;simp at h2;have hm:=run_make (P:=Tryz.prog) w 22 3 i _ Tryz.underlying22 hi h2.1 .i64 .i64 n n (by omega) (Int.le_refl _) (by rw[h2.2.2];omega) (by omega);simp only[Int.toNat_natCast,h2.2.1] at hm;exact⟨_,hm,by simp[madeCells]⟩
def RoundIs(L:Nat)(D:CAd)(F:Nat->Nat->Prop)(M R n:Nat)(J:List Nat->List WR->DD->CS->Prop)(A:Nat)(w w':World):Prop:=∃(cs:Array Value)(js:List Nat)(ys:List WR)(dd:DD)(τ:CS)(F':Nat->Nat->Prop)(g' v':Value),js.length=n/\RowJ cs js/\J js ys dd τ/\Mc w' L D F' g' v' M R n τ ys dd/\Gc L (Fm F M R) w (Fm F' M R) w'/\Bx w' (Fm F' M R) A cs 3/\cs.size=n
theorem roundB(h:Mc w L D F g v M R n σ xs d){dr:Nat}(I:World->(Nat->Nat->Prop)->Prop)(hI:∀w F w' F',I w F->Gc L (Fm F M R) w (Fm F' M R) w'->I w' F')(i0:I w F)(J:List Nat->List WR->DD->CS->Prop)(h0:J [] xs d σ)
    (hst:∀js ys e τ x,js.length<n->J js ys e τ->ys[js.length]?=some x->e.few 1000000/\StepsIf I L D τ x js.length dr fun y j τ'=>J (js++[j]) (ys.set js.length y) (e.inc j) τ') :
    Calls Tryz.prog 75 #[pt M,.int .u64 dr] w fun e w'=>∃A,e=.returned (.slice (some ⟨A,0,none⟩) n n)/\RoundIs L D F M R n J A w w':=by
  have n1:=h.n1;have n8:=h.n8;have c1:=h.c1;have mlt:=lt_of_block h.bm.1;obtain⟨A,hA⟩:∃A,w.heap.size=A:=⟨_,rfl⟩;obtain⟨cs0,hmk,hcs⟩:=makeI w n n8;obtain⟨u,hu⟩:∃z,w.alloc (.cells cs0 3)=z:=⟨_,rfl⟩;rw[hA,hu] at hmk;have b0:Below w.heap.size w u:=by rw[<-hu];exact belA _ _
  have BA:Bx u (Fm F M R) A cs0 3:=by rw[<-hu,<-hA];exact Bx.newM h _ _
  have ST:Aside (Mc u L D F g v M R n σ xs d/\Gc L (Fm F M R) w (Fm F M R) u/\Bx u (Fm F M R) A cs0 3/\cs0.size=n/\J [] xs d σ):=⟨h.below b0,Fm.below h b0,BA,hcs,h0⟩;have HS:Aside _:=hst;have HI:Aside ((∀w F w' F',I w F->Gc L (Fm F M R) w (Fm F' M R) w'->I w' F')/\I w F):=⟨hI,i0⟩;have HW:Aside (w.heap.size=A/\L<=w.heap.size):=⟨hA,h.co.lw⟩;clear h hu b0 BA hcs h0 hst hI i0;go_enter Tryz.func75,Tryz.ntmps75
  go_wp2_with fail
  go_loopg [6,15] n (fun kx s6 s15 wr=>∃(k:Nat),s15=.int .i64 k/\k<=n/\n-k<=kx/\∃(js:List Nat)(ys:List WR)(dd:DD)(τ:CS)(Fr:Nat->Nat->Prop)(gr vr:Value)(cs:Array Value),Aside (js.length=k/\J js ys dd τ/\RowJ cs js/\cs.size=n)/\Aside (Mc wr L D Fr gr vr M R n τ ys dd)/\Aside (Gc L (Fm F M R) w (Fm Fr M R) wr)/\Aside (Bx wr (Fm Fr M R) A cs 3))
  case atStart=>exact⟨0,rfl,by omega,by omega,[],xs,d,σ,F,g,v,cs0,⟨rfl,ST.out.2.2.2.2,fun i j hj=>by simp at hj,ST.out.2.2.2.1⟩,ST.out.1,ST.out.2.1,ST.out.2.2.1⟩
  case round=>
    obtain⟨k,rfl,hk,hkx,js,ys,dd,τ,Fr,gr,vr,cs,H1,H2,H3,H4⟩:=hrel;by_cases c:k<n
    · have hlt:(k:Int)<(n:Int):=by omega
      have wk:IntKind.u64.wrap (k:Int)=(k:Int):=by rw[IntKind.wrap_u64];omega
      have P:Calls Tryz.prog 27 #[pt M,.int .u64 k,.int .u64 dr] wr fun e w'=>∃j y τ',e=.returned (.int .i64 (j:Nat))/\j<7/\J (js++[j]) (ys.set k y) (dd.inc j) τ'/\Mx L D Fr M R n wr τ' (ys.set k y) (dd.inc j) w':=by
        obtain⟨x,hx⟩:∃x,ys[k]?=some x:=⟨_,List.getElem?_eq_getElem (by rw[H2.out.len];exact c)⟩;obtain⟨hl,hJ,_⟩:=H1.out;subst hl;obtain⟨hf,hs⟩:=HS.out js ys dd τ x c hJ hx;exact pickB H2.out (dr:=dr) (by omega) (Nat.mod_eq_of_lt c) hx hf (fun w1 b1 C1=>hs w1 Fr gr vr C1 (HI.out.1 _ _ _ _ (HI.out.1 _ _ _ _ HI.out.2 H3.out) (Fm.below H2.out b1)))
      go_wp2_with fail
      refine P.mono ?_;rintro e w2 ⟨j,y,τ',rfl,hj,hJ,F2,g2,v2,M2,G2⟩;clear P;have B2:=H4.out.gc mq_intT G2;have mlt2:=lt_of_block B2.1;have mfz:∀o,w2.frozen? ⟨A,o,none⟩=false:=(fun o=>by simp[World.frozen?,B2.1]);obtain⟨z0,hz0⟩:∃z,cs[k]?=some z:=⟨_,Array.getElem?_eq_getElem (by rw[H1.out.2.2.2];exact c)⟩;have m0:w2.cell? ⟨A,k,none⟩=some z0:=(B2.cell k).trans hz0;have f:Ta.Fr (fun q=>q=A) w2 (w2.setCell ⟨A,k,none⟩ (.int .i64 (j:Nat))):=Ta.Fr.setCell (fun q=>q=A) w2 A k _ rfl;have qt:¬QT 3:=by unfold QT;decide
      have FIN:Aside (∃(js:List Nat)(ys:List WR)(dd:DD)(τ:CS)(Fr:Nat->Nat->Prop)(gr vr:Value)(cs:Array Value),Aside (js.length=k+1/\J js ys dd τ/\RowJ cs js/\cs.size=n)/\Aside (Mc (w2.setCell ⟨A,k,none⟩ (.int .i64 (j:Nat))) L D Fr gr vr M R n τ ys dd)/\Aside (Gc L (Fm F M R) w (Fm Fr M R) (w2.setCell ⟨A,k,none⟩ (.int .i64 (j:Nat))))/\Aside (Bx (w2.setCell ⟨A,k,none⟩ (.int .i64 (j:Nat))) (Fm Fr M R) A cs 3)):=by
        obtain⟨hl,_,hr,hsz⟩:=H1.out;have hrp:=hr.push (by rw[hl,hsz];exact c) j;rw[hl] at hrp;exact⟨js++[j],ys.set k y,dd.inc j,τ',F2,g2,v2,_,⟨by simp[hl],hJ,hrp,by simp[hsz]⟩,M2.fr1 B2 qt f,(H3.out.trans G2).own (Nat.le_of_eq HW.out.1) HW.out.2 f,set_at B2.1 _,B2.2⟩
      clear hJ M2 G2 B2 hz0 f qt hj H1 H2 H3 H4
      go_wp2_with fail
      go_roundg (n-(k+1))
      case measure=>omega
      case rel=>exact⟨k+1,by go_num,by omega,Nat.le_refl _,FIN⟩
    · have hnl:¬(k:Int)<(n:Int):=by omega
      have hkn:Aside (k=n):=(by omega:k=n);have FIN:Aside (RoundIs L D F M R n J A w wr):=⟨cs,js,ys,dd,τ,Fr,gr,vr,by rw[H1.out.1];exact hkn.out,H1.out.2.2.1,H1.out.2.1,H2.out,H3.out,H4.out,H1.out.2.2.2⟩
      go_wp2_with fail
      go_ret;exact⟨A,rfl,FIN.out⟩
theorem restB(h:Mc w L D F g v M R n σ xs d){most dr:Nat}(hmost:most<=100000)(I:World->(Nat->Nat->Prop)->Prop)(hI:∀w F w' F',I w F->Gc L (Fm F M R) w (Fm F' M R) w'->I w' F')(i0:I w F)(K:Nat->List WR->DD->CS->Prop)(h0:K 0 xs d σ)
    (hq:∀k ys e τ,K k ys e τ->τ.qn<=1000)
    (hr:∀k ys e τ,k<most->K k ys e τ->quietB ys τ=false->ys.length=n->∃J:List Nat->List WR->DD->CS->Prop,J [] ys e τ/\(∀js zs e' τ' x,js.length<n->J js zs e' τ'->zs[js.length]?=some x->e'.few 1000000/\StepsIf I L D τ' x js.length dr fun y j τ''=>J (js++[j]) (zs.set js.length y) (e'.inc j) τ'')/\∀js zs e' τ',js.length=n->J js zs e' τ'->K (k+1) zs e' τ') :
    Calls Tryz.prog 24 #[pt M,.int .i64 most,.int .u64 dr] w fun e w'=>∃k b ys dd τ,e=.returned (.tuple #[.int .i64 (k:Nat),.bool b])/\k<=most/\K k ys dd τ/\b=quietB ys τ/\(k<most->b=true)/\Mx L D F M R n w τ ys dd w':=by
  have ST:Aside (Mc w L D F g v M R n σ xs d/\K 0 xs d σ):=⟨h,h0⟩;have HQ:Aside _:=hq;have HR:Aside _:=hr;have HI:Aside ((∀w F w' F',I w F->Gc L (Fm F M R) w (Fm F' M R) w'->I w' F')/\I w F):=⟨hI,i0⟩;have m0:(0:Int)<=(most:Int):=by omega
  have m1:(most:Int)<=100000:=by omega
  clear h h0 hq hr hI i0;go_enter Tryz.func24,Tryz.ntmps24
  have hmx:min (max (most:Int) 0) 100000=(most:Int):=by omega
  have hmy:min (most:Int) 100000=(most:Int):=by omega
  go_wp2_with fail
  try simp only[hmx,hmy]
  go_loopg [8,13] most (fun kx s8 s13 wr=>∃(k:Nat),s13=.int .i64 k/\k<=most/\most-k<=kx/\∃(ys:List WR)(dd:DD)(τ:CS)(Fr:Nat->Nat->Prop)(gr vr:Value),Aside (K k ys dd τ)/\Aside (Mc wr L D Fr gr vr M R n τ ys dd)/\Aside (Gc L (Fm F M R) w (Fm Fr M R) wr))
  case atStart=>exact⟨0,rfl,by omega,by omega,xs,d,σ,F,g,v,ST.out.2,ST.out.1,Gc.refl _ _ _⟩
  case round=>
    obtain⟨k,rfl,hk,hkx,ys,dd,τ,Fr,gr,vr,HK,HM,HG⟩:=hrel;have P:=quietM HM.out (HQ.out k ys dd τ HK.out) (HM.out.co.qall_le (HQ.out k ys dd τ HK.out));obtain⟨Q,hQ⟩:∃Q,quietB ys τ=Q:=⟨_,rfl⟩;rw[hQ] at P;have HB:Aside (quietB ys τ=Q):=hQ;clear hQ;by_cases c:k<most
    · have hlt:(k:Int)<(most:Int):=by omega
      go_wp2_with fail
      refine P.mono ?_;rintro e w1 ⟨rfl,F1,g1,v1,M1,G1⟩;clear P
      cases Q with
      | true=>
        have FIN:Aside (∃ys dd τ,K k ys dd τ/\quietB ys τ=true/\Mx L D F M R n w τ ys dd w1):=⟨ys,dd,τ,HK.out,HB.out,F1,g1,v1,M1,HG.out.trans G1⟩;clear M1 G1 HM HG HK
        go_wp2_with fail
        go_ret2;obtain⟨ys,dd,τ,q1,q2,q3⟩:=FIN.out;exact⟨k,true,ys,dd,τ,rfl,hk,q1,q2.symm,fun _=>rfl,q3⟩
      | false=>
        have P2:Calls Tryz.prog 75 #[pt M,.int .u64 dr] w1 fun e w'=>∃A,e=.returned (.slice (some ⟨A,0,none⟩) n n)/\∃zs d2 τ2,K (k+1) zs d2 τ2/\Mx L D F1 M R n w1 τ2 zs d2 w':=by
          obtain⟨J,h0,hs,he⟩:=HR.out k ys dd τ c HK.out HB.out M1.len;refine(roundB M1 I HI.out.1 (HI.out.1 _ _ _ _ HI.out.2 (HG.out.trans G1)) J h0 hs).mono ?_;rintro e w' ⟨A,rfl,cs,js,zs,d2,τ2,F2,g2,v2,hl,_,hJ,M2,G2,_,_⟩;exact⟨A,rfl,zs,d2,τ2,he js zs d2 τ2 hl hJ,F2,g2,v2,M2,G2⟩
        have X1:Aside (Gc L (Fm F M R) w (Fm F1 M R) w1):=HG.out.trans G1;clear M1 G1 HM HG HK HB
        go_wp2_with fail
        refine P2.mono ?_;rintro e w2 ⟨A,rfl,zs,d2,τ2,hK2,F2,g2,v2,M2,G2⟩;have NX:Aside (K (k+1) zs d2 τ2/\Mc w2 L D F2 g2 v2 M R n τ2 zs d2/\Gc L (Fm F M R) w (Fm F2 M R) w2):=⟨hK2,M2,X1.out.trans G2⟩;clear P2 hK2 M2 G2;have hw1:IntKind.i64.wrap ((k:Int)+1)=((k+1:Nat):Int):=by rw[IntKind.wrap_i64];omega
        go_wp2_with fail
        go_roundg (most-(k+1))
        case measure=>omega
        case rel=>exact⟨k+1,by go_num,by omega,Nat.le_refl _,zs,d2,τ2,F2,g2,v2,NX.out.1,NX.out.2.1,NX.out.2.2⟩
    · have hnl:¬(k:Int)<(most:Int):=by omega
      obtain rfl:k=most:=by omega
      go_wp2_with fail
      refine P.mono ?_;rintro e w1 ⟨rfl,F1,g1,v1,M1,G1⟩;have FIN:Aside (∃ys dd τ,K k ys dd τ/\Q=quietB ys τ/\Mx L D F M R n w τ ys dd w1):=⟨ys,dd,τ,HK.out,HB.out.symm,F1,g1,v1,M1,HG.out.trans G1⟩;clear P M1 G1 HM HG HK HB
      go_wp2_with fail
      go_ret2;obtain⟨ys,dd,τ,q1,q2,q3⟩:=FIN.out;exact⟨k,Q,ys,dd,τ,rfl,Nat.le_refl _,q1,q2,fun h=>absurd h (Nat.lt_irrefl _),q3⟩
theorem restM(h:Mc w L D F g v M R n σ xs d){most dr:Nat}(hmost:most<=100000)(K:Nat->List WR->DD->CS->Prop)(h0:K 0 xs d σ)
    (hq:∀k ys e τ,K k ys e τ->τ.qn<=1000)
    (hr:∀k ys e τ,k<most->K k ys e τ->quietB ys τ=false->ys.length=n->∃J:List Nat->List WR->DD->CS->Prop,J [] ys e τ/\(∀js zs e' τ' x,js.length<n->J js zs e' τ'->zs[js.length]?=some x->e'.few 1000000/\StepsTo L D τ' x js.length dr fun y j τ''=>J (js++[j]) (zs.set js.length y) (e'.inc j) τ'')/\∀js zs e' τ',js.length=n->J js zs e' τ'->K (k+1) zs e' τ') :
    Calls Tryz.prog 24 #[pt M,.int .i64 most,.int .u64 dr] w fun e w'=>∃k b ys dd τ,e=.returned (.tuple #[.int .i64 (k:Nat),.bool b])/\k<=most/\K k ys dd τ/\b=quietB ys τ/\(k<most->b=true)/\Mx L D F M R n w τ ys dd w':=
  restB h hmost (fun _ _=>True) (fun _ _ _ _ _ _=>trivial) trivial K h0 hq (fun k ys e τ a b c l=>by
    obtain⟨J,j0,js,je⟩:=hr k ys e τ a b c l;exact⟨J,j0,fun js' zs e' τ' x a b c=>⟨(js js' zs e' τ' x a b c).1,fun w1 F1 g1 v1 C _=>(js js' zs e' τ' x a b c).2 w1 F1 g1 v1 C⟩,je⟩)
end
section
variable {w w' w'' u:World}{L i n M R:Nat}{D:CAd}{F F' F'':Nat->Nat->Prop}{g v:Value}{σ σ':CS}{xs:List WR}{d:DD}{t dr a:Nat}{ky s:Int}
theorem locL_view{sl ow:Nat->List Qu.Ent}{sh:List Qu.Ent}(V:Qu.View σ.th σ.q sl ow sh):(locL σ).flatten=(List.range σ.th).flatMap ow:=by
  unfold locL;rw[List.flatMap_def];congr 1;exact List.map_congr_left fun t ht=>V.ow t (List.mem_range.1 ht)
theorem qall_view{sl ow:Nat->List Qu.Ent}{sh:List Qu.Ent}(V:Qu.View σ.th σ.q sl ow sh):qall σ=(Qu.allV σ.th sl ow sh).length:=by
  unfold qall Qu.allV;rw[locL_view V,V.slots,V.sh]
theorem QI.qall0(h:QI σ)(hne:∀e,¬Rdy σ.T e):qall σ=0:=by
  obtain⟨sl,ow,sh,V,nd,al⟩:=h;rw[qall_view V]
  cases hl:Qu.allV σ.th sl ow sh with
  | nil=>rfl
  | cons e l=>exact absurd ((al e).1 (by rw[hl];simp)) (hne e)
theorem QI.qall1(h:QI σ){e:Qu.Ent}(he:Rdy σ.T e):0<qall σ:=by
  obtain⟨sl,ow,sh,V,nd,al⟩:=h;rw[qall_view V];exact List.length_pos_of_mem ((al e).2 he)
theorem Sst.quiet{k:Nat}{y:WR}(hk:k<=4)(h:Sst ky k σ y):quietB [y] σ=decide (k=4):=by
  have hk':k=0\/k=1\/k=2\/k=3\/k=4:=by omega
  have q:∀a,One σ 1 2 ky a->0<qall σ:=fun a o=>o.qi.qall1 o.rdy.1;rcases hk' with rfl|rfl|rfl|rfl|rfl
  · obtain⟨o,rfl,_⟩:=h
    have:=q _ o;have e:(qall σ==0)=false:=by simp;omega
    unfold quietB;rw[e];rfl
  · obtain⟨o,rfl,_⟩:=h
    have:=q _ o;have e:(qall σ==0)=false:=by simp;omega
    unfold quietB;rw[e];rfl
  · obtain⟨o,rfl⟩:=h
    rfl
  · obtain⟨o,rfl⟩:=h
    rfl
  · obtain⟨o,rfl⟩:=h
    unfold quietB;rw[o.qi.qall0 (o.none (by omega))]
    rfl
theorem Sst.qn{k:Nat}{y:WR}(hk:k<=4)(h:Sst ky k σ y):σ.qn<=8:=by
  have hk':k=0\/k=1\/k=2\/k=3\/k=4:=by omega
  rcases hk' with rfl|rfl|rfl|rfl|rfl
  · have:=h.1.qn;omega
  · have:=h.1.qn;omega
  · have:=h.1.qn;omega
  · have:=h.1.qn;omega
  · have:=h.1.qn;omega
theorem didL_nat{k:Nat}(hk:k<5):∃j:Nat,j<7/\didL.getD k 0=(j:Int):=by
  have hk':k=0\/k=1\/k=2\/k=3\/k=4:=by omega
  rcases hk' with rfl|rfl|rfl|rfl|rfl
  · exact⟨1,by omega,rfl⟩
  · exact⟨2,by omega,rfl⟩
  · exact⟨3,by omega,rfl⟩
  · exact⟨6,by omega,rfl⟩
  · exact⟨0,by omega,rfl⟩
theorem Sst.step{k:Nat}{y:WR}(hk:k<5)(h:Sst ky k σ y):StepsTo L D σ y 0 0 fun y' j σ'=>Sst ky (k+1) σ' y':=by
  intro w1 F1 g1 v1 C1;obtain⟨j,hj,e⟩:=didL_nat hk;refine(aw_step C1 hk h).mono ?_;rintro e' w' ⟨y0,y1,y2,y3,y4,rfl,σ',h',X⟩;exact⟨y0,y1,y2,y3,y4,j,by rw[e],hj,σ',h',X⟩
end
section
variable {w w' u:World}{L M R:Nat}{D:CAd}{F F':Nat->Nat->Prop}{g v:Value}{σ σ' τ:CS}{th cr n a k t dr p:Nat}{x:Ta.TR}{y:WR}{e:DD}{T0:List Ta.TR}{L0:List Ta.OpR}
theorem Al.look(h:Al σ th cr n a)(ht:t<th)(z:Qu.Ent):Al (lkA σ t z) th cr n (a+1):=
  ⟨h.th,h.nc,h.cl,h.len,h.st,h.o,h.N,h.E,(h.set ht).qi.same rfl rfl (fun e=>Iff.rfl),Nat.succ_le_succ h.qn,by
    show(σ.ev++[_]).length<=a+1;have:=h.ev;simp;exact this,Nat.le_succ_of_le h.tk⟩
def NoC(σ:CS):Prop:=∀(i:Nat)(x:Ta.TR),σ.T[i]?=some x->x.s≠3
theorem Al.ready(h:Al σ th cr n a)(hc:NoC σ)(h0:0<σ.T.countP liv):∃e,Rdy σ.T e:=by
  obtain⟨x,hx,hl⟩:=List.countP_pos_iff.1 h0;obtain⟨i,hi,rfl⟩:=List.getElem_of_mem hx;have e1:σ.T[i]?=some σ.T[i]:=List.getElem?_eq_getElem hi;have h1:=(h.st i _ e1).2;have h3:=hc i _ e1;have hl:1<=(σ.T[i]).s/\(σ.T[i]).s<=3:=by simpa [liv] using hl
  exact⟨_,i,σ.T[i],e1,by omega,rfl⟩
theorem Al.over(h:Al σ th cr n a)(hr:∀e,¬Rdy σ.T e)(hc:NoC σ):σ.T.countP liv=0:=by
  rcases Nat.eq_zero_or_pos (σ.T.countP liv) with c|c
  · exact c
  · obtain⟨e,he⟩:=h.ready hc c
    exact absurd he (hr e)
def OpM(M R:Nat)(T0:List Ta.TR)(L0:List Ta.OpR)(w:World)(F:Nat->Nat->Prop):Prop:=∀v∈T0.map opv,OwO w (Fm F M R) (.slice v.1 v.2.1 v.2.2) L0
theorem OpM.gc(L:Nat)(M R:Nat)(T0:List Ta.TR)(L0:List Ta.OpR):∀w F w' F',OpM M R T0 L0 w F->Gc L (Fm F M R) w (Fm F' M R) w'->OpM M R T0 L0 w' F':=fun w F w' F' h G v hv=>(h v hv).gc G
theorem OpM.at(h:OpM M R T0 L0 w F)(e:τ.T.map opv=T0.map opv){i:Nat}(hx:τ.T[i]?=some x):OwO w F (.slice x.oa x.on x.oc) L0:=by
  have hm:opv x∈T0.map opv:=by
    rw[<-e];exact List.mem_map.2 ⟨x,List.mem_of_getElem? hx,rfl⟩
  have q:=h _ hm;exact⟨q.1,fun k hk p hp=>q.2 k hk p (.inl hp)⟩
def AlI(n p:Nat)(T0:List Ta.TR)(k:Nat)(τ:CS)(j Q:Nat):Prop:=Al τ 1 12 n (k+2*n)/\τ.T.map opv=T0.map opv/\(τ.q.g 0).f=false/\τ.T.countP liv+j=n/\Q=j*(p+3)
def AlPh(n p:Nat)(T0:List Ta.TR)(k:Nat)(y:WR)(e:DD)(τ:CS):Prop:=
  (k=0/\y=wk0/\e=DD.z/\Al τ 1 12 n (2*n)/\τ.T.map opv=T0.map opv/\(τ.q.g 0).f=true/\τ.T.countP liv=n/\NoC τ)\/
  ∃j Q,AlI n p T0 k τ j Q/\
    ((k=1+Q/\y=wk0/\e=⟨0,1,(j:Nat),(j:Nat),0,(j*p:Nat),(j:Nat)⟩/\NoC τ)\/
     (k=2+Q/\(∃(i:Nat)(x:Ta.TR),τ.T[i]?=some x/\x.s=2/\y=⟨1,x.key,(i:Int)+1,0,false⟩)/\e=⟨0,1,(j+1:Nat),(j:Nat),0,(j*p:Nat),(j:Nat)⟩/\NoC τ)\/
     (∃pc,k=3+Q+pc/\pc<=p/\e=⟨0,1,(j+1:Nat),(j+1:Nat),0,(j*p+pc:Nat),(j:Nat)⟩/\∃(i:Nat)(x:Ta.TR)(ky:Int),τ.T[i]?=some x/\x.s=3/\y=⟨2,ky,(i:Int)+1,pc,false⟩/\∀(i':Nat)(x':Ta.TR),i'≠i->τ.T[i']?=some x'->x'.s≠3))
theorem AlPh.bound(hn:n<=10)(hp:p<=16)(h:AlPh n p T0 k y e τ):k<=210/\Al τ 1 12 n 250/\e.few 1000000:=by
  rcases h with⟨rfl,rfl,rfl,hA,_⟩|⟨j,Q,⟨hA,_,_,hl,hQ⟩,h⟩
  · exact⟨by omega,hA.mono (by omega),by decide,by decide,by decide,by decide,by decide,by decide,by decide,by decide⟩
  · have hj:j<=10:=by omega
    have q1:j*(p+3)<=10*19:=Nat.mul_le_mul hj (by omega);have q2:j*p<=10*16:=Nat.mul_le_mul hj hp;rcases h with⟨hk,_,rfl,_⟩|⟨hk,_,rfl,_⟩|⟨pc,hk,hpc,rfl,_⟩
    · exact⟨by omega,hA.mono (by omega),by dsimp only;omega,by dsimp only;omega,by dsimp only;omega,by dsimp only;omega,by dsimp only;omega,by dsimp only;omega,by dsimp only;omega,by unfold DD.sum;dsimp only;omega⟩
    · exact⟨by omega,hA.mono (by omega),by dsimp only;omega,by dsimp only;omega,by dsimp only;omega,by dsimp only;omega,by dsimp only;omega,by dsimp only;omega,by dsimp only;omega,by unfold DD.sum;dsimp only;omega⟩
    · exact⟨by omega,hA.mono (by omega),by dsimp only;omega,by dsimp only;omega,by dsimp only;omega,by dsimp only;omega,by dsimp only;omega,by dsimp only;omega,by dsimp only;omega,by unfold DD.sum;dsimp only;omega⟩
theorem AlPh.quiet(hn:1<=n)(h:AlPh n p T0 k y e τ)(hq:quietB [y] τ=true):k=n*(p+3)+1/\e=⟨0,1,(n:Nat),(n:Nat),0,(n*p:Nat),(n:Nat)⟩:=by
  have q0:∀e,¬Rdy τ.T e:=fun e he=>by
    have hA:QI τ:=by
      rcases h with⟨_,_,_,hA,_⟩|⟨j,Q,⟨hA,_⟩,_⟩
      · exact hA.qi
      · exact hA.qi
    have:=hA.qall1 he;unfold quietB at hq;rw[Bool.and_eq_true,beq_iff_eq] at hq;omega
  rcases h with⟨_,_,_,hA,_,_,hl,hc⟩|⟨j,Q,⟨hA,_,_,hl,hQ⟩,h⟩
  · have:=hA.over q0 hc
    omega
  · rcases h with⟨hk,_,rfl,hc⟩|⟨hk,⟨i,x,hx,hs,rfl⟩,_⟩|⟨pc,hk,hpc,_,i,x,ky,hx,hs,rfl,_⟩
    · have h0:=hA.over q0 hc
      obtain rfl:j=n:=by omega
      subst hQ;exact⟨by omega,rfl⟩
    · exact absurd ⟨i,x,hx,hs,rfl⟩ (q0 (x.key,(i:Int)+1))
    · exfalso
      unfold quietB at hq;rw[Bool.and_eq_true] at hq;simp at hq
theorem AlPh.step(hn:n<=10)(hp:p<=16)(hL:L0.length=p)(hN:∀o∈L0,o.1=1)(h:AlPh n p T0 k y e τ)(hq:quietB [y] τ=false)(hdr:dr<18446744073709551616):StepsIf (OpM M R T0 L0) L D τ y 0 dr fun y' j τ'=>AlPh n p T0 (k+1) y' (e.inc j) τ':=by
  intro w1 F1 g1 v1 C1 I1;obtain⟨hk,hA,_⟩:=h.bound hn hp;rcases h with⟨rfl,rfl,rfl,hA0,hm,hf,hl,hc⟩|⟨j,Q,⟨hA0,hm,hf,hl,hQ⟩,h⟩
  · refine(alSettle C1 hA (dr:=dr) (by omega) (by omega) hf).mono ?_
    rintro e' w' ⟨rfl,X⟩;exact⟨0,0,0,0,false,1,rfl,by omega,_,.inr ⟨0,0,⟨(hA0.set (by omega)).mono (by omega),hm,Qu.settle_f _ _ _,hl,by omega⟩,.inl ⟨by omega,rfl,by simp[DD.inc,DD.z],hc⟩⟩,X⟩
  · rcases h with⟨rfl,rfl,rfl,hc⟩|⟨rfl,⟨i,x,hx,hs,rfl⟩,rfl,hc⟩|⟨pc,rfl,hpc,rfl,i,x,ky,hx,hs,rfl,hc⟩
    · have hr:∃e,Rdy τ.T e:=by
        by_cases c:∃e,Rdy τ.T e
        · exact c
        · exfalso
          have:=hA.qi.qall0 (fun e he=>c ⟨e,he⟩);unfold quietB at hq;rw[this] at hq;simp[wk0] at hq
      obtain⟨z,⟨i,x,hx,hs,rfl⟩,P⟩:=alLook C1 hA (t:=0) (by omega) (by omega) hdr hf hr;refine(P w1 F1 g1 v1 C1).mono ?_;rintro e' w' ⟨rfl,X⟩;exact⟨1,x.key,(i:Int)+1,0,false,2,rfl,by omega,_,.inr ⟨j,Q,⟨(hA0.look (by omega) _).mono (by omega),hm,Qu.settle_f _ _ _,hl,hQ⟩,.inr (.inl ⟨by omega,⟨i,x,hx,hs,rfl⟩,by simp[DD.inc],hc⟩)⟩,X⟩
    · refine(alClaim C1 hA (dr:=dr) (by omega) (by omega) hx hs).mono ?_
      rintro e' w' ⟨rfl,X⟩;have hA1:=hA0.claim hx hs 0;have tx:=turnX_key x 3;refine⟨2,x.key,(i:Int)+1,0,false,3,rfl,by omega,_,.inr ⟨j,Q,⟨hA1.mono (by omega),(map_set hx (turnX_opv x 3)).trans hm,take_f _ _ _ hf,?_,hQ⟩,.inr (.inr ⟨0,by omega,by omega,by simp[DD.inc],i,turnX x 3,x.key,List.getElem?_set_self (List.getElem?_eq_some_iff.1 hx).1,tx.2.2.1,rfl,fun i' x' hi hx'=>?_⟩)⟩,X⟩
      · rw[<-hA1.o]
        show τ.o+j=n;rw[hA0.o];exact hl
      · have hx':(τ.T.set i (turnX x 3))[i']?=some x':=hx'
        rw[List.getElem?_set_ne (fun e=>hi e.symm)] at hx';exact hc i' x' hx'
    · have hO:=I1.at (τ:=τ) hm hx
      rcases Nat.lt_or_ge pc p with c|c
      · obtain⟨o,ho⟩:∃o,L0[pc]?=some o:=⟨_,List.getElem?_eq_getElem (by omega)⟩
        refine(alOp C1 hA (dr:=dr) (by omega) hx hO (by omega) ho (hN o (List.mem_of_getElem? ho)) ky).mono ?_;rintro e' w' ⟨rfl,X⟩;exact⟨2,ky,(i:Int)+1,(pc:Int)+1,false,5,rfl,by omega,_,.inr ⟨j,Q,⟨hA0.mono (by omega),hm,hf,hl,hQ⟩,.inr (.inr ⟨pc+1,by omega,by omega,by simp[DD.inc];omega,i,x,ky,hx,hs,by push_cast;rfl,hc⟩)⟩,X⟩
      · refine(alFin C1 hA (dr:=dr) (by omega) (by omega) (by omega) hx hs hO (by omega) (by omega) ky).mono ?_
        rintro e' w' ⟨rfl,X⟩;have hA1:=hA0.fin hx hs 0;have tx:=turnX_key x 4;obtain rfl:pc=p:=by omega
        have e1:(j+1)*(pc+3)=j*(pc+3)+(pc+3):=Nat.succ_mul _ _;have e2:(j+1)*pc=j*pc+pc:=Nat.succ_mul _ _;have hs1:=liv_set hx hs;refine⟨0,0,0,0,false,6,rfl,by omega,_,.inr ⟨j+1,Q+(pc+3),⟨hA1.mono (by omega),(map_set hx (turnX_opv x 4)).trans hm,hf,?_,by rw[e1,hQ]⟩,.inl ⟨by omega,rfl,by simp[DD.inc,e2],fun i' x' hx'=>?_⟩⟩,X⟩
        · show(τ.T.set i (turnX x 4)).countP liv+(j+1)=n
          omega
        · have hx':(τ.T.set i (turnX x 4))[i']?=some x':=hx'
          by_cases e:i=i'
          · subst e
            rw[List.getElem?_set_self (List.getElem?_eq_some_iff.1 hx).1] at hx';injection hx' with hx'
            rw[<-hx',tx.2.2.1];decide
          · rw[List.getElem?_set_ne e] at hx'
            exact hc i' x' (fun h=>e h.symm) hx'
end
section
variable {w w' u:World}{L M R:Nat}{D:CAd}{F F':Nat->Nat->Prop}{g v:Value}{σ σ' τ:CS}{th cr n a k t dr p i:Nat}{x:Ta.TR}{y:WR}{e:DD}{T0:List Ta.TR}{L0:List Ta.OpR}
theorem makeZ7(w:World):(Instr.makeSlice 22 (.int .i64 7) (.int .i64 7)).run Tryz.prog w=.ok (.slice (some ⟨w.heap.size,0,none⟩) 7 7) (w.alloc (.cells #[.int .i64 0,.int .i64 0,.int .i64 0,.int .i64 0,.int .i64 0,.int .i64 0,.int .i64 0] 3)):=by
  have h:(Tryz.prog.info? 3).map (fun i=>(i.zero,i.size,i.bytes))=some (some (.int .i64 0),1,8):=by kernel_rfl
  obtain⟨i,hi,h2⟩:=Option.map_eq_some_iff.1 h;simp at h2;have hm:=run_make (P:=Tryz.prog) w 22 3 i _ Tryz.underlying22 hi h2.1 .i64 .i64 7 7 (by omega) (Int.le_refl _) (by rw[h2.2.2];omega) (by omega);rw[h2.2.1] at hm;refine hm.trans ?_;simp[madeCells,Value.cells,Array.range,Array.ofFn_succ]
theorem OwO.fm{v':Value}{os:List Ta.OpR}{xs:List WR}{d:DD}(h:OwO w F v' os)(m:Mc w L D F g v M R n σ xs d):OwO w (Fm F M R) v' os:=by
  refine⟨h.1,fun k hk p hp=>?_⟩;rcases hp with hp|⟨_,rfl|rfl⟩
  · exact h.2 k hk p hp
  · obtain⟨cs,hc⟩:=h.1.rowT hk
    rw[m.bm.1] at hc;simp only[Option.some.injEq,Obj.cells.injEq] at hc;exact absurd hc.2.1 (by unfold Ta.rO;decide)
  · obtain⟨cs,hc⟩:=h.1.rowT hk
    rw[m.br.1] at hc;simp only[Option.some.injEq,Obj.cells.injEq] at hc;exact absurd hc.2.1 (by unfold Ta.rO;decide)
def All2(σ:CS):Prop:=∀(i:Nat)(x:Ta.TR),σ.T[i]?=some x->x.s=2
theorem All2.cnt(h:All2 σ):σ.T.countP liv=σ.T.length:=by
  rw[List.countP_eq_length];intro x hx;obtain⟨i,hi,rfl⟩:=List.getElem_of_mem hx;have:=h i _ (List.getElem?_eq_getElem hi);simp[liv,this]
theorem All2.no(h:All2 σ):NoC σ:=fun i x hx=>by rw[h i x hx];decide
def SubI(M R:Nat)(os:List Ta.OpR)(i:Nat)(w:World)(F:Nat->Nat->Prop)(τ:CS):Prop:=Al τ 1 12 i (2*i)/\All2 τ/\OpM M R τ.T os w F/\(0<i->(τ.q.g 0).f=true)
theorem alSub(h:Mc w L D F g v M R 1 τ [wk0] DD.z){os:List Ta.OpR}(S:SubI M R os i w F τ)(hi:i<=9){a0:Option Addr}{cap Lo:Nat}(hLo:os.length=Lo)(hO:OwO w (Fm F M R) (.slice a0 Lo cap) os)(hS:Ta.ShW w)(HL:0<L)(hk:Ta.okL os=true)(prio:Nat)(h7:prio<=7) :
    Calls Tryz.prog 9 #[pt D.B,.int .i64 0,.int .i64 (prio:Int),.slice a0 Lo cap,.slice none 0 0] w fun e w'=>(∃z,e=.returned (.tuple #[.int .i64 z,.int .i64 0]))/\∃τ' F' g' v',Mc w' L D F' g' v' M R 1 τ' [wk0] DD.z/\Gc L (Fm F M R) w (Fm F' M R) w'/\SubI M R os (i+1) w' F' τ':=by
  obtain⟨A,two,I,_⟩:=S;have hO1:OwO w F (.slice a0 Lo cap) os:=⟨hO.1,fun k hk p hp=>hO.2 k hk p (.inl hp)⟩;obtain⟨a1,cap1,e1,O1⟩:=hO1.ops;injection e1 with e2 e3 e4
  subst e2 e4;refine(subO h.co (t:=0) (by rw[A.th];omega) A.cl (by rw[A.len];omega) (by rw[A.o,A.nc,two.cnt,A.len];omega) (by have:=A.ev;omega) (by have:=A.qn;omega) (by have:=A.tk;omega) (prio:Int) (by omega) (by omega) hLo O1 hS HL hk).mono ?_;rintro e w' ⟨rfl,oa,oc,F',g',v',C',G',O'⟩;have M':=h.turn C' G';refine⟨⟨_,rfl⟩,_,F',g',v',M',Fm.gc G' M R,A.sub (by omega) _ oa Lo oc,fun j z hz=>?_,fun z hz=>?_,fun _=>put_same _ _ _ _⟩
  · rw[subSO_T] at hz
    rcases push_at rfl hz with⟨_,a⟩|⟨_,rfl⟩
    · exact two j z a
    · rfl
  · rw[subSO_T,List.map_append,List.mem_append] at hz
    rcases hz with hz|hz
    · exact OpM.gc L M R τ.T os w F w' F' I (Fm.gc G' M R) z hz
    · simp at hz
      subst hz;exact O'.fm M'
theorem alRest(h:Mc w L D F g v M R 1 τ [wk0] DD.z)(hn1:1<=n)(hn:n<=10)(hp:p<=16)(hL:L0.length=p)(hN:∀o∈L0,o.1=1)(S:SubI M R L0 n w F τ){A1:Nat}(hA:n*(p+3)+1=A1) :
    Calls Tryz.prog 24 #[pt M,.int .i64 1000,.int .u64 9] w fun e w'=>e=.returned (.tuple #[.int .i64 (A1:Int),.bool true])/\∃y τ',Mx L D F M R 1 w τ' [y] ⟨0,1,(n:Nat),(n:Nat),0,(n*p:Nat),(n:Nat)⟩ w':=by
  obtain⟨A,two,I,hf⟩:=S;refine Calls.mono (restB h (most:=1000) (dr:=9) (by omega) (OpM M R τ.T L0) (OpM.gc L M R τ.T L0) I (fun k ys e σ=>∃y,ys=[y]/\AlPh n p τ.T k y e σ) ⟨wk0,rfl,.inl ⟨rfl,rfl,rfl,A,rfl,hf (by omega),by rw[two.cnt,A.len],two.no⟩⟩ ?_ ?_) ?_
  · rintro k ys e σ ⟨y,rfl,ph⟩
    have:=(ph.bound hn hp).2.1.qn;omega
  · rintro k ys e σ hk ⟨y,rfl,ph⟩ hq _
    refine⟨fun js zs e' τ'=>(js=[]/\zs=[y]/\e'=e/\τ'=σ)\/(js.length=1/\∃y',zs=[y']/\AlPh n p τ.T (k+1) y' e' τ'),.inl ⟨rfl,rfl,rfl,rfl⟩,?_,?_⟩
    · rintro js zs e' τ' x hl h hx
      rcases h with⟨rfl,rfl,rfl,rfl⟩|⟨hl',_⟩
      · simp at hx
        subst hx;refine⟨(ph.bound hn hp).2.2,?_⟩;intro w1 F1 g1 v1 C1 I1;refine Calls.mono (ph.step hn hp hL hN hq (by omega) w1 F1 g1 v1 C1 I1) ?_;rintro e'' w' ⟨y0,y1,y2,y3,y4,j,rfl,hj,σ',h',X⟩;exact⟨y0,y1,y2,y3,y4,j,rfl,hj,σ',.inr ⟨rfl,_,rfl,h'⟩,X⟩
      · omega
    · rintro js zs e' τ' hl h
      rcases h with⟨rfl,_⟩|⟨_,h⟩
      · simp at hl
      · exact h
  · rintro e w' ⟨k,b,ys,dd,σ,rfl,hk,⟨y,rfl,ph⟩,hb,hlt,X⟩
    have hb1:=hlt (by have:=(ph.bound hn hp).1;omega);subst hb1;obtain⟨rfl,rfl⟩:=ph.quiet hn1 hb.symm;exact⟨by rw[hA],y,σ,X⟩
end
section
variable {w w' w'' u:World}{L i n M R:Nat}{D:CAd}{F F' F'':Nat->Nat->Prop}{g v:Value}{σ σ':CS}{xs:List WR}{d:DD}{t dr a:Nat}{ky s:Int}
def Awk(ky:Int)(k:Nat)(ys:List WR)(e:DD)(τ:CS):Prop:=k<=4/\∃y,ys=[y]/\Sst ky k τ y/\e.few k/\e.sum=k
theorem awRest(h:Mc w L D F g v M R 1 σ [wk0] DD.z)(o:Sst ky 0 σ wk0) :
    Calls Tryz.prog 24 #[pt M,.int .i64 9,.int .u64 0] w fun e w'=>e=.returned (.tuple #[.int .i64 4,.bool true])/\∃y dd τ,One τ 1 4 ky 7/\dd.few 4/\dd.sum=4/\quietB [y] τ=true/\Mx L D F M R 1 w τ [y] dd w':=by
  refine Calls.mono (restM h (most:=9) (dr:=0) (by omega) (Awk ky) ⟨by omega,wk0,rfl,o,⟨by decide,by decide,by decide,by decide,by decide,by decide,by decide,by decide⟩,rfl⟩ ?_ ?_) ?_
  · rintro k ys e τ ⟨hk,y,rfl,s,_⟩
    have:=s.qn hk;omega
  · rintro k ys e τ hk ⟨hk4,y,rfl,s,hf,hs⟩ hq _
    rw[s.quiet hk4] at hq
    have hk':k<4:=by
      have:k≠4:=fun e=>by simp[e] at hq
      omega
    refine⟨fun js zs e' τ'=>(js=[]/\zs=[y]/\e'=e/\τ'=τ)\/(js.length=1/\Awk ky (k+1) zs e' τ'),.inl ⟨rfl,rfl,rfl,rfl⟩,?_,?_⟩
    · rintro js zs e' τ' x hl h hx
      rcases h with⟨rfl,rfl,rfl,rfl⟩|⟨hl',_⟩
      · simp at hx
        subst hx;refine⟨⟨hf.1,hf.2.1,hf.2.2.1,hf.2.2.2.1,hf.2.2.2.2.1,hf.2.2.2.2.2.1,hf.2.2.2.2.2.2.1,by have:=hf.2.2.2.2.2.2.2;omega⟩,?_⟩;intro w1 F1 g1 v1 C1;refine Calls.mono ((s.step (L:=L) (D:=D) (by omega)) w1 F1 g1 v1 C1) ?_;rintro e'' w' ⟨y0,y1,y2,y3,y4,j,rfl,hj,σ',h',X⟩;exact⟨y0,y1,y2,y3,y4,j,rfl,hj,σ',.inr ⟨rfl,by omega,_,rfl,h',by have:=DD.few_inc (d:=e') (B:=(k:Int)) hf j;exact this,by rw[DD.inc_sum,hs];push_cast;rfl⟩,X⟩
      · omega
    · rintro js zs e' τ' hl h
      rcases h with⟨rfl,_⟩|⟨_,h⟩
      · simp at hl
      · exact h
  · rintro e w' ⟨k,b,ys,dd,τ,rfl,hk,⟨hk4,y,rfl,s,hf,hs⟩,hb,hlt,X⟩
    have hb1:=hlt (by omega);subst hb1;have hb2:=hb;rw[s.quiet hk4] at hb;obtain rfl:k=4:=by simpa using hb
    obtain⟨o4,_⟩:=s;exact⟨rfl,y,dd,τ,o4,hf,hs,hb2.symm,X⟩
theorem awake20C(w:World):Calls Tryz.prog 26 #[] w fun e w'=>e=.returned (.bool true)/\Below w.heap.size w w':=by
  have P:Calls Tryz.prog 22 #[.agg #[.int .i64 1,.int .i64 2,.int .i64 3]] w fun e w'=>∃M,e=.returned (.tuple #[pt M,.int .i64 0])/\∃L D F R,w.heap.size<=L/\Mc w' L D F (.slice none 0 0) (.slice none 0 0) M R 1 (newS 1 2 3) [wk0] DD.z/\Below w.heap.size w w':=newM 1 2 3 w (by omega) (by omega) (by omega) (by omega) (by omega);go_enter Tryz.func26,Tryz.ntmps26
  go_wp2_with fail
  refine P.mono ?_;rintro e w1 ⟨M,rfl,L,D,F1,R,hL,M1,b1⟩;have X1:Aside (Below w.heap.size w w1/\w.heap.size<=L/\Mc w1 L D F1 (.slice none 0 0) (.slice none 0 0) M R 1 (newS 1 2 3) [wk0] DD.z):=⟨b1,hL,M1⟩;have P1:=coreM M1;have P2:Calls Tryz.prog 9 #[pt D.B,.int .i64 0,.int .i64 3,.slice none 0 0,.slice none 0 0] w1 fun e w'=>e=.returned (.tuple #[.int .i64 1,.int .i64 0])/\Cox L D F1 w1 (subS (newS 1 2 3) 0 3) w':=subC M1.co (t:=0) (show 0<1 by omega) rfl (show 0<200 by omega) (show 0<3 by omega) (show 0+1<1000000 by omega) (show 0<=1000 by omega) (show 0<1000000 by omega) 3 (by omega) (by omega);have HP2:=asd P2;clear P P2 M1 b1 hL
  go_wp2_with fail
  refine P1.mono ?_;rintro e w2 ⟨rfl,rfl⟩;clear P1
  go_wp2_with fail
  refine HP2.out.mono ?_;rintro e w3 ⟨rfl,CX⟩;obtain⟨F3,g3,v3,M3,G3⟩:=X1.out.2.2.cox CX;obtain⟨ky,o⟩:=One.sub (th:=1) (k:=2) (n:=3) (t:=0) (by omega) 3;have hf0:((subS (newS 1 2 3) 0 3).q.g 0).f=true:=put_same _ _ _ _;have P:=awRest M3 (ky:=ky) ⟨o,rfl,hf0⟩;have X3:Aside (Gc L (Fm F1 M R) w2 (Fm F3 M R) w3):=G3;clear CX M3 G3 o hf0 HP2
  go_wp2_with fail
  refine P.mono ?_;rintro e w4 ⟨rfl,y,dd,τ,o4,hf,hs,hq,F4,g4,v4,M4,G4⟩;clear P;have qn4:τ.qn<=1000:=by have:=o4.qn;omega
  have P:=quietM M4 qn4 (M4.co.qall_le qn4);rw[hq] at P;obtain⟨x,hT,hxs,_⟩:=o4.at';have X4:Aside (Gc L (Fm F1 M R) w2 (Fm F4 M R) w4/\dd.few 1000000/\dd.sum=4/\τ.T[0]?=some x/\x.s=4):=⟨X3.out.trans G4,⟨hf.1,hf.2.1,hf.2.2.1,hf.2.2.2.1,hf.2.2.2.2.1,hf.2.2.2.2.2.1,hf.2.2.2.2.2.2.1,by have:=hf.2.2.2.2.2.2.2;omega⟩,hs,by rw[hT];rfl,hxs⟩;clear M4 G4 o4 hf hs hq hT hxs qn4
  go_wp2_with fail
  refine P.mono ?_;rintro e w5 ⟨rfl,F5,g5,v5,M5,G5⟩;clear P;have P:=picksM M5 X4.out.2.1;rw[X4.out.2.2.1] at P;have P1:=coreM M5;have P2:=statusC M5.co X4.out.2.2.2.1;rw[X4.out.2.2.2.2] at P2;have X5:Aside (Gc L (Fm F1 M R) w2 (Fm F5 M R) w5/\Mc w5 L D F5 g5 v5 M R 1 τ [y] dd):=⟨X4.out.1.trans G5,M5⟩;have HP1:=asd P1;have HP2:=asd P2;clear M5 G5 P1 P2
  go_wp2_with fail
  refine P.mono ?_;rintro e w6 ⟨rfl,rfl⟩;clear P
  go_wp2_with fail
  refine HP1.out.mono ?_;rintro e w7 ⟨rfl,rfl⟩
  go_wp2_with fail
  refine HP2.out.mono ?_;rintro e w8 ⟨rfl,CX⟩
  have FIN:Aside (Below w.heap.size w w8):=by
    obtain⟨F8,g8,v8,M8,G8⟩:=X5.out.2.cox CX;exact X1.out.1.trans ((X5.out.1.trans G8).low.mono X1.out.2.1)
  clear CX HP1 HP2
  go_wp2_with fail
  go_ret;exact⟨rfl,FIN.out⟩
end
def nops(p:Nat):List Ta.OpR:=List.replicate p (1,0,0)
theorem nops_len(p:Nat):(nops p).length=p:=List.length_replicate
theorem nops_one(p:Nat):∀o∈nops p,o.1=1:=fun o ho=>by rw[List.eq_of_mem_replicate ho]
theorem nops_ok{p:Nat}(hp:p<=16):Ta.okL (nops p)=true:=by
  unfold Ta.okL;rw[nops_len,decide_eq_true hp,Bool.true_and,List.all_eq_true];intro o ho;rw[List.eq_of_mem_replicate ho]
  decide
theorem nops_up(p:Nat):nops p++[(1,0,0)]=nops (p+1):=List.replicate_succ'.symm
theorem execAlone_walk(pz nz kz:Int)(w:World)(wp:(Lit.int .i64 pz).wf=true)(wn:(Lit.int .i64 nz).wf=true)(wk:(Lit.int .i64 kz).wf=true)(hN:Ta.ShW w) :
    Calls Tryz.prog 5 #[.int .i64 pz,.int .i64 nz,.int .i64 kz] w fun e w'=>e=.returned (.bool true)/\Below w.heap.size w w':=by
  obtain⟨p8,hp8,p,hrp,hp⟩:∃a8:Nat,bits .and .i64 pz 255=(a8:Int)/\∃a:Nat,(a8:Int)%17=(a:Int)/\a<=16:=⟨(pz%256).toNat,by rw[mask_i64 pz 8 255 256 (by omega) rfl rfl];omega,((pz%256).toNat%17),by omega,by omega⟩;obtain⟨n8,hn8,q,hrn,hq⟩:∃a8:Nat,bits .and .i64 nz 255=(a8:Int)/\∃a:Nat,(a8:Int)%10=(a:Int)/\a<=9:=⟨(nz%256).toNat,by rw[mask_i64 nz 8 255 256 (by omega) rfl rfl];omega,((nz%256).toNat%10),by omega,by omega⟩;obtain⟨k,hk,hk15⟩:∃k:Nat,bits .and .i64 kz 15=(k:Int)/\k<=15:=⟨(kz%16).toNat,by rw[mask_i64 kz 4 15 16 (by omega) rfl rfl];omega,by omega⟩;obtain⟨n,hn⟩:∃n,q+1=n:=⟨_,rfl⟩;have hwn:IntKind.i64.wrap ((q:Int)+1)=(n:Int):=by rw[IntKind.wrap_i64];omega
  have P:Calls Tryz.prog 22 #[.agg #[.int .i64 1,.int .i64 k,.int .i64 12]] w fun e w'=>∃M,e=.returned (.tuple #[pt M,.int .i64 0])/\∃L D F R,w.heap.size<=L/\Mc w' L D F (.slice none 0 0) (.slice none 0 0) M R 1 (newS 1 k 12) [wk0] DD.z/\Below w.heap.size w w':=newM 1 k 12 w (by omega) (by omega) (by omega) (by omega) (by omega);have HR:Aside (Ta.ShW w/\p<=16/\1<=n/\n<=10):=⟨hN,hp,by omega,by omega⟩;clear wp wn wk hN hk15 hp hq hn;go_enter Tryz.func5,Tryz.ntmps5
  go_wp2_with fail
  try simp only[hp8,hn8,hk]
  go_wp2_with fail
  refine P.mono ?_;rintro e w1 ⟨M,rfl,L,D,F1,R,hL,M1,b1⟩;have X1:Aside (Below w.heap.size w w1/\w.heap.size<=L/\Mc w1 L D F1 (.slice none 0 0) (.slice none 0 0) M R 1 (newS 1 k 12) [wk0] DD.z):=⟨b1,hL,M1⟩;have P1:=coreM M1;clear P M1 b1 hL
  go_wp2_with fail
  refine P1.mono ?_;rintro e w2 ⟨rfl,rfl⟩;clear P1
  go_wp2_with fail
  go_loopg [9,10] p (fun kx s9 s10 wr=>∃(i:Nat),s10=.int .i64 i/\i<=p/\p-i<=kx/\∃(ba:Option Addr)(bc:Nat),s9=.slice ba i bc/\Aside (Ta.OwnG Ta.rO wr w2.heap.size (.slice ba i bc) (nops i))/\Aside (Below w2.heap.size w2 wr))
  case atStart=>exact⟨0,rfl,by omega,by omega,none,0,rfl,Ta.OwnG.nil _ _ _,Below.refl _ _⟩
  case round=>
    obtain⟨i,rfl,hi,hkx,ba,bc,rfl,O,B⟩:=hrel;by_cases c:i<p
    · have hlt:(i:Int)<(p:Int):=by omega
      obtain⟨I1,hI1⟩:∃I1:Nat,i+1=I1:=⟨_,rfl⟩;have hwi:IntKind.i64.wrap ((i:Int)+1)=(I1:Int):=by rw[IntKind.wrap_i64];omega
      obtain⟨v',w',hr,o2,b2⟩:=O.out.push (1,0,0) (by rw[nops_len];have:=HR.out.2.1;omega) B.out.size 60;rw[nops_up,hI1] at o2;obtain⟨ba',bc',rfl,_⟩:=o2.isG;rw[nops_len] at o2 hr;have NX:Aside (Ta.OwnG Ta.rO w' w2.heap.size (.slice ba' I1 bc') (nops I1)/\Below w2.heap.size w2 w'/\i+1=I1/\i<p):=⟨o2,B.out.trans b2,hI1,c⟩;clear o2 b2 c hI1 O B
      go_wp2_with (at_builtin;refine Ta.wpList_app _ rfl _ _ 60 rfl _ _ rfl rfl (.slice ba' I1 bc') w' hr ?_)
      go_roundg (p-(i+1))
      case measure=>have:=NX.out.2.2.2;omega
      case rel=>exact⟨i+1,congrArg (Value.int .i64) (by have:=NX.out.2.2.1;omega),NX.out.2.2.2,Nat.le_refl _,ba',bc',by rw[NX.out.2.2.1],by rw[NX.out.2.2.1];exact NX.out.1,NX.out.2.1⟩
    · have hnl:¬(i:Int)<(p:Int):=by omega
      obtain rfl:i=p:=by omega
      have SB:Aside (Mc wr L D F1 (.slice none 0 0) (.slice none 0 0) M R 1 (newS 1 k 12) [wk0] DD.z/\OwO wr (Fm F1 M R) (.slice ba i bc) (nops i)/\Below w.heap.size w wr):=⟨X1.out.2.2.below B.out,⟨O.out.low (Nat.zero_le _),fun j hj q hq=>by
        have h1:=(O.out.rowLt hj).1;rcases hq with hq|⟨_,hq|hq⟩
        · have:=X1.out.2.2.co.fp.lt q j hq;omega
        · have:=lt_of_block X1.out.2.2.bm.1;omega
        · have:=lt_of_block X1.out.2.2.br.1;omega⟩,X1.out.1.trans (B.out.mono X1.out.1.size)⟩
      clear O B hkx hi
      go_wp2_with fail
      clear hnl;generalize wr=wb at SB⊢
      go_loopg [11,12,13] n (fun kx s11 s12 s13 wr=>∃(j:Nat),s11=.int .i64 j/\j<=n/\n-j<=kx/\∃(τ:CS)(Fr:Nat->Nat->Prop)(gr vr:Value),Aside (Mc wr L D Fr gr vr M R 1 τ [wk0] DD.z)/\Aside (Gc L (Fm F1 M R) wb (Fm Fr M R) wr)/\Aside (SubI M R (nops i) j wr Fr τ))
      case atStart=>exact⟨0,rfl,by omega,by omega,_,_,_,_,SB.out.1,Gc.refl _ _ _,⟨Al.new 1 k 12,fun j x hx=>by simp[newS] at hx,fun z hz=>by simp[newS] at hz,fun h=>absurd h (by omega)⟩⟩
      case round=>
        obtain⟨j,rfl,hj,hkj,τ,Fr,gr,vr,MM,GG,SS⟩:=hrel;have BW:Aside (Below w.heap.size w wr):=SB.out.2.2.trans (GG.out.low.mono X1.out.2.1);by_cases c:j<n
        · have hlt:(j:Int)<(n:Int):=by omega
          obtain⟨pr,hpr,hp7⟩:∃p:Nat,bits .and .i64 (j:Int) 7=(p:Int)/\p<=7:=⟨((j:Int)%8).toNat,by rw[mask_i64 (j:Int) 3 7 8 (by omega) rfl rfl];omega,by omega⟩;obtain⟨J1,hJ1⟩:∃J1:Nat,j+1=J1:=⟨_,rfl⟩;have hwj:IntKind.i64.wrap ((j:Int)+1)=(J1:Int):=by rw[IntKind.wrap_i64];have:=HR.out;omega
          have P1:=coreM MM.out
          have P2:Calls Tryz.prog 9 #[pt D.B,.int .i64 0,.int .i64 (pr:Int),.slice ba i bc,.slice none 0 0] wr fun e w'=>(∃z,e=.returned (.tuple #[.int .i64 z,.int .i64 0]))/\∃τ' F' g' v',Mc w' L D F' g' v' M R 1 τ' [wk0] DD.z/\Gc L (Fm F1 M R) wb (Fm F' M R) w'/\SubI M R (nops i) (j+1) w' F' τ':=by
            refine(alSub MM.out SS.out (by have:=HR.out;omega) (nops_len i) (SB.out.2.1.gc GG.out) (HR.out.1.low BW.out HR.out.1.big) (Nat.lt_of_lt_of_le HR.out.1.big X1.out.2.1) (nops_ok HR.out.2.1) pr hp7).mono ?_;rintro e w' ⟨hz,τ',F',g',v',M',G',S'⟩;exact⟨hz,τ',F',g',v',M',GG.out.trans G',S'⟩
          have HC:Aside (j<n/\j+1=J1):=⟨c,hJ1⟩;clear c hJ1 hp7
          go_wp2_with fail
          refine P1.mono ?_;rintro e w3 ⟨rfl,rfl⟩;clear P1
          go_wp2_with fail
          try simp only[hpr]
          try go_wp2_with fail
          refine Calls.mono P2 ?_;rintro r w4 ⟨⟨z,rfl⟩,τ',F4,g4,v4,M4,G4,S4⟩;have NX:Aside (Mc w4 L D F4 g4 v4 M R 1 τ' [wk0] DD.z/\Gc L (Fm F1 M R) wb (Fm F4 M R) w4/\SubI M R (nops i) (j+1) w4 F4 τ'):=⟨M4,G4,S4⟩;clear P2 M4 G4 S4 MM GG SS BW
          go_wp2_with fail
          go_roundg (n-(j+1))
          case measure=>have:=HC.out.1;omega
          case rel=>exact⟨j+1,congrArg (Value.int .i64) (by have:=HC.out.2;omega),HC.out.1,Nat.le_refl _,τ',F4,g4,v4,NX.out.1,NX.out.2.1,NX.out.2.2⟩
        · have hnl:¬(j:Int)<(n:Int):=by omega
          obtain rfl:j=n:=by omega
          obtain⟨A0,hA0⟩:∃A0,j*(i+3)=A0:=⟨_,rfl⟩;obtain⟨A1,hA1⟩:∃A1,A0+1=A1:=⟨_,rfl⟩;obtain⟨Q1,hQ1⟩:∃Q1,j*i=Q1:=⟨_,rfl⟩;have hmul:j*(i+3)=j*i+j*3:=Nat.mul_add _ _ _;have hq2:j*i<=10*16:=Nat.mul_le_mul HR.out.2.2.2 HR.out.2.1;have P:=alRest MM.out HR.out.2.2.1 HR.out.2.2.2 HR.out.2.1 (nops_len i) (nops_one i) SS.out (A1:=A1) (by rw[hA0];exact hA1);rw[hQ1] at P;have HQ:Aside (Q1<=160/\A1<=191/\A0+1=A1):=⟨by omega,by have:=HR.out;omega,hA1⟩;have w3:IntKind.i64.wrap ((i:Int)+3)=(i:Int)+3:=by rw[IntKind.wrap_i64];have:=HR.out;omega
          have wQ:IntKind.i64.wrap ((j:Int)*(i:Int))=(Q1:Int):=by rw[show(j:Int)*(i:Int)=(Q1:Int) by rw[<-hQ1];push_cast;rfl,IntKind.wrap_i64];have:=HQ.out;omega
          have wA:IntKind.i64.wrap ((j:Int)*((i:Int)+3))=(A0:Int):=by rw[show(j:Int)*((i:Int)+3)=(A0:Int) by rw[<-hA0];push_cast;rfl,IntKind.wrap_i64];have:=HQ.out;omega
          have wB:IntKind.i64.wrap ((A0:Int)+1)=(A1:Int):=by rw[IntKind.wrap_i64];have:=HQ.out;omega
          clear hA0 hA1 hQ1 hmul hq2 MM SS hkj hj
          go_wp2_with fail
          refine P.mono ?_;rintro e w5 ⟨rfl,y,τ',F5,g5,v5,M5,G5⟩;clear P;have X5:Aside (Mc w5 L D F5 g5 v5 M R 1 τ' [y] ⟨0,1,(j:Nat),(j:Nat),0,(Q1:Nat),(j:Nat)⟩/\Gc L (Fm F1 M R) wb (Fm F5 M R) w5):=⟨M5,GG.out.trans G5⟩;have hz:=makeZ7 w5;obtain⟨K,hK⟩:∃K,w5.heap.size=K:=⟨_,rfl⟩;obtain⟨u,hu⟩:∃z,w5.alloc (.cells #[.int .i64 0,.int .i64 0,.int .i64 0,.int .i64 0,.int .i64 0,.int .i64 0,.int .i64 0] 3)=z:=⟨_,rfl⟩;have hb:u.heap[K]?=some (.cells #[.int .i64 0,.int .i64 0,.int .i64 0,.int .i64 0,.int .i64 0,.int .i64 0,.int .i64 0] 3 (0,0)):=by rw[<-hu,<-hK];exact heap_alloc_new w5 _
          rw[hu,hK] at hz;have bu:Below w5.heap.size w5 u:=by rw[<-hu];exact belA _ _
          have alt:=lt_of_block hb;have afz:∀o,u.frozen? ⟨K,o,none⟩=false:=(fun o=>by simp[World.frozen?,hb]);have c1:u.cell? ⟨K,1,none⟩=some (.int .i64 0):=cell_of_row _ _ _ _ _ _ hb;have c2:u.cell? ⟨K,2,none⟩=some (.int .i64 0):=cell_of_row _ _ _ _ _ _ hb;have c3:u.cell? ⟨K,3,none⟩=some (.int .i64 0):=cell_of_row _ _ _ _ _ _ hb;have c5:u.cell? ⟨K,5,none⟩=some (.int .i64 0):=cell_of_row _ _ _ _ _ _ hb;have c6:u.cell? ⟨K,6,none⟩=some (.int .i64 0):=cell_of_row _ _ _ _ _ _ hb;obtain⟨u5,hu5⟩:∃z,(((((u.setCell ⟨K,1,none⟩ (.int .i64 1)).setCell ⟨K,2,none⟩ (.int .i64 (j:Int))).setCell ⟨K,3,none⟩ (.int .i64 (j:Int))).setCell ⟨K,5,none⟩ (.int .i64 (Q1:Int))).setCell ⟨K,6,none⟩ (.int .i64 (j:Int)))=z:=⟨_,rfl⟩
          have hb5:u5.heap[K]?=some (.cells #[.int .i64 0,.int .i64 1,.int .i64 (j:Int),.int .i64 (j:Int),.int .i64 0,.int .i64 (Q1:Int),.int .i64 (j:Int)] 3 (0,0)):=by
            rw[<-hu5];exact set_at (set_at (set_at (set_at (set_at hb _) _) _) _) _
          have b5:Below w5.heap.size w5 u5:=by
            rw[<-hu5];have hs:w5.heap.size<=K:=Nat.le_of_eq hK;exact((((bu.setCell hs _).setCell hs _).setCell hs _).setCell hs _).setCell hs _
          have XU:Aside (Mc u5 L D F5 g5 v5 M R 1 τ' [y] ⟨0,1,(j:Nat),(j:Nat),0,(Q1:Nat),(j:Nat)⟩/\Below w.heap.size w u5/\u5.heap[K]?=some (.cells #[.int .i64 0,.int .i64 1,.int .i64 (j:Int),.int .i64 (j:Int),.int .i64 0,.int .i64 (Q1:Int),.int .i64 (j:Int)] 3 (0,0))):=⟨M5.below b5,(SB.out.2.2.trans (X5.out.2.low.mono X1.out.2.1)).trans (b5.mono (SB.out.2.2.trans (X5.out.2.low.mono X1.out.2.1)).size),hb5⟩;have HU5:Aside _:=hu5;have P:=didM XU.out.1;clear M5 G5 GG hu hb bu hK b5 hb5 hu5
          go_wp2_with fail
          try simp only[wQ,w3,wA,wB]
          rw[HU5.out];try go_wp2_with fail
          refine P.mono ?_;rintro e w6 ⟨da,dc,rfl,od,b6⟩;clear P
          have P:Calls Tryz.prog 17 #[.slice da 7 dc,.slice (some ⟨K,0,none⟩) 7 7] w6 fun e w'=>e=.returned (.bool true)/\Below w6.heap.size w6 w':=by
            have I1:=od.isIv;have hk6:=(b6.block K (lt_of_block XU.out.2.2)).trans XU.out.2.2
            have I2:Da.IsI w6 (some ⟨K,0,none⟩) 7 (DD.list ⟨0,1,(j:Nat),(j:Nat),0,(Q1:Nat),(j:Nat)⟩):=⟨by show 7<=7;omega,by unfold maxLen;omega,fun i' x hx=>⟨K,0,rfl,lt_of_block hk6,by
              rw[cell_of_row _ _ _ _ _ _ hk6];have hi:=(List.getElem?_eq_some_iff.1 hx).1;have hi7:i'<7:=hi;have:i'=0\/i'=1\/i'=2\/i'=3\/i'=4\/i'=5\/i'=6:=by omega
              rcases this with rfl|rfl|rfl|rfl|rfl|rfl|rfl<;>(cases hx;rfl)⟩⟩
            refine(Da.same_any I1 I2).mono ?_;rintro e w' ⟨rfl,b⟩;exact⟨by simp,b⟩
          have X6:Aside (Below w.heap.size w w6):=XU.out.2.1.trans (b6.mono XU.out.2.1.size);clear od b6
          go_wp2_with fail
          refine P.mono ?_;rintro e w7 ⟨rfl,b7⟩;have X7:Aside (Below w.heap.size w w7):=X6.out.trans (b7.mono X6.out.size);clear P b7;have P:=awake20C w7
          go_wp2_with fail
          refine P.mono ?_;rintro e w8 ⟨rfl,b8⟩;have FIN:Aside (Below w.heap.size w w8):=X7.out.trans (b8.mono X7.out.size);clear P b8
          go_wp2_with fail
          go_ret;exact⟨rfl,FIN.out⟩
end Go.Proofs.YthpgfmmpjoodkaaGreatDoor
