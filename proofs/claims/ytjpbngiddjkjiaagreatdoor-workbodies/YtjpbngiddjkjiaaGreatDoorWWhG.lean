import Derived.Test.YtjpbngiddjkjiaaGreatDoorWTmS
import Derived.Maps.OwnOps
open Go.Proofs.Tryz
open Array(getElem?_setIfInBounds)
open List(getElem_of_mem)
open Nat(le_refl le_trans)
namespace Go.Proofs.YtjpbngiddjkjiaaGreatDoor.Wl
set_option linter.unusedSimpArgs false
set_option maxHeartbeats 8000000
set_option maxRecDepth 100000
set_option linter.unusedVariables false
section
open Go.RowKit Go.Lib Go.Sort
def insK(far:List Ent)(t:Ent):List Ent:=far.take (smal far t)++t::far.drop (smal far t)
def PutP(now D:Nat)(t:Ent)(u:Nat->Nat)(c:Nat->Nat->List Ent)(far:List Ent)(u':Nat->Nat)(c':Nat->Nat->List Ent)(far':List Ent):Prop:=
 ((plc now D).1<4/\u'=lset u (plc now D).1 (u (plc now D).1 ||| 2^(plc now D).2)/\c'=cset c (plc now D).1 (plc now D).2 (c (plc now D).1 (plc now D).2++[t])/\far'=far)\/
 (4<=(plc now D).1/\u'=u/\c'=c/\far'=insK far t)
def WGo(w:World)(B M base:Nat)(hd:Nat->Value)(now:Nat)(f:Int->Option Int)(n:Nat)(P:(Nat->Nat)->(Nat->Nat->List Ent)->List Ent->Prop)(w':World):Prop:=
 ∃hd' u' c' far',WhA w' B M base hd' now u' c' far' f n/\P u' c' far'/\Fr (foot B M hd) w w'/\∀k,foot B M hd' k->foot B M hd k\/w.heap.size<=k
theorem foot_row{B M i k:Nat}{hd:Nat->Value}(hi:i<263)(h:k=B\/rowB (hd i)=some k):foot B M hd k:=by
 rcases h with h|h
 ·exact .inl h
 ·exact .inr (.inr ⟨i,hi,h⟩)
theorem slt_lt'(now D:Nat):(plc now D).2<64:=slt_lt _ _
theorem put_any(w:World)(B M base now n D:Nat)(hd:Nat->Value)(u:Nat->Nat)(c:Nat->Nat->List Ent)(far:List Ent)(f:Int->Option Int)(t:Ent)(h:WhA w B M base hd now u c far f n)(htD:t.1=(D:Int))(hD:D<B64)(hls:∀l s,l<4->s<64->(c l s).length<=100000)(hlf:far.length<=100000)(hsf:Srt far)(hbase:base<=w.heap.size) :
  Calls prog 199 #[.pointer (some ⟨B,0,none⟩),.agg #[.int .u64 t.1,.int .i64 t.2]] w fun e w'=>e=.returned (.tuple #[])/\WGo w B M base hd now f n (PutP now D t u c far) w':=by
 obtain⟨S,hS⟩:∃S,w.heap.size=S:=⟨_,rfl⟩;obtain⟨u0,hu0⟩:∃u0,w.alloc (.cells #[.int .u64 t.1,.int .i64 t.2] 282)=u0:=⟨_,rfl⟩;have b0:Below w.heap.size w u0:=by rw[<-hu0];exact(Below.refl _ _).alloc (le_refl _) _
 have h0:WhA u0 B M base hd now u c far f n:=h.fr (Fr.below (X:=fun _=>False) b0) (fun _ _=>id);have z0:u0.cell? ⟨S,0,none⟩=some (.int .u64 t.1):=by rw[<-hu0,<-hS];simp[go_sem]
 have z1:u0.cell? ⟨S,1,none⟩=some (.int .i64 t.2):=by rw[<-hu0,<-hS];simp[go_sem]
 have s0:S<u0.heap.size:=by rw[<-hu0,<-hS];simp
 have hSu:u0.heap.size=S+1:=by rw[<-hu0,<-hS];simp
 have c0:=h0.head.cell (k:=0) (by omega);rw[h.h0] at c0;have pl:=place_any B now D h.nb hD u0 c0;rw[<-htD] at pl;have HU0:Hid _:=hu0;obtain⟨L,hL⟩:∃L,(plc now D).1=L:=⟨_,rfl⟩;obtain⟨Z,hZ⟩:∃Z,(plc now D).2=Z:=⟨_,rfl⟩;have hZ64:Z<64:=by rw[<-hZ];exact slt_lt' now D
 have HLZ:Aside ((plc now D).1=L/\(plc now D).2=Z):=⟨hL,hZ⟩;rw[hL,hZ] at pl;have b0d:Below w.heap.size w u0.drew:=b0.drew;have h0d:WhA u0.drew B M base hd now u c far f n:=h.fr (Fr.below (X:=fun _=>False) b0d) (fun _ _=>id);by_cases hl4:L<4
 ·have hl4z:(L:Int)<4:=by omega
  have rp:=rput_any B (2+L*65) Z base (u L) hd _ (c L Z) t u0.drew h0d.head (by omega) hZ64 (h.hu L hl4) (h.ub L hl4) rfl (h0d.slot L Z hl4 hZ64) (hls L Z hl4 hZ64) (by show base<=u0.heap.size;omega)
  have RP:Aside (Calls prog 234 #[.pointer (some ⟨B,2+L*65,none⟩),.int .i64 Z,.agg #[.int .u64 t.1,.int .i64 t.2]] u0.drew fun e w'=>e=.returned (.tuple #[])/\WGo w B M base hd now f n (PutP now D t u c far) w'/\w'.cell? ⟨S,0,none⟩=some (.int .u64 t.1)/\w'.cell? ⟨S,1,none⟩=some (.int .i64 t.2)):=by
   refine Calls.mono rp ?_;rintro e w' ⟨rfl,v',q1,q2,q3,q4⟩;have qS:w'.heap[S]?=u0.drew.heap[S]?:=q3.block S s0 (fun hx=>by rcases hx with hx|hx;exact absurd h.head.lt (by omega);exact absurd (h.rowLt (by omega) hx).2.1 (by omega));refine⟨rfl,⟨_,_,_,_,h0d.slotSet hl4 hZ64 q1 q2 q3 q4 (or_lt' _ _ (h.ub L hl4) hZ64),.inl ⟨by rw[hL];exact hl4,by rw[hL,hZ],by rw[hL,hZ],rfl⟩,?_,fun k hk=>?_⟩,(World.cell?_of_block (a:=⟨S,0,none⟩) qS).trans z0,(World.cell?_of_block (a:=⟨S,1,none⟩) qS).trans z1⟩
   ·exact(Fr.below b0d).trans q3 (fun j hj=>.inl (foot_row (by omega) hj))
   ·rcases foot_slot (w:=u0.drew) hl4 hZ64 q4 k hk with x|x
    ·exact .inl x
    ·right;have:u0.drew.heap.size=u0.heap.size:=rfl;omega
  have K0:Aside (u0.drew.cell? ⟨S,0,none⟩=some (.int .u64 t.1)/\u0.drew.cell? ⟨S,1,none⟩=some (.int .i64 t.2)):=⟨z0,z1⟩;have mx:=mixed;clear h b0 h0 c0 hu0 b0d h0d rp hls hlf hsf hL hZ hD htD;go_enter func199,ntmps199
  go_upto_region 1 with fail
  rw[HU0.out]
  go_wp2_with (go_at_call 231;refine pl.mono ?_;rintro e w' ⟨rfl,hw'⟩;obtain rfl:u0=w':=hw'.symm)
  go_region_held3 (fun W=>W.cell? ⟨S,0,none⟩=some (.int .u64 t.1)/\W.cell? ⟨S,1,none⟩=some (.int .i64 t.2)) (first|with_reducible exact K0.out|with_reducible exact G2) ((first|(go_at_call 234;(with_reducible refine Calls.mono RP.out ?_);rintro e w1 ⟨rfl,G1,G2⟩)))
  have G1':Aside (WGo w B M base hd now f n (PutP now D t u c far) w1):=G1;clear G1 G2
  go_wp2
  refine bodyPost_ret (results_none rfl _ _ _) rfl ⟨rfl,G1'.out⟩
 ·have hl4z:¬(L:Int)<4:=by omega
  obtain⟨va,vc,e0,-,hvc,hvm,hsL⟩:=h0d.far.isL;obtain⟨vn,hvn⟩:∃n,far.length=n:=⟨_,rfl⟩;have c2:=h0d.head.cell (k:=262) (by omega);have c2':=h0.head.cell (k:=262) (by omega);have bs:=bsearch_any va vc far t u0.drew hsL hsf hlf;rw[hvn] at bs e0;rw[e0] at c2 c2';obtain⟨sm,hsm⟩:∃k,smal far t=k:=⟨_,rfl⟩;have hsl:sm<=far.length:=by rw[<-hsm];exact smal_le far t
  rw[hsm] at bs
  have K0:Aside (∀W,Below u0.heap.size u0 W->W.cell? ⟨B,262,none⟩=some (.slice va vn vc)/\W.cell? ⟨S,0,none⟩=some (.int .u64 t.1)/\W.cell? ⟨S,1,none⟩=some (.int .i64 t.2)):=fun W hW=>
   ⟨(hW.cell (p:=⟨B,262,none⟩) h0.head.lt).trans c2',(hW.cell (p:=⟨S,0,none⟩) s0).trans z0,(hW.cell (p:=⟨S,1,none⟩) s0).trans z1⟩
  have g0:Below u0.heap.size u0 u0.drew:=(Below.refl _ _).drew;have BS:Aside (Calls prog 235 #[.slice va vn vc,.agg #[.int .u64 t.1,.int .i64 t.2],.func (.func 236) #[] #[]] u0.drew fun e w'=>(∃b,e=.returned (.tuple #[.int .i64 (sm:Int),.bool b]))/\Grown u0.drew w'):=bs;have H0:Aside (∀W,Below u0.heap.size u0 W->WhA W B M base hd now u c far f n/\Below w.heap.size w W):=fun W hW=>⟨h0.fr (Fr.below (X:=fun _=>False) hW) (fun _ _=>id),b0.trans (hW.mono b0.size)⟩
  have INS:Aside (∀W G,Below u0.heap.size u0 W->W.heap[G]?=some (.cells #[.int .u64 t.1,.int .i64 t.2] 282 (0,0))->u0.heap.size<=G->Calls prog 237 #[.slice va vn vc,.int .i64 sm,.slice (some ⟨G,0,none⟩) 1 1] W (InsF W base (.slice va vn vc) (insK far t))):=fun W G hW hG hGs=>by
   have hw:=(H0.out W hW).1;have:=insert_any (hd 262) base sm G far t W hw.far hsl hlf hG (fun e=>by have:=(h0.rowLt (by omega) e).2.1;omega) (by have:=(H0.out W hW).2.size;omega);rw[e0] at this;unfold insK;rw[hsm];exact this
  have HDE:Hid (hd 262=.slice va vn vc):=e0;have HLn:Hid (far.length=vn):=hvn;have HNL:Hid (¬L<4):=hl4
  have FIN:Aside (∀W w2 v',Below u0.heap.size u0 W->OwnF w2 base v' (insK far t)->W.grownBy w2 (rowB (.slice va vn vc))->(∀k,rowB v'=some k->rowB (.slice va vn vc)=some k\/W.heap.size<=k)->(w2.cell? ⟨B,262,none⟩=some (.slice va vn vc)/\w2.cell? ⟨S,0,none⟩=some (.int .u64 t.1)/\w2.cell? ⟨S,1,none⟩=some (.int .i64 t.2))/\w2.frozen? ⟨B,262,none⟩=false/\WGo w B M base hd now f n (PutP now D t u c far) (w2.setCell ⟨B,262,none⟩ v')):=by
   intro W w2 v' hW o2 g2 n2;obtain⟨hw,bw⟩:=H0.out W hW;rw[<-e0] at g2 n2;have nB:rowB (hd 262)≠some B:=fun e=>(h0.rowLt (by omega) e).2.2.1 rfl;have nS:rowB (hd 262)≠some S:=fun e=>by have:=(h.rowLt (by omega) e).2.1;omega
   obtain⟨k0,k1,k2⟩:=K0.out W hW;have hh2:Hd w2 B hd:=hw.head.of_block (g2.block B hw.head.lt (fun e=>nB e.symm));have f2:Fr (fun k=>k=B\/rowB (hd 262)=some k) W (w2.setCell ⟨B,262,none⟩ v'):=((Fr.of_grown g2).mono (fun j hj=>.inr hj)).trans (Fr.setCell (fun k=>k=B\/rowB (hd 262)=some k) _ _ _ _ (.inl rfl)) (fun j hj=>.inl hj);refine⟨⟨g2.cell k0 (fun e=>nB e.symm),g2.cell k1 (fun e=>nS e.symm),g2.cell k2 (fun e=>nS e.symm)⟩,hh2.frozen _,_,_,_,_,hw.farSet (hh2.set 262 v') (o2.of_block fun k hk=>heap_setCell_other _ _ _ _ (fun e=>?_)) f2 n2,.inr ⟨by rw[hL];omega,rfl,rfl,rfl⟩,(Fr.below bw).trans f2 (fun j hj=>.inl (foot_row (by omega) hj)),fun k hk=>?_⟩
   ·rcases n2 k hk with x|x
    ·exact nB (by rw[x,e])
    ·have:=hw.head.lt;rw[e] at x;exact absurd x (by show ¬W.heap.size<=B;omega)
   ·rcases foot_far (w:=W) n2 k hk with x|x
    ·exact .inl x
    ·right;have:=bw.size;omega
  have hsz:(sm:Int)<=(vn:Int):=by omega
  have mx:=mixed;clear h b0 h0 c0 hu0 b0d h0d hls hlf hsf hL hZ hD htD hsL bs c2 c2' hvc hvm hsm hsl e0 hvn hl4;go_enter func199,ntmps199
  go_upto_region 1 with fail
  rw[HU0.out]
  go_wp2_with (go_at_call 231;refine pl.mono ?_;rintro e w' ⟨rfl,hw'⟩;obtain rfl:u0=w':=hw'.symm)
  go_region_held3 (fun W=>W.cell? ⟨B,262,none⟩=some (.slice va vn vc)/\W.cell? ⟨S,0,none⟩=some (.int .u64 t.1)/\W.cell? ⟨S,1,none⟩=some (.int .i64 t.2)) (first|with_reducible exact K0.out _ g0|with_reducible exact K0.out _ g1) ((first|(go_at_call 235;(with_reducible refine Calls.mono BS.out ?_);rintro e w1 ⟨⟨bb,rfl⟩,b1⟩;have g1:Below u0.heap.size u0 w1:=g0.trans b1.below)))
  have G1:Aside (Below u0.heap.size u0 w1):=g1;obtain⟨w2,hw2⟩:∃w2,(w1.alloc (.cells #[.int .u64 t.1,.int .i64 t.2] 282)).drew=w2:=⟨_,rfl⟩;have HW2:Hid _:=hw2;have g2:Below u0.heap.size u0 w2:=by rw[<-hw2];exact(g1.alloc g1.size _).drew
  have g1d:Below u0.heap.size u0 w1.drew:=g1.drew;obtain⟨G,hG⟩:∃G,w1.heap.size=G:=⟨_,rfl⟩;have hGs:u0.heap.size<=G:=by rw[<-hG];exact g1.size
  have hGc:w2.heap[G]?=some (.cells #[.int .u64 t.1,.int .i64 t.2] 282 (0,0)):=by rw[<-hw2,<-hG];exact heap_alloc_new w1 _
  have ins:=INS.out w2 G g2 hGc hGs;have I0:Aside (Calls prog 237 #[.slice va vn vc,.int .i64 sm,.slice (some ⟨G,0,none⟩) 1 1] w2 (InsF w2 base (.slice va vn vc) (insK far t))):=ins;have KA:Aside (w1.drew.cell? ⟨B,262,none⟩=some (.slice va vn vc)/\w1.drew.cell? ⟨S,0,none⟩=some (.int .u64 t.1)/\w1.drew.cell? ⟨S,1,none⟩=some (.int .i64 t.2)):=K0.out _ g1d;have KB:Aside (w2.cell? ⟨B,262,none⟩=some (.slice va vn vc)/\w2.cell? ⟨S,0,none⟩=some (.int .u64 t.1)/\w2.cell? ⟨S,1,none⟩=some (.int .i64 t.2)):=K0.out _ g2;have FN:Aside (∀w3 v',OwnF w3 base v' (insK far t)->w2.grownBy w3 (rowB (.slice va vn vc))->(∀k,rowB v'=some k->rowB (.slice va vn vc)=some k\/w2.heap.size<=k)->(w3.cell? ⟨B,262,none⟩=some (.slice va vn vc)/\w3.cell? ⟨S,0,none⟩=some (.int .u64 t.1)/\w3.cell? ⟨S,1,none⟩=some (.int .i64 t.2))/\w3.frozen? ⟨B,262,none⟩=false/\WGo w B M base hd now f n (PutP now D t u c far) (w3.setCell ⟨B,262,none⟩ v')):=fun w3 v' a b d=>FIN.out w2 w3 v' g2 a b d;clear ins hw2 g2 g1d b1 g1 hGc hGs FIN INS BS K0 G1 g0
  go_wp2_with fail
  refine anyE_start (S:=(fun v0=>v0.cell? ⟨B,262,none⟩=some (.slice va vn vc)/\v0.cell? ⟨S,0,none⟩=some (.int .u64 t.1)/\v0.cell? ⟨S,1,none⟩=some (.int .i64 t.2))) (L:=11) (by kernel_rfl) ?_;refine anyE_u (i:=0) KA.out rfl (by kernel_rfl) (fun w z=>by go_simp<;>rfl) (fun _ _ _ h=>h) ?_;refine anyE_u (i:=1) KA.out rfl (by kernel_rfl) (fun w z=>by go_simp<;>rfl) (fun _ _ _ h=>h) ?_;refine anyE_u (i:=2) KA.out rfl (by kernel_rfl) (fun w z=>by go_simp<;>rfl) (fun _ _ _ h=>h) ?_;refine anyE_u (i:=3) KA.out rfl (by kernel_rfl) (fun w z=>by go_simp<;>rfl) (fun _ _ _ h=>h) ?_;refine anyE_u (i:=4) KA.out rfl (by kernel_rfl) (fun w z=>by go_simp<;>rfl) (fun _ _ _ h=>h) ?_;refine anyE_u (i:=5) KA.out rfl (by kernel_rfl) (fun w z=>by go_simp<;>rfl) (fun _ _ _ h=>h) ?_;refine anyE_u (i:=6) KA.out rfl (by kernel_rfl) (fun w z=>by go_simp<;>rfl) (fun _ _ _ h=>h) ?_;simp only[Act.put,sA,sB,sC];refine anyE_ready (rs:=[7]) (by kernel_rfl) (by simp) ?_;refine AllE.cons rfl (fun Kt hKt=>?_) ?_
  ·go_simp
   rw[HW2.out];refine hKt.out _ _ (fun _=>KB.out) ?_;clear hKt Kt;try simp only[Act.put,sA,sB,sC]
   refine anyE_ready (rs:=[8]) (by kernel_rfl) (by simp) ?_;refine AllE.cons (o:={dst:=some 42,op:=Op.call {callee:=Callee.value (Operand.func 237),args:=#[Operand.tmp 38,Operand.tmp 39,Operand.tmp 41],argTypes:=#[94,3,94]},type:=94,pos:= "wheel.go:125",after:=#[⟨4,.data⟩,⟨5,.data⟩,⟨7,.data⟩],guard:=none}) rfl (fun Kt hKt=>?_) ?_
   ·go_simp
    (with_reducible refine Calls.mono I0.out ?_)
    rintro x_ w3 ⟨v',rfl,o3,g3,n3⟩;obtain⟨pa,pc,e3,-⟩:=o3.isL;obtain⟨pn,hpn⟩:∃n,(insK far t).length=n:=⟨_,rfl⟩;rw[hpn] at e3;subst e3;obtain⟨y1,y2,y3⟩:=FN.out w3 _ o3 g3 n3;have z2:=y1.1;have Y3:Aside (WGo w B M base hd now f n (PutP now D t u c far) (w3.setCell ⟨B,262,none⟩ (.slice pa pn pc))):=y3;clear o3 g3 n3 y3 FN I0 hpn;dsimp only;refine hKt.out _ _ (fun _=>y1) ?_;clear hKt Kt;try simp only[Act.put,sA,sB,sC]
    refine anyF_u [10] (i:=9) y1 rfl (by kernel_rfl) (fun w z=>by go_simp<;>rfl) (fun _ _ _ h=>h) ?_;refine anyE_u (i:=10) y1 rfl (by kernel_rfl) (fun w z=>by go_simp<;>rfl) (fun _ _ _ h=>h) ?_;simp only[Act.put,sA,sB,sC];refine anyE_ready (rs:=[11]) (by kernel_rfl) (by simp) ?_;refine AllE.cons rfl (fun Kt hKt=>?_) ?_
    ·go_simp
     refine hKt.out _ _ (fun h=>absurd rfl h) ?_;clear hKt Kt;try simp only[Act.put,sA,sB,sC]
     refine anyE_done (by kernel_rfl) ?_ _
     go_wp2
     go_end0
     exact⟨rfl,Y3.out⟩
    exact AllE.nil
   exact AllE.nil
  exact AllE.nil
def DropP(now D:Nat)(t:Ent)(u:Nat->Nat)(c:Nat->Nat->List Ent)(far:List Ent)(u':Nat->Nat)(c':Nat->Nat->List Ent)(far':List Ent):Prop:=
 ((plc now D).1<4/\u'=lset u (plc now D).1 (dropU (u (plc now D).1) (plc now D).2 ((c (plc now D).1 (plc now D).2).erase t))/\c'=cset c (plc now D).1 (plc now D).2 ((c (plc now D).1 (plc now D).2).erase t)/\far'=far)\/
 (4<=(plc now D).1/\u'=u/\c'=c/\far'=far.erase t)
theorem dropU_lt(u s:Nat)(d:List Ent)(hu:u<B64):dropU u s d<B64:=by
 unfold dropU
 split
 ·exact clr_lt _ _ hu
 ·exact hu
theorem drop_any(w:World)(B M base now n D:Nat)(hd:Nat->Value)(u:Nat->Nat)(c:Nat->Nat->List Ent)(far:List Ent)(f:Int->Option Int)(t:Ent)(h:WhA w B M base hd now u c far f n)(htD:t.1=(D:Int))(hD:D<B64)(hin:(plc now D).1<4->(c (plc now D).1 (plc now D).2).Nodup/\t∈c (plc now D).1 (plc now D).2)(hif:4<=(plc now D).1->far.Nodup/\t∈far) :
  Calls prog 197 #[.pointer (some ⟨B,0,none⟩),.agg #[.int .u64 t.1,.int .i64 t.2]] w fun e w'=>e=.returned (.tuple #[])/\WGo w B M base hd now f n (DropP now D t u c far) w':=by
 obtain⟨S,hS⟩:∃S,w.heap.size=S:=⟨_,rfl⟩;obtain⟨u0,hu0⟩:∃u0,w.alloc (.cells #[.int .u64 t.1,.int .i64 t.2] 282)=u0:=⟨_,rfl⟩;have b0:Below w.heap.size w u0:=by rw[<-hu0];exact(Below.refl _ _).alloc (le_refl _) _
 have h0:WhA u0 B M base hd now u c far f n:=h.fr (Fr.below (X:=fun _=>False) b0) (fun _ _=>id);have z0:u0.cell? ⟨S,0,none⟩=some (.int .u64 t.1):=by rw[<-hu0,<-hS];simp[go_sem]
 have z1:u0.cell? ⟨S,1,none⟩=some (.int .i64 t.2):=by rw[<-hu0,<-hS];simp[go_sem]
 have s0:S<u0.heap.size:=by rw[<-hu0,<-hS];simp
 have hSu:u0.heap.size=S+1:=by rw[<-hu0,<-hS];simp
 have c0:=h0.head.cell (k:=0) (by omega);rw[h.h0] at c0;have pl:=place_any B now D h.nb hD u0 c0;rw[<-htD] at pl;have HU0:Hid _:=hu0;obtain⟨L,hL⟩:∃L,(plc now D).1=L:=⟨_,rfl⟩;obtain⟨Z,hZ⟩:∃Z,(plc now D).2=Z:=⟨_,rfl⟩;have hZ64:Z<64:=by rw[<-hZ];exact slt_lt' now D
 rw[hL,hZ] at pl hin;rw[hL] at hif;have b0d:Below w.heap.size w u0.drew:=b0.drew;have h0d:WhA u0.drew B M base hd now u c far f n:=h.fr (Fr.below (X:=fun _=>False) b0d) (fun _ _=>id);by_cases hl4:L<4
 ·have hl4z:(L:Int)<4:=by omega
  obtain⟨hnd,hmem⟩:=hin hl4;have rp:=rdrop_any B (2+L*65) Z base (u L) hd _ (c L Z) t u0.drew h0d.head (by omega) hZ64 (h.hu L hl4) (h.ub L hl4) rfl (h0d.slot L Z hl4 hZ64) hnd hmem
  have RP:Aside (Calls prog 232 #[.pointer (some ⟨B,2+L*65,none⟩),.int .i64 Z,.agg #[.int .u64 t.1,.int .i64 t.2]] u0.drew fun e w'=>e=.returned (.tuple #[])/\WGo w B M base hd now f n (DropP now D t u c far) w'/\w'.cell? ⟨S,0,none⟩=some (.int .u64 t.1)/\w'.cell? ⟨S,1,none⟩=some (.int .i64 t.2)):=by
   refine Calls.mono rp ?_;rintro e w' ⟨rfl,v',q1,q2,q3,q4⟩;have qS:w'.heap[S]?=u0.drew.heap[S]?:=q3.block S s0 (fun hx=>by rcases hx with hx|hx;exact absurd h.head.lt (by omega);exact absurd (h.rowLt (by omega) hx).2.1 (by omega));refine⟨rfl,⟨_,_,_,_,h0d.slotSet hl4 hZ64 q1 q2 q3 (fun k hk=>.inl (q4 k hk)) (dropU_lt _ _ _ (h.ub L hl4)),.inl ⟨by rw[hL];exact hl4,by rw[hL,hZ],by rw[hL,hZ],rfl⟩,?_,fun k hk=>?_⟩,(World.cell?_of_block (a:=⟨S,0,none⟩) qS).trans z0,(World.cell?_of_block (a:=⟨S,1,none⟩) qS).trans z1⟩
   ·exact(Fr.below b0d).trans q3 (fun j hj=>.inl (foot_row (by omega) hj))
   ·rcases foot_slot (w:=u0.drew) hl4 hZ64 (fun k hk=>.inl (q4 k hk)) k hk with x|x
    ·exact .inl x
    ·right;have:u0.drew.heap.size=u0.heap.size:=rfl;omega
  have K0:Aside (u0.drew.cell? ⟨S,0,none⟩=some (.int .u64 t.1)/\u0.drew.cell? ⟨S,1,none⟩=some (.int .i64 t.2)):=⟨z0,z1⟩;have mx:=mixed;clear h b0 h0 c0 hu0 b0d h0d rp hL hZ hD htD hin hif hnd hmem;go_enter func197,ntmps197
  go_upto_region 1 with fail
  rw[HU0.out]
  go_wp2_with (go_at_call 231;refine pl.mono ?_;rintro e w' ⟨rfl,hw'⟩;obtain rfl:u0=w':=hw'.symm)
  go_region_held3 (fun W=>W.cell? ⟨S,0,none⟩=some (.int .u64 t.1)/\W.cell? ⟨S,1,none⟩=some (.int .i64 t.2)) (first|with_reducible exact K0.out|with_reducible exact G2) ((first|(go_at_call 232;(with_reducible refine Calls.mono RP.out ?_);rintro e w1 ⟨rfl,G1,G2⟩)))
  have G1':Aside (WGo w B M base hd now f n (DropP now D t u c far) w1):=G1;clear G1 G2
  go_wp2
  refine bodyPost_ret (results_none rfl _ _ _) rfl ⟨rfl,G1'.out⟩
 ·have hl4z:¬(L:Int)<4:=by omega
  obtain⟨hnd,hmem⟩:=hif (by omega);obtain⟨va,vc,e0,-,hvc,hvm,hsL⟩:=h0d.far.isL;obtain⟨vn,hvn⟩:∃n,far.length=n:=⟨_,rfl⟩;have c2:=h0d.head.cell (k:=262) (by omega);have wo:=without_any (hd 262) base far t u0.drew h0d.far hnd hmem;rw[hvn] at e0;have KA:Aside (u0.drew.cell? ⟨B,262,none⟩=some (.slice va vn vc)/\u0.drew.cell? ⟨S,0,none⟩=some (.int .u64 t.1)/\u0.drew.cell? ⟨S,1,none⟩=some (.int .i64 t.2)):=⟨by rw[c2,e0],z0,z1⟩;have I0:Aside (Calls prog 233 #[.slice va vn vc,.agg #[.int .u64 t.1,.int .i64 t.2]] u0.drew fun r w'=>∃v',r=.returned v'/\OwnF w' base v' (far.erase t)/\rowB v'=rowB (hd 262)/\u0.drew.grownBy w' (rowB (hd 262))):=by rw[<-e0];exact wo
  have FN:Aside (∀w2 v',OwnF w2 base v' (far.erase t)->rowB v'=rowB (hd 262)->u0.drew.grownBy w2 (rowB (hd 262))->(w2.cell? ⟨B,262,none⟩=some (.slice va vn vc)/\w2.cell? ⟨S,0,none⟩=some (.int .u64 t.1)/\w2.cell? ⟨S,1,none⟩=some (.int .i64 t.2))/\w2.frozen? ⟨B,262,none⟩=false/\WGo w B M base hd now f n (DropP now D t u c far) (w2.setCell ⟨B,262,none⟩ v')):=by
   intro w2 v' o2 r2 g2;have nB:rowB (hd 262)≠some B:=fun e=>(h0.rowLt (by omega) e).2.2.1 rfl;have nS:rowB (hd 262)≠some S:=fun e=>by have:=(h.rowLt (by omega) e).2.1;omega
   have hh2:Hd w2 B hd:=h0d.head.of_block (g2.block B h0d.head.lt (fun e=>nB e.symm));have f2:Fr (fun k=>k=B\/rowB (hd 262)=some k) u0.drew (w2.setCell ⟨B,262,none⟩ v'):=((Fr.of_grown g2).mono (fun j hj=>.inr hj)).trans (Fr.setCell (fun k=>k=B\/rowB (hd 262)=some k) _ _ _ _ (.inl rfl)) (fun j hj=>.inl hj);have n2:∀k,rowB v'=some k->rowB (hd 262)=some k\/u0.drew.heap.size<=k:=fun k hk=>.inl (by rw[<-r2];exact hk);refine⟨⟨g2.cell KA.out.1 (fun e=>nB e.symm),g2.cell KA.out.2.1 (fun e=>nS e.symm),g2.cell KA.out.2.2 (fun e=>nS e.symm)⟩,hh2.frozen _,_,_,_,_,h0d.farSet (hh2.set 262 v') (o2.of_block fun k hk=>heap_setCell_other _ _ _ _ (fun e=>nB (by rw[<-r2,hk,e]))) f2 n2,.inr ⟨by rw[hL];omega,rfl,rfl,rfl⟩,(Fr.below b0d).trans f2 (fun j hj=>.inl (foot_row (by omega) hj)),fun k hk=>?_⟩;rcases foot_far (w:=u0.drew) n2 k hk with x|x
   ·exact .inl x
   ·right;have:u0.drew.heap.size=u0.heap.size:=rfl;omega
  have mx:=mixed;clear h b0 h0 c0 hu0 b0d h0d hL hZ hD htD hsL c2 hvc hvm e0 hvn hl4 hin hif hnd hmem wo;go_enter func197,ntmps197
  go_upto_region 1 with fail
  rw[HU0.out]
  go_wp2_with (go_at_call 231;refine pl.mono ?_;rintro e w' ⟨rfl,hw'⟩;obtain rfl:u0=w':=hw'.symm)
  refine anyE_start (S:=(fun v0=>v0.cell? ⟨B,262,none⟩=some (.slice va vn vc)/\v0.cell? ⟨S,0,none⟩=some (.int .u64 t.1)/\v0.cell? ⟨S,1,none⟩=some (.int .i64 t.2))) (L:=9) (by kernel_rfl) ?_;refine anyE_u (i:=0) KA.out rfl (by kernel_rfl) (fun w z=>by go_simp<;>rfl) (fun _ _ _ h=>h) ?_;refine anyE_u (i:=1) KA.out rfl (by kernel_rfl) (fun w z=>by go_simp<;>rfl) (fun _ _ _ h=>h) ?_;refine anyE_u (i:=2) KA.out rfl (by kernel_rfl) (fun w z=>by go_simp<;>rfl) (fun _ _ _ h=>h) ?_;refine anyE_u (i:=3) KA.out rfl (by kernel_rfl) (fun w z=>by go_simp<;>rfl) (fun _ _ _ h=>h) ?_;refine anyE_u (i:=4) KA.out rfl (by kernel_rfl) (fun w z=>by go_simp<;>rfl) (fun _ _ _ h=>h) ?_;refine anyE_u (i:=5) KA.out rfl (by kernel_rfl) (fun w z=>by go_simp<;>rfl) (fun _ _ _ h=>h) ?_;simp only[Act.put,sA,sB,sC];refine anyE_ready (rs:=[6]) (by kernel_rfl) (by simp) ?_;refine AllE.cons (o:={dst:=some 29,op:=Op.call {callee:=Callee.value (Operand.func 233),args:=#[Operand.tmp 27,Operand.tmp 28],argTypes:=#[94,282]},type:=94,pos:= "wheel.go:135",after:=#[⟨4,.data⟩,⟨5,.data⟩],guard:=none}) rfl (fun Kt hKt=>?_) ?_
  ·go_simp
   (with_reducible refine Calls.mono I0.out ?_)
   rintro x_ w3 ⟨v',rfl,o3,r3,g3⟩;obtain⟨pa,pc,e3,-⟩:=o3.isL;obtain⟨pn,hpn⟩:∃n,(far.erase t).length=n:=⟨_,rfl⟩;rw[hpn] at e3;subst e3;obtain⟨y1,y2,y3⟩:=FN.out w3 _ o3 r3 g3;have z2:=y1.1;have Y3:Aside (WGo w B M base hd now f n (DropP now D t u c far) (w3.setCell ⟨B,262,none⟩ (.slice pa pn pc))):=y3;clear o3 g3 r3 y3 FN I0 hpn;dsimp only;refine hKt.out _ _ (fun _=>y1) ?_;clear hKt Kt;try simp only[Act.put,sA,sB,sC]
   refine anyF_u [8] (i:=7) y1 rfl (by kernel_rfl) (fun w z=>by go_simp<;>rfl) (fun _ _ _ h=>h) ?_;refine anyE_u (i:=8) y1 rfl (by kernel_rfl) (fun w z=>by go_simp<;>rfl) (fun _ _ _ h=>h) ?_;simp only[Act.put,sA,sB,sC];refine anyE_ready (rs:=[9]) (by kernel_rfl) (by simp) ?_;refine AllE.cons rfl (fun Kt hKt=>?_) ?_
   ·go_simp
    refine hKt.out _ _ (fun h=>absurd rfl h) ?_;clear hKt Kt;try simp only[Act.put,sA,sB,sC]
    refine anyE_done (by kernel_rfl) ?_ _
    go_wp2
    go_end0
    exact⟨rfl,Y3.out⟩
   exact AllE.nil
  exact AllE.nil
end
section
open Go.Lib Go.Sort
theorem nodup_of_ids{T:List Ent}(h:(T.map Prod.snd).Nodup):T.Nodup:=List.Pairwise.of_map Prod.snd (fun a b h e=>h (by rw[e])) h
theorem ids_inj{T:List Ent}(h:(T.map Prod.snd).Nodup){x y:Ent}(hx:x∈T)(hy:y∈T)(e:x.2=y.2):x=y:=by
 obtain⟨i,hi,rfl⟩:=getElem_of_mem hx;obtain⟨j,hj,rfl⟩:=getElem_of_mem hy;have hp:=List.pairwise_iff_getElem.1 h;rcases Nat.lt_trichotomy i j with c|c|c
 ·have:=hp i j (by simpa using hi) (by simpa using hj) c;simp at this;exact absurd e this
 ·subst c;rfl
 ·have:=hp j i (by simpa using hj) (by simpa using hi) c;simp at this;exact absurd e.symm this
theorem smal_low{d:List Ent}(hs:Srt d)(t:Ent):(∀i (hi:i<d.length),i<smal d t->ltE d[i] t=true)/\(∀i (hi:i<d.length),smal d t<=i->ltE d[i] t=false):=by
 have key:∀i (hi:i<d.length),ltE d[i] t=true->i<smal d t:=fun i hi h=>by
  have h1:smal (d.take (i+1)) t=(d.take (i+1)).length:=smal_all fun x hx=>by
   obtain⟨j,hj,rfl⟩:=getElem_of_mem hx;rw[List.length_take] at hj;rw[List.getElem_take];rcases Nat.lt_or_ge j i with c|c
   ·have h3:=hs.get (i:=j) (j:=i) c hi;rw[ltE_iff] at h⊢;rw[ltE_not] at h3;omega
   ·have:j=i:=by omega
    subst this;exact h
  rw[smal_split d t (i+1),h1];simp;omega
 have key2:∀i (hi:i<d.length),ltE d[i] t=false->smal d t<=i:=fun i hi h=>by
  have h1:smal (d.drop i) t=0:=smal_none fun x hx=>by
   obtain⟨j,hj,rfl⟩:=getElem_of_mem hx;rw[List.length_drop] at hj;rw[List.getElem_drop];exact swoE.ntrans _ _ _ (hs.le (show i<=i+j by omega) (by omega)) h
  rw[smal_split d t i,h1];have:=smal_le (d.take i) t;simp at this;omega
 refine⟨fun i hi h=>?_,fun i hi h=>?_⟩
 ·cases e:ltE d[i] t with
  | true=>rfl
  | false=>have:=key2 i hi e;omega
 ·cases e:ltE d[i] t with
  | false=>rfl
  | true=>have:=key i hi e;omega
theorem insK_insL{d:List Ent}(hs:Srt d){t:Ent}(ht:t∉d):insK d t=insL d t:=by
 obtain⟨h1,h2⟩:=smal_low hs t;refine insL_eq d t _ (smal_le d t) (fun i hi h=>swoE.asymmA (h1 i h hi)) (fun h=>?_)
 cases e:ltE t d[smal d t] with
 | true=>rfl
 | false=>exact absurd (totE _ _ e (h2 _ h (le_refl _))) (fun e'=>ht (by rw[e'];exact List.getElem_mem _))
theorem insL_mem{d:List Ent}{t x:Ent}:x∈insL d t↔x=t\/x∈d:=by rw[(insL_perm d t).mem_iff];simp
theorem Srt.erase{d:List Ent}(h:Srt d)(t:Ent):Srt (d.erase t):=List.Pairwise.sublist List.erase_sublist h
structure WhL(now:Nat)(u:Nat->Nat)(c:Nat->Nat->List Ent)(far:List Ent)(S:Ent->Prop):Prop where
 rng:∀x,S x->∃D:Nat,x.1=(D:Int)/\D<B64
 slotM:∀l s,l<4->s<64->∀x,x∈c l s↔S x/\plc now x.1.toNat=(l,s)
 slotN:∀l s,l<4->s<64->(c l s).Nodup
 farM:∀x,x∈far↔S x/\4<=(plc now x.1.toNat).1
 farS:Srt far
 farN:far.Nodup
 used:∀l s,l<4->s<64->(u l).testBit s=!(c l s).isEmpty
variable {now:Nat}{u:Nat->Nat}{c:Nat->Nat->List Ent}{far:List Ent}{S S':Ent->Prop}{u':Nat->Nat}{c':Nat->Nat->List Ent}{far':List Ent}{t:Ent}{D:Nat}
theorem WhL.congr(h:WhL now u c far S)(e:∀x,S x↔S' x):WhL now u c far S':=by
 have:S=S':=funext fun x=>propext (e x);rw[<-this];exact h
theorem WhL.put(h:WhL now u c far S)(hP:PutP now D t u c far u' c' far')(htD:t.1=(D:Int))(hD:D<B64)(ht:¬S t):WhL now u' c' far' (fun x=>S x\/x=t):=by
 have eD:t.1.toNat=D:=by omega
 have tp:plc now t.1.toNat=plc now D:=by rw[eD]
 have rng:∀x,S x\/x=t->∃D:Nat,x.1=(D:Int)/\D<B64:=fun x hx=>by
  rcases hx with hx|rfl
  ·exact h.rng x hx
  ·exact⟨D,htD,hD⟩
 obtain⟨L,hL⟩:∃L,(plc now D).1=L:=⟨_,rfl⟩;obtain⟨Z,hZ⟩:∃Z,(plc now D).2=Z:=⟨_,rfl⟩;have hp:plc now D=(L,Z):=Prod.ext hL hZ;have hZ64:Z<64:=by rw[<-hZ];exact slt_lt' now D
 rcases hP with⟨hl,rfl,rfl,rfl⟩|⟨hl,rfl,rfl,rfl⟩
 ·rw[hL] at hl;rw[hL,hZ];refine⟨rng,fun l s hl' hs' x=>?_,fun l s hl' hs'=>?_,fun x=>?_,h.farS,h.farN,fun l s hl' hs'=>?_⟩
  ·by_cases ce:l=L/\s=Z
   ·obtain⟨rfl,rfl⟩:=ce;rw[cset_same,List.mem_append,h.slotM l s hl' hs',List.mem_singleton];constructor
    ·rintro(⟨h1,h2⟩|rfl)
     ·exact⟨.inl h1,h2⟩
     ·exact⟨.inr rfl,by rw[tp,hp]⟩
    ·rintro⟨h1|rfl,h2⟩
     ·exact .inl ⟨h1,h2⟩
     ·exact .inr rfl
   ·rw[cset_ne _ _ ce,h.slotM l s hl' hs'];constructor
    ·rintro⟨h1,h2⟩;exact⟨.inl h1,h2⟩
    ·rintro⟨h1|rfl,h2⟩
     ·exact⟨h1,h2⟩
     ·rw[tp,hp] at h2;injection h2 with e1 e2
      exact absurd ⟨e1.symm,e2.symm⟩ ce
  ·by_cases ce:l=L/\s=Z
   ·obtain⟨rfl,rfl⟩:=ce;rw[cset_same,List.nodup_append];refine⟨h.slotN l s hl' hs',by simp,fun a ha b hb e=>?_⟩;simp at hb;rw[e,hb] at ha;exact ht ((h.slotM l s hl' hs' t).1 ha).1
   ·rw[cset_ne _ _ ce];exact h.slotN l s hl' hs'
  ·rw[h.farM];constructor
   ·rintro⟨h1,h2⟩;exact⟨.inl h1,h2⟩
   ·rintro⟨h1|rfl,h2⟩
    ·exact⟨h1,h2⟩
    ·rw[tp,hp] at h2;exact absurd h2 (by show ¬4<=L;omega)
  ·by_cases ce:l=L
   ·subst ce;rw[lset_same,or_bit,h.used l s hl' hs'];by_cases cs:s=Z
    ·subst cs;rw[cset_same];simp
    ·rw[cset_ne _ _ (fun x=>cs x.2)];simp[Ne.symm cs]
   ·rw[lset_ne _ _ ce,cset_ne _ _ (fun x=>ce x.1)];exact h.used l s hl' hs'
 ·rw[hL] at hl;have tf:t∉far:=fun hx=>ht ((h.farM t).1 hx).1;rw[insK_insL h.farS tf];refine⟨rng,fun l s hl' hs' x=>?_,h.slotN,fun x=>?_,insL_srt _ _ h.farS,?_,h.used⟩
  ·rw[h.slotM l s hl' hs'];constructor
   ·rintro⟨h1,h2⟩;exact⟨.inl h1,h2⟩
   ·rintro⟨h1|rfl,h2⟩
    ·exact⟨h1,h2⟩
    ·rw[tp,hp] at h2;injection h2 with e1 e2
     omega
  ·rw[insL_mem,h.farM];constructor
   ·rintro(rfl|⟨h1,h2⟩)
    ·exact⟨.inr rfl,by rw[tp,hp];exact hl⟩
    ·exact⟨.inl h1,h2⟩
   ·rintro⟨h1|rfl,h2⟩
    ·exact .inr ⟨h1,h2⟩
    ·exact .inl rfl
  ·rw[(insL_perm far t).nodup_iff];exact List.nodup_cons.2 ⟨tf,h.farN⟩
theorem WhL.at(h:WhL now u c far S)(htD:t.1=(D:Int))(ht:S t):((plc now D).1<4->(c (plc now D).1 (plc now D).2).Nodup/\t∈c (plc now D).1 (plc now D).2)/\(4<=(plc now D).1->far.Nodup/\t∈far):=by
 have eD:t.1.toNat=D:=by omega
 refine⟨fun hl=>⟨h.slotN _ _ hl (slt_lt' now D),(h.slotM _ _ hl (slt_lt' now D) t).2 ⟨ht,by rw[eD]⟩⟩,fun hl=>⟨h.farN,(h.farM t).2 ⟨ht,by rw[eD];exact hl⟩⟩⟩
theorem WhL.drop(h:WhL now u c far S)(hP:DropP now D t u c far u' c' far')(htD:t.1=(D:Int))(ht:S t):WhL now u' c' far' (fun x=>S x/\x≠t):=by
 have eD:t.1.toNat=D:=by omega
 have tp:plc now t.1.toNat=plc now D:=by rw[eD]
 obtain⟨L,hL⟩:∃L,(plc now D).1=L:=⟨_,rfl⟩;obtain⟨Z,hZ⟩:∃Z,(plc now D).2=Z:=⟨_,rfl⟩;have hp:plc now D=(L,Z):=Prod.ext hL hZ;have hZ64:Z<64:=by rw[<-hZ];exact slt_lt' now D
 have rng:∀x,S x/\x≠t->∃D:Nat,x.1=(D:Int)/\D<B64:=fun x hx=>h.rng x hx.1;rcases hP with⟨hl,rfl,rfl,rfl⟩|⟨hl,rfl,rfl,rfl⟩
 ·rw[hL] at hl;rw[hL,hZ];refine⟨rng,fun l s hl' hs' x=>?_,fun l s hl' hs'=>?_,fun x=>?_,h.farS,h.farN,fun l s hl' hs'=>?_⟩
  ·by_cases ce:l=L/\s=Z
   ·obtain⟨rfl,rfl⟩:=ce;rw[cset_same,(h.slotN l s hl' hs').mem_erase_iff,h.slotM l s hl' hs'];constructor
    ·rintro⟨h1,h2,h3⟩;exact⟨⟨h2,h1⟩,h3⟩
    ·rintro⟨⟨h2,h1⟩,h3⟩;exact⟨h1,h2,h3⟩
   ·rw[cset_ne _ _ ce,h.slotM l s hl' hs'];constructor
    ·rintro⟨h1,h2⟩;refine⟨⟨h1,fun e=>ce ?_⟩,h2⟩;rw[e,tp,hp] at h2;injection h2 with e1 e2
     exact⟨e1.symm,e2.symm⟩
    ·rintro⟨⟨h1,_⟩,h2⟩;exact⟨h1,h2⟩
  ·by_cases ce:l=L/\s=Z
   ·obtain⟨rfl,rfl⟩:=ce;rw[cset_same];exact(h.slotN l s hl' hs').erase t
   ·rw[cset_ne _ _ ce];exact h.slotN l s hl' hs'
  ·rw[h.farM];constructor
   ·rintro⟨h1,h2⟩;refine⟨⟨h1,fun e=>?_⟩,h2⟩;rw[e,tp,hp] at h2;exact absurd h2 (by show ¬4<=L;omega)
   ·rintro⟨⟨h1,_⟩,h2⟩;exact⟨h1,h2⟩
  ·by_cases ce:l=L
   ·subst ce;rw[lset_same];unfold dropU;have h2s:2^Z<B64:=show 2^Z<2^64 from Nat.pow_lt_pow_right (by omega) hZ64
    by_cases cs:s=Z
    ·subst cs;rw[cset_same];by_cases ee:(c l s).erase t=[]
     ·rw[if_pos ee,clr_bit _ _ _ h2s hs',Nat.testBit_two_pow_self,ee];simp
     ·rw[if_neg ee,h.used l s hl' hs'];have:c l s≠[]:=fun e=>ee (by rw[e];rfl)
      cases hc:c l s with
      | nil=>exact absurd hc this
      | cons a b=>
       cases hd:(a::b).erase t with
       | nil=>rw[hc] at ee;exact absurd hd ee
       | cons _ _=>rfl
    ·rw[cset_ne _ _ (fun x=>cs x.2)];by_cases ee:(c l Z).erase t=[]
     ·rw[if_pos ee,clr_bit _ _ _ h2s hs',Nat.testBit_two_pow,h.used l s hl' hs'];simp[Ne.symm cs]
     ·rw[if_neg ee];exact h.used l s hl' hs'
   ·rw[lset_ne _ _ ce,cset_ne _ _ (fun x=>ce x.1)];exact h.used l s hl' hs'
 ·rw[hL] at hl;refine⟨rng,fun l s hl' hs' x=>?_,h.slotN,fun x=>?_,h.farS.erase t,h.farN.erase t,h.used⟩
  ·rw[h.slotM l s hl' hs'];constructor
   ·rintro⟨h1,h2⟩;refine⟨⟨h1,fun e=>?_⟩,h2⟩;rw[e,tp,hp] at h2;injection h2 with e1 e2
    omega
   ·rintro⟨⟨h1,_⟩,h2⟩;exact⟨h1,h2⟩
  ·rw[h.farN.mem_erase_iff,h.farM];constructor
   ·rintro⟨h1,h2,h3⟩;exact⟨⟨h2,h1⟩,h3⟩
   ·rintro⟨⟨h2,h1⟩,h3⟩;exact⟨h1,h2,h3⟩
def taken(now thn:Nat)(x:Ent):Prop:=((plc now x.1.toNat).1<4/\pass now thn (plc now x.1.toNat).1 (plc now x.1.toNat).2=true)\/(4<=(plc now x.1.toNat).1/\x.1.toNat<=thn ||| 16777215)
end
section
open Go.RowKit Go.Lib Go.Sort Go.WideMaps Go.Maps
structure TOk(T:List Ent):Prop where
 srt:Srt T
 ids:(T.map Prod.snd).Nodup
 wf:∀x∈T,wfI x.2
 len:T.length<=1000
def Whl(w:World)(F:Nat->Prop)(B base now:Nat)(T:List Ent):Prop:=
 ∃M hd u c far f,WhA w B M base hd now u c far f T.length/\WhL now u c far (fun x=>x∈T)/\(∀i v,f i=some v↔(v,i)∈T)/\TOk T/\∀k,F k↔foot B M hd k
def WIs(w:World)(F:Nat->Prop)(B base now:Nat)(T:List Ent)(w':World):Prop:=∃F',Whl w' F' B base now T/\Fr F w w'/\∀k,F' k->F k\/w.heap.size<=k
variable {w w':World}{F:Nat->Prop}{B base now:Nat}{T:List Ent}
theorem Whl.low(h:Whl w F B base now T):∀k,F k->base<=k/\k<w.heap.size:=fun k hk=>by
 obtain⟨M,hd,u,c,far,f,h1,h2,h3,h4,h5⟩:=h;exact h1.footLt ((h5 k).1 hk)
theorem Whl.fr(h:Whl w F B base now T){X:Nat->Prop}(hf:Fr X w w')(hx:∀k,F k->¬X k):Whl w' F B base now T:=by
 obtain⟨M,hd,u,c,far,f,h1,h2,h3,h4,h5⟩:=h;exact⟨M,hd,u,c,far,f,h1.fr hf (fun k hk=>hx k ((h5 k).2 hk)),h2,h3,h4,h5⟩
theorem Whl.below(h:Whl w F B base now T)(hw:Below w.heap.size w w'):Whl w' F B base now T:=h.fr (Fr.below (X:=fun _=>False) hw) (fun _ _=>id)
theorem WIs.same(h:Whl w F B base now T):WIs w F B base now T w:=⟨F,h,Fr.refl _ _,fun k hk=>.inl hk⟩
theorem len_le{d:List Ent}(hd:d.Nodup)(hs:∀x∈d,x∈T)(hT:T.length<=1000):d.length<=1000:=le_trans (List.Nodup.length_le_of_subset hd hs) hT
def dueOf:List Ent->Int->Option Int
 | [],_=>none
 | x::T,i=>if x.2=i then some x.1 else dueOf T i
theorem dueOf_some:∀{T:List Ent} {i v:Int},dueOf T i=some v->(v,i)∈T
 | [],i,v,h=>by cases h
 | x::T,i,v,h=>by
  unfold dueOf at h
  split at h
  ·next e=>injection h with h;subst h;subst e;exact List.mem_cons_self
  ·exact List.mem_cons_of_mem _ (dueOf_some h)
theorem dueOf_none:∀{T:List Ent} {i:Int},dueOf T i=none->∀v,(v,i)∉T
 | [],i,h,v=>by simp
 | x::T,i,h,v=>by
  unfold dueOf at h
  split at h
  ·cases h
  ·next e=>
   intro hx;rcases List.mem_cons.1 hx with hx|hx
   ·exact e (by rw[<-hx])
   ·exact dueOf_none h v hx
theorem map_dueOf{f:Int->Option Int}(hm:∀i v,f i=some v↔(v,i)∈T)(h:(T.map Prod.snd).Nodup)(i:Int):f i=dueOf T i:=by
 cases e:dueOf T i with
 | none=>
  cases e2:f i with
  | none=>rfl
  | some v=>exact absurd ((hm i v).1 e2) (dueOf_none e v)
 | some v=>exact(hm i v).2 (dueOf_some e)
def isNil:Option Value->Bool
 | some (.slice none 0 0)=>true
 | _=>false
def isZero:Option Value->Bool
 | some (.int .u64 0)=>true
 | _=>false
theorem isNil_eq{v:Option Value}(h:isNil v=true):v=some (.slice none 0 0):=by
 unfold isNil at h
 split at h
 ·rfl
 ·cases h
theorem isZero_eq{v:Option Value}(h:isZero v=true):v=some (.int .u64 0):=by
 unfold isZero at h
 split at h
 ·rfl
 ·cases h
theorem zc_size:zeroCells154.size=263:=by kernel_rfl
theorem zc_used:(List.range 4).all (fun l=>isZero zeroCells154[2+l*65]?)=true:=by kernel_rfl
theorem zc_slot:(List.range 4).all (fun l=>(List.range 64).all (fun s=>isNil zeroCells154[2+l*65+1+s]?))=true:=by kernel_rfl
theorem zc_far:isNil zeroCells154[262]?=true:=by kernel_rfl
theorem new_any(now:Nat)(hn:now<B64)(w:World) :
  Calls prog 32 #[.int .u64 now] w fun e w'=>e=.returned (.pointer (some ⟨w.heap.size+1,0,none⟩))/\Below w.heap.size w w'/\∃F,Whl w' F (w.heap.size+1) w.heap.size now []/\∀k,F k->w.heap.size<=k:=by
 have hmm:=@run_makeMap prog;obtain⟨S,hS⟩:∃S,w.heap.size=S:=⟨_,rfl⟩;obtain⟨cs,hcs⟩:∃cs,(zeroCells154.setIfInBounds 0 (.int .u64 now)).setIfInBounds 1 (.map (some S))=cs:=⟨_,rfl⟩;obtain⟨w2,hw2⟩:∃w2,(w.alloc (.map #[] 0)).alloc (.cells cs 154)=w2:=⟨_,rfl⟩;have b1:Below w.heap.size w (w.alloc (.map #[] 0)):=(Below.refl _ _).alloc (le_refl _) _;have b2:Below w.heap.size w w2:=by rw[<-hw2];exact b1.alloc b1.size _
 have hsz:cs.size=263:=by rw[<-hcs,Array.size_setIfInBounds,Array.size_setIfInBounds];exact zc_size
 have cell:∀k,2<=k->cs[k]?=zeroCells154[k]?:=fun k hk=>by
  rw[<-hcs,getElem?_setIfInBounds,if_neg (by omega),getElem?_setIfInBounds,if_neg (by omega)]
 have c0:cs[0]?=some (.int .u64 now):=by
  rw[<-hcs,getElem?_setIfInBounds,if_neg (by omega),getElem?_setIfInBounds,if_pos rfl,if_pos (by rw[zc_size];omega)]
 have c1:cs[1]?=some (.map (some S)):=by
  rw[<-hcs,getElem?_setIfInBounds,if_pos rfl,if_pos (by rw[Array.size_setIfInBounds,zc_size];omega)]
 have cu:∀l,l<4->cs[2+l*65]?=some (.int .u64 0):=fun l hl=>by
  rw[cell _ (by omega)];exact isZero_eq (List.all_eq_true.1 zc_used l (List.mem_range.2 hl))
 have cl:∀l s,l<4->s<64->cs[2+l*65+1+s]?=some (.slice none 0 0):=fun l s hl hs=>by
  rw[cell _ (by omega)];exact isNil_eq (List.all_eq_true.1 (List.all_eq_true.1 zc_slot l (List.mem_range.2 hl)) s (List.mem_range.2 hs))
 have cf:cs[262]?=some (.slice none 0 0):=by rw[cell _ (by omega)];exact isNil_eq zc_far
 have hB:w2.heap[S+1]?=some (.cells cs 154 (0,0)):=by
  rw[<-hw2,<-hS];have:=heap_alloc_new (w.alloc (.map #[] 0)) (.cells cs 154);simpa using this
 have hM:w2.heap[S]?=(w.alloc (.map #[] 0)).heap[S]?:=by rw[<-hw2];exact heap_alloc_old _ _ (by rw[<-hS];simp)
 have dm:DuM w2 S (fun _=>none) 0:=by
  have:=DuM.made w;rw[hS] at this;exact this.of_block hM
 have wa:WhA w2 (S+1) S S (fun k=>(cs[k]?).getD undef) now (fun _=>0) (fun _ _=>[]) [] (fun _=>none) 0:=by
  have rb:∀i,i<263->rowB ((cs[i]?).getD undef)=none:=fun i hi=>by
   rcases cellCase i hi with rfl|rfl|⟨l,hl,rfl⟩|⟨l,s,hl,hs,rfl⟩|rfl
   ·rw[c0];rfl
   ·rw[c1];rfl
   ·rw[cu l hl];rfl
   ·rw[cl l s hl hs];rfl
   ·rw[cf];rfl
  refine⟨⟨cs,hB,hsz,fun k hk=>(by show cs[k]?=some ((cs[k]?).getD undef);rw[Array.getElem?_eq_getElem (by omega)];rfl)⟩,by rw[c0];rfl,by rw[c1];rfl,fun l hl=>(by rw[cu l hl];rfl),fun l s hl hs=>(by rw[cl l s hl hs];exact OwnF.nil _ _),by rw[cf];exact OwnF.nil _ _,dm,fun i j hi hj _ k hk=>(by rw[rb i hi] at hk;cases hk),fun l hl=>(by decide),hn,by omega,le_refl _⟩
 have wl:WhL now (fun _=>0) (fun _ _=>[]) [] (fun x=>x∈([]:List Ent)):=
  ⟨fun x hx=>(by cases hx),fun l s _ _ x=>(by simp),fun _ _ _ _=>(by simp),fun x=>(by simp),Srt.nil,by simp,fun l s _ _=>(by simp)⟩
 have FIN:Aside (Below w.heap.size w w2/\∃F,Whl w2 F (S+1) S now []/\∀k,F k->S<=k):=
  ⟨b2,foot (S+1) S (fun k=>(cs[k]?).getD undef),⟨S,_,_,_,_,_,wa,wl,fun i v=>(by simp),⟨Srt.nil,by simp,fun x hx=>(by cases hx),by simp⟩,fun k=>Iff.rfl⟩,fun k hk=>(wa.footLt hk).1⟩
 have HW2:Hid _:=hw2;have HCS:Hid _:=hcs;clear b1 b2 hsz cell c0 c1 cu cl cf hB hM dm wa wl hw2 hcs hn;rw[hS];go_enter func32,ntmps32
 go_wp2
 rw[HCS.out,HW2.out];go_ret;refine⟨rfl,by rw[<-hS];exact FIN.out.1,FIN.out.2⟩
theorem now_any(h:Whl w F B base now T):Calls prog 73 #[.pointer (some ⟨B,0,none⟩)] w fun e w'=>e=.returned (.int .u64 now)/\w'=w:=by
 obtain⟨M,hd,u,c,far,f,h1,h2,h3,h4,h5⟩:=h;have c0:=h1.head.cell (k:=0) (by omega);rw[h1.h0] at c0;clear h1 h2 h3 h4 h5;go_enter func73,ntmps73
 go_wp2
 go_ret;exact⟨rfl,rfl⟩
end
section
open Go.RowKit Go.Lib Go.Sort Go.WideMaps Go.Maps
def addR(T:List Ent)(i:Int):Int:=if i<1 then 1 else if (dueOf T i).isSome then 9 else if 1000<=T.length then 65 else 0
def addT(T:List Ent)(i:Int)(D:Nat):List Ent:=if addR T i=0 then insL T ((D:Int),i) else T
theorem addT_no{T:List Ent}{i:Int}(D:Nat)(h:addR T i≠0):addT T i D=T:=if_neg h
theorem TOk.add{T:List Ent}(h:TOk T){i:Int}(wi:wfI i)(D:Int)(hn:dueOf T i=none)(hl:T.length<1000):TOk (insL T (D,i)):=by
 refine⟨insL_srt _ _ h.srt,?_,fun x hx=>?_,by rw[insL_len];omega⟩
 ·rw[((insL_perm T (D,i)).map Prod.snd).nodup_iff];refine List.nodup_cons.2 ⟨fun hx=>?_,h.ids⟩;obtain⟨y,hy,e⟩:=List.mem_map.1 hx;obtain⟨y1,y2⟩:=y;simp only at e;subst e;exact dueOf_none hn _ hy
 ·rcases insL_mem.1 hx with rfl|hx
  ·exact wi
  ·exact h.wf x hx
theorem TOk.erase{T:List Ent}(h:TOk T)(t:Ent):TOk (T.erase t):=
 ⟨h.srt.erase t,List.Pairwise.sublist (List.erase_sublist.map Prod.snd) h.ids,fun x hx=>h.wf x (List.mem_of_mem_erase hx),le_trans (List.length_erase_le) h.len⟩
variable {w w':World}{F:Nat->Prop}{B base now:Nat}{T:List Ent}
set_option maxRecDepth 10000 in
theorem add_any(h:Whl w F B base now T){i:Int}(wi:wfI i){D:Nat}(hD:D<B64)(hbase:base<=w.heap.size) :
  Calls prog 151 #[.pointer (some ⟨B,0,none⟩),.int .i64 i,.int .u64 D] w fun e w'=>e=.returned (.int .i64 (addR T i))/\WIs w F B base now (addT T i D) w':=by
 have SAME:Aside (WIs w F B base now T w):=WIs.same h;by_cases hi:i<1
 ·have e1:addR T i=1:=if_pos hi;rw[e1,addT_no D (by omega)];clear h e1;go_enter func151,ntmps151
  go_wp2
  go_ret;exact⟨rfl,SAME.out⟩
 ·obtain⟨M,hd,u,c,far,f,h1,h2,h3,h4,h5⟩:=h;have c1:=h1.head.cell (k:=1) (by omega);rw[h1.h1] at c1;have hf:=map_dueOf h3 h4.ids i
  cases hdu:dueOf T i with
  | some v=>
   rw[hdu] at hf;have lk:=h1.map.look wi hf;have e1:addR T i=9:=by unfold addR;rw[if_neg hi,hdu];rfl
   rw[e1,addT_no D (by omega)];clear h1 h2 h3 h4 h5 hf hdu e1;go_enter func151,ntmps151
   go_wp2
   go_ret;exact⟨rfl,SAME.out⟩
  | none=>
   rw[hdu] at hf;have lk:=h1.map.look_no wi hf;have ln:=fun ty=>h1.map.len ty;by_cases hl:1000<=T.length
   ·have hlz:(1000:Int)<=(T.length:Int):=by omega
    have e1:addR T i=65:=by unfold addR;rw[if_neg hi,hdu,if_neg (by simp),if_pos hl]
    rw[e1,addT_no D (by omega)];clear h1 h2 h3 h4 h5 hf hdu e1;go_enter func151,ntmps151
    go_wp2
    go_ret;exact⟨rfl,SAME.out⟩
   ·have hlz:¬(1000:Int)<=(T.length:Int):=by omega
    have e1:addR T i=0:=by unfold addR;rw[if_neg hi,hdu,if_neg (by simp),if_neg hl]
    have e2:addT T i D=insL T ((D:Int),i):=if_pos e1;rw[e1,e2];obtain⟨w1,hst,hm,hg⟩:=h1.map.store (by omega) wi hf (D:Int);have a1:=h1.mapSet hm hg;have hls:∀l s,l<4->s<64->(c l s).length<=100000:=fun l s hl' hs'=>le_trans (len_le (h2.slotN l s hl' hs') (fun x hx=>((h2.slotM l s hl' hs' x).1 hx).1) h4.len) (by omega);have hlf:far.length<=100000:=le_trans (len_le h2.farN (fun x hx=>((h2.farM x).1 hx).1) h4.len) (by omega);have pt:=put_any w1 B M base now (T.length+1) D hd u c far (fput f i D) ((D:Int),i) a1 rfl hD hls hlf h2.farS (le_trans hbase hg.size)
    have PT:Aside (Calls prog 199 #[.pointer (some ⟨B,0,none⟩),.agg #[.int .u64 (D:Int),.int .i64 i]] w1 fun e w'=>e=.returned (.tuple #[])/\WIs w F B base now (insL T ((D:Int),i)) w'):=by
     refine Calls.mono pt ?_;rintro e w' ⟨rfl,hd',u',c',far',q1,q2,q3,q4⟩
     have fF:Fr F w w':=by
      have x1:Fr F w w1:=(Fr.of_grown hg).mono (fun j hj=>by injection hj with hj;exact(h5 j).2 (.inr (.inl hj.symm)));exact x1.trans q3 (fun j hj=>.inl ((h5 j).2 hj))
     refine⟨rfl,foot B M hd',⟨M,hd',u',c',far',_,by rw[insL_len];exact q1,(h2.put q2 rfl hD (dueOf_none hdu D)).congr (fun x=>by rw[insL_mem];exact Or.comm),fun a v=>?_,h4.add wi D hdu (by omega),fun k=>Iff.rfl⟩,fF,fun k hk=>?_⟩
     ·rw[insL_mem];unfold fput;by_cases ea:a=i
      ·subst ea;rw[if_pos rfl];constructor
       ·intro e;injection e with e;exact .inl (by rw[e])
       ·rintro(e|e)
        ·injection e with e _;rw[e]
        ·exact absurd e (dueOf_none hdu v)
      ·rw[if_neg ea,h3];constructor
       ·exact .inr
       ·rintro(e|e)
        ·injection e with _ e;exact absurd e ea
        ·exact e
     ·rcases q4 k hk with x|x
      ·exact .inl ((h5 k).2 x)
      ·right;have:=hg.size;omega
    have c2:=a1.head.cell (k:=1) (by omega);rw[h1.h1] at c2;clear h1 h2 h3 h4 h5 hf hdu e1 e2 hm hg a1 hls hlf pt;go_enter func151,ntmps151
    go_wp2_with (go_at_call 199;refine PT.out.mono ?_;rintro e w' ⟨rfl,G1⟩)
    go_ret;exact⟨rfl,G1⟩
def canT(T:List Ent)(i:Int):List Ent:=match dueOf T i with|some v=>T.erase (v,i)|none=>T
set_option maxRecDepth 10000 in
theorem cancel_any(h:Whl w F B base now T){i:Int}(wi:wfI i)(hbase:base<=w.heap.size) :
  Calls prog 148 #[.pointer (some ⟨B,0,none⟩),.int .i64 i] w fun e w'=>e=.returned (.bool (dueOf T i).isSome)/\WIs w F B base now (canT T i) w':=by
 have SAME:Aside (WIs w F B base now T w):=WIs.same h;obtain⟨M,hd,u,c,far,f,h1,h2,h3,h4,h5⟩:=h;have c1:=h1.head.cell (k:=1) (by omega);rw[h1.h1] at c1;have hf:=map_dueOf h3 h4.ids i;unfold canT
 cases hdu:dueOf T i with
 | none=>
  rw[hdu] at hf;have lk:=h1.map.look_no wi hf;clear h1 h2 h3 h4 h5 hf hdu;go_enter func148,ntmps148
  go_wp2
  go_ret;exact⟨rfl,SAME.out⟩
 | some v=>
  rw[hdu] at hf;have lk:=h1.map.look wi hf;have ht:(v,i)∈T:=dueOf_some hdu;obtain⟨D,hvD,hD⟩:=h2.rng _ ht;simp only at hvD;subst hvD;have hlen:0<T.length:=List.length_pos_of_mem ht;have hn1:T.length=T.length-1+1:=by omega
  have hm1:=h1.map;rw[hn1] at hm1;obtain⟨w1,hst0,hm,hg⟩:=hm1.drop wi hf 0;have hst:∀ty,(Builtin.delete_ #[148,3] ty #[.map (some M),.int .i64 i]).run prog w=.ok (.tuple #[]) w1:=fun ty=>hst0;have a1:=h1.mapSet hm hg;obtain⟨p1,p2⟩:=h2.at (t:=((D:Int),i)) rfl ht;have pt:=drop_any w1 B M base now (T.length-1) D hd u c far (fdel f i) ((D:Int),i) a1 rfl hD p1 p2
  have PT:Aside (Calls prog 197 #[.pointer (some ⟨B,0,none⟩),.agg #[.int .u64 (D:Int),.int .i64 i]] w1 fun e w'=>e=.returned (.tuple #[])/\WIs w F B base now (T.erase ((D:Int),i)) w'):=by
   refine Calls.mono pt ?_;rintro e w' ⟨rfl,hd',u',c',far',q1,q2,q3,q4⟩
   have fF:Fr F w w':=by
    have x1:Fr F w w1:=(Fr.of_grown hg).mono (fun j hj=>by injection hj with hj;exact(h5 j).2 (.inr (.inl hj.symm)));exact x1.trans q3 (fun j hj=>.inl ((h5 j).2 hj))
   have hnd:=nodup_of_ids h4.ids;refine⟨rfl,foot B M hd',⟨M,hd',u',c',far',_,by rw[List.length_erase_of_mem ht];exact q1,(h2.drop q2 rfl ht).congr (fun x=>by rw[hnd.mem_erase_iff];exact And.comm),fun a v=>?_,h4.erase _,fun k=>Iff.rfl⟩,fF,fun k hk=>?_⟩
   ·rw[hnd.mem_erase_iff];unfold fdel;by_cases ea:a=i
    ·subst ea;rw[if_pos rfl];constructor
     ·intro e;cases e
     ·rintro⟨e1,e2⟩;have:=ids_inj h4.ids e2 ht rfl;exact absurd this e1
    ·rw[if_neg ea,h3];constructor
     ·intro e;exact⟨fun e'=>ea (by injection e'),e⟩
     ·rintro⟨_,e⟩;exact e
   ·rcases q4 k hk with x|x
    ·exact .inl ((h5 k).2 x)
    ·right;have:=hg.size;omega
  clear h1 h2 h3 h4 h5 hf hdu hm hg a1 pt p1 p2 hm1 hn1 hst0;go_enter func148,ntmps148
  go_wp2_with (go_at_call 197;refine PT.out.mono ?_;rintro e w' ⟨rfl,G1⟩)
  go_ret;exact⟨rfl,G1⟩
end
end Go.Proofs.YtjpbngiddjkjiaaGreatDoor.Wl
