import Derived.Laws.BitsAllLaws
import Derived.Test.YthpgfmmpjoodkaaGreatDoorWTmI
import Derived.Maps.OwnSet
import Derived.Maps.Keyed
import Derived.Maps.AppendAt
namespace Go.Proofs.YthpgfmmpjoodkaaGreatDoor.Wl
set_option linter.unusedSimpArgs false
set_option maxHeartbeats 8000000
set_option maxRecDepth 100000
set_option linter.unusedVariables false
section
open Go.Lib
def clr(u m:Nat):Nat:=u &&& (18446744073709551615-m)
theorem clr_lt(u m:Nat)(hu:u<B64):clr u m<B64:=Nat.lt_of_le_of_lt Nat.and_le_left hu
theorem clr_bit(u m i:Nat)(hm:m<B64)(hi:i<64):(clr u m).testBit i=(u.testBit i&&!m.testBit i):=by
 unfold clr;rw[Nat.testBit_and,show 18446744073709551615-m=2^64-(m+1) by omega,Nat.testBit_two_pow_sub_succ hm];simp[hi]
theorem or_lt'(u s:Nat)(hu:u<B64)(hs:s<64):u ||| 2^s<B64:=Nat.or_lt_two_pow (n:=64) hu (Nat.pow_lt_pow_right (by omega) hs)
theorem or_bit(u s i:Nat):(u ||| 2^s).testBit i=(u.testBit i||decide (s=i)):=by
 rw[Nat.testBit_or,Nat.testBit_two_pow]
theorem ctz_spec(x:Nat)(hx:x<B64)(h0:x≠0):ctz 64 x<64/\x.testBit (ctz 64 x)=true/\(∀i,i<ctz 64 x->x.testBit i=false)/\∀i,(x &&& (x-1)).testBit i=(x.testBit i&&decide (i≠ctz 64 x)):=by
 obtain⟨m,h1,h2⟩:=ctzFrom_spec 64 x (by omega) hx;have e:ctz 64 x=ctzFrom 64 x:=by unfold ctz;rw[if_neg h0]
 rw[e];obtain⟨q,hq⟩:∃q,ctzFrom 64 x=q:=⟨_,rfl⟩;rw[hq] at h1 h2⊢
 have b1:∀i,i<q->x.testBit i=false:=fun i hi=>by
  rw[h1,Nat.testBit_two_pow_mul];simp;omega
 have b2:x.testBit q=true:=by
  rw[h1,Nat.testBit_two_pow_mul];simp
 refine⟨h2,b2,b1,fun i=>?_⟩
 have hx1:x-1=2^q*(2*m)+(2^q-1):=by
  have:0<2^q:=Nat.two_pow_pos _;rw[h1,Nat.mul_add];omega
 rw[Nat.testBit_and,hx1,Nat.testBit_two_pow_mul_add _ (by have:0<2^q:=Nat.two_pow_pos _;omega)];by_cases c:i<q
 ·rw[b1 i c];simp
 ·rw[if_neg c];by_cases c2:i=q
  ·subst c2;simp[Nat.testBit_zero]
  ·have e1:x.testBit i=(2*m+1).testBit (i-q):=by
    rw[h1,Nat.testBit_two_pow_mul];simp;omega
   obtain⟨k,hk⟩:∃k,i-q=k+1:=⟨i-q-1,by omega⟩;rw[e1,hk,Nat.testBit_succ,Nat.testBit_succ,show 2*m/2=m by omega,show(2*m+1)/2=m by omega];simp[c2]
def takeL(c:Nat->List Ent)(m p:Nat):List Ent:=(List.range p).flatMap fun j=>if m.testBit j then c j else []
theorem takeL_zero(c:Nat->List Ent)(m:Nat):takeL c m 0=[]:=rfl
theorem takeL_succ(c:Nat->List Ent)(m p:Nat):takeL c m (p+1)=takeL c m p++if m.testBit p then c p else []:=by
 unfold takeL;rw[List.range_succ,List.flatMap_append];simp
theorem takeL_skip(c:Nat->List Ent)(m:Nat){p q:Nat}(h:p<=q)(hz:∀i,p<=i->i<q->m.testBit i=false):takeL c m q=takeL c m p:=by
 induction q with
 | zero=>rw[show p=0 by omega]
 | succ q ih=>
  by_cases c2:p=q+1
  ·subst c2;rfl
  ·rw[takeL_succ,hz q (by omega) (by omega),ih (by omega) (fun i h1 h2=>hz i h1 (by omega))];simp
theorem takeL_mem(c:Nat->List Ent)(m p:Nat)(x:Ent):x∈takeL c m p↔∃j,j<p/\m.testBit j=true/\x∈c j:=by
 unfold takeL;rw[List.mem_flatMap];constructor
 ·rintro⟨j,hj,hx⟩;by_cases c2:m.testBit j=true
  ·rw[if_pos c2] at hx;exact⟨j,List.mem_range.1 hj,c2,hx⟩
  ·rw[if_neg c2] at hx;cases hx
 ·rintro⟨j,hj,h,hx⟩;exact⟨j,List.mem_range.2 hj,by rw[if_pos h];exact hx⟩
end
section
open Go.RowKit Go.Lib Go.Sort
theorem Hd.congr{w:World}{B:Nat}{hd he:Nat->Value}(h:Hd w B hd)(e:∀k,k<263->hd k=he k):Hd w B he:=by
 obtain⟨cs,h1,h2,h3⟩:=h;exact⟨cs,h1,h2,fun k hk=>by rw[h3 k hk,e k hk]⟩
def nilV:Value:=.slice none 0 0
def dropU(u s:Nat)(d:List Ent):Nat:=if d=[] then clr u (2^s) else u
def DropIs(w:World)(B R s base u:Nat)(hd:Nat->Value)(v:Value)(d:List Ent)(w':World):Prop:=
 ∃v',Hd w' B (hset (hset hd (R+1+s) v') R (.int .u64 ((dropU u s d:Nat):Int)))/\OwnF w' base v' d/\Fr (fun k=>k=B\/rowB v=some k) w w'/\∀k,rowB v'=some k->rowB v=some k
theorem rdrop_any(B R s base u:Nat)(hd:Nat->Value)(v:Value)(d:List Ent)(t:Ent)(w:World)(h:Hd w B hd)(hR:R+65<=263)(hs:s<64)(hu:hd R=.int .u64 u)(hub:u<B64)(hv:hd (R+1+s)=v)(o:OwnF w base v d)(hdn:d.Nodup)(ht:t∈d) :
  Calls Tryz.prog 306 #[.pointer (some ⟨B,R,none⟩),.int .i64 s,.agg #[.int .u64 t.1,.int .i64 t.2]] w fun e w'=>e=.returned (.tuple #[])/\DropIs w B R s base u hd v (d.erase t) w':=by
 obtain⟨S,hS⟩:∃S,w.heap.size=S:=⟨_,rfl⟩;obtain⟨u0,hu0⟩:∃u0,w.alloc (.cells #[.int .u64 t.1,.int .i64 t.2] 131)=u0:=⟨_,rfl⟩;have b0:Below w.heap.size w u0:=by rw[<-hu0];exact(Below.refl _ _).alloc (Nat.le_refl _) _
 have b0d:Below w.heap.size w u0.drew:=b0.drew;have hBl:=h.lt;have h0:Hd u0.drew B hd:=h.of_block (b0d.block B hBl);have wo:=without_any v base d t u0.drew (o.below b0d) hdn ht;obtain⟨va,vc,e0,-,hvc,hvm,-⟩:=o.isL;obtain⟨vn,hvn⟩:∃n,d.length=n:=⟨_,rfl⟩;rw[hvn] at e0;have hv':hd (R+1+s)=.slice va vn vc:=hv.trans e0
 have K0:Aside (u0.drew.cell? ⟨B,R+1+s,none⟩=some (.slice va vn vc)/\u0.drew.cell? ⟨S,0,none⟩=some (.int .u64 t.1)/\u0.drew.cell? ⟨S,1,none⟩=some (.int .i64 t.2)):=by
  refine⟨?_,?_,?_⟩
  ·have:=h0.cell (k:=R+1+s) (by omega);rw[hv'] at this;exact this
  ·show u0.cell? _=_;rw[<-hu0,<-hS];simp[go_sem]
  ·show u0.cell? _=_;rw[<-hu0,<-hS];simp[go_sem]
 have hne:∀k,S<=k->rowB v≠some k:=fun k hk e=>by have:=(o.rowLt e).2;omega
 have hnB:=Hd.ne h o;have W0:Aside (Calls Tryz.prog 307 #[.slice va vn vc,.agg #[.int .u64 t.1,.int .i64 t.2]] u0.drew fun r w'=>∃v',r=.returned v'/\OwnF w' base v' (d.erase t)/\rowB v'=rowB v/\u0.drew.grownBy w' (rowB v)):=by rw[<-e0];exact wo
 have NX:Aside (∀w1 pa pn pc,OwnF w1 base (.slice pa pn pc) (d.erase t)->rowB (.slice pa pn pc)=rowB v->u0.drew.grownBy w1 (rowB v)->
   (w1.cell? ⟨B,R+1+s,none⟩=some (.slice va vn vc)/\w1.cell? ⟨S,0,none⟩=some (.int .u64 t.1)/\w1.cell? ⟨S,1,none⟩=some (.int .i64 t.2))/\Hd (w1.setCell ⟨B,R+1+s,none⟩ (.slice pa pn pc)) B (hset hd (R+1+s) (.slice pa pn pc))/\w1.frozen? ⟨B,R+1+s,none⟩=false/\
   OwnF (w1.setCell ⟨B,R+1+s,none⟩ (.slice pa pn pc)) base (.slice pa pn pc) (d.erase t)/\Fr (fun k=>k=B\/rowB v=some k) w (w1.setCell ⟨B,R+1+s,none⟩ (.slice pa pn pc))/\pn=(d.erase t).length):=by
  intro w1 pa pn pc o1 r1 g1;have h1:Hd w1 B hd:=h0.of_block (g1.block B h0.lt (fun e=>hnB e.symm));refine⟨⟨?_,g1.cell K0.out.2.1 (fun e=>hne S (Nat.le_refl _) e.symm),g1.cell K0.out.2.2 (fun e=>hne S (Nat.le_refl _) e.symm)⟩,h1.set _ _,h1.frozen _,o1.of_block (fun k hk=>heap_setCell_other _ _ _ _ (fun e=>hnB (by rw[<-r1,hk,e]))),?_,?_⟩
  ·have:=h1.cell (k:=R+1+s) (by omega);rw[hv'] at this;exact this
  ·exact((Fr.below b0d).trans (Fr.of_grown g1) (fun j hj=>.inl (.inr hj))).trans (Fr.setCell _ _ _ _ _ (.inl rfl)) (fun j hj=>.inl hj)
  ·obtain⟨_,_,e,_⟩:=o1.isL;injection e
 have HU0:Hid _:=hu0;have HUu:Hid (hd R=.int .u64 u):=hu;have hub2:u<18446744073709551616:=hub;have hp:2^s<18446744073709551616:=show 2^s<2^64 from Nat.pow_lt_pow_right (by omega) hs
 have x1:IntKind.u64.wrap (2^s)=((2^s:Nat):Int):=by
  have e:(2^s:Int)=((2^s:Nat):Int):=by push_cast;rfl
  rw[e,IntKind.wrap_u64];generalize 2^s=P at hp;omega
 have x2:bits BinOp.andNot IntKind.u64 (u:Int) ((2^s:Nat):Int)=((clr u (2^s):Nat):Int):=u64_andNot_nat u (2^s) hub2 hp;have X1:Hid _:=x1;have X2:Hid _:=x2;have hs1:(s:Int)<64:=by omega
 have mx:=mixed;clear h o b0 b0d hBl h0 wo hvm hvc hv hv' e0 hne hnB hu0 hu hub hub2 hp x1 x2 hdn ht hvn;go_enter Tryz.func306,Tryz.ntmps306
 go_upto_region 1 with fail
 rw[HU0.out];refine anyE_start (S:=(fun v0=>v0.cell? ⟨B,R+1+s,none⟩=some (.slice va vn vc)/\v0.cell? ⟨S,0,none⟩=some (.int .u64 t.1)/\v0.cell? ⟨S,1,none⟩=some (.int .i64 t.2))) (L:=13) (by kernel_rfl) ?_;refine anyE_u (i:=0) K0.out rfl (by kernel_rfl) (fun w z=>by go_simp<;>rfl) (fun _ _ _ h=>h) ?_;refine anyE_u (i:=1) K0.out rfl (by kernel_rfl) (fun w z=>by go_simp<;>rfl) (fun _ _ _ h=>h) ?_;refine anyE_u (i:=2) K0.out rfl (by kernel_rfl) (fun w z=>by go_simp<;>rfl) (fun _ _ _ h=>h) ?_;refine anyE_u (i:=3) K0.out rfl (by kernel_rfl) (fun w z=>by go_simp<;>rfl) (fun _ _ _ h=>h) ?_;refine anyE_u (i:=4) K0.out rfl (by kernel_rfl) (fun w z=>by go_simp<;>rfl) (fun _ _ _ h=>h) ?_;refine anyE_u (i:=5) K0.out rfl (by kernel_rfl) (fun w z=>by go_simp<;>rfl) (fun _ _ _ h=>h) ?_;refine anyE_u (i:=6) K0.out rfl (by kernel_rfl) (fun w z=>by go_simp<;>rfl) (fun _ _ _ h=>h) ?_;refine anyE_u (i:=7) K0.out rfl (by kernel_rfl) (fun w z=>by go_simp<;>rfl) (fun _ _ _ h=>h) ?_;refine anyE_u (i:=8) K0.out rfl (by kernel_rfl) (fun w z=>by go_simp<;>rfl) (fun _ _ _ h=>h) ?_;refine anyF_u [11,12] (i:=10) K0.out rfl (by kernel_rfl) (fun w z=>by go_simp<;>rfl) (fun _ _ _ h=>h) ?_;refine anyF_u [12] (i:=11) K0.out rfl (by kernel_rfl) (fun w z=>by go_simp<;>rfl) (fun _ _ _ h=>h) ?_;simp only[Act.put,sA,sB,sC];refine anyE_ready (rs:=[9]) (by kernel_rfl) (by simp) ?_;refine AllE.cons (o:={dst:=some 15,op:=Op.call {callee:=Callee.value (Operand.func 307),args:=#[Operand.tmp 13,Operand.tmp 14],argTypes:=#[39,131]},type:=39,pos:= "wheel.go:81",after:=#[⟨7,.data⟩,⟨8,.data⟩],guard:=none}) rfl (fun Kt hKt=>?_) ?_
 ·go_simp
  (with_reducible refine Calls.mono W0.out ?_)
  rintro x_ w1 ⟨v',rfl,o1,r1,g1⟩;obtain⟨pa,pc,e1,-⟩:=o1.isL;obtain⟨pn,hpn⟩:∃n,(d.erase t).length=n:=⟨_,rfl⟩;rw[hpn] at e1;subst e1;obtain⟨y1,y2,y3,y4,y5,-⟩:=NX.out w1 pa pn pc o1 r1 g1;have z1:=y1.1;have Y2:Aside (Hd (w1.setCell ⟨B,R+1+s,none⟩ (.slice pa pn pc)) B (hset hd (R+1+s) (.slice pa pn pc))):=y2;have Y4:Aside (OwnF (w1.setCell ⟨B,R+1+s,none⟩ (.slice pa pn pc)) base (.slice pa pn pc) (d.erase t)):=y4;have Y5:Aside (Fr (fun k=>k=B\/rowB v=some k) w (w1.setCell ⟨B,R+1+s,none⟩ (.slice pa pn pc))):=y5;have R1:Aside (rowB (.slice pa pn pc)=rowB v):=r1;have HPN:Hid _:=hpn;clear o1 r1 g1 y2 y4 y5 W0 NX K0 hpn;dsimp only;refine hKt.out _ _ (fun _=>y1) ?_;clear hKt Kt;try simp only[Act.put,sA,sB,sC]
  refine anyE_u (i:=12) y1 rfl (by kernel_rfl) (fun w z=>by go_simp<;>rfl) (fun _ _ _ h=>h) ?_;simp only[Act.put,sA,sB,sC];refine anyE_ready (rs:=[13]) (by kernel_rfl) (by simp) ?_;refine AllE.cons rfl (fun Kt hKt=>?_) ?_
  ·go_simp
   refine hKt.out _ _ (fun h=>absurd rfl h) ?_;clear hKt Kt;try simp only[Act.put,sA,sB,sC]
   refine anyE_done (by kernel_rfl) ?_ _;obtain⟨w2,hw2⟩:∃w2,(w1.setCell ⟨B,R+1+s,none⟩ (.slice pa pn pc))=w2:=⟨_,rfl⟩;rw[hw2] at Y2 Y4 Y5;rw[hw2];clear hw2 z1 y1 y3;have q0:=Y2.out.cell (k:=R+1+s) (by omega);rw[hset_same] at q0;have q1:=Y2.out.frozen (R+1+s);have bB:=Y2.out.lt;by_cases hE0:d.erase t=[]
   ·have HE:Hid (d.erase t=[]):=hE0;obtain rfl:pn=0:=by rw[<-HPN.out,hE0];rfl
    clear hE0;have h3:=Y2.out.set (R+1+s) nilV;obtain⟨w3,hw3⟩:∃w3,w2.setCell ⟨B,R+1+s,none⟩ nilV=w3:=⟨_,rfl⟩;rw[hw3] at h3;have HW3:Hid (w2.setCell ⟨B,R+1+s,none⟩ (.slice none 0 0)=w3):=hw3;have q2:=h3.frozen R;have q4:=h3.cell (k:=R) (by omega);rw[hset_ne _ _ (by omega),hset_ne _ _ (by omega),HUu.out] at q4;have q3:w3.drew.cell? ⟨B,R,none⟩=some (.int .u64 u):=q4
    have FIN:Aside (DropIs w B R s base u hd v (d.erase t) (w3.setCell ⟨B,R,none⟩ (.int .u64 ((clr u (2^s):Nat):Int))).drew):=by
     refine⟨nilV,?_,?_,?_,fun k hk=>by cases hk⟩
     ·refine((h3.set R (.int .u64 ((clr u (2^s):Nat):Int))).of_block rfl).congr fun k hk=>?_;unfold dropU;rw[if_pos HE.out];by_cases c1:k=R
      ·subst c1;rw[hset_same,hset_same]
      ·rw[hset_ne _ _ c1,hset_ne _ _ c1];by_cases c2:k=R+1+s
       ·subst c2;rw[hset_same,hset_same]
       ·rw[hset_ne _ _ c2,hset_ne _ _ c2,hset_ne _ _ c2]
     ·rw[HE.out];exact OwnF.nil _ _
     ·refine((Y5.out.trans (by rw[<-hw3];exact Fr.setCell _ _ _ _ _ (.inl rfl)) (fun j hj=>.inl hj)).trans (Fr.setCell _ _ _ _ _ (.inl rfl)) (fun j hj=>.inl hj)).trans (Fr.below (X:=fun _=>False) ((Below.refl _ _).drew)) (fun j hj=>hj.elim)
    clear h3 hw3;go_upto_region 4 with fail
    rw[HW3.out];refine anyE_start (S:=(fun v0=>v0.cell? ⟨B,R,none⟩=some (.int .u64 u))) (L:=9) (by kernel_rfl) ?_;refine anyE_u (i:=0) q3 rfl (by kernel_rfl) (fun w z=>by go_simp<;>rfl) (fun _ _ _ h=>h) ?_;refine anyE_u (i:=1) q3 rfl (by kernel_rfl) (fun w z=>by go_simp<;>rfl) (fun _ _ _ h=>h) ?_;refine anyE_u (i:=2) q3 rfl (by kernel_rfl) (fun w z=>by go_simp<;>rfl) (fun _ _ _ h=>h) ?_;refine anyE_u (i:=3) q3 rfl (by kernel_rfl) (fun w z=>by go_simp<;>rfl) (fun _ _ _ h=>h) ?_;refine anyE_u (i:=4) q3 rfl (by kernel_rfl) (fun w z=>by go_simp<;>rfl) (fun _ _ _ h=>h) ?_;refine anyE_u (i:=5) q3 rfl (by kernel_rfl) (fun w z=>by go_simp<;>rfl) (fun _ _ _ h=>h) ?_;refine anyE_u (i:=6) q3 rfl (by kernel_rfl) (fun w z=>by go_simp<;>rfl) (fun _ _ _ h=>h) ?_;refine anyF_u [8] (i:=7) q3 rfl (by kernel_rfl) (fun w z=>by go_simp<;>rfl) (fun _ _ _ h=>h) ?_;refine anyE_u (i:=8) q3 rfl (by kernel_rfl) (fun w z=>by go_simp<;>rfl) (fun _ _ _ h=>h) ?_;simp only[Act.put,sA,sB,sC];refine anyE_ready (rs:=[9]) (by kernel_rfl) (by simp) ?_;refine AllE.cons rfl (fun Kt hKt=>?_) ?_
    ·go_simp
     refine hKt.out _ _ (fun h=>absurd rfl h) ?_;clear hKt Kt;try simp only[Act.put,sA,sB,sC]
     refine anyE_done (by kernel_rfl) ?_ _;rw[X1.out,X2.out]
     go_wp2
     go_end0
     exact⟨rfl,FIN.out⟩
    exact AllE.nil
   ·have HE:Hid (¬d.erase t=[]):=hE0;have hn0:¬pn=0:=fun e=>hE0 (List.length_eq_zero_iff.1 (HPN.out.trans e));have hn1:((pn:Int)==0)=false:=by simp;omega
    clear hE0
    have FIN:Aside (DropIs w B R s base u hd v (d.erase t) w2):=by
     refine⟨_,Y2.out.congr fun k hk=>?_,Y4.out,Y5.out,fun k hk=>by rw[<-R1.out];exact hk⟩;unfold dropU;rw[if_neg HE.out];by_cases c1:k=R
     ·subst c1;rw[hset_same,hset_ne _ _ (by omega)];exact HUu.out
     ·rw[hset_ne _ _ c1]
    go_wp2
    go_end0
    exact⟨rfl,FIN.out⟩
  exact AllE.nil
 exact AllE.nil
end
section
open Go.RowKit Go.Lib Go.Sort
def hdT(hd:Nat->Value)(R m p:Nat):Nat->Value:=fun k=>if R+1<=k/\k<R+1+p/\m.testBit (k-(R+1))=true then nilV else hd k
theorem hdT_zero(hd:Nat->Value)(R m k:Nat):hdT hd R m 0 k=hd k:=by unfold hdT;rw[if_neg (by omega)]
theorem hdT_at(hd:Nat->Value)(R m:Nat){p s:Nat}(h:p<=s):hdT hd R m p (R+1+s)=hd (R+1+s):=by unfold hdT;rw[if_neg (by omega)]
theorem hdT_R(hd:Nat->Value)(R m p:Nat):hdT hd R m p R=hd R:=by unfold hdT;rw[if_neg (by omega)]
theorem hdT_in(hd:Nat->Value)(R m:Nat){p s:Nat}(h:s<p):hdT hd R m p (R+1+s)=if m.testBit s then nilV else hd (R+1+s):=by
 unfold hdT;rw[show R+1+s-(R+1)=s by omega];by_cases c:m.testBit s=true
 ·rw[if_pos ⟨by omega,by omega,c⟩,if_pos c]
 ·rw[if_neg (fun x=>c x.2.2),if_neg c]
theorem hdT_out(hd:Nat->Value)(R m p k:Nat)(h:k<R+1\/R+1+p<=k):hdT hd R m p k=hd k:=by unfold hdT;rw[if_neg (by omega)]
theorem hdT_skip(hd:Nat->Value)(R m:Nat){p q:Nat}(h:p<=q)(hz:∀i,p<=i->i<q->m.testBit i=false)(k:Nat):hdT hd R m q k=hdT hd R m p k:=by
 unfold hdT;by_cases c:R+1<=k/\k<R+1+p/\m.testBit (k-(R+1))=true
 ·rw[if_pos c,if_pos ⟨c.1,by omega,c.2.2⟩]
 ·rw[if_neg c];by_cases c2:R+1<=k/\k<R+1+q/\m.testBit (k-(R+1))=true
  ·exfalso
   have c3:¬k<R+1+p:=fun hk=>c ⟨c2.1,hk,c2.2.2⟩;have:=hz (k-(R+1)) (by omega) (by omega);rw[this] at c2;simp at c2
  ·rw[if_neg c2]
theorem hdT_step(hd:Nat->Value)(R m q:Nat)(hq:m.testBit q=true)(k:Nat):hset (hdT hd R m q) (R+1+q) nilV k=hdT hd R m (q+1) k:=by
 by_cases c:k=R+1+q
 ·subst c;rw[hset_same,hdT_in _ _ _ (Nat.lt_succ_self q),if_pos hq]
 ·rw[hset_ne _ _ c];unfold hdT;by_cases c2:R+1<=k/\k<R+1+q/\m.testBit (k-(R+1))=true
  ·rw[if_pos c2,if_pos ⟨c2.1,by omega,c2.2.2⟩]
  ·rw[if_neg c2,if_neg (fun x=>c2 ⟨x.1,by omega,x.2.2⟩)]
def TakeIs(w:World)(B R base u mk:Nat)(hd:Nat->Value)(c:Nat->List Ent)(r:Ending)(w':World):Prop:=
 ∃v,r=.returned v/\Hd w' B (hset (hdT hd R (u &&& mk) 64) R (.int .u64 ((clr u mk:Nat):Int)))/\OwnF w' w.heap.size v (takeL c (u &&& mk) 64)/\Fr (fun k=>k=B) w w'/\∀k,rowB v=some k->w.heap.size<=k
theorem rtake_any(B R base u mk:Nat)(hd:Nat->Value)(c:Nat->List Ent)(w:World)(h:Hd w B hd)(hR:R+65<=263)(hu:hd R=.int .u64 u)(hub:u<B64)(hmb:mk<B64)(o:∀s,s<64->OwnF w base (hd (R+1+s)) (c s))(hlen:∀p,p<=64->(takeL c (u &&& mk) p).length<=100000)(hT:TabW w)(hT0:1<w.heap.size)(hB0:1<B) :
  Calls Tryz.prog 178 #[.pointer (some ⟨B,R,none⟩),.int .u64 mk] w (TakeIs w B R base u mk hd c):=by
 have hB64:B64=18446744073709551616:=rfl;obtain⟨m,hm⟩:∃m,u &&& mk=m:=⟨_,rfl⟩;have hmlt:m<B64:=by rw[<-hm];exact Nat.lt_of_le_of_lt Nat.and_le_left hub
 have a1:bits BinOp.and IntKind.u64 (u:Int) (mk:Int)=(m:Int):=by rw[<-hm];exact bits_and_u64_nat u mk hub hmb
 have a2:bits BinOp.andNot IntKind.u64 (u:Int) (mk:Int)=((clr u mk:Nat):Int):=u64_andNot_nat u mk hub hmb;obtain⟨U,hU⟩:∃U,clr u mk=U:=⟨_,rfl⟩;rw[hU] at a2
 have HT:Aside (TakeIs w B R base u mk hd c=fun r w'=>∃v,r=.returned v/\Hd w' B (hset (hdT hd R m 64) R (.int .u64 (U:Int)))/\OwnF w' w.heap.size v (takeL c m 64)/\Fr (fun k=>k=B) w w'/\∀k,rowB v=some k->w.heap.size<=k):=by
  show _=_
  funext r w'
  unfold TakeIs;rw[hm,hU]
 rw[HT.out];rw[hm] at hlen;have c0:=h.cell (k:=R) (by omega);rw[hu] at c0;have H:Aside (Hd w B hd):=h;have O:Aside (∀s,s<64->OwnF w base (hd (R+1+s)) (c s)):=o;have LEN:Aside (∀p,p<=64->(takeL c m p).length<=100000):=hlen
 have TB:Aside (∀W,Fr (fun k=>k=B) w W->TabW W):=fun W hW j hj=>by
  have:=hT j hj;rw[<-this];exact World.cell?_of_block (hW.block 1 hT0 (by omega))
 have HU:Hid (hd R=.int .u64 u):=hu;have ML:Aside (m<B64):=hmlt;have tz:Aside (∀(x:Nat)(W:World),x<B64->x≠0->TabW W->Calls Tryz.prog 242 #[.int .u64 x] W fun e w'=>e=.returned (.int .i64 (ctz 64 x:Nat))/\w'=W):=fun x W h1 h2 h3=>tz_any x h1 h2 W h3;clear h o hlen hT hu hub hmb hm hU HT hmlt;go_enter Tryz.func178,Tryz.ntmps178
 go_wp2
 go_loopg [5,6,7] 64 (fun kx s5 s6 s7 wr=>∃(p x:Nat)(va:Option Addr)(vn vc:Nat),s5=.slice va vn vc/\s6=.int .u64 x/\p<=64/\64-p<=kx/\Aside (x<B64/\∀i,i<64->x.testBit i=(decide (p<=i)&&m.testBit i))/\Aside (Hd wr B (hdT hd R m p))/\Aside (OwnF wr w.heap.size (.slice va vn vc) (takeL c m p))/\Aside (Fr (fun k=>k=B) w wr/\∀k,rowB (.slice va vn vc)=some k->w.heap.size<=k))
 case atStart=>
  refine⟨0,m,none,0,0,rfl,rfl,by omega,by omega,⟨ML.out,fun i _=>by simp⟩,H.out.congr fun k _=>(hdT_zero hd R m k).symm,?_,⟨Fr.refl _ _,fun k hk=>by cases hk⟩⟩;rw[takeL_zero];exact OwnF.nil _ _
 case round=>
  obtain⟨p,x,va,vn,vc,rfl,rfl,hp,hkx,XB,HD,OV,FR⟩:=hrel;by_cases hx:x=0
  ·subst hx
   have hz:∀i,p<=i->i<64->m.testBit i=false:=fun i h1 h2=>by
    have:=XB.out.2 i h2;rw[Nat.zero_testBit] at this;simpa [h1] using this.symm
   have q1:=HD.out.cell (k:=R) (by omega);rw[hdT_R,HU.out] at q1;have q2:=HD.out.frozen R;have bB:=HD.out.lt
   have FIN:Aside (∃v,Ending.returned (.slice va vn vc)=.returned v/\Hd (wr.setCell ⟨B,R,none⟩ (.int .u64 (U:Int))) B (hset (hdT hd R m 64) R (.int .u64 (U:Int)))/\OwnF (wr.setCell ⟨B,R,none⟩ (.int .u64 (U:Int))) w.heap.size v (takeL c m 64)/\Fr (fun k=>k=B) w (wr.setCell ⟨B,R,none⟩ (.int .u64 (U:Int)))/\∀k,rowB v=some k->w.heap.size<=k):=by
    refine⟨_,rfl,(HD.out.set R _).congr fun k hk=>?_,?_,FR.out.1.trans (Fr.setCell (fun k=>k=B) _ _ _ _ rfl) (fun j hj=>.inl hj),FR.out.2⟩
    ·unfold hset
     split
     ·rfl
     ·exact(hdT_skip hd R m hp hz k).symm
    ·rw[takeL_skip c m hp hz];refine OV.out.of_block fun k hk=>heap_setCell_other _ _ _ _ (fun e=>?_);have h1:=FR.out.2 k hk;have h2:=H.out.lt;rw[e] at h1;exact absurd h1 (by show ¬w.heap.size<=B;omega)
   clear HD OV FR XB hz
   go_wp2
   go_ret;exact FIN.out
  ·have hx0:¬(x:Int)=0:=by omega
   have hx1:((x:Int) != 0)=true:=by simp;omega
   obtain⟨t1,t2,t3,t4⟩:=ctz_spec x XB.out.1 hx;have tzc:=tz.out x wr XB.out.1 hx (TB.out wr FR.out.1);obtain⟨q,hq⟩:∃q,ctz 64 x=q:=⟨_,rfl⟩;rw[hq] at t1 t2 t3 t4 tzc
   have hpq:p<=q:=by
    have:=XB.out.2 q t1;rw[t2] at this;simp at this;exact this.1
   have hmq:m.testBit q=true:=by
    have:=XB.out.2 q t1;rw[t2] at this;simp at this;exact this.2
   have hsk:∀i,p<=i->i<q->m.testBit i=false:=fun i h1 h2=>by
    have:=XB.out.2 i (by omega);rw[t3 i h2] at this;simpa [h1] using this.symm
   have hq64:(q:Int)<64:=by omega
   obtain⟨sa,sc,es,_,hs1,hs2,hsL⟩:=(O.out q t1).isL;obtain⟨sn,hsn⟩:∃n,(c q).length=n:=⟨_,rfl⟩;rw[hsn] at es;have cq:=HD.out.cell (k:=R+1+q) (by omega);rw[hdT_at hd R m hpq,es] at cq;have fq:=HD.out.frozen (R+1+q)
   have hL2:IsL wr sa sc (c q):=by
    have oq:OwnF wr base (hd (R+1+q)) (c q):=(O.out q t1).fr FR.out.1 (fun k hk e=>Hd.ne H.out (O.out q t1) (by rw[hk,e]));obtain⟨sa',sc',es',_,_,_,h'⟩:=oq.isL;rw[es,hsn] at es';injection es' with e1 e2 e3
    rw[e1,e3];exact h'
   have hl:=LEN.out (q+1) (by omega);rw[takeL_succ,if_pos hmq,takeL_skip c m hpq hsk,List.length_append] at hl;obtain⟨v2,w2,hr,o2,g2,n2⟩:=appF OV.out hL2 (by omega) FR.out.1.size 39;obtain⟨pa,pc,e2,_⟩:=o2.isL;obtain⟨pn,hpn⟩:∃n,(takeL c m p++c q).length=n:=⟨_,rfl⟩;rw[hpn] at e2;subst e2;rw[hsn] at hr;have nB:rowB (.slice va vn vc)≠some B:=fun e=>by have:=FR.out.2 B e;have:=H.out.lt;omega
   have h2:Hd w2 B (hdT hd R m p):=HD.out.of_block (g2.block B HD.out.lt (fun e=>nB e.symm));have c2:=h2.cell (k:=R+1+q) (by omega);rw[hdT_at hd R m hpq,es] at c2;have f2:=h2.frozen (R+1+q);have bB:=h2.lt
   have N1:Aside (Hd (w2.setCell ⟨B,R+1+q,none⟩ nilV) B (hdT hd R m (q+1))):=(h2.set _ nilV).congr fun k hk=>by
    rw[<-hdT_step hd R m q hmq k];unfold hset
    split
    ·rfl
    ·exact(hdT_skip hd R m hpq hsk k).symm
   have rn:∀k,rowB (.slice pa pn pc)=some k->w.heap.size<=k:=fun k hk=>by
    rcases n2 k hk with x|x
    ·exact FR.out.2 k x
    ·have:=FR.out.1.size;omega
   have N2:Aside (OwnF (w2.setCell ⟨B,R+1+q,none⟩ nilV) w.heap.size (.slice pa pn pc) (takeL c m (q+1))):=by
    show OwnF _ _ _ _;rw[takeL_succ,if_pos hmq,takeL_skip c m hpq hsk];refine o2.of_block fun k hk=>heap_setCell_other _ _ _ _ (fun e=>?_);have h1:=rn k hk;have h2:=H.out.lt;rw[e] at h1;exact absurd h1 (by show ¬w.heap.size<=B;omega)
   have N3:Aside (Fr (fun k=>k=B) w (w2.setCell ⟨B,R+1+q,none⟩ nilV)/\∀k,rowB (.slice pa pn pc)=some k->w.heap.size<=k):=
    ⟨(FR.out.1.trans (Fr.of_grown g2) (fun j hj=>.inr (FR.out.2 j hj))).trans (Fr.setCell (fun k=>k=B) _ _ _ _ rfl) (fun j hj=>.inl hj),rn⟩
   have hxb:x &&& (x-1)<B64:=Nat.lt_of_le_of_lt Nat.and_le_left XB.out.1
   have N4:Aside (x &&& (x-1)<B64/\∀i,i<64->(x &&& (x-1)).testBit i=(decide (q+1<=i)&&m.testBit i)):=by
    refine⟨hxb,fun i hi=>?_⟩;rw[t4 i,XB.out.2 i hi];by_cases c1:i=q
    ·subst c1;rw[decide_eq_false (show ¬i+1<=i by omega)];simp
    ·by_cases c2:i<q
     ·have:x.testBit i=false:=t3 i c2;rw[XB.out.2 i hi] at this;rw[this];simp;omega
     ·have c3:p<=i:=by omega
      have c4:q+1<=i:=by omega
      simp[c1,c3,c4]
   have e3:bits BinOp.and IntKind.u64 (x:Int) ((x:Int)-1)=((x &&& (x-1):Nat):Int):=by
    rw[show(x:Int)-1=((x-1:Nat):Int) by omega];exact bits_and_u64_nat x (x-1) XB.out.1 (by have hx2:x<18446744073709551616:=XB.out.1;omega)
   have hx64:x<=18446744073709551615:=by have hx2:x<18446744073709551616:=XB.out.1;omega
   obtain⟨X,hX⟩:∃X,x &&& (x-1)=X:=⟨_,rfl⟩;rw[hX] at e3 N4;clear HD OV FR XB h2 o2 g2 n2 t2 t3 t4 hmq hsk hsL hL2 hl nB rn hxb hX fq hq es hs1 hs2 hsn hpn
   go_wp2_with (first|(go_at_call 242;refine tzc.mono ?_;rintro e w' ⟨rfl,hw'⟩;obtain rfl:wr=w':=hw'.symm)|(at_builtin;refine Lib.wpList_append_run wr rfl _ _ 39 39 rfl _ _ rfl rfl _ w2 hr ?_))
   go_roundg (64-(q+1))
   case measure=>omega
   case rel=>exact⟨q+1,X,pa,pn,pc,rfl,rfl,by omega,Nat.le_refl _,N4,N1,N2,N3⟩
end
section
open Go.RowKit Go.Lib Go.Sort Go.WideMaps Go.Maps
theorem keyedI:Keyed Tryz.prog 3:=int_keyed Tryz.underlying3
abbrev wfI(a:Int):Prop:=(Lit.int .i64 a).wf=true
theorem key_int{a:Int}(wa:wfI a):keyOf Tryz.prog 3 (.int .i64 a)=some (.int .i64 a):=keyOf_int_mk Tryz.underlying3 wa
def heldR(v:Value):Option (DataW Value×List MemPlace):=some (.held v,[])
theorem zeroU(w:World):(zeroValue 34).run Tryz.prog w=.ok (.int .u64 0) w:=by kernel_rfl
def DuM(w:World)(M:Nat)(f:Int->Option Int)(n:Nat):Prop:=
 ∃D:DataW Value,w.ownsMap Tryz.prog 3 heldR M n D/\Maps.size D=n/\∀i,wfI i->Maps.has D (.int .i64 i)=(f i).isSome/\∀v,f i=some v->∀z,D.atKey (.int .i64 i) z=.held (.int .u64 v)
theorem own_tight{w:World}{M n:Nat}{D:DataW Value}(h:w.ownsMap Tryz.prog 3 heldR M n D):w.ownsMap Tryz.prog 3 heldR M (Maps.size D) D:=by
 obtain⟨es,cl,h1,h2,h3,rfl⟩:=h;exact⟨es,cl,h1,h2,by simp[Maps.size,length_sorted],rfl⟩
theorem DuM.lt{w:World}{M n:Nat}{f:Int->Option Int}(h:DuM w M f n):M<w.heap.size:=by
 obtain⟨D,h1,_⟩:=h;exact h1.lt
theorem DuM.isMap{w:World}{M n:Nat}{f:Int->Option Int}(h:DuM w M f n):∃es c,w.heap[M]?=some (.map es c):=by
 obtain⟨D,⟨es,c,hb,_⟩,_⟩:=h;exact⟨es,c,hb⟩
theorem DuM.of_block{w w':World}{M n:Nat}{f:Int->Option Int}(h:DuM w M f n)(e:w'.heap[M]?=w.heap[M]?):DuM w' M f n:=by
 obtain⟨D,⟨es,c,hb,r⟩,h3⟩:=h;exact⟨D,⟨es,c,e.trans hb,r⟩,h3⟩
theorem DuM.made(w:World):DuM (w.alloc (.map #[] 0)) w.heap.size (fun _=>none) 0:=
 ⟨.map [],World.ownsMap_made w _ _ _,rfl,fun i _=>⟨rfl,fun v hv=>by cases hv⟩⟩
theorem DuM.look{w:World}{M n:Nat}{f:Int->Option Int}(h:DuM w M f n){i:Int}(wi:wfI i){v:Int}(hv:f i=some v) :
  (Instr.lookup 170 (.map (some M)) (.int .i64 i) true).run Tryz.prog w=.ok (.tuple #[.int .u64 v,.bool true]) w:=by
 obtain⟨D,h1,h2,h3⟩:=h;obtain⟨v',ps,hr,hv'⟩:=h1.look_ok keyedI Tryz.underlying170 (zeroU w) (zd:=.held (.int .u64 0)) (zp:=[]) rfl (key_int wi);rw[((h3 i wi).2 v hv) _] at hv';rw[(h3 i wi).1,hv] at hr;unfold heldR at hv';simp only[Option.some.injEq,Prod.mk.injEq,DataW.held.injEq] at hv';rw[<-hv'.1];exact hr
theorem DuM.look_no{w:World}{M n:Nat}{f:Int->Option Int}(h:DuM w M f n){i:Int}(wi:wfI i)(hv:f i=none) :
  (Instr.lookup 170 (.map (some M)) (.int .i64 i) true).run Tryz.prog w=.ok (.tuple #[.int .u64 0,.bool false]) w:=by
 obtain⟨D,h1,h2,h3⟩:=h;obtain⟨v',ps,hr,hv'⟩:=h1.look_ok keyedI Tryz.underlying170 (zeroU w) (zd:=.held (.int .u64 0)) (zp:=[]) rfl (key_int wi);have hh:=(h3 i wi).1;rw[hv] at hh;rw[Maps.atKey_of_not_has hh] at hv';rw[hh] at hr;unfold heldR at hv';simp only[Option.some.injEq,Prod.mk.injEq,DataW.held.injEq] at hv';rw[<-hv'.1];exact hr
theorem DuM.len{w:World}{M n:Nat}{f:Int->Option Int}(h:DuM w M f n)(ty:TypeId):(Builtin.len_ #[170] ty #[.map (some M)]).run Tryz.prog w=.ok (.int .i64 n) w:=by
 obtain⟨D,h1,h2,h3⟩:=h;rw[<-h2];exact h1.len Tryz.underlying170 ty
def fput(f:Int->Option Int)(i:Int)(v:Int):Int->Option Int:=fun a=>if a=i then some v else f a
def fdel(f:Int->Option Int)(i:Int):Int->Option Int:=fun a=>if a=i then none else f a
theorem int_ne{a b:Int}(h:a≠b):(Lit.int .i64 a)≠.int .i64 b:=fun e=>h (by injection e)
theorem DuM.store{w:World}{M n:Nat}{f:Int->Option Int}(h:DuM w M f n)(hn:n<=100000){i:Int}(wi:wfI i)(hi:f i=none)(v:Int) :
  ∃w',(Instr.mapUpdate 170 (.map (some M)) (.int .i64 i) (.int .u64 v)).run Tryz.prog w=.ok () w'/\DuM w' M (fput f i v) (n+1)/\w.grownBy w' (some M):=by
 obtain⟨D,h1,h2,h3⟩:=h;obtain⟨w',hr,ho,hm⟩:=h1.store keyedI Tryz.underlying170 (by unfold maxLen;omega) (key_int wi) (val:=.int .u64 v) (d:=.held (.int .u64 v)) (ps:=[]) rfl;have hk:=keyedI.key (key_int wi)
 have hsz:Maps.size (D.put (.int .i64 i) (.held (.int .u64 v)))=n+1:=by
  rw[Maps.size_put (h1.tidy keyedI),(h3 i wi).1,hi,h2];rfl
 refine⟨w',hr,⟨_,by have:=own_tight ho;rw[hsz] at this;exact this,hsz,fun a wa=>?_⟩,hm.grown⟩;by_cases e:a=i
 ·subst e;refine⟨by rw[Maps.has_put_same h1.isMap hk];simp[fput],fun u hu z=>?_⟩;rw[Maps.atKey_put_same h1.isMap hk];simp[fput] at hu;rw[hu]
 ·rw[Maps.has_put_other (int_ne e)];have:fput f i v a=f a:=by unfold fput;rw[if_neg e]
  rw[this];refine⟨(h3 a wa).1,fun u hu z=>?_⟩;rw[Maps.atKey_put_other (int_ne e)];exact(h3 a wa).2 u hu z
theorem DuM.drop{w:World}{M n:Nat}{f:Int->Option Int}(h:DuM w M f (n+1)){i:Int}(wi:wfI i){v:Int}(hi:f i=some v)(ty:TypeId) :
  ∃w',(Builtin.delete_ #[170,3] ty #[.map (some M),.int .i64 i]).run Tryz.prog w=.ok (.tuple #[]) w'/\DuM w' M (fdel f i) n/\w.grownBy w' (some M):=by
 obtain⟨D,h1,h2,h3⟩:=h;obtain⟨w',hr,ho,hm⟩:=h1.drop keyedI Tryz.underlying170 (key_int wi) ty
 have hsz:Maps.size (D.del (.int .i64 i))=n:=by
  have:=Maps.size_del (k:=.int .i64 i) (h1.tidy keyedI);rw[(h3 i wi).1,hi] at this;simp at this;omega
 refine⟨w',hr,⟨_,by have:=own_tight ho;rw[hsz] at this;exact this,hsz,fun a wa=>?_⟩,hm.grown⟩;by_cases e:a=i
 ·subst e;exact⟨by rw[Maps.has_del_same];simp[fdel],fun u hu z=>by simp[fdel] at hu⟩
 ·rw[Maps.has_del_other (int_ne e)];have:fdel f i a=f a:=by unfold fdel;rw[if_neg e]
  rw[this];refine⟨(h3 a wa).1,fun u hu z=>?_⟩;rw[Maps.atKey_del_other (int_ne e)];exact(h3 a wa).2 u hu z
def lset{α:Type}(f:Nat->α)(t:Nat)(x:α):Nat->α:=fun i=>if i=t then x else f i
theorem lset_same{α:Type}(f:Nat->α)(t:Nat)(x:α):lset f t x t=x:=if_pos rfl
theorem lset_ne{α:Type}(f:Nat->α){t i:Nat}(x:α)(h:i≠t):lset f t x i=f i:=if_neg h
def cset(c:Nat->Nat->List Ent)(l s:Nat)(d:List Ent):Nat->Nat->List Ent:=fun a b=>if a=l/\b=s then d else c a b
theorem cset_same(c:Nat->Nat->List Ent)(l s:Nat)(d:List Ent):cset c l s d l s=d:=if_pos ⟨rfl,rfl⟩
theorem cset_ne(c:Nat->Nat->List Ent){l s a b:Nat}(d:List Ent)(h:¬(a=l/\b=s)):cset c l s d a b=c a b:=if_neg h
structure WhA(w:World)(B M base:Nat)(hd:Nat->Value)(now:Nat)(u:Nat->Nat)(c:Nat->Nat->List Ent)(far:List Ent)(f:Int->Option Int)(n:Nat):Prop where
 head:Hd w B hd
 h0:hd 0=.int .u64 now
 h1:hd 1=.map (some M)
 hu:∀l,l<4->hd (2+l*65)=.int .u64 (u l)
 slot:∀l s,l<4->s<64->OwnF w base (hd (2+l*65+1+s)) (c l s)
 far:OwnF w base (hd 262) far
 map:DuM w M f n
 inj:∀i j,i<263->j<263->i≠j->∀k,rowB (hd i)=some k->rowB (hd j)≠some k
 ub:∀l,l<4->u l<B64
 nb:now<B64
 lowB:base<=B
 lowM:base<=M
def foot(B M:Nat)(hd:Nat->Value)(k:Nat):Prop:=k=B\/k=M\/∃i,i<263/\rowB (hd i)=some k
variable {w w':World}{B M base now n:Nat}{hd:Nat->Value}{u:Nat->Nat}{c:Nat->Nat->List Ent}{far:List Ent}{f:Int->Option Int}
theorem cellCase(i:Nat)(hi:i<263):i=0\/i=1\/(∃l,l<4/\i=2+l*65)\/(∃l s,l<4/\s<64/\i=2+l*65+1+s)\/i=262:=by
 by_cases h0:i=0;· exact .inl h0
 by_cases h1:i=1;· exact .inr (.inl h1)
 by_cases h2:i=262;· exact .inr (.inr (.inr (.inr h2)))
 by_cases h3:(i-2)%65=0
 ·exact .inr (.inr (.inl ⟨(i-2)/65,by omega,by omega⟩))
 ·exact .inr (.inr (.inr (.inl ⟨(i-2)/65,(i-2)%65-1,by omega,by omega,by omega⟩)))
theorem WhA.own(h:WhA w B M base hd now u c far f n){i:Nat}(hi:i<263){k:Nat}(hk:rowB (hd i)=some k):∃d,OwnF w base (hd i) d:=by
 rcases cellCase i hi with rfl|rfl|⟨l,hl,rfl⟩|⟨l,s,hl,hs,rfl⟩|rfl
 ·rw[h.h0] at hk;cases hk
 ·rw[h.h1] at hk;cases hk
 ·rw[h.hu l hl] at hk;cases hk
 ·exact⟨_,h.slot l s hl hs⟩
 ·exact⟨_,h.far⟩
theorem WhA.rowLt(h:WhA w B M base hd now u c far f n){i:Nat}(hi:i<263){k:Nat}(hk:rowB (hd i)=some k):base<=k/\k<w.heap.size/\k≠B/\k≠M:=by
 obtain⟨d,o⟩:=h.own hi hk;refine⟨(o.rowLt hk).1,(o.rowLt hk).2,fun e=>Hd.ne h.head o (by rw[hk,e]),fun e=>?_⟩;obtain⟨cs,h1⟩:=o.rowT hk;obtain⟨es,cl,h2⟩:=h.map.isMap;rw[<-e,h1] at h2
 cases h2
theorem WhA.BM(h:WhA w B M base hd now u c far f n):M≠B:=fun e=>by
 obtain⟨cs,h1⟩:=h.head.typ;obtain⟨es,cl,h2⟩:=h.map.isMap;rw[e,h1] at h2
 cases h2
theorem WhA.footLt(h:WhA w B M base hd now u c far f n){k:Nat}(hk:foot B M hd k):base<=k/\k<w.heap.size:=by
 rcases hk with rfl|rfl|⟨i,hi,hk⟩
 ·exact⟨h.lowB,h.head.lt⟩
 ·exact⟨h.lowM,h.map.lt⟩
 ·exact⟨(h.rowLt hi hk).1,(h.rowLt hi hk).2.1⟩
theorem WhA.fr(h:WhA w B M base hd now u c far f n){X:Nat->Prop}(hf:Fr X w w')(hx:∀k,foot B M hd k->¬X k):WhA w' B M base hd now u c far f n:=
 ⟨h.head.fr hf (hx B (.inl rfl)),h.h0,h.h1,h.hu,fun l s hl hs=>(h.slot l s hl hs).fr hf (fun k hk=>hx k (.inr (.inr ⟨_,by omega,hk⟩))),h.far.fr hf (fun k hk=>hx k (.inr (.inr ⟨_,by omega,hk⟩))),h.map.of_block (hf.block M h.map.lt (hx M (.inr (.inl rfl)))),h.inj,h.ub,h.nb,h.lowB,h.lowM⟩
theorem WhA.slotSet(h:WhA w B M base hd now u c far f n){l s u':Nat}(hl:l<4)(hs:s<64){v':Value}{d':List Ent}(h':Hd w' B (hset (hset hd (2+l*65+1+s) v') (2+l*65) (.int .u64 (u':Int))))(o':OwnF w' base v' d')(hf:Fr (fun k=>k=B\/rowB (hd (2+l*65+1+s))=some k) w w')(hr:∀k,rowB v'=some k->rowB (hd (2+l*65+1+s))=some k\/w.heap.size<=k)(hu':u'<B64) :
  WhA w' B M base (hset (hset hd (2+l*65+1+s) v') (2+l*65) (.int .u64 (u':Int))) now (lset u l u') (cset c l s d') far f n:=by
 have e:∀i,i≠2+l*65+1+s->i≠2+l*65->hset (hset hd (2+l*65+1+s) v') (2+l*65) (.int .u64 (u':Int)) i=hd i:=fun i h1 h2=>by rw[hset_ne _ _ h2,hset_ne _ _ h1]
 have e1:hset (hset hd (2+l*65+1+s) v') (2+l*65) (.int .u64 (u':Int)) (2+l*65)=.int .u64 (u':Int):=hset_same _ _ _;have e2:hset (hset hd (2+l*65+1+s) v') (2+l*65) (.int .u64 (u':Int)) (2+l*65+1+s)=v':=by rw[hset_ne _ _ (by omega),hset_same]
 have oth:∀i d,i<263->i≠2+l*65+1+s->OwnF w base (hd i) d->OwnF w' base (hd i) d:=fun i d hi hne o=>o.fr hf (fun k hk hx=>by
  rcases hx with hx|hx
  ·exact Hd.ne h.head o (by rw[hk,hx])
  ·exact h.inj _ _ hi (by omega) hne k hk hx)
 refine⟨h',by rw[e 0 (by omega) (by omega)];exact h.h0,by rw[e 1 (by omega) (by omega)];exact h.h1,fun a ha=>?_,fun a b ha hb=>?_,?_,h.map.of_block (hf.block M h.map.lt (fun hx=>?_)),fun i j hi hj hij k hk=>?_,fun a ha=>?_,h.nb,h.lowB,h.lowM⟩
 ·by_cases ca:a=l
  ·subst ca;rw[e1,lset_same]
  ·rw[e _ (by omega) (by omega),lset_ne _ _ ca];exact h.hu a ha
 ·by_cases ca:a=l/\b=s
  ·obtain⟨rfl,rfl⟩:=ca;rw[e2,cset_same];exact o'
  ·rw[cset_ne _ _ ca,e _ (by omega) (by omega)];exact oth _ _ (by omega) (by omega) (h.slot a b ha hb)
 ·rw[e 262 (by omega) (by omega)];exact oth _ _ (by omega) (by omega) h.far
 ·rcases hx with hx|hx
  ·exact h.BM hx
  ·exact(h.rowLt (by omega) hx).2.2.2 rfl
 ·have old:∀j,j<263->j≠2+l*65+1+s->j≠2+l*65->∀k,rowB v'=some k->rowB (hd j)≠some k:=fun j hj h1 h2 k hk hk2=>by
   rcases hr k hk with hk|hk
   ·exact h.inj _ _ hj (by omega) h1 k hk2 hk
   ·have:=(h.rowLt hj hk2).2.1;omega
  by_cases c1:i=2+l*65
  ·subst c1;rw[e1] at hk;cases hk
  ·by_cases c2:j=2+l*65
   ·subst c2;rw[e1];exact fun x=>by cases x
   ·by_cases c3:i=2+l*65+1+s
    ·subst c3;rw[e2] at hk;rw[e j (fun x=>hij x.symm) c2];exact old j hj (fun x=>hij x.symm) c2 k hk
    ·rw[e i c3 c1] at hk;by_cases c4:j=2+l*65+1+s
     ·subst c4;rw[e2];exact fun hv=>old i hi c3 c1 k hv hk
     ·rw[e j c4 c2];exact h.inj i j hi hj hij k hk
 ·by_cases ca:a=l
  ·subst ca;rw[lset_same];exact hu'
  ·rw[lset_ne _ _ ca];exact h.ub a ha
theorem foot_slot{l s u':Nat}(hl:l<4)(hs:s<64){v':Value}(hr:∀k,rowB v'=some k->rowB (hd (2+l*65+1+s))=some k\/w.heap.size<=k):∀k,foot B M (hset (hset hd (2+l*65+1+s) v') (2+l*65) (.int .u64 (u':Int))) k->foot B M hd k\/w.heap.size<=k:=by
 intro k hk;rcases hk with hk|hk|⟨i,hi,hk⟩
 ·exact .inl (.inl hk)
 ·exact .inl (.inr (.inl hk))
 ·by_cases c1:i=2+l*65
  ·subst c1;rw[hset_same] at hk;cases hk
  ·rw[hset_ne _ _ c1] at hk;by_cases c3:i=2+l*65+1+s
   ·subst c3;rw[hset_same] at hk
    rcases hr k hk with hk|hk
    ·exact .inl (.inr (.inr ⟨_,hi,hk⟩))
    ·exact .inr hk
   ·rw[hset_ne _ _ c3] at hk;exact .inl (.inr (.inr ⟨i,hi,hk⟩))
theorem WhA.farSet(h:WhA w B M base hd now u c far f n){v':Value}{d':List Ent}(h':Hd w' B (hset hd 262 v'))(o':OwnF w' base v' d')(hf:Fr (fun k=>k=B\/rowB (hd 262)=some k) w w')(hr:∀k,rowB v'=some k->rowB (hd 262)=some k\/w.heap.size<=k) :
  WhA w' B M base (hset hd 262 v') now u c d' f n:=by
 have oth:∀i d,i<263->i≠262->OwnF w base (hd i) d->OwnF w' base (hd i) d:=fun i d hi hne o=>o.fr hf (fun k hk hx=>by
  rcases hx with hx|hx
  ·exact Hd.ne h.head o (by rw[hk,hx])
  ·exact h.inj _ _ hi (by omega) hne k hk hx)
 refine⟨h',by rw[hset_ne _ _ (by omega)];exact h.h0,by rw[hset_ne _ _ (by omega)];exact h.h1,fun a ha=>by rw[hset_ne _ _ (by omega)];exact h.hu a ha,fun a b ha hb=>?_,by rw[hset_same];exact o',h.map.of_block (hf.block M h.map.lt (fun hx=>?_)),fun i j hi hj hij k hk=>?_,h.ub,h.nb,h.lowB,h.lowM⟩
 ·rw[hset_ne _ _ (by omega)];exact oth _ _ (by omega) (by omega) (h.slot a b ha hb)
 ·rcases hx with hx|hx
  ·exact h.BM hx
  ·exact(h.rowLt (by omega) hx).2.2.2 rfl
 ·have old:∀j,j<263->j≠262->∀k,rowB v'=some k->rowB (hd j)≠some k:=fun j hj h1 k hk hk2=>by
   rcases hr k hk with hk|hk
   ·exact h.inj _ _ hj (by omega) h1 k hk2 hk
   ·have:=(h.rowLt hj hk2).2.1;omega
  by_cases c3:i=262
  ·subst c3;rw[hset_same] at hk;rw[hset_ne _ _ (fun x=>hij x.symm)];exact old j hj (fun x=>hij x.symm) k hk
  ·rw[hset_ne _ _ c3] at hk;by_cases c4:j=262
   ·subst c4;rw[hset_same];exact fun hv=>old i hi c3 k hv hk
   ·rw[hset_ne _ _ c4];exact h.inj i j hi hj hij k hk
theorem foot_far{v':Value}(hr:∀k,rowB v'=some k->rowB (hd 262)=some k\/w.heap.size<=k):∀k,foot B M (hset hd 262 v') k->foot B M hd k\/w.heap.size<=k:=by
 intro k hk;rcases hk with hk|hk|⟨i,hi,hk⟩
 ·exact .inl (.inl hk)
 ·exact .inl (.inr (.inl hk))
 ·by_cases c3:i=262
  ·subst c3;rw[hset_same] at hk
   rcases hr k hk with hk|hk
   ·exact .inl (.inr (.inr ⟨_,hi,hk⟩))
   ·exact .inr hk
  ·rw[hset_ne _ _ c3] at hk;exact .inl (.inr (.inr ⟨i,hi,hk⟩))
theorem WhA.mapSet(h:WhA w B M base hd now u c far f n){g:Int->Option Int}{m:Nat}(hm:DuM w' M g m)(hg:w.grownBy w' (some M)):WhA w' B M base hd now u c far g m:=by
 have hf:Fr (fun k=>k=M) w w':=(Fr.of_grown hg).mono (fun j hj=>by injection hj with hj;exact hj.symm);exact⟨h.head.fr hf (fun e=>h.BM e.symm),h.h0,h.h1,h.hu,fun l s hl hs=>(h.slot l s hl hs).fr hf (fun k hk=>(h.rowLt (by omega) hk).2.2.2),h.far.fr hf (fun k hk=>(h.rowLt (by omega) hk).2.2.2),hm,h.inj,h.ub,h.nb,h.lowB,h.lowM⟩
end
end Go.Proofs.YthpgfmmpjoodkaaGreatDoor.Wl
