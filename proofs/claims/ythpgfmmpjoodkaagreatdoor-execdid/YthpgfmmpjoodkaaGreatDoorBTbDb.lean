import Derived.Test.YthpgfmmpjoodkaaGreatDoorA0
import Derived.Test.YthpgfmmpjoodkaaGreatDoorBTbA
namespace Go.Proofs.YthpgfmmpjoodkaaGreatDoor.Ta
set_option linter.unusedSimpArgs false
set_option maxHeartbeats 8000000
set_option maxRecDepth 100000
set_option linter.unusedVariables false
open Go.RowKit Go.Lib Go.WideMaps Go.Maps
section
variable {w w' u:World}{B a b r M n g cap i O:Nat}{v v':Value}{T T':List TR}{x y:TR}{ws ws':Nat->Int}{fc fc':Int×Int->Option Value}
def turnT(x:TR)(s:Int):TR:={x with s:=s,r:=if s=4\/s=5 then IntKind.u64.wrap (x.r+1) else x.r}
theorem tturn_ok(h:Tab w B a b r M n (.slice (some ⟨g,0,none⟩) T.length cap) T ws fc)(I:TInv T ws fc n)(hn:n<=1000)(hi:T[i]?=some x)(s:Int)(hc:canB x.s s=true)(hp0:x.p=0) :
  Calls Tryz.prog 109 #[.pointer (some ⟨B,0,none⟩),.int .i64 ((i:Int)+1),.int .i64 s] w fun e w'=>e=.returned (.int .i64 0)/\(∃ws' fc',Tab w' B a b r M n (.slice (some ⟨g,0,none⟩) T.length cap) (T.set i (turnT x s)) ws' fc'/\TInv (T.set i (turnT x s)) ws' fc' n)/\Fr (tf B a b r M (.slice (some ⟨g,0,none⟩) T.length cap)) w w':=by
 have hsr:1<=s/\s<=6:=by obtain⟨q,rfl,q1,_,q2,_⟩:=can_range hc;omega
 have hne:Aside (x.s≠s):=by obtain⟨q,rfl,_,q3,_,_⟩:=can_range hc;exact q3
 have HS:Aside (canB x.s s=true/\x.p=0):=⟨hc,hp0⟩;clear hc hp0;have hlen:i<T.length:=(List.getElem?_eq_some_iff.1 hi).1;have hin:i<n:=by have:=I.le;omega
 have okx:=I.ok x (List.mem_of_getElem? hi);have hst:=I.st i x hi;obtain⟨O,hO⟩:∃O,i*9=O:=⟨_,rfl⟩;have hf:=find_in h hlen (by have:=I.le;omega);rw[hO] at hf;have c0:=h.c0;have hS:=state_in w a b r n ws h.arn i hin;rw[hst] at hS;have HI:Aside (TInv T ws fc n):=I;have HT:Aside (Tab w B a b r M n (.slice (some ⟨g,0,none⟩) T.length cap) T ws fc/\T[i]?=some x/\i*9=O/\ws i%8=x.s/\i<n):=⟨h,hi,hO,hst,hin⟩;obtain⟨X,hX⟩:∃X,x.s=X:=⟨_,rfl⟩;rw[hX] at hS;have HX:Aside (x.s=X):=hX;clear h I hi hO hst hlen hX;go_enter Tryz.func109,Tryz.ntmps109
 go_wp2_with fail
 refine hf.mono ?_;rintro e w1 ⟨rfl,rfl⟩;clear hf
 go_wp2_with fail
 refine hS.mono ?_;rintro e w2 ⟨rfl,a2,k2⟩;clear hS c0;have X2:Aside (Tab w2.drew B a b r M n (.slice (some ⟨g,0,none⟩) T.length cap) T ws fc/\Fr (tf B a b r M (.slice (some ⟨g,0,none⟩) T.length cap)) w1 w2.drew):=⟨(HT.out.1.setA k2 a2).drew,((Fr.refl _ w1).trans (Fr.kept k2) (fun j hj=>.inl (tf_abr hj))).drew⟩;have c0:w2.drew.cell? ⟨B,0,none⟩=some (.pointer (some ⟨a,0,none⟩)):=X2.out.1.c0;have HW:Aside _:=word_in w2.drew a b r n ws X2.out.1.arn i HT.out.2.2.2.2;clear a2 k2;go_upto_region 5 with fail
 go_region_held3 (fun w'=>w'.cell? ⟨B,0,none⟩=some (.pointer (some ⟨a,0,none⟩))) (go_keep) ((first|(go_at_call 154;refine Calls.mono (turn_ok v3 a b r n ws X3.out.arn i HT.out.2.2.2.2 (ws i) s (by rw[HT.out.2.2.2.1];exact HS.out.1) rfl) ?_;rintro e v4 ⟨rfl,a4,k4⟩;have X4:Aside (Tab v4 B a b r M n (.slice (some ⟨g,0,none⟩) T.length cap) T (putW ws i (packI s (ws i/8+1))) fc):=X3.out.setA k4 a4;have x0:v4.cell? ⟨B,0,none⟩=some (.pointer (some ⟨a,0,none⟩)):=by exact X4.out.c0)|(go_at_call 146;refine Calls.mono HW.out ?_;rintro e v3 ⟨rfl,a3,k3⟩;have X3:Aside (Tab v3 B a b r M n (.slice (some ⟨g,0,none⟩) T.length cap) T ws fc):=(X2.out.1.setA k3 a3);have x0:v3.cell? ⟨B,0,none⟩=some (.pointer (some ⟨a,0,none⟩)):=X3.out.c0)))
 have F4:Aside (Fr (tf B a b r M (.slice (some ⟨g,0,none⟩) T.length cap)) w1 v4):=(X2.out.2.trans (Fr.kept k3) (fun j hj=>.inl (tf_abr hj))).trans (Fr.kept k4) (fun j hj=>.inl (tf_abr hj));clear a3 k3 a4 k4 x0;obtain⟨P,hP⟩:∃P,x.prio=P:=⟨_,rfl⟩;have okp:0<=x.prio/\x.prio<=7:=okx.1;have oks:0<=x.s/\x.s<8:=by omega
 obtain⟨C,hC⟩:∃C:Nat,T.countP (hasK x.s x.prio)=C:=⟨_,rfl⟩;obtain⟨D,hD⟩:∃D:Nat,T.countP (hasK s x.prio)=D:=⟨_,rfl⟩;have hTl:T.length<=1000:=by have:=HI.out.le;omega
 have hC1:C<=1000:=by have:=cntP_le (hasK x.s x.prio) T;omega
 have hD1:D<=1000:=by have:=cntP_le (hasK s x.prio) T;omega
 obtain⟨s8,st,w5,w6,e5,s5,e6,T6,F6⟩:=bump_all X4.out HI.out.dom HT.out.2.1 HT.out.2.2.1 okp x.s oks (C:Int) ((C:Int)-1) (by rw[HI.out.cnt x.s x.prio,hC])
 obtain⟨s9,st2,w7,w8,e7,s7,e8,T8,F8⟩:=bump_all T6 (dom_put HI.out.dom oks (by omega) _) HT.out.2.1 HT.out.2.2.1 okp s (by omega) (D:Int) ((D:Int)+1) (by
  have:¬(s,x.prio)=(x.s,x.prio):=fun e=>hne.out (by simp only[Prod.mk.injEq] at e;exact e.1.symm);simp only[fput,this,if_false];rw[HI.out.cnt s x.prio,hD])
 have TT:=T8.tc HT.out.2.1 HT.out.2.2.1;have V8:packI s (ws i/8+1)%8=s:=by rw[packI_state];omega
 have II:Aside (∀y:TR,y.prio=x.prio->y.s=s->TInv (T.set i y) (putW ws i (packI s (ws i/8+1))) (fput (fput fc (x.s,x.prio) (.int .i64 ((C:Int)-1))) (s,x.prio) (.int .i64 ((D:Int)+1))) n):=fun y h1 h2=>by
  have:=HI.out.turn HT.out.2.1 h1 (by omega) (by rw[h2];exact hne.out) (packI s (ws i/8+1)) (by rw[V8,h2]);rw[h2,hC,hD] at this;exact this
 have T8A:Aside _:=T8;have FA:Aside (Fr (tf B a b r M (.slice (some ⟨g,0,none⟩) T.length cap)) w1 w8):=(F4.out.trans F6 (fun j hj=>.inl hj)).trans F8 (fun j hj=>.inl hj);rw[HX.out,hP] at e5;rw[HX.out] at s8 s5;rw[hP] at s8 s5 s9 s7 e7;have K8:Aside (S8 B M g O P X C v4.drew):=s8;have K5:Aside (S8 B M g O P X C w5):=s5;have K9:Aside (S8 B M g O P s D w6.drew):=s9;have K7:Aside (S8 B M g O P s D w7):=s7;have hwr1:IntKind.i64.wrap ((C:Int)-1)=(C:Int)-1:=by rw[IntKind.wrap_i64];omega
 have hwr2:IntKind.i64.wrap ((D:Int)+1)=(D:Int)+1:=by rw[IntKind.wrap_i64];omega
 obtain⟨k0,k1,k2,k4,k5,k6,k7,k8,fz⟩:=TT;have hag:=again_any x.f x.p x.d x.r x.m w8;rw[show decide (x.p>0)=false by simp[HS.out.2]] at hag;have HAG:Aside _:=hag;have KK:Aside _:=And.intro k4 (And.intro k5 (And.intro k6 (And.intro k7 k8)));have FZ:Aside (w8.frozen? ⟨g,O+7,none⟩=false):=fz _;clear s8 s5 s9 s7 T6 T8 F6 F8 hC hD hP V8 k0 k1 k2 k4 k5 k6 k7 k8 fz hag okx oks okp hTl;unfold S8 at K8 K5 K9 K7;go_upto_region 8 with fail
 refine anyE_start (S:=(fun v0=>v0.cell? ⟨B,2,none⟩=some (.map (some M))/\v0.cell? ⟨g,O,none⟩=some (.int .i64 P)/\(Instr.lookup 166 (.map (some M)) (.agg #[.int .i64 X,.int .i64 P]) false).run Tryz.prog v0=.ok (.int .i64 C) v0)) (L:=14) (by kernel_rfl) ?_;refine anyE_u (i:=0) K8.out rfl (by kernel_rfl) (fun w z=>by go_simp<;>rfl) (fun _ _ _ h=>h) ?_;refine anyE_u (i:=1) K8.out rfl (by kernel_rfl) (fun w z=>by go_simp<;>rfl) (fun _ _ _ h=>h) ?_;refine anyE_u (i:=2) K8.out rfl (by kernel_rfl) (fun w z=>by go_simp<;>rfl) (fun _ _ _ h=>h) ?_;refine anyE_u (i:=3) K8.out rfl (by kernel_rfl) (fun w z=>by go_simp<;>rfl) (fun _ _ _ h=>h) ?_;refine anyE_u (i:=4) K8.out rfl (by kernel_rfl) (fun w z=>by go_simp<;>rfl) (fun _ _ _ h=>h) ?_;refine anyE_u (i:=5) K8.out rfl (by kernel_rfl) (fun w z=>by go_simp<;>rfl) (fun _ _ _ h=>h) ?_;refine anyE_u (i:=6) K8.out rfl (by kernel_rfl) (fun w z=>by go_simp<;>rfl) (fun _ _ _ h=>h) ?_;refine anyE_u (i:=7) K8.out rfl (by kernel_rfl) (fun w z=>by go_simp<;>rfl) (fun _ _ _ h=>h) ?_;refine anyE_u (i:=8) K8.out rfl (by kernel_rfl) (fun w z=>by go_simp<;>rfl) (fun _ _ _ h=>h) ?_;refine anyE_u (i:=9) K8.out rfl (by kernel_rfl) (fun w z=>by go_simp<;>rfl) (fun _ _ _ h=>h) ?_;refine anyE_u (i:=10) K8.out rfl (by kernel_rfl) (fun w z=>by go_simp<;>rfl) (fun _ _ _ h=>h) ?_;refine anyE_u (i:=11) K8.out rfl (by kernel_rfl) (fun w z=>by go_simp<;>rfl) (fun _ _ _ h=>h) ?_;simp only[Act.put,sA,sB,sC];refine anyE_ready (rs:=[12]) (by kernel_rfl) (by simp) ?_;refine AllE.cons rfl (fun Kt hKt=>?_) ?_
 ·go_simp
  refine hKt.out _ _ (fun _=>K5.out) ?_;clear hKt Kt;try simp only[Act.put,sA,sB,sC]
  refine anyE_u (i:=13) K5.out rfl (by kernel_rfl) (fun w z=>by go_simp<;>rfl) (fun _ _ _ h=>h) ?_;simp only[Act.put,sA,sB,sC];refine anyE_ready (rs:=[14]) (by kernel_rfl) (by simp) ?_;refine AllE.cons rfl (fun Kt hKt=>?_) ?_
  ·go_simp
   refine hKt.out _ _ (fun h=>absurd rfl h) ?_;clear hKt Kt;try simp only[Act.put,sA,sB,sC]
   refine anyE_done (by kernel_rfl) ?_ _;go_upto_region 9 with fail
   refine anyE_start (S:=(fun v0=>v0.cell? ⟨B,2,none⟩=some (.map (some M))/\v0.cell? ⟨g,O,none⟩=some (.int .i64 P)/\(Instr.lookup 166 (.map (some M)) (.agg #[.int .i64 s,.int .i64 P]) false).run Tryz.prog v0=.ok (.int .i64 D) v0)) (L:=14) (by kernel_rfl) ?_;refine anyE_u (i:=0) K9.out rfl (by kernel_rfl) (fun w z=>by go_simp<;>rfl) (fun _ _ _ h=>h) ?_;refine anyE_u (i:=1) K9.out rfl (by kernel_rfl) (fun w z=>by go_simp<;>rfl) (fun _ _ _ h=>h) ?_;refine anyE_u (i:=2) K9.out rfl (by kernel_rfl) (fun w z=>by go_simp<;>rfl) (fun _ _ _ h=>h) ?_;refine anyE_u (i:=3) K9.out rfl (by kernel_rfl) (fun w z=>by go_simp<;>rfl) (fun _ _ _ h=>h) ?_;refine anyE_u (i:=4) K9.out rfl (by kernel_rfl) (fun w z=>by go_simp<;>rfl) (fun _ _ _ h=>h) ?_;refine anyE_u (i:=5) K9.out rfl (by kernel_rfl) (fun w z=>by go_simp<;>rfl) (fun _ _ _ h=>h) ?_;refine anyE_u (i:=6) K9.out rfl (by kernel_rfl) (fun w z=>by go_simp<;>rfl) (fun _ _ _ h=>h) ?_;refine anyE_u (i:=7) K9.out rfl (by kernel_rfl) (fun w z=>by go_simp<;>rfl) (fun _ _ _ h=>h) ?_;refine anyE_u (i:=8) K9.out rfl (by kernel_rfl) (fun w z=>by go_simp<;>rfl) (fun _ _ _ h=>h) ?_;refine anyE_u (i:=9) K9.out rfl (by kernel_rfl) (fun w z=>by go_simp<;>rfl) (fun _ _ _ h=>h) ?_;refine anyE_u (i:=10) K9.out rfl (by kernel_rfl) (fun w z=>by go_simp<;>rfl) (fun _ _ _ h=>h) ?_;refine anyE_u (i:=11) K9.out rfl (by kernel_rfl) (fun w z=>by go_simp<;>rfl) (fun _ _ _ h=>h) ?_;simp only[Act.put,sA,sB,sC];refine anyE_ready (rs:=[12]) (by kernel_rfl) (by simp) ?_;refine AllE.cons rfl (fun Kt hKt=>?_) ?_
   ·go_simp
    refine hKt.out _ _ (fun _=>K7.out) ?_;clear hKt Kt;try simp only[Act.put,sA,sB,sC]
    refine anyE_u (i:=13) K7.out rfl (by kernel_rfl) (fun w z=>by go_simp<;>rfl) (fun _ _ _ h=>h) ?_;simp only[Act.put,sA,sB,sC];refine anyE_ready (rs:=[14]) (by kernel_rfl) (by simp) ?_;refine AllE.cons rfl (fun Kt hKt=>?_) ?_
    ·go_simp
     refine hKt.out _ _ (fun h=>absurd rfl h) ?_;clear hKt Kt;try simp only[Act.put,sA,sB,sC]
     refine anyE_done (by kernel_rfl) ?_ _;obtain⟨k4,k5,k6,k7,k8⟩:=KK.out
     go_wp2_with fail
     refine Calls.mono HAG.out ?_;rintro e w9 ⟨rfl,b9⟩;have T9:Aside _:=T8A.out.below b9;have k7':w9.cell? ⟨g,O+7,none⟩=some (.int .u64 x.r):=(T9.out.tc HT.out.2.1 HT.out.2.2.1).k7;have k7'':w9.cell? ⟨g,O+4+3,none⟩=some (.int .u64 x.r):=k7';have fz7:w9.frozen? ⟨g,O+7,none⟩=false:=(T9.out.tc HT.out.2.1 HT.out.2.2.1).fz _;have fz7':w9.frozen? ⟨g,O+4+3,none⟩=false:=fz7;have F9:Aside _:=FA.out.tb b9;clear b9 k4 k5 k6 k7 k8;obtain⟨W,hW⟩:∃W,IntKind.u64.wrap (x.r+1)=W:=⟨_,rfl⟩;by_cases c4:s=4
     ·subst c4;have FIN:=T9.out.sameT (y:={x with s:=4}) HT.out.2.1 rfl;have hl:(T.set i {x with s:=4})[i]?=some {x with s:=4}:=by rw[List.getElem?_set_self (List.getElem?_eq_some_iff.1 HT.out.2.1).1]
      rw[show T.length=(T.set i {x with s:=4}).length by simp] at FIN;have FIN2:Aside _:=FIN.setC (y:=turnT x 4) hl (j:=7) (z:=.int .u64 W) (by simp[rT,turnT,hW]) (by omega) (O:=O+7) (by rw[HT.out.2.2.1]);clear FIN
      go_wp2_with fail
      go_ret;refine⟨rfl,⟨_,_,?_,II.out (turnT x 4) rfl rfl⟩,?_⟩
      ·have:=FIN2.out.1;rw[List.set_set] at this;simpa using this
      ·exact F9.out.trans (by simpa using FIN2.out.2) (fun j hj=>.inl hj)
     ·by_cases c5:s=5
      ·subst c5;have FIN:=T9.out.sameT (y:={x with s:=5}) HT.out.2.1 rfl;have hl:(T.set i {x with s:=5})[i]?=some {x with s:=5}:=by rw[List.getElem?_set_self (List.getElem?_eq_some_iff.1 HT.out.2.1).1]
       rw[show T.length=(T.set i {x with s:=5}).length by simp] at FIN;have FIN2:Aside _:=FIN.setC (y:=turnT x 5) hl (j:=7) (z:=.int .u64 W) (by simp[rT,turnT,hW]) (by omega) (O:=O+7) (by rw[HT.out.2.2.1]);clear FIN c4
       go_wp2_with fail
       go_ret;refine⟨rfl,⟨_,_,?_,II.out (turnT x 5) rfl rfl⟩,?_⟩
       ·have:=FIN2.out.1;rw[List.set_set] at this;simpa using this
       ·exact F9.out.trans (by simpa using FIN2.out.2) (fun j hj=>.inl hj)
      ·have e4:(s==4)=false:=by simpa using c4
       have e5:(s==5)=false:=by simpa using c5
       have HC:Aside (¬(s=4\/s=5)):=by show ¬(s=4\/s=5);omega
       clear c4 c5 k7' k7'' fz7 fz7'
       go_wp2_with fail
       go_ret;exact⟨rfl,⟨_,_,T9.out.sameT (y:=turnT x s) HT.out.2.1 (by simp[rT,turnT,HC.out]),II.out (turnT x s) rfl rfl⟩,F9.out⟩
    exact AllE.nil
   exact AllE.nil
  exact AllE.nil
 exact AllE.nil
end
section
variable {w w' u:World}{B a b r M n g cap i O:Nat}{v v':Value}{T T':List TR}{x y:TR}{ws ws':Nat->Int}{fc fc':Int×Int->Option Value}
theorem tturn_ag(h:Tab w B a b r M n (.slice (some ⟨g,0,none⟩) T.length cap) T ws fc)(I:TInv T ws fc n)(hn:n<=1000)(hi:T[i]?=some x)(s:Int)(hc:canB x.s s=true)(hp0:x.p>0) :
  Calls Tryz.prog 109 #[.pointer (some ⟨B,0,none⟩),.int .i64 ((i:Int)+1),.int .i64 s] w fun e w'=>e=.returned (.int .i64 0)/\(∃ws' fc',Tab w' B a b r M n (.slice (some ⟨g,0,none⟩) T.length cap) (T.set i ({x with s:=s})) ws' fc'/\TInv (T.set i ({x with s:=s})) ws' fc' n)/\Fr (tf B a b r M (.slice (some ⟨g,0,none⟩) T.length cap)) w w':=by
 have hsr:1<=s/\s<=6:=by obtain⟨q,rfl,q1,_,q2,_⟩:=can_range hc;omega
 have hne:Aside (x.s≠s):=by obtain⟨q,rfl,_,q3,_,_⟩:=can_range hc;exact q3
 have HS:Aside (canB x.s s=true/\x.p>0):=⟨hc,hp0⟩;clear hc hp0;have hlen:i<T.length:=(List.getElem?_eq_some_iff.1 hi).1;have hin:i<n:=by have:=I.le;omega
 have okx:=I.ok x (List.mem_of_getElem? hi);have hst:=I.st i x hi;obtain⟨O,hO⟩:∃O,i*9=O:=⟨_,rfl⟩;have hf:=find_in h hlen (by have:=I.le;omega);rw[hO] at hf;have c0:=h.c0;have hS:=state_in w a b r n ws h.arn i hin;rw[hst] at hS;have HI:Aside (TInv T ws fc n):=I;have HT:Aside (Tab w B a b r M n (.slice (some ⟨g,0,none⟩) T.length cap) T ws fc/\T[i]?=some x/\i*9=O/\ws i%8=x.s/\i<n):=⟨h,hi,hO,hst,hin⟩;obtain⟨X,hX⟩:∃X,x.s=X:=⟨_,rfl⟩;rw[hX] at hS;have HX:Aside (x.s=X):=hX;clear h I hi hO hst hlen hX;go_enter Tryz.func109,Tryz.ntmps109
 go_wp2_with fail
 refine hf.mono ?_;rintro e w1 ⟨rfl,rfl⟩;clear hf
 go_wp2_with fail
 refine hS.mono ?_;rintro e w2 ⟨rfl,a2,k2⟩;clear hS c0;have X2:Aside (Tab w2.drew B a b r M n (.slice (some ⟨g,0,none⟩) T.length cap) T ws fc/\Fr (tf B a b r M (.slice (some ⟨g,0,none⟩) T.length cap)) w1 w2.drew):=⟨(HT.out.1.setA k2 a2).drew,((Fr.refl _ w1).trans (Fr.kept k2) (fun j hj=>.inl (tf_abr hj))).drew⟩;have c0:w2.drew.cell? ⟨B,0,none⟩=some (.pointer (some ⟨a,0,none⟩)):=X2.out.1.c0;have HW:Aside _:=word_in w2.drew a b r n ws X2.out.1.arn i HT.out.2.2.2.2;clear a2 k2;go_upto_region 5 with fail
 go_region_held3 (fun w'=>w'.cell? ⟨B,0,none⟩=some (.pointer (some ⟨a,0,none⟩))) (go_keep) ((first|(go_at_call 154;refine Calls.mono (turn_ok v3 a b r n ws X3.out.arn i HT.out.2.2.2.2 (ws i) s (by rw[HT.out.2.2.2.1];exact HS.out.1) rfl) ?_;rintro e v4 ⟨rfl,a4,k4⟩;have X4:Aside (Tab v4 B a b r M n (.slice (some ⟨g,0,none⟩) T.length cap) T (putW ws i (packI s (ws i/8+1))) fc):=X3.out.setA k4 a4;have x0:v4.cell? ⟨B,0,none⟩=some (.pointer (some ⟨a,0,none⟩)):=by exact X4.out.c0)|(go_at_call 146;refine Calls.mono HW.out ?_;rintro e v3 ⟨rfl,a3,k3⟩;have X3:Aside (Tab v3 B a b r M n (.slice (some ⟨g,0,none⟩) T.length cap) T ws fc):=(X2.out.1.setA k3 a3);have x0:v3.cell? ⟨B,0,none⟩=some (.pointer (some ⟨a,0,none⟩)):=X3.out.c0)))
 have F4:Aside (Fr (tf B a b r M (.slice (some ⟨g,0,none⟩) T.length cap)) w1 v4):=(X2.out.2.trans (Fr.kept k3) (fun j hj=>.inl (tf_abr hj))).trans (Fr.kept k4) (fun j hj=>.inl (tf_abr hj));clear a3 k3 a4 k4 x0;obtain⟨P,hP⟩:∃P,x.prio=P:=⟨_,rfl⟩;have okp:0<=x.prio/\x.prio<=7:=okx.1;have oks:0<=x.s/\x.s<8:=by omega
 obtain⟨C,hC⟩:∃C:Nat,T.countP (hasK x.s x.prio)=C:=⟨_,rfl⟩;obtain⟨D,hD⟩:∃D:Nat,T.countP (hasK s x.prio)=D:=⟨_,rfl⟩;have hTl:T.length<=1000:=by have:=HI.out.le;omega
 have hC1:C<=1000:=by have:=cntP_le (hasK x.s x.prio) T;omega
 have hD1:D<=1000:=by have:=cntP_le (hasK s x.prio) T;omega
 obtain⟨s8,st,w5,w6,e5,s5,e6,T6,F6⟩:=bump_all X4.out HI.out.dom HT.out.2.1 HT.out.2.2.1 okp x.s oks (C:Int) ((C:Int)-1) (by rw[HI.out.cnt x.s x.prio,hC])
 obtain⟨s9,st2,w7,w8,e7,s7,e8,T8,F8⟩:=bump_all T6 (dom_put HI.out.dom oks (by omega) _) HT.out.2.1 HT.out.2.2.1 okp s (by omega) (D:Int) ((D:Int)+1) (by
  have:¬(s,x.prio)=(x.s,x.prio):=fun e=>hne.out (by simp only[Prod.mk.injEq] at e;exact e.1.symm);simp only[fput,this,if_false];rw[HI.out.cnt s x.prio,hD])
 have TT:=T8.tc HT.out.2.1 HT.out.2.2.1;have V8:packI s (ws i/8+1)%8=s:=by rw[packI_state];omega
 have II:Aside (∀y:TR,y.prio=x.prio->y.s=s->TInv (T.set i y) (putW ws i (packI s (ws i/8+1))) (fput (fput fc (x.s,x.prio) (.int .i64 ((C:Int)-1))) (s,x.prio) (.int .i64 ((D:Int)+1))) n):=fun y h1 h2=>by
  have:=HI.out.turn HT.out.2.1 h1 (by omega) (by rw[h2];exact hne.out) (packI s (ws i/8+1)) (by rw[V8,h2]);rw[h2,hC,hD] at this;exact this
 have T8A:Aside _:=T8;have FA:Aside (Fr (tf B a b r M (.slice (some ⟨g,0,none⟩) T.length cap)) w1 w8):=(F4.out.trans F6 (fun j hj=>.inl hj)).trans F8 (fun j hj=>.inl hj);rw[HX.out,hP] at e5;rw[HX.out] at s8 s5;rw[hP] at s8 s5 s9 s7 e7;have K8:Aside (S8 B M g O P X C v4.drew):=s8;have K5:Aside (S8 B M g O P X C w5):=s5;have K9:Aside (S8 B M g O P s D w6.drew):=s9;have K7:Aside (S8 B M g O P s D w7):=s7;have hwr1:IntKind.i64.wrap ((C:Int)-1)=(C:Int)-1:=by rw[IntKind.wrap_i64];omega
 have hwr2:IntKind.i64.wrap ((D:Int)+1)=(D:Int)+1:=by rw[IntKind.wrap_i64];omega
 obtain⟨k0,k1,k2,k4,k5,k6,k7,k8,fz⟩:=TT;have hag:=again_any x.f x.p x.d x.r x.m w8;rw[show decide (x.p>0)=true from decide_eq_true HS.out.2] at hag;have HAG:Aside _:=hag;have KK:Aside _:=And.intro k4 (And.intro k5 (And.intro k6 (And.intro k7 k8)));have FZ:Aside (w8.frozen? ⟨g,O+7,none⟩=false):=fz _;clear s8 s5 s9 s7 T6 T8 F6 F8 hC hD hP V8 k0 k1 k2 k4 k5 k6 k7 k8 fz hag okx oks okp hTl;unfold S8 at K8 K5 K9 K7;go_upto_region 8 with fail
 refine anyE_start (S:=(fun v0=>v0.cell? ⟨B,2,none⟩=some (.map (some M))/\v0.cell? ⟨g,O,none⟩=some (.int .i64 P)/\(Instr.lookup 166 (.map (some M)) (.agg #[.int .i64 X,.int .i64 P]) false).run Tryz.prog v0=.ok (.int .i64 C) v0)) (L:=14) (by kernel_rfl) ?_;refine anyE_u (i:=0) K8.out rfl (by kernel_rfl) (fun w z=>by go_simp<;>rfl) (fun _ _ _ h=>h) ?_;refine anyE_u (i:=1) K8.out rfl (by kernel_rfl) (fun w z=>by go_simp<;>rfl) (fun _ _ _ h=>h) ?_;refine anyE_u (i:=2) K8.out rfl (by kernel_rfl) (fun w z=>by go_simp<;>rfl) (fun _ _ _ h=>h) ?_;refine anyE_u (i:=3) K8.out rfl (by kernel_rfl) (fun w z=>by go_simp<;>rfl) (fun _ _ _ h=>h) ?_;refine anyE_u (i:=4) K8.out rfl (by kernel_rfl) (fun w z=>by go_simp<;>rfl) (fun _ _ _ h=>h) ?_;refine anyE_u (i:=5) K8.out rfl (by kernel_rfl) (fun w z=>by go_simp<;>rfl) (fun _ _ _ h=>h) ?_;refine anyE_u (i:=6) K8.out rfl (by kernel_rfl) (fun w z=>by go_simp<;>rfl) (fun _ _ _ h=>h) ?_;refine anyE_u (i:=7) K8.out rfl (by kernel_rfl) (fun w z=>by go_simp<;>rfl) (fun _ _ _ h=>h) ?_;refine anyE_u (i:=8) K8.out rfl (by kernel_rfl) (fun w z=>by go_simp<;>rfl) (fun _ _ _ h=>h) ?_;refine anyE_u (i:=9) K8.out rfl (by kernel_rfl) (fun w z=>by go_simp<;>rfl) (fun _ _ _ h=>h) ?_;refine anyE_u (i:=10) K8.out rfl (by kernel_rfl) (fun w z=>by go_simp<;>rfl) (fun _ _ _ h=>h) ?_;refine anyE_u (i:=11) K8.out rfl (by kernel_rfl) (fun w z=>by go_simp<;>rfl) (fun _ _ _ h=>h) ?_;simp only[Act.put,sA,sB,sC];refine anyE_ready (rs:=[12]) (by kernel_rfl) (by simp) ?_;refine AllE.cons rfl (fun Kt hKt=>?_) ?_
 ·go_simp
  refine hKt.out _ _ (fun _=>K5.out) ?_;clear hKt Kt;try simp only[Act.put,sA,sB,sC]
  refine anyE_u (i:=13) K5.out rfl (by kernel_rfl) (fun w z=>by go_simp<;>rfl) (fun _ _ _ h=>h) ?_;simp only[Act.put,sA,sB,sC];refine anyE_ready (rs:=[14]) (by kernel_rfl) (by simp) ?_;refine AllE.cons rfl (fun Kt hKt=>?_) ?_
  ·go_simp
   refine hKt.out _ _ (fun h=>absurd rfl h) ?_;clear hKt Kt;try simp only[Act.put,sA,sB,sC]
   refine anyE_done (by kernel_rfl) ?_ _;go_upto_region 9 with fail
   refine anyE_start (S:=(fun v0=>v0.cell? ⟨B,2,none⟩=some (.map (some M))/\v0.cell? ⟨g,O,none⟩=some (.int .i64 P)/\(Instr.lookup 166 (.map (some M)) (.agg #[.int .i64 s,.int .i64 P]) false).run Tryz.prog v0=.ok (.int .i64 D) v0)) (L:=14) (by kernel_rfl) ?_;refine anyE_u (i:=0) K9.out rfl (by kernel_rfl) (fun w z=>by go_simp<;>rfl) (fun _ _ _ h=>h) ?_;refine anyE_u (i:=1) K9.out rfl (by kernel_rfl) (fun w z=>by go_simp<;>rfl) (fun _ _ _ h=>h) ?_;refine anyE_u (i:=2) K9.out rfl (by kernel_rfl) (fun w z=>by go_simp<;>rfl) (fun _ _ _ h=>h) ?_;refine anyE_u (i:=3) K9.out rfl (by kernel_rfl) (fun w z=>by go_simp<;>rfl) (fun _ _ _ h=>h) ?_;refine anyE_u (i:=4) K9.out rfl (by kernel_rfl) (fun w z=>by go_simp<;>rfl) (fun _ _ _ h=>h) ?_;refine anyE_u (i:=5) K9.out rfl (by kernel_rfl) (fun w z=>by go_simp<;>rfl) (fun _ _ _ h=>h) ?_;refine anyE_u (i:=6) K9.out rfl (by kernel_rfl) (fun w z=>by go_simp<;>rfl) (fun _ _ _ h=>h) ?_;refine anyE_u (i:=7) K9.out rfl (by kernel_rfl) (fun w z=>by go_simp<;>rfl) (fun _ _ _ h=>h) ?_;refine anyE_u (i:=8) K9.out rfl (by kernel_rfl) (fun w z=>by go_simp<;>rfl) (fun _ _ _ h=>h) ?_;refine anyE_u (i:=9) K9.out rfl (by kernel_rfl) (fun w z=>by go_simp<;>rfl) (fun _ _ _ h=>h) ?_;refine anyE_u (i:=10) K9.out rfl (by kernel_rfl) (fun w z=>by go_simp<;>rfl) (fun _ _ _ h=>h) ?_;refine anyE_u (i:=11) K9.out rfl (by kernel_rfl) (fun w z=>by go_simp<;>rfl) (fun _ _ _ h=>h) ?_;simp only[Act.put,sA,sB,sC];refine anyE_ready (rs:=[12]) (by kernel_rfl) (by simp) ?_;refine AllE.cons rfl (fun Kt hKt=>?_) ?_
   ·go_simp
    refine hKt.out _ _ (fun _=>K7.out) ?_;clear hKt Kt;try simp only[Act.put,sA,sB,sC]
    refine anyE_u (i:=13) K7.out rfl (by kernel_rfl) (fun w z=>by go_simp<;>rfl) (fun _ _ _ h=>h) ?_;simp only[Act.put,sA,sB,sC];refine anyE_ready (rs:=[14]) (by kernel_rfl) (by simp) ?_;refine AllE.cons rfl (fun Kt hKt=>?_) ?_
    ·go_simp
     refine hKt.out _ _ (fun h=>absurd rfl h) ?_;clear hKt Kt;try simp only[Act.put,sA,sB,sC]
     refine anyE_done (by kernel_rfl) ?_ _;obtain⟨k4,k5,k6,k7,k8⟩:=KK.out
     go_wp2_with fail
     refine Calls.mono HAG.out ?_;rintro e w9 ⟨rfl,b9⟩;have T9:Aside _:=T8A.out.below b9;have k7':w9.cell? ⟨g,O+7,none⟩=some (.int .u64 x.r):=(T9.out.tc HT.out.2.1 HT.out.2.2.1).k7;have k7'':w9.cell? ⟨g,O+4+3,none⟩=some (.int .u64 x.r):=k7';have fz7:w9.frozen? ⟨g,O+7,none⟩=false:=(T9.out.tc HT.out.2.1 HT.out.2.2.1).fz _;have fz7':w9.frozen? ⟨g,O+4+3,none⟩=false:=fz7;have F9:Aside _:=FA.out.tb b9;clear b9 k4 k5 k6 k7 k8;clear k7' k7'' fz7 fz7'
     go_wp2_with fail
     go_ret;exact⟨rfl,⟨_,_,T9.out.sameT (y:={x with s:=s}) HT.out.2.1 rfl,II.out {x with s:=s} rfl rfl⟩,F9.out⟩
    exact AllE.nil
   exact AllE.nil
  exact AllE.nil
 exact AllE.nil
end
end Go.Proofs.YthpgfmmpjoodkaaGreatDoor.Ta
