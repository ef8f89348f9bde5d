import Derived.Test.YtjpbngiddjkjiaaGreatDoorA0
import Derived.Test.YtjpbngiddjkjiaaGreatDoorBTbA
import Derived.Test.YtjpbngiddjkjiaaGreatDoorLitV
import Derived.OpenShut
open Go.Proofs.Tryz
namespace Go.Proofs.YtjpbngiddjkjiaaGreatDoor.Ta
set_option linter.unusedSimpArgs false
set_option maxHeartbeats 8000000
set_option maxRecDepth 100000
set_option linter.unusedVariables false
section
open Go.RowKit Go.Lib Go.WideMaps Go.Maps
variable {w w' u:World}{B a b r M n g cap i O:Nat}{v v':Value}{T T':List TR}{x y:TR}{ws ws':Nat->Int}{fc fc':Int×Int->Option Value}
def turnT(x:TR)(s:Int):TR:={x with s:=s,r:=if s=4\/s=5 then IntKind.u64.wrap (x.r+1) else x.r}
theorem tturn_ok(h:Tab w B a b r M n (.slice (some ⟨g,0,none⟩) T.length cap) T ws fc)(I:TInv T ws fc n)(hn:n<=1000)(hi:T[i]?=some x)(s:Int)(hc:canB x.s s=true)(hp0:x.p=0) :
  Calls prog 176 #[.pointer (some ⟨B,0,none⟩),.int .i64 ((i:Int)+1),.int .i64 s] w fun e w'=>e=.returned (.int .i64 0)/\(∃ws' fc',Tab w' B a b r M n (.slice (some ⟨g,0,none⟩) T.length cap) (T.set i (turnT x s)) ws' fc'/\TInv (T.set i (turnT x s)) ws' fc' n)/\Fr (tf B a b r M (.slice (some ⟨g,0,none⟩) T.length cap)) w w':=by
 have hsr:1<=s/\s<=6:=by obtain⟨q,rfl,q1,_,q2,_⟩:=can_range hc;omega
 have hne:Aside (x.s≠s):=by obtain⟨q,rfl,_,q3,_,_⟩:=can_range hc;exact q3
 have HS:Aside (canB x.s s=true/\x.p=0):=⟨hc,hp0⟩;clear hc hp0;have hlen:i<T.length:=(List.getElem?_eq_some_iff.1 hi).1;have hin:i<n:=by have:=I.le;omega
 have okx:=I.ok x (List.mem_of_getElem? hi);have hst:=I.st i x hi;obtain⟨O,hO⟩:∃O,i*9=O:=⟨_,rfl⟩;have hf:=find_in h hlen (by have:=I.le;omega);rw[hO] at hf;have c0:=h.c0;have hS:=state_in w a b r n ws h.arn i hin;rw[hst] at hS;have HI:Aside (TInv T ws fc n):=I;have HT:Aside (Tab w B a b r M n (.slice (some ⟨g,0,none⟩) T.length cap) T ws fc/\T[i]?=some x/\i*9=O/\ws i%8=x.s/\i<n):=⟨h,hi,hO,hst,hin⟩;obtain⟨X,hX⟩:∃X,x.s=X:=⟨_,rfl⟩;rw[hX] at hS;have HX:Aside (x.s=X):=hX;clear h I hi hO hst hlen hX;go_enter func176,ntmps176
 go_wp2_with fail
 refine hf.mono ?_;rintro e w1 ⟨rfl,rfl⟩;clear hf
 go_wp2_with fail
 refine hS.mono ?_;rintro e w2 ⟨rfl,a2,k2⟩;clear hS c0;have X2:Aside (Tab w2.drew B a b r M n (.slice (some ⟨g,0,none⟩) T.length cap) T ws fc/\Fr (tf B a b r M (.slice (some ⟨g,0,none⟩) T.length cap)) w1 w2.drew):=⟨(HT.out.1.setA k2 a2).drew,((Fr.refl _ w1).trans (Fr.kept k2) (fun j hj=>.inl (tf_abr hj))).drew⟩;have c0:w2.drew.cell? ⟨B,0,none⟩=some (.pointer (some ⟨a,0,none⟩)):=X2.out.1.c0;have HW:Aside _:=word_in w2.drew a b r n ws X2.out.1.arn i HT.out.2.2.2.2;clear a2 k2;go_upto_region 5 with fail
 go_region_held3 (fun w'=>w'.cell? ⟨B,0,none⟩=some (.pointer (some ⟨a,0,none⟩))) (go_keep) ((first|(go_at_call 213;refine Calls.mono (turn_ok v3 a b r n ws X3.out.arn i HT.out.2.2.2.2 (ws i) s (by rw[HT.out.2.2.2.1];exact HS.out.1) rfl) ?_;rintro e v4 ⟨rfl,a4,k4⟩;have X4:Aside (Tab v4 B a b r M n (.slice (some ⟨g,0,none⟩) T.length cap) T (putW ws i (packI s (ws i/8+1))) fc):=X3.out.setA k4 a4;have x0:v4.cell? ⟨B,0,none⟩=some (.pointer (some ⟨a,0,none⟩)):=by exact X4.out.c0)|(go_at_call 86;refine Calls.mono HW.out ?_;rintro e v3 ⟨rfl,a3,k3⟩;have X3:Aside (Tab v3 B a b r M n (.slice (some ⟨g,0,none⟩) T.length cap) T ws fc):=(X2.out.1.setA k3 a3);have x0:v3.cell? ⟨B,0,none⟩=some (.pointer (some ⟨a,0,none⟩)):=X3.out.c0)))
 have F4:Aside (Fr (tf B a b r M (.slice (some ⟨g,0,none⟩) T.length cap)) w1 v4):=(X2.out.2.trans (Fr.kept k3) (fun j hj=>.inl (tf_abr hj))).trans (Fr.kept k4) (fun j hj=>.inl (tf_abr hj));clear a3 k3 a4 k4 x0;obtain⟨P,hP⟩:∃P,x.prio=P:=⟨_,rfl⟩;have okp:0<=x.prio/\x.prio<=7:=okx.1;have oks:0<=x.s/\x.s<8:=by omega
 obtain⟨C,hC⟩:∃C:Nat,T.countP (hasK x.s x.prio)=C:=⟨_,rfl⟩;obtain⟨D,hD⟩:∃D:Nat,T.countP (hasK s x.prio)=D:=⟨_,rfl⟩;have hTl:T.length<=1000:=by have:=HI.out.le;omega
 have hC1:C<=1000:=by have:=cntP_le (hasK x.s x.prio) T;omega
 have hD1:D<=1000:=by have:=cntP_le (hasK s x.prio) T;omega
 obtain⟨s8,st,w5,w6,e5,s5,e6,T6,F6⟩:=bump_all X4.out HI.out.dom HT.out.2.1 HT.out.2.2.1 okp x.s oks (C:Int) ((C:Int)-1) (by rw[HI.out.cnt x.s x.prio,hC])
 obtain⟨s9,st2,w7,w8,e7,s7,e8,T8,F8⟩:=bump_all T6 (dom_put HI.out.dom oks (by omega) _) HT.out.2.1 HT.out.2.2.1 okp s (by omega) (D:Int) ((D:Int)+1) (by
  have:¬(s,x.prio)=(x.s,x.prio):=fun e=>hne.out (by simp only[Prod.mk.injEq] at e;exact e.1.symm);simp only[fput,this,if_false];rw[HI.out.cnt s x.prio,hD])
 have TT:=T8.tc HT.out.2.1 HT.out.2.2.1;have V8:packI s (ws i/8+1)%8=s:=by rw[packI_state];omega
 have II:Aside (∀y:TR,y.prio=x.prio->y.s=s->TInv (T.set i y) (putW ws i (packI s (ws i/8+1))) (fput (fput fc (x.s,x.prio) (.int .i64 ((C:Int)-1))) (s,x.prio) (.int .i64 ((D:Int)+1))) n):=fun y h1 h2=>by
  have:=HI.out.turn HT.out.2.1 h1 (by omega) (by rw[h2];exact hne.out) (packI s (ws i/8+1)) (by rw[V8,h2]);rw[h2,hC,hD] at this;exact this
 have T8A:Aside _:=T8;have FA:Aside (Fr (tf B a b r M (.slice (some ⟨g,0,none⟩) T.length cap)) w1 w8):=(F4.out.trans F6 (fun j hj=>.inl hj)).trans F8 (fun j hj=>.inl hj);rw[HX.out,hP] at e5;rw[HX.out] at s8 s5;rw[hP] at s8 s5 s9 s7 e7;have K8:Aside (S8 B M g O P X C v4.drew):=s8;have K5:Aside (S8 B M g O P X C w5):=s5;have K9:Aside (S8 B M g O P s D w6.drew):=s9;have K7:Aside (S8 B M g O P s D w7):=s7;have hwr1:IntKind.i64.wrap ((C:Int)-1)=(C:Int)-1:=by rw[IntKind.wrap_i64];omega
 have hwr2:IntKind.i64.wrap ((D:Int)+1)=(D:Int)+1:=by rw[IntKind.wrap_i64];omega
 obtain⟨k0,k1,k2,k4,k5,k6,k7,k8,fz⟩:=TT;have hag:=again_any x.f x.p x.d x.r x.m w8;rw[show decide (x.p>0)=false by simp[HS.out.2]] at hag;have HAG:Aside _:=hag;have KK:Aside _:=And.intro k4 (And.intro k5 (And.intro k6 (And.intro k7 k8)));have FZ:Aside (w8.frozen? ⟨g,O+7,none⟩=false):=fz _;clear s8 s5 s9 s7 T6 T8 F6 F8 hC hD hP V8 k0 k1 k2 k4 k5 k6 k7 k8 fz hag okx oks okp hTl;unfold S8 at K8 K5 K9 K7;go_upto_region 8 with fail
 refine anyE_start (S:=(fun v0=>v0.cell? ⟨B,2,none⟩=some (.map (some M))/\v0.cell? ⟨g,O,none⟩=some (.int .i64 P)/\(Instr.lookup 129 (.map (some M)) (.agg #[.int .i64 X,.int .i64 P]) false).run prog v0=.ok (.int .i64 C) v0)) (L:=14) (by kernel_rfl) ?_;refine anyE_u (i:=0) K8.out rfl (by kernel_rfl) (fun w z=>by go_simp<;>rfl) (fun _ _ _ h=>h) ?_;refine anyE_u (i:=1) K8.out rfl (by kernel_rfl) (fun w z=>by go_simp<;>rfl) (fun _ _ _ h=>h) ?_;refine anyE_u (i:=2) K8.out rfl (by kernel_rfl) (fun w z=>by go_simp<;>rfl) (fun _ _ _ h=>h) ?_;refine anyE_u (i:=3) K8.out rfl (by kernel_rfl) (fun w z=>by go_simp<;>rfl) (fun _ _ _ h=>h) ?_;refine anyE_u (i:=4) K8.out rfl (by kernel_rfl) (fun w z=>by go_simp<;>rfl) (fun _ _ _ h=>h) ?_;refine anyE_u (i:=5) K8.out rfl (by kernel_rfl) (fun w z=>by go_simp<;>rfl) (fun _ _ _ h=>h) ?_;refine anyE_u (i:=6) K8.out rfl (by kernel_rfl) (fun w z=>by go_simp<;>rfl) (fun _ _ _ h=>h) ?_;refine anyE_u (i:=7) K8.out rfl (by kernel_rfl) (fun w z=>by go_simp<;>rfl) (fun _ _ _ h=>h) ?_;refine anyE_u (i:=8) K8.out rfl (by kernel_rfl) (fun w z=>by go_simp<;>rfl) (fun _ _ _ h=>h) ?_;refine anyE_u (i:=9) K8.out rfl (by kernel_rfl) (fun w z=>by go_simp<;>rfl) (fun _ _ _ h=>h) ?_;refine anyE_u (i:=10) K8.out rfl (by kernel_rfl) (fun w z=>by go_simp<;>rfl) (fun _ _ _ h=>h) ?_;refine anyE_u (i:=11) K8.out rfl (by kernel_rfl) (fun w z=>by go_simp<;>rfl) (fun _ _ _ h=>h) ?_;simp only[Act.put,sA,sB,sC];refine anyE_ready (rs:=[12]) (by kernel_rfl) (by simp) ?_;refine AllE.cons rfl (fun Kt hKt=>?_) ?_
 ·go_simp
  refine hKt.out _ _ (fun _=>K5.out) ?_;clear hKt Kt;try simp only[Act.put,sA,sB,sC]
  refine anyE_u (i:=13) K5.out rfl (by kernel_rfl) (fun w z=>by go_simp<;>rfl) (fun _ _ _ h=>h) ?_;simp only[Act.put,sA,sB,sC];refine anyE_ready (rs:=[14]) (by kernel_rfl) (by simp) ?_;refine AllE.cons rfl (fun Kt hKt=>?_) ?_
  ·go_simp
   refine hKt.out _ _ (fun h=>absurd rfl h) ?_;clear hKt Kt;try simp only[Act.put,sA,sB,sC]
   refine anyE_done (by kernel_rfl) ?_ _;go_upto_region 9 with fail
   refine anyE_start (S:=(fun v0=>v0.cell? ⟨B,2,none⟩=some (.map (some M))/\v0.cell? ⟨g,O,none⟩=some (.int .i64 P)/\(Instr.lookup 129 (.map (some M)) (.agg #[.int .i64 s,.int .i64 P]) false).run prog v0=.ok (.int .i64 D) v0)) (L:=14) (by kernel_rfl) ?_;refine anyE_u (i:=0) K9.out rfl (by kernel_rfl) (fun w z=>by go_simp<;>rfl) (fun _ _ _ h=>h) ?_;refine anyE_u (i:=1) K9.out rfl (by kernel_rfl) (fun w z=>by go_simp<;>rfl) (fun _ _ _ h=>h) ?_;refine anyE_u (i:=2) K9.out rfl (by kernel_rfl) (fun w z=>by go_simp<;>rfl) (fun _ _ _ h=>h) ?_;refine anyE_u (i:=3) K9.out rfl (by kernel_rfl) (fun w z=>by go_simp<;>rfl) (fun _ _ _ h=>h) ?_;refine anyE_u (i:=4) K9.out rfl (by kernel_rfl) (fun w z=>by go_simp<;>rfl) (fun _ _ _ h=>h) ?_;refine anyE_u (i:=5) K9.out rfl (by kernel_rfl) (fun w z=>by go_simp<;>rfl) (fun _ _ _ h=>h) ?_;refine anyE_u (i:=6) K9.out rfl (by kernel_rfl) (fun w z=>by go_simp<;>rfl) (fun _ _ _ h=>h) ?_;refine anyE_u (i:=7) K9.out rfl (by kernel_rfl) (fun w z=>by go_simp<;>rfl) (fun _ _ _ h=>h) ?_;refine anyE_u (i:=8) K9.out rfl (by kernel_rfl) (fun w z=>by go_simp<;>rfl) (fun _ _ _ h=>h) ?_;refine anyE_u (i:=9) K9.out rfl (by kernel_rfl) (fun w z=>by go_simp<;>rfl) (fun _ _ _ h=>h) ?_;refine anyE_u (i:=10) K9.out rfl (by kernel_rfl) (fun w z=>by go_simp<;>rfl) (fun _ _ _ h=>h) ?_;refine anyE_u (i:=11) K9.out rfl (by kernel_rfl) (fun w z=>by go_simp<;>rfl) (fun _ _ _ h=>h) ?_;simp only[Act.put,sA,sB,sC];refine anyE_ready (rs:=[12]) (by kernel_rfl) (by simp) ?_;refine AllE.cons rfl (fun Kt hKt=>?_) ?_
   ·go_simp
    refine hKt.out _ _ (fun _=>K7.out) ?_;clear hKt Kt;try simp only[Act.put,sA,sB,sC]
    refine anyE_u (i:=13) K7.out rfl (by kernel_rfl) (fun w z=>by go_simp<;>rfl) (fun _ _ _ h=>h) ?_;simp only[Act.put,sA,sB,sC];refine anyE_ready (rs:=[14]) (by kernel_rfl) (by simp) ?_;refine AllE.cons rfl (fun Kt hKt=>?_) ?_
    ·go_simp
     refine hKt.out _ _ (fun h=>absurd rfl h) ?_;clear hKt Kt;try simp only[Act.put,sA,sB,sC]
     refine anyE_done (by kernel_rfl) ?_ _;obtain⟨k4,k5,k6,k7,k8⟩:=KK.out
     go_wp2_with fail
     refine Calls.mono HAG.out ?_;rintro e w9 ⟨rfl,b9⟩;have T9:Aside _:=T8A.out.below b9;have k7':w9.cell? ⟨g,O+7,none⟩=some (.int .u64 x.r):=(T9.out.tc HT.out.2.1 HT.out.2.2.1).k7;have k7'':w9.cell? ⟨g,O+4+3,none⟩=some (.int .u64 x.r):=k7';have fz7:w9.frozen? ⟨g,O+7,none⟩=false:=(T9.out.tc HT.out.2.1 HT.out.2.2.1).fz _;have fz7':w9.frozen? ⟨g,O+4+3,none⟩=false:=fz7;have F9:Aside _:=FA.out.tb b9;clear b9 k4 k5 k6 k7 k8;obtain⟨W,hW⟩:∃W,IntKind.u64.wrap (x.r+1)=W:=⟨_,rfl⟩;by_cases c4:s=4
     ·subst c4;have FIN:=T9.out.sameT (y:={x with s:=4}) HT.out.2.1 rfl;have hl:(T.set i {x with s:=4})[i]?=some {x with s:=4}:=by rw[List.getElem?_set_self (List.getElem?_eq_some_iff.1 HT.out.2.1).1]
      rw[show T.length=(T.set i {x with s:=4}).length by simp] at FIN;have FIN2:Aside _:=FIN.setC (y:=turnT x 4) hl (j:=7) (z:=.int .u64 W) (by simp[rT,turnT,hW]) (by omega) (O:=O+7) (by rw[HT.out.2.2.1]);clear FIN
      go_wp2_with fail
      go_ret;refine⟨rfl,⟨_,_,?_,II.out (turnT x 4) rfl rfl⟩,?_⟩
      ·have:=FIN2.out.1;rw[List.set_set] at this;simpa using this
      ·exact F9.out.trans (by simpa using FIN2.out.2) (fun j hj=>.inl hj)
     ·by_cases c5:s=5
      ·subst c5;have FIN:=T9.out.sameT (y:={x with s:=5}) HT.out.2.1 rfl;have hl:(T.set i {x with s:=5})[i]?=some {x with s:=5}:=by rw[List.getElem?_set_self (List.getElem?_eq_some_iff.1 HT.out.2.1).1]
       rw[show T.length=(T.set i {x with s:=5}).length by simp] at FIN;have FIN2:Aside _:=FIN.setC (y:=turnT x 5) hl (j:=7) (z:=.int .u64 W) (by simp[rT,turnT,hW]) (by omega) (O:=O+7) (by rw[HT.out.2.2.1]);clear FIN c4
       go_wp2_with fail
       go_ret;refine⟨rfl,⟨_,_,?_,II.out (turnT x 5) rfl rfl⟩,?_⟩
       ·have:=FIN2.out.1;rw[List.set_set] at this;simpa using this
       ·exact F9.out.trans (by simpa using FIN2.out.2) (fun j hj=>.inl hj)
      ·have e4:(s==4)=false:=by simpa using c4
       have e5:(s==5)=false:=by simpa using c5
       have HC:Aside (¬(s=4\/s=5)):=by show ¬(s=4\/s=5);omega
       clear c4 c5 k7' k7'' fz7 fz7'
       go_wp2_with fail
       go_ret;exact⟨rfl,⟨_,_,T9.out.sameT (y:=turnT x s) HT.out.2.1 (by simp[rT,turnT,HC.out]),II.out (turnT x s) rfl rfl⟩,F9.out⟩
    exact AllE.nil
   exact AllE.nil
  exact AllE.nil
 exact AllE.nil
end
section
open Go.RowKit Go.Lib Go.WideMaps Go.Maps
variable {w w' u:World}{B a b r M n g cap i O:Nat}{v v':Value}{T T':List TR}{x y:TR}{ws ws':Nat->Int}{fc fc':Int×Int->Option Value}
theorem tturn_ag(h:Tab w B a b r M n (.slice (some ⟨g,0,none⟩) T.length cap) T ws fc)(I:TInv T ws fc n)(hn:n<=1000)(hi:T[i]?=some x)(s:Int)(hc:canB x.s s=true)(hp0:x.p>0) :
  Calls prog 176 #[.pointer (some ⟨B,0,none⟩),.int .i64 ((i:Int)+1),.int .i64 s] w fun e w'=>e=.returned (.int .i64 0)/\(∃ws' fc',Tab w' B a b r M n (.slice (some ⟨g,0,none⟩) T.length cap) (T.set i ({x with s:=s})) ws' fc'/\TInv (T.set i ({x with s:=s})) ws' fc' n)/\Fr (tf B a b r M (.slice (some ⟨g,0,none⟩) T.length cap)) w w':=by
 have hsr:1<=s/\s<=6:=by obtain⟨q,rfl,q1,_,q2,_⟩:=can_range hc;omega
 have hne:Aside (x.s≠s):=by obtain⟨q,rfl,_,q3,_,_⟩:=can_range hc;exact q3
 have HS:Aside (canB x.s s=true/\x.p>0):=⟨hc,hp0⟩;clear hc hp0;have hlen:i<T.length:=(List.getElem?_eq_some_iff.1 hi).1;have hin:i<n:=by have:=I.le;omega
 have okx:=I.ok x (List.mem_of_getElem? hi);have hst:=I.st i x hi;obtain⟨O,hO⟩:∃O,i*9=O:=⟨_,rfl⟩;have hf:=find_in h hlen (by have:=I.le;omega);rw[hO] at hf;have c0:=h.c0;have hS:=state_in w a b r n ws h.arn i hin;rw[hst] at hS;have HI:Aside (TInv T ws fc n):=I;have HT:Aside (Tab w B a b r M n (.slice (some ⟨g,0,none⟩) T.length cap) T ws fc/\T[i]?=some x/\i*9=O/\ws i%8=x.s/\i<n):=⟨h,hi,hO,hst,hin⟩;obtain⟨X,hX⟩:∃X,x.s=X:=⟨_,rfl⟩;rw[hX] at hS;have HX:Aside (x.s=X):=hX;clear h I hi hO hst hlen hX;go_enter func176,ntmps176
 go_wp2_with fail
 refine hf.mono ?_;rintro e w1 ⟨rfl,rfl⟩;clear hf
 go_wp2_with fail
 refine hS.mono ?_;rintro e w2 ⟨rfl,a2,k2⟩;clear hS c0;have X2:Aside (Tab w2.drew B a b r M n (.slice (some ⟨g,0,none⟩) T.length cap) T ws fc/\Fr (tf B a b r M (.slice (some ⟨g,0,none⟩) T.length cap)) w1 w2.drew):=⟨(HT.out.1.setA k2 a2).drew,((Fr.refl _ w1).trans (Fr.kept k2) (fun j hj=>.inl (tf_abr hj))).drew⟩;have c0:w2.drew.cell? ⟨B,0,none⟩=some (.pointer (some ⟨a,0,none⟩)):=X2.out.1.c0;have HW:Aside _:=word_in w2.drew a b r n ws X2.out.1.arn i HT.out.2.2.2.2;clear a2 k2;go_upto_region 5 with fail
 go_region_held3 (fun w'=>w'.cell? ⟨B,0,none⟩=some (.pointer (some ⟨a,0,none⟩))) (go_keep) ((first|(go_at_call 213;refine Calls.mono (turn_ok v3 a b r n ws X3.out.arn i HT.out.2.2.2.2 (ws i) s (by rw[HT.out.2.2.2.1];exact HS.out.1) rfl) ?_;rintro e v4 ⟨rfl,a4,k4⟩;have X4:Aside (Tab v4 B a b r M n (.slice (some ⟨g,0,none⟩) T.length cap) T (putW ws i (packI s (ws i/8+1))) fc):=X3.out.setA k4 a4;have x0:v4.cell? ⟨B,0,none⟩=some (.pointer (some ⟨a,0,none⟩)):=by exact X4.out.c0)|(go_at_call 86;refine Calls.mono HW.out ?_;rintro e v3 ⟨rfl,a3,k3⟩;have X3:Aside (Tab v3 B a b r M n (.slice (some ⟨g,0,none⟩) T.length cap) T ws fc):=(X2.out.1.setA k3 a3);have x0:v3.cell? ⟨B,0,none⟩=some (.pointer (some ⟨a,0,none⟩)):=X3.out.c0)))
 have F4:Aside (Fr (tf B a b r M (.slice (some ⟨g,0,none⟩) T.length cap)) w1 v4):=(X2.out.2.trans (Fr.kept k3) (fun j hj=>.inl (tf_abr hj))).trans (Fr.kept k4) (fun j hj=>.inl (tf_abr hj));clear a3 k3 a4 k4 x0;obtain⟨P,hP⟩:∃P,x.prio=P:=⟨_,rfl⟩;have okp:0<=x.prio/\x.prio<=7:=okx.1;have oks:0<=x.s/\x.s<8:=by omega
 obtain⟨C,hC⟩:∃C:Nat,T.countP (hasK x.s x.prio)=C:=⟨_,rfl⟩;obtain⟨D,hD⟩:∃D:Nat,T.countP (hasK s x.prio)=D:=⟨_,rfl⟩;have hTl:T.length<=1000:=by have:=HI.out.le;omega
 have hC1:C<=1000:=by have:=cntP_le (hasK x.s x.prio) T;omega
 have hD1:D<=1000:=by have:=cntP_le (hasK s x.prio) T;omega
 obtain⟨s8,st,w5,w6,e5,s5,e6,T6,F6⟩:=bump_all X4.out HI.out.dom HT.out.2.1 HT.out.2.2.1 okp x.s oks (C:Int) ((C:Int)-1) (by rw[HI.out.cnt x.s x.prio,hC])
 obtain⟨s9,st2,w7,w8,e7,s7,e8,T8,F8⟩:=bump_all T6 (dom_put HI.out.dom oks (by omega) _) HT.out.2.1 HT.out.2.2.1 okp s (by omega) (D:Int) ((D:Int)+1) (by
  have:¬(s,x.prio)=(x.s,x.prio):=fun e=>hne.out (by simp only[Prod.mk.injEq] at e;exact e.1.symm);simp only[fput,this,if_false];rw[HI.out.cnt s x.prio,hD])
 have TT:=T8.tc HT.out.2.1 HT.out.2.2.1;have V8:packI s (ws i/8+1)%8=s:=by rw[packI_state];omega
 have II:Aside (∀y:TR,y.prio=x.prio->y.s=s->TInv (T.set i y) (putW ws i (packI s (ws i/8+1))) (fput (fput fc (x.s,x.prio) (.int .i64 ((C:Int)-1))) (s,x.prio) (.int .i64 ((D:Int)+1))) n):=fun y h1 h2=>by
  have:=HI.out.turn HT.out.2.1 h1 (by omega) (by rw[h2];exact hne.out) (packI s (ws i/8+1)) (by rw[V8,h2]);rw[h2,hC,hD] at this;exact this
 have T8A:Aside _:=T8;have FA:Aside (Fr (tf B a b r M (.slice (some ⟨g,0,none⟩) T.length cap)) w1 w8):=(F4.out.trans F6 (fun j hj=>.inl hj)).trans F8 (fun j hj=>.inl hj);rw[HX.out,hP] at e5;rw[HX.out] at s8 s5;rw[hP] at s8 s5 s9 s7 e7;have K8:Aside (S8 B M g O P X C v4.drew):=s8;have K5:Aside (S8 B M g O P X C w5):=s5;have K9:Aside (S8 B M g O P s D w6.drew):=s9;have K7:Aside (S8 B M g O P s D w7):=s7;have hwr1:IntKind.i64.wrap ((C:Int)-1)=(C:Int)-1:=by rw[IntKind.wrap_i64];omega
 have hwr2:IntKind.i64.wrap ((D:Int)+1)=(D:Int)+1:=by rw[IntKind.wrap_i64];omega
 obtain⟨k0,k1,k2,k4,k5,k6,k7,k8,fz⟩:=TT;have hag:=again_any x.f x.p x.d x.r x.m w8;rw[show decide (x.p>0)=true from decide_eq_true HS.out.2] at hag;have HAG:Aside _:=hag;have KK:Aside _:=And.intro k4 (And.intro k5 (And.intro k6 (And.intro k7 k8)));have FZ:Aside (w8.frozen? ⟨g,O+7,none⟩=false):=fz _;clear s8 s5 s9 s7 T6 T8 F6 F8 hC hD hP V8 k0 k1 k2 k4 k5 k6 k7 k8 fz hag okx oks okp hTl;unfold S8 at K8 K5 K9 K7;go_upto_region 8 with fail
 refine anyE_start (S:=(fun v0=>v0.cell? ⟨B,2,none⟩=some (.map (some M))/\v0.cell? ⟨g,O,none⟩=some (.int .i64 P)/\(Instr.lookup 129 (.map (some M)) (.agg #[.int .i64 X,.int .i64 P]) false).run prog v0=.ok (.int .i64 C) v0)) (L:=14) (by kernel_rfl) ?_;refine anyE_u (i:=0) K8.out rfl (by kernel_rfl) (fun w z=>by go_simp<;>rfl) (fun _ _ _ h=>h) ?_;refine anyE_u (i:=1) K8.out rfl (by kernel_rfl) (fun w z=>by go_simp<;>rfl) (fun _ _ _ h=>h) ?_;refine anyE_u (i:=2) K8.out rfl (by kernel_rfl) (fun w z=>by go_simp<;>rfl) (fun _ _ _ h=>h) ?_;refine anyE_u (i:=3) K8.out rfl (by kernel_rfl) (fun w z=>by go_simp<;>rfl) (fun _ _ _ h=>h) ?_;refine anyE_u (i:=4) K8.out rfl (by kernel_rfl) (fun w z=>by go_simp<;>rfl) (fun _ _ _ h=>h) ?_;refine anyE_u (i:=5) K8.out rfl (by kernel_rfl) (fun w z=>by go_simp<;>rfl) (fun _ _ _ h=>h) ?_;refine anyE_u (i:=6) K8.out rfl (by kernel_rfl) (fun w z=>by go_simp<;>rfl) (fun _ _ _ h=>h) ?_;refine anyE_u (i:=7) K8.out rfl (by kernel_rfl) (fun w z=>by go_simp<;>rfl) (fun _ _ _ h=>h) ?_;refine anyE_u (i:=8) K8.out rfl (by kernel_rfl) (fun w z=>by go_simp<;>rfl) (fun _ _ _ h=>h) ?_;refine anyE_u (i:=9) K8.out rfl (by kernel_rfl) (fun w z=>by go_simp<;>rfl) (fun _ _ _ h=>h) ?_;refine anyE_u (i:=10) K8.out rfl (by kernel_rfl) (fun w z=>by go_simp<;>rfl) (fun _ _ _ h=>h) ?_;refine anyE_u (i:=11) K8.out rfl (by kernel_rfl) (fun w z=>by go_simp<;>rfl) (fun _ _ _ h=>h) ?_;simp only[Act.put,sA,sB,sC];refine anyE_ready (rs:=[12]) (by kernel_rfl) (by simp) ?_;refine AllE.cons rfl (fun Kt hKt=>?_) ?_
 ·go_simp
  refine hKt.out _ _ (fun _=>K5.out) ?_;clear hKt Kt;try simp only[Act.put,sA,sB,sC]
  refine anyE_u (i:=13) K5.out rfl (by kernel_rfl) (fun w z=>by go_simp<;>rfl) (fun _ _ _ h=>h) ?_;simp only[Act.put,sA,sB,sC];refine anyE_ready (rs:=[14]) (by kernel_rfl) (by simp) ?_;refine AllE.cons rfl (fun Kt hKt=>?_) ?_
  ·go_simp
   refine hKt.out _ _ (fun h=>absurd rfl h) ?_;clear hKt Kt;try simp only[Act.put,sA,sB,sC]
   refine anyE_done (by kernel_rfl) ?_ _;go_upto_region 9 with fail
   refine anyE_start (S:=(fun v0=>v0.cell? ⟨B,2,none⟩=some (.map (some M))/\v0.cell? ⟨g,O,none⟩=some (.int .i64 P)/\(Instr.lookup 129 (.map (some M)) (.agg #[.int .i64 s,.int .i64 P]) false).run prog v0=.ok (.int .i64 D) v0)) (L:=14) (by kernel_rfl) ?_;refine anyE_u (i:=0) K9.out rfl (by kernel_rfl) (fun w z=>by go_simp<;>rfl) (fun _ _ _ h=>h) ?_;refine anyE_u (i:=1) K9.out rfl (by kernel_rfl) (fun w z=>by go_simp<;>rfl) (fun _ _ _ h=>h) ?_;refine anyE_u (i:=2) K9.out rfl (by kernel_rfl) (fun w z=>by go_simp<;>rfl) (fun _ _ _ h=>h) ?_;refine anyE_u (i:=3) K9.out rfl (by kernel_rfl) (fun w z=>by go_simp<;>rfl) (fun _ _ _ h=>h) ?_;refine anyE_u (i:=4) K9.out rfl (by kernel_rfl) (fun w z=>by go_simp<;>rfl) (fun _ _ _ h=>h) ?_;refine anyE_u (i:=5) K9.out rfl (by kernel_rfl) (fun w z=>by go_simp<;>rfl) (fun _ _ _ h=>h) ?_;refine anyE_u (i:=6) K9.out rfl (by kernel_rfl) (fun w z=>by go_simp<;>rfl) (fun _ _ _ h=>h) ?_;refine anyE_u (i:=7) K9.out rfl (by kernel_rfl) (fun w z=>by go_simp<;>rfl) (fun _ _ _ h=>h) ?_;refine anyE_u (i:=8) K9.out rfl (by kernel_rfl) (fun w z=>by go_simp<;>rfl) (fun _ _ _ h=>h) ?_;refine anyE_u (i:=9) K9.out rfl (by kernel_rfl) (fun w z=>by go_simp<;>rfl) (fun _ _ _ h=>h) ?_;refine anyE_u (i:=10) K9.out rfl (by kernel_rfl) (fun w z=>by go_simp<;>rfl) (fun _ _ _ h=>h) ?_;refine anyE_u (i:=11) K9.out rfl (by kernel_rfl) (fun w z=>by go_simp<;>rfl) (fun _ _ _ h=>h) ?_;simp only[Act.put,sA,sB,sC];refine anyE_ready (rs:=[12]) (by kernel_rfl) (by simp) ?_;refine AllE.cons rfl (fun Kt hKt=>?_) ?_
   ·go_simp
    refine hKt.out _ _ (fun _=>K7.out) ?_;clear hKt Kt;try simp only[Act.put,sA,sB,sC]
    refine anyE_u (i:=13) K7.out rfl (by kernel_rfl) (fun w z=>by go_simp<;>rfl) (fun _ _ _ h=>h) ?_;simp only[Act.put,sA,sB,sC];refine anyE_ready (rs:=[14]) (by kernel_rfl) (by simp) ?_;refine AllE.cons rfl (fun Kt hKt=>?_) ?_
    ·go_simp
     refine hKt.out _ _ (fun h=>absurd rfl h) ?_;clear hKt Kt;try simp only[Act.put,sA,sB,sC]
     refine anyE_done (by kernel_rfl) ?_ _;obtain⟨k4,k5,k6,k7,k8⟩:=KK.out
     go_wp2_with fail
     refine Calls.mono HAG.out ?_;rintro e w9 ⟨rfl,b9⟩;have T9:Aside _:=T8A.out.below b9;have k7':w9.cell? ⟨g,O+7,none⟩=some (.int .u64 x.r):=(T9.out.tc HT.out.2.1 HT.out.2.2.1).k7;have k7'':w9.cell? ⟨g,O+4+3,none⟩=some (.int .u64 x.r):=k7';have fz7:w9.frozen? ⟨g,O+7,none⟩=false:=(T9.out.tc HT.out.2.1 HT.out.2.2.1).fz _;have fz7':w9.frozen? ⟨g,O+4+3,none⟩=false:=fz7;have F9:Aside _:=FA.out.tb b9;clear b9 k4 k5 k6 k7 k8;clear k7' k7'' fz7 fz7'
     go_wp2_with fail
     go_ret;exact⟨rfl,⟨_,_,T9.out.sameT (y:={x with s:=s}) HT.out.2.1 rfl,II.out {x with s:=s} rfl rfl⟩,F9.out⟩
    exact AllE.nil
   exact AllE.nil
  exact AllE.nil
 exact AllE.nil
end
section
open Go.RowKit Go.Lib
theorem firstStp:∀{d:List OpR} {z:Int},FirstIs d (fun x=>decide (x.1=5)) z->(stp d:Int)=if z<0 then(d.length:Int) else z+1:=by
 have key:∀(d:List OpR),(∀i (hi:i<d.length),decide (d[i].1=5)=false)->stp d=d.length:=by
  intro d
  induction d with
  | nil=>intro _;rfl
  | cons x d ih=>
   intro h;have h0:=h 0 (by simp);simp at h0;show(if x.1=5 then 1 else stp d+1)=_;rw[if_neg h0,ih (fun i hi=>h (i+1) (by simpa using hi))];rfl
 have key2:∀(d:List OpR)(k:Nat)(hk:k<d.length),decide (d[k].1=5)=true->(∀i (hi:i<k),decide ((d[i]'(by omega)).1=5)=false)->stp d=k+1:=by
  intro d
  induction d with
  | nil=>intro k hk;simp at hk
  | cons x d ih=>
   intro k hk h1 h2;show(if x.1=5 then 1 else stp d+1)=_
   cases k with
   | zero=>
    simp at h1;rw[if_pos h1]
   | succ k=>
    have h0:=h2 0 (by omega);simp at h0;rw[if_neg h0,ih k (by simpa using hk) h1 (fun i hi=>h2 (i+1) (by omega))]
 intro d z h;rcases h with⟨rfl,h⟩|⟨k,hk,rfl,h,h'⟩
 ·rw[key d h];rfl
 ·rw[key2 d k hk h h',if_neg (by omega)];rfl
theorem okO_doc(k a b:Int):okO (k,a,b)=true↔((k=1\/k=5)/\a=0/\b=0)\/(k=2/\0<=a/\a<=7/\b=0)\/(k=3/\0<=a/\a<=7/\0<=b/\b<=1000000)\/(k=4/\1<=a/\a<=1000/\b=0):=by
 rw[okO_iff];constructor
 ·rintro⟨hk,⟨h1,h2⟩,h3,h4⟩
  rcases kindB_cases hk with rfl|rfl|rfl|rfl|rfl <;>
   simp only[loK,hiA,hiB,shL,shA,shB] at h1 h2 h3 h4<;>simp at h1 h2 h3 h4<;>omega
 ·intro h;have hk:k=1\/k=2\/k=3\/k=4\/k=5:=by omega
  rcases hk with rfl|rfl|rfl|rfl|rfl <;>
   refine⟨by rfl,?_⟩<;>simp only[loK,hiA,hiB,shL,shA,shB]<;>simp<;>omega
/-! ## Texts -/
theorem vsteps_any(a:Option Addr)(cap:Nat)(d:List OpR)(w:World)(h:IsG rO w a cap d) :
  Calls prog 10 #[.slice a d.length cap] w fun r w'=>r=.returned (.int .i64 (stp d))/\Below w.heap.size w w':=by
 have hl:=h.len;have H:Aside (IsG rO w a cap d):=h;clear h;go_enter func10,ntmps10
 go_wp2
 go_loopg [3] d.length (fun kx s3 wr=>∃k:Nat,s3=.int .i64 k/\k<=d.length/\d.length-k<=kx/\wr=w/\Aside (∀i (hi:i<d.length),i<k->decide (d[i].1=5)=false))
 case atStart=>exact⟨0,rfl,by omega,by omega,rfl,(fun i _ h=>absurd h (by omega):∀i (hi:i<d.length),i<0->decide (d[i].1=5)=false)⟩
 case round=>
  obtain⟨k,rfl,hk,hkx,rfl,A⟩:=hrel;by_cases hlt:k<d.length
  ·have hz:(k:Int)<(d.length:Int):=by omega
   obtain⟨x,hx⟩:∃x,d[k]=x:=⟨_,rfl⟩;obtain⟨b,off,ha,hb,c0,c1,c2⟩:=opAt H.out (i:=k) (x:=x) (by rw[List.getElem?_eq_getElem hlt,hx]);subst ha;have HX:Hid _:=hx;clear hx;by_cases c:x.1=5
   ·have E:Aside ((stp d:Int)=(k:Int)+1):=by
     have:=firstStp (d:=d) (z:=(k:Int)) (.inr ⟨k,hlt,rfl,by rw[HX.out];exact decide_eq_true c,fun i hi=>A.out i (by omega) hi⟩);rw[if_neg (by omega)] at this;exact this
    go_wp2
    go_ret;exact⟨by rw[E.out];rfl,Below.refl _ _⟩
   ·go_wp2
    go_roundg (d.length-(k+1))
    case measure=>omega
    case rel=>
     refine⟨k+1,by go_num,by omega,Nat.le_refl _,rfl,(fun i hi hik=>?_:∀i (hi:i<d.length),i<k+1->decide (d[i].1=5)=false)⟩;by_cases e:i=k
     ·subst e;rw[HX.out];exact decide_eq_false c
     ·exact A.out i hi (by omega)
  ·have hz:¬(k:Int)<(d.length:Int):=by omega
   have E:Aside ((stp d:Int)=(d.length:Int)):=by
    have:=firstStp (d:=d) (z:=-1) (.inl ⟨rfl,fun i hi=>A.out i hi (by omega)⟩);exact this
   go_wp2
   go_ret;exact⟨by rw[E.out];rfl,Below.refl _ _⟩
theorem opOk_any(k a b:Int)(w:World):Calls prog 12 #[.agg #[.int .i64 k,.int .i64 a,.int .i64 b]] w fun e w'=>e=.returned (.bool (okO (k,a,b)))/\Below w.heap.size w w':=by
 have hd:=okO_doc k a b;obtain⟨B,hB⟩:∃B,okO (k,a,b)=B:=⟨_,rfl⟩;rw[hB] at hd⊢;have HD:Hid _:=hd;clear hd hB;have yes:∀x:Bool,(x=true↔B=true)->x=B:=fun x h=>by cases x<;>cases B<;>simp_all
 go_enter func12,ntmps12
 go_wp2
 all_goals go_ret
 all_goals refine⟨?_,bel1 _ _⟩
 all_goals refine congrArg (fun b=>Ending.returned (Value.bool b)) (yes _ ?_)
 all_goals refine Iff.trans ?_ HD.out.symm
 all_goals (simp only[beq_iff_eq,beq_eq_false_iff_ne,ne_eq,decide_eq_true_eq,Bool.false_eq_true,false_iff] at *;omega)
theorem bodyOk_any(a:Option Addr)(cap:Nat)(d:List OpR)(w:World)(h:IsG rO w a cap d) :
  Calls prog 4 #[.slice a d.length cap] w fun r w'=>r=.returned (.bool (okL d))/\Below w.heap.size w w':=by
 have hl:=h.len;by_cases h16:d.length<=16
 ·have h16':¬(d.length:Int)>16:=by omega
  have E:Aside (okL d=d.all okO):=by
   show okL d=d.all okO;unfold okL;rw[decide_eq_true h16,Bool.true_and]
  have H:Aside (IsG rO w a cap d):=h;clear h;go_enter func4,ntmps4
  go_wp2
  go_loopg [3] d.length (fun kx s3 wr=>∃k:Nat,s3=.int .i64 k/\k<=d.length/\d.length-k<=kx/\Aside (Below w.heap.size w wr)/\Aside (∀i (hi:i<d.length),i<k->okO d[i]=true))
  case atStart=>exact⟨0,rfl,by omega,by omega,Below.refl _ w,(fun i _ h=>absurd h (by omega):∀i (hi:i<d.length),i<0->okO d[i]=true)⟩
  case round=>
   obtain⟨k,rfl,hk,hkx,G,A⟩:=hrel;by_cases hlt:k<d.length
   ·have hz:(k:Int)<(d.length:Int):=by omega
    obtain⟨x,hx⟩:∃x,d[k]=x:=⟨_,rfl⟩;obtain⟨b,off,ha,hb,c0,c1,c2⟩:=opAt (H.out.below G.out) (i:=k) (x:=x) (by rw[List.getElem?_eq_getElem hlt,hx]);subst ha;have HX:Hid _:=hx;clear hx;obtain⟨B,hB⟩:∃B,okO x=B:=⟨_,rfl⟩;have HB:Hid _:=hB;have pc:=opOk_any x.1 x.2.1 x.2.2 wr;rw[show okO (x.1,x.2.1,x.2.2)=B from hB] at pc;clear hB
    go_wp2_with fail
    refine pc.mono ?_;rintro r w1 ⟨rfl,g1⟩;have G2:Aside (Below w.heap.size w w1):=Below.tr G.out g1;clear g1 G c0 c1 c2 pc
    cases B with
    | true=>
     go_wp2
     go_roundg (d.length-(k+1))
     case measure=>omega
     case rel=>
      refine⟨k+1,by go_num,by omega,Nat.le_refl _,G2,(fun i hi hik=>?_:∀i (hi:i<d.length),i<k+1->okO d[i]=true)⟩;by_cases e:i=k
      ·subst e;rw[HX.out];exact HB.out
      ·exact A.out i hi (by omega)
    | false=>
     go_wp2
     go_ret;refine⟨?_,G2.out⟩;rw[E.out,List.all_eq_false.2 ⟨x,by rw[<-HX.out];exact List.getElem_mem hlt,by rw[HB.out];simp⟩];rfl
   ·have hz:¬(k:Int)<(d.length:Int):=by omega
    go_wp2
    go_ret;refine⟨?_,G.out⟩;rw[E.out,List.all_eq_true.2 (fun x hx=>?_)]
    ·rfl
    ·obtain⟨i,hi,rfl⟩:=List.getElem_of_mem hx;exact A.out i hi (by omega)
 ·have h16':(d.length:Int)>16:=by omega
  have E:okL d=false:=by
   unfold okL;rw[decide_eq_false h16,Bool.false_and]
  go_enter func4,ntmps4
  go_wp2
  go_ret;exact⟨by rw[E];rfl,Below.refl _ _⟩
end
section
open Go.RowKit Go.Lib Go.Deep
theorem isG_of{α:Type}{R:RowT α}{w:World}{a:Option Addr}{cap:Nat}{d:List α}(h1:d.length<=cap)(h2:cap<=maxLen)
  (h:∀i x,d[i]?=some x->∃b off,a=some ⟨b,off,none⟩/\b<w.heap.size/\∀j u,(R.enc x)[j]?=some u->w.cell? ⟨b,off+(i*R.k+j),none⟩=some u):IsG R w a cap d:=by
 refine⟨h1,h2,fun j u hu=>?_⟩;have hj:=(List.getElem?_eq_some_iff.1 hu).1;rw[flat_len] at hj;have hk:=R.kpos;have hi:j/R.k<d.length:=by rw[Nat.div_lt_iff_lt_mul hk];exact hj
 have hx:d[j/R.k]?=some d[j/R.k]:=List.getElem?_eq_getElem hi;obtain⟨b,off,e,hb,hc⟩:=h _ _ hx;have hr:j%R.k<(R.enc d[j/R.k]).length:=by rw[R.len];exact Nat.mod_lt _ hk
 have hu':(R.enc d[j/R.k])[j%R.k]?=some ((R.enc d[j/R.k])[j%R.k]):=List.getElem?_eq_getElem hr;have hf:=flat_at d _ _ hx _ _ hu';have ej:j/R.k*R.k+j%R.k=j:=by rw[Nat.mul_comm];exact Nat.div_add_mod j R.k
 have hv:=hc _ _ hu';rw[ej] at hf hv;rw[hf] at hu;rw[<-hu];exact⟨b,off,e,hb,hv⟩
section
variable {H:Type}{enc:TypeId×Value->H}{w:World}{spare:Nat->Bool}{held:Bool}{fuel:Nat}{a:Option Addr}{len cap:Nat}{x:DataW H×List MemPlace}
theorem open_ops(h:DataW.trod enc prog w 0 spare held fuel 22 [.slice a len cap]=some x):∃d:List OpR,d.length=len/\IsG rO w a cap d:=by
 obtain⟨Z,hZ⟩:=open_recs [.i64,.i64,.i64] underlying22 underlying45 (by kernel_rfl) (by kernel_rfl) (by decide) h;refine⟨(List.range len).map fun i=>(Z i 0,Z i 1,Z i 2),by simp,?_⟩
 have hb:len<=cap/\cap<=maxLen:=by
  rcases open_slice underlying22 h with⟨h0,_⟩|⟨a',len',cap',m,n,D,Pl,h0,_,hl,hm,_⟩
  ·simp at h0;obtain⟨rfl,rfl,rfl⟩:=h0;exact⟨Nat.le_refl _,Nat.zero_le _⟩
  ·simp at h0;obtain⟨rfl,rfl,rfl⟩:=h0;exact⟨hl,hm⟩
 refine isG_of (by simpa using hb.1) hb.2 fun i y hy=>?_;have hi:i<len:=by have:=(List.getElem?_eq_some_iff.1 hy).1;simpa using this
 rw[List.getElem?_map,List.getElem?_range hi,Option.map_some] at hy
 cases hy
 obtain⟨b,off,e,hlt,hc⟩:=hZ.elem i hi;refine⟨b,off,e,hlt,fun j u hu=>?_⟩;have e3:∀j,off+(i*rO.k+j)=off+i*[IntKind.i64,.i64,.i64].length+j:=fun j=>by show off+(i*3+j)=off+i*3+j;omega
 rw[e3]
 match j,hu with
 | 0,hu=>cases hu;exact(hc 0 .i64 rfl).1
 | 1,hu=>cases hu;exact(hc 1 .i64 rfl).1
 | 2,hu=>cases hu;exact(hc 2 .i64 rfl).1
end
end
end Go.Proofs.YtjpbngiddjkjiaaGreatDoor.Ta
