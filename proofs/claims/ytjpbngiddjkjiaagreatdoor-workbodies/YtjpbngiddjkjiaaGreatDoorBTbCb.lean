import Derived.Test.YtjpbngiddjkjiaaGreatDoorBTbC
import Derived.Test.YtjpbngiddjkjiaaGreatDoorBTbDb
open Go.Proofs.Tryz
namespace Go.Proofs.YtjpbngiddjkjiaaGreatDoor.Ta
set_option linter.unusedSimpArgs false
set_option maxHeartbeats 8000000
set_option maxRecDepth 100000
set_option linter.unusedVariables false
open Go.RowKit Go.Lib Go.WideMaps Go.Maps
section
variable {w w' u:World}{B a b r M n J:Nat}{v v':Value}{T T':List TR}{ws ws':Nat->Int}{fc fc':Int×Int->Option Value}{f p d rr m:Int}
theorem make_plain(h:Tab w B a b r M n v T ws fc)(I:TInv T ws fc n)(hn:n<=1000)(prio f p d rr m s:Int)(hm:mayB prio s=true)(hl:T.length<n)(hp0:p=0) :
  Calls prog 42 #[.pointer (some ⟨B,0,none⟩),.int .i64 prio,.slice none 0 0,.agg #[.int .u64 f,.int .u64 p,.int .u64 d,.int .u64 rr,.int .u64 m],.int .i64 s] w fun e w'=>e=.returned (.tuple #[.int .i64 ((T.length:Int)+1),.int .i64 0])/\
   ∃v' ws' fc',Tab w' B a b r M n v' (T++[mkT prio f p d 0 m s]) ws' fc'/\TInv (T++[mkT prio f p d 0 m s]) ws' fc' n/\Fr (tf B a b r M v) w w'/\∀k,v'.ownBlock=some k->v.ownBlock=some k\/w.heap.size<=k:=by
 have HP0:Aside (p=0):=hp0;clear hp0;have hpr:0<=prio/\prio<=7:=by simp[mayB] at hm;omega
 have hcan:canB 0 s=true:=by simp[mayB] at hm;exact hm.2.2
 have hsr:1<=s/\s<=6:=by obtain⟨q,rfl,q1,_,q2,_⟩:=can_range hcan;omega
 have hsw:wfI s:=wfI_8 (by omega);obtain⟨J,hJS⟩:∃J,w.heap.size=J:=⟨_,rfl⟩;obtain⟨u0,hu0⟩:∃x,w.alloc (.cells #[.int .u64 f,.int .u64 p,.int .u64 d,.int .u64 rr,.int .u64 m] 61)=x:=⟨_,rfl⟩;have J0:Tk.JBox u0 J f p d rr m:=by rw[<-hu0,<-hJS];exact Tk.JBox.new _ _ _ _ _ _
 have B0:Below w.heap.size w u0:=by rw[<-hu0];exact bel1 _ _
 have T0:=h.below B0;have h':=h;have F0:Fr (tf B a b r M v) w u0:=Fr.below B0;have hb:=mayBe_nil prio s u0 hsw;rw[hm] at hb;obtain⟨L,hL⟩:∃L,T.length=L:=⟨_,rfl⟩;have hLn:((L:Int)==(n:Int))=false:=by simp;omega
 have HI:Aside (TInv T ws fc n):=I;have HU0:Aside _:=hu0;have HLL:Aside (T.length=L/\L<n):=⟨hL,by omega⟩;rw[hL];clear hu0 hm I h B0 hL hl;have X0:Aside (Tab u0 B a b r M n v T ws fc/\Tk.JBox u0 J f p d rr m/\Fr (tf B a b r M v) w u0):=⟨T0,J0,F0⟩;have HLT:Aside (∀k,tf B a b r M v k->k<J):=fun k hk=>by have:=h'.tfLt hk;omega
 clear T0 J0 F0 h';go_enter func42,ntmps42
 go_wp2_with fail
 rw[HU0.out];refine hb.mono ?_;rintro e w1 ⟨rfl,b1⟩;clear hb;have X1:Aside (Tab w1.drew B a b r M n v T ws fc/\Tk.JBox w1.drew J f p d rr m/\Fr (tf B a b r M v) w w1.drew):=⟨(X0.out.1.below b1).drew,jb_drew (X0.out.2.1.below b1),(X0.out.2.2.tb b1).drew⟩;have c0:w1.drew.cell? ⟨B,0,none⟩=some (.pointer (some ⟨a,0,none⟩)):=X1.out.1.c0
 have lenC:Aside (Calls prog 36 #[.pointer (some ⟨B,0,none⟩)] w1.drew fun e w'=>e=.returned (.int .i64 L)/\w'=w1.drew):=by
  have:=tlen_any X1.out.1;rw[HLL.out.1] at this;exact this
 clear b1;go_upto_region 3 with fail
 go_region_held3 (fun w'=>w'.cell? ⟨B,0,none⟩=some (.pointer (some ⟨a,0,none⟩))) (exact c0) ((first|(go_at_call 36;refine Calls.mono lenC.out ?_;rintro e v ⟨rfl,rfl⟩)|(go_at_call 68;refine(len_any _ a b r n ws X1.out.1.arn).mono ?_;rintro e v ⟨rfl,rfl⟩)))
 obtain⟨j0,j1,j2,j3,j4⟩:=X1.out.2.1.cell;have hag:=again_any f p d rr m w1.drew;rw[show decide (p>0)=false by simp[HP0.out]] at hag
 go_wp2_with fail
 refine hag.mono ?_;rintro e w2 ⟨rfl,b2⟩;clear hag j0 j1 j2 j3 j4 c0;have X2:Aside (Tab w2 B a b r M n v T ws fc/\Tk.JBox w2 J f p d rr m/\Fr (tf B a b r M v) w w2):=⟨X1.out.1.below b2,X1.out.2.1.below b2,X1.out.2.2.tb b2⟩;clear b2;have X3:=X2;have c0:=X3.out.1.c0
 have hA:=alloc_ok w2 a b r n ws X3.out.1.arn s hcan L HLL.out.2 (HI.out.fre L (by rw[HLL.out.1];omega) HLL.out.2) (fun j hj=>by
  have hj':j<T.length:=by rw[HLL.out.1];exact hj
  have:=HI.out.st j T[j] (List.getElem?_eq_getElem hj');have:=HI.out.ok T[j] (List.getElem_mem hj');omega)
 go_wp2_with fail
 refine hA.mono ?_;rintro e w4 ⟨rfl,a4,k4⟩;clear hA c0;have X4:Aside (Tab w4 B a b r M n v T (putW ws L (packI s (ws L/8+1))) fc/\Tk.JBox w4 J f p d rr m/\Fr (tf B a b r M v) w w4):=⟨X3.out.1.setA k4 a4,jb_kept X3.out.2.1 X3.out.1 k4,X3.out.2.2.trans (Fr.kept k4) (fun j hj=>.inl (by rcases hj with rfl|rfl|rfl;exact .inr (.inl rfl);exact .inr (.inr (.inl rfl));exact .inr (.inr (.inr (.inl rfl)))))⟩;clear k4 a4;obtain⟨j0,j1,j2,j3,j4⟩:=X4.out.2.1.cell;have hag:=again_any f p d rr m w4;rw[show decide (p>0)=false by simp[HP0.out]] at hag
 go_wp2_with fail
 refine hag.mono ?_;rintro e w5 ⟨rfl,b5⟩;clear hag j0 j1 j2 j3 j4;have X5:Aside (Tab w5 B a b r M n v T (putW ws L (packI s (ws L/8+1))) fc/\Tk.JBox w5 J f p d rr m/\Fr (tf B a b r M v) w w5):=⟨X4.out.1.below b5,X4.out.2.1.below b5,X4.out.2.2.tb b5⟩;clear b5;obtain⟨u,hu⟩:∃x,w5.setCell ⟨J,3,none⟩ (.int .u64 0)=x:=⟨_,rfl⟩
 have X6:Aside (Tab u B a b r M n v T (putW ws L (packI s (ws L/8+1))) fc/\Tk.JBox u J f p d 0 m/\Fr (tf B a b r M v) w u):=by
  rw[<-hu];have hf:=Fr.setCell (fun k=>k=J) w5 J 3 (.int .u64 0) rfl;refine⟨X5.out.1.fr hf (fun k hk e=>?_),X5.out.2.1.set3 0,X5.out.2.2.trans hf (fun j hj=>.inr (by rw[hJS];exact Nat.le_of_eq hj.symm))⟩;subst e;have:=X0.out.1;have hlt:=HLT.out k hk;omega
 obtain⟨j0,j1,j2,j3,j4⟩:=X5.out.2.1.cell;have fJ:=X5.out.2.1.fz.1 3;have HU:Aside _:=hu;clear hu;go_upto_region 12 with fail
 rw[HU.out];clear j0 j1 j2 j3 j4 fJ;have hTl:T.length<=1000:=by rw[HLL.out.1];have:=HLL.out.2;omega
 obtain⟨C,hC⟩:∃C:Nat,T.countP (hasK s prio)=C:=⟨_,rfl⟩;have hC1:C<=1000:=by have:=cntP_le (hasK s prio) T;omega
 obtain⟨s0,s1,v2,⟨a2,L2,c2,rfl⟩,w7,w8,st,w9,wx,r7,s7,f7,e8,s8,r9,s9,rx,TX,FX,NX⟩:=grow_all X6.out.1 HI.out.dom X6.out.2.1 hTl prio s hpr hsr (C:Int) (by rw[HI.out.cnt s prio,hC]);have hwr:IntKind.i64.wrap ((C:Int)+1)=(C:Int)+1:=by rw[IntKind.wrap_i64];omega
 have FIN:Aside (∃v' ws' fc',Tab wx B a b r M n v' (T++[mkT prio f p d 0 m s]) ws' fc'/\TInv (T++[mkT prio f p d 0 m s]) ws' fc' n/\Fr (tf B a b r M v) w wx/\∀k,v'.ownBlock=some k->v.ownBlock=some k\/w.heap.size<=k):=by
  refine⟨_,_,_,TX,?_,X6.out.2.2.trans FX (fun j hj=>.inl hj),fun k hk=>?_⟩
  ·have:=HI.out.push (mkT prio f p d 0 m s) (by rw[HLL.out.1];exact HLL.out.2) hpr hsr (packI s (ws L/8+1)) (by rw[packI_state];show s%8=s;omega);rw[HLL.out.1] at this;rw[<-hC];exact this
  ·rcases NX k hk with e|e
   ·exact .inl e
   ·exact .inr (Nat.le_trans X6.out.2.2.size e)
 have K0:Aside (SJ B J v f p d 0 m u.drew):=s0;have K1:Aside _:=s1;have K2:Aside (SJ B J v f p d 0 m w7):=s7;have R7:Aside _:=r7;have E8:Aside _:=e8;have K8:Aside _:=s8;have K9:Aside _:=s9;clear s0 s1 s7 r7 e8 s8 s9 TX FX NX hC hTl;unfold SJ at K0 K1 K2;refine anyE_start (S:=(fun v0=>v0.cell? ⟨B,1,none⟩=some v/\v0.cell? ⟨J,0,none⟩=some (.int .u64 f)/\v0.cell? ⟨J,1,none⟩=some (.int .u64 p)/\v0.cell? ⟨J,2,none⟩=some (.int .u64 d)/\v0.cell? ⟨J,3,none⟩=some (.int .u64 0)/\v0.cell? ⟨J,4,none⟩=some (.int .u64 m))) (L:=16) (by kernel_rfl) ?_;refine anyE_u (i:=0) K0.out rfl (by kernel_rfl) (fun w z=>by go_simp<;>rfl) (fun _ _ _ h=>h) ?_;refine anyE_u (i:=1) K0.out rfl (by kernel_rfl) (fun w z=>by go_simp<;>rfl) (fun _ _ _ h=>h) ?_;refine anyE_u (i:=2) K0.out rfl (by kernel_rfl) (fun w z=>by go_simp<;>rfl) (fun _ _ _ h=>h) ?_;refine anyE_u (i:=3) K0.out rfl (by kernel_rfl) (fun w z=>by go_simp<;>rfl) (fun _ _ _ h=>h) ?_;refine anyE_u (i:=4) K0.out rfl (by kernel_rfl) (fun w z=>by go_simp<;>rfl) (fun _ _ _ h=>h) ?_;refine anyE_u (i:=5) K0.out rfl (by kernel_rfl) (fun w z=>by go_simp<;>rfl) (fun _ _ _ h=>h) ?_;refine anyE_u (i:=6) K0.out rfl (by kernel_rfl) (fun w z=>by go_simp<;>rfl) (fun _ _ _ h=>h) ?_;refine anyE_u (i:=7) K0.out rfl (by kernel_rfl) (fun w z=>by go_simp<;>rfl) (fun _ _ _ h=>h) ?_;refine anyE_u (i:=8) K0.out rfl (by kernel_rfl) (fun w z=>by go_simp<;>rfl) (fun _ _ _ h=>h) ?_;refine anyE_u (i:=10) K0.out rfl (by kernel_rfl) (fun w z=>by go_simp<;>rfl) (fun _ _ _ h=>h) ?_;simp only[Act.put,sA,sB,sC];refine anyE_ready (rs:=[9]) (by kernel_rfl) (by simp) ?_;refine AllE.cons (o:={dst:=some 59,op:=Op.call {callee:=Callee.value (Operand.func 72),args:=#[Operand.tmp 58],argTypes:=#[22]},type:=22,pos:= "table.go:69",after:=#[⟨8,.data⟩],guard:=none}) rfl (fun Kt hKt=>?_) ?_
 ·go_simp
  (with_reducible refine Calls.mono (clone_nil _) ?_)
  rintro x_ wc ⟨rfl,rfl⟩;dsimp only;refine hKt.out _ _ (fun _=>K0.out) ?_;clear hKt Kt;try simp only[Act.put,sA,sB,sC]
  refine anyE_u (i:=11) K0.out rfl (by kernel_rfl) (fun w z=>by go_simp<;>rfl) (fun _ _ _ h=>h) ?_;simp only[Act.put,sA,sB,sC];refine anyE_ready (rs:=[12]) (by kernel_rfl) (by simp) ?_;refine AllE.cons rfl (fun Kt hKt=>?_) ?_
  ·go_simp
   try go_wp2_with fail
   refine hKt.out _ _ (fun _=>K1.out) ?_;clear hKt Kt;try simp only[Act.put,sA,sB,sC]
   refine anyE_ready (rs:=[13]) (by kernel_rfl) (by simp) ?_;refine AllE.cons (o:={dst:=some 63,op:=Op.call {callee:=Callee.builtin Builtin.append,args:=#[Operand.tmp 54,Operand.tmp 62],argTypes:=#[128,128]},type:=128,pos:= "table.go:69",after:=#[⟨4,.data⟩,⟨12,.data⟩,⟨9,.chain⟩],guard:=none}) rfl (fun Kt hKt=>?_) ?_
   ·refine step_app _ (by rfl) _ _ 128 128 (by rfl) v (.slice (some ⟨u.drew.heap.size,0,none⟩) 1 1) (by rfl) (by rfl) (.slice a2 L2 c2) w7 R7.out ?_;refine hKt.out _ _ (fun _=>K2.out) ?_;clear hKt Kt;try simp only[Act.put,sA,sB,sC]
    refine anyF_u [15] (i:=14) K2.out rfl (by kernel_rfl) (fun w z=>by go_simp<;>rfl) (fun _ _ _ h=>h) ?_;refine anyE_u (i:=15) K2.out rfl (by kernel_rfl) (fun w z=>by go_simp<;>rfl) (fun _ _ _ h=>h) ?_;simp only[Act.put,sA,sB,sC];refine anyE_ready (rs:=[16]) (by kernel_rfl) (by simp) ?_;refine AllE.cons rfl (fun Kt hKt=>?_) ?_
    ·obtain⟨k1,_⟩:=K2.out;go_simp
     refine hKt.out _ _ (fun h=>absurd rfl h) ?_;clear hKt Kt;try simp only[Act.put,sA,sB,sC]
     refine anyE_done (by kernel_rfl) ?_ _;rw[E8.out];go_upto_region 13 with fail
     refine anyE_start (S:=(fun v0=>v0.cell? ⟨B,2,none⟩=some (.map (some M))/\(Instr.lookup 129 (.map (some M)) (.agg #[.int .i64 s,.int .i64 prio]) false).run prog v0=.ok (.int .i64 C) v0)) (L:=11) (by kernel_rfl) ?_;refine anyE_u (i:=0) K8.out rfl (by kernel_rfl) (fun w z=>by go_simp<;>rfl) (fun _ _ _ h=>h) ?_;refine anyE_u (i:=1) K8.out rfl (by kernel_rfl) (fun w z=>by go_simp<;>rfl) (fun _ _ _ h=>h) ?_;refine anyE_u (i:=2) K8.out rfl (by kernel_rfl) (fun w z=>by go_simp<;>rfl) (fun _ _ _ h=>h) ?_;refine anyE_u (i:=3) K8.out rfl (by kernel_rfl) (fun w z=>by go_simp<;>rfl) (fun _ _ _ h=>h) ?_;refine anyE_u (i:=4) K8.out rfl (by kernel_rfl) (fun w z=>by go_simp<;>rfl) (fun _ _ _ h=>h) ?_;refine anyE_u (i:=5) K8.out rfl (by kernel_rfl) (fun w z=>by go_simp<;>rfl) (fun _ _ _ h=>h) ?_;refine anyE_u (i:=6) K8.out rfl (by kernel_rfl) (fun w z=>by go_simp<;>rfl) (fun _ _ _ h=>h) ?_;refine anyE_u (i:=7) K8.out rfl (by kernel_rfl) (fun w z=>by go_simp<;>rfl) (fun _ _ _ h=>h) ?_;refine anyE_u (i:=8) K8.out rfl (by kernel_rfl) (fun w z=>by go_simp<;>rfl) (fun _ _ _ h=>h) ?_;simp only[Act.put,sA,sB,sC];refine anyE_ready (rs:=[9]) (by kernel_rfl) (by simp) ?_;refine AllE.cons rfl (fun Kt hKt=>?_) ?_
     ·go_simp
      refine hKt.out _ _ (fun _=>K9.out) ?_;clear hKt Kt;try simp only[Act.put,sA,sB,sC]
      refine anyE_u (i:=10) K9.out rfl (by kernel_rfl) (fun w z=>by go_simp<;>rfl) (fun _ _ _ h=>h) ?_;simp only[Act.put,sA,sB,sC];refine anyE_ready (rs:=[11]) (by kernel_rfl) (by simp) ?_;refine AllE.cons rfl (fun Kt hKt=>?_) ?_
      ·go_simp
       refine hKt.out _ _ (fun h=>absurd rfl h) ?_;clear hKt Kt;try simp only[Act.put,sA,sB,sC]
       refine anyE_done (by kernel_rfl) ?_ _
       go_wp2_with fail
       go_ret2;exact⟨rfl,FIN.out⟩
      exact AllE.nil
     exact AllE.nil
    exact AllE.nil
   exact AllE.nil
  exact AllE.nil
 exact AllE.nil
end
section
def Tb(w:World)(X:Nat->Prop)(B n:Nat)(T:List TR):Prop:=n<=1000/\∃a b r M v ws fc,Tab w B a b r M n v T ws fc/\TInv T ws fc n/\∀k,X k↔tf B a b r M v k
structure Sx(X:Nat->Prop)(w:World)(X':Nat->Prop)(w':World):Prop where
 fr:Fr X w w'
 new:∀k,X' k->X k\/w.heap.size<=k
structure Ab(w0:World)(S:Nat)(w:World)(X:Nat->Prop):Prop where
 bel:Below S w0 w
 low:∀k,X k->S<=k
 sz:S<=w.heap.size
variable {w w' w0 u:World}{X X' Y:Nat->Prop}{B n i S:Nat}{T T':List TR}{x y:TR}
theorem Sx.trans{Z:Nat->Prop}{v:World}(h:Sx X w Y u)(k:Sx Y u Z v):Sx X w Z v:=
 ⟨h.fr.trans k.fr h.new,fun j hj=>by
  rcases k.new j hj with e|e
  ·exact h.new j e
  ·exact .inr (Nat.le_trans h.fr.size e)⟩
theorem Sx.below(X:Nat->Prop)(hb:Below w.heap.size w w'):Sx X w X w':=⟨Fr.below hb,fun k h=>.inl h⟩
theorem Tb.lt(h:Tb w X B n T){k:Nat}(hk:X k):k<w.heap.size:=by
 obtain⟨_,a,b,r,M,v,ws,fc,D,I,hX⟩:=h;exact D.tfLt ((hX k).1 hk)
theorem Tb.fr(h:Tb w X B n T)(hf:Fr Y w w')(hx:∀k,X k->¬Y k):Tb w' X B n T:=by
 obtain⟨hn,a,b,r,M,v,ws,fc,D,I,hX⟩:=h;exact⟨hn,a,b,r,M,v,ws,fc,D.fr hf (fun k hk=>hx k ((hX k).2 hk)),I,hX⟩
theorem Tb.below(h:Tb w X B n T)(hw:Below w.heap.size w w'):Tb w' X B n T:=h.fr (Fr.below (X:=fun _=>False) hw) (fun _ _=>id)
theorem newT(n:Nat)(w:World)(h1:1<=n)(h2:n<=1000):Calls prog 31 #[.int .i64 n] w fun e w'=>∃B X,e=.returned (.tuple #[.pointer (some ⟨B,0,none⟩),.int .i64 0])/\Tb w' X B n []/\Ab w w.heap.size w' X:=by
 refine(tnew_any n w h1 h2).mono ?_;rintro e w' ⟨B,a,b,r,M,rfl,D,hb,low⟩;exact⟨B,_,rfl,⟨h2,a,b,r,M,_,_,_,D,TInv.nil n,fun k=>Iff.rfl⟩,⟨hb,low,hb.size⟩⟩
theorem lenT(h:Tb w X B n T):Calls prog 36 #[.pointer (some ⟨B,0,none⟩)] w fun e w'=>e=.returned (.int .i64 T.length)/\w'=w:=by
 obtain⟨hn,a,b,r,M,v,ws,fc,D,I,hX⟩:=h;exact tlen_any D
theorem sx_of{a b r M:Nat}{v v':Value}(hX:∀k,X k↔tf B a b r M v k)(hf:Fr (tf B a b r M v) w w')(hn:∀k,v'.ownBlock=some k->v.ownBlock=some k\/w.heap.size<=k):Sx X w (tf B a b r M v') w':=by
 refine⟨hf.mono (fun k hk=>(hX k).2 hk),fun k hk=>?_⟩;rcases hk with e|e|e|e|e|e
 ·exact .inl ((hX k).2 (.inl e))
 ·exact .inl ((hX k).2 (.inr (.inl e)))
 ·exact .inl ((hX k).2 (.inr (.inr (.inl e))))
 ·exact .inl ((hX k).2 (.inr (.inr (.inr (.inl e)))))
 ·exact .inl ((hX k).2 (.inr (.inr (.inr (.inr (.inl e))))))
 ·rcases hn k e with e|e
  ·exact .inl ((hX k).2 (.inr (.inr (.inr (.inr (.inr e))))))
  ·exact .inr e
theorem sx_same{a b r M:Nat}{v:Value}(hX:∀k,X k↔tf B a b r M v k)(hf:Fr (tf B a b r M v) w w'):Sx X w X w':=⟨hf.mono (fun k hk=>(hX k).2 hk),fun k hk=>.inl hk⟩
theorem makeT(h:Tb w X B n T)(prio f d rr m s:Int)(hm:mayB prio s=true)(hl:T.length<n) :
  Calls prog 42 #[.pointer (some ⟨B,0,none⟩),.int .i64 prio,.slice none 0 0,.agg #[.int .u64 f,.int .u64 0,.int .u64 d,.int .u64 rr,.int .u64 m],.int .i64 s] w fun e w'=>e=.returned (.tuple #[.int .i64 ((T.length:Int)+1),.int .i64 0])/\∃X',Tb w' X' B n (T++[mkT prio f 0 d 0 m s])/\Sx X w X' w':=by
 obtain⟨hn,a,b,r,M,v,ws,fc,D,I,hX⟩:=h;refine(make_plain D I hn prio f 0 d rr m s hm hl rfl).mono ?_;rintro e w' ⟨rfl,v',ws',fc',D',I',F,N⟩;exact⟨rfl,_,⟨hn,a,b,r,M,v',ws',fc',D',I',fun k=>Iff.rfl⟩,sx_of hX F N⟩
theorem makeP(h:Tb w X B n T)(prio f p d rr m s:Int)(hm:mayB prio s=true)(hl:T.length<n)(hf:IsT f)(hp:IsT p)(hd:IsT d)(hp0:p>0)(hok:Tk.okJ f p d=true) :
  Calls prog 42 #[.pointer (some ⟨B,0,none⟩),.int .i64 prio,.slice none 0 0,.agg #[.int .u64 f,.int .u64 p,.int .u64 d,.int .u64 rr,.int .u64 m],.int .i64 s] w fun e w'=>e=.returned (.tuple #[.int .i64 ((T.length:Int)+1),.int .i64 0])/\∃X',Tb w' X' B n (T++[mkT prio f p d rr m s])/\Sx X w X' w':=by
 obtain⟨hn,a,b,r,M,v,ws,fc,D,I,hX⟩:=h;refine(make_again D I hn prio f p d rr m s hm hl hf hp hd hp0 hok).mono ?_;rintro e w' ⟨rfl,v',ws',fc',D',I',F,N⟩;exact⟨rfl,_,⟨hn,a,b,r,M,v',ws',fc',D',I',fun k=>Iff.rfl⟩,sx_of hX F N⟩
end
section
variable {w w' u:World}{B a b r M n g cap i O:Nat}{v v':Value}{T T':List TR}{x y:TR}{ws ws':Nat->Int}{fc fc':Int×Int->Option Value}
theorem get_keep(h:Tab u B a b r M n (.slice (some ⟨g,0,none⟩) T.length cap) T ws fc)(hi:T[i]?=some x)(hO:i*9=O){K:Nat}(hK:∀k,tf B a b r M (.slice (some ⟨g,0,none⟩) T.length cap) k->k<K)(I1:Int):(((((((u.setCell ⟨K,0,none⟩ (.int .i64 I1)).setCell ⟨K,1,none⟩ (.int .i64 x.prio)).setCell ⟨K,2,none⟩ (.int .i64 x.s)).setCell ⟨K,3,none⟩ (.int .u64 x.due)).setCell ⟨K,4,none⟩ (.int .u64 x.key)).setCell ⟨K,5,none⟩ (.int .u64 x.r)).setCell ⟨K,6,none⟩ (.int .u64 x.m)).cell? ⟨B,0,none⟩=some (.pointer (some ⟨a,0,none⟩))/\(((((((u.setCell ⟨K,0,none⟩ (.int .i64 I1)).setCell ⟨K,1,none⟩ (.int .i64 x.prio)).setCell ⟨K,2,none⟩ (.int .i64 x.s)).setCell ⟨K,3,none⟩ (.int .u64 x.due)).setCell ⟨K,4,none⟩ (.int .u64 x.key)).setCell ⟨K,5,none⟩ (.int .u64 x.r)).setCell ⟨K,6,none⟩ (.int .u64 x.m)).cell? ⟨g,O,none⟩=some (.int .i64 x.prio)/\(((((((u.setCell ⟨K,0,none⟩ (.int .i64 I1)).setCell ⟨K,1,none⟩ (.int .i64 x.prio)).setCell ⟨K,2,none⟩ (.int .i64 x.s)).setCell ⟨K,3,none⟩ (.int .u64 x.due)).setCell ⟨K,4,none⟩ (.int .u64 x.key)).setCell ⟨K,5,none⟩ (.int .u64 x.r)).setCell ⟨K,6,none⟩ (.int .u64 x.m)).cell? ⟨g,O+1,none⟩=some (.int .u64 x.due)/\(((((((u.setCell ⟨K,0,none⟩ (.int .i64 I1)).setCell ⟨K,1,none⟩ (.int .i64 x.prio)).setCell ⟨K,2,none⟩ (.int .i64 x.s)).setCell ⟨K,3,none⟩ (.int .u64 x.due)).setCell ⟨K,4,none⟩ (.int .u64 x.key)).setCell ⟨K,5,none⟩ (.int .u64 x.r)).setCell ⟨K,6,none⟩ (.int .u64 x.m)).cell? ⟨g,O+2,none⟩=some (.int .u64 x.key)/\(((((((u.setCell ⟨K,0,none⟩ (.int .i64 I1)).setCell ⟨K,1,none⟩ (.int .i64 x.prio)).setCell ⟨K,2,none⟩ (.int .i64 x.s)).setCell ⟨K,3,none⟩ (.int .u64 x.due)).setCell ⟨K,4,none⟩ (.int .u64 x.key)).setCell ⟨K,5,none⟩ (.int .u64 x.r)).setCell ⟨K,6,none⟩ (.int .u64 x.m)).cell? ⟨g,O+7,none⟩=some (.int .u64 x.r)/\(((((((u.setCell ⟨K,0,none⟩ (.int .i64 I1)).setCell ⟨K,1,none⟩ (.int .i64 x.prio)).setCell ⟨K,2,none⟩ (.int .i64 x.s)).setCell ⟨K,3,none⟩ (.int .u64 x.due)).setCell ⟨K,4,none⟩ (.int .u64 x.key)).setCell ⟨K,5,none⟩ (.int .u64 x.r)).setCell ⟨K,6,none⟩ (.int .u64 x.m)).cell? ⟨g,O+8,none⟩=some (.int .u64 x.m):=by
 have sK:∀(u0:World)(j:Nat)(z:Value),Fr (fun k=>k=K) u0 (u0.setCell ⟨K,j,none⟩ z):=fun u0 j z=>Fr.setCell _ u0 K j z rfl
 have FK:Fr (fun k=>k=K) u (((((((u.setCell ⟨K,0,none⟩ (.int .i64 I1)).setCell ⟨K,1,none⟩ (.int .i64 x.prio)).setCell ⟨K,2,none⟩ (.int .i64 x.s)).setCell ⟨K,3,none⟩ (.int .u64 x.due)).setCell ⟨K,4,none⟩ (.int .u64 x.key)).setCell ⟨K,5,none⟩ (.int .u64 x.r)).setCell ⟨K,6,none⟩ (.int .u64 x.m)):=
  ((((((sK u 0 _).trans (sK _ 1 _) (fun j hj=>.inl hj)).trans (sK _ 2 _) (fun j hj=>.inl hj)).trans (sK _ 3 _) (fun j hj=>.inl hj)).trans (sK _ 4 _) (fun j hj=>.inl hj)).trans (sK _ 5 _) (fun j hj=>.inl hj)).trans (sK _ 6 _) (fun j hj=>.inl hj)
 have XF:=h.fr FK (fun k hk e=>by have:=hK k hk;omega);obtain⟨k0,k1,k2,k4,k5,k6,k7,k8,fz⟩:=XF.tc hi hO;exact⟨XF.c0,k0,k1,k2,k7,k8⟩
theorem get_any(h:Tab w B a b r M n (.slice (some ⟨g,0,none⟩) T.length cap) T ws fc)(I:TInv T ws fc n)(hn:n<=1000)(hi:T[i]?=some x) :
  Calls prog 28 #[.pointer (some ⟨B,0,none⟩),.int .i64 ((i:Int)+1)] w fun e w'=>e=.returned (.tuple #[.agg #[.int .i64 ((i:Int)+1),.int .i64 x.prio,.int .i64 x.s,.int .u64 x.due,.int .u64 x.key,.int .u64 x.r,.int .u64 x.m],.bool true])/\Tab w' B a b r M n (.slice (some ⟨g,0,none⟩) T.length cap) T ws fc/\Fr (tf B a b r M (.slice (some ⟨g,0,none⟩) T.length cap)) w w':=by
 have hlen:i<T.length:=(List.getElem?_eq_some_iff.1 hi).1;have hin:i<n:=by have:=I.le;omega
 have hst:=I.st i x hi;obtain⟨O,hO⟩:∃O,i*9=O:=⟨_,rfl⟩;obtain⟨K,hK⟩:∃K,w.heap.size=K:=⟨_,rfl⟩;obtain⟨u,hu⟩:∃z,w.alloc (.cells #[.int .i64 0,.int .i64 0,.int .i64 0,.int .u64 0,.int .u64 0,.int .u64 0,.int .u64 0] 80)=z:=⟨_,rfl⟩;have hB:u.heap[K]?=some (.cells #[.int .i64 0,.int .i64 0,.int .i64 0,.int .u64 0,.int .u64 0,.int .u64 0,.int .u64 0] 80 (0,0)):=by rw[<-hu,<-hK];exact heap_alloc_new w _
 have b0:Below w.heap.size w u:=by rw[<-hu];exact bel1 _ _
 have hU:=h.below b0;have hf:=find_in hU hlen (by have:=I.le;omega);rw[hO] at hf;have X0:Aside (Tab u.drew B a b r M n (.slice (some ⟨g,0,none⟩) T.length cap) T ws fc/\Fr (tf B a b r M (.slice (some ⟨g,0,none⟩) T.length cap)) w u.drew/\T[i]?=some x/\i*9=O/\u.drew.heap[K]?=some (.cells #[.int .i64 0,.int .i64 0,.int .i64 0,.int .u64 0,.int .u64 0,.int .u64 0,.int .u64 0] 80 (0,0))):=⟨hU.drew,(Fr.below b0).drew,hi,hO,hB⟩;have hS:Aside _:=state_in u.drew a b r n ws X0.out.1.arn i hin;rw[hst] at hS;have HLT:Aside (∀k,tf B a b r M (.slice (some ⟨g,0,none⟩) T.length cap) k->k<K):=fun k hk=>by have:=h.tfLt hk;omega
 obtain⟨ca,ha'⟩:=hU.ha;obtain⟨cb,hb'⟩:=hU.hb;obtain⟨cr,hr'⟩:=hU.hr;have NE:Aside (K≠a/\K≠b/\K≠r):=⟨un_cells hB ha' (by decide),un_cells hB hb' (by decide),un_cells hB hr' (by decide)⟩;have c0:u.drew.cell? ⟨B,0,none⟩=some (.pointer (some ⟨a,0,none⟩)):=X0.out.1.c0;obtain⟨k0,k1,k2,k4,k5,k6,k7,k8,fz⟩:=X0.out.1.tc hi hO;have HU:Aside _:=hu;have HK:Aside _:=hK;clear h I hi hO hst hlen hU ha' hb' hr' hB b0 hu k4 k5 k6 fz;go_enter func28,ntmps28
 go_wp2_with fail
 rw[HU.out];refine hf.mono ?_;rintro e w1 ⟨rfl,rfl⟩;clear hf;go_upto_region 4 with fail
 go_region_held3 (fun w'=>w'.cell? ⟨B,0,none⟩=some (.pointer (some ⟨a,0,none⟩))/\w'.cell? ⟨g,O,none⟩=some (.int .i64 x.prio)/\w'.cell? ⟨g,O+1,none⟩=some (.int .u64 x.due)/\w'.cell? ⟨g,O+2,none⟩=some (.int .u64 x.key)/\w'.cell? ⟨g,O+7,none⟩=some (.int .u64 x.r)/\w'.cell? ⟨g,O+8,none⟩=some (.int .u64 x.m)) (first|go_keep|exact get_keep X2.out X0.out.2.2.1 X0.out.2.2.2.1 HLT.out _) ((go_at_call 58;refine Calls.mono hS.out ?_;rintro e v2 ⟨rfl,a2,q2⟩;have X2:Aside (Tab v2 B a b r M n (.slice (some ⟨g,0,none⟩) T.length cap) T ws fc):=X0.out.1.setA q2 a2;have y0:v2.cell? ⟨B,0,none⟩=some (.pointer (some ⟨a,0,none⟩)):=X2.out.c0;obtain⟨z0,z1,z2,z4,z5,z6,z7,z8,zf⟩:=X2.out.tc X0.out.2.2.1 X0.out.2.2.2.1;have KB:v2.heap[K]?=some (.cells #[.int .i64 0,.int .i64 0,.int .i64 0,.int .u64 0,.int .u64 0,.int .u64 0,.int .u64 0] 80 (0,0)):=(q2.block K (lt_of_block X0.out.2.2.2.2) NE.out.1 NE.out.2.1 NE.out.2.2).trans X0.out.2.2.2.2;have kb:=fun j=>cell_of_row _ _ j _ _ _ KB;have m0:v2.cell? ⟨K,0,none⟩=some (.int .i64 0):=kb 0;have m1:v2.cell? ⟨K,1,none⟩=some (.int .i64 0):=kb 1;have m2:v2.cell? ⟨K,2,none⟩=some (.int .i64 0):=kb 2;have m3:v2.cell? ⟨K,3,none⟩=some (.int .u64 0):=kb 3;have m4:v2.cell? ⟨K,4,none⟩=some (.int .u64 0):=kb 4;have m5:v2.cell? ⟨K,5,none⟩=some (.int .u64 0):=kb 5;have m6:v2.cell? ⟨K,6,none⟩=some (.int .u64 0):=kb 6;have fzk:∀o,v2.frozen? ⟨K,o,none⟩=false:=(fun o=>by simp[World.frozen?,KB]);clear kb z4 z5 z6 zf))
 have F2:Aside (Fr (tf B a b r M (.slice (some ⟨g,0,none⟩) T.length cap)) w v2):=X0.out.2.1.trans (Fr.kept q2) (fun j hj=>.inl (tf_abr hj));obtain⟨I1,hI1⟩:∃I1,(i:Int)+1=I1:=⟨_,rfl⟩;have E:Aside ((((((((v2.setCell ⟨K,0,none⟩ (.int .i64 I1)).setCell ⟨K,1,none⟩ (.int .i64 x.prio)).setCell ⟨K,2,none⟩ (.int .i64 x.s)).setCell ⟨K,3,none⟩ (.int .u64 x.due)).setCell ⟨K,4,none⟩ (.int .u64 x.key)).setCell ⟨K,5,none⟩ (.int .u64 x.r)).setCell ⟨K,6,none⟩ (.int .u64 x.m)).heap[K]?=some (.cells #[.int .i64 I1,.int .i64 x.prio,.int .i64 x.s,.int .u64 x.due,.int .u64 x.key,.int .u64 x.r,.int .u64 x.m] 80 (0,0))):=set_head (set_head (set_head (set_head (set_head (set_head (set_head KB))))));have sK:∀(u0:World)(j:Nat)(z:Value),Fr (fun k=>k=K) u0 (u0.setCell ⟨K,j,none⟩ z):=fun u0 j z=>Fr.setCell _ u0 K j z rfl
 have FK:Aside (Fr (fun k=>k=K) v2 (((((((v2.setCell ⟨K,0,none⟩ (.int .i64 I1)).setCell ⟨K,1,none⟩ (.int .i64 x.prio)).setCell ⟨K,2,none⟩ (.int .i64 x.s)).setCell ⟨K,3,none⟩ (.int .u64 x.due)).setCell ⟨K,4,none⟩ (.int .u64 x.key)).setCell ⟨K,5,none⟩ (.int .u64 x.r)).setCell ⟨K,6,none⟩ (.int .u64 x.m))):=
  ((((((sK v2 0 _).trans (sK _ 1 _) (fun j hj=>.inl hj)).trans (sK _ 2 _) (fun j hj=>.inl hj)).trans (sK _ 3 _) (fun j hj=>.inl hj)).trans (sK _ 4 _) (fun j hj=>.inl hj)).trans (sK _ 5 _) (fun j hj=>.inl hj)).trans (sK _ 6 _) (fun j hj=>.inl hj)
 have XF:Aside _:=X2.out.fr FK.out (fun k hk e=>by have:=HLT.out k hk;omega);have FF:Aside _:=F2.out.trans FK.out (fun j hj=>.inr (by rw[HK.out];exact Nat.le_of_eq hj.symm));have eb:=fun j=>cell_of_row _ _ j _ _ _ E.out
 go_wp2_with fail
 rw[hI1];have q0:=eb 0;have q1:=eb 1;have q2:=eb 2;have q3:=eb 3;have q4:=eb 4;have q5:=eb 5;have q6:=eb 6;refine bodyPost_ret (v:=.tuple #[.agg #[.int .i64 I1,.int .i64 x.prio,.int .i64 x.s,.int .u64 x.due,.int .u64 x.key,.int .u64 x.r,.int .u64 x.m],.bool true]) (by simp[results,results28,go_sem,q0,q1,q2,q3,q4,q5,q6]) rfl ⟨rfl,?_,?_⟩
 ·exact XF.out
 ·exact FF.out
end
section
variable {w w' w0 u:World}{X X' Y:Nat->Prop}{B n i S:Nat}{T T':List TR}{x y:TR}
theorem getG(h:Tb w X B n T)(hi:T[i]?=some x) :
  Calls prog 28 #[.pointer (some ⟨B,0,none⟩),.int .i64 ((i:Int)+1)] w fun e w'=>e=.returned (.tuple #[.agg #[.int .i64 ((i:Int)+1),.int .i64 x.prio,.int .i64 x.s,.int .u64 x.due,.int .u64 x.key,.int .u64 x.r,.int .u64 x.m],.bool true])/\Tb w' X B n T/\Sx X w X w':=by
 obtain⟨hn,a,b,r,M,v,ws,fc,D,I,hX⟩:=h;obtain⟨g,cap,rfl⟩:=D.len hi;refine(get_any D I hn hi).mono ?_;rintro e w' ⟨rfl,D',F⟩;exact⟨rfl,⟨hn,a,b,r,M,_,ws,fc,D',I,hX⟩,sx_same hX F⟩
end
end Go.Proofs.YtjpbngiddjkjiaaGreatDoor.Ta
