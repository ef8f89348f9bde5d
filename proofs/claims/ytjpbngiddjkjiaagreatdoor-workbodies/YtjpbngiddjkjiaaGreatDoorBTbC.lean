import Derived.Test.YtjpbngiddjkjiaaGreatDoorA0
import Derived.Test.YtjpbngiddjkjiaaGreatDoorBTkA
open Go.Proofs.Tryz
namespace Go.Proofs.YtjpbngiddjkjiaaGreatDoor.Ta
set_option linter.unusedSimpArgs false
set_option maxHeartbeats 8000000
set_option maxRecDepth 100000
set_option linter.unusedVariables false
open Go.RowKit Go.Lib Go.WideMaps Go.Maps
section
theorem step_app{ops:Array Oper}{o:Oper}{a:Act}{K:Act->World->Prop}{Q:Exit->Act->World->Prop}{E:Prop}(w:World)(hgd:o.guard=none)(s x:Operand)(t tn:TypeId)
  (ho:o.op=.call {callee:=.builtin .append,args:=#[s,x],argTypes:=#[t,tn]}) (vs vx:Value) (hs:a.eval s=vs) (hx:a.eval x=vx)
  (v':Value) (w':World) (hr:(Builtin.append_ #[t,tn] o.type #[vs,vx]).run prog w=.ok v' w') (h:K (a.put o.dst v') w') :
  if Region.wanted o (yielded ops a.tmps)=true then Oper.wp prog o a w K Q else E:=by
 have hw:Region.wanted o (yielded ops a.tmps)=true:=by simp[Region.wanted,hgd]
 rw[if_pos hw];exact Lib.wp_append_run w s x t tn ho vs vx hs hx v' w' hr h
variable {w w' u:World}{B a b r M n J:Nat}{v v':Value}{T T':List TR}{ws ws':Nat->Int}{fc fc':Int×Int->Option Value}{f p d rr m:Int}
def mkT(prio f p d R m s:Int):TR:={prio:=prio,due:=d,key:=0,oa:=none,on:=0,oc:=0,f:=f,p:=p,d:=d,r:=R,m:=m,s:=s}
theorem jb_kept(hJ:Tk.JBox u J f p d rr m)(h:Tab u B a b r M n v T ws fc)(hk:Kept a b r u w'):Tk.JBox w' J f p d rr m:=by
 obtain⟨ca,ha'⟩:=h.ha;obtain⟨cb,hb'⟩:=h.hb;obtain⟨cr,hr'⟩:=h.hr;unfold Tk.JBox at *;exact(hk.block J (lt_of_block hJ) (un_cells hJ ha' (by decide)) (un_cells hJ hb' (by decide)) (un_cells hJ hr' (by decide))).trans hJ
theorem jb_drew(h:Tk.JBox w J f p d rr m):Tk.JBox w.drew J f p d rr m:=h
theorem jb_fr(hJ:Tk.JBox u J f p d rr m)(h:Tab u B a b r M n v T ws fc)(hf:Fr (fun k=>v.ownBlock=some k) u w'):Tk.JBox w' J f p d rr m:=by
 unfold Tk.JBox at *;refine(hf.block J (lt_of_block hJ) fun e=>?_).trans hJ;obtain⟨cg,hg⟩:=h.hg e;exact un_cells hJ hg (by decide) rfl
def SJ(B J:Nat)(v:Value)(f p d rr m:Int)(v0:World):Prop:=v0.cell? ⟨B,1,none⟩=some v/\v0.cell? ⟨J,0,none⟩=some (.int .u64 f)/\v0.cell? ⟨J,1,none⟩=some (.int .u64 p)/\v0.cell? ⟨J,2,none⟩=some (.int .u64 d)/\v0.cell? ⟨J,3,none⟩=some (.int .u64 rr)/\v0.cell? ⟨J,4,none⟩=some (.int .u64 m)
theorem sj_of(h:v=v'/\w.cell? ⟨B,1,none⟩=some v)(hJ:Tk.JBox w J f p d rr m):SJ B J v f p d rr m w:=⟨h.2,hJ.cell.1,hJ.cell.2.1,hJ.cell.2.2.1,hJ.cell.2.2.2.1,hJ.cell.2.2.2.2⟩
theorem grow_all(h:Tab u B a b r M n v T ws fc)(I:∀s p,(fc (s,p)).isSome=true->(0<=s/\s<8)/\0<=p/\p<8)(hJ:Tk.JBox u J f p d rr m)(hl:T.length<=1000)(prio s:Int)(hp:0<=prio/\prio<=7)(hs:1<=s/\s<=6)(c:Int)(hc:(fc (s,prio)).getD (.int .i64 0)=.int .i64 c) :
  SJ B J v f p d rr m u.drew/\SJ B J v f p d rr m (u.drew.alloc (.cells #[.int .i64 prio,.int .u64 d,.int .u64 0,.slice none 0 0,.int .u64 f,.int .u64 p,.int .u64 d,.int .u64 rr,.int .u64 m] 126))/\
  ∃v2,(∃a2 L2 c2,v2=.slice a2 L2 c2)/\∃w2 w3 st w4 w5,(Builtin.append_ #[128,128] 128 #[v,.slice (some ⟨u.drew.heap.size,0,none⟩) 1 1]).run prog (u.drew.alloc (.cells #[.int .i64 prio,.int .u64 d,.int .u64 0,.slice none 0 0,.int .u64 f,.int .u64 p,.int .u64 d,.int .u64 rr,.int .u64 m] 126))=.ok v2 w2/\SJ B J v f p d rr m w2/\
   w2.frozen? ⟨B,1,none⟩=false/\w2.setCell ⟨B,1,none⟩ v2=w3/\
   (w3.drew.cell? ⟨B,2,none⟩=some (.map (some M))/\(Instr.lookup 129 (.map (some M)) (.agg #[.int .i64 s,.int .i64 prio]) false).run prog w3.drew=.ok (.int .i64 c) w3.drew)/\
   (Instr.mapEntry 129 (.map (some M)) (.agg #[.int .i64 s,.int .i64 prio])).run prog w3.drew=.ok (.tuple #[.int .i64 c,.int .i64 st]) w4/\
   (w4.cell? ⟨B,2,none⟩=some (.map (some M))/\(Instr.lookup 129 (.map (some M)) (.agg #[.int .i64 s,.int .i64 prio]) false).run prog w4=.ok (.int .i64 c) w4)/\
   (Instr.entryStore 129 (.map (some M)) (.int .i64 st) (.int .i64 (c+1))).run prog w4=.ok () w5/\
   Tab w5 B a b r M n v2 (T++[mkT prio f p d rr m s]) ws (fput fc (s,prio) (.int .i64 (c+1)))/\Fr (tf B a b r M v) u w5/\∀k,v2.ownBlock=some k->v.ownBlock=some k\/u.heap.size<=k:=by
 have h0:=h.drew;have J0:Tk.JBox u.drew J f p d rr m:=hJ;have b1:=bel1 u.drew (.cells #[.int .i64 prio,.int .u64 d,.int .u64 0,.slice none 0 0,.int .u64 f,.int .u64 p,.int .u64 d,.int .u64 rr,.int .u64 m] 126);obtain⟨v2,w2,hr,o2,F2,n2⟩:=h0.own.push2 (mkT prio f p d rr m s) (by omega) (Nat.zero_le _) 128
 have hB2:w2.heap[B]?=u.drew.heap[B]?:=F2.block B (lt_of_block h0.head) fun e=>by
  obtain⟨cg,hg⟩:=h0.hg e;exact un_cells h0.head hg (by decide) rfl
 have T3:=h0.grow F2 o2;have T3d:=T3.drew;obtain⟨N,hN⟩:=T3d.map;have hk:keyP.ok (s,prio):=⟨wfI_8 (by omega),wfI_8 (by omega)⟩;obtain⟨st,w4,w5,mm,l0,e4,l4,e5,m5,g5,g4⟩:=hN.bump (few hN I) hk c hc (.int .i64 (c+1));have T5:=T3d.setM g5 m5;refine⟨sj_of (v':=v) ⟨rfl,h0.c1⟩ J0,sj_of (v':=v) ⟨rfl,(h0.below b1).c1⟩ (J0.below b1),v2,?_,w2,_,st,w4,w5,hr,sj_of (v':=v) ⟨rfl,?_⟩ (jb_fr J0 h0 F2),?_,rfl,⟨T3d.c2,l0⟩,e4,⟨?_,l4⟩,e5,T5,?_,fun k hk=>?_⟩
 ·obtain⟨a2,c2,e2,_⟩:=o2.isG;exact⟨a2,_,c2,e2⟩
 ·rw[World.cell?_of_block hB2];exact h0.c1
 ·rw[World.frozen?_of_block (w:=u.drew) hB2];exact h0.fz 1
 ·obtain⟨es,q,hM'⟩:=T3d.hM;rw[World.cell?_of_block (g4.block B (lt_of_block T3d.head) (fun e=>un_map T3d.head hM' (by injection e)))];exact T3d.c2
 ·have x1:Fr (tf B a b r M v) u u.drew:=(Fr.refl _ u).drew;have x2:Fr (tf B a b r M v) u w2:=x1.trans F2 (fun j hj=>.inl (.inr (.inr (.inr (.inr (.inr hj))))));have x3:Fr (tf B a b r M v) u (w2.setCell ⟨B,1,none⟩ v2):=x2.trans (Fr.setCell (fun k=>k=B) w2 B 1 v2 rfl) (fun j hj=>.inl (.inl hj));exact x3.drew.trans (Fr.of_grown g5) (fun j hj=>.inl (.inr (.inr (.inr (.inr (.inl (by injection hj with hj;exact hj.symm)))))))
 ·exact n2 k hk
end
section
variable {w w' u:World}{B a b r M n J:Nat}{v v':Value}{T T':List TR}{ws ws':Nat->Int}{fc fc':Int×Int->Option Value}{f p d rr m:Int}
def mkO(prio f p d R m s:Int)(oa:Option Addr)(on oc:Nat):TR:={prio:=prio,due:=d,key:=0,oa:=oa,on:=on,oc:=oc,f:=f,p:=p,d:=d,r:=R,m:=m,s:=s}
theorem grow_allO(h:Tab u B a b r M n v T ws fc)(I:∀s p,(fc (s,p)).isSome=true->(0<=s/\s<8)/\0<=p/\p<8)(hJ:Tk.JBox u J f p d rr m)(hl:T.length<=1000)(prio s:Int)(hp:0<=prio/\prio<=7)(hs:1<=s/\s<=6)(oa:Option Addr)(on oc:Nat)(c:Int)(hc:(fc (s,prio)).getD (.int .i64 0)=.int .i64 c) :
  SJ B J v f p d rr m u/\SJ B J v f p d rr m (u.alloc (.cells #[.int .i64 prio,.int .u64 d,.int .u64 0,.slice oa on oc,.int .u64 f,.int .u64 p,.int .u64 d,.int .u64 rr,.int .u64 m] 126))/\
  ∃v2,(∃a2 L2 c2,v2=.slice a2 L2 c2)/\∃w2 w3 st w4 w5,(Builtin.append_ #[128,128] 128 #[v,.slice (some ⟨u.heap.size,0,none⟩) 1 1]).run prog (u.alloc (.cells #[.int .i64 prio,.int .u64 d,.int .u64 0,.slice oa on oc,.int .u64 f,.int .u64 p,.int .u64 d,.int .u64 rr,.int .u64 m] 126))=.ok v2 w2/\SJ B J v f p d rr m w2/\
   w2.frozen? ⟨B,1,none⟩=false/\w2.setCell ⟨B,1,none⟩ v2=w3/\
   (w3.drew.cell? ⟨B,2,none⟩=some (.map (some M))/\(Instr.lookup 129 (.map (some M)) (.agg #[.int .i64 s,.int .i64 prio]) false).run prog w3.drew=.ok (.int .i64 c) w3.drew)/\
   (Instr.mapEntry 129 (.map (some M)) (.agg #[.int .i64 s,.int .i64 prio])).run prog w3.drew=.ok (.tuple #[.int .i64 c,.int .i64 st]) w4/\
   (w4.cell? ⟨B,2,none⟩=some (.map (some M))/\(Instr.lookup 129 (.map (some M)) (.agg #[.int .i64 s,.int .i64 prio]) false).run prog w4=.ok (.int .i64 c) w4)/\
   (Instr.entryStore 129 (.map (some M)) (.int .i64 st) (.int .i64 (c+1))).run prog w4=.ok () w5/\
   Tab w5 B a b r M n v2 (T++[mkO prio f p d rr m s oa on oc]) ws (fput fc (s,prio) (.int .i64 (c+1)))/\Fr (tf B a b r M v) u w5/\∀k,v2.ownBlock=some k->v.ownBlock=some k\/u.heap.size<=k:=by
 have h0:=h;have J0:Tk.JBox u J f p d rr m:=hJ;have b1:=bel1 u (.cells #[.int .i64 prio,.int .u64 d,.int .u64 0,.slice oa on oc,.int .u64 f,.int .u64 p,.int .u64 d,.int .u64 rr,.int .u64 m] 126);obtain⟨v2,w2,hr,o2,F2,n2⟩:=h0.own.push2 (mkO prio f p d rr m s oa on oc) (by omega) (Nat.zero_le _) 128
 have hB2:w2.heap[B]?=u.heap[B]?:=F2.block B (lt_of_block h0.head) fun e=>by
  obtain⟨cg,hg⟩:=h0.hg e;exact un_cells h0.head hg (by decide) rfl
 have T3:=h0.grow F2 o2;have T3d:=T3.drew;obtain⟨N,hN⟩:=T3d.map;have hk:keyP.ok (s,prio):=⟨wfI_8 (by omega),wfI_8 (by omega)⟩;obtain⟨st,w4,w5,mm,l0,e4,l4,e5,m5,g5,g4⟩:=hN.bump (few hN I) hk c hc (.int .i64 (c+1));have T5:=T3d.setM g5 m5;refine⟨sj_of (v':=v) ⟨rfl,h0.c1⟩ J0,sj_of (v':=v) ⟨rfl,(h0.below b1).c1⟩ (J0.below b1),v2,?_,w2,_,st,w4,w5,hr,sj_of (v':=v) ⟨rfl,?_⟩ (jb_fr J0 h0 F2),?_,rfl,⟨T3d.c2,l0⟩,e4,⟨?_,l4⟩,e5,T5,?_,fun k hk=>?_⟩
 ·obtain⟨a2,c2,e2,_⟩:=o2.isG;exact⟨a2,_,c2,e2⟩
 ·rw[World.cell?_of_block hB2];exact h0.c1
 ·rw[World.frozen?_of_block (w:=u) hB2];exact h0.fz 1
 ·obtain⟨es,q,hM'⟩:=T3d.hM;rw[World.cell?_of_block (g4.block B (lt_of_block T3d.head) (fun e=>un_map T3d.head hM' (by injection e)))];exact T3d.c2
 ·have x1:Fr (tf B a b r M v) u u:=Fr.refl _ u;have x2:Fr (tf B a b r M v) u w2:=x1.trans F2 (fun j hj=>.inl (.inr (.inr (.inr (.inr (.inr hj))))));have x3:Fr (tf B a b r M v) u (w2.setCell ⟨B,1,none⟩ v2):=x2.trans (Fr.setCell (fun k=>k=B) w2 B 1 v2 rfl) (fun j hj=>.inl (.inl hj));exact x3.drew.trans (Fr.of_grown g5) (fun j hj=>.inl (.inr (.inr (.inr (.inr (.inl (by injection hj with hj;exact hj.symm)))))))
 ·exact n2 k hk
theorem IsG.fr{α:Type}{R:RowT α}{X:Nat->Prop}{a:Option Addr}{cap:Nat}{d:List α}(h:IsG R w a cap d)(hf:Fr X w w')(hx:d≠[]->∀k o q,a=some ⟨k,o,q⟩->¬X k):IsG R w' a cap d:=
 ⟨h.le,h.big,fun j u hu=>by
  have hd:d≠[]:=fun e=>by subst e;simp[flat_nil] at hu
  obtain⟨b,off,e,hb,hc⟩:=h.elem j u hu;exact⟨b,off,e,Nat.lt_of_lt_of_le hb hf.size,(World.cell?_of_block (hf.block b hb (hx hd b off none e))).trans hc⟩⟩
theorem ops_out{wc wx:World}{oa:Option Addr}{on oc:Nat}{os:List OpR}{v2:Value}(T6:Tab u B a b r M n v T ws fc)(OW:OwnG rO wc u.heap.size (.slice oa on oc) os)(FX:Fr (tf B a b r M v) wc wx)(NX:∀k,v2.ownBlock=some k->v.ownBlock=some k\/wc.heap.size<=k) :
  OwnG rO wx u.heap.size (.slice oa on oc) os/\∀k,(Value.slice oa on oc).ownBlock=some k->¬tf B a b r M v2 k:=by
 refine⟨OW.of_block fun k hk=>FX.block k (OW.rowLt hk).2 fun e=>?_,fun k hk e=>?_⟩
 ·have:=T6.tfLt e;have:=(OW.rowLt hk).1;omega
 ·have h1:=OW.rowLt hk;have lo:tf B a b r M v k->False:=fun e=>by have:=T6.tfLt e;omega
  rcases e with e|e|e|e|e|e
  ·exact lo (.inl e)
  ·exact lo (.inr (.inl e))
  ·exact lo (.inr (.inr (.inl e)))
  ·exact lo (.inr (.inr (.inr (.inl e))))
  ·exact lo (.inr (.inr (.inr (.inr (.inl e)))))
  ·rcases NX k e with e|e
   ·exact lo (.inr (.inr (.inr (.inr (.inr e)))))
   ·omega
end
section
variable {w w' u:World}{B a b r M n J:Nat}{v v':Value}{T T':List TR}{ws ws':Nat->Int}{fc fc':Int×Int->Option Value}{f p d rr m:Int}
theorem make_ops(h:Tab w B a b r M n v T ws fc)(I:TInv T ws fc n)(hn:n<=1000)(prio f p d rr m s:Int)(oa0:Option Addr)(cap0:Nat)(os:List OpR)(hO:IsG rO w oa0 cap0 os)(hX0:os≠[]->∀k o q,oa0=some ⟨k,o,q⟩->¬tf B a b r M v k)(hS:ShW w)(hm:mayO prio s os=true)(hl:T.length<n)(hp0:p=0) :
  Calls prog 42 #[.pointer (some ⟨B,0,none⟩),.int .i64 prio,.slice oa0 os.length cap0,.agg #[.int .u64 f,.int .u64 p,.int .u64 d,.int .u64 rr,.int .u64 m],.int .i64 s] w fun e w'=>e=.returned (.tuple #[.int .i64 ((T.length:Int)+1),.int .i64 0])/\
   ∃v' ws' fc' oa oc,Tab w' B a b r M n v' (T++[mkO prio f p d 0 m s oa os.length oc]) ws' fc'/\TInv (T++[mkO prio f p d 0 m s oa os.length oc]) ws' fc' n/\Fr (tf B a b r M v) w w'/\(∀k,v'.ownBlock=some k->v.ownBlock=some k\/w.heap.size<=k)/\
    OwnG rO w' w.heap.size (.slice oa os.length oc) os/\∀k,(Value.slice oa os.length oc).ownBlock=some k->¬tf B a b r M v' k:=by
 have HP0:Aside (p=0):=hp0;clear hp0;have hpr:0<=prio/\prio<=7:=by simp[mayO] at hm;omega
 have hcan:canB 0 s=true:=by simp[mayO] at hm;exact hm.2.2.2
 have hsr:1<=s/\s<=6:=by obtain⟨q,rfl,q1,_,q2,_⟩:=can_range hcan;omega
 have hsw:wfI s:=wfI_8 (by omega);obtain⟨J,hJS⟩:∃J,w.heap.size=J:=⟨_,rfl⟩;obtain⟨u0,hu0⟩:∃x,w.alloc (.cells #[.int .u64 f,.int .u64 p,.int .u64 d,.int .u64 rr,.int .u64 m] 61)=x:=⟨_,rfl⟩;have J0:Tk.JBox u0 J f p d rr m:=by rw[<-hu0,<-hJS];exact Tk.JBox.new _ _ _ _ _ _
 have B0:Below w.heap.size w u0:=by rw[<-hu0];exact bel1 _ _
 have T0:=h.below B0;have h':=h;have F0:Fr (tf B a b r M v) w u0:=Fr.below B0;have hlen:os.length<=1000000:=by simp[mayO,okL] at hm;omega
 obtain⟨Lo,hLo⟩:∃z,os.length=z:=⟨_,rfl⟩;have hb:=mayBe_any prio s oa0 cap0 os u0 hsw (hO.below B0) (hS.below B0);rw[hm,hLo] at hb;rw[hLo];have HO:Aside (IsG rO w oa0 cap0 os/\(os≠[]->∀k o q,oa0=some ⟨k,o,q⟩->¬tf B a b r M v k)/\os.length<=1000000/\os.length=Lo):=⟨hO,hX0,hlen,hLo⟩;clear hO hX0 hS hlen hLo;obtain⟨L,hL⟩:∃L,T.length=L:=⟨_,rfl⟩;have hLn:((L:Int)==(n:Int))=false:=by simp;omega
 have HI:Aside (TInv T ws fc n):=I;have HU0:Aside _:=hu0;have HLL:Aside (T.length=L/\L<n):=⟨hL,by omega⟩;rw[hL];clear hu0 hm I h B0 hL hl;have X0:Aside (Tab u0 B a b r M n v T ws fc/\Tk.JBox u0 J f p d rr m/\Fr (tf B a b r M v) w u0):=⟨T0,J0,F0⟩;have HLT:Aside (∀k,tf B a b r M v k->k<J):=fun k hk=>by have:=h'.tfLt hk;omega
 clear T0 J0 F0 h';go_enter func42,ntmps42
 go_wp2_with fail
 rw[HU0.out];refine hb.mono ?_;rintro e w1 ⟨rfl,b1⟩;clear hb;have X1:Aside (Tab w1.drew B a b r M n v T ws fc/\Tk.JBox w1.drew J f p d rr m/\Fr (tf B a b r M v) w w1.drew):=⟨(X0.out.1.below b1).drew,jb_drew (X0.out.2.1.below b1),(X0.out.2.2.tb b1).drew⟩;have c0:w1.drew.cell? ⟨B,0,none⟩=some (.pointer (some ⟨a,0,none⟩)):=X1.out.1.c0
 have lenC:Aside (Calls prog 36 #[.pointer (some ⟨B,0,none⟩)] w1.drew fun e w'=>e=.returned (.int .i64 L)/\w'=w1.drew):=by
  have:=tlen_any X1.out.1;rw[HLL.out.1] at this;exact this
 clear b1;go_upto_region 3 with fail
 go_region_held3 (fun w'=>w'.cell? ⟨B,0,none⟩=some (.pointer (some ⟨a,0,none⟩))) (exact c0) ((first|(go_at_call 36;refine Calls.mono lenC.out ?_;rintro e v ⟨rfl,rfl⟩)|(go_at_call 68;refine(len_any _ a b r n ws X1.out.1.arn).mono ?_;rintro e v ⟨rfl,rfl⟩)))
 obtain⟨j0,j1,j2,j3,j4⟩:=X1.out.2.1.cell;have hag:=again_any f p d rr m w1.drew;rw[show decide (p>0)=false by simp[HP0.out]] at hag
 go_wp2_with fail
 refine hag.mono ?_;rintro e w2 ⟨rfl,b2⟩;clear hag j0 j1 j2 j3 j4 c0;have X2:Aside (Tab w2 B a b r M n v T ws fc/\Tk.JBox w2 J f p d rr m/\Fr (tf B a b r M v) w w2):=⟨X1.out.1.below b2,X1.out.2.1.below b2,X1.out.2.2.tb b2⟩;clear b2;have X3:=X2;have c0:=X3.out.1.c0
 have hA:=alloc_ok w2 a b r n ws X3.out.1.arn s hcan L HLL.out.2 (HI.out.fre L (by rw[HLL.out.1];omega) HLL.out.2) (fun j hj=>by
  have hj':j<T.length:=by rw[HLL.out.1];exact hj
  have:=HI.out.st j T[j] (List.getElem?_eq_getElem hj');have:=HI.out.ok T[j] (List.getElem_mem hj');omega)
 go_wp2_with fail
 refine hA.mono ?_;rintro e w4 ⟨rfl,a4,k4⟩;clear hA c0;have X4:Aside (Tab w4 B a b r M n v T (putW ws L (packI s (ws L/8+1))) fc/\Tk.JBox w4 J f p d rr m/\Fr (tf B a b r M v) w w4):=⟨X3.out.1.setA k4 a4,jb_kept X3.out.2.1 X3.out.1 k4,X3.out.2.2.trans (Fr.kept k4) (fun j hj=>.inl (by rcases hj with rfl|rfl|rfl;exact .inr (.inl rfl);exact .inr (.inr (.inl rfl));exact .inr (.inr (.inr (.inl rfl)))))⟩;clear k4 a4;obtain⟨j0,j1,j2,j3,j4⟩:=X4.out.2.1.cell;have hag:=again_any f p d rr m w4;rw[show decide (p>0)=false by simp[HP0.out]] at hag
 go_wp2_with fail
 refine hag.mono ?_;rintro e w5 ⟨rfl,b5⟩;clear hag j0 j1 j2 j3 j4;have X5:Aside (Tab w5 B a b r M n v T (putW ws L (packI s (ws L/8+1))) fc/\Tk.JBox w5 J f p d rr m/\Fr (tf B a b r M v) w w5):=⟨X4.out.1.below b5,X4.out.2.1.below b5,X4.out.2.2.tb b5⟩;clear b5;obtain⟨u,hu⟩:∃x,w5.setCell ⟨J,3,none⟩ (.int .u64 0)=x:=⟨_,rfl⟩
 have X6:Aside (Tab u B a b r M n v T (putW ws L (packI s (ws L/8+1))) fc/\Tk.JBox u J f p d 0 m/\Fr (tf B a b r M v) w u):=by
  rw[<-hu];have hf:=Fr.setCell (fun k=>k=J) w5 J 3 (.int .u64 0) rfl;refine⟨X5.out.1.fr hf (fun k hk e=>?_),X5.out.2.1.set3 0,X5.out.2.2.trans hf (fun j hj=>.inr (by rw[hJS];exact Nat.le_of_eq hj.symm))⟩;subst e;have:=X0.out.1;have hlt:=HLT.out k hk;omega
 obtain⟨j0,j1,j2,j3,j4⟩:=X5.out.2.1.cell;have fJ:=X5.out.2.1.fz.1 3;have HU:Aside _:=hu;clear hu;go_upto_region 12 with fail
 rw[HU.out];clear j0 j1 j2 j3 j4 fJ;have hTl:T.length<=1000:=by rw[HLL.out.1];have:=HLL.out.2;omega
 obtain⟨C,hC⟩:∃C:Nat,T.countP (hasK s prio)=C:=⟨_,rfl⟩;have hC1:C<=1000:=by have:=cntP_le (hasK s prio) T;omega
 have K0:Aside (SJ B J v f p d 0 m u.drew):=sj_of (v':=v) ⟨rfl,X6.out.1.drew.c1⟩ (jb_drew X6.out.2.1)
 have P9:Aside (Calls prog 72 #[.slice oa0 Lo cap0] u.drew fun e w'=>∃a' cap',e=.returned (.slice a' Lo cap')/\OwnG rO w' u.drew.heap.size (.slice a' Lo cap') os/\Below u.drew.heap.size u.drew w'):=by
  have:=cloneO oa0 cap0 os u.drew (HO.out.1.fr X6.out.2.2.drew HO.out.2.1) HO.out.2.2.1;rw[HO.out.2.2.2] at this;exact this
 unfold SJ at K0;have hwr:IntKind.i64.wrap ((C:Int)+1)=(C:Int)+1:=by rw[IntKind.wrap_i64];omega
 refine anyE_start (S:=(fun v0=>v0.cell? ⟨B,1,none⟩=some v/\v0.cell? ⟨J,0,none⟩=some (.int .u64 f)/\v0.cell? ⟨J,1,none⟩=some (.int .u64 p)/\v0.cell? ⟨J,2,none⟩=some (.int .u64 d)/\v0.cell? ⟨J,3,none⟩=some (.int .u64 0)/\v0.cell? ⟨J,4,none⟩=some (.int .u64 m))) (L:=16) (by kernel_rfl) ?_;refine anyE_u (i:=0) K0.out rfl (by kernel_rfl) (fun w z=>by go_simp<;>rfl) (fun _ _ _ h=>h) ?_;refine anyE_u (i:=1) K0.out rfl (by kernel_rfl) (fun w z=>by go_simp<;>rfl) (fun _ _ _ h=>h) ?_;refine anyE_u (i:=2) K0.out rfl (by kernel_rfl) (fun w z=>by go_simp<;>rfl) (fun _ _ _ h=>h) ?_;refine anyE_u (i:=3) K0.out rfl (by kernel_rfl) (fun w z=>by go_simp<;>rfl) (fun _ _ _ h=>h) ?_;refine anyE_u (i:=4) K0.out rfl (by kernel_rfl) (fun w z=>by go_simp<;>rfl) (fun _ _ _ h=>h) ?_;refine anyE_u (i:=5) K0.out rfl (by kernel_rfl) (fun w z=>by go_simp<;>rfl) (fun _ _ _ h=>h) ?_;refine anyE_u (i:=6) K0.out rfl (by kernel_rfl) (fun w z=>by go_simp<;>rfl) (fun _ _ _ h=>h) ?_;refine anyE_u (i:=7) K0.out rfl (by kernel_rfl) (fun w z=>by go_simp<;>rfl) (fun _ _ _ h=>h) ?_;refine anyE_u (i:=8) K0.out rfl (by kernel_rfl) (fun w z=>by go_simp<;>rfl) (fun _ _ _ h=>h) ?_;refine anyE_u (i:=10) K0.out rfl (by kernel_rfl) (fun w z=>by go_simp<;>rfl) (fun _ _ _ h=>h) ?_;simp only[Act.put,sA,sB,sC];refine anyE_ready (rs:=[9]) (by kernel_rfl) (by simp) ?_;refine AllE.cons (o:={dst:=some 59,op:=Op.call {callee:=Callee.value (Operand.func 72),args:=#[Operand.tmp 58],argTypes:=#[22]},type:=22,pos:= "table.go:69",after:=#[⟨8,.data⟩],guard:=none}) rfl (fun Kt hKt=>?_) ?_
 ·go_simp
  (with_reducible refine Calls.mono P9.out ?_)
  rintro x_ wc ⟨oa,oc,rfl,OW,bc⟩;have X7:Aside (Tab wc B a b r M n v T (putW ws L (packI s (ws L/8+1))) fc/\Tk.JBox wc J f p d 0 m/\Fr (tf B a b r M v) w wc):=⟨X6.out.1.drew.below bc,(jb_drew X6.out.2.1).below bc,X6.out.2.2.drew.tb bc⟩;obtain⟨s0,s1,v2,⟨a2,L2,c2,rfl⟩,w7,w8,st,w9,wx,r7,s7,f7,e8,s8,r9,s9,rx,TX,FX,NX⟩:=grow_allO X7.out.1 HI.out.dom X7.out.2.1 hTl prio s hpr hsr oa Lo oc (C:Int) (by rw[HI.out.cnt s prio,hC])
  have FIN:Aside (∃v' ws' fc' oa oc,Tab wx B a b r M n v' (T++[mkO prio f p d 0 m s oa Lo oc]) ws' fc'/\TInv (T++[mkO prio f p d 0 m s oa Lo oc]) ws' fc' n/\Fr (tf B a b r M v) w wx/\(∀k,v'.ownBlock=some k->v.ownBlock=some k\/w.heap.size<=k)/\OwnG rO wx w.heap.size (.slice oa Lo oc) os/\∀k,(Value.slice oa Lo oc).ownBlock=some k->¬tf B a b r M v' k):=by
   have OX:=ops_out X6.out.1 OW FX NX;refine⟨_,_,_,oa,oc,TX,?_,X7.out.2.2.trans FX (fun j hj=>.inl hj),fun k hk=>?_,OX.1.low X6.out.2.2.size,OX.2⟩
   ·have:=HI.out.push (mkO prio f p d 0 m s oa Lo oc) (by rw[HLL.out.1];exact HLL.out.2) hpr hsr (packI s (ws L/8+1)) (by rw[packI_state];show s%8=s;omega);rw[HLL.out.1] at this;rw[<-hC];exact this
   ·rcases NX k hk with e|e
    ·exact .inl e
    ·exact .inr (Nat.le_trans X7.out.2.2.size e)
  have K0:Aside (SJ B J v f p d 0 m wc):=s0;have K1:Aside _:=s1;have K2:Aside (SJ B J v f p d 0 m w7):=s7;have R7:Aside _:=r7;have E8:Aside _:=e8;have K8:Aside _:=s8;have K9:Aside _:=s9;clear s0 s1 s7 r7 e8 s8 s9 TX FX NX OW bc;unfold SJ at K0 K1 K2;dsimp only;refine hKt.out _ _ (fun _=>K0.out) ?_;clear hKt Kt;try simp only[Act.put,sA,sB,sC]
  refine anyE_u (i:=11) K0.out rfl (by kernel_rfl) (fun w z=>by go_simp<;>rfl) (fun _ _ _ h=>h) ?_;simp only[Act.put,sA,sB,sC];refine anyE_ready (rs:=[12]) (by kernel_rfl) (by simp) ?_;refine AllE.cons rfl (fun Kt hKt=>?_) ?_
  ·go_simp
   try go_wp2_with fail
   refine hKt.out _ _ (fun _=>K1.out) ?_;clear hKt Kt;try simp only[Act.put,sA,sB,sC]
   refine anyE_ready (rs:=[13]) (by kernel_rfl) (by simp) ?_;refine AllE.cons (o:={dst:=some 63,op:=Op.call {callee:=Callee.builtin Builtin.append,args:=#[Operand.tmp 54,Operand.tmp 62],argTypes:=#[128,128]},type:=128,pos:= "table.go:69",after:=#[⟨4,.data⟩,⟨12,.data⟩,⟨9,.chain⟩],guard:=none}) rfl (fun Kt hKt=>?_) ?_
   ·refine step_app _ (by rfl) _ _ 128 128 (by rfl) v (.slice (some ⟨wc.heap.size,0,none⟩) 1 1) (by rfl) (by rfl) (.slice a2 L2 c2) w7 R7.out ?_;refine hKt.out _ _ (fun _=>K2.out) ?_;clear hKt Kt;try simp only[Act.put,sA,sB,sC]
    refine anyF_u [15] (i:=14) K2.out rfl (by kernel_rfl) (fun w z=>by go_simp<;>rfl) (fun _ _ _ h=>h) ?_;refine anyE_u (i:=15) K2.out rfl (by kernel_rfl) (fun w z=>by go_simp<;>rfl) (fun _ _ _ h=>h) ?_;simp only[Act.put,sA,sB,sC];refine anyE_ready (rs:=[16]) (by kernel_rfl) (by simp) ?_;refine AllE.cons rfl (fun Kt hKt=>?_) ?_
    ·obtain⟨k1,_⟩:=K2.out;go_simp
     refine hKt.out _ _ (fun h=>absurd rfl h) ?_;clear hKt Kt;try simp only[Act.put,sA,sB,sC]
     refine anyE_done (by kernel_rfl) ?_ _;rw[E8.out];go_upto_region 13 with fail
     refine anyE_start (S:=(fun v0=>v0.cell? ⟨B,2,none⟩=some (.map (some M))/\(Instr.lookup 129 (.map (some M)) (.agg #[.int .i64 s,.int .i64 prio]) false).run prog v0=.ok (.int .i64 C) v0)) (L:=11) (by kernel_rfl) ?_;refine anyE_u (i:=0) K8.out rfl (by kernel_rfl) (fun w z=>by go_simp<;>rfl) (fun _ _ _ h=>h) ?_;refine anyE_u (i:=1) K8.out rfl (by kernel_rfl) (fun w z=>by go_simp<;>rfl) (fun _ _ _ h=>h) ?_;refine anyE_u (i:=2) K8.out rfl (by kernel_rfl) (fun w z=>by go_simp<;>rfl) (fun _ _ _ h=>h) ?_;refine anyE_u (i:=3) K8.out rfl (by kernel_rfl) (fun w z=>by go_simp<;>rfl) (fun _ _ _ h=>h) ?_;refine anyE_u (i:=4) K8.out rfl (by kernel_rfl) (fun w z=>by go_simp<;>rfl) (fun _ _ _ h=>h) ?_;refine anyE_u (i:=5) K8.out rfl (by kernel_rfl) (fun w z=>by go_simp<;>rfl) (fun _ _ _ h=>h) ?_;refine anyE_u (i:=6) K8.out rfl (by kernel_rfl) (fun w z=>by go_simp<;>rfl) (fun _ _ _ h=>h) ?_;refine anyE_u (i:=7) K8.out rfl (by kernel_rfl) (fun w z=>by go_simp<;>rfl) (fun _ _ _ h=>h) ?_;refine anyE_u (i:=8) K8.out rfl (by kernel_rfl) (fun w z=>by go_simp<;>rfl) (fun _ _ _ h=>h) ?_;simp only[Act.put,sA,sB,sC];refine anyE_ready (rs:=[9]) (by kernel_rfl) (by simp) ?_;refine AllE.cons rfl (fun Kt hKt=>?_) ?_
     ·go_simp
      refine hKt.out _ _ (fun _=>K9.out) ?_;clear hKt Kt;try simp only[Act.put,sA,sB,sC]
      refine anyE_u (i:=10) K9.out rfl (by kernel_rfl) (fun w z=>by go_simp<;>rfl) (fun _ _ _ h=>h) ?_;simp only[Act.put,sA,sB,sC];refine anyE_ready (rs:=[11]) (by kernel_rfl) (by simp) ?_;refine AllE.cons rfl (fun Kt hKt=>?_) ?_
      ·go_simp
       refine hKt.out _ _ (fun h=>absurd rfl h) ?_;clear hKt Kt;try simp only[Act.put,sA,sB,sC]
       refine anyE_done (by kernel_rfl) ?_ _
       go_wp2_with fail
       go_ret2;exact⟨rfl,FIN.out⟩
      exact AllE.nil
     exact AllE.nil
    exact AllE.nil
   exact AllE.nil
  exact AllE.nil
 exact AllE.nil
end
section
variable {w w' u:World}{B a b r M n J:Nat}{v v':Value}{T T':List TR}{ws ws':Nat->Int}{fc fc':Int×Int->Option Value}{f p d rr m:Int}
theorem make_again(h:Tab w B a b r M n v T ws fc)(I:TInv T ws fc n)(hn:n<=1000)(prio f p d rr m s:Int)(hm:mayB prio s=true)(hl:T.length<n)(hf:IsT f)(hp:IsT p)(hd:IsT d)(hp0:p>0)(hok:Tk.okJ f p d=true) :
  Calls prog 42 #[.pointer (some ⟨B,0,none⟩),.int .i64 prio,.slice none 0 0,.agg #[.int .u64 f,.int .u64 p,.int .u64 d,.int .u64 rr,.int .u64 m],.int .i64 s] w fun e w'=>e=.returned (.tuple #[.int .i64 ((T.length:Int)+1),.int .i64 0])/\
   ∃v' ws' fc',Tab w' B a b r M n v' (T++[mkT prio f p d rr m s]) ws' fc'/\TInv (T++[mkT prio f p d rr m s]) ws' fc' n/\Fr (tf B a b r M v) w w'/\∀k,v'.ownBlock=some k->v.ownBlock=some k\/w.heap.size<=k:=by
 have hpr:0<=prio/\prio<=7:=by simp[mayB] at hm;omega
 have hcan:canB 0 s=true:=by simp[mayB] at hm;exact hm.2.2
 have hsr:1<=s/\s<=6:=by obtain⟨q,rfl,q1,_,q2,_⟩:=can_range hcan;omega
 have hsw:wfI s:=wfI_8 (by omega);obtain⟨J,hJS⟩:∃J,w.heap.size=J:=⟨_,rfl⟩;obtain⟨u0,hu0⟩:∃x,w.alloc (.cells #[.int .u64 f,.int .u64 p,.int .u64 d,.int .u64 rr,.int .u64 m] 61)=x:=⟨_,rfl⟩;have J0:Tk.JBox u0 J f p d rr m:=by rw[<-hu0,<-hJS];exact Tk.JBox.new _ _ _ _ _ _
 have B0:Below w.heap.size w u0:=by rw[<-hu0];exact bel1 _ _
 have T0:=h.below B0;have F0:Fr (tf B a b r M v) w u0:=Fr.below B0;have hb:=mayBe_nil prio s u0 hsw;rw[hm] at hb;obtain⟨L,hL⟩:∃L,T.length=L:=⟨_,rfl⟩;have hLn:((L:Int)==(n:Int))=false:=by simp;omega
 have HI:Aside (TInv T ws fc n):=I;have HU0:Aside _:=hu0;have HLL:Aside (T.length=L/\L<n):=⟨hL,by omega⟩;rw[hL];clear hu0 hm I h B0 hL hl;have X0:Aside (Tab u0 B a b r M n v T ws fc/\Tk.JBox u0 J f p d rr m/\Fr (tf B a b r M v) w u0):=⟨T0,J0,F0⟩;clear T0 J0 F0;go_enter func42,ntmps42
 go_wp2_with fail
 rw[HU0.out];refine hb.mono ?_;rintro e w1 ⟨rfl,b1⟩;clear hb;have X1:Aside (Tab w1.drew B a b r M n v T ws fc/\Tk.JBox w1.drew J f p d rr m/\Fr (tf B a b r M v) w w1.drew):=⟨(X0.out.1.below b1).drew,jb_drew (X0.out.2.1.below b1),(X0.out.2.2.tb b1).drew⟩;have c0:w1.drew.cell? ⟨B,0,none⟩=some (.pointer (some ⟨a,0,none⟩)):=X1.out.1.c0
 have lenC:Aside (Calls prog 36 #[.pointer (some ⟨B,0,none⟩)] w1.drew fun e w'=>e=.returned (.int .i64 L)/\w'=w1.drew):=by
  have:=tlen_any X1.out.1;rw[HLL.out.1] at this;exact this
 clear b1;go_upto_region 3 with fail
 go_region_held3 (fun w'=>w'.cell? ⟨B,0,none⟩=some (.pointer (some ⟨a,0,none⟩))) (exact c0) ((first|(go_at_call 36;refine Calls.mono lenC.out ?_;rintro e v ⟨rfl,rfl⟩)|(go_at_call 68;refine(len_any _ a b r n ws X1.out.1.arn).mono ?_;rintro e v ⟨rfl,rfl⟩)))
 obtain⟨j0,j1,j2,j3,j4⟩:=X1.out.2.1.cell;have hag:=again_any f p d rr m w1.drew;rw[show decide (p>0)=true by simpa using hp0] at hag
 go_wp2_with fail
 refine hag.mono ?_;rintro e w2 ⟨rfl,b2⟩;clear hag j0 j1 j2 j3 j4 c0;have X2:Aside (Tab w2 B a b r M n v T ws fc/\Tk.JBox w2 J f p d rr m/\Fr (tf B a b r M v) w w2):=⟨X1.out.1.below b2,X1.out.2.1.below b2,X1.out.2.2.tb b2⟩;clear b2;obtain⟨j0,j1,j2,j3,j4⟩:=X2.out.2.1.cell;have hgo:=Tk.ok_any f p d rr m w2 hf hp hd;rw[hok] at hgo;obtain⟨w3q,hw3⟩:∃x,w2.alloc (.cells #[.int .u64 f,.int .u64 p,.int .u64 d,.int .u64 rr,.int .u64 m] 61)=x:=⟨_,rfl⟩;have b3:Below w2.heap.size w2 w3q:=by rw[<-hw3];exact bel1 _ _
 rw[hw3] at hgo;have X3:Aside (Tab w3q B a b r M n v T ws fc/\Tk.JBox w3q J f p d rr m/\Fr (tf B a b r M v) w w3q):=⟨X2.out.1.below b3,X2.out.2.1.below b3,X2.out.2.2.tb b3⟩;clear hw3 b3
 go_wp2_with fail
 refine hgo.mono ?_;rintro e w3 ⟨rfl,rfl⟩;clear hgo j0 j1 j2 j3 j4;have c0:=X3.out.1.c0
 have hA:=alloc_ok w3 a b r n ws X3.out.1.arn s hcan L HLL.out.2 (HI.out.fre L (by rw[HLL.out.1];omega) HLL.out.2) (fun j hj=>by
  have hj':j<T.length:=by rw[HLL.out.1];exact hj
  have:=HI.out.st j T[j] (List.getElem?_eq_getElem hj');have:=HI.out.ok T[j] (List.getElem_mem hj');omega)
 go_wp2_with fail
 refine hA.mono ?_;rintro e w4 ⟨rfl,a4,k4⟩;clear hA c0;have X4:Aside (Tab w4 B a b r M n v T (putW ws L (packI s (ws L/8+1))) fc/\Tk.JBox w4 J f p d rr m/\Fr (tf B a b r M v) w w4):=⟨X3.out.1.setA k4 a4,jb_kept X3.out.2.1 X3.out.1 k4,X3.out.2.2.trans (Fr.kept k4) (fun j hj=>.inl (by rcases hj with rfl|rfl|rfl;exact .inr (.inl rfl);exact .inr (.inr (.inl rfl));exact .inr (.inr (.inr (.inl rfl)))))⟩;clear k4 a4;obtain⟨j0,j1,j2,j3,j4⟩:=X4.out.2.1.cell;have hag:=again_any f p d rr m w4;rw[show decide (p>0)=true by simpa using hp0] at hag
 go_wp2_with fail
 refine hag.mono ?_;rintro e w5 ⟨rfl,b5⟩;clear hag j0 j1 j2 j3 j4;have X5:Aside (Tab w5 B a b r M n v T (putW ws L (packI s (ws L/8+1))) fc/\Tk.JBox w5 J f p d rr m/\Fr (tf B a b r M v) w w5):=⟨X4.out.1.below b5,X4.out.2.1.below b5,X4.out.2.2.tb b5⟩;clear b5;have X6:=X5;go_upto_region 12 with fail
 have hTl:T.length<=1000:=by rw[HLL.out.1];have:=HLL.out.2;omega
 obtain⟨C,hC⟩:∃C:Nat,T.countP (hasK s prio)=C:=⟨_,rfl⟩;have hC1:C<=1000:=by have:=cntP_le (hasK s prio) T;omega
 obtain⟨s0,s1,v2,⟨a2,L2,c2,rfl⟩,w7,w8,st,w9,wx,r7,s7,f7,e8,s8,r9,s9,rx,TX,FX,NX⟩:=grow_all X6.out.1 HI.out.dom X6.out.2.1 hTl prio s hpr hsr (C:Int) (by rw[HI.out.cnt s prio,hC]);have hwr:IntKind.i64.wrap ((C:Int)+1)=(C:Int)+1:=by rw[IntKind.wrap_i64];omega
 have FIN:Aside (∃v' ws' fc',Tab wx B a b r M n v' (T++[mkT prio f p d rr m s]) ws' fc'/\TInv (T++[mkT prio f p d rr m s]) ws' fc' n/\Fr (tf B a b r M v) w wx/\∀k,v'.ownBlock=some k->v.ownBlock=some k\/w.heap.size<=k):=by
  refine⟨_,_,_,TX,?_,X6.out.2.2.trans FX (fun j hj=>.inl hj),fun k hk=>?_⟩
  ·have:=HI.out.push (mkT prio f p d rr m s) (by rw[HLL.out.1];exact HLL.out.2) hpr hsr (packI s (ws L/8+1)) (by rw[packI_state];show s%8=s;omega);rw[HLL.out.1] at this;rw[<-hC];exact this
  ·rcases NX k hk with e|e
   ·exact .inl e
   ·exact .inr (Nat.le_trans X6.out.2.2.size e)
 have K0:Aside (SJ B J v f p d rr m w5.drew):=s0;have K1:Aside _:=s1;have K2:Aside (SJ B J v f p d rr m w7):=s7;have R7:Aside _:=r7;have E8:Aside _:=e8;have K8:Aside _:=s8;have K9:Aside _:=s9;clear s0 s1 s7 r7 e8 s8 s9 TX FX NX hC hTl;unfold SJ at K0 K1 K2;refine anyE_start (S:=(fun v0=>v0.cell? ⟨B,1,none⟩=some v/\v0.cell? ⟨J,0,none⟩=some (.int .u64 f)/\v0.cell? ⟨J,1,none⟩=some (.int .u64 p)/\v0.cell? ⟨J,2,none⟩=some (.int .u64 d)/\v0.cell? ⟨J,3,none⟩=some (.int .u64 rr)/\v0.cell? ⟨J,4,none⟩=some (.int .u64 m))) (L:=16) (by kernel_rfl) ?_;refine anyE_u (i:=0) K0.out rfl (by kernel_rfl) (fun w z=>by go_simp<;>rfl) (fun _ _ _ h=>h) ?_;refine anyE_u (i:=1) K0.out rfl (by kernel_rfl) (fun w z=>by go_simp<;>rfl) (fun _ _ _ h=>h) ?_;refine anyE_u (i:=2) K0.out rfl (by kernel_rfl) (fun w z=>by go_simp<;>rfl) (fun _ _ _ h=>h) ?_;refine anyE_u (i:=3) K0.out rfl (by kernel_rfl) (fun w z=>by go_simp<;>rfl) (fun _ _ _ h=>h) ?_;refine anyE_u (i:=4) K0.out rfl (by kernel_rfl) (fun w z=>by go_simp<;>rfl) (fun _ _ _ h=>h) ?_;refine anyE_u (i:=5) K0.out rfl (by kernel_rfl) (fun w z=>by go_simp<;>rfl) (fun _ _ _ h=>h) ?_;refine anyE_u (i:=6) K0.out rfl (by kernel_rfl) (fun w z=>by go_simp<;>rfl) (fun _ _ _ h=>h) ?_;refine anyE_u (i:=7) K0.out rfl (by kernel_rfl) (fun w z=>by go_simp<;>rfl) (fun _ _ _ h=>h) ?_;refine anyE_u (i:=8) K0.out rfl (by kernel_rfl) (fun w z=>by go_simp<;>rfl) (fun _ _ _ h=>h) ?_;refine anyE_u (i:=10) K0.out rfl (by kernel_rfl) (fun w z=>by go_simp<;>rfl) (fun _ _ _ h=>h) ?_;simp only[Act.put,sA,sB,sC];refine anyE_ready (rs:=[9]) (by kernel_rfl) (by simp) ?_;refine AllE.cons (o:={dst:=some 59,op:=Op.call {callee:=Callee.value (Operand.func 72),args:=#[Operand.tmp 58],argTypes:=#[22]},type:=22,pos:= "table.go:69",after:=#[⟨8,.data⟩],guard:=none}) rfl (fun Kt hKt=>?_) ?_
 ·go_simp
  (with_reducible refine Calls.mono (clone_nil _) ?_)
  rintro x_ wc ⟨rfl,rfl⟩;dsimp only;refine hKt.out _ _ (fun _=>K0.out) ?_;clear hKt Kt;try simp only[Act.put,sA,sB,sC]
  refine anyE_u (i:=11) K0.out rfl (by kernel_rfl) (fun w z=>by go_simp<;>rfl) (fun _ _ _ h=>h) ?_;simp only[Act.put,sA,sB,sC];refine anyE_ready (rs:=[12]) (by kernel_rfl) (by simp) ?_;refine AllE.cons rfl (fun Kt hKt=>?_) ?_
  ·go_simp
   try go_wp2_with fail
   refine hKt.out _ _ (fun _=>K1.out) ?_;clear hKt Kt;try simp only[Act.put,sA,sB,sC]
   refine anyE_ready (rs:=[13]) (by kernel_rfl) (by simp) ?_;refine AllE.cons (o:={dst:=some 63,op:=Op.call {callee:=Callee.builtin Builtin.append,args:=#[Operand.tmp 54,Operand.tmp 62],argTypes:=#[128,128]},type:=128,pos:= "table.go:69",after:=#[⟨4,.data⟩,⟨12,.data⟩,⟨9,.chain⟩],guard:=none}) rfl (fun Kt hKt=>?_) ?_
   ·refine step_app _ (by rfl) _ _ 128 128 (by rfl) v (.slice (some ⟨w5.drew.heap.size,0,none⟩) 1 1) (by rfl) (by rfl) (.slice a2 L2 c2) w7 R7.out ?_;refine hKt.out _ _ (fun _=>K2.out) ?_;clear hKt Kt;try simp only[Act.put,sA,sB,sC]
    refine anyF_u [15] (i:=14) K2.out rfl (by kernel_rfl) (fun w z=>by go_simp<;>rfl) (fun _ _ _ h=>h) ?_;refine anyE_u (i:=15) K2.out rfl (by kernel_rfl) (fun w z=>by go_simp<;>rfl) (fun _ _ _ h=>h) ?_;simp only[Act.put,sA,sB,sC];refine anyE_ready (rs:=[16]) (by kernel_rfl) (by simp) ?_;refine AllE.cons rfl (fun Kt hKt=>?_) ?_
    ·obtain⟨k1,_⟩:=K2.out;go_simp
     refine hKt.out _ _ (fun h=>absurd rfl h) ?_;clear hKt Kt;try simp only[Act.put,sA,sB,sC]
     refine anyE_done (by kernel_rfl) ?_ _;rw[E8.out];go_upto_region 13 with fail
     refine anyE_start (S:=(fun v0=>v0.cell? ⟨B,2,none⟩=some (.map (some M))/\(Instr.lookup 129 (.map (some M)) (.agg #[.int .i64 s,.int .i64 prio]) false).run prog v0=.ok (.int .i64 C) v0)) (L:=11) (by kernel_rfl) ?_;refine anyE_u (i:=0) K8.out rfl (by kernel_rfl) (fun w z=>by go_simp<;>rfl) (fun _ _ _ h=>h) ?_;refine anyE_u (i:=1) K8.out rfl (by kernel_rfl) (fun w z=>by go_simp<;>rfl) (fun _ _ _ h=>h) ?_;refine anyE_u (i:=2) K8.out rfl (by kernel_rfl) (fun w z=>by go_simp<;>rfl) (fun _ _ _ h=>h) ?_;refine anyE_u (i:=3) K8.out rfl (by kernel_rfl) (fun w z=>by go_simp<;>rfl) (fun _ _ _ h=>h) ?_;refine anyE_u (i:=4) K8.out rfl (by kernel_rfl) (fun w z=>by go_simp<;>rfl) (fun _ _ _ h=>h) ?_;refine anyE_u (i:=5) K8.out rfl (by kernel_rfl) (fun w z=>by go_simp<;>rfl) (fun _ _ _ h=>h) ?_;refine anyE_u (i:=6) K8.out rfl (by kernel_rfl) (fun w z=>by go_simp<;>rfl) (fun _ _ _ h=>h) ?_;refine anyE_u (i:=7) K8.out rfl (by kernel_rfl) (fun w z=>by go_simp<;>rfl) (fun _ _ _ h=>h) ?_;refine anyE_u (i:=8) K8.out rfl (by kernel_rfl) (fun w z=>by go_simp<;>rfl) (fun _ _ _ h=>h) ?_;simp only[Act.put,sA,sB,sC];refine anyE_ready (rs:=[9]) (by kernel_rfl) (by simp) ?_;refine AllE.cons rfl (fun Kt hKt=>?_) ?_
     ·go_simp
      refine hKt.out _ _ (fun _=>K9.out) ?_;clear hKt Kt;try simp only[Act.put,sA,sB,sC]
      refine anyE_u (i:=10) K9.out rfl (by kernel_rfl) (fun w z=>by go_simp<;>rfl) (fun _ _ _ h=>h) ?_;simp only[Act.put,sA,sB,sC];refine anyE_ready (rs:=[11]) (by kernel_rfl) (by simp) ?_;refine AllE.cons rfl (fun Kt hKt=>?_) ?_
      ·go_simp
       refine hKt.out _ _ (fun h=>absurd rfl h) ?_;clear hKt Kt;try simp only[Act.put,sA,sB,sC]
       refine anyE_done (by kernel_rfl) ?_ _
       go_wp2_with fail
       go_ret2;exact⟨rfl,FIN.out⟩
      exact AllE.nil
     exact AllE.nil
    exact AllE.nil
   exact AllE.nil
  exact AllE.nil
 exact AllE.nil
end
end Go.Proofs.YtjpbngiddjkjiaaGreatDoor.Ta
