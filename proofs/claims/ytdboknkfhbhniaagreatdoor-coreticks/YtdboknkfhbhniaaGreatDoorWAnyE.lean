import Derived.Test.YtdboknkfhbhniaaGreatDoorAnyF
import Derived.Test.YtdboknkfhbhniaaGreatDoorA0
import Derived.StillTail
import Derived.Test.YtdboknkfhbhniaaGreatDoorWEntS
import Derived.Laws.BitsAllLaws
open Nat(le_refl)
namespace Go.Proofs.YtdboknkfhbhniaaGreatDoor.Wl
set_option maxHeartbeats 8000000
set_option maxRecDepth 100000
set_option linter.unusedVariables false
section
section
variable {P:Program}{ops:Array Oper}{Q:Exit→Act→World→Prop}{md:Region.Mode}{S:World→Prop}{L:Nat}
theorem anyE_t{i:Nat}{oi:Oper}{v:Value}{f:Nat}{lst:Array Bool}{a:Act}{w:World}(hi:ops[i]?=some oi)(hh:(Region.noSelect ops&&Region.waitsFor md ops L i&&Region.free md ops lst i&&(Region.ready md ops lst).contains i)=true)
  (hQ:∀c a w,Q (.panic c) (a.put oi.dst v) w→Q (.panic c) a w) (hy:YieldsIf P ops S oi v a) (hS:S w) (h:wpAnyE P md ops Q S L f (lst.setIfInBounds i true) (a.put oi.dst v) w):wpAnyE P md ops Q S L (f+1) lst a w:=by
 simp only[Bool.and_eq_true] at hh
 exact anyE_take hi hh.1.1.1 hh.1.1.2 hh.1.2 hh.2 hQ hy hS h
end
end
section
section
variable {P:Program}{ops:Array Oper}{Q:Exit→Act→World→Prop}{md:Region.Mode}{S:World→Prop}{L:Nat}
end
end
section
open Go.RowKit Go.Lib Go.Sort
structure Fr(X:Nat→Prop)(w w':World):Prop where
 os:w'.os=w.os
 tape:w'.tape=w.tape
 output:w'.output=w.output
 size:w.heap.size≤w'.heap.size
 block:∀k,k<w.heap.size→¬X k→w'.heap[k]?=w.heap[k]?
theorem Fr.refl(X:Nat→Prop)(w:World):Fr X w w:=⟨rfl,rfl,rfl,le_refl _,fun _ _ _=>rfl⟩
theorem Fr.trans{X Y:Nat→Prop}{u v w:World}(h:Fr X u v)(k:Fr Y v w)(hY:∀j,Y j→X j∨u.heap.size≤j):Fr X u w:=
 ⟨k.os.trans h.os,k.tape.trans h.tape,k.output.trans h.output,Nat.le_trans h.size k.size,fun j hj hx=>(k.block j (Nat.lt_of_lt_of_le hj h.size) (fun hy=>by rcases hY j hy with hy|hy;exact hx hy;omega)).trans (h.block j hj hx)⟩
theorem Fr.mono{X Y:Nat→Prop}{w w':World}(h:Fr X w w')(hxy:∀j,X j→Y j):Fr Y w w':=⟨h.os,h.tape,h.output,h.size,fun j hj hy=>h.block j hj (fun hx=>hy (hxy j hx))⟩
theorem Fr.of_grown{row:Option Nat}{w w':World}(h:w.grownBy w' row):Fr (fun k=>row=some k) w w':=⟨h.os,h.tape,h.output,h.size,fun j hj hx=>h.block j hj (fun e=>hx e.symm)⟩
theorem Fr.below{X:Nat→Prop}{w w':World}(h:Below w.heap.size w w'):Fr X w w':=⟨h.os,h.tape,h.output,h.size,fun j hj _=>h.block j hj⟩
theorem Fr.toBelow{X:Nat→Prop}{w w':World}(h:Fr X w w'){b:Nat}(hb:∀k,X k→b≤k)(hw:b≤w.heap.size):Below b w w':=⟨h.os,h.tape,h.output,h.size,fun j hj=>h.block j (by omega) (fun hx=>by have:=hb j hx;omega)⟩
theorem Fr.setCell(X:Nat→Prop)(w:World)(B k:Nat)(v:Value)(hB:X B):Fr X w (w.setCell ⟨B,k,none⟩ v):=⟨rfl,rfl,rfl,by simp,fun j _ hj=>heap_setCell_other _ _ j _ (fun e=>hj (by rw[e];exact hB))⟩
theorem Hd.fr{X:Nat→Prop}{w w':World}{B:Nat}{hd:Nat→Value}(h:Hd w B hd)(f:Fr X w w')(hB:¬X B):Hd w' B hd:=h.of_block (f.block B h.lt hB)
theorem OwnF.fr{X:Nat→Prop}{w w':World}{base:Nat}{v:Value}{d:List Ent}(h:OwnF w base v d)(f:Fr X w w')(hk:∀k,rowB v=some k→¬X k):OwnF w' base v d:=h.of_block fun k e=>f.block k (h.rowLt e).2 (hk k e)
theorem Hd.ne{w:World}{B base:Nat}{hd:Nat→Value}{v:Value}{d:List Ent}(h:Hd w B hd)(o:OwnF w base v d):rowB v≠some B:=fun e=>by
 obtain⟨cs,h1⟩:=o.rowT e
 obtain⟨ds,h2⟩:=h.typ
 rw[h1] at h2
 simp only[Option.some.injEq,Obj.cells.injEq] at h2
 exact absurd h2.2.1 (by decide)
theorem step_app{ops:Array Oper}{o:Oper}{a:Act}{K:Act→World→Prop}{Q:Exit→Act→World→Prop}{E:Prop}(w:World)(hgd:o.guard=none)(s x:Operand)(t tn:TypeId)
  (ho:o.op=.call {callee:=.builtin .append,args:=#[s,x],argTypes:=#[t,tn]}) (vs vx:Value) (hs:a.eval s=vs) (hx:a.eval x=vx)
  (v':Value) (w':World) (hr:(Builtin.append_ #[t,tn] o.type #[vs,vx]).run Tryz.prog w=.ok v' w') (h:K (a.put o.dst v') w') :
  if Region.wanted o (yielded ops a.tmps)=true then Oper.wp Tryz.prog o a w K Q else E:=by
 have hw:Region.wanted o (yielded ops a.tmps)=true:=by simp[Region.wanted,hgd]
 rw[if_pos hw]
 exact Lib.wp_append_run w s x t tn ho vs vx hs hx v' w' hr h
theorem rput_any(B R s base u:Nat)(hd:Nat→Value)(v:Value)(d:List Ent)(t:Ent)(w:World)(h:Hd w B hd)(hR:R+65≤263)(hs:s<64)(hu:hd R=.int .u64 u)(hub:u<B64)(hv:hd (R+1+s)=v)(o:OwnF w base v d)(hdl:d.length≤100000)(hbase:base≤w.heap.size) :
  Calls Tryz.prog 134 #[.pointer (some ⟨B,R,none⟩),.int .i64 s,.agg #[.int .u64 t.1,.int .i64 t.2]] w fun e w'=>e=.returned (.tuple #[])∧
   ∃v',Hd w' B (hset (hset hd (R+1+s) v') R (.int .u64 ((u ||| 2^s:Nat):Int)))∧OwnF w' base v' (d++[t])∧Fr (fun k=>k=B∨rowB v=some k) w w'∧∀k,rowB v'=some k→rowB v=some k∨w.heap.size≤k:=by
 obtain⟨S,hS⟩:∃S,w.heap.size=S:=⟨_,rfl⟩
 obtain⟨u0,hu0⟩:∃u0,w.alloc (.cells #[.int .u64 t.1,.int .i64 t.2] 108)=u0:=⟨_,rfl⟩
 obtain⟨W1,hW1⟩:∃W1,(u0.alloc (.cells #[.int .u64 t.1,.int .i64 t.2] 108)).drew=W1:=⟨_,rfl⟩
 have b0:Below w.heap.size w u0:=by rw[←hu0];exact(Below.refl _ _).alloc (le_refl _) _
 have s0:u0.heap.size=S+1:=by rw[←hu0,←hS];simp
 have b1:Below u0.heap.size u0 W1:=by rw[←hW1];exact((Below.refl _ _).alloc (le_refl _) _).drew
 have b01:Below w.heap.size w W1:=b0.trans (b1.mono b0.size)
 have L1:IsL W1 (some ⟨S+1,0,none⟩) 1 [t]:=by
  rw[←hW1,←s0]
  exact(IsL.one u0 t).below ((Below.refl _ _).drew)
 obtain⟨v2,w2,hr,o2,g2,n2⟩:=appF (o.below b01) L1 (by simp;omega) (by have:=b01.size;omega) 36
 obtain⟨pa,pc,e2,_,_,_,_⟩:=o2.isL
 obtain⟨pn,hpn⟩:∃n,(d++[t]).length=n:=⟨_,rfl⟩
 rw[hpn] at e2
 subst e2
 have hBl:=h.lt
 have h1:Hd W1 B hd:=h.of_block (b01.block B hBl)
 have h2:Hd w2 B hd:=h1.of_block (g2.block B h1.lt (fun e=>Hd.ne h o e.symm))
 have h3:=h2.set (R+1+s) (.slice pa pn pc)
 obtain⟨w3,hw3⟩:∃w3,w2.setCell ⟨B,R+1+s,none⟩ (.slice pa pn pc)=w3:=⟨_,rfl⟩
 rw[hw3] at h3
 have h4:=h3.set R (.int .u64 ((u ||| 2^s:Nat):Int))
 obtain⟨va,vc,e0,_,hvc,hvm,_⟩:=o.isL
 obtain⟨vn,hvn⟩:∃n,d.length=n:=⟨_,rfl⟩
 rw[hvn] at e0
 have hv':hd (R+1+s)=.slice va vn vc:=hv.trans e0
 have K0:Aside (u0.drew.cell? ⟨B,R+1+s,none⟩=some (.slice va vn vc)∧u0.drew.cell? ⟨S,0,none⟩=some (.int .u64 t.1)∧u0.drew.cell? ⟨S,1,none⟩=some (.int .i64 t.2)):=by
  refine⟨?_,?_,?_⟩
  ·have:=(h.of_block (b0.block B hBl)).cell (k:=R+1+s) (by omega);rw[hv'] at this;exact this
  ·show u0.cell? _=_;rw[←hu0,←hS];simp[go_sem]
  ·show u0.cell? _=_;rw[←hu0,←hS];simp[go_sem]
 have K1:Aside (W1.cell? ⟨B,R+1+s,none⟩=some (.slice va vn vc)∧W1.cell? ⟨S,0,none⟩=some (.int .u64 t.1)∧W1.cell? ⟨S,1,none⟩=some (.int .i64 t.2)):=by
  refine⟨?_,?_,?_⟩
  ·have:=h1.cell (k:=R+1+s) (by omega);rw[hv'] at this;exact this
  ·exact(b1.cell (p:=⟨S,0,none⟩) (show S<u0.heap.size by omega)).trans K0.out.2.1
  ·exact(b1.cell (p:=⟨S,1,none⟩) (show S<u0.heap.size by omega)).trans K0.out.2.2
 have hne:∀k,S≤k→rowB v≠some k:=fun k hk e=>by have:=(o.rowLt e).2;omega
 have K2:Aside (w2.cell? ⟨B,R+1+s,none⟩=some (.slice va vn vc)∧w2.cell? ⟨S,0,none⟩=some (.int .u64 t.1)∧w2.cell? ⟨S,1,none⟩=some (.int .i64 t.2)):=by
  refine⟨?_,g2.cell K1.out.2.1 (fun e=>hne S (le_refl _) e.symm),g2.cell K1.out.2.2 (fun e=>hne S (le_refl _) e.symm)⟩
  have:=h2.cell (k:=R+1+s) (by omega);rw[hv'] at this;exact this
 have K3:Aside (w3.drew.cell? ⟨B,R,none⟩=some (.int .u64 u)):=by
  have:=h3.cell (k:=R) (by omega)
  rw[hset_ne _ _ (by omega),hu] at this
  exact this
 have f4:Fr (fun k=>k=B∨rowB v=some k) w (w3.setCell ⟨B,R,none⟩ (.int .u64 ((u ||| 2^s:Nat):Int))):=by
  have x1:Fr (fun k=>k=B∨rowB v=some k) w w2:=((Fr.below b01).trans (Fr.of_grown g2) (fun j hj=>.inl (.inr hj)))
  have x2:Fr (fun k=>k=B∨rowB v=some k) w2 w3:=by rw[←hw3];exact Fr.setCell _ _ _ _ _ (.inl rfl)
  exact(x1.trans x2 (fun j hj=>.inl hj)).trans (Fr.setCell _ _ _ _ _ (.inl rfl)) (fun j hj=>.inl hj)
 have o4:OwnF (w3.setCell ⟨B,R,none⟩ (.int .u64 ((u ||| 2^s:Nat):Int))) base (.slice pa pn pc) (d++[t]):=by
  have hk:∀k,rowB (.slice pa pn pc)=some k→k≠B:=fun k hk e=>by
   rcases n2 k hk with hk|hk
   ·exact Hd.ne h o (by rw[hk,e])
   ·have:=h1.lt;omega
  refine o2.of_block fun k e=>?_
  rw[heap_setCell_other _ _ _ _ (hk k e),←hw3,heap_setCell_other _ _ _ _ (hk k e)]
 have FIN:Aside (∃v',Hd (w3.setCell ⟨B,R,none⟩ (.int .u64 ((u ||| 2^s:Nat):Int))).drew B (hset (hset hd (R+1+s) v') R (.int .u64 ((u ||| 2^s:Nat):Int)))∧OwnF (w3.setCell ⟨B,R,none⟩ (.int .u64 ((u ||| 2^s:Nat):Int))).drew base v' (d++[t])∧Fr (fun k=>k=B∨rowB v=some k) w (w3.setCell ⟨B,R,none⟩ (.int .u64 ((u ||| 2^s:Nat):Int))).drew∧∀k,rowB v'=some k→rowB v=some k∨w.heap.size≤k):=
  ⟨.slice pa pn pc,h4.of_block rfl,o4.of_block (fun _ _=>rfl),f4.trans (Fr.below (X:=fun _=>False) ((Below.refl _ _).drew)) (fun j hj=>hj.elim),fun k hk=>by
   rcases n2 k hk with x|x
   ·exact .inl x
   ·have:=b01.size;exact .inr (by omega)⟩
 have HU0:Hid _:=hu0
 have HW1:Hid _:=hW1
 have HW3:Hid _:=hw3
 have c1:w2.frozen? ⟨B,R+1+s,none⟩=false:=h2.frozen _
 have c2:w3.frozen? ⟨B,R,none⟩=false:=h3.frozen _
 have z0:w3.cell? ⟨B,R,none⟩=some (.int .u64 u):=K3.out
 have z2:w2.cell? ⟨B,R+1+s,none⟩=some (.slice va vn vc):=K2.out.1
 have bB:B<w2.heap.size:=h2.lt
 have hs1:(s:Int)<64:=by omega
 have x1:IntKind.u64.wrap (2^s)=((2^s:Nat):Int):=by
  have:2^s<2^64:=Nat.pow_lt_pow_right (by omega) hs
  have e:(2^s:Int)=((2^s:Nat):Int):=by push_cast;rfl
  rw[e,IntKind.wrap_u64]
  generalize 2^s=P at this
  omega
 have x2:bits BinOp.or IntKind.u64 (u:Int) ((2^s:Nat):Int)=((u ||| 2^s:Nat):Int):=bits_or_u64_nat u (2^s) hub (Nat.pow_lt_pow_right (by omega) hs)
 have X1:Hid _:=x1
 have X2:Hid _:=x2
 have mx:=mixed
 rw[e0] at hr
 simp only[List.length_singleton] at hr
 clear h o b0 b1 b01 L1 o2 g2 n2 h1 h2 h3 h4 f4 o4 hne hu0 hW1 hw3 hu hv hv' e0 hub x1 x2
 go_enter Tryz.func134,Tryz.ntmps134
 go_upto_region 1 with fail
 rw[HU0.out]
 refine anyE_start (S:=(fun v0=>v0.cell? ⟨B,R+1+s,none⟩=some (.slice va vn vc)∧v0.cell? ⟨S,0,none⟩=some (.int .u64 t.1)∧v0.cell? ⟨S,1,none⟩=some (.int .i64 t.2))) (L:=14) (by kernel_rfl) ?_
 refine anyE_t (i:=0) (oi:=⟨some 6,Op.move (.tmp 0),300,"wheel.go:75",#[],none⟩) (v:=?_) rfl (by kernel_rfl) (fun _ _ _ h=>h) (Or.inl ⟨by rfl,?_⟩) (K0.out) ?_
 rotate_left
 ·intro w z;(try dsimp only at z);go_simp;try with_reducible rfl
 simp only[Act.put,sA,sB,sC]
 refine anyE_t (i:=1) (oi:=⟨some 7,Op.move (.tmp 1),3,"wheel.go:75",#[],none⟩) (v:=?_) rfl (by kernel_rfl) (fun _ _ _ h=>h) (Or.inl ⟨by rfl,?_⟩) (K0.out) ?_
 rotate_left
 ·intro w z;(try dsimp only at z);go_simp;try with_reducible rfl
 simp only[Act.put,sA,sB,sC]
 refine anyE_t (i:=2) (oi:=⟨some 8,Op.move (.tmp 0),300,"wheel.go:75",#[],none⟩) (v:=?_) rfl (by kernel_rfl) (fun _ _ _ h=>h) (Or.inl ⟨by rfl,?_⟩) (K0.out) ?_
 rotate_left
 ·intro w z;(try dsimp only at z);go_simp;try with_reducible rfl
 simp only[Act.put,sA,sB,sC]
 refine anyE_t (i:=3) (oi:=⟨some 9,Op.move (.tmp 1),3,"wheel.go:75",#[],none⟩) (v:=?_) rfl (by kernel_rfl) (fun _ _ _ h=>h) (Or.inl ⟨by rfl,?_⟩) (K0.out) ?_
 rotate_left
 ·intro w z;(try dsimp only at z);go_simp;try with_reducible rfl
 simp only[Act.put,sA,sB,sC]
 refine anyE_t (i:=4) (oi:=⟨some 10,Op.nilCheck (.tmp 8),0,"wheel.go:75",#[⟨2,.data⟩],none⟩) (v:=?_) rfl (by kernel_rfl) (fun _ _ _ h=>h) (Or.inl ⟨by rfl,?_⟩) (K0.out) ?_
 rotate_left
 ·intro w z;(try dsimp only at z);go_simp;try with_reducible rfl
 simp only[Act.put,sA,sB,sC]
 refine anyE_t (i:=5) (oi:=⟨some 11,Op.fieldAddr 172 (.tmp 10) 1,0,"wheel.go:75",#[⟨4,.data⟩],none⟩) (v:=?_) rfl (by kernel_rfl) (fun _ _ _ h=>h) (Or.inl ⟨by rfl,?_⟩) (K0.out) ?_
 rotate_left
 ·intro w z;(try dsimp only at z);go_simp;try with_reducible rfl
 simp only[Act.put,sA,sB,sC]
 refine anyE_t (i:=6) (oi:=⟨some 12,Op.indexAddr 170 (.tmp 11) (.tmp 9),0,"wheel.go:75",#[⟨5,.data⟩,⟨3,.data⟩],none⟩) (v:=?_) rfl (by kernel_rfl) (fun _ _ _ h=>h) (Or.inl ⟨by rfl,?_⟩) (K0.out) ?_
 rotate_left
 ·intro w z;(try dsimp only at z);go_simp;try with_reducible rfl
 simp only[Act.put,sA,sB,sC]
 refine anyE_t (i:=7) (oi:=⟨some 13,Op.load 36 (.tmp 12),36,"wheel.go:75",#[⟨6,.data⟩],none⟩) (v:=?_) rfl (by kernel_rfl) (fun _ _ _ h=>h) (Or.inl ⟨by rfl,?_⟩) (K0.out) ?_
 rotate_left
 ·intro w z;(try dsimp only at z);go_simp;try with_reducible rfl
 simp only[Act.put,sA,sB,sC]
 refine anyE_t (i:=8) (oi:=⟨some 14,Op.load 108 (.tmp 5),108,"wheel.go:75",#[],none⟩) (v:=?_) rfl (by kernel_rfl) (fun _ _ _ h=>h) (Or.inl ⟨by rfl,?_⟩) (K0.out) ?_
 rotate_left
 ·intro w z;(try dsimp only at z);go_simp;try with_reducible rfl
 simp only[Act.put,sA,sB,sC]
 refine anyF_take [12,13] (i:=11) (oi:=⟨some 17,Op.nilCheck (.tmp 6),0,"wheel.go:75",#[⟨0,.data⟩],none⟩) (v:=?_) rfl (by kernel_rfl) (by kernel_rfl) (by kernel_rfl) (by kernel_rfl) (by kernel_rfl) (fun _ _ _ h=>h) (Or.inl ⟨by rfl,?_⟩) (K0.out) ?_
 rotate_left
 ·intro w z;(try dsimp only at z);go_simp;try with_reducible rfl
 simp only[Act.put,sA,sB,sC]
 refine anyF_take [13] (i:=12) (oi:=⟨some 18,Op.fieldAddr 172 (.tmp 17) 1,0,"wheel.go:75",#[⟨11,.data⟩],none⟩) (v:=?_) rfl (by kernel_rfl) (by kernel_rfl) (by kernel_rfl) (by kernel_rfl) (by kernel_rfl) (fun _ _ _ h=>h) (Or.inl ⟨by rfl,?_⟩) (K0.out) ?_
 rotate_left
 ·intro w z;(try dsimp only at z);go_simp;try with_reducible rfl
 simp only[Act.put,sA,sB,sC]
 refine anyE_ready (rs:=[9]) (by kernel_rfl) (by simp) ?_
 refine AllE.cons (o:=⟨some 15,Op.buildSlice 36 1 #[(0,Operand.tmp 14)],36,"wheel.go:75",#[⟨8,.data⟩],none⟩) rfl (fun Kt hKt=>?_) ?_
 ·go_simp
  rw[HW1.out]
  refine hKt.out _ _ (fun _=>K1.out) ?_
  clear hKt Kt
  try simp only[Act.put,sA,sB,sC]
  refine anyE_ready (rs:=[10]) (by kernel_rfl) (by simp) ?_
  refine AllE.cons (o:={dst:=some 16,op:=Op.call {callee:=Callee.builtin Builtin.append,args:=#[Operand.tmp 13,Operand.tmp 15],argTypes:=#[36,36]},type:=36,pos:= "wheel.go:75",after:=#[⟨7,.data⟩,⟨9,.data⟩],guard:=none}) rfl (fun Kt hKt=>?_) ?_
  ·refine step_app W1 (by rfl) _ _ 36 36 (by rfl) (.slice va vn vc) (.slice (some ⟨S+1,0,none⟩) 1 1) (by rfl) (by rfl) (.slice pa pn pc) w2 hr ?_
   refine hKt.out _ _ (fun _=>K2.out) ?_
   clear hKt Kt
   try simp only[Act.put,sA,sB,sC]
   refine anyE_t (i:=13) (oi:=⟨some 19,Op.indexAddr 170 (.tmp 18) (.tmp 7),0,"wheel.go:75",#[⟨12,.data⟩,⟨1,.data⟩,⟨0,.phase⟩,⟨1,.phase⟩,⟨2,.phase⟩,⟨3,.phase⟩,⟨4,.phase⟩,⟨5,.phase⟩,⟨6,.phase⟩,⟨7,.phase⟩,⟨8,.phase⟩,⟨9,.phase⟩,⟨10,.phase⟩],none⟩) (v:=?_) rfl (by kernel_rfl) (fun _ _ _ h=>h) (Or.inl ⟨by rfl,?_⟩) (K2.out) ?_
   rotate_left
   ·intro w z;(try dsimp only at z);go_simp;try with_reducible rfl
   simp only[Act.put,sA,sB,sC]
   refine anyE_ready (rs:=[14]) (by kernel_rfl) (by simp) ?_
   refine AllE.cons (o:=⟨none,Op.store 36 (.tmp 19) (.tmp 16),0,"wheel.go:75",#[⟨13,.data⟩,⟨10,.data⟩,⟨10,.chain⟩,⟨0,.phase⟩,⟨1,.phase⟩,⟨2,.phase⟩,⟨3,.phase⟩,⟨4,.phase⟩,⟨5,.phase⟩,⟨6,.phase⟩,⟨7,.phase⟩,⟨8,.phase⟩,⟨9,.phase⟩,⟨10,.phase⟩],none⟩) rfl (fun Kt hKt=>?_) ?_
   ·go_simp
    rw[HW3.out]
    refine hKt.out _ _ (fun h=>absurd rfl h) ?_
    clear hKt Kt
    try simp only[Act.put,sA,sB,sC]
    refine anyE_done (by kernel_rfl) ?_ _
    go_wp2_with fail
    refine anyE_start (S:=(fun v0=>v0.cell? ⟨B,R,none⟩=some (.int .u64 u))) (L:=9) (by kernel_rfl) ?_
    refine anyE_t (i:=0) (oi:=⟨some 20,Op.move (.tmp 0),300,"wheel.go:76",#[],none⟩) (v:=?_) rfl (by kernel_rfl) (fun _ _ _ h=>h) (Or.inl ⟨by rfl,?_⟩) (K3.out) ?_
    rotate_left
    ·intro w z;(try dsimp only at z);go_simp;try with_reducible rfl
    simp only[Act.put,sA,sB,sC]
    refine anyE_t (i:=1) (oi:=⟨some 21,Op.nilCheck (.tmp 20),0,"wheel.go:76",#[⟨0,.data⟩],none⟩) (v:=?_) rfl (by kernel_rfl) (fun _ _ _ h=>h) (Or.inl ⟨by rfl,?_⟩) (K3.out) ?_
    rotate_left
    ·intro w z;(try dsimp only at z);go_simp;try with_reducible rfl
    simp only[Act.put,sA,sB,sC]
    refine anyE_t (i:=2) (oi:=⟨some 22,Op.fieldAddr 172 (.tmp 21) 0,0,"wheel.go:76",#[⟨1,.data⟩],none⟩) (v:=?_) rfl (by kernel_rfl) (fun _ _ _ h=>h) (Or.inl ⟨by rfl,?_⟩) (K3.out) ?_
    rotate_left
    ·intro w z;(try dsimp only at z);go_simp;try with_reducible rfl
    simp only[Act.put,sA,sB,sC]
    refine anyE_t (i:=3) (oi:=⟨some 23,Op.load 31 (.tmp 22),31,"wheel.go:76",#[⟨2,.data⟩],none⟩) (v:=?_) rfl (by kernel_rfl) (fun _ _ _ h=>h) (Or.inl ⟨by rfl,?_⟩) (K3.out) ?_
    rotate_left
    ·intro w z;(try dsimp only at z);go_simp;try with_reducible rfl
    simp only[Act.put,sA,sB,sC]
    refine anyE_t (i:=4) (oi:=⟨some 24,Op.move (.tmp 1),3,"wheel.go:76",#[],none⟩) (v:=?_) rfl (by kernel_rfl) (fun _ _ _ h=>h) (Or.inl ⟨by rfl,?_⟩) (K3.out) ?_
    rotate_left
    ·intro w z;(try dsimp only at z);go_simp;try with_reducible rfl
    simp only[Act.put,sA,sB,sC]
    refine anyE_t (i:=5) (oi:=⟨some 25,Op.binOp BinOp.shl 31 (Operand.const (Value.int IntKind.u64 1)) (.tmp 24) 3,31,"wheel.go:76",#[⟨4,.data⟩],none⟩) (v:=?_) rfl (by kernel_rfl) (fun _ _ _ h=>h) (Or.inl ⟨by rfl,?_⟩) (K3.out) ?_
    rotate_left
    ·intro w z;(try dsimp only at z);go_simp;try with_reducible rfl
    simp only[Act.put,sA,sB,sC]
    refine anyE_t (i:=6) (oi:=⟨some 26,Op.binOp BinOp.or 31 (.tmp 23) (.tmp 25) 31,31,"wheel.go:76",#[⟨3,.data⟩,⟨5,.data⟩],none⟩) (v:=?_) rfl (by kernel_rfl) (fun _ _ _ h=>h) (Or.inl ⟨by rfl,?_⟩) (K3.out) ?_
    rotate_left
    ·intro w z;(try dsimp only at z);go_simp;try with_reducible rfl
    simp only[Act.put,sA,sB,sC]
    refine anyF_take [8] (i:=7) (oi:=⟨some 27,Op.nilCheck (.tmp 20),0,"wheel.go:76",#[⟨0,.data⟩,⟨0,.phase⟩,⟨1,.phase⟩,⟨2,.phase⟩,⟨3,.phase⟩,⟨4,.phase⟩,⟨5,.phase⟩,⟨6,.phase⟩],none⟩) (v:=?_) rfl (by kernel_rfl) (by kernel_rfl) (by kernel_rfl) (by kernel_rfl) (by kernel_rfl) (fun _ _ _ h=>h) (Or.inl ⟨by rfl,?_⟩) (K3.out) ?_
    rotate_left
    ·intro w z;(try dsimp only at z);go_simp;try with_reducible rfl
    simp only[Act.put,sA,sB,sC]
    refine anyE_t (i:=8) (oi:=⟨some 28,Op.fieldAddr 172 (.tmp 27) 0,0,"wheel.go:76",#[⟨7,.data⟩,⟨0,.phase⟩,⟨1,.phase⟩,⟨2,.phase⟩,⟨3,.phase⟩,⟨4,.phase⟩,⟨5,.phase⟩,⟨6,.phase⟩],none⟩) (v:=?_) rfl (by kernel_rfl) (fun _ _ _ h=>h) (Or.inl ⟨by rfl,?_⟩) (K3.out) ?_
    rotate_left
    ·intro w z;(try dsimp only at z);go_simp;try with_reducible rfl
    simp only[Act.put,sA,sB,sC]
    refine anyE_ready (rs:=[9]) (by kernel_rfl) (by simp) ?_
    refine AllE.cons (o:=⟨none,Op.store 31 (.tmp 28) (.tmp 26),0,"wheel.go:76",#[⟨8,.data⟩,⟨6,.data⟩,⟨0,.phase⟩,⟨1,.phase⟩,⟨2,.phase⟩,⟨3,.phase⟩,⟨4,.phase⟩,⟨5,.phase⟩,⟨6,.phase⟩],none⟩) rfl (fun Kt hKt=>?_) ?_
    ·go_simp
     refine hKt.out _ _ (fun h=>absurd rfl h) ?_
     clear hKt Kt
     try simp only[Act.put,sA,sB,sC]
     refine anyE_done (by kernel_rfl) ?_ _
     rw[X1.out,X2.out]
     go_wp2
     go_end0
     exact⟨rfl,FIN.out⟩
    exact AllE.nil
   exact AllE.nil
  exact AllE.nil
 exact AllE.nil
end
section
open Go.Lib
def clr(u m:Nat):Nat:=u &&& (18446744073709551615-m)
theorem clr_lt(u m:Nat)(hu:u<B64):clr u m<B64:=Nat.lt_of_le_of_lt Nat.and_le_left hu
theorem clr_bit(u m i:Nat)(hm:m<B64)(hi:i<64):(clr u m).testBit i=(u.testBit i&&!m.testBit i):=by
 unfold clr
 rw[Nat.testBit_and,show 18446744073709551615-m=2^64-(m+1) by omega,Nat.testBit_two_pow_sub_succ hm]
 simp[hi]
theorem or_lt'(u s:Nat)(hu:u<B64)(hs:s<64):u ||| 2^s<B64:=Nat.or_lt_two_pow (n:=64) hu (Nat.pow_lt_pow_right (by omega) hs)
theorem or_bit(u s i:Nat):(u ||| 2^s).testBit i=(u.testBit i||decide (s=i)):=by
 rw[Nat.testBit_or,Nat.testBit_two_pow]
theorem ctz_spec(x:Nat)(hx:x<B64)(h0:x≠0):ctz 64 x<64∧x.testBit (ctz 64 x)=true∧(∀i,i<ctz 64 x→x.testBit i=false)∧∀i,(x &&& (x-1)).testBit i=(x.testBit i&&decide (i≠ctz 64 x)):=by
 obtain⟨m,h1,h2⟩:=ctzFrom_spec 64 x (by omega) hx
 have e:ctz 64 x=ctzFrom 64 x:=by unfold ctz;rw[if_neg h0]
 rw[e]
 obtain⟨q,hq⟩:∃q,ctzFrom 64 x=q:=⟨_,rfl⟩
 rw[hq] at h1 h2⊢
 have b1:∀i,i<q→x.testBit i=false:=fun i hi=>by
  rw[h1,Nat.testBit_two_pow_mul];simp;omega
 have b2:x.testBit q=true:=by
  rw[h1,Nat.testBit_two_pow_mul];simp
 refine⟨h2,b2,b1,fun i=>?_⟩
 have hx1:x-1=2^q*(2*m)+(2^q-1):=by
  have:0<2^q:=Nat.two_pow_pos _
  rw[h1,Nat.mul_add];omega
 rw[Nat.testBit_and,hx1,Nat.testBit_two_pow_mul_add _ (by have:0<2^q:=Nat.two_pow_pos _;omega)]
 by_cases c:i<q
 ·rw[b1 i c];simp
 ·rw[if_neg c]
  by_cases c2:i=q
  ·subst c2;simp[Nat.testBit_zero]
  ·have e1:x.testBit i=(2*m+1).testBit (i-q):=by
    rw[h1,Nat.testBit_two_pow_mul];simp;omega
   obtain⟨k,hk⟩:∃k,i-q=k+1:=⟨i-q-1,by omega⟩
   rw[e1,hk,Nat.testBit_succ,Nat.testBit_succ,show 2*m/2=m by omega,show(2*m+1)/2=m by omega]
   simp[c2]
def takeL(c:Nat→List Ent)(m p:Nat):List Ent:=(List.range p).flatMap fun j=>if m.testBit j then c j else []
theorem takeL_zero(c:Nat→List Ent)(m:Nat):takeL c m 0=[]:=rfl
theorem takeL_succ(c:Nat→List Ent)(m p:Nat):takeL c m (p+1)=takeL c m p++if m.testBit p then c p else []:=by
 unfold takeL
 rw[List.range_succ,List.flatMap_append]
 simp
theorem takeL_skip(c:Nat→List Ent)(m:Nat){p q:Nat}(h:p≤q)(hz:∀i,p≤i→i<q→m.testBit i=false):takeL c m q=takeL c m p:=by
 induction q with
 | zero=>rw[show p=0 by omega]
 | succ q ih=>
  by_cases c2:p=q+1
  ·subst c2;rfl
  ·rw[takeL_succ,hz q (by omega) (by omega),ih (by omega) (fun i h1 h2=>hz i h1 (by omega))]
   simp
theorem takeL_mem(c:Nat→List Ent)(m p:Nat)(x:Ent):x∈takeL c m p↔∃j,j<p∧m.testBit j=true∧x∈c j:=by
 unfold takeL
 rw[List.mem_flatMap]
 constructor
 ·rintro⟨j,hj,hx⟩
  by_cases c2:m.testBit j=true
  ·rw[if_pos c2] at hx;exact⟨j,List.mem_range.1 hj,c2,hx⟩
  ·rw[if_neg c2] at hx;cases hx
 ·rintro⟨j,hj,h,hx⟩
  exact⟨j,List.mem_range.2 hj,by rw[if_pos h];exact hx⟩
end
section
open Go.RowKit Go.Lib Go.Sort
theorem Hd.congr{w:World}{B:Nat}{hd he:Nat→Value}(h:Hd w B hd)(e:∀k,k<263→hd k=he k):Hd w B he:=by
 obtain⟨cs,h1,h2,h3⟩:=h
 exact⟨cs,h1,h2,fun k hk=>by rw[h3 k hk,e k hk]⟩
def nilV:Value:=.slice none 0 0
end
section
open Go.RowKit Go.Lib Go.Sort
def hdT(hd:Nat→Value)(R m p:Nat):Nat→Value:=fun k=>if R+1≤k∧k<R+1+p∧m.testBit (k-(R+1))=true then nilV else hd k
theorem hdT_zero(hd:Nat→Value)(R m k:Nat):hdT hd R m 0 k=hd k:=by unfold hdT;rw[if_neg (by omega)]
theorem hdT_at(hd:Nat→Value)(R m:Nat){p s:Nat}(h:p≤s):hdT hd R m p (R+1+s)=hd (R+1+s):=by unfold hdT;rw[if_neg (by omega)]
theorem hdT_R(hd:Nat→Value)(R m p:Nat):hdT hd R m p R=hd R:=by unfold hdT;rw[if_neg (by omega)]
theorem hdT_in(hd:Nat→Value)(R m:Nat){p s:Nat}(h:s<p):hdT hd R m p (R+1+s)=if m.testBit s then nilV else hd (R+1+s):=by
 unfold hdT
 rw[show R+1+s-(R+1)=s by omega]
 by_cases c:m.testBit s=true
 ·rw[if_pos ⟨by omega,by omega,c⟩,if_pos c]
 ·rw[if_neg (fun x=>c x.2.2),if_neg c]
theorem hdT_out(hd:Nat→Value)(R m p k:Nat)(h:k<R+1∨R+1+p≤k):hdT hd R m p k=hd k:=by unfold hdT;rw[if_neg (by omega)]
theorem hdT_skip(hd:Nat→Value)(R m:Nat){p q:Nat}(h:p≤q)(hz:∀i,p≤i→i<q→m.testBit i=false)(k:Nat):hdT hd R m q k=hdT hd R m p k:=by
 unfold hdT
 by_cases c:R+1≤k∧k<R+1+p∧m.testBit (k-(R+1))=true
 ·rw[if_pos c,if_pos ⟨c.1,by omega,c.2.2⟩]
 ·rw[if_neg c]
  by_cases c2:R+1≤k∧k<R+1+q∧m.testBit (k-(R+1))=true
  ·exfalso
   have c3:¬k<R+1+p:=fun hk=>c ⟨c2.1,hk,c2.2.2⟩
   have:=hz (k-(R+1)) (by omega) (by omega)
   rw[this] at c2
   simp at c2
  ·rw[if_neg c2]
theorem hdT_step(hd:Nat→Value)(R m q:Nat)(hq:m.testBit q=true)(k:Nat):hset (hdT hd R m q) (R+1+q) nilV k=hdT hd R m (q+1) k:=by
 by_cases c:k=R+1+q
 ·subst c;rw[hset_same,hdT_in _ _ _ (Nat.lt_succ_self q),if_pos hq]
 ·rw[hset_ne _ _ c]
  unfold hdT
  by_cases c2:R+1≤k∧k<R+1+q∧m.testBit (k-(R+1))=true
  ·rw[if_pos c2,if_pos ⟨c2.1,by omega,c2.2.2⟩]
  ·rw[if_neg c2,if_neg (fun x=>c2 ⟨x.1,by omega,x.2.2⟩)]
def TakeIs(w:World)(B R base u mk:Nat)(hd:Nat→Value)(c:Nat→List Ent)(r:Ending)(w':World):Prop:=
 ∃v,r=.returned v∧Hd w' B (hset (hdT hd R (u &&& mk) 64) R (.int .u64 ((clr u mk:Nat):Int)))∧OwnF w' w.heap.size v (takeL c (u &&& mk) 64)∧Fr (fun k=>k=B) w w'∧∀k,rowB v=some k→w.heap.size≤k
theorem rtake_any(B R base u mk:Nat)(hd:Nat→Value)(c:Nat→List Ent)(w:World)(h:Hd w B hd)(hR:R+65≤263)(hu:hd R=.int .u64 u)(hub:u<B64)(hmb:mk<B64)(o:∀s,s<64→OwnF w base (hd (R+1+s)) (c s))(hlen:∀p,p≤64→(takeL c (u &&& mk) p).length≤100000)(hT:TabW w)(hT0:1<w.heap.size)(hB0:1<B) :
  Calls Tryz.prog 131 #[.pointer (some ⟨B,R,none⟩),.int .u64 mk] w (TakeIs w B R base u mk hd c):=by
 have hB64:B64=18446744073709551616:=rfl
 obtain⟨m,hm⟩:∃m,u &&& mk=m:=⟨_,rfl⟩
 have hmlt:m<B64:=by rw[←hm];exact Nat.lt_of_le_of_lt Nat.and_le_left hub
 have a1:bits BinOp.and IntKind.u64 (u:Int) (mk:Int)=(m:Int):=by rw[←hm];exact bits_and_u64_nat u mk hub hmb
 have a2:bits BinOp.andNot IntKind.u64 (u:Int) (mk:Int)=((clr u mk:Nat):Int):=u64_andNot_nat u mk hub hmb
 obtain⟨U,hU⟩:∃U,clr u mk=U:=⟨_,rfl⟩
 rw[hU] at a2
 have HT:Aside (TakeIs w B R base u mk hd c=fun r w'=>∃v,r=.returned v∧Hd w' B (hset (hdT hd R m 64) R (.int .u64 (U:Int)))∧OwnF w' w.heap.size v (takeL c m 64)∧Fr (fun k=>k=B) w w'∧∀k,rowB v=some k→w.heap.size≤k):=by
  show _=_
  funext r w'
  unfold TakeIs
  rw[hm,hU]
 rw[HT.out]
 rw[hm] at hlen
 have c0:=h.cell (k:=R) (by omega)
 rw[hu] at c0
 have H:Aside (Hd w B hd):=h
 have O:Aside (∀s,s<64→OwnF w base (hd (R+1+s)) (c s)):=o
 have LEN:Aside (∀p,p≤64→(takeL c m p).length≤100000):=hlen
 have TB:Aside (∀W,Fr (fun k=>k=B) w W→TabW W):=fun W hW j hj=>by
  have:=hT j hj
  rw[←this]
  exact World.cell?_of_block (hW.block 1 hT0 (by omega))
 have HU:Hid (hd R=.int .u64 u):=hu
 have ML:Aside (m<B64):=hmlt
 have tz:Aside (∀(x:Nat)(W:World),x<B64→x≠0→TabW W→Calls Tryz.prog 191 #[.int .u64 x] W fun e w'=>e=.returned (.int .i64 (ctz 64 x:Nat))∧w'=W):=fun x W h1 h2 h3=>tz_any x h1 h2 W h3
 clear h o hlen hT hu hub hmb hm hU HT hmlt
 go_enter Tryz.func131,Tryz.ntmps131
 go_wp2
 go_loopg [5,6,7] 64 (fun kx s5 s6 s7 wr=>∃(p x:Nat)(va:Option Addr)(vn vc:Nat),s5=.slice va vn vc∧s6=.int .u64 x∧p≤64∧64-p≤kx∧Aside (x<B64∧∀i,i<64→x.testBit i=(decide (p≤i)&&m.testBit i))∧Aside (Hd wr B (hdT hd R m p))∧Aside (OwnF wr w.heap.size (.slice va vn vc) (takeL c m p))∧Aside (Fr (fun k=>k=B) w wr∧∀k,rowB (.slice va vn vc)=some k→w.heap.size≤k))
 case atStart=>
  refine⟨0,m,none,0,0,rfl,rfl,by omega,by omega,⟨ML.out,fun i _=>by simp⟩,H.out.congr fun k _=>(hdT_zero hd R m k).symm,?_,⟨Fr.refl _ _,fun k hk=>by cases hk⟩⟩
  rw[takeL_zero];exact OwnF.nil _ _
 case round=>
  obtain⟨p,x,va,vn,vc,rfl,rfl,hp,hkx,XB,HD,OV,FR⟩:=hrel
  by_cases hx:x=0
  ·subst hx
   have hz:∀i,p≤i→i<64→m.testBit i=false:=fun i h1 h2=>by
    have:=XB.out.2 i h2
    rw[Nat.zero_testBit] at this
    simpa [h1] using this.symm
   have q1:=HD.out.cell (k:=R) (by omega)
   rw[hdT_R,HU.out] at q1
   have q2:=HD.out.frozen R
   have bB:=HD.out.lt
   have FIN:Aside (∃v,Ending.returned (.slice va vn vc)=.returned v∧Hd (wr.setCell ⟨B,R,none⟩ (.int .u64 (U:Int))) B (hset (hdT hd R m 64) R (.int .u64 (U:Int)))∧OwnF (wr.setCell ⟨B,R,none⟩ (.int .u64 (U:Int))) w.heap.size v (takeL c m 64)∧Fr (fun k=>k=B) w (wr.setCell ⟨B,R,none⟩ (.int .u64 (U:Int)))∧∀k,rowB v=some k→w.heap.size≤k):=by
    refine⟨_,rfl,(HD.out.set R _).congr fun k hk=>?_,?_,FR.out.1.trans (Fr.setCell (fun k=>k=B) _ _ _ _ rfl) (fun j hj=>.inl hj),FR.out.2⟩
    ·unfold hset
     split
     ·rfl
     ·exact(hdT_skip hd R m hp hz k).symm
    ·rw[takeL_skip c m hp hz]
     refine OV.out.of_block fun k hk=>heap_setCell_other _ _ _ _ (fun e=>?_)
     have h1:=FR.out.2 k hk
     have h2:=H.out.lt
     rw[e] at h1
     exact absurd h1 (by show ¬w.heap.size≤B;omega)
   clear HD OV FR XB hz
   go_wp2
   go_ret
   exact FIN.out
  ·have hx0:¬(x:Int)=0:=by omega
   have hx1:((x:Int) != 0)=true:=by simp;omega
   obtain⟨t1,t2,t3,t4⟩:=ctz_spec x XB.out.1 hx
   have tzc:=tz.out x wr XB.out.1 hx (TB.out wr FR.out.1)
   obtain⟨q,hq⟩:∃q,ctz 64 x=q:=⟨_,rfl⟩
   rw[hq] at t1 t2 t3 t4 tzc
   have hpq:p≤q:=by
    have:=XB.out.2 q t1
    rw[t2] at this
    simp at this
    exact this.1
   have hmq:m.testBit q=true:=by
    have:=XB.out.2 q t1
    rw[t2] at this
    simp at this
    exact this.2
   have hsk:∀i,p≤i→i<q→m.testBit i=false:=fun i h1 h2=>by
    have:=XB.out.2 i (by omega)
    rw[t3 i h2] at this
    simpa [h1] using this.symm
   have hq64:(q:Int)<64:=by omega
   obtain⟨sa,sc,es,_,hs1,hs2,hsL⟩:=(O.out q t1).isL
   obtain⟨sn,hsn⟩:∃n,(c q).length=n:=⟨_,rfl⟩
   rw[hsn] at es
   have cq:=HD.out.cell (k:=R+1+q) (by omega)
   rw[hdT_at hd R m hpq,es] at cq
   have fq:=HD.out.frozen (R+1+q)
   have hL2:IsL wr sa sc (c q):=by
    have oq:OwnF wr base (hd (R+1+q)) (c q):=(O.out q t1).fr FR.out.1 (fun k hk e=>Hd.ne H.out (O.out q t1) (by rw[hk,e]))
    obtain⟨sa',sc',es',_,_,_,h'⟩:=oq.isL
    rw[es,hsn] at es'
    injection es' with e1 e2 e3
    rw[e1,e3];exact h'
   have hl:=LEN.out (q+1) (by omega)
   rw[takeL_succ,if_pos hmq,takeL_skip c m hpq hsk,List.length_append] at hl
   obtain⟨v2,w2,hr,o2,g2,n2⟩:=appF OV.out hL2 (by omega) FR.out.1.size 36
   obtain⟨pa,pc,e2,_⟩:=o2.isL
   obtain⟨pn,hpn⟩:∃n,(takeL c m p++c q).length=n:=⟨_,rfl⟩
   rw[hpn] at e2
   subst e2
   rw[hsn] at hr
   have nB:rowB (.slice va vn vc)≠some B:=fun e=>by have:=FR.out.2 B e;have:=H.out.lt;omega
   have h2:Hd w2 B (hdT hd R m p):=HD.out.of_block (g2.block B HD.out.lt (fun e=>nB e.symm))
   have c2:=h2.cell (k:=R+1+q) (by omega)
   rw[hdT_at hd R m hpq,es] at c2
   have f2:=h2.frozen (R+1+q)
   have bB:=h2.lt
   have N1:Aside (Hd (w2.setCell ⟨B,R+1+q,none⟩ nilV) B (hdT hd R m (q+1))):=(h2.set _ nilV).congr fun k hk=>by
    rw[←hdT_step hd R m q hmq k]
    unfold hset
    split
    ·rfl
    ·exact(hdT_skip hd R m hpq hsk k).symm
   have rn:∀k,rowB (.slice pa pn pc)=some k→w.heap.size≤k:=fun k hk=>by
    rcases n2 k hk with x|x
    ·exact FR.out.2 k x
    ·have:=FR.out.1.size;omega
   have N2:Aside (OwnF (w2.setCell ⟨B,R+1+q,none⟩ nilV) w.heap.size (.slice pa pn pc) (takeL c m (q+1))):=by
    show OwnF _ _ _ _
    rw[takeL_succ,if_pos hmq,takeL_skip c m hpq hsk]
    refine o2.of_block fun k hk=>heap_setCell_other _ _ _ _ (fun e=>?_)
    have h1:=rn k hk
    have h2:=H.out.lt
    rw[e] at h1
    exact absurd h1 (by show ¬w.heap.size≤B;omega)
   have N3:Aside (Fr (fun k=>k=B) w (w2.setCell ⟨B,R+1+q,none⟩ nilV)∧∀k,rowB (.slice pa pn pc)=some k→w.heap.size≤k):=
    ⟨(FR.out.1.trans (Fr.of_grown g2) (fun j hj=>.inr (FR.out.2 j hj))).trans (Fr.setCell (fun k=>k=B) _ _ _ _ rfl) (fun j hj=>.inl hj),rn⟩
   have hxb:x &&& (x-1)<B64:=Nat.lt_of_le_of_lt Nat.and_le_left XB.out.1
   have N4:Aside (x &&& (x-1)<B64∧∀i,i<64→(x &&& (x-1)).testBit i=(decide (q+1≤i)&&m.testBit i)):=by
    refine⟨hxb,fun i hi=>?_⟩
    rw[t4 i,XB.out.2 i hi]
    by_cases c1:i=q
    ·subst c1;rw[decide_eq_false (show ¬i+1≤i by omega)];simp
    ·by_cases c2:i<q
     ·have:x.testBit i=false:=t3 i c2
      rw[XB.out.2 i hi] at this
      rw[this]
      simp
      omega
     ·have c3:p≤i:=by omega
      have c4:q+1≤i:=by omega
      simp[c1,c3,c4]
   have e3:bits BinOp.and IntKind.u64 (x:Int) ((x:Int)-1)=((x &&& (x-1):Nat):Int):=by
    rw[show(x:Int)-1=((x-1:Nat):Int) by omega]
    exact bits_and_u64_nat x (x-1) XB.out.1 (by have hx2:x<18446744073709551616:=XB.out.1;omega)
   have hx64:x≤18446744073709551615:=by have hx2:x<18446744073709551616:=XB.out.1;omega
   obtain⟨X,hX⟩:∃X,x &&& (x-1)=X:=⟨_,rfl⟩
   rw[hX] at e3 N4
   clear HD OV FR XB h2 o2 g2 n2 t2 t3 t4 hmq hsk hsL hL2 hl nB rn hxb hX fq hq es hs1 hs2 hsn hpn
   go_wp2_with (first|(go_at_call 191;refine tzc.mono ?_;rintro e w' ⟨rfl,hw'⟩;obtain rfl:wr=w':=hw'.symm)|(at_builtin;refine Lib.wpList_append_run wr rfl _ _ 36 36 rfl _ _ rfl rfl _ w2 hr ?_))
   go_roundg (64-(q+1))
   case measure=>omega
   case rel=>exact⟨q+1,X,pa,pn,pc,rfl,rfl,by omega,le_refl _,N4,N1,N2,N3⟩
end
end Go.Proofs.YtdboknkfhbhniaaGreatDoor.Wl
