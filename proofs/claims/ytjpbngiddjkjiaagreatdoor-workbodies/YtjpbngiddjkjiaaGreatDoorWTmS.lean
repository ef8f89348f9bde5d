import Derived.Test.YtjpbngiddjkjiaaGreatDoorA0
import Derived.Test.YtjpbngiddjkjiaaGreatDoorDgShelf
import Derived.Test.YtjpbngiddjkjiaaGreatDoorWEntS
open Go.Proofs.Tryz
open Nat(le_refl)
namespace Go.Proofs.YtjpbngiddjkjiaaGreatDoor.Wl
set_option linter.unusedSimpArgs false
set_option maxHeartbeats 8000000
set_option maxRecDepth 100000
set_option linter.unusedVariables false
section
open Go.RowKit Go.Lib Go.Sort Go.Shelf
theorem len64_any(x:Nat)(hx:x<18446744073709551616)(w:World):Calls prog 165 #[.int .u64 x] w fun e w'=>e=.returned (.int .i64 (Go.Lib.bitLen x:Nat))/\w'=w:=by
 have hc:=Any.bits_Len64 (P:=prog) (ρ:=Da.laySort_ren) {Da.laySort with} (x:Int) w (by omega) (by omega);rw[Int.toNat_natCast] at hc;exact hc
end
section
open Go.RowKit Go.Lib Go.Sort
theorem lev_le10(a b:Nat)(ha:a<B64)(hb:b<B64):lev a b<=10:=by
 refine(lev_le ha hb).2 ?_;unfold same;rw[Nat.div_eq_of_lt (Nat.lt_of_lt_of_le ha (by decide)),Nat.div_eq_of_lt (Nat.lt_of_lt_of_le hb (by decide))]
theorem levelOf_any(a b:Nat)(ha:a<B64)(hb:b<B64)(w:World) :
  Calls prog 249 #[.int .u64 a,.int .u64 b] w fun e w'=>e=.returned (.int .i64 (lev a b:Nat))/\w'=w:=by
 have hB:B64=18446744073709551616:=rfl;have hx:a ^^^ b<2^64:=Nat.xor_lt_two_pow (show a<2^64 from ha) (show b<2^64 from hb);have hy:(a ^^^ b) ||| 1<2^64:=(or_one_lt _ _ (by omega)).2 hx
 have e1:=bits_xor_u64_nat a b (by omega) (by omega);have e2:bits BinOp.or IntKind.u64 ((a ^^^ b:Nat):Int) 1=(((a ^^^ b) ||| 1:Nat):Int):=bits_or_u64_nat _ 1 (by omega) (by omega);have hl:=bitLen_pos _ hy (or_one_ne _);have hl2:=(bitLen_iff _ 64 hy (or_one_ne _)).2 hy;have hlev:lev a b=(Go.Lib.bitLen ((a ^^^ b) ||| 1)-1)/6:=rfl;obtain⟨X,hX⟩:∃X,(a ^^^ b) ||| 1=X:=⟨_,rfl⟩
 obtain⟨Z,hZ⟩:∃X,a ^^^ b=X:=⟨_,rfl⟩;rw[hX] at hy hl hl2 hlev;have len:=fun w=>len64_any X (by omega) w;rw[hZ] at e1;rw[hX,hZ] at e2;obtain⟨L,hL⟩:∃L,Go.Lib.bitLen X=L:=⟨_,rfl⟩;simp only[hL] at len hl hl2 hlev;have HV:Hid _:=hlev;clear hX hZ hx hL hlev;go_enter func249,ntmps249
 go_wp2_with (go_at_call 165;refine(len _).mono ?_;rintro e w' ⟨rfl,rfl⟩)
 go_ret;refine⟨ret_i64 ?_,rfl⟩;rw[HV.out];omega
def Hd(w:World)(B:Nat)(hd:Nat->Value):Prop:=∃cs:Array Value,w.heap[B]?=some (.cells cs 154 (0,0))/\cs.size=263/\∀k,k<263->cs[k]?=some (hd k)
theorem Hd.cell{w:World}{B:Nat}{hd:Nat->Value}(h:Hd w B hd){k:Nat}(hk:k<263):w.cell? ⟨B,k,none⟩=some (hd k):=by
 obtain⟨cs,h1,h2,h3⟩:=h;rw[cell_of_row _ _ _ _ _ _ h1,h3 k hk]
theorem Hd.frozen{w:World}{B:Nat}{hd:Nat->Value}(h:Hd w B hd)(k:Nat):w.frozen? ⟨B,k,none⟩=false:=by
 obtain⟨cs,h1,h2,h3⟩:=h;simp[World.frozen?,h1]
theorem Hd.lt{w:World}{B:Nat}{hd:Nat->Value}(h:Hd w B hd):B<w.heap.size:=by
 obtain⟨cs,h1,h2,h3⟩:=h;exact lt_of_block h1
theorem Hd.of_block{w w':World}{B:Nat}{hd:Nat->Value}(h:Hd w B hd)(e:w'.heap[B]?=w.heap[B]?):Hd w' B hd:=by
 obtain⟨cs,h1,h2,h3⟩:=h;exact⟨cs,e.trans h1,h2,h3⟩
def hset(hd:Nat->Value)(k:Nat)(v:Value):Nat->Value:=fun j=>if j=k then v else hd j
theorem hset_same(hd:Nat->Value)(k:Nat)(v:Value):hset hd k v k=v:=if_pos rfl
theorem hset_ne(hd:Nat->Value){k j:Nat}(v:Value)(h:j≠k):hset hd k v j=hd j:=if_neg h
theorem Hd.set{w:World}{B:Nat}{hd:Nat->Value}(h:Hd w B hd)(k:Nat)(v:Value):Hd (w.setCell ⟨B,k,none⟩ v) B (hset hd k v):=by
 obtain⟨cs,h1,h2,h3⟩:=h;refine⟨_,heap_setCell_same _ _ _ _ _ _ h1,by simpa using h2,fun j hj=>?_⟩;rw[Array.getElem?_setIfInBounds];by_cases e:k=j
 ·subst e;rw[if_pos rfl,if_pos (by omega),hset_same]
 ·rw[if_neg e,hset_ne _ _ (fun e'=>e e'.symm),h3 j hj]
theorem Hd.typ{w:World}{B:Nat}{hd:Nat->Value}(h:Hd w B hd):∃cs,w.heap[B]?=some (.cells cs 154 (0,0)):=by
 obtain⟨cs,h1,_⟩:=h;exact⟨cs,h1⟩
theorem place_any(B now due:Nat)(hn:now<B64)(hd:due<B64)(w:World)(hc:w.cell? ⟨B,0,none⟩=some (.int .u64 now)) :
  Calls prog 231 #[.pointer (some ⟨B,0,none⟩),.int .u64 due] w fun e w'=>e=.returned (.tuple #[.int .i64 ((plc now due).1:Nat),.int .i64 ((plc now due).2:Nat)])/\w'=w:=by
 obtain⟨A,hA⟩:∃A,max due now=A:=⟨_,rfl⟩;have hAb:A<B64:=by omega
 have e1:(plc now due).1=lev now A:=by unfold plc;rw[hA]
 have e2:(plc now due).2=slt A (lev now A):=by unfold plc;rw[hA]
 rw[e1,e2];have hl:=lev_le10 now A hn hAb;have lv:=fun w=>levelOf_any now A hn hAb w;obtain⟨L,hL⟩:∃L,lev now A=L:=⟨_,rfl⟩;simp only[hL] at lv hl⊢;have sl:=fun w=>slotOf_any A L hAb hl w;obtain⟨Z,hZ⟩:∃Z,slt A L=Z:=⟨_,rfl⟩;simp only[hZ] at sl⊢;clear hn hd hAb;have hm:max (due:Int) (now:Int)=(A:Int):=by omega
 clear hA e1 e2 hL hZ;go_enter func231,ntmps231
 go_wp2_with (first|(go_at_call 249;refine(lv _).mono ?_;rintro e w' ⟨rfl,rfl⟩)|(go_at_call 250;refine(sl _).mono ?_;rintro e w' ⟨rfl,rfl⟩))
 refine bodyPost_ret (v:=.tuple #[.int .i64 L,.int .i64 Z]) (by simp[results,results231,go_sem]) rfl ⟨rfl,rfl⟩
end
section
open Go.RowKit Go.Lib Go.Sort
structure Fr(X:Nat->Prop)(w w':World):Prop where
 os:w'.os=w.os
 tape:w'.tape=w.tape
 output:w'.output=w.output
 size:w.heap.size<=w'.heap.size
 block:∀k,k<w.heap.size->¬X k->w'.heap[k]?=w.heap[k]?
theorem Fr.refl(X:Nat->Prop)(w:World):Fr X w w:=⟨rfl,rfl,rfl,le_refl _,fun _ _ _=>rfl⟩
theorem Fr.trans{X Y:Nat->Prop}{u v w:World}(h:Fr X u v)(k:Fr Y v w)(hY:∀j,Y j->X j\/u.heap.size<=j):Fr X u w:=
 ⟨k.os.trans h.os,k.tape.trans h.tape,k.output.trans h.output,Nat.le_trans h.size k.size,fun j hj hx=>(k.block j (Nat.lt_of_lt_of_le hj h.size) (fun hy=>by rcases hY j hy with hy|hy;exact hx hy;omega)).trans (h.block j hj hx)⟩
theorem Fr.mono{X Y:Nat->Prop}{w w':World}(h:Fr X w w')(hxy:∀j,X j->Y j):Fr Y w w':=⟨h.os,h.tape,h.output,h.size,fun j hj hy=>h.block j hj (fun hx=>hy (hxy j hx))⟩
theorem Fr.of_grown{row:Option Nat}{w w':World}(h:w.grownBy w' row):Fr (fun k=>row=some k) w w':=⟨h.os,h.tape,h.output,h.size,fun j hj hx=>h.block j hj (fun e=>hx e.symm)⟩
theorem Fr.below{X:Nat->Prop}{w w':World}(h:Below w.heap.size w w'):Fr X w w':=⟨h.os,h.tape,h.output,h.size,fun j hj _=>h.block j hj⟩
theorem Fr.setCell(X:Nat->Prop)(w:World)(B k:Nat)(v:Value)(hB:X B):Fr X w (w.setCell ⟨B,k,none⟩ v):=⟨rfl,rfl,rfl,by simp,fun j _ hj=>heap_setCell_other _ _ j _ (fun e=>hj (by rw[e];exact hB))⟩
theorem Hd.fr{X:Nat->Prop}{w w':World}{B:Nat}{hd:Nat->Value}(h:Hd w B hd)(f:Fr X w w')(hB:¬X B):Hd w' B hd:=h.of_block (f.block B h.lt hB)
theorem OwnF.fr{X:Nat->Prop}{w w':World}{base:Nat}{v:Value}{d:List Ent}(h:OwnF w base v d)(f:Fr X w w')(hk:∀k,rowB v=some k->¬X k):OwnF w' base v d:=h.of_block fun k e=>f.block k (h.rowLt e).2 (hk k e)
theorem Hd.ne{w:World}{B base:Nat}{hd:Nat->Value}{v:Value}{d:List Ent}(h:Hd w B hd)(o:OwnF w base v d):rowB v≠some B:=fun e=>by
 obtain⟨cs,h1⟩:=o.rowT e;obtain⟨ds,h2⟩:=h.typ;rw[h1] at h2;simp only[Option.some.injEq,Obj.cells.injEq] at h2;exact absurd h2.2.1 (by decide)
theorem step_app{ops:Array Oper}{o:Oper}{a:Act}{K:Act->World->Prop}{Q:Exit->Act->World->Prop}{E:Prop}(w:World)(hgd:o.guard=none)(s x:Operand)(t tn:TypeId)
  (ho:o.op=.call {callee:=.builtin .append,args:=#[s,x],argTypes:=#[t,tn]}) (vs vx:Value) (hs:a.eval s=vs) (hx:a.eval x=vx)
  (v':Value) (w':World) (hr:(Builtin.append_ #[t,tn] o.type #[vs,vx]).run prog w=.ok v' w') (h:K (a.put o.dst v') w') :
  if Region.wanted o (yielded ops a.tmps)=true then Oper.wp prog o a w K Q else E:=by
 have hw:Region.wanted o (yielded ops a.tmps)=true:=by simp[Region.wanted,hgd]
 rw[if_pos hw];exact Lib.wp_append_run w s x t tn ho vs vx hs hx v' w' hr h
theorem rput_any(B R s base u:Nat)(hd:Nat->Value)(v:Value)(d:List Ent)(t:Ent)(w:World)(h:Hd w B hd)(hR:R+65<=263)(hs:s<64)(hu:hd R=.int .u64 u)(hub:u<B64)(hv:hd (R+1+s)=v)(o:OwnF w base v d)(hdl:d.length<=100000)(hbase:base<=w.heap.size) :
  Calls prog 234 #[.pointer (some ⟨B,R,none⟩),.int .i64 s,.agg #[.int .u64 t.1,.int .i64 t.2]] w fun e w'=>e=.returned (.tuple #[])/\
   ∃v',Hd w' B (hset (hset hd (R+1+s) v') R (.int .u64 ((u ||| 2^s:Nat):Int)))/\OwnF w' base v' (d++[t])/\Fr (fun k=>k=B\/rowB v=some k) w w'/\∀k,rowB v'=some k->rowB v=some k\/w.heap.size<=k:=by
 obtain⟨S,hS⟩:∃S,w.heap.size=S:=⟨_,rfl⟩;obtain⟨u0,hu0⟩:∃u0,w.alloc (.cells #[.int .u64 t.1,.int .i64 t.2] 282)=u0:=⟨_,rfl⟩;obtain⟨W1,hW1⟩:∃W1,(u0.alloc (.cells #[.int .u64 t.1,.int .i64 t.2] 282)).drew=W1:=⟨_,rfl⟩;have b0:Below w.heap.size w u0:=by rw[<-hu0];exact(Below.refl _ _).alloc (le_refl _) _
 have s0:u0.heap.size=S+1:=by rw[<-hu0,<-hS];simp
 have b1:Below u0.heap.size u0 W1:=by rw[<-hW1];exact((Below.refl _ _).alloc (le_refl _) _).drew
 have b01:Below w.heap.size w W1:=b0.trans (b1.mono b0.size)
 have L1:IsL W1 (some ⟨S+1,0,none⟩) 1 [t]:=by
  rw[<-hW1,<-s0];exact(IsL.one u0 t).below ((Below.refl _ _).drew)
 obtain⟨v2,w2,hr,o2,g2,n2⟩:=appF (o.below b01) L1 (by simp;omega) (by have:=b01.size;omega) 94;obtain⟨pa,pc,e2,_,_,_,_⟩:=o2.isL;obtain⟨pn,hpn⟩:∃n,(d++[t]).length=n:=⟨_,rfl⟩;rw[hpn] at e2;subst e2;have hBl:=h.lt;have h1:Hd W1 B hd:=h.of_block (b01.block B hBl);have h2:Hd w2 B hd:=h1.of_block (g2.block B h1.lt (fun e=>Hd.ne h o e.symm));have h3:=h2.set (R+1+s) (.slice pa pn pc);obtain⟨w3,hw3⟩:∃w3,w2.setCell ⟨B,R+1+s,none⟩ (.slice pa pn pc)=w3:=⟨_,rfl⟩;rw[hw3] at h3;have h4:=h3.set R (.int .u64 ((u ||| 2^s:Nat):Int));obtain⟨va,vc,e0,_,hvc,hvm,_⟩:=o.isL;obtain⟨vn,hvn⟩:∃n,d.length=n:=⟨_,rfl⟩;rw[hvn] at e0;have hv':hd (R+1+s)=.slice va vn vc:=hv.trans e0
 have K0:Aside (u0.drew.cell? ⟨B,R+1+s,none⟩=some (.slice va vn vc)/\u0.drew.cell? ⟨S,0,none⟩=some (.int .u64 t.1)/\u0.drew.cell? ⟨S,1,none⟩=some (.int .i64 t.2)):=by
  refine⟨?_,?_,?_⟩
  ·have:=(h.of_block (b0.block B hBl)).cell (k:=R+1+s) (by omega);rw[hv'] at this;exact this
  ·show u0.cell? _=_;rw[<-hu0,<-hS];simp[go_sem]
  ·show u0.cell? _=_;rw[<-hu0,<-hS];simp[go_sem]
 have K1:Aside (W1.cell? ⟨B,R+1+s,none⟩=some (.slice va vn vc)/\W1.cell? ⟨S,0,none⟩=some (.int .u64 t.1)/\W1.cell? ⟨S,1,none⟩=some (.int .i64 t.2)):=by
  refine⟨?_,?_,?_⟩
  ·have:=h1.cell (k:=R+1+s) (by omega);rw[hv'] at this;exact this
  ·exact(b1.cell (p:=⟨S,0,none⟩) (show S<u0.heap.size by omega)).trans K0.out.2.1
  ·exact(b1.cell (p:=⟨S,1,none⟩) (show S<u0.heap.size by omega)).trans K0.out.2.2
 have hne:∀k,S<=k->rowB v≠some k:=fun k hk e=>by have:=(o.rowLt e).2;omega
 have K2:Aside (w2.cell? ⟨B,R+1+s,none⟩=some (.slice va vn vc)/\w2.cell? ⟨S,0,none⟩=some (.int .u64 t.1)/\w2.cell? ⟨S,1,none⟩=some (.int .i64 t.2)):=by
  refine⟨?_,g2.cell K1.out.2.1 (fun e=>hne S (le_refl _) e.symm),g2.cell K1.out.2.2 (fun e=>hne S (le_refl _) e.symm)⟩;have:=h2.cell (k:=R+1+s) (by omega);rw[hv'] at this;exact this
 have K3:Aside (w3.drew.cell? ⟨B,R,none⟩=some (.int .u64 u)):=by
  have:=h3.cell (k:=R) (by omega);rw[hset_ne _ _ (by omega),hu] at this;exact this
 have f4:Fr (fun k=>k=B\/rowB v=some k) w (w3.setCell ⟨B,R,none⟩ (.int .u64 ((u ||| 2^s:Nat):Int))):=by
  have x1:Fr (fun k=>k=B\/rowB v=some k) w w2:=((Fr.below b01).trans (Fr.of_grown g2) (fun j hj=>.inl (.inr hj)));have x2:Fr (fun k=>k=B\/rowB v=some k) w2 w3:=by rw[<-hw3];exact Fr.setCell _ _ _ _ _ (.inl rfl)
  exact(x1.trans x2 (fun j hj=>.inl hj)).trans (Fr.setCell _ _ _ _ _ (.inl rfl)) (fun j hj=>.inl hj)
 have o4:OwnF (w3.setCell ⟨B,R,none⟩ (.int .u64 ((u ||| 2^s:Nat):Int))) base (.slice pa pn pc) (d++[t]):=by
  have hk:∀k,rowB (.slice pa pn pc)=some k->k≠B:=fun k hk e=>by
   rcases n2 k hk with hk|hk
   ·exact Hd.ne h o (by rw[hk,e])
   ·have:=h1.lt;omega
  refine o2.of_block fun k e=>?_;rw[heap_setCell_other _ _ _ _ (hk k e),<-hw3,heap_setCell_other _ _ _ _ (hk k e)]
 have FIN:Aside (∃v',Hd (w3.setCell ⟨B,R,none⟩ (.int .u64 ((u ||| 2^s:Nat):Int))).drew B (hset (hset hd (R+1+s) v') R (.int .u64 ((u ||| 2^s:Nat):Int)))/\OwnF (w3.setCell ⟨B,R,none⟩ (.int .u64 ((u ||| 2^s:Nat):Int))).drew base v' (d++[t])/\Fr (fun k=>k=B\/rowB v=some k) w (w3.setCell ⟨B,R,none⟩ (.int .u64 ((u ||| 2^s:Nat):Int))).drew/\∀k,rowB v'=some k->rowB v=some k\/w.heap.size<=k):=
  ⟨.slice pa pn pc,h4.of_block rfl,o4.of_block (fun _ _=>rfl),f4.trans (Fr.below (X:=fun _=>False) ((Below.refl _ _).drew)) (fun j hj=>hj.elim),fun k hk=>by
   rcases n2 k hk with x|x
   ·exact .inl x
   ·have:=b01.size;exact .inr (by omega)⟩
 have HU0:Hid _:=hu0;have HW1:Hid _:=hW1;have HW3:Hid _:=hw3;have c1:w2.frozen? ⟨B,R+1+s,none⟩=false:=h2.frozen _;have c2:w3.frozen? ⟨B,R,none⟩=false:=h3.frozen _;have z0:w3.cell? ⟨B,R,none⟩=some (.int .u64 u):=K3.out;have z2:w2.cell? ⟨B,R+1+s,none⟩=some (.slice va vn vc):=K2.out.1;have bB:B<w2.heap.size:=h2.lt;have hs1:(s:Int)<64:=by omega
 have x1:IntKind.u64.wrap (2^s)=((2^s:Nat):Int):=by
  have:2^s<2^64:=Nat.pow_lt_pow_right (by omega) hs;have e:(2^s:Int)=((2^s:Nat):Int):=by push_cast;rfl
  rw[e,IntKind.wrap_u64];generalize 2^s=P at this;omega
 have x2:bits BinOp.or IntKind.u64 (u:Int) ((2^s:Nat):Int)=((u ||| 2^s:Nat):Int):=bits_or_u64_nat u (2^s) hub (Nat.pow_lt_pow_right (by omega) hs);have X1:Hid _:=x1;have X2:Hid _:=x2;have mx:=mixed;rw[e0] at hr;simp only[List.length_singleton] at hr;clear h o b0 b1 b01 L1 o2 g2 n2 h1 h2 h3 h4 f4 o4 hne hu0 hW1 hw3 hu hv hv' e0 hub x1 x2;go_enter func234,ntmps234
 go_upto_region 1 with fail
 rw[HU0.out];refine anyE_start (S:=(fun v0=>v0.cell? ⟨B,R+1+s,none⟩=some (.slice va vn vc)/\v0.cell? ⟨S,0,none⟩=some (.int .u64 t.1)/\v0.cell? ⟨S,1,none⟩=some (.int .i64 t.2))) (L:=14) (by kernel_rfl) ?_;refine anyE_u (i:=0) K0.out rfl (by kernel_rfl) (fun w z=>by go_simp<;>rfl) (fun _ _ _ h=>h) ?_;refine anyE_u (i:=1) K0.out rfl (by kernel_rfl) (fun w z=>by go_simp<;>rfl) (fun _ _ _ h=>h) ?_;refine anyE_u (i:=2) K0.out rfl (by kernel_rfl) (fun w z=>by go_simp<;>rfl) (fun _ _ _ h=>h) ?_;refine anyE_u (i:=3) K0.out rfl (by kernel_rfl) (fun w z=>by go_simp<;>rfl) (fun _ _ _ h=>h) ?_;refine anyE_u (i:=4) K0.out rfl (by kernel_rfl) (fun w z=>by go_simp<;>rfl) (fun _ _ _ h=>h) ?_;refine anyE_u (i:=5) K0.out rfl (by kernel_rfl) (fun w z=>by go_simp<;>rfl) (fun _ _ _ h=>h) ?_;refine anyE_u (i:=6) K0.out rfl (by kernel_rfl) (fun w z=>by go_simp<;>rfl) (fun _ _ _ h=>h) ?_;refine anyE_u (i:=7) K0.out rfl (by kernel_rfl) (fun w z=>by go_simp<;>rfl) (fun _ _ _ h=>h) ?_;refine anyE_u (i:=8) K0.out rfl (by kernel_rfl) (fun w z=>by go_simp<;>rfl) (fun _ _ _ h=>h) ?_;refine anyF_u [12,13] (i:=11) K0.out rfl (by kernel_rfl) (fun w z=>by go_simp<;>rfl) (fun _ _ _ h=>h) ?_;refine anyF_u [13] (i:=12) K0.out rfl (by kernel_rfl) (fun w z=>by go_simp<;>rfl) (fun _ _ _ h=>h) ?_;simp only[Act.put,sA,sB,sC];refine anyE_ready (rs:=[9]) (by kernel_rfl) (by simp) ?_;refine AllE.cons rfl (fun Kt hKt=>?_) ?_
 ·go_simp
  rw[HW1.out];refine hKt.out _ _ (fun _=>K1.out) ?_;clear hKt Kt;try simp only[Act.put,sA,sB,sC]
  refine anyE_ready (rs:=[10]) (by kernel_rfl) (by simp) ?_;refine AllE.cons (o:={dst:=some 16,op:=Op.call {callee:=Callee.builtin Builtin.append,args:=#[Operand.tmp 13,Operand.tmp 15],argTypes:=#[94,94]},type:=94,pos:= "wheel.go:75",after:=#[⟨7,.data⟩,⟨9,.data⟩],guard:=none}) rfl (fun Kt hKt=>?_) ?_
  ·refine step_app W1 (by rfl) _ _ 94 94 (by rfl) (.slice va vn vc) (.slice (some ⟨S+1,0,none⟩) 1 1) (by rfl) (by rfl) (.slice pa pn pc) w2 hr ?_;refine hKt.out _ _ (fun _=>K2.out) ?_;clear hKt Kt;try simp only[Act.put,sA,sB,sC]
   refine anyE_u (i:=13) K2.out rfl (by kernel_rfl) (fun w z=>by go_simp<;>rfl) (fun _ _ _ h=>h) ?_;simp only[Act.put,sA,sB,sC];refine anyE_ready (rs:=[14]) (by kernel_rfl) (by simp) ?_;refine AllE.cons rfl (fun Kt hKt=>?_) ?_
   ·go_simp
    rw[HW3.out];refine hKt.out _ _ (fun h=>absurd rfl h) ?_;clear hKt Kt;try simp only[Act.put,sA,sB,sC]
    refine anyE_done (by kernel_rfl) ?_ _
    go_wp2_with fail
    refine anyE_start (S:=(fun v0=>v0.cell? ⟨B,R,none⟩=some (.int .u64 u))) (L:=9) (by kernel_rfl) ?_;refine anyE_u (i:=0) K3.out rfl (by kernel_rfl) (fun w z=>by go_simp<;>rfl) (fun _ _ _ h=>h) ?_;refine anyE_u (i:=1) K3.out rfl (by kernel_rfl) (fun w z=>by go_simp<;>rfl) (fun _ _ _ h=>h) ?_;refine anyE_u (i:=2) K3.out rfl (by kernel_rfl) (fun w z=>by go_simp<;>rfl) (fun _ _ _ h=>h) ?_;refine anyE_u (i:=3) K3.out rfl (by kernel_rfl) (fun w z=>by go_simp<;>rfl) (fun _ _ _ h=>h) ?_;refine anyE_u (i:=4) K3.out rfl (by kernel_rfl) (fun w z=>by go_simp<;>rfl) (fun _ _ _ h=>h) ?_;refine anyE_u (i:=5) K3.out rfl (by kernel_rfl) (fun w z=>by go_simp<;>rfl) (fun _ _ _ h=>h) ?_;refine anyE_u (i:=6) K3.out rfl (by kernel_rfl) (fun w z=>by go_simp<;>rfl) (fun _ _ _ h=>h) ?_;refine anyF_u [8] (i:=7) K3.out rfl (by kernel_rfl) (fun w z=>by go_simp<;>rfl) (fun _ _ _ h=>h) ?_;refine anyE_u (i:=8) K3.out rfl (by kernel_rfl) (fun w z=>by go_simp<;>rfl) (fun _ _ _ h=>h) ?_;simp only[Act.put,sA,sB,sC];refine anyE_ready (rs:=[9]) (by kernel_rfl) (by simp) ?_;refine AllE.cons rfl (fun Kt hKt=>?_) ?_
    ·go_simp
     refine hKt.out _ _ (fun h=>absurd rfl h) ?_;clear hKt Kt;try simp only[Act.put,sA,sB,sC]
     refine anyE_done (by kernel_rfl) ?_ _;rw[X1.out,X2.out]
     go_wp2
     go_end0
     exact⟨rfl,FIN.out⟩
    exact AllE.nil
   exact AllE.nil
  exact AllE.nil
 exact AllE.nil
end
section
open Go.RowKit Go.Lib Go.Sort
theorem Hd.congr{w:World}{B:Nat}{hd he:Nat->Value}(h:Hd w B hd)(e:∀k,k<263->hd k=he k):Hd w B he:=by
 obtain⟨cs,h1,h2,h3⟩:=h;exact⟨cs,h1,h2,fun k hk=>by rw[h3 k hk,e k hk]⟩
def nilV:Value:=.slice none 0 0
def dropU(u s:Nat)(d:List Ent):Nat:=if d=[] then clr u (2^s) else u
def DropIs(w:World)(B R s base u:Nat)(hd:Nat->Value)(v:Value)(d:List Ent)(w':World):Prop:=
 ∃v',Hd w' B (hset (hset hd (R+1+s) v') R (.int .u64 ((dropU u s d:Nat):Int)))/\OwnF w' base v' d/\Fr (fun k=>k=B\/rowB v=some k) w w'/\∀k,rowB v'=some k->rowB v=some k
theorem rdrop_any(B R s base u:Nat)(hd:Nat->Value)(v:Value)(d:List Ent)(t:Ent)(w:World)(h:Hd w B hd)(hR:R+65<=263)(hs:s<64)(hu:hd R=.int .u64 u)(hub:u<B64)(hv:hd (R+1+s)=v)(o:OwnF w base v d)(hdn:d.Nodup)(ht:t∈d) :
  Calls prog 232 #[.pointer (some ⟨B,R,none⟩),.int .i64 s,.agg #[.int .u64 t.1,.int .i64 t.2]] w fun e w'=>e=.returned (.tuple #[])/\DropIs w B R s base u hd v (d.erase t) w':=by
 obtain⟨S,hS⟩:∃S,w.heap.size=S:=⟨_,rfl⟩;obtain⟨u0,hu0⟩:∃u0,w.alloc (.cells #[.int .u64 t.1,.int .i64 t.2] 282)=u0:=⟨_,rfl⟩;have b0:Below w.heap.size w u0:=by rw[<-hu0];exact(Below.refl _ _).alloc (le_refl _) _
 have b0d:Below w.heap.size w u0.drew:=b0.drew;have hBl:=h.lt;have h0:Hd u0.drew B hd:=h.of_block (b0d.block B hBl);have wo:=without_any v base d t u0.drew (o.below b0d) hdn ht;obtain⟨va,vc,e0,-,hvc,hvm,-⟩:=o.isL;obtain⟨vn,hvn⟩:∃n,d.length=n:=⟨_,rfl⟩;rw[hvn] at e0;have hv':hd (R+1+s)=.slice va vn vc:=hv.trans e0
 have K0:Aside (u0.drew.cell? ⟨B,R+1+s,none⟩=some (.slice va vn vc)/\u0.drew.cell? ⟨S,0,none⟩=some (.int .u64 t.1)/\u0.drew.cell? ⟨S,1,none⟩=some (.int .i64 t.2)):=by
  refine⟨?_,?_,?_⟩
  ·have:=h0.cell (k:=R+1+s) (by omega);rw[hv'] at this;exact this
  ·show u0.cell? _=_;rw[<-hu0,<-hS];simp[go_sem]
  ·show u0.cell? _=_;rw[<-hu0,<-hS];simp[go_sem]
 have hne:∀k,S<=k->rowB v≠some k:=fun k hk e=>by have:=(o.rowLt e).2;omega
 have hnB:=Hd.ne h o;have W0:Aside (Calls prog 233 #[.slice va vn vc,.agg #[.int .u64 t.1,.int .i64 t.2]] u0.drew fun r w'=>∃v',r=.returned v'/\OwnF w' base v' (d.erase t)/\rowB v'=rowB v/\u0.drew.grownBy w' (rowB v)):=by rw[<-e0];exact wo
 have NX:Aside (∀w1 pa pn pc,OwnF w1 base (.slice pa pn pc) (d.erase t)->rowB (.slice pa pn pc)=rowB v->u0.drew.grownBy w1 (rowB v)->
   (w1.cell? ⟨B,R+1+s,none⟩=some (.slice va vn vc)/\w1.cell? ⟨S,0,none⟩=some (.int .u64 t.1)/\w1.cell? ⟨S,1,none⟩=some (.int .i64 t.2))/\Hd (w1.setCell ⟨B,R+1+s,none⟩ (.slice pa pn pc)) B (hset hd (R+1+s) (.slice pa pn pc))/\w1.frozen? ⟨B,R+1+s,none⟩=false/\
   OwnF (w1.setCell ⟨B,R+1+s,none⟩ (.slice pa pn pc)) base (.slice pa pn pc) (d.erase t)/\Fr (fun k=>k=B\/rowB v=some k) w (w1.setCell ⟨B,R+1+s,none⟩ (.slice pa pn pc))/\pn=(d.erase t).length):=by
  intro w1 pa pn pc o1 r1 g1;have h1:Hd w1 B hd:=h0.of_block (g1.block B h0.lt (fun e=>hnB e.symm));refine⟨⟨?_,g1.cell K0.out.2.1 (fun e=>hne S (le_refl _) e.symm),g1.cell K0.out.2.2 (fun e=>hne S (le_refl _) e.symm)⟩,h1.set _ _,h1.frozen _,o1.of_block (fun k hk=>heap_setCell_other _ _ _ _ (fun e=>hnB (by rw[<-r1,hk,e]))),?_,?_⟩
  ·have:=h1.cell (k:=R+1+s) (by omega);rw[hv'] at this;exact this
  ·exact((Fr.below b0d).trans (Fr.of_grown g1) (fun j hj=>.inl (.inr hj))).trans (Fr.setCell _ _ _ _ _ (.inl rfl)) (fun j hj=>.inl hj)
  ·obtain⟨_,_,e,_⟩:=o1.isL;injection e
 have HU0:Hid _:=hu0;have HUu:Hid (hd R=.int .u64 u):=hu;have hub2:u<18446744073709551616:=hub;have hp:2^s<18446744073709551616:=show 2^s<2^64 from Nat.pow_lt_pow_right (by omega) hs
 have x1:IntKind.u64.wrap (2^s)=((2^s:Nat):Int):=by
  have e:(2^s:Int)=((2^s:Nat):Int):=by push_cast;rfl
  rw[e,IntKind.wrap_u64];generalize 2^s=P at hp;omega
 have x2:bits BinOp.andNot IntKind.u64 (u:Int) ((2^s:Nat):Int)=((clr u (2^s):Nat):Int):=u64_andNot_nat u (2^s) hub2 hp;have X1:Hid _:=x1;have X2:Hid _:=x2;have hs1:(s:Int)<64:=by omega
 have mx:=mixed;clear h o b0 b0d hBl h0 wo hvm hvc hv hv' e0 hne hnB hu0 hu hub hub2 hp x1 x2 hdn ht hvn;go_enter func232,ntmps232
 go_upto_region 1 with fail
 rw[HU0.out];refine anyE_start (S:=(fun v0=>v0.cell? ⟨B,R+1+s,none⟩=some (.slice va vn vc)/\v0.cell? ⟨S,0,none⟩=some (.int .u64 t.1)/\v0.cell? ⟨S,1,none⟩=some (.int .i64 t.2))) (L:=13) (by kernel_rfl) ?_;refine anyE_u (i:=0) K0.out rfl (by kernel_rfl) (fun w z=>by go_simp<;>rfl) (fun _ _ _ h=>h) ?_;refine anyE_u (i:=1) K0.out rfl (by kernel_rfl) (fun w z=>by go_simp<;>rfl) (fun _ _ _ h=>h) ?_;refine anyE_u (i:=2) K0.out rfl (by kernel_rfl) (fun w z=>by go_simp<;>rfl) (fun _ _ _ h=>h) ?_;refine anyE_u (i:=3) K0.out rfl (by kernel_rfl) (fun w z=>by go_simp<;>rfl) (fun _ _ _ h=>h) ?_;refine anyE_u (i:=4) K0.out rfl (by kernel_rfl) (fun w z=>by go_simp<;>rfl) (fun _ _ _ h=>h) ?_;refine anyE_u (i:=5) K0.out rfl (by kernel_rfl) (fun w z=>by go_simp<;>rfl) (fun _ _ _ h=>h) ?_;refine anyE_u (i:=6) K0.out rfl (by kernel_rfl) (fun w z=>by go_simp<;>rfl) (fun _ _ _ h=>h) ?_;refine anyE_u (i:=7) K0.out rfl (by kernel_rfl) (fun w z=>by go_simp<;>rfl) (fun _ _ _ h=>h) ?_;refine anyE_u (i:=8) K0.out rfl (by kernel_rfl) (fun w z=>by go_simp<;>rfl) (fun _ _ _ h=>h) ?_;refine anyF_u [11,12] (i:=10) K0.out rfl (by kernel_rfl) (fun w z=>by go_simp<;>rfl) (fun _ _ _ h=>h) ?_;refine anyF_u [12] (i:=11) K0.out rfl (by kernel_rfl) (fun w z=>by go_simp<;>rfl) (fun _ _ _ h=>h) ?_;simp only[Act.put,sA,sB,sC];refine anyE_ready (rs:=[9]) (by kernel_rfl) (by simp) ?_;refine AllE.cons (o:={dst:=some 15,op:=Op.call {callee:=Callee.value (Operand.func 233),args:=#[Operand.tmp 13,Operand.tmp 14],argTypes:=#[94,282]},type:=94,pos:= "wheel.go:81",after:=#[⟨7,.data⟩,⟨8,.data⟩],guard:=none}) rfl (fun Kt hKt=>?_) ?_
 ·go_simp
  (with_reducible refine Calls.mono W0.out ?_)
  rintro x_ w1 ⟨v',rfl,o1,r1,g1⟩;obtain⟨pa,pc,e1,-⟩:=o1.isL;obtain⟨pn,hpn⟩:∃n,(d.erase t).length=n:=⟨_,rfl⟩;rw[hpn] at e1;subst e1;obtain⟨y1,y2,y3,y4,y5,-⟩:=NX.out w1 pa pn pc o1 r1 g1;have z1:=y1.1;have Y2:Aside (Hd (w1.setCell ⟨B,R+1+s,none⟩ (.slice pa pn pc)) B (hset hd (R+1+s) (.slice pa pn pc))):=y2;have Y4:Aside (OwnF (w1.setCell ⟨B,R+1+s,none⟩ (.slice pa pn pc)) base (.slice pa pn pc) (d.erase t)):=y4;have Y5:Aside (Fr (fun k=>k=B\/rowB v=some k) w (w1.setCell ⟨B,R+1+s,none⟩ (.slice pa pn pc))):=y5;have R1:Aside (rowB (.slice pa pn pc)=rowB v):=r1;have HPN:Hid _:=hpn;clear o1 r1 g1 y2 y4 y5 W0 NX K0 hpn;dsimp only;refine hKt.out _ _ (fun _=>y1) ?_;clear hKt Kt;try simp only[Act.put,sA,sB,sC]
  refine anyE_u (i:=12) y1 rfl (by kernel_rfl) (fun w z=>by go_simp<;>rfl) (fun _ _ _ h=>h) ?_;simp only[Act.put,sA,sB,sC];refine anyE_ready (rs:=[13]) (by kernel_rfl) (by simp) ?_;refine AllE.cons rfl (fun Kt hKt=>?_) ?_
  ·go_simp
   refine hKt.out _ _ (fun h=>absurd rfl h) ?_;clear hKt Kt;try simp only[Act.put,sA,sB,sC]
   refine anyE_done (by kernel_rfl) ?_ _;obtain⟨w2,hw2⟩:∃w2,(w1.setCell ⟨B,R+1+s,none⟩ (.slice pa pn pc))=w2:=⟨_,rfl⟩;rw[hw2] at Y2 Y4 Y5;rw[hw2];clear hw2 z1 y1 y3;have q0:=Y2.out.cell (k:=R+1+s) (by omega);rw[hset_same] at q0;have q1:=Y2.out.frozen (R+1+s);have bB:=Y2.out.lt;by_cases hE0:d.erase t=[]
   ·have HE:Hid (d.erase t=[]):=hE0;obtain rfl:pn=0:=by rw[<-HPN.out,hE0];rfl
    clear hE0;have h3:=Y2.out.set (R+1+s) nilV;obtain⟨w3,hw3⟩:∃w3,w2.setCell ⟨B,R+1+s,none⟩ nilV=w3:=⟨_,rfl⟩;rw[hw3] at h3;have HW3:Hid (w2.setCell ⟨B,R+1+s,none⟩ (.slice none 0 0)=w3):=hw3;have q2:=h3.frozen R;have q4:=h3.cell (k:=R) (by omega);rw[hset_ne _ _ (by omega),hset_ne _ _ (by omega),HUu.out] at q4;have q3:w3.drew.cell? ⟨B,R,none⟩=some (.int .u64 u):=q4
    have FIN:Aside (DropIs w B R s base u hd v (d.erase t) (w3.setCell ⟨B,R,none⟩ (.int .u64 ((clr u (2^s):Nat):Int))).drew):=by
     refine⟨nilV,?_,?_,?_,fun k hk=>by cases hk⟩
     ·refine((h3.set R (.int .u64 ((clr u (2^s):Nat):Int))).of_block rfl).congr fun k hk=>?_;unfold dropU;rw[if_pos HE.out];by_cases c1:k=R
      ·subst c1;rw[hset_same,hset_same]
      ·rw[hset_ne _ _ c1,hset_ne _ _ c1];by_cases c2:k=R+1+s
       ·subst c2;rw[hset_same,hset_same]
       ·rw[hset_ne _ _ c2,hset_ne _ _ c2,hset_ne _ _ c2]
     ·rw[HE.out];exact OwnF.nil _ _
     ·refine((Y5.out.trans (by rw[<-hw3];exact Fr.setCell _ _ _ _ _ (.inl rfl)) (fun j hj=>.inl hj)).trans (Fr.setCell _ _ _ _ _ (.inl rfl)) (fun j hj=>.inl hj)).trans (Fr.below (X:=fun _=>False) ((Below.refl _ _).drew)) (fun j hj=>hj.elim)
    clear h3 hw3;go_upto_region 4 with fail
    rw[HW3.out];refine anyE_start (S:=(fun v0=>v0.cell? ⟨B,R,none⟩=some (.int .u64 u))) (L:=9) (by kernel_rfl) ?_;refine anyE_u (i:=0) q3 rfl (by kernel_rfl) (fun w z=>by go_simp<;>rfl) (fun _ _ _ h=>h) ?_;refine anyE_u (i:=1) q3 rfl (by kernel_rfl) (fun w z=>by go_simp<;>rfl) (fun _ _ _ h=>h) ?_;refine anyE_u (i:=2) q3 rfl (by kernel_rfl) (fun w z=>by go_simp<;>rfl) (fun _ _ _ h=>h) ?_;refine anyE_u (i:=3) q3 rfl (by kernel_rfl) (fun w z=>by go_simp<;>rfl) (fun _ _ _ h=>h) ?_;refine anyE_u (i:=4) q3 rfl (by kernel_rfl) (fun w z=>by go_simp<;>rfl) (fun _ _ _ h=>h) ?_;refine anyE_u (i:=5) q3 rfl (by kernel_rfl) (fun w z=>by go_simp<;>rfl) (fun _ _ _ h=>h) ?_;refine anyE_u (i:=6) q3 rfl (by kernel_rfl) (fun w z=>by go_simp<;>rfl) (fun _ _ _ h=>h) ?_;refine anyF_u [8] (i:=7) q3 rfl (by kernel_rfl) (fun w z=>by go_simp<;>rfl) (fun _ _ _ h=>h) ?_;refine anyE_u (i:=8) q3 rfl (by kernel_rfl) (fun w z=>by go_simp<;>rfl) (fun _ _ _ h=>h) ?_;simp only[Act.put,sA,sB,sC];refine anyE_ready (rs:=[9]) (by kernel_rfl) (by simp) ?_;refine AllE.cons rfl (fun Kt hKt=>?_) ?_
    ·go_simp
     refine hKt.out _ _ (fun h=>absurd rfl h) ?_;clear hKt Kt;try simp only[Act.put,sA,sB,sC]
     refine anyE_done (by kernel_rfl) ?_ _;rw[X1.out,X2.out]
     go_wp2
     go_end0
     exact⟨rfl,FIN.out⟩
    exact AllE.nil
   ·have HE:Hid (¬d.erase t=[]):=hE0;have hn0:¬pn=0:=fun e=>hE0 (List.length_eq_zero_iff.1 (HPN.out.trans e));have hn1:((pn:Int)==0)=false:=by simp;omega
    clear hE0
    have FIN:Aside (DropIs w B R s base u hd v (d.erase t) w2):=by
     refine⟨_,Y2.out.congr fun k hk=>?_,Y4.out,Y5.out,fun k hk=>by rw[<-R1.out];exact hk⟩;unfold dropU;rw[if_neg HE.out];by_cases c1:k=R
     ·subst c1;rw[hset_same,hset_ne _ _ (by omega)];exact HUu.out
     ·rw[hset_ne _ _ c1]
    go_wp2
    go_end0
    exact⟨rfl,FIN.out⟩
  exact AllE.nil
 exact AllE.nil
end
section
open Go.RowKit Go.Lib Go.Sort Go.WideMaps Go.Maps
theorem keyedI:Keyed prog 3:=int_keyed underlying3
abbrev wfI(a:Int):Prop:=(Lit.int .i64 a).wf=true
theorem key_int{a:Int}(wa:wfI a):keyOf prog 3 (.int .i64 a)=some (.int .i64 a):=keyOf_int_mk underlying3 wa
def heldR(v:Value):Option (DataW Value×List MemPlace):=some (.held v,[])
theorem zeroU(w:World):(zeroValue 33).run prog w=.ok (.int .u64 0) w:=by kernel_rfl
def DuM(w:World)(M:Nat)(f:Int->Option Int)(n:Nat):Prop:=
 ∃D:DataW Value,w.ownsMap prog 3 heldR M n D/\Maps.size D=n/\∀i,wfI i->Maps.has D (.int .i64 i)=(f i).isSome/\∀v,f i=some v->∀z,D.atKey (.int .i64 i) z=.held (.int .u64 v)
theorem own_tight{w:World}{M n:Nat}{D:DataW Value}(h:w.ownsMap prog 3 heldR M n D):w.ownsMap prog 3 heldR M (Maps.size D) D:=by
 obtain⟨es,cl,h1,h2,h3,rfl⟩:=h;exact⟨es,cl,h1,h2,by simp[Maps.size,length_sorted],rfl⟩
theorem DuM.lt{w:World}{M n:Nat}{f:Int->Option Int}(h:DuM w M f n):M<w.heap.size:=by
 obtain⟨D,h1,_⟩:=h;exact h1.lt
theorem DuM.isMap{w:World}{M n:Nat}{f:Int->Option Int}(h:DuM w M f n):∃es c,w.heap[M]?=some (.map es c):=by
 obtain⟨D,⟨es,c,hb,_⟩,_⟩:=h;exact⟨es,c,hb⟩
theorem DuM.of_block{w w':World}{M n:Nat}{f:Int->Option Int}(h:DuM w M f n)(e:w'.heap[M]?=w.heap[M]?):DuM w' M f n:=by
 obtain⟨D,⟨es,c,hb,r⟩,h3⟩:=h;exact⟨D,⟨es,c,e.trans hb,r⟩,h3⟩
theorem DuM.made(w:World):DuM (w.alloc (.map #[] 0)) w.heap.size (fun _=>none) 0:=
 ⟨.map [],World.ownsMap_made w _ _ _,rfl,fun i _=>⟨rfl,fun v hv=>by cases hv⟩⟩
theorem DuM.look{w:World}{M n:Nat}{f:Int->Option Int}(h:DuM w M f n){i:Int}(wi:wfI i){v:Int}(hv:f i=some v) :
  (Instr.lookup 148 (.map (some M)) (.int .i64 i) true).run prog w=.ok (.tuple #[.int .u64 v,.bool true]) w:=by
 obtain⟨D,h1,h2,h3⟩:=h;obtain⟨v',ps,hr,hv'⟩:=h1.look_ok keyedI underlying148 (zeroU w) (zd:=.held (.int .u64 0)) (zp:=[]) rfl (key_int wi);rw[((h3 i wi).2 v hv) _] at hv';rw[(h3 i wi).1,hv] at hr;unfold heldR at hv';simp only[Option.some.injEq,Prod.mk.injEq,DataW.held.injEq] at hv';rw[<-hv'.1];exact hr
theorem DuM.look_no{w:World}{M n:Nat}{f:Int->Option Int}(h:DuM w M f n){i:Int}(wi:wfI i)(hv:f i=none) :
  (Instr.lookup 148 (.map (some M)) (.int .i64 i) true).run prog w=.ok (.tuple #[.int .u64 0,.bool false]) w:=by
 obtain⟨D,h1,h2,h3⟩:=h;obtain⟨v',ps,hr,hv'⟩:=h1.look_ok keyedI underlying148 (zeroU w) (zd:=.held (.int .u64 0)) (zp:=[]) rfl (key_int wi);have hh:=(h3 i wi).1;rw[hv] at hh;rw[Maps.atKey_of_not_has hh] at hv';rw[hh] at hr;unfold heldR at hv';simp only[Option.some.injEq,Prod.mk.injEq,DataW.held.injEq] at hv';rw[<-hv'.1];exact hr
theorem DuM.len{w:World}{M n:Nat}{f:Int->Option Int}(h:DuM w M f n)(ty:TypeId):(Builtin.len_ #[148] ty #[.map (some M)]).run prog w=.ok (.int .i64 n) w:=by
 obtain⟨D,h1,h2,h3⟩:=h;rw[<-h2];exact h1.len underlying148 ty
def fput(f:Int->Option Int)(i:Int)(v:Int):Int->Option Int:=fun a=>if a=i then some v else f a
def fdel(f:Int->Option Int)(i:Int):Int->Option Int:=fun a=>if a=i then none else f a
theorem int_ne{a b:Int}(h:a≠b):(Lit.int .i64 a)≠.int .i64 b:=fun e=>h (by injection e)
theorem DuM.store{w:World}{M n:Nat}{f:Int->Option Int}(h:DuM w M f n)(hn:n<=100000){i:Int}(wi:wfI i)(hi:f i=none)(v:Int) :
  ∃w',(Instr.mapUpdate 148 (.map (some M)) (.int .i64 i) (.int .u64 v)).run prog w=.ok () w'/\DuM w' M (fput f i v) (n+1)/\w.grownBy w' (some M):=by
 obtain⟨D,h1,h2,h3⟩:=h;obtain⟨w',hr,ho,hm⟩:=h1.store keyedI underlying148 (by unfold maxLen;omega) (key_int wi) (val:=.int .u64 v) (d:=.held (.int .u64 v)) (ps:=[]) rfl;have hk:=keyedI.key (key_int wi)
 have hsz:Maps.size (D.put (.int .i64 i) (.held (.int .u64 v)))=n+1:=by
  rw[Maps.size_put (h1.tidy keyedI),(h3 i wi).1,hi,h2];rfl
 refine⟨w',hr,⟨_,by have:=own_tight ho;rw[hsz] at this;exact this,hsz,fun a wa=>?_⟩,hm.grown⟩;by_cases e:a=i
 ·subst e;refine⟨by rw[Maps.has_put_same h1.isMap hk];simp[fput],fun u hu z=>?_⟩;rw[Maps.atKey_put_same h1.isMap hk];simp[fput] at hu;rw[hu]
 ·rw[Maps.has_put_other (int_ne e)];have:fput f i v a=f a:=by unfold fput;rw[if_neg e]
  rw[this];refine⟨(h3 a wa).1,fun u hu z=>?_⟩;rw[Maps.atKey_put_other (int_ne e)];exact(h3 a wa).2 u hu z
theorem DuM.drop{w:World}{M n:Nat}{f:Int->Option Int}(h:DuM w M f (n+1)){i:Int}(wi:wfI i){v:Int}(hi:f i=some v)(ty:TypeId) :
  ∃w',(Builtin.delete_ #[148,3] ty #[.map (some M),.int .i64 i]).run prog w=.ok (.tuple #[]) w'/\DuM w' M (fdel f i) n/\w.grownBy w' (some M):=by
 obtain⟨D,h1,h2,h3⟩:=h;obtain⟨w',hr,ho,hm⟩:=h1.drop keyedI underlying148 (key_int wi) ty
 have hsz:Maps.size (D.del (.int .i64 i))=n:=by
  have:=Maps.size_del (k:=.int .i64 i) (h1.tidy keyedI);rw[(h3 i wi).1,hi] at this;simp at this;omega
 refine⟨w',hr,⟨_,by have:=own_tight ho;rw[hsz] at this;exact this,hsz,fun a wa=>?_⟩,hm.grown⟩;by_cases e:a=i
 ·subst e;exact⟨by rw[Maps.has_del_same];simp[fdel],fun u hu z=>by simp[fdel] at hu⟩
 ·rw[Maps.has_del_other (int_ne e)];have:fdel f i a=f a:=by unfold fdel;rw[if_neg e]
  rw[this];refine⟨(h3 a wa).1,fun u hu z=>?_⟩;rw[Maps.atKey_del_other (int_ne e)];exact(h3 a wa).2 u hu z
def lset{α:Type}(f:Nat->α)(t:Nat)(x:α):Nat->α:=fun i=>if i=t then x else f i
theorem lset_same{α:Type}(f:Nat->α)(t:Nat)(x:α):lset f t x t=x:=if_pos rfl
theorem lset_ne{α:Type}(f:Nat->α){t i:Nat}(x:α)(h:i≠t):lset f t x i=f i:=if_neg h
def cset(c:Nat->Nat->List Ent)(l s:Nat)(d:List Ent):Nat->Nat->List Ent:=fun a b=>if a=l/\b=s then d else c a b
theorem cset_same(c:Nat->Nat->List Ent)(l s:Nat)(d:List Ent):cset c l s d l s=d:=if_pos ⟨rfl,rfl⟩
theorem cset_ne(c:Nat->Nat->List Ent){l s a b:Nat}(d:List Ent)(h:¬(a=l/\b=s)):cset c l s d a b=c a b:=if_neg h
structure WhA(w:World)(B M base:Nat)(hd:Nat->Value)(now:Nat)(u:Nat->Nat)(c:Nat->Nat->List Ent)(far:List Ent)(f:Int->Option Int)(n:Nat):Prop where
 head:Hd w B hd
 h0:hd 0=.int .u64 now
 h1:hd 1=.map (some M)
 hu:∀l,l<4->hd (2+l*65)=.int .u64 (u l)
 slot:∀l s,l<4->s<64->OwnF w base (hd (2+l*65+1+s)) (c l s)
 far:OwnF w base (hd 262) far
 map:DuM w M f n
 inj:∀i j,i<263->j<263->i≠j->∀k,rowB (hd i)=some k->rowB (hd j)≠some k
 ub:∀l,l<4->u l<B64
 nb:now<B64
 lowB:base<=B
 lowM:base<=M
def foot(B M:Nat)(hd:Nat->Value)(k:Nat):Prop:=k=B\/k=M\/∃i,i<263/\rowB (hd i)=some k
variable {w w':World}{B M base now n:Nat}{hd:Nat->Value}{u:Nat->Nat}{c:Nat->Nat->List Ent}{far:List Ent}{f:Int->Option Int}
theorem cellCase(i:Nat)(hi:i<263):i=0\/i=1\/(∃l,l<4/\i=2+l*65)\/(∃l s,l<4/\s<64/\i=2+l*65+1+s)\/i=262:=by
 by_cases h0:i=0;· exact .inl h0
 by_cases h1:i=1;· exact .inr (.inl h1)
 by_cases h2:i=262;· exact .inr (.inr (.inr (.inr h2)))
 by_cases h3:(i-2)%65=0
 ·exact .inr (.inr (.inl ⟨(i-2)/65,by omega,by omega⟩))
 ·exact .inr (.inr (.inr (.inl ⟨(i-2)/65,(i-2)%65-1,by omega,by omega,by omega⟩)))
theorem WhA.own(h:WhA w B M base hd now u c far f n){i:Nat}(hi:i<263){k:Nat}(hk:rowB (hd i)=some k):∃d,OwnF w base (hd i) d:=by
 rcases cellCase i hi with rfl|rfl|⟨l,hl,rfl⟩|⟨l,s,hl,hs,rfl⟩|rfl
 ·rw[h.h0] at hk;cases hk
 ·rw[h.h1] at hk;cases hk
 ·rw[h.hu l hl] at hk;cases hk
 ·exact⟨_,h.slot l s hl hs⟩
 ·exact⟨_,h.far⟩
theorem WhA.rowLt(h:WhA w B M base hd now u c far f n){i:Nat}(hi:i<263){k:Nat}(hk:rowB (hd i)=some k):base<=k/\k<w.heap.size/\k≠B/\k≠M:=by
 obtain⟨d,o⟩:=h.own hi hk;refine⟨(o.rowLt hk).1,(o.rowLt hk).2,fun e=>Hd.ne h.head o (by rw[hk,e]),fun e=>?_⟩;obtain⟨cs,h1⟩:=o.rowT hk;obtain⟨es,cl,h2⟩:=h.map.isMap;rw[<-e,h1] at h2
 cases h2
theorem WhA.BM(h:WhA w B M base hd now u c far f n):M≠B:=fun e=>by
 obtain⟨cs,h1⟩:=h.head.typ;obtain⟨es,cl,h2⟩:=h.map.isMap;rw[e,h1] at h2
 cases h2
theorem WhA.footLt(h:WhA w B M base hd now u c far f n){k:Nat}(hk:foot B M hd k):base<=k/\k<w.heap.size:=by
 rcases hk with rfl|rfl|⟨i,hi,hk⟩
 ·exact⟨h.lowB,h.head.lt⟩
 ·exact⟨h.lowM,h.map.lt⟩
 ·exact⟨(h.rowLt hi hk).1,(h.rowLt hi hk).2.1⟩
theorem WhA.fr(h:WhA w B M base hd now u c far f n){X:Nat->Prop}(hf:Fr X w w')(hx:∀k,foot B M hd k->¬X k):WhA w' B M base hd now u c far f n:=
 ⟨h.head.fr hf (hx B (.inl rfl)),h.h0,h.h1,h.hu,fun l s hl hs=>(h.slot l s hl hs).fr hf (fun k hk=>hx k (.inr (.inr ⟨_,by omega,hk⟩))),h.far.fr hf (fun k hk=>hx k (.inr (.inr ⟨_,by omega,hk⟩))),h.map.of_block (hf.block M h.map.lt (hx M (.inr (.inl rfl)))),h.inj,h.ub,h.nb,h.lowB,h.lowM⟩
theorem WhA.slotSet(h:WhA w B M base hd now u c far f n){l s u':Nat}(hl:l<4)(hs:s<64){v':Value}{d':List Ent}(h':Hd w' B (hset (hset hd (2+l*65+1+s) v') (2+l*65) (.int .u64 (u':Int))))(o':OwnF w' base v' d')(hf:Fr (fun k=>k=B\/rowB (hd (2+l*65+1+s))=some k) w w')(hr:∀k,rowB v'=some k->rowB (hd (2+l*65+1+s))=some k\/w.heap.size<=k)(hu':u'<B64) :
  WhA w' B M base (hset (hset hd (2+l*65+1+s) v') (2+l*65) (.int .u64 (u':Int))) now (lset u l u') (cset c l s d') far f n:=by
 have e:∀i,i≠2+l*65+1+s->i≠2+l*65->hset (hset hd (2+l*65+1+s) v') (2+l*65) (.int .u64 (u':Int)) i=hd i:=fun i h1 h2=>by rw[hset_ne _ _ h2,hset_ne _ _ h1]
 have e1:hset (hset hd (2+l*65+1+s) v') (2+l*65) (.int .u64 (u':Int)) (2+l*65)=.int .u64 (u':Int):=hset_same _ _ _;have e2:hset (hset hd (2+l*65+1+s) v') (2+l*65) (.int .u64 (u':Int)) (2+l*65+1+s)=v':=by rw[hset_ne _ _ (by omega),hset_same]
 have oth:∀i d,i<263->i≠2+l*65+1+s->OwnF w base (hd i) d->OwnF w' base (hd i) d:=fun i d hi hne o=>o.fr hf (fun k hk hx=>by
  rcases hx with hx|hx
  ·exact Hd.ne h.head o (by rw[hk,hx])
  ·exact h.inj _ _ hi (by omega) hne k hk hx)
 refine⟨h',by rw[e 0 (by omega) (by omega)];exact h.h0,by rw[e 1 (by omega) (by omega)];exact h.h1,fun a ha=>?_,fun a b ha hb=>?_,?_,h.map.of_block (hf.block M h.map.lt (fun hx=>?_)),fun i j hi hj hij k hk=>?_,fun a ha=>?_,h.nb,h.lowB,h.lowM⟩
 ·by_cases ca:a=l
  ·subst ca;rw[e1,lset_same]
  ·rw[e _ (by omega) (by omega),lset_ne _ _ ca];exact h.hu a ha
 ·by_cases ca:a=l/\b=s
  ·obtain⟨rfl,rfl⟩:=ca;rw[e2,cset_same];exact o'
  ·rw[cset_ne _ _ ca,e _ (by omega) (by omega)];exact oth _ _ (by omega) (by omega) (h.slot a b ha hb)
 ·rw[e 262 (by omega) (by omega)];exact oth _ _ (by omega) (by omega) h.far
 ·rcases hx with hx|hx
  ·exact h.BM hx
  ·exact(h.rowLt (by omega) hx).2.2.2 rfl
 ·have old:∀j,j<263->j≠2+l*65+1+s->j≠2+l*65->∀k,rowB v'=some k->rowB (hd j)≠some k:=fun j hj h1 h2 k hk hk2=>by
   rcases hr k hk with hk|hk
   ·exact h.inj _ _ hj (by omega) h1 k hk2 hk
   ·have:=(h.rowLt hj hk2).2.1;omega
  by_cases c1:i=2+l*65
  ·subst c1;rw[e1] at hk;cases hk
  ·by_cases c2:j=2+l*65
   ·subst c2;rw[e1];exact fun x=>by cases x
   ·by_cases c3:i=2+l*65+1+s
    ·subst c3;rw[e2] at hk;rw[e j (fun x=>hij x.symm) c2];exact old j hj (fun x=>hij x.symm) c2 k hk
    ·rw[e i c3 c1] at hk;by_cases c4:j=2+l*65+1+s
     ·subst c4;rw[e2];exact fun hv=>old i hi c3 c1 k hv hk
     ·rw[e j c4 c2];exact h.inj i j hi hj hij k hk
 ·by_cases ca:a=l
  ·subst ca;rw[lset_same];exact hu'
  ·rw[lset_ne _ _ ca];exact h.ub a ha
theorem foot_slot{l s u':Nat}(hl:l<4)(hs:s<64){v':Value}(hr:∀k,rowB v'=some k->rowB (hd (2+l*65+1+s))=some k\/w.heap.size<=k):∀k,foot B M (hset (hset hd (2+l*65+1+s) v') (2+l*65) (.int .u64 (u':Int))) k->foot B M hd k\/w.heap.size<=k:=by
 intro k hk;rcases hk with hk|hk|⟨i,hi,hk⟩
 ·exact .inl (.inl hk)
 ·exact .inl (.inr (.inl hk))
 ·by_cases c1:i=2+l*65
  ·subst c1;rw[hset_same] at hk;cases hk
  ·rw[hset_ne _ _ c1] at hk;by_cases c3:i=2+l*65+1+s
   ·subst c3;rw[hset_same] at hk
    rcases hr k hk with hk|hk
    ·exact .inl (.inr (.inr ⟨_,hi,hk⟩))
    ·exact .inr hk
   ·rw[hset_ne _ _ c3] at hk;exact .inl (.inr (.inr ⟨i,hi,hk⟩))
theorem WhA.farSet(h:WhA w B M base hd now u c far f n){v':Value}{d':List Ent}(h':Hd w' B (hset hd 262 v'))(o':OwnF w' base v' d')(hf:Fr (fun k=>k=B\/rowB (hd 262)=some k) w w')(hr:∀k,rowB v'=some k->rowB (hd 262)=some k\/w.heap.size<=k) :
  WhA w' B M base (hset hd 262 v') now u c d' f n:=by
 have oth:∀i d,i<263->i≠262->OwnF w base (hd i) d->OwnF w' base (hd i) d:=fun i d hi hne o=>o.fr hf (fun k hk hx=>by
  rcases hx with hx|hx
  ·exact Hd.ne h.head o (by rw[hk,hx])
  ·exact h.inj _ _ hi (by omega) hne k hk hx)
 refine⟨h',by rw[hset_ne _ _ (by omega)];exact h.h0,by rw[hset_ne _ _ (by omega)];exact h.h1,fun a ha=>by rw[hset_ne _ _ (by omega)];exact h.hu a ha,fun a b ha hb=>?_,by rw[hset_same];exact o',h.map.of_block (hf.block M h.map.lt (fun hx=>?_)),fun i j hi hj hij k hk=>?_,h.ub,h.nb,h.lowB,h.lowM⟩
 ·rw[hset_ne _ _ (by omega)];exact oth _ _ (by omega) (by omega) (h.slot a b ha hb)
 ·rcases hx with hx|hx
  ·exact h.BM hx
  ·exact(h.rowLt (by omega) hx).2.2.2 rfl
 ·have old:∀j,j<263->j≠262->∀k,rowB v'=some k->rowB (hd j)≠some k:=fun j hj h1 k hk hk2=>by
   rcases hr k hk with hk|hk
   ·exact h.inj _ _ hj (by omega) h1 k hk2 hk
   ·have:=(h.rowLt hj hk2).2.1;omega
  by_cases c3:i=262
  ·subst c3;rw[hset_same] at hk;rw[hset_ne _ _ (fun x=>hij x.symm)];exact old j hj (fun x=>hij x.symm) k hk
  ·rw[hset_ne _ _ c3] at hk;by_cases c4:j=262
   ·subst c4;rw[hset_same];exact fun hv=>old i hi c3 k hv hk
   ·rw[hset_ne _ _ c4];exact h.inj i j hi hj hij k hk
theorem foot_far{v':Value}(hr:∀k,rowB v'=some k->rowB (hd 262)=some k\/w.heap.size<=k):∀k,foot B M (hset hd 262 v') k->foot B M hd k\/w.heap.size<=k:=by
 intro k hk;rcases hk with hk|hk|⟨i,hi,hk⟩
 ·exact .inl (.inl hk)
 ·exact .inl (.inr (.inl hk))
 ·by_cases c3:i=262
  ·subst c3;rw[hset_same] at hk
   rcases hr k hk with hk|hk
   ·exact .inl (.inr (.inr ⟨_,hi,hk⟩))
   ·exact .inr hk
  ·rw[hset_ne _ _ c3] at hk;exact .inl (.inr (.inr ⟨i,hi,hk⟩))
theorem WhA.mapSet(h:WhA w B M base hd now u c far f n){g:Int->Option Int}{m:Nat}(hm:DuM w' M g m)(hg:w.grownBy w' (some M)):WhA w' B M base hd now u c far g m:=by
 have hf:Fr (fun k=>k=M) w w':=(Fr.of_grown hg).mono (fun j hj=>by injection hj with hj;exact hj.symm);exact⟨h.head.fr hf (fun e=>h.BM e.symm),h.h0,h.h1,h.hu,fun l s hl hs=>(h.slot l s hl hs).fr hf (fun k hk=>(h.rowLt (by omega) hk).2.2.2),h.far.fr hf (fun k hk=>(h.rowLt (by omega) hk).2.2.2),hm,h.inj,h.ub,h.nb,h.lowB,h.lowM⟩
end
end Go.Proofs.YtjpbngiddjkjiaaGreatDoor.Wl
