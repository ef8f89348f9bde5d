import Derived.Test.YthpgfmmpjoodkaaGreatDoorA0
import Derived.Test.YthpgfmmpjoodkaaGreatDoorWEntS
import Derived.Maps.OwnSet
import Derived.Maps.Keyed
import Derived.Maps.AppendAt
namespace Go.Proofs.YthpgfmmpjoodkaaGreatDoor.Wl
set_option maxHeartbeats 8000000
set_option maxRecDepth 100000
set_option linter.unusedVariables false
section
open Go.RowKit Go.Lib Go.Sort
theorem Hd.congr{w:World}{B:Nat}{hd he:Nat→Value}(h:Hd w B hd)(e:∀k,k<263→hd k=he k):Hd w B he:=by
 obtain⟨cs,h1,h2,h3⟩:=h
 exact⟨cs,h1,h2,fun k hk=>by rw[h3 k hk,e k hk]⟩
def nilV:Value:=.slice none 0 0
def dropU(u s:Nat)(d:List Ent):Nat:=if d=[] then clr u (2^s) else u
def DropIs(w:World)(B R s base u:Nat)(hd:Nat→Value)(v:Value)(d:List Ent)(w':World):Prop:=
 ∃v',Hd w' B (hset (hset hd (R+1+s) v') R (.int .u64 ((dropU u s d:Nat):Int)))∧OwnF w' base v' d∧Fr (fun k=>k=B∨rowB v=some k) w w'∧∀k,rowB v'=some k→rowB v=some k
theorem rdrop_any(B R s base u:Nat)(hd:Nat→Value)(v:Value)(d:List Ent)(t:Ent)(w:World)(h:Hd w B hd)(hR:R+65≤263)(hs:s<64)(hu:hd R=.int .u64 u)(hub:u<B64)(hv:hd (R+1+s)=v)(o:OwnF w base v d)(hdn:d.Nodup)(ht:t∈d) :
  Calls Tryz.prog 306 #[.pointer (some ⟨B,R,none⟩),.int .i64 s,.agg #[.int .u64 t.1,.int .i64 t.2]] w fun e w'=>e=.returned (.tuple #[])∧DropIs w B R s base u hd v (d.erase t) w':=by
 obtain⟨S,hS⟩:∃S,w.heap.size=S:=⟨_,rfl⟩
 obtain⟨u0,hu0⟩:∃u0,w.alloc (.cells #[.int .u64 t.1,.int .i64 t.2] 131)=u0:=⟨_,rfl⟩
 have b0:Below w.heap.size w u0:=by rw[←hu0];exact(Below.refl _ _).alloc (Nat.le_refl _) _
 have b0d:Below w.heap.size w u0.drew:=b0.drew
 have hBl:=h.lt
 have h0:Hd u0.drew B hd:=h.of_block (b0d.block B hBl)
 have wo:=without_any v base d t u0.drew (o.below b0d) hdn ht
 obtain⟨va,vc,e0,-,hvc,hvm,-⟩:=o.isL
 obtain⟨vn,hvn⟩:∃n,d.length=n:=⟨_,rfl⟩
 rw[hvn] at e0
 have hv':hd (R+1+s)=.slice va vn vc:=hv.trans e0
 have K0:Aside (u0.drew.cell? ⟨B,R+1+s,none⟩=some (.slice va vn vc)∧u0.drew.cell? ⟨S,0,none⟩=some (.int .u64 t.1)∧u0.drew.cell? ⟨S,1,none⟩=some (.int .i64 t.2)):=by
  refine⟨?_,?_,?_⟩
  ·have:=h0.cell (k:=R+1+s) (by omega);rw[hv'] at this;exact this
  ·show u0.cell? _=_;rw[←hu0,←hS];simp[go_sem]
  ·show u0.cell? _=_;rw[←hu0,←hS];simp[go_sem]
 have hne:∀k,S≤k→rowB v≠some k:=fun k hk e=>by have:=(o.rowLt e).2;omega
 have hnB:=Hd.ne h o
 have W0:Aside (Calls Tryz.prog 307 #[.slice va vn vc,.agg #[.int .u64 t.1,.int .i64 t.2]] u0.drew fun r w'=>∃v',r=.returned v'∧OwnF w' base v' (d.erase t)∧rowB v'=rowB v∧u0.drew.grownBy w' (rowB v)):=by rw[←e0];exact wo
 have NX:Aside (∀w1 pa pn pc,OwnF w1 base (.slice pa pn pc) (d.erase t)→rowB (.slice pa pn pc)=rowB v→u0.drew.grownBy w1 (rowB v)→
   (w1.cell? ⟨B,R+1+s,none⟩=some (.slice va vn vc)∧w1.cell? ⟨S,0,none⟩=some (.int .u64 t.1)∧w1.cell? ⟨S,1,none⟩=some (.int .i64 t.2))∧Hd (w1.setCell ⟨B,R+1+s,none⟩ (.slice pa pn pc)) B (hset hd (R+1+s) (.slice pa pn pc))∧w1.frozen? ⟨B,R+1+s,none⟩=false∧
   OwnF (w1.setCell ⟨B,R+1+s,none⟩ (.slice pa pn pc)) base (.slice pa pn pc) (d.erase t)∧Fr (fun k=>k=B∨rowB v=some k) w (w1.setCell ⟨B,R+1+s,none⟩ (.slice pa pn pc))∧pn=(d.erase t).length):=by
  intro w1 pa pn pc o1 r1 g1
  have h1:Hd w1 B hd:=h0.of_block (g1.block B h0.lt (fun e=>hnB e.symm))
  refine⟨⟨?_,g1.cell K0.out.2.1 (fun e=>hne S (Nat.le_refl _) e.symm),g1.cell K0.out.2.2 (fun e=>hne S (Nat.le_refl _) e.symm)⟩,h1.set _ _,h1.frozen _,o1.of_block (fun k hk=>heap_setCell_other _ _ _ _ (fun e=>hnB (by rw[←r1,hk,e]))),?_,?_⟩
  ·have:=h1.cell (k:=R+1+s) (by omega);rw[hv'] at this;exact this
  ·exact((Fr.below b0d).trans (Fr.of_grown g1) (fun j hj=>.inl (.inr hj))).trans (Fr.setCell _ _ _ _ _ (.inl rfl)) (fun j hj=>.inl hj)
  ·obtain⟨_,_,e,_⟩:=o1.isL
   injection e
 have HU0:Hid _:=hu0
 have HUu:Hid (hd R=.int .u64 u):=hu
 have hub2:u<18446744073709551616:=hub
 have hp:2^s<18446744073709551616:=show 2^s<2^64 from Nat.pow_lt_pow_right (by omega) hs
 have x1:IntKind.u64.wrap (2^s)=((2^s:Nat):Int):=by
  have e:(2^s:Int)=((2^s:Nat):Int):=by push_cast;rfl
  rw[e,IntKind.wrap_u64]
  generalize 2^s=P at hp
  omega
 have x2:bits BinOp.andNot IntKind.u64 (u:Int) ((2^s:Nat):Int)=((clr u (2^s):Nat):Int):=u64_andNot_nat u (2^s) hub2 hp
 have X1:Hid _:=x1
 have X2:Hid _:=x2
 have hs1:(s:Int)<64:=by omega
 have mx:=mixed
 clear h o b0 b0d hBl h0 wo hvm hvc hv hv' e0 hne hnB hu0 hu hub hub2 hp x1 x2 hdn ht hvn
 go_enter Tryz.func306,Tryz.ntmps306
 go_upto_region 1 with fail
 rw[HU0.out]
 refine anyE_start (S:=(fun v0=>v0.cell? ⟨B,R+1+s,none⟩=some (.slice va vn vc)∧v0.cell? ⟨S,0,none⟩=some (.int .u64 t.1)∧v0.cell? ⟨S,1,none⟩=some (.int .i64 t.2))) (L:=13) (by kernel_rfl) ?_
 refine anyE_t (i:=0) (oi:=⟨some 6,Op.move (.tmp 0),324,"wheel.go:81",#[],none⟩) (v:=?_) rfl (by kernel_rfl) (fun _ _ _ h=>h) (Or.inl ⟨by rfl,?_⟩) (K0.out) ?_
 rotate_left
 ·intro w z;(try dsimp only at z);go_simp;try with_reducible rfl
 simp only[Act.put,sA,sB,sC]
 refine anyE_t (i:=1) (oi:=⟨some 7,Op.move (.tmp 1),3,"wheel.go:81",#[],none⟩) (v:=?_) rfl (by kernel_rfl) (fun _ _ _ h=>h) (Or.inl ⟨by rfl,?_⟩) (K0.out) ?_
 rotate_left
 ·intro w z;(try dsimp only at z);go_simp;try with_reducible rfl
 simp only[Act.put,sA,sB,sC]
 refine anyE_t (i:=2) (oi:=⟨some 8,Op.move (.tmp 0),324,"wheel.go:81",#[],none⟩) (v:=?_) rfl (by kernel_rfl) (fun _ _ _ h=>h) (Or.inl ⟨by rfl,?_⟩) (K0.out) ?_
 rotate_left
 ·intro w z;(try dsimp only at z);go_simp;try with_reducible rfl
 simp only[Act.put,sA,sB,sC]
 refine anyE_t (i:=3) (oi:=⟨some 9,Op.move (.tmp 1),3,"wheel.go:81",#[],none⟩) (v:=?_) rfl (by kernel_rfl) (fun _ _ _ h=>h) (Or.inl ⟨by rfl,?_⟩) (K0.out) ?_
 rotate_left
 ·intro w z;(try dsimp only at z);go_simp;try with_reducible rfl
 simp only[Act.put,sA,sB,sC]
 refine anyE_t (i:=4) (oi:=⟨some 10,Op.nilCheck (.tmp 8),0,"wheel.go:81",#[⟨2,.data⟩],none⟩) (v:=?_) rfl (by kernel_rfl) (fun _ _ _ h=>h) (Or.inl ⟨by rfl,?_⟩) (K0.out) ?_
 rotate_left
 ·intro w z;(try dsimp only at z);go_simp;try with_reducible rfl
 simp only[Act.put,sA,sB,sC]
 refine anyE_t (i:=5) (oi:=⟨some 11,Op.fieldAddr 173 (.tmp 10) 1,0,"wheel.go:81",#[⟨4,.data⟩],none⟩) (v:=?_) rfl (by kernel_rfl) (fun _ _ _ h=>h) (Or.inl ⟨by rfl,?_⟩) (K0.out) ?_
 rotate_left
 ·intro w z;(try dsimp only at z);go_simp;try with_reducible rfl
 simp only[Act.put,sA,sB,sC]
 refine anyE_t (i:=6) (oi:=⟨some 12,Op.indexAddr 171 (.tmp 11) (.tmp 9),0,"wheel.go:81",#[⟨5,.data⟩,⟨3,.data⟩],none⟩) (v:=?_) rfl (by kernel_rfl) (fun _ _ _ h=>h) (Or.inl ⟨by rfl,?_⟩) (K0.out) ?_
 rotate_left
 ·intro w z;(try dsimp only at z);go_simp;try with_reducible rfl
 simp only[Act.put,sA,sB,sC]
 refine anyE_t (i:=7) (oi:=⟨some 13,Op.load 39 (.tmp 12),39,"wheel.go:81",#[⟨6,.data⟩],none⟩) (v:=?_) rfl (by kernel_rfl) (fun _ _ _ h=>h) (Or.inl ⟨by rfl,?_⟩) (K0.out) ?_
 rotate_left
 ·intro w z;(try dsimp only at z);go_simp;try with_reducible rfl
 simp only[Act.put,sA,sB,sC]
 refine anyE_t (i:=8) (oi:=⟨some 14,Op.load 131 (.tmp 5),131,"wheel.go:81",#[],none⟩) (v:=?_) rfl (by kernel_rfl) (fun _ _ _ h=>h) (Or.inl ⟨by rfl,?_⟩) (K0.out) ?_
 rotate_left
 ·intro w z;(try dsimp only at z);go_simp;try with_reducible rfl
 simp only[Act.put,sA,sB,sC]
 refine anyF_take [11,12] (i:=10) (oi:=⟨some 16,Op.nilCheck (.tmp 6),0,"wheel.go:81",#[⟨0,.data⟩],none⟩) (v:=?_) rfl (by kernel_rfl) (by kernel_rfl) (by kernel_rfl) (by kernel_rfl) (by kernel_rfl) (fun _ _ _ h=>h) (Or.inl ⟨by rfl,?_⟩) (K0.out) ?_
 rotate_left
 ·intro w z;(try dsimp only at z);go_simp;try with_reducible rfl
 simp only[Act.put,sA,sB,sC]
 refine anyF_take [12] (i:=11) (oi:=⟨some 17,Op.fieldAddr 173 (.tmp 16) 1,0,"wheel.go:81",#[⟨10,.data⟩],none⟩) (v:=?_) rfl (by kernel_rfl) (by kernel_rfl) (by kernel_rfl) (by kernel_rfl) (by kernel_rfl) (fun _ _ _ h=>h) (Or.inl ⟨by rfl,?_⟩) (K0.out) ?_
 rotate_left
 ·intro w z;(try dsimp only at z);go_simp;try with_reducible rfl
 simp only[Act.put,sA,sB,sC]
 refine anyE_ready (rs:=[9]) (by kernel_rfl) (by simp) ?_
 refine AllE.cons (o:={dst:=some 15,op:=Op.call {callee:=Callee.value (Operand.func 307),args:=#[Operand.tmp 13,Operand.tmp 14],argTypes:=#[39,131]},type:=39,pos:= "wheel.go:81",after:=#[⟨7,.data⟩,⟨8,.data⟩],guard:=none}) rfl (fun Kt hKt=>?_) ?_
 ·go_simp
  (with_reducible refine Calls.mono W0.out ?_)
  rintro x_ w1 ⟨v',rfl,o1,r1,g1⟩
  obtain⟨pa,pc,e1,-⟩:=o1.isL
  obtain⟨pn,hpn⟩:∃n,(d.erase t).length=n:=⟨_,rfl⟩
  rw[hpn] at e1
  subst e1
  obtain⟨y1,y2,y3,y4,y5,-⟩:=NX.out w1 pa pn pc o1 r1 g1
  have z1:=y1.1
  have Y2:Aside (Hd (w1.setCell ⟨B,R+1+s,none⟩ (.slice pa pn pc)) B (hset hd (R+1+s) (.slice pa pn pc))):=y2
  have Y4:Aside (OwnF (w1.setCell ⟨B,R+1+s,none⟩ (.slice pa pn pc)) base (.slice pa pn pc) (d.erase t)):=y4
  have Y5:Aside (Fr (fun k=>k=B∨rowB v=some k) w (w1.setCell ⟨B,R+1+s,none⟩ (.slice pa pn pc))):=y5
  have R1:Aside (rowB (.slice pa pn pc)=rowB v):=r1
  have HPN:Hid _:=hpn
  clear o1 r1 g1 y2 y4 y5 W0 NX K0 hpn
  dsimp only
  refine hKt.out _ _ (fun _=>y1) ?_
  clear hKt Kt
  try simp only[Act.put,sA,sB,sC]
  refine anyE_t (i:=12) (oi:=⟨some 18,Op.indexAddr 171 (.tmp 17) (.tmp 7),0,"wheel.go:81",#[⟨11,.data⟩,⟨1,.data⟩,⟨0,.phase⟩,⟨1,.phase⟩,⟨2,.phase⟩,⟨3,.phase⟩,⟨4,.phase⟩,⟨5,.phase⟩,⟨6,.phase⟩,⟨7,.phase⟩,⟨8,.phase⟩,⟨9,.phase⟩],none⟩) (v:=?_) rfl (by kernel_rfl) (fun _ _ _ h=>h) (Or.inl ⟨by rfl,?_⟩) (y1) ?_
  rotate_left
  ·intro w z;(try dsimp only at z);go_simp;try with_reducible rfl
  simp only[Act.put,sA,sB,sC]
  refine anyE_ready (rs:=[13]) (by kernel_rfl) (by simp) ?_
  refine AllE.cons (o:=⟨none,Op.store 39 (.tmp 18) (.tmp 15),0,"wheel.go:81",#[⟨12,.data⟩,⟨9,.data⟩,⟨9,.chain⟩,⟨0,.phase⟩,⟨1,.phase⟩,⟨2,.phase⟩,⟨3,.phase⟩,⟨4,.phase⟩,⟨5,.phase⟩,⟨6,.phase⟩,⟨7,.phase⟩,⟨8,.phase⟩,⟨9,.phase⟩],none⟩) rfl (fun Kt hKt=>?_) ?_
  ·go_simp
   refine hKt.out _ _ (fun h=>absurd rfl h) ?_
   clear hKt Kt
   try simp only[Act.put,sA,sB,sC]
   refine anyE_done (by kernel_rfl) ?_ _
   obtain⟨w2,hw2⟩:∃w2,(w1.setCell ⟨B,R+1+s,none⟩ (.slice pa pn pc))=w2:=⟨_,rfl⟩
   rw[hw2] at Y2 Y4 Y5
   rw[hw2]
   clear hw2 z1 y1 y3
   have q0:=Y2.out.cell (k:=R+1+s) (by omega)
   rw[hset_same] at q0
   have q1:=Y2.out.frozen (R+1+s)
   have bB:=Y2.out.lt
   by_cases hE0:d.erase t=[]
   ·have HE:Hid (d.erase t=[]):=hE0
    obtain rfl:pn=0:=by rw[←HPN.out,hE0];rfl
    clear hE0
    have h3:=Y2.out.set (R+1+s) nilV
    obtain⟨w3,hw3⟩:∃w3,w2.setCell ⟨B,R+1+s,none⟩ nilV=w3:=⟨_,rfl⟩
    rw[hw3] at h3
    have HW3:Hid (w2.setCell ⟨B,R+1+s,none⟩ (.slice none 0 0)=w3):=hw3
    have q2:=h3.frozen R
    have q4:=h3.cell (k:=R) (by omega)
    rw[hset_ne _ _ (by omega),hset_ne _ _ (by omega),HUu.out] at q4
    have q3:w3.drew.cell? ⟨B,R,none⟩=some (.int .u64 u):=q4
    have FIN:Aside (DropIs w B R s base u hd v (d.erase t) (w3.setCell ⟨B,R,none⟩ (.int .u64 ((clr u (2^s):Nat):Int))).drew):=by
     refine⟨nilV,?_,?_,?_,fun k hk=>by cases hk⟩
     ·refine((h3.set R (.int .u64 ((clr u (2^s):Nat):Int))).of_block rfl).congr fun k hk=>?_
      unfold dropU
      rw[if_pos HE.out]
      by_cases c1:k=R
      ·subst c1;rw[hset_same,hset_same]
      ·rw[hset_ne _ _ c1,hset_ne _ _ c1]
       by_cases c2:k=R+1+s
       ·subst c2;rw[hset_same,hset_same]
       ·rw[hset_ne _ _ c2,hset_ne _ _ c2,hset_ne _ _ c2]
     ·rw[HE.out];exact OwnF.nil _ _
     ·refine((Y5.out.trans (by rw[←hw3];exact Fr.setCell _ _ _ _ _ (.inl rfl)) (fun j hj=>.inl hj)).trans (Fr.setCell _ _ _ _ _ (.inl rfl)) (fun j hj=>.inl hj)).trans (Fr.below (X:=fun _=>False) ((Below.refl _ _).drew)) (fun j hj=>hj.elim)
    clear h3 hw3
    go_upto_region 4 with fail
    rw[HW3.out]
    refine anyE_start (S:=(fun v0=>v0.cell? ⟨B,R,none⟩=some (.int .u64 u))) (L:=9) (by kernel_rfl) ?_
    refine anyE_t (i:=0) (oi:=⟨some 32,Op.move (.tmp 0),324,"wheel.go:84",#[],none⟩) (v:=?_) rfl (by kernel_rfl) (fun _ _ _ h=>h) (Or.inl ⟨by rfl,?_⟩) (q3) ?_
    rotate_left
    ·intro w z;(try dsimp only at z);go_simp;try with_reducible rfl
    simp only[Act.put,sA,sB,sC]
    refine anyE_t (i:=1) (oi:=⟨some 33,Op.nilCheck (.tmp 32),0,"wheel.go:84",#[⟨0,.data⟩],none⟩) (v:=?_) rfl (by kernel_rfl) (fun _ _ _ h=>h) (Or.inl ⟨by rfl,?_⟩) (q3) ?_
    rotate_left
    ·intro w z;(try dsimp only at z);go_simp;try with_reducible rfl
    simp only[Act.put,sA,sB,sC]
    refine anyE_t (i:=2) (oi:=⟨some 34,Op.fieldAddr 173 (.tmp 33) 0,0,"wheel.go:84",#[⟨1,.data⟩],none⟩) (v:=?_) rfl (by kernel_rfl) (fun _ _ _ h=>h) (Or.inl ⟨by rfl,?_⟩) (q3) ?_
    rotate_left
    ·intro w z;(try dsimp only at z);go_simp;try with_reducible rfl
    simp only[Act.put,sA,sB,sC]
    refine anyE_t (i:=3) (oi:=⟨some 35,Op.load 34 (.tmp 34),34,"wheel.go:84",#[⟨2,.data⟩],none⟩) (v:=?_) rfl (by kernel_rfl) (fun _ _ _ h=>h) (Or.inl ⟨by rfl,?_⟩) (q3) ?_
    rotate_left
    ·intro w z;(try dsimp only at z);go_simp;try with_reducible rfl
    simp only[Act.put,sA,sB,sC]
    refine anyE_t (i:=4) (oi:=⟨some 36,Op.move (.tmp 1),3,"wheel.go:84",#[],none⟩) (v:=?_) rfl (by kernel_rfl) (fun _ _ _ h=>h) (Or.inl ⟨by rfl,?_⟩) (q3) ?_
    rotate_left
    ·intro w z;(try dsimp only at z);go_simp;try with_reducible rfl
    simp only[Act.put,sA,sB,sC]
    refine anyE_t (i:=5) (oi:=⟨some 37,Op.binOp BinOp.shl 34 (Operand.const (Value.int IntKind.u64 1)) (.tmp 36) 3,34,"wheel.go:84",#[⟨4,.data⟩],none⟩) (v:=?_) rfl (by kernel_rfl) (fun _ _ _ h=>h) (Or.inl ⟨by rfl,?_⟩) (q3) ?_
    rotate_left
    ·intro w z;(try dsimp only at z);go_simp;try with_reducible rfl
    simp only[Act.put,sA,sB,sC]
    refine anyE_t (i:=6) (oi:=⟨some 38,Op.binOp BinOp.andNot 34 (.tmp 35) (.tmp 37) 34,34,"wheel.go:84",#[⟨3,.data⟩,⟨5,.data⟩],none⟩) (v:=?_) rfl (by kernel_rfl) (fun _ _ _ h=>h) (Or.inl ⟨by rfl,?_⟩) (q3) ?_
    rotate_left
    ·intro w z;(try dsimp only at z);go_simp;try with_reducible rfl
    simp only[Act.put,sA,sB,sC]
    refine anyF_take [8] (i:=7) (oi:=⟨some 39,Op.nilCheck (.tmp 32),0,"wheel.go:84",#[⟨0,.data⟩,⟨0,.phase⟩,⟨1,.phase⟩,⟨2,.phase⟩,⟨3,.phase⟩,⟨4,.phase⟩,⟨5,.phase⟩,⟨6,.phase⟩],none⟩) (v:=?_) rfl (by kernel_rfl) (by kernel_rfl) (by kernel_rfl) (by kernel_rfl) (by kernel_rfl) (fun _ _ _ h=>h) (Or.inl ⟨by rfl,?_⟩) (q3) ?_
    rotate_left
    ·intro w z;(try dsimp only at z);go_simp;try with_reducible rfl
    simp only[Act.put,sA,sB,sC]
    refine anyE_t (i:=8) (oi:=⟨some 40,Op.fieldAddr 173 (.tmp 39) 0,0,"wheel.go:84",#[⟨7,.data⟩,⟨0,.phase⟩,⟨1,.phase⟩,⟨2,.phase⟩,⟨3,.phase⟩,⟨4,.phase⟩,⟨5,.phase⟩,⟨6,.phase⟩],none⟩) (v:=?_) rfl (by kernel_rfl) (fun _ _ _ h=>h) (Or.inl ⟨by rfl,?_⟩) (q3) ?_
    rotate_left
    ·intro w z;(try dsimp only at z);go_simp;try with_reducible rfl
    simp only[Act.put,sA,sB,sC]
    refine anyE_ready (rs:=[9]) (by kernel_rfl) (by simp) ?_
    refine AllE.cons (o:=⟨none,Op.store 34 (.tmp 40) (.tmp 38),0,"wheel.go:84",#[⟨8,.data⟩,⟨6,.data⟩,⟨0,.phase⟩,⟨1,.phase⟩,⟨2,.phase⟩,⟨3,.phase⟩,⟨4,.phase⟩,⟨5,.phase⟩,⟨6,.phase⟩],none⟩) rfl (fun Kt hKt=>?_) ?_
    ·go_simp
     refine hKt.out _ _ (fun h=>absurd rfl h) ?_
     clear hKt Kt
     try simp only[Act.put,sA,sB,sC]
     refine anyE_done (by kernel_rfl) ?_ _
     rw[X1.out,X2.out]
     go_wp2
     go_end0
     exact⟨rfl,FIN.out⟩
    exact AllE.nil
   ·have HE:Hid (¬d.erase t=[]):=hE0
    have hn0:¬pn=0:=fun e=>hE0 (List.length_eq_zero_iff.1 (HPN.out.trans e))
    have hn1:((pn:Int)==0)=false:=by simp;omega
    clear hE0
    have FIN:Aside (DropIs w B R s base u hd v (d.erase t) w2):=by
     refine⟨_,Y2.out.congr fun k hk=>?_,Y4.out,Y5.out,fun k hk=>by rw[←R1.out];exact hk⟩
     unfold dropU
     rw[if_neg HE.out]
     by_cases c1:k=R
     ·subst c1;rw[hset_same,hset_ne _ _ (by omega)];exact HUu.out
     ·rw[hset_ne _ _ c1]
    go_wp2
    go_end0
    exact⟨rfl,FIN.out⟩
  exact AllE.nil
 exact AllE.nil
end
section
open Go.RowKit Go.Lib Go.Sort Go.WideMaps Go.Maps
theorem keyedI:Keyed Tryz.prog 3:=int_keyed Tryz.underlying3
abbrev wfI(a:Int):Prop:=(Lit.int .i64 a).wf=true
theorem key_int{a:Int}(wa:wfI a):keyOf Tryz.prog 3 (.int .i64 a)=some (.int .i64 a):=keyOf_int_mk Tryz.underlying3 wa
def heldR(v:Value):Option (DataW Value×List MemPlace):=some (.held v,[])
theorem zeroU(w:World):(zeroValue 34).run Tryz.prog w=.ok (.int .u64 0) w:=by kernel_rfl
def DuM(w:World)(M:Nat)(f:Int→Option Int)(n:Nat):Prop:=
 ∃D:DataW Value,w.ownsMap Tryz.prog 3 heldR M n D∧Maps.size D=n∧∀i,wfI i→Maps.has D (.int .i64 i)=(f i).isSome∧∀v,f i=some v→∀z,D.atKey (.int .i64 i) z=.held (.int .u64 v)
theorem own_tight{w:World}{M n:Nat}{D:DataW Value}(h:w.ownsMap Tryz.prog 3 heldR M n D):w.ownsMap Tryz.prog 3 heldR M (Maps.size D) D:=by
 obtain⟨es,cl,h1,h2,h3,rfl⟩:=h
 exact⟨es,cl,h1,h2,by simp[Maps.size,length_sorted],rfl⟩
theorem DuM.lt{w:World}{M n:Nat}{f:Int→Option Int}(h:DuM w M f n):M<w.heap.size:=by
 obtain⟨D,h1,_⟩:=h
 exact h1.lt
theorem DuM.isMap{w:World}{M n:Nat}{f:Int→Option Int}(h:DuM w M f n):∃es c,w.heap[M]?=some (.map es c):=by
 obtain⟨D,⟨es,c,hb,_⟩,_⟩:=h
 exact⟨es,c,hb⟩
theorem DuM.of_block{w w':World}{M n:Nat}{f:Int→Option Int}(h:DuM w M f n)(e:w'.heap[M]?=w.heap[M]?):DuM w' M f n:=by
 obtain⟨D,⟨es,c,hb,r⟩,h3⟩:=h
 exact⟨D,⟨es,c,e.trans hb,r⟩,h3⟩
theorem DuM.made(w:World):DuM (w.alloc (.map #[] 0)) w.heap.size (fun _=>none) 0:=
 ⟨.map [],World.ownsMap_made w _ _ _,rfl,fun i _=>⟨rfl,fun v hv=>by cases hv⟩⟩
theorem DuM.look{w:World}{M n:Nat}{f:Int→Option Int}(h:DuM w M f n){i:Int}(wi:wfI i){v:Int}(hv:f i=some v) :
  (Instr.lookup 170 (.map (some M)) (.int .i64 i) true).run Tryz.prog w=.ok (.tuple #[.int .u64 v,.bool true]) w:=by
 obtain⟨D,h1,h2,h3⟩:=h
 obtain⟨v',ps,hr,hv'⟩:=h1.look_ok keyedI Tryz.underlying170 (zeroU w) (zd:=.held (.int .u64 0)) (zp:=[]) rfl (key_int wi)
 rw[((h3 i wi).2 v hv) _] at hv'
 rw[(h3 i wi).1,hv] at hr
 unfold heldR at hv'
 simp only[Option.some.injEq,Prod.mk.injEq,DataW.held.injEq] at hv'
 rw[←hv'.1]
 exact hr
theorem DuM.look_no{w:World}{M n:Nat}{f:Int→Option Int}(h:DuM w M f n){i:Int}(wi:wfI i)(hv:f i=none) :
  (Instr.lookup 170 (.map (some M)) (.int .i64 i) true).run Tryz.prog w=.ok (.tuple #[.int .u64 0,.bool false]) w:=by
 obtain⟨D,h1,h2,h3⟩:=h
 obtain⟨v',ps,hr,hv'⟩:=h1.look_ok keyedI Tryz.underlying170 (zeroU w) (zd:=.held (.int .u64 0)) (zp:=[]) rfl (key_int wi)
 have hh:=(h3 i wi).1
 rw[hv] at hh
 rw[Maps.atKey_of_not_has hh] at hv'
 rw[hh] at hr
 unfold heldR at hv'
 simp only[Option.some.injEq,Prod.mk.injEq,DataW.held.injEq] at hv'
 rw[←hv'.1]
 exact hr
def fdel(f:Int→Option Int)(i:Int):Int→Option Int:=fun a=>if a=i then none else f a
theorem int_ne{a b:Int}(h:a≠b):(Lit.int .i64 a)≠.int .i64 b:=fun e=>h (by injection e)
theorem DuM.drop{w:World}{M n:Nat}{f:Int→Option Int}(h:DuM w M f (n+1)){i:Int}(wi:wfI i){v:Int}(hi:f i=some v)(ty:TypeId) :
  ∃w',(Builtin.delete_ #[170,3] ty #[.map (some M),.int .i64 i]).run Tryz.prog w=.ok (.tuple #[]) w'∧DuM w' M (fdel f i) n∧w.grownBy w' (some M):=by
 obtain⟨D,h1,h2,h3⟩:=h
 obtain⟨w',hr,ho,hm⟩:=h1.drop keyedI Tryz.underlying170 (key_int wi) ty
 have hsz:Maps.size (D.del (.int .i64 i))=n:=by
  have:=Maps.size_del (k:=.int .i64 i) (h1.tidy keyedI)
  rw[(h3 i wi).1,hi] at this
  simp at this
  omega
 refine⟨w',hr,⟨_,by have:=own_tight ho;rw[hsz] at this;exact this,hsz,fun a wa=>?_⟩,hm.grown⟩
 by_cases e:a=i
 ·subst e
  exact⟨by rw[Maps.has_del_same];simp[fdel],fun u hu z=>by simp[fdel] at hu⟩
 ·rw[Maps.has_del_other (int_ne e)]
  have:fdel f i a=f a:=by unfold fdel;rw[if_neg e]
  rw[this]
  refine⟨(h3 a wa).1,fun u hu z=>?_⟩
  rw[Maps.atKey_del_other (int_ne e)]
  exact(h3 a wa).2 u hu z
def lset{α:Type}(f:Nat→α)(t:Nat)(x:α):Nat→α:=fun i=>if i=t then x else f i
theorem lset_same{α:Type}(f:Nat→α)(t:Nat)(x:α):lset f t x t=x:=if_pos rfl
theorem lset_ne{α:Type}(f:Nat→α){t i:Nat}(x:α)(h:i≠t):lset f t x i=f i:=if_neg h
def cset(c:Nat→Nat→List Ent)(l s:Nat)(d:List Ent):Nat→Nat→List Ent:=fun a b=>if a=l∧b=s then d else c a b
theorem cset_same(c:Nat→Nat→List Ent)(l s:Nat)(d:List Ent):cset c l s d l s=d:=if_pos ⟨rfl,rfl⟩
theorem cset_ne(c:Nat→Nat→List Ent){l s a b:Nat}(d:List Ent)(h:¬(a=l∧b=s)):cset c l s d a b=c a b:=if_neg h
structure WhA(w:World)(B M base:Nat)(hd:Nat→Value)(now:Nat)(u:Nat→Nat)(c:Nat→Nat→List Ent)(far:List Ent)(f:Int→Option Int)(n:Nat):Prop where
 head:Hd w B hd
 h0:hd 0=.int .u64 now
 h1:hd 1=.map (some M)
 hu:∀l,l<4→hd (2+l*65)=.int .u64 (u l)
 slot:∀l s,l<4→s<64→OwnF w base (hd (2+l*65+1+s)) (c l s)
 far:OwnF w base (hd 262) far
 map:DuM w M f n
 inj:∀i j,i<263→j<263→i≠j→∀k,rowB (hd i)=some k→rowB (hd j)≠some k
 ub:∀l,l<4→u l<B64
 nb:now<B64
 lowB:base≤B
 lowM:base≤M
def foot(B M:Nat)(hd:Nat→Value)(k:Nat):Prop:=k=B∨k=M∨∃i,i<263∧rowB (hd i)=some k
variable {w w':World}{B M base now n:Nat}{hd:Nat→Value}{u:Nat→Nat}{c:Nat→Nat→List Ent}{far:List Ent}{f:Int→Option Int}
theorem cellCase(i:Nat)(hi:i<263):i=0∨i=1∨(∃l,l<4∧i=2+l*65)∨(∃l s,l<4∧s<64∧i=2+l*65+1+s)∨i=262:=by
 by_cases h0:i=0;· exact .inl h0
 by_cases h1:i=1;· exact .inr (.inl h1)
 by_cases h2:i=262;· exact .inr (.inr (.inr (.inr h2)))
 by_cases h3:(i-2)%65=0
 ·exact .inr (.inr (.inl ⟨(i-2)/65,by omega,by omega⟩))
 ·exact .inr (.inr (.inr (.inl ⟨(i-2)/65,(i-2)%65-1,by omega,by omega,by omega⟩)))
theorem WhA.own(h:WhA w B M base hd now u c far f n){i:Nat}(hi:i<263){k:Nat}(hk:rowB (hd i)=some k):∃d,OwnF w base (hd i) d:=by
 rcases cellCase i hi with rfl|rfl|⟨l,hl,rfl⟩|⟨l,s,hl,hs,rfl⟩|rfl
 ·rw[h.h0] at hk;cases hk
 ·rw[h.h1] at hk;cases hk
 ·rw[h.hu l hl] at hk;cases hk
 ·exact⟨_,h.slot l s hl hs⟩
 ·exact⟨_,h.far⟩
theorem WhA.rowLt(h:WhA w B M base hd now u c far f n){i:Nat}(hi:i<263){k:Nat}(hk:rowB (hd i)=some k):base≤k∧k<w.heap.size∧k≠B∧k≠M:=by
 obtain⟨d,o⟩:=h.own hi hk
 refine⟨(o.rowLt hk).1,(o.rowLt hk).2,fun e=>Hd.ne h.head o (by rw[hk,e]),fun e=>?_⟩
 obtain⟨cs,h1⟩:=o.rowT hk
 obtain⟨es,cl,h2⟩:=h.map.isMap
 rw[←e,h1] at h2
 cases h2
theorem WhA.BM(h:WhA w B M base hd now u c far f n):M≠B:=fun e=>by
 obtain⟨cs,h1⟩:=h.head.typ
 obtain⟨es,cl,h2⟩:=h.map.isMap
 rw[e,h1] at h2
 cases h2
theorem WhA.footLt(h:WhA w B M base hd now u c far f n){k:Nat}(hk:foot B M hd k):base≤k∧k<w.heap.size:=by
 rcases hk with rfl|rfl|⟨i,hi,hk⟩
 ·exact⟨h.lowB,h.head.lt⟩
 ·exact⟨h.lowM,h.map.lt⟩
 ·exact⟨(h.rowLt hi hk).1,(h.rowLt hi hk).2.1⟩
theorem WhA.fr(h:WhA w B M base hd now u c far f n){X:Nat→Prop}(hf:Fr X w w')(hx:∀k,foot B M hd k→¬X k):WhA w' B M base hd now u c far f n:=
 ⟨h.head.fr hf (hx B (.inl rfl)),h.h0,h.h1,h.hu,fun l s hl hs=>(h.slot l s hl hs).fr hf (fun k hk=>hx k (.inr (.inr ⟨_,by omega,hk⟩))),h.far.fr hf (fun k hk=>hx k (.inr (.inr ⟨_,by omega,hk⟩))),h.map.of_block (hf.block M h.map.lt (hx M (.inr (.inl rfl)))),h.inj,h.ub,h.nb,h.lowB,h.lowM⟩
theorem WhA.slotSet(h:WhA w B M base hd now u c far f n){l s u':Nat}(hl:l<4)(hs:s<64){v':Value}{d':List Ent}(h':Hd w' B (hset (hset hd (2+l*65+1+s) v') (2+l*65) (.int .u64 (u':Int))))(o':OwnF w' base v' d')(hf:Fr (fun k=>k=B∨rowB (hd (2+l*65+1+s))=some k) w w')(hr:∀k,rowB v'=some k→rowB (hd (2+l*65+1+s))=some k∨w.heap.size≤k)(hu':u'<B64) :
  WhA w' B M base (hset (hset hd (2+l*65+1+s) v') (2+l*65) (.int .u64 (u':Int))) now (lset u l u') (cset c l s d') far f n:=by
 have e:∀i,i≠2+l*65+1+s→i≠2+l*65→hset (hset hd (2+l*65+1+s) v') (2+l*65) (.int .u64 (u':Int)) i=hd i:=fun i h1 h2=>by rw[hset_ne _ _ h2,hset_ne _ _ h1]
 have e1:hset (hset hd (2+l*65+1+s) v') (2+l*65) (.int .u64 (u':Int)) (2+l*65)=.int .u64 (u':Int):=hset_same _ _ _
 have e2:hset (hset hd (2+l*65+1+s) v') (2+l*65) (.int .u64 (u':Int)) (2+l*65+1+s)=v':=by rw[hset_ne _ _ (by omega),hset_same]
 have oth:∀i d,i<263→i≠2+l*65+1+s→OwnF w base (hd i) d→OwnF w' base (hd i) d:=fun i d hi hne o=>o.fr hf (fun k hk hx=>by
  rcases hx with hx|hx
  ·exact Hd.ne h.head o (by rw[hk,hx])
  ·exact h.inj _ _ hi (by omega) hne k hk hx)
 refine⟨h',by rw[e 0 (by omega) (by omega)];exact h.h0,by rw[e 1 (by omega) (by omega)];exact h.h1,fun a ha=>?_,fun a b ha hb=>?_,?_,h.map.of_block (hf.block M h.map.lt (fun hx=>?_)),fun i j hi hj hij k hk=>?_,fun a ha=>?_,h.nb,h.lowB,h.lowM⟩
 ·by_cases ca:a=l
  ·subst ca;rw[e1,lset_same]
  ·rw[e _ (by omega) (by omega),lset_ne _ _ ca];exact h.hu a ha
 ·by_cases ca:a=l∧b=s
  ·obtain⟨rfl,rfl⟩:=ca
   rw[e2,cset_same];exact o'
  ·rw[cset_ne _ _ ca,e _ (by omega) (by omega)]
   exact oth _ _ (by omega) (by omega) (h.slot a b ha hb)
 ·rw[e 262 (by omega) (by omega)]
  exact oth _ _ (by omega) (by omega) h.far
 ·rcases hx with hx|hx
  ·exact h.BM hx
  ·exact(h.rowLt (by omega) hx).2.2.2 rfl
 ·have old:∀j,j<263→j≠2+l*65+1+s→j≠2+l*65→∀k,rowB v'=some k→rowB (hd j)≠some k:=fun j hj h1 h2 k hk hk2=>by
   rcases hr k hk with hk|hk
   ·exact h.inj _ _ hj (by omega) h1 k hk2 hk
   ·have:=(h.rowLt hj hk2).2.1;omega
  by_cases c1:i=2+l*65
  ·subst c1;rw[e1] at hk;cases hk
  ·by_cases c2:j=2+l*65
   ·subst c2;rw[e1];exact fun x=>by cases x
   ·by_cases c3:i=2+l*65+1+s
    ·subst c3
     rw[e2] at hk
     rw[e j (fun x=>hij x.symm) c2]
     exact old j hj (fun x=>hij x.symm) c2 k hk
    ·rw[e i c3 c1] at hk
     by_cases c4:j=2+l*65+1+s
     ·subst c4
      rw[e2]
      exact fun hv=>old i hi c3 c1 k hv hk
     ·rw[e j c4 c2];exact h.inj i j hi hj hij k hk
 ·by_cases ca:a=l
  ·subst ca;rw[lset_same];exact hu'
  ·rw[lset_ne _ _ ca];exact h.ub a ha
theorem foot_slot{l s u':Nat}(hl:l<4)(hs:s<64){v':Value}(hr:∀k,rowB v'=some k→rowB (hd (2+l*65+1+s))=some k∨w.heap.size≤k):∀k,foot B M (hset (hset hd (2+l*65+1+s) v') (2+l*65) (.int .u64 (u':Int))) k→foot B M hd k∨w.heap.size≤k:=by
 intro k hk
 rcases hk with hk|hk|⟨i,hi,hk⟩
 ·exact .inl (.inl hk)
 ·exact .inl (.inr (.inl hk))
 ·by_cases c1:i=2+l*65
  ·subst c1;rw[hset_same] at hk;cases hk
  ·rw[hset_ne _ _ c1] at hk
   by_cases c3:i=2+l*65+1+s
   ·subst c3;rw[hset_same] at hk
    rcases hr k hk with hk|hk
    ·exact .inl (.inr (.inr ⟨_,hi,hk⟩))
    ·exact .inr hk
   ·rw[hset_ne _ _ c3] at hk
    exact .inl (.inr (.inr ⟨i,hi,hk⟩))
theorem WhA.farSet(h:WhA w B M base hd now u c far f n){v':Value}{d':List Ent}(h':Hd w' B (hset hd 262 v'))(o':OwnF w' base v' d')(hf:Fr (fun k=>k=B∨rowB (hd 262)=some k) w w')(hr:∀k,rowB v'=some k→rowB (hd 262)=some k∨w.heap.size≤k) :
  WhA w' B M base (hset hd 262 v') now u c d' f n:=by
 have oth:∀i d,i<263→i≠262→OwnF w base (hd i) d→OwnF w' base (hd i) d:=fun i d hi hne o=>o.fr hf (fun k hk hx=>by
  rcases hx with hx|hx
  ·exact Hd.ne h.head o (by rw[hk,hx])
  ·exact h.inj _ _ hi (by omega) hne k hk hx)
 refine⟨h',by rw[hset_ne _ _ (by omega)];exact h.h0,by rw[hset_ne _ _ (by omega)];exact h.h1,fun a ha=>by rw[hset_ne _ _ (by omega)];exact h.hu a ha,fun a b ha hb=>?_,by rw[hset_same];exact o',h.map.of_block (hf.block M h.map.lt (fun hx=>?_)),fun i j hi hj hij k hk=>?_,h.ub,h.nb,h.lowB,h.lowM⟩
 ·rw[hset_ne _ _ (by omega)];exact oth _ _ (by omega) (by omega) (h.slot a b ha hb)
 ·rcases hx with hx|hx
  ·exact h.BM hx
  ·exact(h.rowLt (by omega) hx).2.2.2 rfl
 ·have old:∀j,j<263→j≠262→∀k,rowB v'=some k→rowB (hd j)≠some k:=fun j hj h1 k hk hk2=>by
   rcases hr k hk with hk|hk
   ·exact h.inj _ _ hj (by omega) h1 k hk2 hk
   ·have:=(h.rowLt hj hk2).2.1;omega
  by_cases c3:i=262
  ·subst c3
   rw[hset_same] at hk
   rw[hset_ne _ _ (fun x=>hij x.symm)]
   exact old j hj (fun x=>hij x.symm) k hk
  ·rw[hset_ne _ _ c3] at hk
   by_cases c4:j=262
   ·subst c4
    rw[hset_same]
    exact fun hv=>old i hi c3 k hv hk
   ·rw[hset_ne _ _ c4];exact h.inj i j hi hj hij k hk
theorem foot_far{v':Value}(hr:∀k,rowB v'=some k→rowB (hd 262)=some k∨w.heap.size≤k):∀k,foot B M (hset hd 262 v') k→foot B M hd k∨w.heap.size≤k:=by
 intro k hk
 rcases hk with hk|hk|⟨i,hi,hk⟩
 ·exact .inl (.inl hk)
 ·exact .inl (.inr (.inl hk))
 ·by_cases c3:i=262
  ·subst c3;rw[hset_same] at hk
   rcases hr k hk with hk|hk
   ·exact .inl (.inr (.inr ⟨_,hi,hk⟩))
   ·exact .inr hk
  ·rw[hset_ne _ _ c3] at hk
   exact .inl (.inr (.inr ⟨i,hi,hk⟩))
theorem WhA.mapSet(h:WhA w B M base hd now u c far f n){g:Int→Option Int}{m:Nat}(hm:DuM w' M g m)(hg:w.grownBy w' (some M)):WhA w' B M base hd now u c far g m:=by
 have hf:Fr (fun k=>k=M) w w':=(Fr.of_grown hg).mono (fun j hj=>by injection hj with hj;exact hj.symm)
 exact⟨h.head.fr hf (fun e=>h.BM e.symm),h.h0,h.h1,h.hu,fun l s hl hs=>(h.slot l s hl hs).fr hf (fun k hk=>(h.rowLt (by omega) hk).2.2.2),h.far.fr hf (fun k hk=>(h.rowLt (by omega) hk).2.2.2),hm,h.inj,h.ub,h.nb,h.lowB,h.lowM⟩
end
section
open Go.RowKit Go.Lib Go.Sort
def WGo(w:World)(B M base:Nat)(hd:Nat→Value)(now:Nat)(f:Int→Option Int)(n:Nat)(P:(Nat→Nat)→(Nat→Nat→List Ent)→List Ent→Prop)(w':World):Prop:=
 ∃hd' u' c' far',WhA w' B M base hd' now u' c' far' f n∧P u' c' far'∧Fr (foot B M hd) w w'∧∀k,foot B M hd' k→foot B M hd k∨w.heap.size≤k
theorem foot_row{B M i k:Nat}{hd:Nat→Value}(hi:i<263)(h:k=B∨rowB (hd i)=some k):foot B M hd k:=by
 rcases h with h|h
 ·exact .inl h
 ·exact .inr (.inr ⟨i,hi,h⟩)
theorem slt_lt'(now D:Nat):(plc now D).2<64:=slt_lt _ _
def DropP(now D:Nat)(t:Ent)(u:Nat→Nat)(c:Nat→Nat→List Ent)(far:List Ent)(u':Nat→Nat)(c':Nat→Nat→List Ent)(far':List Ent):Prop:=
 ((plc now D).1<4∧u'=lset u (plc now D).1 (dropU (u (plc now D).1) (plc now D).2 ((c (plc now D).1 (plc now D).2).erase t))∧c'=cset c (plc now D).1 (plc now D).2 ((c (plc now D).1 (plc now D).2).erase t)∧far'=far)∨
 (4≤(plc now D).1∧u'=u∧c'=c∧far'=far.erase t)
theorem dropU_lt(u s:Nat)(d:List Ent)(hu:u<B64):dropU u s d<B64:=by
 unfold dropU
 split
 ·exact clr_lt _ _ hu
 ·exact hu
theorem drop_any(w:World)(B M base now n D:Nat)(hd:Nat→Value)(u:Nat→Nat)(c:Nat→Nat→List Ent)(far:List Ent)(f:Int→Option Int)(t:Ent)(h:WhA w B M base hd now u c far f n)(htD:t.1=(D:Int))(hD:D<B64)(hin:(plc now D).1<4→(c (plc now D).1 (plc now D).2).Nodup∧t∈c (plc now D).1 (plc now D).2)(hif:4≤(plc now D).1→far.Nodup∧t∈far) :
  Calls Tryz.prog 297 #[.pointer (some ⟨B,0,none⟩),.agg #[.int .u64 t.1,.int .i64 t.2]] w fun e w'=>e=.returned (.tuple #[])∧WGo w B M base hd now f n (DropP now D t u c far) w':=by
 obtain⟨S,hS⟩:∃S,w.heap.size=S:=⟨_,rfl⟩
 obtain⟨u0,hu0⟩:∃u0,w.alloc (.cells #[.int .u64 t.1,.int .i64 t.2] 131)=u0:=⟨_,rfl⟩
 have b0:Below w.heap.size w u0:=by rw[←hu0];exact(Below.refl _ _).alloc (Nat.le_refl _) _
 have h0:WhA u0 B M base hd now u c far f n:=h.fr (Fr.below (X:=fun _=>False) b0) (fun _ _=>id)
 have z0:u0.cell? ⟨S,0,none⟩=some (.int .u64 t.1):=by rw[←hu0,←hS];simp[go_sem]
 have z1:u0.cell? ⟨S,1,none⟩=some (.int .i64 t.2):=by rw[←hu0,←hS];simp[go_sem]
 have s0:S<u0.heap.size:=by rw[←hu0,←hS];simp
 have hSu:u0.heap.size=S+1:=by rw[←hu0,←hS];simp
 have c0:=h0.head.cell (k:=0) (by omega)
 rw[h.h0] at c0
 have pl:=place_any B now D h.nb hD u0 c0
 rw[←htD] at pl
 have HU0:Hid _:=hu0
 obtain⟨L,hL⟩:∃L,(plc now D).1=L:=⟨_,rfl⟩
 obtain⟨Z,hZ⟩:∃Z,(plc now D).2=Z:=⟨_,rfl⟩
 have hZ64:Z<64:=by rw[←hZ];exact slt_lt' now D
 rw[hL,hZ] at pl hin
 rw[hL] at hif
 have b0d:Below w.heap.size w u0.drew:=b0.drew
 have h0d:WhA u0.drew B M base hd now u c far f n:=h.fr (Fr.below (X:=fun _=>False) b0d) (fun _ _=>id)
 by_cases hl4:L<4
 ·have hl4z:(L:Int)<4:=by omega
  obtain⟨hnd,hmem⟩:=hin hl4
  have rp:=rdrop_any B (2+L*65) Z base (u L) hd _ (c L Z) t u0.drew h0d.head (by omega) hZ64 (h.hu L hl4) (h.ub L hl4) rfl (h0d.slot L Z hl4 hZ64) hnd hmem
  have RP:Aside (Calls Tryz.prog 306 #[.pointer (some ⟨B,2+L*65,none⟩),.int .i64 Z,.agg #[.int .u64 t.1,.int .i64 t.2]] u0.drew fun e w'=>e=.returned (.tuple #[])∧WGo w B M base hd now f n (DropP now D t u c far) w'∧w'.cell? ⟨S,0,none⟩=some (.int .u64 t.1)∧w'.cell? ⟨S,1,none⟩=some (.int .i64 t.2)):=by
   refine Calls.mono rp ?_
   rintro e w' ⟨rfl,v',q1,q2,q3,q4⟩
   have qS:w'.heap[S]?=u0.drew.heap[S]?:=q3.block S s0 (fun hx=>by rcases hx with hx|hx;exact absurd h.head.lt (by omega);exact absurd (h.rowLt (by omega) hx).2.1 (by omega))
   refine⟨rfl,⟨_,_,_,_,h0d.slotSet hl4 hZ64 q1 q2 q3 (fun k hk=>.inl (q4 k hk)) (dropU_lt _ _ _ (h.ub L hl4)),.inl ⟨by rw[hL];exact hl4,by rw[hL,hZ],by rw[hL,hZ],rfl⟩,?_,fun k hk=>?_⟩,(World.cell?_of_block (a:=⟨S,0,none⟩) qS).trans z0,(World.cell?_of_block (a:=⟨S,1,none⟩) qS).trans z1⟩
   ·exact(Fr.below b0d).trans q3 (fun j hj=>.inl (foot_row (by omega) hj))
   ·rcases foot_slot (w:=u0.drew) hl4 hZ64 (fun k hk=>.inl (q4 k hk)) k hk with x|x
    ·exact .inl x
    ·right;have:u0.drew.heap.size=u0.heap.size:=rfl;omega
  have K0:Aside (u0.drew.cell? ⟨S,0,none⟩=some (.int .u64 t.1)∧u0.drew.cell? ⟨S,1,none⟩=some (.int .i64 t.2)):=⟨z0,z1⟩
  have mx:=mixed
  clear h b0 h0 c0 hu0 b0d h0d rp hL hZ hD htD hin hif hnd hmem
  go_enter Tryz.func297,Tryz.ntmps297
  go_upto_region 1 with fail
  rw[HU0.out]
  go_wp2_with (go_at_call 180;refine pl.mono ?_;rintro e w' ⟨rfl,hw'⟩;obtain rfl:u0=w':=hw'.symm)
  go_region_held3 (fun W=>W.cell? ⟨S,0,none⟩=some (.int .u64 t.1)∧W.cell? ⟨S,1,none⟩=some (.int .i64 t.2)) (first|with_reducible exact K0.out|with_reducible exact G2) ((first|(go_at_call 306;(with_reducible refine Calls.mono RP.out ?_);rintro e w1 ⟨rfl,G1,G2⟩)))
  have G1':Aside (WGo w B M base hd now f n (DropP now D t u c far) w1):=G1
  clear G1 G2
  go_wp2
  refine bodyPost_ret (results_none rfl _ _ _) rfl ⟨rfl,G1'.out⟩
 ·have hl4z:¬(L:Int)<4:=by omega
  obtain⟨hnd,hmem⟩:=hif (by omega)
  obtain⟨va,vc,e0,-,hvc,hvm,hsL⟩:=h0d.far.isL
  obtain⟨vn,hvn⟩:∃n,far.length=n:=⟨_,rfl⟩
  have c2:=h0d.head.cell (k:=262) (by omega)
  have wo:=without_any (hd 262) base far t u0.drew h0d.far hnd hmem
  rw[hvn] at e0
  have KA:Aside (u0.drew.cell? ⟨B,262,none⟩=some (.slice va vn vc)∧u0.drew.cell? ⟨S,0,none⟩=some (.int .u64 t.1)∧u0.drew.cell? ⟨S,1,none⟩=some (.int .i64 t.2)):=⟨by rw[c2,e0],z0,z1⟩
  have I0:Aside (Calls Tryz.prog 307 #[.slice va vn vc,.agg #[.int .u64 t.1,.int .i64 t.2]] u0.drew fun r w'=>∃v',r=.returned v'∧OwnF w' base v' (far.erase t)∧rowB v'=rowB (hd 262)∧u0.drew.grownBy w' (rowB (hd 262))):=by rw[←e0];exact wo
  have FN:Aside (∀w2 v',OwnF w2 base v' (far.erase t)→rowB v'=rowB (hd 262)→u0.drew.grownBy w2 (rowB (hd 262))→(w2.cell? ⟨B,262,none⟩=some (.slice va vn vc)∧w2.cell? ⟨S,0,none⟩=some (.int .u64 t.1)∧w2.cell? ⟨S,1,none⟩=some (.int .i64 t.2))∧w2.frozen? ⟨B,262,none⟩=false∧WGo w B M base hd now f n (DropP now D t u c far) (w2.setCell ⟨B,262,none⟩ v')):=by
   intro w2 v' o2 r2 g2
   have nB:rowB (hd 262)≠some B:=fun e=>(h0.rowLt (by omega) e).2.2.1 rfl
   have nS:rowB (hd 262)≠some S:=fun e=>by have:=(h.rowLt (by omega) e).2.1;omega
   have hh2:Hd w2 B hd:=h0d.head.of_block (g2.block B h0d.head.lt (fun e=>nB e.symm))
   have f2:Fr (fun k=>k=B∨rowB (hd 262)=some k) u0.drew (w2.setCell ⟨B,262,none⟩ v'):=((Fr.of_grown g2).mono (fun j hj=>.inr hj)).trans (Fr.setCell (fun k=>k=B∨rowB (hd 262)=some k) _ _ _ _ (.inl rfl)) (fun j hj=>.inl hj)
   have n2:∀k,rowB v'=some k→rowB (hd 262)=some k∨u0.drew.heap.size≤k:=fun k hk=>.inl (by rw[←r2];exact hk)
   refine⟨⟨g2.cell KA.out.1 (fun e=>nB e.symm),g2.cell KA.out.2.1 (fun e=>nS e.symm),g2.cell KA.out.2.2 (fun e=>nS e.symm)⟩,hh2.frozen _,_,_,_,_,h0d.farSet (hh2.set 262 v') (o2.of_block fun k hk=>heap_setCell_other _ _ _ _ (fun e=>nB (by rw[←r2,hk,e]))) f2 n2,.inr ⟨by rw[hL];omega,rfl,rfl,rfl⟩,(Fr.below b0d).trans f2 (fun j hj=>.inl (foot_row (by omega) hj)),fun k hk=>?_⟩
   rcases foot_far (w:=u0.drew) n2 k hk with x|x
   ·exact .inl x
   ·right;have:u0.drew.heap.size=u0.heap.size:=rfl;omega
  have mx:=mixed
  clear h b0 h0 c0 hu0 b0d h0d hL hZ hD htD hsL c2 hvc hvm e0 hvn hl4 hin hif hnd hmem wo
  go_enter Tryz.func297,Tryz.ntmps297
  go_upto_region 1 with fail
  rw[HU0.out]
  go_wp2_with (go_at_call 180;refine pl.mono ?_;rintro e w' ⟨rfl,hw'⟩;obtain rfl:u0=w':=hw'.symm)
  refine anyE_start (S:=(fun v0=>v0.cell? ⟨B,262,none⟩=some (.slice va vn vc)∧v0.cell? ⟨S,0,none⟩=some (.int .u64 t.1)∧v0.cell? ⟨S,1,none⟩=some (.int .i64 t.2))) (L:=9) (by kernel_rfl) ?_
  refine anyE_t (i:=0) (oi:=⟨some 23,Op.move (.tmp 0),92,"wheel.go:135",#[],none⟩) (v:=?_) rfl (by kernel_rfl) (fun _ _ _ h=>h) (Or.inl ⟨by rfl,?_⟩) (KA.out) ?_
  rotate_left
  ·intro w z;(try dsimp only at z);go_simp;try with_reducible rfl
  simp only[Act.put,sA,sB,sC]
  refine anyE_t (i:=1) (oi:=⟨some 24,Op.move (.tmp 0),92,"wheel.go:135",#[],none⟩) (v:=?_) rfl (by kernel_rfl) (fun _ _ _ h=>h) (Or.inl ⟨by rfl,?_⟩) (KA.out) ?_
  rotate_left
  ·intro w z;(try dsimp only at z);go_simp;try with_reducible rfl
  simp only[Act.put,sA,sB,sC]
  refine anyE_t (i:=2) (oi:=⟨some 25,Op.nilCheck (.tmp 24),0,"wheel.go:135",#[⟨1,.data⟩],none⟩) (v:=?_) rfl (by kernel_rfl) (fun _ _ _ h=>h) (Or.inl ⟨by rfl,?_⟩) (KA.out) ?_
  rotate_left
  ·intro w z;(try dsimp only at z);go_simp;try with_reducible rfl
  simp only[Act.put,sA,sB,sC]
  refine anyE_t (i:=3) (oi:=⟨some 26,Op.fieldAddr 176 (.tmp 25) 3,0,"wheel.go:135",#[⟨2,.data⟩],none⟩) (v:=?_) rfl (by kernel_rfl) (fun _ _ _ h=>h) (Or.inl ⟨by rfl,?_⟩) (KA.out) ?_
  rotate_left
  ·intro w z;(try dsimp only at z);go_simp;try with_reducible rfl
  simp only[Act.put,sA,sB,sC]
  refine anyE_t (i:=4) (oi:=⟨some 27,Op.load 39 (.tmp 26),39,"wheel.go:135",#[⟨3,.data⟩],none⟩) (v:=?_) rfl (by kernel_rfl) (fun _ _ _ h=>h) (Or.inl ⟨by rfl,?_⟩) (KA.out) ?_
  rotate_left
  ·intro w z;(try dsimp only at z);go_simp;try with_reducible rfl
  simp only[Act.put,sA,sB,sC]
  refine anyE_t (i:=5) (oi:=⟨some 28,Op.load 131 (.tmp 3),131,"wheel.go:135",#[],none⟩) (v:=?_) rfl (by kernel_rfl) (fun _ _ _ h=>h) (Or.inl ⟨by rfl,?_⟩) (KA.out) ?_
  rotate_left
  ·intro w z;(try dsimp only at z);go_simp;try with_reducible rfl
  simp only[Act.put,sA,sB,sC]
  refine anyE_ready (rs:=[6]) (by kernel_rfl) (by simp) ?_
  refine AllE.cons (o:={dst:=some 29,op:=Op.call {callee:=Callee.value (Operand.func 307),args:=#[Operand.tmp 27,Operand.tmp 28],argTypes:=#[39,131]},type:=39,pos:= "wheel.go:135",after:=#[⟨4,.data⟩,⟨5,.data⟩],guard:=none}) rfl (fun Kt hKt=>?_) ?_
  ·go_simp
   (with_reducible refine Calls.mono I0.out ?_)
   rintro x_ w3 ⟨v',rfl,o3,r3,g3⟩
   obtain⟨pa,pc,e3,-⟩:=o3.isL
   obtain⟨pn,hpn⟩:∃n,(far.erase t).length=n:=⟨_,rfl⟩
   rw[hpn] at e3
   subst e3
   obtain⟨y1,y2,y3⟩:=FN.out w3 _ o3 r3 g3
   have z2:=y1.1
   have Y3:Aside (WGo w B M base hd now f n (DropP now D t u c far) (w3.setCell ⟨B,262,none⟩ (.slice pa pn pc))):=y3
   clear o3 g3 r3 y3 FN I0 hpn
   dsimp only
   refine hKt.out _ _ (fun _=>y1) ?_
   clear hKt Kt
   try simp only[Act.put,sA,sB,sC]
   refine anyF_take [8] (i:=7) (oi:=⟨some 30,Op.nilCheck (.tmp 23),0,"wheel.go:135",#[⟨0,.data⟩,⟨0,.phase⟩,⟨1,.phase⟩,⟨2,.phase⟩,⟨3,.phase⟩,⟨4,.phase⟩,⟨5,.phase⟩,⟨6,.phase⟩],none⟩) (v:=?_) rfl (by kernel_rfl) (by kernel_rfl) (by kernel_rfl) (by kernel_rfl) (by kernel_rfl) (fun _ _ _ h=>h) (Or.inl ⟨by rfl,?_⟩) (y1) ?_
   rotate_left
   ·intro w z;(try dsimp only at z);go_simp;try with_reducible rfl
   simp only[Act.put,sA,sB,sC]
   refine anyE_t (i:=8) (oi:=⟨some 31,Op.fieldAddr 176 (.tmp 30) 3,0,"wheel.go:135",#[⟨7,.data⟩,⟨0,.phase⟩,⟨1,.phase⟩,⟨2,.phase⟩,⟨3,.phase⟩,⟨4,.phase⟩,⟨5,.phase⟩,⟨6,.phase⟩],none⟩) (v:=?_) rfl (by kernel_rfl) (fun _ _ _ h=>h) (Or.inl ⟨by rfl,?_⟩) (y1) ?_
   rotate_left
   ·intro w z;(try dsimp only at z);go_simp;try with_reducible rfl
   simp only[Act.put,sA,sB,sC]
   refine anyE_ready (rs:=[9]) (by kernel_rfl) (by simp) ?_
   refine AllE.cons (o:=⟨none,Op.store 39 (.tmp 31) (.tmp 29),0,"wheel.go:135",#[⟨8,.data⟩,⟨6,.data⟩,⟨6,.chain⟩,⟨0,.phase⟩,⟨1,.phase⟩,⟨2,.phase⟩,⟨3,.phase⟩,⟨4,.phase⟩,⟨5,.phase⟩,⟨6,.phase⟩],none⟩) rfl (fun Kt hKt=>?_) ?_
   ·go_simp
    refine hKt.out _ _ (fun h=>absurd rfl h) ?_
    clear hKt Kt
    try simp only[Act.put,sA,sB,sC]
    refine anyE_done (by kernel_rfl) ?_ _
    go_wp2
    go_end0
    exact⟨rfl,Y3.out⟩
   exact AllE.nil
  exact AllE.nil
end
section
open Go.Lib Go.Sort
theorem perm_of_mem{a b:List Ent}(ha:a.Nodup)(hb:b.Nodup)(h:∀x,x∈a↔x∈b):a.Perm b:=by
 rw[List.perm_iff_count]
 intro x
 have h1:=List.nodup_iff_count.1 ha x
 have h2:=List.nodup_iff_count.1 hb x
 have h3:0<a.count x↔0<b.count x:=by rw[List.count_pos_iff,List.count_pos_iff];exact h x
 omega
theorem nodup_of_ids{T:List Ent}(h:(T.map Prod.snd).Nodup):T.Nodup:=List.Pairwise.of_map Prod.snd (fun a b h e=>h (by rw[e])) h
theorem ids_inj{T:List Ent}(h:(T.map Prod.snd).Nodup){x y:Ent}(hx:x∈T)(hy:y∈T)(e:x.2=y.2):x=y:=by
 obtain⟨i,hi,rfl⟩:=List.getElem_of_mem hx
 obtain⟨j,hj,rfl⟩:=List.getElem_of_mem hy
 have hp:=List.pairwise_iff_getElem.1 h
 rcases Nat.lt_trichotomy i j with c|c|c
 ·have:=hp i j (by simpa using hi) (by simpa using hj) c
  simp at this
  exact absurd e this
 ·subst c;rfl
 ·have:=hp j i (by simpa using hj) (by simpa using hi) c
  simp at this
  exact absurd e.symm this
theorem Srt.erase{d:List Ent}(h:Srt d)(t:Ent):Srt (d.erase t):=List.Pairwise.sublist List.erase_sublist h
structure WhL(now:Nat)(u:Nat→Nat)(c:Nat→Nat→List Ent)(far:List Ent)(S:Ent→Prop):Prop where
 rng:∀x,S x→∃D:Nat,x.1=(D:Int)∧D<B64
 slotM:∀l s,l<4→s<64→∀x,x∈c l s↔S x∧plc now x.1.toNat=(l,s)
 slotN:∀l s,l<4→s<64→(c l s).Nodup
 farM:∀x,x∈far↔S x∧4≤(plc now x.1.toNat).1
 farS:Srt far
 farN:far.Nodup
 used:∀l s,l<4→s<64→(u l).testBit s=!(c l s).isEmpty
variable {now:Nat}{u:Nat→Nat}{c:Nat→Nat→List Ent}{far:List Ent}{S S':Ent→Prop}{u':Nat→Nat}{c':Nat→Nat→List Ent}{far':List Ent}{t:Ent}{D:Nat}
theorem WhL.congr(h:WhL now u c far S)(e:∀x,S x↔S' x):WhL now u c far S':=by
 have:S=S':=funext fun x=>propext (e x)
 rw[←this];exact h
theorem WhL.at(h:WhL now u c far S)(htD:t.1=(D:Int))(ht:S t):((plc now D).1<4→(c (plc now D).1 (plc now D).2).Nodup∧t∈c (plc now D).1 (plc now D).2)∧(4≤(plc now D).1→far.Nodup∧t∈far):=by
 have eD:t.1.toNat=D:=by omega
 refine⟨fun hl=>⟨h.slotN _ _ hl (slt_lt' now D),(h.slotM _ _ hl (slt_lt' now D) t).2 ⟨ht,by rw[eD]⟩⟩,fun hl=>⟨h.farN,(h.farM t).2 ⟨ht,by rw[eD];exact hl⟩⟩⟩
theorem WhL.drop(h:WhL now u c far S)(hP:DropP now D t u c far u' c' far')(htD:t.1=(D:Int))(ht:S t):WhL now u' c' far' (fun x=>S x∧x≠t):=by
 have eD:t.1.toNat=D:=by omega
 have tp:plc now t.1.toNat=plc now D:=by rw[eD]
 obtain⟨L,hL⟩:∃L,(plc now D).1=L:=⟨_,rfl⟩
 obtain⟨Z,hZ⟩:∃Z,(plc now D).2=Z:=⟨_,rfl⟩
 have hp:plc now D=(L,Z):=Prod.ext hL hZ
 have hZ64:Z<64:=by rw[←hZ];exact slt_lt' now D
 have rng:∀x,S x∧x≠t→∃D:Nat,x.1=(D:Int)∧D<B64:=fun x hx=>h.rng x hx.1
 rcases hP with⟨hl,rfl,rfl,rfl⟩|⟨hl,rfl,rfl,rfl⟩
 ·rw[hL] at hl
  rw[hL,hZ]
  refine⟨rng,fun l s hl' hs' x=>?_,fun l s hl' hs'=>?_,fun x=>?_,h.farS,h.farN,fun l s hl' hs'=>?_⟩
  ·by_cases ce:l=L∧s=Z
   ·obtain⟨rfl,rfl⟩:=ce
    rw[cset_same,(h.slotN l s hl' hs').mem_erase_iff,h.slotM l s hl' hs']
    constructor
    ·rintro⟨h1,h2,h3⟩;exact⟨⟨h2,h1⟩,h3⟩
    ·rintro⟨⟨h2,h1⟩,h3⟩;exact⟨h1,h2,h3⟩
   ·rw[cset_ne _ _ ce,h.slotM l s hl' hs']
    constructor
    ·rintro⟨h1,h2⟩
     refine⟨⟨h1,fun e=>ce ?_⟩,h2⟩
     rw[e,tp,hp] at h2
     injection h2 with e1 e2
     exact⟨e1.symm,e2.symm⟩
    ·rintro⟨⟨h1,_⟩,h2⟩;exact⟨h1,h2⟩
  ·by_cases ce:l=L∧s=Z
   ·obtain⟨rfl,rfl⟩:=ce
    rw[cset_same];exact(h.slotN l s hl' hs').erase t
   ·rw[cset_ne _ _ ce];exact h.slotN l s hl' hs'
  ·rw[h.farM]
   constructor
   ·rintro⟨h1,h2⟩
    refine⟨⟨h1,fun e=>?_⟩,h2⟩
    rw[e,tp,hp] at h2
    exact absurd h2 (by show ¬4≤L;omega)
   ·rintro⟨⟨h1,_⟩,h2⟩;exact⟨h1,h2⟩
  ·by_cases ce:l=L
   ·subst ce
    rw[lset_same]
    unfold dropU
    have h2s:2^Z<B64:=show 2^Z<2^64 from Nat.pow_lt_pow_right (by omega) hZ64
    by_cases cs:s=Z
    ·subst cs
     rw[cset_same]
     by_cases ee:(c l s).erase t=[]
     ·rw[if_pos ee,clr_bit _ _ _ h2s hs',Nat.testBit_two_pow_self,ee]
      simp
     ·rw[if_neg ee,h.used l s hl' hs']
      have:c l s≠[]:=fun e=>ee (by rw[e];rfl)
      cases hc:c l s with
      | nil=>exact absurd hc this
      | cons a b=>
       cases hd:(a::b).erase t with
       | nil=>rw[hc] at ee;exact absurd hd ee
       | cons _ _=>rfl
    ·rw[cset_ne _ _ (fun x=>cs x.2)]
     by_cases ee:(c l Z).erase t=[]
     ·rw[if_pos ee,clr_bit _ _ _ h2s hs',Nat.testBit_two_pow,h.used l s hl' hs']
      simp[Ne.symm cs]
     ·rw[if_neg ee];exact h.used l s hl' hs'
   ·rw[lset_ne _ _ ce,cset_ne _ _ (fun x=>ce x.1)];exact h.used l s hl' hs'
 ·rw[hL] at hl
  refine⟨rng,fun l s hl' hs' x=>?_,h.slotN,fun x=>?_,h.farS.erase t,h.farN.erase t,h.used⟩
  ·rw[h.slotM l s hl' hs']
   constructor
   ·rintro⟨h1,h2⟩
    refine⟨⟨h1,fun e=>?_⟩,h2⟩
    rw[e,tp,hp] at h2
    injection h2 with e1 e2
    omega
   ·rintro⟨⟨h1,_⟩,h2⟩;exact⟨h1,h2⟩
  ·rw[h.farN.mem_erase_iff,h.farM]
   constructor
   ·rintro⟨h1,h2,h3⟩;exact⟨⟨h2,h1⟩,h3⟩
   ·rintro⟨⟨h2,h1⟩,h3⟩;exact⟨h1,h2,h3⟩
def taken(now thn:Nat)(x:Ent):Prop:=((plc now x.1.toNat).1<4∧pass now thn (plc now x.1.toNat).1 (plc now x.1.toNat).2=true)∨(4≤(plc now x.1.toNat).1∧x.1.toNat≤thn ||| 16777215)
end
end Go.Proofs.YthpgfmmpjoodkaaGreatDoor.Wl
