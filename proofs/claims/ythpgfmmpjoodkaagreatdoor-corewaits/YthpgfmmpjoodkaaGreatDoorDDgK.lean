import Derived.Test.YthpgfmmpjoodkaaGreatDoorDDgB
namespace Go.Proofs.YthpgfmmpjoodkaaGreatDoor.Da
set_option maxHeartbeats 8000000
set_option maxRecDepth 100000
set_option linter.unusedVariables false
open Go.RowKit Go.Lib Go.WideMaps Go.Maps
variable {w w':World}{B M0 N N':Nat}{M:Bool→Nat}{fp gp:Int×Int→Option Value}{f:Bool→Int→Option Value}{l:Bool→Int→List Int}{E:Int→Int→Prop}{p i:Int}
def Bx(w:World)(S:Nat)(x y:Int):Prop:=w.heap[S]?=some (.cells #[.int .i64 x,.int .i64 y] 145 (0,0))
theorem Bx.cell{S:Nat}{x y:Int}(h:Bx w S x y):w.cell? ⟨S,0,none⟩=some (.int .i64 x)∧w.cell? ⟨S,1,none⟩=some (.int .i64 y):=by
 refine⟨?_,?_⟩<;>(rw[cell_of_row _ _ _ _ _ _ h];rfl)
theorem Bx.fr{S:Nat}{x y:Int}{X:Nat→Prop}(h:Bx w S x y)(hf:Fr X w w')(hx:¬X S):Bx w' S x y:=(hf.block S (lt_of_block h) hx).trans h
theorem Bx.new(w:World)(x y:Int):Bx (w.alloc (.cells #[.int .i64 x,.int .i64 y] 145)) w.heap.size x y:=heap_alloc_new w _
theorem idx0(w:World)(x y:Int):(Instr.index 145 (.agg #[.int .i64 x,.int .i64 y]) (.int .i64 0)).run Tryz.prog w=.ok (.int .i64 x) w:=by kernel_rfl
theorem idx1(w:World)(x y:Int):(Instr.index 145 (.agg #[.int .i64 x,.int .i64 y]) (.int .i64 1)).run Tryz.prog w=.ok (.int .i64 y) w:=by kernel_rfl
theorem part_any(h:DgA w B M0 M fp f l N)(hN:N≤1000000)(I:Inv E fp l)(he:E p i) :
  Calls Tryz.prog 234 #[.pointer (some ⟨B,0,none⟩),.int .i64 p,.int .i64 i] w fun e w'=>e=.returned (.tuple #[])∧
   ∃fp' f' l',DgA w' B M0 M fp' f' l' N∧Inv (Epart E p i) fp' l'∧Fr (ft B M0 M f) w w'∧∀k,ft B M0 M f' k→ft B M0 M f k:=by
 obtain⟨hp,hi⟩:=I.wf he
 obtain⟨a,b,e0,ha,hb⟩:=I.fp p i he
 obtain⟨mv1,mv2⟩:=I.moved he ha hb
 have al:=(List.getElem?_eq_some_iff.1 ha).1
 have bl:=(List.getElem?_eq_some_iff.1 hb).1
 obtain⟨S,hS⟩:∃S,w.heap.size=S:=⟨_,rfl⟩
 obtain⟨u0,hu0⟩:∃u,w.alloc (.cells #[.int .i64 p,.int .i64 i] 145)=u:=⟨_,rfl⟩
 have b0:Below w.heap.size w u0:=by rw[←hu0];exact(Below.refl _ _).alloc (Nat.le_refl _) _
 have s0:u0.heap.size=S+1:=by rw[←hu0,←hS];simp
 have x0:Bx u0 S p i:=by rw[←hu0,←hS];exact Bx.new _ _ _
 have D0:=h.below b0
 obtain⟨u1,hu1⟩:∃u,(u0.alloc (.cells #[.int .i64 a,.int .i64 b] 145)).drew=u:=⟨_,rfl⟩
 have b1:Below u0.heap.size u0 u1:=by rw[←hu1];exact((Below.refl _ _).alloc (Nat.le_refl _) _).drew
 have s1:u1.heap.size=S+1+1:=by rw[←hu1,←s0];simp
 have x1:Bx u1 S p i:=(b1.block S (by omega)).trans x0
 have y1:Bx u1 (S+1) a b:=by rw[←hu1,←s0];exact Bx.new _ _ _
 have D1:=D0.below b1
 have notft:∀k,ft B M0 M f k→k<S:=fun k hk=>by rw[←hS];exact h.ftLt hk
 have D1d:=D1.drew
 obtain⟨n1,q1,hn1⟩:=D1d.mp
 obtain⟨u2,n2,hr2,q2,hn2,g2⟩:=q1.drop Tryz.underlying177 (x:=(p,i)) e0 0
 change (Builtin.delete_ #[177,145] 0 #[.map (some M0),.agg #[.int .i64 p,.int .i64 i]]).run _ _=_ at hr2
 have D2:=D1d.setP q2 (by omega) g2
 have F2:Fr (ft B M0 M f) w u2:=((Fr.below b0).trans (Fr.below (X:=ft B M0 M f) b1) (fun j hj=>.inl hj)).drew.trans (Fr.of_grown g2) (fun j hj=>by injection hj with hj;exact .inl (.inr (.inl hj.symm)))
 have F12:Fr (fun k=>k=M0) u1 u2:=((Fr.refl _ _).drew).trans (Fr.of_grown g2) (fun j hj=>by injection hj with hj;exact .inl hj.symm)
 have hM0:M0<S:=notft _ (.inr (.inl rfl))
 have x2:Bx u2 S p i:=x1.fr F12 (by omega)
 have y2:Bx u2 (S+1) a b:=y1.fr F12 (by omega)
 have K0:Aside (u0.drew.cell? ⟨B,0,none⟩=some (.map (some M0))∧u0.drew.cell? ⟨S,0,none⟩=some (.int .i64 p)∧u0.drew.cell? ⟨S,1,none⟩=some (.int .i64 i)∧(Instr.lookup 177 (.map (some M0)) (.agg #[.int .i64 p,.int .i64 i]) false).run Tryz.prog u0.drew=.ok (.agg #[.int .i64 a,.int .i64 b]) u0.drew):=
  ⟨D0.drew.cell0.1,x0.cell.1,x0.cell.2,D0.drew.lookP hp hi e0⟩
 have K0a:Aside (∀o:Obj,(u0.drew.alloc o).cell? ⟨B,0,none⟩=some (.map (some M0))∧(u0.drew.alloc o).cell? ⟨S,0,none⟩=some (.int .i64 p)∧(u0.drew.alloc o).cell? ⟨S,1,none⟩=some (.int .i64 i)∧(Instr.lookup 177 (.map (some M0)) (.agg #[.int .i64 p,.int .i64 i]) false).run Tryz.prog (u0.drew.alloc o)=.ok (.agg #[.int .i64 a,.int .i64 b]) (u0.drew.alloc o)):=fun ob=>by
  have bb:Below u0.drew.heap.size u0.drew (u0.drew.alloc ob):=(Below.refl _ _).alloc (Nat.le_refl _) _
  have D:=D0.drew.below bb
  have x:Bx (u0.drew.alloc ob) S p i:=(bb.block S (by show S<u0.heap.size;omega)).trans x0
  exact⟨D.cell0.1,x.cell.1,x.cell.2,D.lookP hp hi e0⟩
 have K1:Aside (u1.drew.cell? ⟨B,0,none⟩=some (.map (some M0))∧u1.drew.cell? ⟨S,0,none⟩=some (.int .i64 p)∧u1.drew.cell? ⟨S,1,none⟩=some (.int .i64 i)):=⟨D1d.cell0.1,x1.cell.1,x1.cell.2⟩
 have ix0:=idx0
 have ix1:=idx1
 have U0:Hid _:=hu0
 have U1:Hid _:=hu1
 have R2:Hid _:=hr2
 clear hu0 hu1 q1 q2 g2 D0 D1 D1d b0 b1 x0 x1 y1 hn1 hn2 F12 hr2
 go_enter Tryz.func234,Tryz.ntmps234
 go_upto_region 1 with fail
 rw[U0.out]
 have hr2:=R2.out
 refine anyE_start (S:=(fun v0=>v0.cell? ⟨B,0,none⟩=some (.map (some M0))∧v0.cell? ⟨S,0,none⟩=some (.int .i64 p)∧v0.cell? ⟨S,1,none⟩=some (.int .i64 i)∧(Instr.lookup 177 (.map (some M0)) (.agg #[.int .i64 p,.int .i64 i]) false).run Tryz.prog v0=.ok (.agg #[.int .i64 a,.int .i64 b]) v0)) (L:=7) (by kernel_rfl) ?_
 refine anyE_t (i:=0) (oi:=⟨some 15,Op.move (.tmp 0),94,"dag.go:53",#[],none⟩) (v:=?_) rfl (by kernel_rfl) (fun _ _ _ h=>h) (Or.inl ⟨by rfl,?_⟩) (K0.out) ?_
 rotate_left
 ·intro w z;(try dsimp only at z);go_simp;try with_reducible rfl
 simp only[Act.put,sA,sB,sC]
 refine anyE_t (i:=1) (oi:=⟨some 16,Op.nilCheck (.tmp 15),0,"dag.go:53",#[⟨0,.data⟩],none⟩) (v:=?_) rfl (by kernel_rfl) (fun _ _ _ h=>h) (Or.inl ⟨by rfl,?_⟩) (K0.out) ?_
 rotate_left
 ·intro w z;(try dsimp only at z);go_simp;try with_reducible rfl
 simp only[Act.put,sA,sB,sC]
 refine anyE_t (i:=2) (oi:=⟨some 17,Op.fieldAddr 180 (.tmp 16) 0,0,"dag.go:53",#[⟨1,.data⟩],none⟩) (v:=?_) rfl (by kernel_rfl) (fun _ _ _ h=>h) (Or.inl ⟨by rfl,?_⟩) (K0.out) ?_
 rotate_left
 ·intro w z;(try dsimp only at z);go_simp;try with_reducible rfl
 simp only[Act.put,sA,sB,sC]
 refine anyE_t (i:=3) (oi:=⟨some 18,Op.load 177 (.tmp 17),177,"dag.go:53",#[⟨2,.data⟩],none⟩) (v:=?_) rfl (by kernel_rfl) (fun _ _ _ h=>h) (Or.inl ⟨by rfl,?_⟩) (K0.out) ?_
 rotate_left
 ·intro w z;(try dsimp only at z);go_simp;try with_reducible rfl
 simp only[Act.put,sA,sB,sC]
 refine anyE_t (i:=4) (oi:=⟨some 19,Op.load 145 (.tmp 6),145,"dag.go:53",#[],none⟩) (v:=?_) rfl (by kernel_rfl) (fun _ _ _ h=>h) (Or.inl ⟨by rfl,?_⟩) (K0.out) ?_
 rotate_left
 ·intro w z;(try dsimp only at z);go_simp;try with_reducible rfl
 simp only[Act.put,sA,sB,sC]
 refine anyE_t (i:=5) (oi:=⟨some 20,Op.lookup 177 (.tmp 18) (.tmp 19) false,145,"dag.go:53",#[⟨3,.data⟩,⟨4,.data⟩],none⟩) (v:=?_) rfl (by kernel_rfl) (fun _ _ _ h=>h) (Or.inl ⟨by rfl,?_⟩) (K0.out) ?_
 rotate_left
 ·intro w z;(try dsimp only at z);go_simp;try with_reducible rfl
 simp only[Act.put,sA,sB,sC]
 refine anyE_ready (rs:=[6]) (by kernel_rfl) (by simp) ?_
 refine AllE.cons (o:=⟨some 7,Op.alloc 145,0,"dag.go:53",#[],none⟩) rfl (fun Kt hKt=>?_) ?_
 ·go_simp
  refine hKt.out _ _ (fun _=>K0a.out _) ?_
  clear hKt Kt
  try simp only[Act.put,sA,sB,sC]
  refine anyE_ready (rs:=[7]) (by kernel_rfl) (by simp) ?_
  refine AllE.cons (o:=⟨none,Op.store 145 (.tmp 7) (.tmp 20),0,"dag.go:53",#[⟨6,.data⟩,⟨5,.data⟩,⟨0,.phase⟩,⟨1,.phase⟩,⟨2,.phase⟩,⟨3,.phase⟩,⟨4,.phase⟩,⟨5,.phase⟩,⟨6,.phase⟩],none⟩) rfl (fun Kt hKt=>?_) ?_
  ·go_simp
   refine hKt.out _ _ (fun h=>absurd rfl h) ?_
   clear hKt Kt
   try simp only[Act.put,sA,sB,sC]
   refine anyE_done (by kernel_rfl) ?_ _
   rw[U1.out]
   go_upto_region 2 with fail
   refine anyE_start (S:=(fun v0=>v0.cell? ⟨B,0,none⟩=some (.map (some M0))∧v0.cell? ⟨S,0,none⟩=some (.int .i64 p)∧v0.cell? ⟨S,1,none⟩=some (.int .i64 i))) (L:=5) (by kernel_rfl) ?_
   refine anyF_take [1,2,3] (i:=0) (oi:=⟨some 21,Op.move (.tmp 0),94,"dag.go:54",#[],none⟩) (v:=?_) rfl (by kernel_rfl) (by kernel_rfl) (by kernel_rfl) (by kernel_rfl) (by kernel_rfl) (fun _ _ _ h=>h) (Or.inl ⟨by rfl,?_⟩) (K1.out) ?_
   rotate_left
   ·intro w z;(try dsimp only at z);go_simp;try with_reducible rfl
   simp only[Act.put,sA,sB,sC]
   refine anyF_take [2,3] (i:=1) (oi:=⟨some 22,Op.nilCheck (.tmp 21),0,"dag.go:54",#[⟨0,.data⟩],none⟩) (v:=?_) rfl (by kernel_rfl) (by kernel_rfl) (by kernel_rfl) (by kernel_rfl) (by kernel_rfl) (fun _ _ _ h=>h) (Or.inl ⟨by rfl,?_⟩) (K1.out) ?_
   rotate_left
   ·intro w z;(try dsimp only at z);go_simp;try with_reducible rfl
   simp only[Act.put,sA,sB,sC]
   refine anyF_take [3] (i:=2) (oi:=⟨some 23,Op.fieldAddr 180 (.tmp 22) 0,0,"dag.go:54",#[⟨1,.data⟩],none⟩) (v:=?_) rfl (by kernel_rfl) (by kernel_rfl) (by kernel_rfl) (by kernel_rfl) (by kernel_rfl) (fun _ _ _ h=>h) (Or.inl ⟨by rfl,?_⟩) (K1.out) ?_
   rotate_left
   ·intro w z;(try dsimp only at z);go_simp;try with_reducible rfl
   simp only[Act.put,sA,sB,sC]
   refine anyE_t (i:=3) (oi:=⟨some 24,Op.load 177 (.tmp 23),177,"dag.go:54",#[⟨2,.data⟩],none⟩) (v:=?_) rfl (by kernel_rfl) (fun _ _ _ h=>h) (Or.inl ⟨by rfl,?_⟩) (K1.out) ?_
   rotate_left
   ·intro w z;(try dsimp only at z);go_simp;try with_reducible rfl
   simp only[Act.put,sA,sB,sC]
   refine anyE_t (i:=4) (oi:=⟨some 25,Op.load 145 (.tmp 6),145,"dag.go:54",#[],none⟩) (v:=?_) rfl (by kernel_rfl) (fun _ _ _ h=>h) (Or.inl ⟨by rfl,?_⟩) (K1.out) ?_
   rotate_left
   ·intro w z;(try dsimp only at z);go_simp;try with_reducible rfl
   simp only[Act.put,sA,sB,sC]
   refine anyE_ready (rs:=[5]) (by kernel_rfl) (by simp) ?_
   refine AllE.cons (o:={dst:=none,op:=Op.call {callee:=Callee.builtin Builtin.delete,args:=#[Operand.tmp 24,Operand.tmp 25],argTypes:=#[177,145]},type:=0,pos:= "dag.go:54",after:=#[⟨3,.data⟩,⟨4,.data⟩],guard:=none}) rfl (fun Kt hKt=>?_) ?_
   ·go_simp
    refine hKt.out _ _ (fun h=>absurd rfl h) ?_
    clear hKt Kt
    try simp only[Act.put,sA,sB,sC]
    refine anyE_done (by kernel_rfl) ?_ _
    clear hr2 R2 K0 K0a K1 U0 U1
    have L1:=leave_any D2.drew hN true p a al
    obtain⟨X,hX⟩:∃X,lastI (l true p)=X:=⟨_,rfl⟩
    obtain⟨o1,ho1⟩:∃o1,decide (a≠(l true p).length-1)=o1:=⟨_,rfl⟩
    rw[hX,ho1] at L1
    have LV1:Aside (Calls _ _ _ _ _):=L1
    have K3:Aside (u2.drew.cell? ⟨B,1,none⟩=some (.map (some (M true)))∧u2.drew.cell? ⟨S+1,0,none⟩=some (.int .i64 a)):=⟨D2.cell0.2.1,y2.cell.1⟩
    have HX:Hid _:=hX
    have HO1:Hid _:=ho1
    clear L1 hX ho1
    go_upto_region 3 with fail
    refine wp_region_held_drew (S:=(fun v0=>v0.cell? ⟨B,1,none⟩=some (.map (some (M true)))∧v0.cell? ⟨S+1,0,none⟩=some (.int .i64 a))) (by kernel_rfl) (K3.out) (fun hHeld=>?_)
    refine wpAnyH_take (i:=0) (oi:=⟨some 27,Op.move (.tmp 0),94,"dag.go:55",#[],none⟩) (v:=?_) rfl (by kernel_rfl) (by kernel_rfl) (by kernel_rfl) (fun _ _ _ h=>h) (Or.inl ⟨by rfl,?_⟩) (by assumption) ?_
    rotate_left
    ·intro w z;(try dsimp only at z);go_simp;try with_reducible rfl
    simp only[Act.put,sA,sB,sC]
    refine wpAnyH_take (i:=1) (oi:=⟨some 28,Op.nilCheck (.tmp 27),0,"dag.go:55",#[⟨0,.data⟩],none⟩) (v:=?_) rfl (by kernel_rfl) (by kernel_rfl) (by kernel_rfl) (fun _ _ _ h=>h) (Or.inl ⟨by rfl,?_⟩) (by assumption) ?_
    rotate_left
    ·intro w z;(try dsimp only at z);go_simp;try with_reducible rfl
    simp only[Act.put,sA,sB,sC]
    refine wpAnyH_take (i:=2) (oi:=⟨some 29,Op.fieldAddr 180 (.tmp 28) 1,0,"dag.go:55",#[⟨1,.data⟩],none⟩) (v:=?_) rfl (by kernel_rfl) (by kernel_rfl) (by kernel_rfl) (fun _ _ _ h=>h) (Or.inl ⟨by rfl,?_⟩) (by assumption) ?_
    rotate_left
    ·intro w z;(try dsimp only at z);go_simp;try with_reducible rfl
    simp only[Act.put,sA,sB,sC]
    refine wpAnyH_take (i:=3) (oi:=⟨some 30,Op.load 178 (.tmp 29),178,"dag.go:55",#[⟨2,.data⟩],none⟩) (v:=?_) rfl (by kernel_rfl) (by kernel_rfl) (by kernel_rfl) (fun _ _ _ h=>h) (Or.inl ⟨by rfl,?_⟩) (by assumption) ?_
    rotate_left
    ·intro w z;(try dsimp only at z);go_simp;try with_reducible rfl
    simp only[Act.put,sA,sB,sC]
    refine wpAnyH_take (i:=4) (oi:=⟨some 31,Op.move (.tmp 1),3,"dag.go:55",#[],none⟩) (v:=?_) rfl (by kernel_rfl) (by kernel_rfl) (by kernel_rfl) (fun _ _ _ h=>h) (Or.inl ⟨by rfl,?_⟩) (by assumption) ?_
    rotate_left
    ·intro w z;(try dsimp only at z);go_simp;try with_reducible rfl
    simp only[Act.put,sA,sB,sC]
    refine wpAnyH_take (i:=5) (oi:=⟨some 32,Op.indexAddr 145 (.tmp 7) (Operand.const (Value.int IntKind.i64 0)),0,"dag.go:55",#[],none⟩) (v:=?_) rfl (by kernel_rfl) (by kernel_rfl) (by kernel_rfl) (fun _ _ _ h=>h) (Or.inl ⟨by rfl,?_⟩) (by assumption) ?_
    rotate_left
    ·intro w z;(try dsimp only at z);go_simp;try with_reducible rfl
    simp only[Act.put,sA,sB,sC]
    refine wpAnyH_take (i:=6) (oi:=⟨some 33,Op.load 3 (.tmp 32),3,"dag.go:55",#[⟨5,.data⟩],none⟩) (v:=?_) rfl (by kernel_rfl) (by kernel_rfl) (by kernel_rfl) (fun _ _ _ h=>h) (Or.inl ⟨by rfl,?_⟩) (by assumption) ?_
    rotate_left
    ·intro w z;(try dsimp only at z);go_simp;try with_reducible rfl
    simp only[Act.put,sA,sB,sC]
    refine wpAnyH_ready (rs:=[7]) (by kernel_rfl) (by simp) ?_
    refine AllReadyH.cons (o:={dst:=some 34,op:=Op.call {callee:=Callee.value (Operand.func 277),args:=#[Operand.tmp 30,Operand.tmp 31,Operand.tmp 33],argTypes:=#[178,3,3]},type:=63,pos:= "dag.go:55",after:=#[⟨3,.data⟩,⟨4,.data⟩,⟨6,.data⟩],guard:=none}) rfl (fun Kt hKt=>?_) AllReadyH.nil
    go_simp
    (with_reducible refine Calls.mono LV1.out ?_)
    rintro x_ v3 ⟨rfl,f3,D3,G3,T3⟩
    have v3y:Bx v3 (S+1) a b:=Bx.fr (w:=u2.drew) y2 G3 (fun hk=>by have:=notft _ hk;omega)
    have F3:Fr (ft B M0 M f) w v3:=F2.drew.trans G3 (fun j hj=>.inl hj)
    clear G3
    go_wp2_with fail
    refine hKt.out _ _ (⟨D3.cell0.2.1,v3y.cell.1⟩) (fun hHeld=>?_)
    clear hKt Kt
    try simp only[Act.put,sA,sB,sC]
    refine wpAnyH_take (i:=8) (oi:=⟨some 26,Op.move (.tmp 34),63,"dag.go:55",#[⟨7,.data⟩],none⟩) (v:=?_) rfl (by kernel_rfl) (by kernel_rfl) (by kernel_rfl) (fun _ _ _ h=>h) (Or.inl ⟨by rfl,?_⟩) (by assumption) ?_
    rotate_left
    ·intro w z;(try dsimp only at z);go_simp;try with_reducible rfl
    simp only[Act.put,sA,sB,sC]
    refine wpAnyH_take (i:=9) (oi:=⟨some 35,Op.extract (.tmp 26) 0,3,"dag.go:55",#[⟨8,.data⟩],none⟩) (v:=?_) rfl (by kernel_rfl) (by kernel_rfl) (by kernel_rfl) (fun _ _ _ h=>h) (Or.inl ⟨by rfl,?_⟩) (by assumption) ?_
    rotate_left
    ·intro w z;(try dsimp only at z);go_simp;try with_reducible rfl
    simp only[Act.put,sA,sB,sC]
    refine wpAnyH_take (i:=10) (oi:=⟨some 36,Op.extract (.tmp 26) 1,4,"dag.go:55",#[⟨8,.data⟩,{on:=11,ground:=Ground.gcOnly Departure.lateStores}],none⟩) (v:=?_) rfl (by kernel_rfl) (by kernel_rfl) (by kernel_rfl) (fun _ _ _ h=>h) (Or.inl ⟨by rfl,?_⟩) (by assumption) ?_
    rotate_left
    ·intro w z;(try dsimp only at z);go_simp;try with_reducible rfl
    simp only[Act.put,sA,sB,sC]
    refine wpAnyH_take (i:=11) (oi:=⟨some 8,Op.assign (.tmp 35),3,"dag.go:55",#[⟨9,.data⟩,⟨7,.chain⟩,⟨0,.phase⟩,⟨1,.phase⟩,⟨2,.phase⟩,⟨3,.phase⟩,⟨4,.phase⟩,⟨5,.phase⟩,⟨6,.phase⟩,⟨7,.phase⟩,⟨8,.phase⟩,⟨9,.phase⟩,{on:=10,ground:=Ground.textOnly Departure.lateStores}],none⟩) (v:=?_) rfl (by kernel_rfl) (by kernel_rfl) (by kernel_rfl) (fun _ _ _ h=>h) (Or.inl ⟨by rfl,?_⟩) (by assumption) ?_
    rotate_left
    ·intro w z;(try dsimp only at z);go_simp;try with_reducible rfl
    simp only[Act.put,sA,sB,sC]
    refine wpAnyH_take (i:=12) (oi:=⟨some 9,Op.assign (.tmp 36),4,"dag.go:55",#[⟨10,.data⟩,⟨11,.chain⟩,⟨0,.phase⟩,⟨1,.phase⟩,⟨2,.phase⟩,⟨3,.phase⟩,⟨4,.phase⟩,⟨5,.phase⟩,⟨6,.phase⟩,⟨7,.phase⟩,⟨8,.phase⟩,⟨9,.phase⟩,⟨10,.phase⟩,⟨11,.phase⟩],none⟩) (v:=?_) rfl (by kernel_rfl) (by kernel_rfl) (by kernel_rfl) (fun _ _ _ h=>h) (Or.inl ⟨by rfl,?_⟩) (by assumption) ?_
    rotate_left
    ·intro w z;(try dsimp only at z);go_simp;try with_reducible rfl
    simp only[Act.put,sA,sB,sC]
    refine wpAnyH_done (by kernel_rfl) ?_ _
    clear hHeld LV1 K3 D2 y2 x2 F2
    cases o1
    ·obtain⟨f1,hf1⟩:∃x,x=fdel fp (p,i):=⟨_,rfl⟩
     rw[←hf1] at D3
     have H1:Aside ((a=(l true p).length-1∧f1=fdel fp (p,i))∨(a≠(l true p).length-1∧∃b1':Nat,(l false (lastI (l true p)))[b1']?=some p∧f1=fput (fdel fp (p,i)) (p,lastI (l true p)) (prV (a,b1')))):=.inl ⟨Decidable.not_not.1 (of_decide_eq_false HO1.out),hf1⟩
     have F1e:Aside (∀(a2:Nat),lastI (l false i)≠p→fp (lastI (l false i),i)=some (prV (a2,((l false i).length-1:Nat)))→f1 (lastI (l false i),i)=some (prV (a2,((l false i).length-1:Nat)))):=fun a2 ne h=>by
      rw[hf1]
      unfold fdel
      rw[if_neg (fun e=>by injection e with e1 e2;exact ne e1)]
      exact h
     clear hf1
     have L2:=leave_any D3.drew hN false i b (by rw[lset_tf];exact bl)
     rw[lset_tf] at L2
     obtain⟨Y,hY⟩:∃Y,lastI (l false i)=Y:=⟨_,rfl⟩
     obtain⟨o2,ho2⟩:∃o2,decide (b≠(l false i).length-1)=o2:=⟨_,rfl⟩
     rw[hY,ho2] at L2
     have LV2:Aside (Calls _ _ _ _ _):=L2
     have K6:Aside (v3.drew.cell? ⟨B,2,none⟩=some (.map (some (M false)))∧v3.drew.cell? ⟨S+1,1,none⟩=some (.int .i64 b)):=⟨D3.cell0.2.2,v3y.cell.2⟩
     have HY:Hid _:=hY
     have HO2:Hid _:=ho2
     clear L2 hY ho2
     go_upto_region 6 with fail
     refine wp_region_held_drew (S:=(fun v0=>v0.cell? ⟨B,2,none⟩=some (.map (some (M false)))∧v0.cell? ⟨S+1,1,none⟩=some (.int .i64 b))) (by kernel_rfl) (K6.out) (fun hHeld=>?_)
     refine wpAnyH_take (i:=0) (oi:=⟨some 58,Op.move (.tmp 0),94,"dag.go:58",#[],none⟩) (v:=?_) rfl (by kernel_rfl) (by kernel_rfl) (by kernel_rfl) (fun _ _ _ h=>h) (Or.inl ⟨by rfl,?_⟩) (by assumption) ?_
     rotate_left
     ·intro w z;(try dsimp only at z);go_simp;try with_reducible rfl
     simp only[Act.put,sA,sB,sC]
     refine wpAnyH_take (i:=1) (oi:=⟨some 59,Op.nilCheck (.tmp 58),0,"dag.go:58",#[⟨0,.data⟩],none⟩) (v:=?_) rfl (by kernel_rfl) (by kernel_rfl) (by kernel_rfl) (fun _ _ _ h=>h) (Or.inl ⟨by rfl,?_⟩) (by assumption) ?_
     rotate_left
     ·intro w z;(try dsimp only at z);go_simp;try with_reducible rfl
     simp only[Act.put,sA,sB,sC]
     refine wpAnyH_take (i:=2) (oi:=⟨some 60,Op.fieldAddr 180 (.tmp 59) 2,0,"dag.go:58",#[⟨1,.data⟩],none⟩) (v:=?_) rfl (by kernel_rfl) (by kernel_rfl) (by kernel_rfl) (fun _ _ _ h=>h) (Or.inl ⟨by rfl,?_⟩) (by assumption) ?_
     rotate_left
     ·intro w z;(try dsimp only at z);go_simp;try with_reducible rfl
     simp only[Act.put,sA,sB,sC]
     refine wpAnyH_take (i:=3) (oi:=⟨some 61,Op.load 178 (.tmp 60),178,"dag.go:58",#[⟨2,.data⟩],none⟩) (v:=?_) rfl (by kernel_rfl) (by kernel_rfl) (by kernel_rfl) (fun _ _ _ h=>h) (Or.inl ⟨by rfl,?_⟩) (by assumption) ?_
     rotate_left
     ·intro w z;(try dsimp only at z);go_simp;try with_reducible rfl
     simp only[Act.put,sA,sB,sC]
     refine wpAnyH_take (i:=4) (oi:=⟨some 62,Op.move (.tmp 2),3,"dag.go:58",#[],none⟩) (v:=?_) rfl (by kernel_rfl) (by kernel_rfl) (by kernel_rfl) (fun _ _ _ h=>h) (Or.inl ⟨by rfl,?_⟩) (by assumption) ?_
     rotate_left
     ·intro w z;(try dsimp only at z);go_simp;try with_reducible rfl
     simp only[Act.put,sA,sB,sC]
     refine wpAnyH_take (i:=5) (oi:=⟨some 63,Op.indexAddr 145 (.tmp 7) (Operand.const (Value.int IntKind.i64 1)),0,"dag.go:58",#[],none⟩) (v:=?_) rfl (by kernel_rfl) (by kernel_rfl) (by kernel_rfl) (fun _ _ _ h=>h) (Or.inl ⟨by rfl,?_⟩) (by assumption) ?_
     rotate_left
     ·intro w z;(try dsimp only at z);go_simp;try with_reducible rfl
     simp only[Act.put,sA,sB,sC]
     refine wpAnyH_take (i:=6) (oi:=⟨some 64,Op.load 3 (.tmp 63),3,"dag.go:58",#[⟨5,.data⟩],none⟩) (v:=?_) rfl (by kernel_rfl) (by kernel_rfl) (by kernel_rfl) (fun _ _ _ h=>h) (Or.inl ⟨by rfl,?_⟩) (by assumption) ?_
     rotate_left
     ·intro w z;(try dsimp only at z);go_simp;try with_reducible rfl
     simp only[Act.put,sA,sB,sC]
     refine wpAnyH_ready (rs:=[7]) (by kernel_rfl) (by simp) ?_
     refine AllReadyH.cons (o:={dst:=some 65,op:=Op.call {callee:=Callee.value (Operand.func 277),args:=#[Operand.tmp 61,Operand.tmp 62,Operand.tmp 64],argTypes:=#[178,3,3]},type:=63,pos:= "dag.go:58",after:=#[⟨3,.data⟩,⟨4,.data⟩,⟨6,.data⟩],guard:=none}) rfl (fun Kt hKt=>?_) AllReadyH.nil
     go_simp
     (with_reducible refine Calls.mono LV2.out ?_)
     rintro x_ v5 ⟨rfl,f5,D5,G5,T5'⟩
     have y5:Bx v5 (S+1) a b:=Bx.fr (w:=v3.drew) v3y G5 (fun hk=>by have:=notft _ (T3 _ hk);omega)
     have F5:Aside (Fr (ft B M0 M f) w v5):=F3.drew.trans G5 (fun j hj=>.inl (T3 j hj))
     have T5:Aside (∀k,ft B M0 M f5 k→ft B M0 M f k):=fun k hk=>T3 k (T5' k hk)
     clear G5 T5'
     go_wp2_with fail
     refine hKt.out _ _ (⟨D5.cell0.2.2,y5.cell.2⟩) (fun hHeld=>?_)
     clear hKt Kt
     try simp only[Act.put,sA,sB,sC]
     refine wpAnyH_take (i:=8) (oi:=⟨some 57,Op.move (.tmp 65),63,"dag.go:58",#[⟨7,.data⟩],none⟩) (v:=?_) rfl (by kernel_rfl) (by kernel_rfl) (by kernel_rfl) (fun _ _ _ h=>h) (Or.inl ⟨by rfl,?_⟩) (by assumption) ?_
     rotate_left
     ·intro w z;(try dsimp only at z);go_simp;try with_reducible rfl
     simp only[Act.put,sA,sB,sC]
     refine wpAnyH_take (i:=9) (oi:=⟨some 66,Op.extract (.tmp 57) 0,3,"dag.go:58",#[⟨8,.data⟩],none⟩) (v:=?_) rfl (by kernel_rfl) (by kernel_rfl) (by kernel_rfl) (fun _ _ _ h=>h) (Or.inl ⟨by rfl,?_⟩) (by assumption) ?_
     rotate_left
     ·intro w z;(try dsimp only at z);go_simp;try with_reducible rfl
     simp only[Act.put,sA,sB,sC]
     refine wpAnyH_take (i:=10) (oi:=⟨some 67,Op.extract (.tmp 57) 1,4,"dag.go:58",#[⟨8,.data⟩,{on:=11,ground:=Ground.gcOnly Departure.lateStores}],none⟩) (v:=?_) rfl (by kernel_rfl) (by kernel_rfl) (by kernel_rfl) (fun _ _ _ h=>h) (Or.inl ⟨by rfl,?_⟩) (by assumption) ?_
     rotate_left
     ·intro w z;(try dsimp only at z);go_simp;try with_reducible rfl
     simp only[Act.put,sA,sB,sC]
     refine wpAnyH_take (i:=11) (oi:=⟨some 10,Op.assign (.tmp 66),3,"dag.go:58",#[⟨9,.data⟩,⟨7,.chain⟩,⟨0,.phase⟩,⟨1,.phase⟩,⟨2,.phase⟩,⟨3,.phase⟩,⟨4,.phase⟩,⟨5,.phase⟩,⟨6,.phase⟩,⟨7,.phase⟩,⟨8,.phase⟩,⟨9,.phase⟩,{on:=10,ground:=Ground.textOnly Departure.lateStores}],none⟩) (v:=?_) rfl (by kernel_rfl) (by kernel_rfl) (by kernel_rfl) (fun _ _ _ h=>h) (Or.inl ⟨by rfl,?_⟩) (by assumption) ?_
     rotate_left
     ·intro w z;(try dsimp only at z);go_simp;try with_reducible rfl
     simp only[Act.put,sA,sB,sC]
     refine wpAnyH_take (i:=12) (oi:=⟨some 11,Op.assign (.tmp 67),4,"dag.go:58",#[⟨10,.data⟩,⟨11,.chain⟩,⟨0,.phase⟩,⟨1,.phase⟩,⟨2,.phase⟩,⟨3,.phase⟩,⟨4,.phase⟩,⟨5,.phase⟩,⟨6,.phase⟩,⟨7,.phase⟩,⟨8,.phase⟩,⟨9,.phase⟩,⟨10,.phase⟩,⟨11,.phase⟩],none⟩) (v:=?_) rfl (by kernel_rfl) (by kernel_rfl) (by kernel_rfl) (fun _ _ _ h=>h) (Or.inl ⟨by rfl,?_⟩) (by assumption) ?_
     rotate_left
     ·intro w z;(try dsimp only at z);go_simp;try with_reducible rfl
     simp only[Act.put,sA,sB,sC]
     refine wpAnyH_done (by kernel_rfl) ?_ _
     clear hHeld LV2 K6
     cases o2
     ·have FIN:Aside (∃fp' f' l',DgA v5 B M0 M fp' f' l' N∧Inv (Epart E p i) fp' l'∧Fr (ft B M0 M f) w v5∧∀k,ft B M0 M f' k→ft B M0 M f k):=
       ⟨_,_,_,D5,I.part he ha hb H1.out (.inl ⟨Decidable.not_not.1 (of_decide_eq_false HO2.out),rfl⟩),F5.out,T5.out⟩
      clear D5 y5
      go_wp2
      go_end0
      exact⟨rfl,FIN.out⟩
     ·obtain⟨a2,ne2,E2,P2,A2⟩:=mv2 (of_decide_eq_true HO2.out)
      have D5d:=D5.drew
      have P2':f1 (Y,i)=some (prV (a2,((l false i).length-1:Nat))):=by rw[←HY.out];exact F1e.out a2 ne2 P2
      obtain⟨LY,hLY⟩:∃z:Int,((((l false i).length-1:Nat)):Int)=z:=⟨_,rfl⟩
      rw[hLY] at P2'
      have wY:wfI Y:=by rw[←HY.out];exact(I.wf E2).1
      obtain⟨n6,q6,hn6⟩:=D5d.mp
      obtain⟨v6,m6,hr6,q6',hm6,g6⟩:=q6.store Tryz.underlying177 (by omega) (x:=(Y,i)) ⟨wY,hi⟩ (prV (a2,b))
      rw[P2'] at hm6
      have hm6:m6=n6:=by simpa using hm6
      change (Instr.mapUpdate 177 (.map (some M0)) (.agg #[.int .i64 Y,.int .i64 i]) (.agg #[.int .i64 a2,.int .i64 b])).run _ _=_ at hr6
      have D6:=D5d.setP q6' (by omega) g6
      have F6:Fr (ft B M0 M f) w v6:=F5.out.drew.trans (Fr.of_grown g6) (fun j hj=>by injection hj with hj;exact .inl (.inr (.inl hj.symm)))
      have K8:Aside (v5.drew.cell? ⟨B,0,none⟩=some (.map (some M0))∧v5.drew.cell? ⟨S+1,1,none⟩=some (.int .i64 b)∧(Instr.lookup 177 (.map (some M0)) (.agg #[.int .i64 Y,.int .i64 i]) false).run Tryz.prog v5.drew=.ok (.agg #[.int .i64 a2,.int .i64 LY]) v5.drew):=⟨D5d.cell0.1,y5.cell.2,D5d.lookP wY hi P2'⟩
      have FIN:Aside (∃fp' f' l',DgA v6 B M0 M fp' f' l' N∧Inv (Epart E p i) fp' l'∧Fr (ft B M0 M f) w v6∧∀k,ft B M0 M f' k→ft B M0 M f k):=
       ⟨_,_,_,D6,I.part he ha hb H1.out (.inr ⟨of_decide_eq_true HO2.out,a2,A2,by rw[HY.out]⟩),F6,T5.out⟩
      clear D5d q6 q6' g6 D6 F6 P2' hm6 hn6 hLY
      go_upto_region 8 with fail
      refine anyE_start (S:=(fun v0=>v0.cell? ⟨B,0,none⟩=some (.map (some M0))∧v0.cell? ⟨S+1,1,none⟩=some (.int .i64 b)∧(Instr.lookup 177 (.map (some M0)) (.agg #[.int .i64 Y,.int .i64 i]) false).run Tryz.prog v0=.ok (.agg #[.int .i64 a2,.int .i64 LY]) v0)) (L:=19) (by kernel_rfl) ?_
      refine anyE_t (i:=0) (oi:=⟨some 69,Op.move (.tmp 0),94,"dag.go:59",#[],none⟩) (v:=?_) rfl (by kernel_rfl) (fun _ _ _ h=>h) (Or.inl ⟨by rfl,?_⟩) (K8.out) ?_
      rotate_left
      ·intro w z;(try dsimp only at z);go_simp;try with_reducible rfl
      simp only[Act.put,sA,sB,sC]
      refine anyE_t (i:=1) (oi:=⟨some 70,Op.nilCheck (.tmp 69),0,"dag.go:59",#[⟨0,.data⟩],none⟩) (v:=?_) rfl (by kernel_rfl) (fun _ _ _ h=>h) (Or.inl ⟨by rfl,?_⟩) (K8.out) ?_
      rotate_left
      ·intro w z;(try dsimp only at z);go_simp;try with_reducible rfl
      simp only[Act.put,sA,sB,sC]
      refine anyE_t (i:=2) (oi:=⟨some 71,Op.fieldAddr 180 (.tmp 70) 0,0,"dag.go:59",#[⟨1,.data⟩],none⟩) (v:=?_) rfl (by kernel_rfl) (fun _ _ _ h=>h) (Or.inl ⟨by rfl,?_⟩) (K8.out) ?_
      rotate_left
      ·intro w z;(try dsimp only at z);go_simp;try with_reducible rfl
      simp only[Act.put,sA,sB,sC]
      refine anyE_t (i:=3) (oi:=⟨some 72,Op.load 177 (.tmp 71),177,"dag.go:59",#[⟨2,.data⟩],none⟩) (v:=?_) rfl (by kernel_rfl) (fun _ _ _ h=>h) (Or.inl ⟨by rfl,?_⟩) (K8.out) ?_
      rotate_left
      ·intro w z;(try dsimp only at z);go_simp;try with_reducible rfl
      simp only[Act.put,sA,sB,sC]
      refine anyE_t (i:=4) (oi:=⟨some 73,Op.move (.tmp 10),3,"dag.go:59",#[],none⟩) (v:=?_) rfl (by kernel_rfl) (fun _ _ _ h=>h) (Or.inl ⟨by rfl,?_⟩) (K8.out) ?_
      rotate_left
      ·intro w z;(try dsimp only at z);go_simp;try with_reducible rfl
      simp only[Act.put,sA,sB,sC]
      refine anyE_t (i:=5) (oi:=⟨some 74,Op.move (.tmp 2),3,"dag.go:59",#[],none⟩) (v:=?_) rfl (by kernel_rfl) (fun _ _ _ h=>h) (Or.inl ⟨by rfl,?_⟩) (K8.out) ?_
      rotate_left
      ·intro w z;(try dsimp only at z);go_simp;try with_reducible rfl
      simp only[Act.put,sA,sB,sC]
      refine anyE_t (i:=6) (oi:=⟨some 75,Op.build 145 #[(0,Operand.tmp 73),(1,Operand.tmp 74)],145,"dag.go:59",#[⟨4,.data⟩,⟨5,.data⟩],none⟩) (v:=?_) rfl (by kernel_rfl) (fun _ _ _ h=>h) (Or.inl ⟨by rfl,?_⟩) (K8.out) ?_
      rotate_left
      ·intro w z;(try dsimp only at z);go_simp;try with_reducible rfl
      simp only[Act.put,sA,sB,sC]
      refine anyE_t (i:=7) (oi:=⟨some 76,Op.move (.tmp 0),94,"dag.go:59",#[],none⟩) (v:=?_) rfl (by kernel_rfl) (fun _ _ _ h=>h) (Or.inl ⟨by rfl,?_⟩) (K8.out) ?_
      rotate_left
      ·intro w z;(try dsimp only at z);go_simp;try with_reducible rfl
      simp only[Act.put,sA,sB,sC]
      refine anyE_t (i:=8) (oi:=⟨some 77,Op.nilCheck (.tmp 76),0,"dag.go:59",#[⟨7,.data⟩],none⟩) (v:=?_) rfl (by kernel_rfl) (fun _ _ _ h=>h) (Or.inl ⟨by rfl,?_⟩) (K8.out) ?_
      rotate_left
      ·intro w z;(try dsimp only at z);go_simp;try with_reducible rfl
      simp only[Act.put,sA,sB,sC]
      refine anyE_t (i:=9) (oi:=⟨some 78,Op.fieldAddr 180 (.tmp 77) 0,0,"dag.go:59",#[⟨8,.data⟩],none⟩) (v:=?_) rfl (by kernel_rfl) (fun _ _ _ h=>h) (Or.inl ⟨by rfl,?_⟩) (K8.out) ?_
      rotate_left
      ·intro w z;(try dsimp only at z);go_simp;try with_reducible rfl
      simp only[Act.put,sA,sB,sC]
      refine anyE_t (i:=10) (oi:=⟨some 79,Op.load 177 (.tmp 78),177,"dag.go:59",#[⟨9,.data⟩],none⟩) (v:=?_) rfl (by kernel_rfl) (fun _ _ _ h=>h) (Or.inl ⟨by rfl,?_⟩) (K8.out) ?_
      rotate_left
      ·intro w z;(try dsimp only at z);go_simp;try with_reducible rfl
      simp only[Act.put,sA,sB,sC]
      refine anyE_t (i:=11) (oi:=⟨some 80,Op.move (.tmp 10),3,"dag.go:59",#[],none⟩) (v:=?_) rfl (by kernel_rfl) (fun _ _ _ h=>h) (Or.inl ⟨by rfl,?_⟩) (K8.out) ?_
      rotate_left
      ·intro w z;(try dsimp only at z);go_simp;try with_reducible rfl
      simp only[Act.put,sA,sB,sC]
      refine anyE_t (i:=12) (oi:=⟨some 81,Op.move (.tmp 2),3,"dag.go:59",#[],none⟩) (v:=?_) rfl (by kernel_rfl) (fun _ _ _ h=>h) (Or.inl ⟨by rfl,?_⟩) (K8.out) ?_
      rotate_left
      ·intro w z;(try dsimp only at z);go_simp;try with_reducible rfl
      simp only[Act.put,sA,sB,sC]
      refine anyE_t (i:=13) (oi:=⟨some 82,Op.build 145 #[(0,Operand.tmp 80),(1,Operand.tmp 81)],145,"dag.go:59",#[⟨11,.data⟩,⟨12,.data⟩],none⟩) (v:=?_) rfl (by kernel_rfl) (fun _ _ _ h=>h) (Or.inl ⟨by rfl,?_⟩) (K8.out) ?_
      rotate_left
      ·intro w z;(try dsimp only at z);go_simp;try with_reducible rfl
      simp only[Act.put,sA,sB,sC]
      refine anyE_t (i:=14) (oi:=⟨some 83,Op.lookup 177 (.tmp 79) (.tmp 82) false,145,"dag.go:59",#[⟨10,.data⟩,⟨13,.data⟩],none⟩) (v:=?_) rfl (by kernel_rfl) (fun _ _ _ h=>h) (Or.inl ⟨by rfl,?_⟩) (K8.out) ?_
      rotate_left
      ·intro w z;(try dsimp only at z);go_simp;try with_reducible rfl
      simp only[Act.put,sA,sB,sC]
      refine anyE_t (i:=15) (oi:=⟨some 84,Op.index 145 (.tmp 83) (Operand.const (Value.int IntKind.i64 0)),3,"dag.go:59",#[⟨14,.data⟩],none⟩) (v:=?_) rfl (by kernel_rfl) (fun _ _ _ h=>h) (Or.inl ⟨by rfl,?_⟩) (K8.out) ?_
      rotate_left
      ·intro w z;(try dsimp only at z);go_simp;try with_reducible rfl
      simp only[Act.put,sA,sB,sC]
      refine anyE_t (i:=16) (oi:=⟨some 85,Op.indexAddr 145 (.tmp 7) (Operand.const (Value.int IntKind.i64 1)),0,"dag.go:59",#[],none⟩) (v:=?_) rfl (by kernel_rfl) (fun _ _ _ h=>h) (Or.inl ⟨by rfl,?_⟩) (K8.out) ?_
      rotate_left
      ·intro w z;(try dsimp only at z);go_simp;try with_reducible rfl
      simp only[Act.put,sA,sB,sC]
      refine anyE_t (i:=17) (oi:=⟨some 86,Op.load 3 (.tmp 85),3,"dag.go:59",#[⟨16,.data⟩],none⟩) (v:=?_) rfl (by kernel_rfl) (fun _ _ _ h=>h) (Or.inl ⟨by rfl,?_⟩) (K8.out) ?_
      rotate_left
      ·intro w z;(try dsimp only at z);go_simp;try with_reducible rfl
      simp only[Act.put,sA,sB,sC]
      refine anyE_t (i:=18) (oi:=⟨some 87,Op.build 145 #[(0,Operand.tmp 84),(1,Operand.tmp 86)],145,"dag.go:59",#[⟨15,.data⟩,⟨17,.data⟩],none⟩) (v:=?_) rfl (by kernel_rfl) (fun _ _ _ h=>h) (Or.inl ⟨by rfl,?_⟩) (K8.out) ?_
      rotate_left
      ·intro w z;(try dsimp only at z);go_simp;try with_reducible rfl
      simp only[Act.put,sA,sB,sC]
      refine anyE_ready (rs:=[19]) (by kernel_rfl) (by simp) ?_
      refine AllE.cons (o:=⟨none,Op.mapUpdate 177 (.tmp 72) (.tmp 75) (.tmp 87),0,"dag.go:59",#[⟨3,.data⟩,⟨6,.data⟩,⟨18,.data⟩,⟨0,.phase⟩,⟨1,.phase⟩,⟨2,.phase⟩,⟨3,.phase⟩,⟨4,.phase⟩,⟨5,.phase⟩,⟨6,.phase⟩,⟨7,.phase⟩,⟨8,.phase⟩,⟨9,.phase⟩,⟨10,.phase⟩,⟨11,.phase⟩,⟨12,.phase⟩,⟨13,.phase⟩,⟨14,.phase⟩,⟨15,.phase⟩,⟨16,.phase⟩,⟨17,.phase⟩,⟨18,.phase⟩],none⟩) rfl (fun Kt hKt=>?_) ?_
      ·go_simp
       refine hKt.out _ _ (fun h=>absurd rfl h) ?_
       clear hKt Kt
       try simp only[Act.put,sA,sB,sC]
       refine anyE_done (by kernel_rfl) ?_ _
       go_wp2
       go_end0
       exact⟨rfl,FIN.out⟩
      exact AllE.nil
    ·obtain⟨b1,ne1,E1,P1,A1⟩:=mv1 (of_decide_eq_true HO1.out)
     have D3d:=D3.drew
     have P1':fdel fp (p,i) (p,X)=some (prV (((l true p).length-1:Nat),b1)):=by
      rw[←HX.out]
      unfold fdel
      rw[if_neg (fun e=>by injection e with e1 e2;exact ne1 e2)]
      exact P1
     obtain⟨LX,hLX⟩:∃z:Int,((((l true p).length-1:Nat)):Int)=z:=⟨_,rfl⟩
     rw[hLX] at P1'
     have wX:wfI X:=by rw[←HX.out];exact(I.wf E1).2
     obtain⟨n4,q4,hn4⟩:=D3d.mp
     obtain⟨v4,m4,hr4,q4',hm4,g4⟩:=q4.store Tryz.underlying177 (by omega) (x:=(p,X)) ⟨hp,wX⟩ (prV (a,b1))
     rw[P1'] at hm4
     have hm4:m4=n4:=by simpa using hm4
     change (Instr.mapUpdate 177 (.map (some M0)) (.agg #[.int .i64 p,.int .i64 X]) (.agg #[.int .i64 a,.int .i64 b1])).run _ _=_ at hr4
     have D4:=D3d.setP q4' (by omega) g4
     have F34:Fr (fun k=>k=M0) v3 v4:=((Fr.refl _ _).drew).trans (Fr.of_grown g4) (fun j hj=>by injection hj with hj;exact .inl hj.symm)
     have v4y:Bx v4 (S+1) a b:=v3y.fr F34 (by omega)
     have F4:Fr (ft B M0 M f) w v4:=F3.trans F34 (fun j hj=>.inl (.inr (.inl hj)))
     have K5:Aside (v3.drew.cell? ⟨B,0,none⟩=some (.map (some M0))∧v3.drew.cell? ⟨S+1,0,none⟩=some (.int .i64 a)∧(Instr.lookup 177 (.map (some M0)) (.agg #[.int .i64 p,.int .i64 X]) false).run Tryz.prog v3.drew=.ok (.agg #[.int .i64 LX,.int .i64 b1]) v3.drew):=⟨D3d.cell0.1,v3y.cell.1,D3d.lookP hp wX P1'⟩
     obtain⟨f1,hf1⟩:∃x,x=(fput (fdel fp (p,i)) (p,X) (prV (a,b1))):=⟨_,rfl⟩
     rw[←hf1] at D4
     have H1:Aside ((a=(l true p).length-1∧f1=fdel fp (p,i))∨(a≠(l true p).length-1∧∃b1':Nat,(l false (lastI (l true p)))[b1']?=some p∧f1=fput (fdel fp (p,i)) (p,lastI (l true p)) (prV (a,b1')))):=.inr ⟨of_decide_eq_true HO1.out,b1,A1,by rw[HX.out];exact hf1⟩
     have F1e:Aside (∀(a2:Nat),lastI (l false i)≠p→fp (lastI (l false i),i)=some (prV (a2,((l false i).length-1:Nat)))→f1 (lastI (l false i),i)=some (prV (a2,((l false i).length-1:Nat)))):=fun a2 ne h=>by
      rw[hf1]
      unfold fput fdel
      rw[if_neg (fun e=>by injection e with e1 e2;exact ne e1),if_neg (fun e=>by injection e with e1 e2;exact ne e1)]
      exact h
     clear D3d q4 q4' g4 F34 hm4 hn4 hLX D3 P1' hf1
     go_upto_region 5 with fail
     refine anyE_start (S:=(fun v0=>v0.cell? ⟨B,0,none⟩=some (.map (some M0))∧v0.cell? ⟨S+1,0,none⟩=some (.int .i64 a)∧(Instr.lookup 177 (.map (some M0)) (.agg #[.int .i64 p,.int .i64 X]) false).run Tryz.prog v0=.ok (.agg #[.int .i64 LX,.int .i64 b1]) v0)) (L:=19) (by kernel_rfl) ?_
     refine anyE_t (i:=0) (oi:=⟨some 38,Op.move (.tmp 0),94,"dag.go:56",#[],none⟩) (v:=?_) rfl (by kernel_rfl) (fun _ _ _ h=>h) (Or.inl ⟨by rfl,?_⟩) (K5.out) ?_
     rotate_left
     ·intro w z;(try dsimp only at z);go_simp;try with_reducible rfl
     simp only[Act.put,sA,sB,sC]
     refine anyE_t (i:=1) (oi:=⟨some 39,Op.nilCheck (.tmp 38),0,"dag.go:56",#[⟨0,.data⟩],none⟩) (v:=?_) rfl (by kernel_rfl) (fun _ _ _ h=>h) (Or.inl ⟨by rfl,?_⟩) (K5.out) ?_
     rotate_left
     ·intro w z;(try dsimp only at z);go_simp;try with_reducible rfl
     simp only[Act.put,sA,sB,sC]
     refine anyE_t (i:=2) (oi:=⟨some 40,Op.fieldAddr 180 (.tmp 39) 0,0,"dag.go:56",#[⟨1,.data⟩],none⟩) (v:=?_) rfl (by kernel_rfl) (fun _ _ _ h=>h) (Or.inl ⟨by rfl,?_⟩) (K5.out) ?_
     rotate_left
     ·intro w z;(try dsimp only at z);go_simp;try with_reducible rfl
     simp only[Act.put,sA,sB,sC]
     refine anyE_t (i:=3) (oi:=⟨some 41,Op.load 177 (.tmp 40),177,"dag.go:56",#[⟨2,.data⟩],none⟩) (v:=?_) rfl (by kernel_rfl) (fun _ _ _ h=>h) (Or.inl ⟨by rfl,?_⟩) (K5.out) ?_
     rotate_left
     ·intro w z;(try dsimp only at z);go_simp;try with_reducible rfl
     simp only[Act.put,sA,sB,sC]
     refine anyE_t (i:=4) (oi:=⟨some 42,Op.move (.tmp 1),3,"dag.go:56",#[],none⟩) (v:=?_) rfl (by kernel_rfl) (fun _ _ _ h=>h) (Or.inl ⟨by rfl,?_⟩) (K5.out) ?_
     rotate_left
     ·intro w z;(try dsimp only at z);go_simp;try with_reducible rfl
     simp only[Act.put,sA,sB,sC]
     refine anyE_t (i:=5) (oi:=⟨some 43,Op.move (.tmp 8),3,"dag.go:56",#[],none⟩) (v:=?_) rfl (by kernel_rfl) (fun _ _ _ h=>h) (Or.inl ⟨by rfl,?_⟩) (K5.out) ?_
     rotate_left
     ·intro w z;(try dsimp only at z);go_simp;try with_reducible rfl
     simp only[Act.put,sA,sB,sC]
     refine anyE_t (i:=6) (oi:=⟨some 44,Op.build 145 #[(0,Operand.tmp 42),(1,Operand.tmp 43)],145,"dag.go:56",#[⟨4,.data⟩,⟨5,.data⟩],none⟩) (v:=?_) rfl (by kernel_rfl) (fun _ _ _ h=>h) (Or.inl ⟨by rfl,?_⟩) (K5.out) ?_
     rotate_left
     ·intro w z;(try dsimp only at z);go_simp;try with_reducible rfl
     simp only[Act.put,sA,sB,sC]
     refine anyE_t (i:=7) (oi:=⟨some 45,Op.indexAddr 145 (.tmp 7) (Operand.const (Value.int IntKind.i64 0)),0,"dag.go:56",#[],none⟩) (v:=?_) rfl (by kernel_rfl) (fun _ _ _ h=>h) (Or.inl ⟨by rfl,?_⟩) (K5.out) ?_
     rotate_left
     ·intro w z;(try dsimp only at z);go_simp;try with_reducible rfl
     simp only[Act.put,sA,sB,sC]
     refine anyE_t (i:=8) (oi:=⟨some 46,Op.load 3 (.tmp 45),3,"dag.go:56",#[⟨7,.data⟩],none⟩) (v:=?_) rfl (by kernel_rfl) (fun _ _ _ h=>h) (Or.inl ⟨by rfl,?_⟩) (K5.out) ?_
     rotate_left
     ·intro w z;(try dsimp only at z);go_simp;try with_reducible rfl
     simp only[Act.put,sA,sB,sC]
     refine anyE_t (i:=9) (oi:=⟨some 47,Op.move (.tmp 0),94,"dag.go:56",#[],none⟩) (v:=?_) rfl (by kernel_rfl) (fun _ _ _ h=>h) (Or.inl ⟨by rfl,?_⟩) (K5.out) ?_
     rotate_left
     ·intro w z;(try dsimp only at z);go_simp;try with_reducible rfl
     simp only[Act.put,sA,sB,sC]
     refine anyE_t (i:=10) (oi:=⟨some 48,Op.nilCheck (.tmp 47),0,"dag.go:56",#[⟨9,.data⟩],none⟩) (v:=?_) rfl (by kernel_rfl) (fun _ _ _ h=>h) (Or.inl ⟨by rfl,?_⟩) (K5.out) ?_
     rotate_left
     ·intro w z;(try dsimp only at z);go_simp;try with_reducible rfl
     simp only[Act.put,sA,sB,sC]
     refine anyE_t (i:=11) (oi:=⟨some 49,Op.fieldAddr 180 (.tmp 48) 0,0,"dag.go:56",#[⟨10,.data⟩],none⟩) (v:=?_) rfl (by kernel_rfl) (fun _ _ _ h=>h) (Or.inl ⟨by rfl,?_⟩) (K5.out) ?_
     rotate_left
     ·intro w z;(try dsimp only at z);go_simp;try with_reducible rfl
     simp only[Act.put,sA,sB,sC]
     refine anyE_t (i:=12) (oi:=⟨some 50,Op.load 177 (.tmp 49),177,"dag.go:56",#[⟨11,.data⟩],none⟩) (v:=?_) rfl (by kernel_rfl) (fun _ _ _ h=>h) (Or.inl ⟨by rfl,?_⟩) (K5.out) ?_
     rotate_left
     ·intro w z;(try dsimp only at z);go_simp;try with_reducible rfl
     simp only[Act.put,sA,sB,sC]
     refine anyE_t (i:=13) (oi:=⟨some 51,Op.move (.tmp 1),3,"dag.go:56",#[],none⟩) (v:=?_) rfl (by kernel_rfl) (fun _ _ _ h=>h) (Or.inl ⟨by rfl,?_⟩) (K5.out) ?_
     rotate_left
     ·intro w z;(try dsimp only at z);go_simp;try with_reducible rfl
     simp only[Act.put,sA,sB,sC]
     refine anyE_t (i:=14) (oi:=⟨some 52,Op.move (.tmp 8),3,"dag.go:56",#[],none⟩) (v:=?_) rfl (by kernel_rfl) (fun _ _ _ h=>h) (Or.inl ⟨by rfl,?_⟩) (K5.out) ?_
     rotate_left
     ·intro w z;(try dsimp only at z);go_simp;try with_reducible rfl
     simp only[Act.put,sA,sB,sC]
     refine anyE_t (i:=15) (oi:=⟨some 53,Op.build 145 #[(0,Operand.tmp 51),(1,Operand.tmp 52)],145,"dag.go:56",#[⟨13,.data⟩,⟨14,.data⟩],none⟩) (v:=?_) rfl (by kernel_rfl) (fun _ _ _ h=>h) (Or.inl ⟨by rfl,?_⟩) (K5.out) ?_
     rotate_left
     ·intro w z;(try dsimp only at z);go_simp;try with_reducible rfl
     simp only[Act.put,sA,sB,sC]
     refine anyE_t (i:=16) (oi:=⟨some 54,Op.lookup 177 (.tmp 50) (.tmp 53) false,145,"dag.go:56",#[⟨12,.data⟩,⟨15,.data⟩],none⟩) (v:=?_) rfl (by kernel_rfl) (fun _ _ _ h=>h) (Or.inl ⟨by rfl,?_⟩) (K5.out) ?_
     rotate_left
     ·intro w z;(try dsimp only at z);go_simp;try with_reducible rfl
     simp only[Act.put,sA,sB,sC]
     refine anyE_t (i:=17) (oi:=⟨some 55,Op.index 145 (.tmp 54) (Operand.const (Value.int IntKind.i64 1)),3,"dag.go:56",#[⟨16,.data⟩],none⟩) (v:=?_) rfl (by kernel_rfl) (fun _ _ _ h=>h) (Or.inl ⟨by rfl,?_⟩) (K5.out) ?_
     rotate_left
     ·intro w z;(try dsimp only at z);go_simp;try with_reducible rfl
     simp only[Act.put,sA,sB,sC]
     refine anyE_t (i:=18) (oi:=⟨some 56,Op.build 145 #[(0,Operand.tmp 46),(1,Operand.tmp 55)],145,"dag.go:56",#[⟨8,.data⟩,⟨17,.data⟩],none⟩) (v:=?_) rfl (by kernel_rfl) (fun _ _ _ h=>h) (Or.inl ⟨by rfl,?_⟩) (K5.out) ?_
     rotate_left
     ·intro w z;(try dsimp only at z);go_simp;try with_reducible rfl
     simp only[Act.put,sA,sB,sC]
     refine anyE_ready (rs:=[19]) (by kernel_rfl) (by simp) ?_
     refine AllE.cons (o:=⟨none,Op.mapUpdate 177 (.tmp 41) (.tmp 44) (.tmp 56),0,"dag.go:56",#[⟨3,.data⟩,⟨6,.data⟩,⟨18,.data⟩,⟨0,.phase⟩,⟨1,.phase⟩,⟨2,.phase⟩,⟨3,.phase⟩,⟨4,.phase⟩,⟨5,.phase⟩,⟨6,.phase⟩,⟨7,.phase⟩,⟨8,.phase⟩,⟨9,.phase⟩,⟨10,.phase⟩,⟨11,.phase⟩,⟨12,.phase⟩,⟨13,.phase⟩,⟨14,.phase⟩,⟨15,.phase⟩,⟨16,.phase⟩,⟨17,.phase⟩,⟨18,.phase⟩],none⟩) rfl (fun Kt hKt=>?_) ?_
     ·go_simp
      refine hKt.out _ _ (fun h=>absurd rfl h) ?_
      clear hKt Kt
      try simp only[Act.put,sA,sB,sC]
      refine anyE_done (by kernel_rfl) ?_ _
      clear hr4 K5
      have L2:=leave_any D4.drew hN false i b (by rw[lset_tf];exact bl)
      rw[lset_tf] at L2
      obtain⟨Y,hY⟩:∃Y,lastI (l false i)=Y:=⟨_,rfl⟩
      obtain⟨o2,ho2⟩:∃o2,decide (b≠(l false i).length-1)=o2:=⟨_,rfl⟩
      rw[hY,ho2] at L2
      have LV2:Aside (Calls _ _ _ _ _):=L2
      have K6:Aside (v4.drew.cell? ⟨B,2,none⟩=some (.map (some (M false)))∧v4.drew.cell? ⟨S+1,1,none⟩=some (.int .i64 b)):=⟨D4.cell0.2.2,v4y.cell.2⟩
      have HY:Hid _:=hY
      have HO2:Hid _:=ho2
      clear L2 hY ho2
      go_upto_region 6 with fail
      refine wp_region_held_drew (S:=(fun v0=>v0.cell? ⟨B,2,none⟩=some (.map (some (M false)))∧v0.cell? ⟨S+1,1,none⟩=some (.int .i64 b))) (by kernel_rfl) (K6.out) (fun hHeld=>?_)
      refine wpAnyH_take (i:=0) (oi:=⟨some 58,Op.move (.tmp 0),94,"dag.go:58",#[],none⟩) (v:=?_) rfl (by kernel_rfl) (by kernel_rfl) (by kernel_rfl) (fun _ _ _ h=>h) (Or.inl ⟨by rfl,?_⟩) (by assumption) ?_
      rotate_left
      ·intro w z;(try dsimp only at z);go_simp;try with_reducible rfl
      simp only[Act.put,sA,sB,sC]
      refine wpAnyH_take (i:=1) (oi:=⟨some 59,Op.nilCheck (.tmp 58),0,"dag.go:58",#[⟨0,.data⟩],none⟩) (v:=?_) rfl (by kernel_rfl) (by kernel_rfl) (by kernel_rfl) (fun _ _ _ h=>h) (Or.inl ⟨by rfl,?_⟩) (by assumption) ?_
      rotate_left
      ·intro w z;(try dsimp only at z);go_simp;try with_reducible rfl
      simp only[Act.put,sA,sB,sC]
      refine wpAnyH_take (i:=2) (oi:=⟨some 60,Op.fieldAddr 180 (.tmp 59) 2,0,"dag.go:58",#[⟨1,.data⟩],none⟩) (v:=?_) rfl (by kernel_rfl) (by kernel_rfl) (by kernel_rfl) (fun _ _ _ h=>h) (Or.inl ⟨by rfl,?_⟩) (by assumption) ?_
      rotate_left
      ·intro w z;(try dsimp only at z);go_simp;try with_reducible rfl
      simp only[Act.put,sA,sB,sC]
      refine wpAnyH_take (i:=3) (oi:=⟨some 61,Op.load 178 (.tmp 60),178,"dag.go:58",#[⟨2,.data⟩],none⟩) (v:=?_) rfl (by kernel_rfl) (by kernel_rfl) (by kernel_rfl) (fun _ _ _ h=>h) (Or.inl ⟨by rfl,?_⟩) (by assumption) ?_
      rotate_left
      ·intro w z;(try dsimp only at z);go_simp;try with_reducible rfl
      simp only[Act.put,sA,sB,sC]
      refine wpAnyH_take (i:=4) (oi:=⟨some 62,Op.move (.tmp 2),3,"dag.go:58",#[],none⟩) (v:=?_) rfl (by kernel_rfl) (by kernel_rfl) (by kernel_rfl) (fun _ _ _ h=>h) (Or.inl ⟨by rfl,?_⟩) (by assumption) ?_
      rotate_left
      ·intro w z;(try dsimp only at z);go_simp;try with_reducible rfl
      simp only[Act.put,sA,sB,sC]
      refine wpAnyH_take (i:=5) (oi:=⟨some 63,Op.indexAddr 145 (.tmp 7) (Operand.const (Value.int IntKind.i64 1)),0,"dag.go:58",#[],none⟩) (v:=?_) rfl (by kernel_rfl) (by kernel_rfl) (by kernel_rfl) (fun _ _ _ h=>h) (Or.inl ⟨by rfl,?_⟩) (by assumption) ?_
      rotate_left
      ·intro w z;(try dsimp only at z);go_simp;try with_reducible rfl
      simp only[Act.put,sA,sB,sC]
      refine wpAnyH_take (i:=6) (oi:=⟨some 64,Op.load 3 (.tmp 63),3,"dag.go:58",#[⟨5,.data⟩],none⟩) (v:=?_) rfl (by kernel_rfl) (by kernel_rfl) (by kernel_rfl) (fun _ _ _ h=>h) (Or.inl ⟨by rfl,?_⟩) (by assumption) ?_
      rotate_left
      ·intro w z;(try dsimp only at z);go_simp;try with_reducible rfl
      simp only[Act.put,sA,sB,sC]
      refine wpAnyH_ready (rs:=[7]) (by kernel_rfl) (by simp) ?_
      refine AllReadyH.cons (o:={dst:=some 65,op:=Op.call {callee:=Callee.value (Operand.func 277),args:=#[Operand.tmp 61,Operand.tmp 62,Operand.tmp 64],argTypes:=#[178,3,3]},type:=63,pos:= "dag.go:58",after:=#[⟨3,.data⟩,⟨4,.data⟩,⟨6,.data⟩],guard:=none}) rfl (fun Kt hKt=>?_) AllReadyH.nil
      go_simp
      (with_reducible refine Calls.mono LV2.out ?_)
      rintro x_ v5 ⟨rfl,f5,D5,G5,T5'⟩
      have y5:Bx v5 (S+1) a b:=Bx.fr (w:=v4.drew) v4y G5 (fun hk=>by have:=notft _ (T3 _ hk);omega)
      have F5:Aside (Fr (ft B M0 M f) w v5):=F4.drew.trans G5 (fun j hj=>.inl (T3 j hj))
      have T5:Aside (∀k,ft B M0 M f5 k→ft B M0 M f k):=fun k hk=>T3 k (T5' k hk)
      clear G5 T5'
      go_wp2_with fail
      refine hKt.out _ _ (⟨D5.cell0.2.2,y5.cell.2⟩) (fun hHeld=>?_)
      clear hKt Kt
      try simp only[Act.put,sA,sB,sC]
      refine wpAnyH_take (i:=8) (oi:=⟨some 57,Op.move (.tmp 65),63,"dag.go:58",#[⟨7,.data⟩],none⟩) (v:=?_) rfl (by kernel_rfl) (by kernel_rfl) (by kernel_rfl) (fun _ _ _ h=>h) (Or.inl ⟨by rfl,?_⟩) (by assumption) ?_
      rotate_left
      ·intro w z;(try dsimp only at z);go_simp;try with_reducible rfl
      simp only[Act.put,sA,sB,sC]
      refine wpAnyH_take (i:=9) (oi:=⟨some 66,Op.extract (.tmp 57) 0,3,"dag.go:58",#[⟨8,.data⟩],none⟩) (v:=?_) rfl (by kernel_rfl) (by kernel_rfl) (by kernel_rfl) (fun _ _ _ h=>h) (Or.inl ⟨by rfl,?_⟩) (by assumption) ?_
      rotate_left
      ·intro w z;(try dsimp only at z);go_simp;try with_reducible rfl
      simp only[Act.put,sA,sB,sC]
      refine wpAnyH_take (i:=10) (oi:=⟨some 67,Op.extract (.tmp 57) 1,4,"dag.go:58",#[⟨8,.data⟩,{on:=11,ground:=Ground.gcOnly Departure.lateStores}],none⟩) (v:=?_) rfl (by kernel_rfl) (by kernel_rfl) (by kernel_rfl) (fun _ _ _ h=>h) (Or.inl ⟨by rfl,?_⟩) (by assumption) ?_
      rotate_left
      ·intro w z;(try dsimp only at z);go_simp;try with_reducible rfl
      simp only[Act.put,sA,sB,sC]
      refine wpAnyH_take (i:=11) (oi:=⟨some 10,Op.assign (.tmp 66),3,"dag.go:58",#[⟨9,.data⟩,⟨7,.chain⟩,⟨0,.phase⟩,⟨1,.phase⟩,⟨2,.phase⟩,⟨3,.phase⟩,⟨4,.phase⟩,⟨5,.phase⟩,⟨6,.phase⟩,⟨7,.phase⟩,⟨8,.phase⟩,⟨9,.phase⟩,{on:=10,ground:=Ground.textOnly Departure.lateStores}],none⟩) (v:=?_) rfl (by kernel_rfl) (by kernel_rfl) (by kernel_rfl) (fun _ _ _ h=>h) (Or.inl ⟨by rfl,?_⟩) (by assumption) ?_
      rotate_left
      ·intro w z;(try dsimp only at z);go_simp;try with_reducible rfl
      simp only[Act.put,sA,sB,sC]
      refine wpAnyH_take (i:=12) (oi:=⟨some 11,Op.assign (.tmp 67),4,"dag.go:58",#[⟨10,.data⟩,⟨11,.chain⟩,⟨0,.phase⟩,⟨1,.phase⟩,⟨2,.phase⟩,⟨3,.phase⟩,⟨4,.phase⟩,⟨5,.phase⟩,⟨6,.phase⟩,⟨7,.phase⟩,⟨8,.phase⟩,⟨9,.phase⟩,⟨10,.phase⟩,⟨11,.phase⟩],none⟩) (v:=?_) rfl (by kernel_rfl) (by kernel_rfl) (by kernel_rfl) (fun _ _ _ h=>h) (Or.inl ⟨by rfl,?_⟩) (by assumption) ?_
      rotate_left
      ·intro w z;(try dsimp only at z);go_simp;try with_reducible rfl
      simp only[Act.put,sA,sB,sC]
      refine wpAnyH_done (by kernel_rfl) ?_ _
      clear hHeld LV2 K6
      cases o2
      ·have FIN:Aside (∃fp' f' l',DgA v5 B M0 M fp' f' l' N∧Inv (Epart E p i) fp' l'∧Fr (ft B M0 M f) w v5∧∀k,ft B M0 M f' k→ft B M0 M f k):=
        ⟨_,_,_,D5,I.part he ha hb H1.out (.inl ⟨Decidable.not_not.1 (of_decide_eq_false HO2.out),rfl⟩),F5.out,T5.out⟩
       clear D5 y5
       go_wp2
       go_end0
       exact⟨rfl,FIN.out⟩
      ·obtain⟨a2,ne2,E2,P2,A2⟩:=mv2 (of_decide_eq_true HO2.out)
       have D5d:=D5.drew
       have P2':f1 (Y,i)=some (prV (a2,((l false i).length-1:Nat))):=by rw[←HY.out];exact F1e.out a2 ne2 P2
       obtain⟨LY,hLY⟩:∃z:Int,((((l false i).length-1:Nat)):Int)=z:=⟨_,rfl⟩
       rw[hLY] at P2'
       have wY:wfI Y:=by rw[←HY.out];exact(I.wf E2).1
       obtain⟨n6,q6,hn6⟩:=D5d.mp
       obtain⟨v6,m6,hr6,q6',hm6,g6⟩:=q6.store Tryz.underlying177 (by omega) (x:=(Y,i)) ⟨wY,hi⟩ (prV (a2,b))
       rw[P2'] at hm6
       have hm6:m6=n6:=by simpa using hm6
       change (Instr.mapUpdate 177 (.map (some M0)) (.agg #[.int .i64 Y,.int .i64 i]) (.agg #[.int .i64 a2,.int .i64 b])).run _ _=_ at hr6
       have D6:=D5d.setP q6' (by omega) g6
       have F6:Fr (ft B M0 M f) w v6:=F5.out.drew.trans (Fr.of_grown g6) (fun j hj=>by injection hj with hj;exact .inl (.inr (.inl hj.symm)))
       have K8:Aside (v5.drew.cell? ⟨B,0,none⟩=some (.map (some M0))∧v5.drew.cell? ⟨S+1,1,none⟩=some (.int .i64 b)∧(Instr.lookup 177 (.map (some M0)) (.agg #[.int .i64 Y,.int .i64 i]) false).run Tryz.prog v5.drew=.ok (.agg #[.int .i64 a2,.int .i64 LY]) v5.drew):=⟨D5d.cell0.1,y5.cell.2,D5d.lookP wY hi P2'⟩
       have FIN:Aside (∃fp' f' l',DgA v6 B M0 M fp' f' l' N∧Inv (Epart E p i) fp' l'∧Fr (ft B M0 M f) w v6∧∀k,ft B M0 M f' k→ft B M0 M f k):=
        ⟨_,_,_,D6,I.part he ha hb H1.out (.inr ⟨of_decide_eq_true HO2.out,a2,A2,by rw[HY.out]⟩),F6,T5.out⟩
       clear D5d q6 q6' g6 D6 F6 P2' hm6 hn6 hLY
       go_upto_region 8 with fail
       refine anyE_start (S:=(fun v0=>v0.cell? ⟨B,0,none⟩=some (.map (some M0))∧v0.cell? ⟨S+1,1,none⟩=some (.int .i64 b)∧(Instr.lookup 177 (.map (some M0)) (.agg #[.int .i64 Y,.int .i64 i]) false).run Tryz.prog v0=.ok (.agg #[.int .i64 a2,.int .i64 LY]) v0)) (L:=19) (by kernel_rfl) ?_
       refine anyE_t (i:=0) (oi:=⟨some 69,Op.move (.tmp 0),94,"dag.go:59",#[],none⟩) (v:=?_) rfl (by kernel_rfl) (fun _ _ _ h=>h) (Or.inl ⟨by rfl,?_⟩) (K8.out) ?_
       rotate_left
       ·intro w z;(try dsimp only at z);go_simp;try with_reducible rfl
       simp only[Act.put,sA,sB,sC]
       refine anyE_t (i:=1) (oi:=⟨some 70,Op.nilCheck (.tmp 69),0,"dag.go:59",#[⟨0,.data⟩],none⟩) (v:=?_) rfl (by kernel_rfl) (fun _ _ _ h=>h) (Or.inl ⟨by rfl,?_⟩) (K8.out) ?_
       rotate_left
       ·intro w z;(try dsimp only at z);go_simp;try with_reducible rfl
       simp only[Act.put,sA,sB,sC]
       refine anyE_t (i:=2) (oi:=⟨some 71,Op.fieldAddr 180 (.tmp 70) 0,0,"dag.go:59",#[⟨1,.data⟩],none⟩) (v:=?_) rfl (by kernel_rfl) (fun _ _ _ h=>h) (Or.inl ⟨by rfl,?_⟩) (K8.out) ?_
       rotate_left
       ·intro w z;(try dsimp only at z);go_simp;try with_reducible rfl
       simp only[Act.put,sA,sB,sC]
       refine anyE_t (i:=3) (oi:=⟨some 72,Op.load 177 (.tmp 71),177,"dag.go:59",#[⟨2,.data⟩],none⟩) (v:=?_) rfl (by kernel_rfl) (fun _ _ _ h=>h) (Or.inl ⟨by rfl,?_⟩) (K8.out) ?_
       rotate_left
       ·intro w z;(try dsimp only at z);go_simp;try with_reducible rfl
       simp only[Act.put,sA,sB,sC]
       refine anyE_t (i:=4) (oi:=⟨some 73,Op.move (.tmp 10),3,"dag.go:59",#[],none⟩) (v:=?_) rfl (by kernel_rfl) (fun _ _ _ h=>h) (Or.inl ⟨by rfl,?_⟩) (K8.out) ?_
       rotate_left
       ·intro w z;(try dsimp only at z);go_simp;try with_reducible rfl
       simp only[Act.put,sA,sB,sC]
       refine anyE_t (i:=5) (oi:=⟨some 74,Op.move (.tmp 2),3,"dag.go:59",#[],none⟩) (v:=?_) rfl (by kernel_rfl) (fun _ _ _ h=>h) (Or.inl ⟨by rfl,?_⟩) (K8.out) ?_
       rotate_left
       ·intro w z;(try dsimp only at z);go_simp;try with_reducible rfl
       simp only[Act.put,sA,sB,sC]
       refine anyE_t (i:=6) (oi:=⟨some 75,Op.build 145 #[(0,Operand.tmp 73),(1,Operand.tmp 74)],145,"dag.go:59",#[⟨4,.data⟩,⟨5,.data⟩],none⟩) (v:=?_) rfl (by kernel_rfl) (fun _ _ _ h=>h) (Or.inl ⟨by rfl,?_⟩) (K8.out) ?_
       rotate_left
       ·intro w z;(try dsimp only at z);go_simp;try with_reducible rfl
       simp only[Act.put,sA,sB,sC]
       refine anyE_t (i:=7) (oi:=⟨some 76,Op.move (.tmp 0),94,"dag.go:59",#[],none⟩) (v:=?_) rfl (by kernel_rfl) (fun _ _ _ h=>h) (Or.inl ⟨by rfl,?_⟩) (K8.out) ?_
       rotate_left
       ·intro w z;(try dsimp only at z);go_simp;try with_reducible rfl
       simp only[Act.put,sA,sB,sC]
       refine anyE_t (i:=8) (oi:=⟨some 77,Op.nilCheck (.tmp 76),0,"dag.go:59",#[⟨7,.data⟩],none⟩) (v:=?_) rfl (by kernel_rfl) (fun _ _ _ h=>h) (Or.inl ⟨by rfl,?_⟩) (K8.out) ?_
       rotate_left
       ·intro w z;(try dsimp only at z);go_simp;try with_reducible rfl
       simp only[Act.put,sA,sB,sC]
       refine anyE_t (i:=9) (oi:=⟨some 78,Op.fieldAddr 180 (.tmp 77) 0,0,"dag.go:59",#[⟨8,.data⟩],none⟩) (v:=?_) rfl (by kernel_rfl) (fun _ _ _ h=>h) (Or.inl ⟨by rfl,?_⟩) (K8.out) ?_
       rotate_left
       ·intro w z;(try dsimp only at z);go_simp;try with_reducible rfl
       simp only[Act.put,sA,sB,sC]
       refine anyE_t (i:=10) (oi:=⟨some 79,Op.load 177 (.tmp 78),177,"dag.go:59",#[⟨9,.data⟩],none⟩) (v:=?_) rfl (by kernel_rfl) (fun _ _ _ h=>h) (Or.inl ⟨by rfl,?_⟩) (K8.out) ?_
       rotate_left
       ·intro w z;(try dsimp only at z);go_simp;try with_reducible rfl
       simp only[Act.put,sA,sB,sC]
       refine anyE_t (i:=11) (oi:=⟨some 80,Op.move (.tmp 10),3,"dag.go:59",#[],none⟩) (v:=?_) rfl (by kernel_rfl) (fun _ _ _ h=>h) (Or.inl ⟨by rfl,?_⟩) (K8.out) ?_
       rotate_left
       ·intro w z;(try dsimp only at z);go_simp;try with_reducible rfl
       simp only[Act.put,sA,sB,sC]
       refine anyE_t (i:=12) (oi:=⟨some 81,Op.move (.tmp 2),3,"dag.go:59",#[],none⟩) (v:=?_) rfl (by kernel_rfl) (fun _ _ _ h=>h) (Or.inl ⟨by rfl,?_⟩) (K8.out) ?_
       rotate_left
       ·intro w z;(try dsimp only at z);go_simp;try with_reducible rfl
       simp only[Act.put,sA,sB,sC]
       refine anyE_t (i:=13) (oi:=⟨some 82,Op.build 145 #[(0,Operand.tmp 80),(1,Operand.tmp 81)],145,"dag.go:59",#[⟨11,.data⟩,⟨12,.data⟩],none⟩) (v:=?_) rfl (by kernel_rfl) (fun _ _ _ h=>h) (Or.inl ⟨by rfl,?_⟩) (K8.out) ?_
       rotate_left
       ·intro w z;(try dsimp only at z);go_simp;try with_reducible rfl
       simp only[Act.put,sA,sB,sC]
       refine anyE_t (i:=14) (oi:=⟨some 83,Op.lookup 177 (.tmp 79) (.tmp 82) false,145,"dag.go:59",#[⟨10,.data⟩,⟨13,.data⟩],none⟩) (v:=?_) rfl (by kernel_rfl) (fun _ _ _ h=>h) (Or.inl ⟨by rfl,?_⟩) (K8.out) ?_
       rotate_left
       ·intro w z;(try dsimp only at z);go_simp;try with_reducible rfl
       simp only[Act.put,sA,sB,sC]
       refine anyE_t (i:=15) (oi:=⟨some 84,Op.index 145 (.tmp 83) (Operand.const (Value.int IntKind.i64 0)),3,"dag.go:59",#[⟨14,.data⟩],none⟩) (v:=?_) rfl (by kernel_rfl) (fun _ _ _ h=>h) (Or.inl ⟨by rfl,?_⟩) (K8.out) ?_
       rotate_left
       ·intro w z;(try dsimp only at z);go_simp;try with_reducible rfl
       simp only[Act.put,sA,sB,sC]
       refine anyE_t (i:=16) (oi:=⟨some 85,Op.indexAddr 145 (.tmp 7) (Operand.const (Value.int IntKind.i64 1)),0,"dag.go:59",#[],none⟩) (v:=?_) rfl (by kernel_rfl) (fun _ _ _ h=>h) (Or.inl ⟨by rfl,?_⟩) (K8.out) ?_
       rotate_left
       ·intro w z;(try dsimp only at z);go_simp;try with_reducible rfl
       simp only[Act.put,sA,sB,sC]
       refine anyE_t (i:=17) (oi:=⟨some 86,Op.load 3 (.tmp 85),3,"dag.go:59",#[⟨16,.data⟩],none⟩) (v:=?_) rfl (by kernel_rfl) (fun _ _ _ h=>h) (Or.inl ⟨by rfl,?_⟩) (K8.out) ?_
       rotate_left
       ·intro w z;(try dsimp only at z);go_simp;try with_reducible rfl
       simp only[Act.put,sA,sB,sC]
       refine anyE_t (i:=18) (oi:=⟨some 87,Op.build 145 #[(0,Operand.tmp 84),(1,Operand.tmp 86)],145,"dag.go:59",#[⟨15,.data⟩,⟨17,.data⟩],none⟩) (v:=?_) rfl (by kernel_rfl) (fun _ _ _ h=>h) (Or.inl ⟨by rfl,?_⟩) (K8.out) ?_
       rotate_left
       ·intro w z;(try dsimp only at z);go_simp;try with_reducible rfl
       simp only[Act.put,sA,sB,sC]
       refine anyE_ready (rs:=[19]) (by kernel_rfl) (by simp) ?_
       refine AllE.cons (o:=⟨none,Op.mapUpdate 177 (.tmp 72) (.tmp 75) (.tmp 87),0,"dag.go:59",#[⟨3,.data⟩,⟨6,.data⟩,⟨18,.data⟩,⟨0,.phase⟩,⟨1,.phase⟩,⟨2,.phase⟩,⟨3,.phase⟩,⟨4,.phase⟩,⟨5,.phase⟩,⟨6,.phase⟩,⟨7,.phase⟩,⟨8,.phase⟩,⟨9,.phase⟩,⟨10,.phase⟩,⟨11,.phase⟩,⟨12,.phase⟩,⟨13,.phase⟩,⟨14,.phase⟩,⟨15,.phase⟩,⟨16,.phase⟩,⟨17,.phase⟩,⟨18,.phase⟩],none⟩) rfl (fun Kt hKt=>?_) ?_
       ·go_simp
        refine hKt.out _ _ (fun h=>absurd rfl h) ?_
        clear hKt Kt
        try simp only[Act.put,sA,sB,sC]
        refine anyE_done (by kernel_rfl) ?_ _
        go_wp2
        go_end0
        exact⟨rfl,FIN.out⟩
       exact AllE.nil
     exact AllE.nil
   exact AllE.nil
  exact AllE.nil
 exact AllE.nil
end Go.Proofs.YthpgfmmpjoodkaaGreatDoor.Da
