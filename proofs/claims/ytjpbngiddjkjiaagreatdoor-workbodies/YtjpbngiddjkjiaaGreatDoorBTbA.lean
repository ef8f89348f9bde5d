import Derived.Test.YtjpbngiddjkjiaaGreatDoorAnyF
import Derived.Test.YtjpbngiddjkjiaaGreatDoorBTbL
import Derived.Deep.LoopGhost
import Derived.Deep.Fields
import Derived.Lib.SliceRun
import Derived.Deep.DeepCutAuto
import Derived.Deep.CutBlock
import Derived.StillTail
open Go.Proofs.Tryz
open List(countP_cons length_set)
namespace Go.Proofs.YtjpbngiddjkjiaaGreatDoor.Ta
set_option maxHeartbeats 8000000
set_option maxRecDepth 100000
set_option linter.unusedVariables false
section
open Go.RowKit Go.Lib Go.WideMaps Go.Maps
structure Tab(w:World)(B a b r M n:Nat)(v:Value)(T:List TR)(ws:Nat->Int)(fc:Int×Int->Option Value):Prop where
 head:w.heap[B]?=some (.cells #[.pointer (some ⟨a,0,none⟩),v,.map (some M)] 131 (0,0))
 own:OwnG rT w 0 v T
 arn:AAt w a b r n ws
 map:∃N,MapG keyP w M fc N
def tf(B a b r M:Nat)(v:Value)(k:Nat):Prop:=k=B\/k=a\/k=b\/k=r\/k=M\/v.ownBlock=some k
theorem un_cells{w:World}{i j:Nat}{c c':Array Value}{t t':TypeId}{z z':Nat×Nat}(h:w.heap[i]?=some (.cells c t z))(h':w.heap[j]?=some (.cells c' t' z'))(ht:t≠t'):i≠j:=fun e=>by
 subst e;rw[h] at h';simp only[Option.some.injEq,Obj.cells.injEq] at h';exact ht h'.2.1
theorem un_map{w:World}{i j:Nat}{c:Array Value}{t:TypeId}{z:Nat×Nat}{es:Array MapEntry}{q:Nat}(h:w.heap[i]?=some (.cells c t z))(h':w.heap[j]?=some (.map es q)):i≠j:=fun e=>by
 subst e;rw[h] at h'
 cases h'
variable {w w':World}{B a b r M n:Nat}{v v':Value}{T T':List TR}{ws ws':Nat->Int}{fc fc':Int×Int->Option Value}
theorem Tab.ha(h:Tab w B a b r M n v T ws fc):∃cs,w.heap[a]?=some (.cells cs 198 (0,0)):=by
 obtain⟨cs,h1,_⟩:=h.arn.head;exact⟨cs,h1⟩
theorem Tab.hb(h:Tab w B a b r M n v T ws fc):∃cs,w.heap[b]?=some (.cells cs 174 (0,0)):=by
 obtain⟨_,_,_,_,hh⟩:=h.arn.mem.head;exact⟨_,hh⟩
theorem Tab.hr(h:Tab w B a b r M n v T ws fc):∃cs,w.heap[r]?=some (.cells cs 33 (0,0)):=by
 obtain⟨cs,hh,_⟩:=h.arn.mem.row;exact⟨cs,hh⟩
theorem Tab.hM(h:Tab w B a b r M n v T ws fc):∃es q,w.heap[M]?=some (.map es q):=by
 obtain⟨N,hN⟩:=h.map;exact hN.isMap
theorem Tab.hg(h:Tab w B a b r M n v T ws fc){g:Nat}(hg:v.ownBlock=some g):∃cs,w.heap[g]?=some (.cells cs 126 (0,0)):=h.own.rowT hg
theorem Tab.tfLt(h:Tab w B a b r M n v T ws fc){k:Nat}(hk:tf B a b r M v k):k<w.heap.size:=by
 rcases hk with rfl|rfl|rfl|rfl|rfl|hk
 ·exact lt_of_block h.head
 ·exact h.arn.alt
 ·exact h.arn.mem.blt
 ·exact h.arn.mem.rlt
 ·obtain⟨N,hN⟩:=h.map;exact hN.lt
 ·exact(h.own.rowLt hk).2
theorem Tab.fr(h:Tab w B a b r M n v T ws fc){X:Nat->Prop}(hf:Fr X w w')(hx:∀k,tf B a b r M v k->¬X k):Tab w' B a b r M n v T ws fc:=by
 have key:∀k,tf B a b r M v k->w'.heap[k]?=w.heap[k]?:=fun k hk=>hf.block k (h.tfLt hk) (hx k hk);refine⟨(key B (.inl rfl)).trans h.head,h.own.of_block (fun k hk=>key k (.inr (.inr (.inr (.inr (.inr hk)))))),h.arn.of_blocks (key a (.inr (.inl rfl))) (key b (.inr (.inr (.inl rfl)))) (key r (.inr (.inr (.inr (.inl rfl))))),?_⟩;obtain⟨N,hN⟩:=h.map;exact⟨N,hN.of_block (key M (.inr (.inr (.inr (.inr (.inl rfl))))))⟩
theorem Tab.below(h:Tab w B a b r M n v T ws fc)(hw:Below w.heap.size w w'):Tab w' B a b r M n v T ws fc:=h.fr (Fr.below (X:=fun _=>False) hw) (fun _ _=>id)
theorem Tab.drew(h:Tab w B a b r M n v T ws fc):Tab w.drew B a b r M n v T ws fc:=h.fr (Fr.refl (fun _=>False) w).drew (fun _ _=>id)
theorem Fr.kept{a b r:Nat}{w w':World}(h:Kept a b r w w'):Fr (fun k=>k=a\/k=b\/k=r) w w':=⟨h.os,h.tape,h.output,h.size,fun k hk hx=>h.block k hk (fun e=>hx (.inl e)) (fun e=>hx (.inr (.inl e))) (fun e=>hx (.inr (.inr e)))⟩
theorem Tab.setA(h:Tab w B a b r M n v T ws fc)(hk:Kept a b r w w')(ha:AAt w' a b r n ws'):Tab w' B a b r M n v T ws' fc:=by
 obtain⟨ca,ha'⟩:=h.ha;obtain⟨cb,hb'⟩:=h.hb;obtain⟨cr,hr'⟩:=h.hr;obtain⟨es,q,hM'⟩:=h.hM;have f:=Fr.kept hk;refine⟨(f.block B (lt_of_block h.head) ?_).trans h.head,h.own.of_block fun k hk'=>f.block k (h.own.rowLt hk').2 ?_,ha,?_⟩
 ·rintro(e|e|e)
  ·exact un_cells h.head ha' (by decide) e
  ·exact un_cells h.head hb' (by decide) e
  ·exact un_cells h.head hr' (by decide) e
 ·obtain⟨cg,hg⟩:=h.hg hk';rintro(e|e|e)
  ·exact un_cells hg ha' (by decide) e
  ·exact un_cells hg hb' (by decide) e
  ·exact un_cells hg hr' (by decide) e
 ·obtain⟨N,hN⟩:=h.map;refine⟨N,hN.of_block (f.block M hN.lt ?_)⟩;rintro(e|e|e)
  ·exact un_map ha' hM' e.symm
  ·exact un_map hb' hM' e.symm
  ·exact un_map hr' hM' e.symm
theorem Tab.setM(h:Tab w B a b r M n v T ws fc)(hg:w.grownBy w' (some M)){N:Nat}(hm:MapG keyP w' M fc' N):Tab w' B a b r M n v T ws fc':=by
 obtain⟨ca,ha'⟩:=h.ha;obtain⟨cb,hb'⟩:=h.hb;obtain⟨cr,hr'⟩:=h.hr;obtain⟨es,q,hM'⟩:=h.hM;have key:∀k,k<w.heap.size->k≠M->w'.heap[k]?=w.heap[k]?:=fun k hk hn=>hg.block k hk (fun e=>hn (by injection e));refine⟨(key B (lt_of_block h.head) (un_map h.head hM')).trans h.head,h.own.of_block fun k hk'=>key k (h.own.rowLt hk').2 ?_,h.arn.of_blocks (key a h.arn.alt (un_map ha' hM')) (key b h.arn.mem.blt (un_map hb' hM')) (key r h.arn.mem.rlt (un_map hr' hM')),⟨N,hm⟩⟩;obtain⟨cg,hg'⟩:=h.hg hk';exact un_map hg' hM'
theorem Tab.setT(h:Tab w B a b r M n v T ws fc)(hf:Fr (fun k=>v.ownBlock=some k) w w')(ho:OwnG rT w' 0 v T'):Tab w' B a b r M n v T' ws fc:=by
 obtain⟨ca,ha'⟩:=h.ha;obtain⟨cb,hb'⟩:=h.hb;obtain⟨cr,hr'⟩:=h.hr;obtain⟨es,q,hM'⟩:=h.hM;refine⟨(hf.block B (lt_of_block h.head) fun e=>?_).trans h.head,ho,h.arn.of_blocks (hf.block a h.arn.alt fun e=>?_) (hf.block b h.arn.mem.blt fun e=>?_) (hf.block r h.arn.mem.rlt fun e=>?_),?_⟩
 ·obtain⟨cg,hg⟩:=h.hg e;exact un_cells h.head hg (by decide) rfl
 ·obtain⟨cg,hg⟩:=h.hg e;exact un_cells ha' hg (by decide) rfl
 ·obtain⟨cg,hg⟩:=h.hg e;exact un_cells hb' hg (by decide) rfl
 ·obtain⟨cg,hg⟩:=h.hg e;exact un_cells hr' hg (by decide) rfl
 ·obtain⟨N,hN⟩:=h.map;refine⟨N,hN.of_block (hf.block M hN.lt fun e=>?_)⟩;obtain⟨cg,hg⟩:=h.hg e;exact un_map hg hM' rfl
theorem Tab.grow(h:Tab w B a b r M n v T ws fc)(hf:Fr (fun k=>v.ownBlock=some k) w w')(ho:OwnG rT w' 0 v' T'):Tab (w'.setCell ⟨B,1,none⟩ v') B a b r M n v' T' ws fc:=by
 obtain⟨ca,ha'⟩:=h.ha;obtain⟨cb,hb'⟩:=h.hb;obtain⟨cr,hr'⟩:=h.hr;obtain⟨es,q,hM'⟩:=h.hM;obtain⟨N,hN⟩:=h.map
 have eB:=(hf.block B (lt_of_block h.head) fun e=>by
  obtain⟨cg,hg⟩:=h.hg e;exact un_cells h.head hg (by decide) rfl).trans h.head
 have ea:=(hf.block a h.arn.alt fun e=>by
  obtain⟨cg,hg⟩:=h.hg e;exact un_cells ha' hg (by decide) rfl)
 have eb:=(hf.block b h.arn.mem.blt fun e=>by
  obtain⟨cg,hg⟩:=h.hg e;exact un_cells hb' hg (by decide) rfl)
 have er:=(hf.block r h.arn.mem.rlt fun e=>by
  obtain⟨cg,hg⟩:=h.hg e;exact un_cells hr' hg (by decide) rfl)
 have eM:=(hf.block M hN.lt fun e=>by
  obtain⟨cg,hg⟩:=h.hg e;exact un_map hg hM' rfl)
 have hs:=Fr.setCell (fun k=>k=B) w' B 1 v' rfl;have A':=h.arn.of_blocks ea eb er;refine⟨by rw[set_head eB];rfl,ho.of_block fun k hk=>hs.block k (ho.rowLt hk).2 fun e=>?_,A'.of_blocks (hs.block a A'.alt fun e=>?_) (hs.block b A'.mem.blt fun e=>?_) (hs.block r A'.mem.rlt fun e=>?_),⟨N,(hN.of_block eM).of_block (hs.block M (hN.of_block eM).lt fun e=>?_)⟩⟩
 ·obtain⟨cg,hg⟩:=ho.rowT hk;exact un_cells eB hg (by decide) e.symm
 ·exact un_cells h.head ha' (by decide) e.symm
 ·exact un_cells h.head hb' (by decide) e.symm
 ·exact un_cells h.head hr' (by decide) e.symm
 ·exact un_map h.head hM' e.symm
theorem Fr.tb{X:Nat->Prop}{u v w:World}(h:Fr X u v)(b:Below v.heap.size v w):Fr X u w:=h.trans (Fr.below (X:=fun _=>False) b) (fun j hj=>hj.elim)
theorem Tab.c0(h:Tab w B a b r M n v T ws fc):w.cell? ⟨B,0,none⟩=some (.pointer (some ⟨a,0,none⟩)):=by rw[cell_of_row _ _ _ _ _ _ h.head];rfl
theorem Tab.c1(h:Tab w B a b r M n v T ws fc):w.cell? ⟨B,1,none⟩=some v:=by rw[cell_of_row _ _ _ _ _ _ h.head];rfl
theorem Tab.c2(h:Tab w B a b r M n v T ws fc):w.cell? ⟨B,2,none⟩=some (.map (some M)):=by rw[cell_of_row _ _ _ _ _ _ h.head];rfl
theorem Tab.fz(h:Tab w B a b r M n v T ws fc)(o:Nat):w.frozen? ⟨B,o,none⟩=false:=by simp[World.frozen?,h.head]
end
section
open Go.RowKit Go.Lib Go.WideMaps Go.Maps
variable {w w':World}{B a b r M n:Nat}{v v':Value}{T T':List TR}{ws ws':Nat->Int}{fc fc':Int×Int->Option Value}
theorem tnew_at(w w1:World)(n:Nat)(hA:AAt w1 (w.heap.size+2) (w.heap.size+1) w.heap.size n (fun _=>0))(hz:w1.heap.size=w.heap.size+3) :
  Tab ((w1.alloc (.map #[] 0)).alloc (.cells #[.pointer (some ⟨w.heap.size+2,0,none⟩),.slice none 0 0,.map (some (w.heap.size+3))] 131)) (w.heap.size+4) (w.heap.size+2) (w.heap.size+1) w.heap.size (w.heap.size+3) n (.slice none 0 0) [] (fun _=>0) (fun _=>none):=by
 have z1:(w1.alloc (.map #[] 0)).heap.size=w.heap.size+4:=by rw[alloc_sz,hz]
 have b1:Below w1.heap.size w1 (w1.alloc (.map #[] 0)):=bel1 _ _;have b2:=bel1 (w1.alloc (.map #[] 0)) (.cells #[.pointer (some ⟨w.heap.size+2,0,none⟩),.slice none 0 0,.map (some (w.heap.size+3))] 131);have hm:=MapG.made keyP w1;rw[hz] at hm;refine⟨?_,OwnG.nil rT _ 0,(hA.grew b1).grew b2,⟨0,hm.of_block (b2.block _ (by omega))⟩⟩;have:=heap_alloc_new (w1.alloc (.map #[] 0)) (.cells #[.pointer (some ⟨w.heap.size+2,0,none⟩),.slice none 0 0,.map (some (w.heap.size+3))] 131);rw[z1] at this;exact this
theorem tnew_x(n:Nat)(w:World)(h1:1<=n)(h2:n<=1000) :
  Calls prog 31 #[.int .i64 n] w fun e w'=>e=.returned (.tuple #[.pointer (some ⟨w.heap.size+4,0,none⟩),.int .i64 0])/\Tab w' (w.heap.size+4) (w.heap.size+2) (w.heap.size+1) w.heap.size (w.heap.size+3) n (.slice none 0 0) [] (fun _=>0) (fun _=>none)/\Below w.heap.size w w':=by
 have hmm:=@run_makeMap prog;go_enter func31,ntmps31
 go_wp2_with fail
 refine(new_in n w h1 h2).mono ?_;rintro e w1 ⟨rfl,hA,hB,hz⟩;have hT:Hid _:=tnew_at w w1 n hA hz;have hBl:Hid (Below w.heap.size w w1):=hB;clear hA hB
 go_wp2_with fail
 go_ret2;exact⟨rfl,hT.out,(hBl.out.alloc (by omega) _).alloc (by rw[alloc_sz];omega) _⟩
theorem tnew_any(n:Nat)(w:World)(h1:1<=n)(h2:n<=1000) :
  Calls prog 31 #[.int .i64 n] w fun e w'=>∃B a b r M,e=.returned (.tuple #[.pointer (some ⟨B,0,none⟩),.int .i64 0])/\Tab w' B a b r M n (.slice none 0 0) [] (fun _=>0) (fun _=>none)/\Below w.heap.size w w'/\∀k,tf B a b r M (.slice none 0 0) k->w.heap.size<=k:=by
 refine(tnew_x n w h1 h2).mono ?_;rintro e w1 ⟨rfl,hT,hB⟩;refine⟨_,_,_,_,_,rfl,hT,hB,fun k hk=>?_⟩;rcases hk with rfl|rfl|rfl|rfl|rfl|hk
 ·omega
 ·omega
 ·omega
 ·omega
 ·omega
 ·cases hk
theorem tlen_any(h:Tab w B a b r M n v T ws fc):Calls prog 36 #[.pointer (some ⟨B,0,none⟩)] w fun e w'=>e=.returned (.int .i64 T.length)/\w'=w:=by
 have c1:=h.c1;obtain⟨ad,cap,rfl,_⟩:=h.own.isG;clear h;go_enter func36,ntmps36
 go_wp2_with fail
 go_ret;exact⟨rfl,rfl⟩
theorem find_no(h:Tab w B a b r M n v T ws fc)(id:Int)(hi:id<1\/(T.length:Int)<id):Calls prog 57 #[.pointer (some ⟨B,0,none⟩),.int .i64 id] w fun e w'=>e=.returned (.pointer none)/\w'=w:=by
 have c1:=h.c1;obtain⟨ad,cap,rfl,_⟩:=h.own.isG;clear h;by_cases c:id<1
 ·clear hi;go_enter func57,ntmps57
  go_wp2_with fail
  go_ret;exact⟨rfl,rfl⟩
 ·have hi:(T.length:Int)<id:=by omega
  go_enter func57,ntmps57
  go_wp2_with fail
  go_ret;exact⟨rfl,rfl⟩
theorem find_in{g cap i:Nat}(h:Tab w B a b r M n (.slice (some ⟨g,0,none⟩) T.length cap) T ws fc)(hi:i<T.length)(hl:T.length<=1000):Calls prog 57 #[.pointer (some ⟨B,0,none⟩),.int .i64 ((i:Int)+1)] w fun e w'=>e=.returned (.pointer (some ⟨g,i*9,none⟩))/\w'=w:=by
 have c1:=h.c1;obtain⟨L,hL⟩:∃L,T.length=L:=⟨_,rfl⟩;rw[hL] at c1 hi hl;clear h;have h1:¬(i:Int)+1<1:=by omega
 have h2:¬(L:Int)<(i:Int)+1:=by omega
 have h3:(i:Int)<(L:Int):=by omega
 go_enter func57,ntmps57
 go_wp2_with fail
 go_ret;exact⟨by simp,rfl⟩
theorem again_any(f p d r m:Int)(w:World):Calls prog 69 #[.agg #[.int .u64 f,.int .u64 p,.int .u64 d,.int .u64 r,.int .u64 m]] w fun e w'=>e=.returned (.bool (decide (p>0)))/\Below w.heap.size w w':=by
 have hb:=bel1 w;go_enter func69,ntmps69
 go_wp2_with fail
 go_ret;exact⟨rfl,hb _⟩
theorem clone_nil(w:World):Calls prog 72 #[.slice none 0 0] w fun e w'=>e=.returned (.slice none 0 0)/\w'=w:=by
 have q22:∀(w:World)(a:Option Addr)(n c n' c':Nat),(binOp .eql 22 (.slice a n c) (.slice none n' c')).run prog w=.ok (.bool a.isNone) w:=fun w a n c n' c'=>Lib.run_eql_slice_nil w _ _ a n c n' c' underlying22;go_enter func72,ntmps72
 go_wp2_with fail
 go_ret;exact⟨rfl,rfl⟩
theorem index_nil(w:World)(fn:Value):Calls prog 94 #[.slice none 0 0,fn] w fun e w'=>e=.returned (.int .i64 (-1))/\w'=w:=by
 go_enter func94,ntmps94
 go_wp2_with fail
 go_loopw [8] (fun x wr=>x=.int .i64 0/\wr=w) (fun x _=>0)
 case atStart=>exact⟨rfl,rfl⟩
 case round=>
  obtain⟨rfl,rfl⟩:=hrel
  go_wp2_with fail
  go_ret;exact⟨rfl,rfl⟩
theorem contains_nil(w:World)(fn:Value):Calls prog 65 #[.slice none 0 0,fn] w fun e w'=>e=.returned (.bool false)/\w'=w:=by
 go_enter func65,ntmps65
 go_wp2_with fail
 refine(index_nil w fn).mono ?_;rintro e w1 ⟨rfl,rfl⟩
 go_wp2_with fail
 go_ret;exact⟨rfl,rfl⟩
theorem bodyOk_nil(w:World):Calls prog 38 #[.slice none 0 0] w fun e w'=>e=.returned (.bool true)/\w'=w:=by
 go_enter func38,ntmps38
 go_wp2_with fail
 refine(contains_nil w _).mono ?_;rintro e w1 ⟨rfl,rfl⟩
 go_wp2_with fail
 go_ret;exact⟨rfl,rfl⟩
def mayB(p s:Int):Bool:=decide (0<=p)&&(decide (p<=7)&&canB 0 s)
theorem mayBe_nil(p s:Int)(w:World)(hs:wfI s):Calls prog 67 #[.int .i64 p,.slice none 0 0,.int .i64 s] w fun e w'=>e=.returned (.bool (mayB p s))/\Below w.heap.size w w':=by
 by_cases c1:0<=p
 ·by_cases c2:p<=7
  ·have e:mayB p s=canB 0 s:=by simp[mayB,c1,c2]
   rw[e];have hc:=can_any 0 s w (by decide) hs;obtain⟨cb,hcb⟩:∃cb,canB 0 s=cb:=⟨_,rfl⟩;rw[hcb] at hc⊢;clear hcb e;go_enter func67,ntmps67
   go_wp2_with fail
   refine(bodyOk_nil w).mono ?_;rintro e w1 ⟨rfl,rfl⟩
   go_wp2_with fail
   refine hc.mono ?_;rintro e w2 ⟨rfl,hb⟩;clear hc
   go_wp2_with fail
   go_ret;exact⟨rfl,hb⟩
  ·have e:mayB p s=false:=by simp[mayB,c2]
   rw[e];go_enter func67,ntmps67
   go_wp2_with fail
   go_ret;exact⟨rfl,Below.refl _ _⟩
 ·have e:mayB p s=false:=by simp[mayB,c1]
  rw[e];go_enter func67,ntmps67
  go_wp2_with fail
  go_ret;exact⟨rfl,Below.refl _ _⟩
end
section
open Go.RowKit Go.Lib
theorem entersF{f:FuncId}{fn:Func}{c:Code}(hf:prog.funcs[f]?=some fn)(hname:(fn.name== "runtime.NumGoroutine")=false)(hb:fn.body=some c):∀(args:Array Value)(w:World),(callFunc f args).run prog w=.ok (.enter f args) w:=by
 intro args w;have h1:=ne_of_beq_false hname;simp[callFunc,hf,h1,hb,mark]
abbrev OpR:=Int×Int×Int
def shW:List (List UInt8):=[[],[110,111,112],[115,117,98,109,105,116],[97,102,116,101,114],[99,97,110,99,101,108],[112,97,110,105,99]]
def shT:List Nat:=[0,0,1,2,1,0]
def shL:List Int:=[0,0,0,0,1,0]
def shA:List Int:=[0,0,7,7,1000,0]
def shB:List Int:=[0,0,0,1000000,0,0]
def loK(k:Int):Int:=shL.getD k.toNat 0
def hiA(k:Int):Int:=shA.getD k.toNat 0
def hiB(k:Int):Int:=shB.getD k.toNat 0
def kindB(k:Int):Bool:=decide (1<=k)&&decide (k<=5)
def okO(o:OpR):Bool:=kindB o.1&&((decide (loK o.1<=o.2.1)&&decide (o.2.1<=hiA o.1))&&(decide (0<=o.2.2)&&decide (o.2.2<=hiB o.1)))
def okL(l:List OpR):Bool:=decide (l.length<=16)&&l.all okO
def stp:List OpR->Nat
 | []=>0
 | o::t=>if o.1=5 then 1 else stp t+1
theorem kindB_cases{k:Int}(h:kindB k=true):k=1\/k=2\/k=3\/k=4\/k=5:=by
 unfold kindB at h;rw[Bool.and_eq_true,decide_eq_true_eq,decide_eq_true_eq] at h;omega
theorem okO_iff(o:OpR):okO o=true↔kindB o.1=true/\(loK o.1<=o.2.1/\o.2.1<=hiA o.1)/\0<=o.2.2/\o.2.2<=hiB o.1:=by
 unfold okO;simp only[Bool.and_eq_true,decide_eq_true_eq]
structure ShW(w:World):Prop where
 sh:∀k:Nat,k<6->True/\True/\
  w.cell? ⟨0,k*6+2,none⟩=some (.int .i64 (shL.getD k 0))/\w.cell? ⟨0,k*6+3,none⟩=some (.int .i64 0)/\
  w.cell? ⟨0,k*6+4,none⟩=some (.int .i64 (shA.getD k 0))/\w.cell? ⟨0,k*6+5,none⟩=some (.int .i64 (shB.getD k 0))
 big:0<w.heap.size
theorem ShW.low{w w':World}{S:Nat}(h:ShW w)(hb:Below S w w')(hS:0<S):ShW w':=by
 have hs:=h.big;have c:∀j,w'.cell? ⟨0,j,none⟩=w.cell? ⟨0,j,none⟩:=fun j=>hb.cell (p:=⟨_,j,none⟩) hS;refine⟨fun k hk=>?_,by have:=hb.size;omega⟩;obtain⟨_,_,h3,h4,h5,h6⟩:=h.sh k hk;exact⟨trivial,trivial,(c _).trans h3,(c _).trans h4,(c _).trans h5,(c _).trans h6⟩
theorem ShW.below{w w':World}(h:ShW w)(hb:Below w.heap.size w w'):ShW w':=h.low hb h.big
def rO:RowT OpR where
 enc:=fun x=>[.int .i64 x.1,.int .i64 x.2.1,.int .i64 x.2.2]
 k:=3
 et:=45
 st:=22
 z:=.agg #[.int .i64 0,.int .i64 0,.int .i64 0]
 nb:=24
 kpos:=by decide
 len:=fun x=>rfl
 one:=fun x u hu=>by
  simp at hu;rcases hu with rfl|rfl|rfl<;>rfl
 und:=underlying22
 info:=by
  have h:(prog.info? 45).map (fun i=>(i.zero,i.size,i.bytes))=some (some (.agg #[.int .i64 0,.int .i64 0,.int .i64 0]),3,24):=by kernel_rfl
  obtain⟨i,h1,h2⟩:=Option.map_eq_some_iff.1 h;simp at h2;exact⟨i,h1,h2.1,h2.2.1,h2.2.2⟩
 zs:=rfl
 small:=by decide
section
variable {w w':World}{a:Option Addr}{cap base:Nat}{v:Value}
theorem opAt{d:List OpR}(h:IsG rO w a cap d){i:Nat}{x:OpR}(hi:d[i]?=some x):∃b off,a=some ⟨b,off,none⟩/\b<w.heap.size/\
  w.cell? ⟨b,off+i*3,none⟩=some (.int .i64 x.1)/\w.cell? ⟨b,off+i*3+1,none⟩=some (.int .i64 x.2.1)/\w.cell? ⟨b,off+i*3+2,none⟩=some (.int .i64 x.2.2):=by
 obtain⟨b,off,e,hb,hc⟩:=h.at hi;exact⟨b,off,e,hb,hc 0 _ rfl,hc 1 _ rfl,hc 2 _ rfl⟩
end
def AnsB(g:Nat)(p:OpR->Bool)(w:World):Prop:=∀(x:OpR)(W:World),Below w.heap.size w W->Calls prog g #[.agg #[.int .i64 x.1,.int .i64 x.2.1,.int .i64 x.2.2]] W fun e w'=>e=.returned (.bool (p x))/\Below W.heap.size W w'
theorem numbers_any(k a b:Int)(w:World):Calls prog 95 #[.agg #[.int .i64 k,.int .i64 a,.int .i64 b]] w fun e w'=>e=.returned (.agg #[.int .i64 a,.int .i64 b])/\Below w.heap.size w w':=by
 go_enter func95,ntmps95
 go_wp2
 have r0:=cell_fresh (w.alloc (.cells #[.int .i64 k,.int .i64 a,.int .i64 b] 45)) #[.int .i64 a,.int .i64 b] 78 0;have r1:=cell_fresh (w.alloc (.cells #[.int .i64 k,.int .i64 a,.int .i64 b] 45)) #[.int .i64 a,.int .i64 b] 78 1;rw[alloc_sz] at r0 r1;refine bodyPost_ret (v:=.agg #[.int .i64 a,.int .i64 b]) (by simp[results,results95,go_sem,r0,r1]) rfl ⟨rfl,?_⟩;exact Below.tr (bel1 _ _) (bel1 _ _)
theorem idx2_0(a b:Int)(w:World):(Instr.index 78 (.agg #[.int .i64 a,.int .i64 b]) (.int .i64 0)).run prog w=.ok (.int .i64 a) w:=by
 simp[Instr.index,run_underlying underlying78,asIntOf,go_sem]
theorem idx2_1(a b:Int)(w:World):(Instr.index 78 (.agg #[.int .i64 a,.int .i64 b]) (.int .i64 1)).run prog w=.ok (.int .i64 b) w:=by
 simp[Instr.index,run_underlying underlying78,asIntOf,go_sem]
theorem two_new0(u:World)(x y:Array Value)(t1 t2:TypeId)(j:Nat):((u.alloc (.cells x t1)).alloc (.cells y t2)).cell? ⟨u.heap.size,j,none⟩=x[j]?:=
 ((bel1 (u.alloc (.cells x t1)) (.cells y t2)).cell (p:=⟨u.heap.size,j,none⟩) (by show u.heap.size<_;rw[alloc_sz];omega)).trans (cell_fresh u x t1 j)
theorem two_new1(u:World)(x y:Array Value)(t1 t2:TypeId)(j:Nat):((u.alloc (.cells x t1)).alloc (.cells y t2)).cell? ⟨u.heap.size+1,j,none⟩=y[j]?:=by
 have:=cell_fresh (u.alloc (.cells x t1)) y t2 j;rw[alloc_sz] at this;exact this
theorem two_sz(u:World)(x y:Obj):((u.alloc x).alloc y).heap.size=u.heap.size+2:=by rw[alloc_sz,alloc_sz]
theorem wrong_any(k a b:Int)(w:World)(h:ShW w):Calls prog 66 #[.agg #[.int .i64 k,.int .i64 a,.int .i64 b]] w fun e w'=>e=.returned (.bool (!okO (k,a,b)))/\Below w.heap.size w w':=by
 have hb1:=h.big;by_cases hk:kindB k=true
 ·obtain⟨K,rfl⟩:∃K:Nat,k=(K:Int):=⟨k.toNat,by rcases kindB_cases hk with rfl|rfl|rfl|rfl|rfl<;>rfl⟩;have hK:1<=K/\K<=5:=by have:=kindB_cases hk;omega
  have hok:okO ((K:Int),a,b)=((decide (shL.getD K 0<=a)&&decide (a<=shA.getD K 0))&&(decide (0<=b)&&decide (b<=shB.getD K 0))):=by
   unfold okO;rw[hk,Bool.true_and]
   rfl
  rw[hok];obtain⟨u1,hu1⟩:∃u,w.alloc (.cells #[.int .i64 (K:Int),.int .i64 a,.int .i64 b] 45)=u:=⟨_,rfl⟩;have b1:Below w.heap.size w u1:=by rw[<-hu1];exact bel1 _ _
  obtain⟨_,_,c2,c3,c4,c5⟩:=(h.below b1).sh K (by omega);have d0:u1.cell? ⟨w.heap.size,0,none⟩=some (.int .i64 (K:Int)):=by rw[<-hu1,cell_fresh];rfl
  have d1:u1.cell? ⟨w.heap.size,1,none⟩=some (.int .i64 a):=by rw[<-hu1,cell_fresh];rfl
  have d2:u1.cell? ⟨w.heap.size,2,none⟩=some (.int .i64 b):=by rw[<-hu1,cell_fresh];rfl
  have t1:¬(K:Int)<1:=by omega
  have t2:¬(K:Int)>5:=by omega
  have t3:(K:Int)<6:=by omega
  have HU:Hid _:=hu1;have HB:Hid _:=b1;clear hu1 b1;generalize shL.getD K 0=LO at *;generalize shA.getD K 0=HA at *;generalize shB.getD K 0=HB' at *;go_enter func66,ntmps66
  go_upto_region 3 with fail
  rw[HU.out]
  go_cut [3,4] (fun s3 s4 wx=>∃P Q:Nat,s3=.pointer (some ⟨P,0,none⟩)/\s4=.pointer (some ⟨Q,0,none⟩)/\Below u1.heap.size u1 wx/\P<wx.heap.size/\Q<wx.heap.size/\wx.cell? ⟨P,0,none⟩=some (.int .i64 LO)/\wx.cell? ⟨P,1,none⟩=some (.int .i64 0)/\wx.cell? ⟨Q,0,none⟩=some (.int .i64 HA)/\wx.cell? ⟨Q,1,none⟩=some (.int .i64 HB'))
  case first=>
   have al:∀(x y:Obj)(b j:Nat)(v:Value),u1.cell? ⟨b,j,none⟩=some v->(u1.alloc x).cell? ⟨b,j,none⟩=some v/\((u1.alloc x).alloc y).cell? ⟨b,j,none⟩=some v:=fun x y b j v hx=>by
    have hb:b<u1.heap.size:=World.block_lt_of_cell? _ _ hx;have e1:=(bel1 u1 x).cell (p:=⟨b,j,none⟩) hb;have e2:=(Below.tr (bel1 u1 x) (bel1 _ y)).cell (p:=⟨b,j,none⟩) hb;exact⟨e1.trans hx,e2.trans hx⟩
   have c3:u1.cell? ⟨0,K*6+2+1,none⟩=some (.int .i64 0):=c3;have c5:u1.cell? ⟨0,K*6+4+1,none⟩=some (.int .i64 HB'):=c5;have d0q0:=al (Obj.cells #[Value.int IntKind.i64 0,Value.int IntKind.i64 0] 78) (Obj.cells #[Value.int IntKind.i64 0,Value.int IntKind.i64 0] 78) _ _ _ d0;have d0q1:=al (Obj.cells #[Value.int IntKind.i64 LO,Value.int IntKind.i64 0] 78) (Obj.cells #[Value.int IntKind.i64 0,Value.int IntKind.i64 0] 78) _ _ _ d0;have d0q2:=al (Obj.cells #[Value.int IntKind.i64 0,Value.int IntKind.i64 0] 78) (Obj.cells #[Value.int IntKind.i64 LO,Value.int IntKind.i64 0] 78) _ _ _ d0;have c2q0:=al (Obj.cells #[Value.int IntKind.i64 0,Value.int IntKind.i64 0] 78) (Obj.cells #[Value.int IntKind.i64 0,Value.int IntKind.i64 0] 78) _ _ _ c2;have c2q1:=al (Obj.cells #[Value.int IntKind.i64 LO,Value.int IntKind.i64 0] 78) (Obj.cells #[Value.int IntKind.i64 0,Value.int IntKind.i64 0] 78) _ _ _ c2;have c2q2:=al (Obj.cells #[Value.int IntKind.i64 0,Value.int IntKind.i64 0] 78) (Obj.cells #[Value.int IntKind.i64 LO,Value.int IntKind.i64 0] 78) _ _ _ c2;have c3q0:=al (Obj.cells #[Value.int IntKind.i64 0,Value.int IntKind.i64 0] 78) (Obj.cells #[Value.int IntKind.i64 0,Value.int IntKind.i64 0] 78) _ _ _ c3;have c3q1:=al (Obj.cells #[Value.int IntKind.i64 LO,Value.int IntKind.i64 0] 78) (Obj.cells #[Value.int IntKind.i64 0,Value.int IntKind.i64 0] 78) _ _ _ c3;have c3q2:=al (Obj.cells #[Value.int IntKind.i64 0,Value.int IntKind.i64 0] 78) (Obj.cells #[Value.int IntKind.i64 LO,Value.int IntKind.i64 0] 78) _ _ _ c3;have c4q0:=al (Obj.cells #[Value.int IntKind.i64 0,Value.int IntKind.i64 0] 78) (Obj.cells #[Value.int IntKind.i64 0,Value.int IntKind.i64 0] 78) _ _ _ c4;have c4q1:=al (Obj.cells #[Value.int IntKind.i64 LO,Value.int IntKind.i64 0] 78) (Obj.cells #[Value.int IntKind.i64 0,Value.int IntKind.i64 0] 78) _ _ _ c4;have c4q2:=al (Obj.cells #[Value.int IntKind.i64 0,Value.int IntKind.i64 0] 78) (Obj.cells #[Value.int IntKind.i64 LO,Value.int IntKind.i64 0] 78) _ _ _ c4;have c5q0:=al (Obj.cells #[Value.int IntKind.i64 0,Value.int IntKind.i64 0] 78) (Obj.cells #[Value.int IntKind.i64 0,Value.int IntKind.i64 0] 78) _ _ _ c5;have c5q1:=al (Obj.cells #[Value.int IntKind.i64 LO,Value.int IntKind.i64 0] 78) (Obj.cells #[Value.int IntKind.i64 0,Value.int IntKind.i64 0] 78) _ _ _ c5;have c5q2:=al (Obj.cells #[Value.int IntKind.i64 0,Value.int IntKind.i64 0] 78) (Obj.cells #[Value.int IntKind.i64 LO,Value.int IntKind.i64 0] 78) _ _ _ c5;clear al
   go_region
   all_goals go_wp2_with fail
   all_goals go_meet
   ·exact⟨_,_,rfl,rfl,Below.drew (Below.tr (bel1 _ _) (bel1 _ _)),by show _<((u1.alloc _).alloc _).heap.size;rw[two_sz];omega,by show _<((u1.alloc _).alloc _).heap.size;rw[two_sz];omega,two_new0 _ _ _ _ _ 0,two_new0 _ _ _ _ _ 1,two_new1 _ _ _ _ _ 0,two_new1 _ _ _ _ _ 1⟩
   ·exact⟨_,_,rfl,rfl,Below.drew (Below.tr (bel1 _ _) (bel1 _ _)),by show _<((u1.alloc _).alloc _).heap.size;rw[two_sz];omega,by show _<((u1.alloc _).alloc _).heap.size;rw[two_sz];omega,two_new1 _ _ _ _ _ 0,two_new1 _ _ _ _ _ 1,two_new0 _ _ _ _ _ 0,two_new0 _ _ _ _ _ 1⟩
  case rest=>
   obtain⟨P,Q,rfl,rfl,hx,pP,pQ,p0,p1,q0,q1⟩:=hcut;have BX:Aside (Below w.heap.size w wc):=Below.tr HB.out hx;have e0:=(hx.cell (p:=⟨w.heap.size,0,none⟩) (World.block_lt_of_cell? _ _ d0)).trans d0;have e1:=(hx.cell (p:=⟨w.heap.size,1,none⟩) (World.block_lt_of_cell? _ _ d1)).trans d1;have e2:=(hx.cell (p:=⟨w.heap.size,2,none⟩) (World.block_lt_of_cell? _ _ d2)).trans d2
   go_wp2_with fail
   refine(numbers_any K a b wc).mono ?_;rintro e w2 ⟨rfl,hy⟩;have p0:=(hy.cell (p:=⟨P,0,none⟩) pP).trans p0;have p1:=(hy.cell (p:=⟨P,1,none⟩) pP).trans p1;have q0:=(hy.cell (p:=⟨Q,0,none⟩) pQ).trans q0;have q1:=(hy.cell (p:=⟨Q,1,none⟩) pQ).trans q1;have BY:Aside (Below w.heap.size w w2):=Below.tr BX.out hy;clear hx hy BX e0 e1 e2
   go_wp2_with fail
   go_loopg [27] 2 (fun kx s27 wr=>∃i:Nat,s27=.int .i64 i/\i<=2/\2-i<=kx/\wr=w2/\Aside ((1<=i->LO<=a/\a<=HA)/\(2<=i->0<=b/\b<=HB')))
   case atStart=>exact⟨0,rfl,by omega,by omega,rfl,(⟨fun h=>by omega,fun h=>by omega⟩:(1<=0->LO<=a/\a<=HA)/\(2<=0->0<=b/\b<=HB'))⟩
   case round=>
    obtain⟨i,rfl,hi,hkx,rfl,A⟩:=hrel;have hi':i=0\/i=1\/i=2:=by omega
    rcases hi' with rfl|rfl|rfl
    ·have ri:=idx2_0 a b wr;by_cases x1:a<LO
     ·go_wp2
      go_ret;refine⟨?_,BY.out⟩;have:decide (LO<=a)=false:=decide_eq_false (by omega);rw[this];rfl
     ·by_cases x2:a>HA
      ·go_wp2
       go_ret;refine⟨?_,BY.out⟩;have:decide (a<=HA)=false:=decide_eq_false (by omega);rw[this];first|rfl|(rw[Bool.and_false];rfl)
      ·go_wp2
       go_roundg 1
       case measure=>omega
       case rel=>exact⟨1,rfl,by omega,by omega,rfl,(⟨fun _=>⟨by omega,by omega⟩,fun h=>by omega⟩:(1<=1->LO<=a/\a<=HA)/\(2<=1->0<=b/\b<=HB'))⟩
    ·have ri:=idx2_1 a b wr;have A1:=A.out.1 (by omega);by_cases x1:b<0
     ·go_wp2
      go_ret;refine⟨?_,BY.out⟩;have:decide (0<=b)=false:=decide_eq_false (by omega);rw[this,Bool.false_and,Bool.and_false];rfl
     ·by_cases x2:b>HB'
      ·go_wp2
       go_ret;refine⟨?_,BY.out⟩;have:decide (b<=HB')=false:=decide_eq_false (by omega);rw[this];first|rfl|(rw[Bool.and_false];rfl)|(rw[Bool.and_false,Bool.and_false];rfl)
      ·go_wp2
       go_roundg 0
       case measure=>omega
       case rel=>exact⟨2,rfl,by omega,by omega,rfl,(⟨fun _=>A1,fun h=>⟨by omega,by omega⟩⟩:(1<=2->LO<=a/\a<=HA)/\(2<=2->0<=b/\b<=HB'))⟩
    ·go_wp2
     go_ret;refine⟨?_,BY.out⟩;obtain⟨A1,A2⟩:=A.out;obtain⟨x1,x2⟩:=A1 (by omega);obtain⟨x3,x4⟩:=A2 (by omega);rw[decide_eq_true x1,decide_eq_true x2,decide_eq_true x3,decide_eq_true x4];rfl
 ·have hok:okO (k,a,b)=false:=by
   unfold okO;rw[Bool.not_eq_true] at hk;rw[hk,Bool.false_and]
  rw[hok]
  have hk':k<1\/k>5:=by
   unfold kindB at hk;rw[Bool.and_eq_true,decide_eq_true_eq,decide_eq_true_eq] at hk;omega
  by_cases x1:k<1
  ·go_enter func66,ntmps66
   go_wp2
   go_ret;exact⟨rfl,bel1 _ _⟩
  ·have x2:k>5:=by omega
   go_enter func66,ntmps66
   go_wp2
   go_ret;exact⟨rfl,bel1 _ _⟩
def FirstIs(d:List OpR)(p:OpR->Bool)(z:Int):Prop:=(z = -1/\∀i (hi:i<d.length),p d[i]=false)\/∃k:Nat,∃hk:k<d.length,z=k/\p d[k]=true/\∀i (hi:i<k),p (d[i]'(by omega))=false
theorem indexFunc_any(a:Option Addr)(cap:Nat)(d:List OpR)(g:Nat)(p:OpR->Bool)(w:World)(h:IsG rO w a cap d)
  (eg:∀args w,(callFunc g args).run prog w=.ok (.enter g args) w) (hg:AnsB g p w) :
  Calls prog 94 #[.slice a d.length cap,.func (.func g) #[] #[]] w fun r w'=>∃z:Int,r=.returned (.int .i64 z)/\FirstIs d p z/\Below w.heap.size w w':=by
 have hl:=h.len;have H:Aside (IsG rO w a cap d):=h;have HG:Aside (AnsB g p w):=hg;clear h hg;go_enter func94,ntmps94
 go_wp2
 go_loopg [8] d.length (fun kx s8 wr=>∃k:Nat,s8=.int .i64 k/\k<=d.length/\d.length-k<=kx/\Aside (Below w.heap.size w wr)/\Aside (∀i (hi:i<d.length),i<k->p d[i]=false))
 case atStart=>exact⟨0,rfl,by omega,by omega,Below.refl _ w,(fun i _ h=>absurd h (by omega):∀i (hi:i<d.length),i<0->p d[i]=false)⟩
 case round=>
  obtain⟨k,rfl,hk,hkx,G,A⟩:=hrel;by_cases hlt:k<d.length
  ·have hz:(k:Int)<(d.length:Int):=by omega
   obtain⟨x,hx⟩:∃x,d[k]=x:=⟨_,rfl⟩;obtain⟨b,off,ha,hb,c0,c1,c2⟩:=opAt (H.out.below G.out) (i:=k) (x:=x) (by rw[List.getElem?_eq_getElem hlt,hx]);subst ha;have HX:Hid _:=hx;clear hx;obtain⟨B,hB⟩:∃B,p x=B:=⟨_,rfl⟩;have HB:Hid _:=hB;have pc:=HG.out x wr G.out;rw[hB] at pc;clear hB
   go_wp2_with fail
   refine pc.mono ?_;rintro r w1 ⟨rfl,g1⟩;have G2:Aside (Below w.heap.size w w1):=Below.tr G.out g1;clear g1 G c0 c1 c2 pc
   cases B with
   | true=>
    go_wp2
    go_ret;refine⟨k,rfl,.inr ⟨k,hlt,rfl,?_,fun i hi=>A.out i (by omega) hi⟩,G2.out⟩;rw[HX.out];exact HB.out
   | false=>
    go_wp2
    go_roundg (d.length-(k+1))
    case measure=>omega
    case rel=>
     refine⟨k+1,by go_num,by omega,Nat.le_refl _,G2,(fun i hi hik=>?_:∀i (hi:i<d.length),i<k+1->p d[i]=false)⟩;by_cases e:i=k
     ·subst e;rw[HX.out];exact HB.out
     ·exact A.out i hi (by omega)
  ·have hz:¬(k:Int)<(d.length:Int):=by omega
   go_wp2
   go_ret;exact⟨-1,rfl,.inl ⟨rfl,fun i hi=>A.out i hi (by omega)⟩,G.out⟩
theorem FirstIs.any{d:List OpR}{p:OpR->Bool}{z:Int}(h:FirstIs d p z):decide (z>=0)=d.any p:=by
 rcases h with⟨rfl,h⟩|⟨k,hk,rfl,h,_⟩
 ·have:d.any p=false:=by
   rw[List.any_eq_false];intro x hx;obtain⟨i,hi,rfl⟩:=List.getElem_of_mem hx;rw[h i hi];simp
  rw[this];decide
 ·have:d.any p=true:=List.any_eq_true.2 ⟨d[k],List.getElem_mem hk,h⟩;rw[this];simp
theorem containsFunc_any(a:Option Addr)(cap:Nat)(d:List OpR)(g:Nat)(p:OpR->Bool)(w:World)(h:IsG rO w a cap d)
  (eg:∀args w,(callFunc g args).run prog w=.ok (.enter g args) w) (hg:AnsB g p w) :
  Calls prog 65 #[.slice a d.length cap,.func (.func g) #[] #[]] w fun r w'=>r=.returned (.bool (d.any p))/\Below w.heap.size w w':=by
 have q:=indexFunc_any a cap d g p w h eg hg;go_enter func65,ntmps65
 go_wp2_with fail
 refine q.mono ?_;rintro r w1 ⟨z,rfl,hz,hb⟩;have e:=hz.any
 go_wp2
 go_ret;exact⟨by rw[<-e];rfl,hb⟩
theorem okL_any(l:List OpR):okL l=(decide (l.length<=16)&&!(l.any fun x=>!okO x)):=by
 unfold okL;congr 1
 induction l with
 | nil=>rfl
 | cons x l ih=>rw[List.all_cons,List.any_cons,ih];cases okO x<;>simp
theorem ok_any(a:Option Addr)(cap:Nat)(d:List OpR)(w:World)(h:IsG rO w a cap d)(t:ShW w) :
  Calls prog 38 #[.slice a d.length cap] w fun r w'=>r=.returned (.bool (okL d))/\Below w.heap.size w w':=by
 have hl:=h.len;have q:=containsFunc_any a cap d 66 (fun x=>!okO x) w h (entersF func66 (by kernel_rfl) rfl) (fun x W hW=>wrong_any x.1 x.2.1 x.2.2 W (t.below hW));rw[okL_any];by_cases h16:d.length<=16
 ·have h16':(d.length:Int)<=16:=by omega
  go_enter func38,ntmps38
  go_wp2_with fail
  refine q.mono ?_;rintro r w1 ⟨rfl,hb⟩
  go_wp2
  go_ret;exact⟨by rw[decide_eq_true h16];rfl,hb⟩
 ·have h16':¬(d.length:Int)<=16:=by omega
  go_enter func38,ntmps38
  go_wp2
  go_ret;exact⟨rfl,Below.refl _ _⟩
end
section
open Go.RowKit Go.Lib
section
variable {α:Type}{R:RowT α}{w w':World}{base cap:Nat}{d c:List α}{v:Value}
theorem OwnG.appS{ad:Addr}(o:OwnG R w base v d)(h:IsG R w (some ad) cap c)(hd:d.length+c.length<=1000000)(hb:base<=w.heap.size)(ty:TypeId) :
  ∃v' w',(Builtin.append_ #[R.st,R.st] ty #[v,.slice (some ad) c.length cap]).run prog w=.ok v' w'/\OwnG R w' base v' (d++c)/\Below base w w':=by
 obtain⟨i,hi,hz,hs,hby⟩:=R.info;have sz:(d.length+c.length)*R.nb<=1000000*1000:=Nat.mul_le_mul hd R.small
 obtain⟨v',w',h1,h2,h3,h4⟩:=run_append_own (P:=prog) w base R.st ty R.et i _ R.k R.nb R.und hi hz hs hby R.zs R.kpos v d.length (R.flat d) o ad c.length cap (R.flat c) (by rw[flat_len])
  (fun j u hu=>by
   obtain⟨b,off,e,hb,hc⟩:=h.elem j u hu
   cases e
   rw[Addr.add_lit];exact hc) (flat_one c) (by unfold maxLen;omega) (by omega) hb
 refine⟨v',w',h1,?_,?_⟩
 ·unfold OwnG;rw[List.length_append,flat_append];exact h2
 ·exact(Below.refl base w).grown h3 hb (fun k hk=>(World.ownsRow.lt o k hk).1)
end
theorem cloneO(a:Option Addr)(cap:Nat)(d:List OpR)(w:World)(h:IsG rO w a cap d)(hd:d.length<=1000000) :
  Calls prog 72 #[.slice a d.length cap] w fun e w'=>∃a' cap',e=.returned (.slice a' d.length cap')/\OwnG rO w' w.heap.size (.slice a' d.length cap') d/\Below w.heap.size w w':=by
 have hl:=h.len;have q22:∀(w:World)(a:Option Addr)(n c n' c':Nat),(binOp .eql 22 (.slice a n c) (.slice none n' c')).run prog w=.ok (.bool a.isNone) w:=fun w a n c n' c'=>Lib.run_eql_slice_nil w _ _ a n c n' c' underlying22;by_cases ha:a=none
 ·subst ha
  obtain rfl:d=[]:=by
   cases d with
   | nil=>rfl
   | cons x d=>obtain⟨b,off,e,_⟩:=h.elem 0 (.int .i64 x.1) rfl;cases e
  go_enter func72,ntmps72
  go_wp2
  go_ret;exact⟨none,0,rfl,OwnG.nil _ _ _,Below.refl _ _⟩
 ·obtain⟨ad,rfl⟩:=Option.ne_none_iff_exists'.1 ha;obtain⟨v',w',hr,own,gr⟩:=OwnG.appS (d:=[]) (c:=d) (OwnG.made (R:=rO) w #[] 0 (Nat.le_refl _) (by unfold maxLen;omega) rfl) (h.below (bel1 _ _)) (by simpa using hd) (by rw[alloc_sz];omega) 22;have B:Aside (Below w.heap.size w w'):=(bel1 w _).trans gr;have O:Aside (OwnG rO w' w.heap.size v' d):=own;clear own gr h;go_enter func72,ntmps72
  go_wp2_with (at_builtin;refine Lib.wpList_append_run _ rfl _ _ 22 22 rfl _ _ rfl rfl v' w' hr ?_)
  go_ret;obtain⟨a',cap',e,_⟩:=O.out.isG;subst e;exact⟨a',cap',rfl,O.out,B.out⟩
def mayO(p s:Int)(d:List OpR):Bool:=decide (0<=p)&&(decide (p<=7)&&(okL d&&canB 0 s))
theorem mayBe_any(p s:Int)(a:Option Addr)(cap:Nat)(d:List OpR)(w:World)(hs:wfI s)(h:IsG rO w a cap d)(t:ShW w):Calls prog 67 #[.int .i64 p,.slice a d.length cap,.int .i64 s] w fun e w'=>e=.returned (.bool (mayO p s d))/\Below w.heap.size w w':=by
 by_cases c1:0<=p
 ·by_cases c2:p<=7
  ·have P:=ok_any a cap d w h t
   cases c3:okL d with
   | true=>
    have e:mayO p s d=canB 0 s:=by simp[mayO,c1,c2,c3]
    rw[e];rw[c3] at P;have hc:=fun w=>can_any 0 s w (by decide) hs;obtain⟨cb,hcb⟩:∃cb,canB 0 s=cb:=⟨_,rfl⟩;rw[hcb] at hc⊢;clear hcb e c3 h t;go_enter func67,ntmps67
    go_wp2_with fail
    refine P.mono ?_;rintro e w1 ⟨rfl,b1⟩;have hc:=hc w1
    go_wp2_with fail
    refine hc.mono ?_;rintro e w2 ⟨rfl,hb⟩;clear hc
    go_wp2_with fail
    go_ret;exact⟨rfl,Below.tr b1 hb⟩
   | false=>
    have e:mayO p s d=false:=by simp[mayO,c3]
    rw[e];rw[c3] at P;clear e c3 h t;go_enter func67,ntmps67
    go_wp2_with fail
    refine P.mono ?_;rintro e w1 ⟨rfl,b1⟩
    go_wp2_with fail
    go_ret;exact⟨rfl,b1⟩
  ·have e:mayO p s d=false:=by simp[mayO,c2]
   rw[e];go_enter func67,ntmps67
   go_wp2_with fail
   go_ret;exact⟨rfl,Below.refl _ _⟩
 ·have e:mayO p s d=false:=by simp[mayO,c1]
  rw[e];go_enter func67,ntmps67
  go_wp2_with fail
  go_ret;exact⟨rfl,Below.refl _ _⟩
end
section
open Go.RowKit Go.Lib Go.WideMaps Go.Maps
def hasK(s p:Int)(t:TR):Bool:=t.s==s&&t.prio==p
structure TInv(T:List TR)(ws:Nat->Int)(fc:Int×Int->Option Value)(n:Nat):Prop where
 st:∀i x,T[i]?=some x->ws i%8=x.s
 fre:∀i,T.length<=i->i<n->ws i%8=0
 cnt:∀s p,(fc (s,p)).getD (.int .i64 0)=.int .i64 (T.countP (hasK s p):Nat)
 dom:∀s p,(fc (s,p)).isSome=true->(0<=s/\s<8)/\0<=p/\p<8
 le:T.length<=n
 ok:∀x∈T,(0<=x.prio/\x.prio<=7)/\1<=x.s/\x.s<=6
variable {T:List TR}{ws:Nat->Int}{fc:Int×Int->Option Value}{n:Nat}
theorem TInv.nil(n:Nat):TInv [] (fun _=>0) (fun _=>none) n:=
 ⟨fun i x h=>by simp at h,fun i _ _=>rfl,fun s p=>rfl,fun s p h=>(by cases h),by simp,fun x h=>(by cases h)⟩
theorem nodupLe{α:Type} [BEq α] [LawfulBEq α]:∀(ks L:List α),ks.Nodup->(∀x∈ks,x∈L)->ks.length<=L.length
 | [],L,_,_=>by simp
 | x::ks,L,h,hs=>by
  obtain⟨h1,h2⟩:=List.nodup_cons.1 h;have hx:=hs x (by simp)
  have:=nodupLe ks (L.erase x) h2 (fun y hy=>by
   have hy':=hs y (by simp[hy]);have hne:y≠x:=fun e=>h1 (by rw[<-e];exact hy);exact(List.mem_erase_of_ne hne).2 hy')
  rw[List.length_erase_of_mem hx] at this;have:=List.length_pos_of_mem hx;simp;omega
def keys64:List (Int×Int):=(List.range 8).flatMap fun(s:Nat)=>(List.range 8).map fun(p:Nat)=>((s:Int),(p:Int))
theorem keys64_len:keys64.length=64:=by decide
theorem keys64_mem{s p:Int}(h1:0<=s/\s<8)(h2:0<=p/\p<8):(s,p)∈keys64:=by
 unfold keys64;rw[List.mem_flatMap];refine⟨s.toNat,List.mem_range.2 (by omega),List.mem_map.2 ⟨p.toNat,List.mem_range.2 (by omega),?_⟩⟩;rw[Prod.mk.injEq];omega
theorem few{w:World}{M N:Nat}(h:MapG keyP w M fc N)(hd:∀s p,(fc (s,p)).isSome=true->(0<=s/\s<8)/\0<=p/\p<8):N<=1000000:=by
 obtain⟨ks,k1,k2,k3⟩:=h.keys
 have:=nodupLe ks keys64 k1 (fun x hx=>by
  obtain⟨s,p⟩:=x;obtain⟨h1,h2⟩:=hd s p ((k3 _).1 hx);exact keys64_mem h1 h2)
 rw[keys64_len] at this;omega
theorem wfI_8{s:Int}(h:0<=s/\s<8):wfI s:=wfI_of (by omega) (by omega)
theorem cntP_set(q:TR->Bool):∀(l:List TR)(i:Nat)(x y:TR),l[i]?=some x->(l.set i y).countP q+(if q x=true then 1 else 0)=l.countP q+(if q y=true then 1 else 0):=by
 intro l
 induction l with
 | nil=>intro i x y h;simp at h
 | cons z l ih=>
  intro i x y h
  cases i with
  | zero=>
   simp at h;subst h
   rw[List.set_cons_zero,countP_cons,countP_cons];omega
  | succ i=>
   have:=ih i x y (by simpa using h);rw[List.set_cons_succ,countP_cons,countP_cons];omega
theorem cntP_le(q:TR->Bool)(l:List TR):l.countP q<=l.length:=List.countP_le_length
theorem TInv.push(I:TInv T ws fc n)(x:TR)(hl:T.length<n)(hp:0<=x.prio/\x.prio<=7)(hs:1<=x.s/\x.s<=6)(V:Int)(hV:V%8=x.s) :
  TInv (T++[x]) (putW ws T.length V) (fput fc (x.s,x.prio) (.int .i64 ((T.countP (hasK x.s x.prio):Nat)+1))) n:=by
 refine⟨fun i y h=>?_,fun i h1 h2=>?_,fun s p=>?_,fun s p h=>?_,by simp;omega,fun y hy=>?_⟩
 ·by_cases c:i<T.length
  ·rw[List.getElem?_append_left c] at h;rw[putW_other _ _ _ _ (by omega)];exact I.st i y h
  ·rw[List.getElem?_append_right (by omega)] at h
   have hi:i=T.length:=by
    have:=(List.getElem?_eq_some_iff.1 h).1;simp at this;omega
   subst hi;simp at h;subst h
   rw[putW_same];exact hV
 ·simp at h1;rw[putW_other _ _ _ _ (by omega)];exact I.fre i (by omega) h2
 ·rw[List.countP_append];by_cases c:(s,p)=(x.s,x.prio)
  ·simp only[Prod.mk.injEq] at c;obtain⟨rfl,rfl⟩:=c;simp[fput,hasK]
  ·have:hasK s p x=false:=by
    simp only[Prod.mk.injEq] at c;simp[hasK];intro e1 e2;exact c ⟨e1.symm,e2.symm⟩
   simp[fput,c,this,I.cnt s p]
 ·by_cases c:(s,p)=(x.s,x.prio)
  ·simp only[Prod.mk.injEq] at c;omega
  ·simp[fput,c] at h;exact I.dom s p h
 ·rcases List.mem_append.1 hy with hy|hy
  ·exact I.ok y hy
  ·simp at hy;subst hy
   exact⟨hp,hs⟩
theorem TInv.turn(I:TInv T ws fc n){i:Nat}{x y:TR}(hi:T[i]?=some x)(hp:y.prio=x.prio)(hs:1<=y.s/\y.s<=6)(hne:x.s≠y.s)(V:Int)(hV:V%8=y.s) :
  TInv (T.set i y) (putW ws i V) (fput (fput fc (x.s,x.prio) (.int .i64 ((T.countP (hasK x.s x.prio):Nat)-1:Int))) (y.s,x.prio) (.int .i64 ((T.countP (hasK y.s x.prio):Nat)+1))) n:=by
 have hil:i<T.length:=(List.getElem?_eq_some_iff.1 hi).1;have hxm:x∈T:=List.mem_of_getElem? hi;have okx:=I.ok x hxm;refine⟨fun j z h=>?_,fun j h1 h2=>?_,fun s p=>?_,fun s p h=>?_,by simp;exact I.le,fun z hz=>?_⟩
 ·by_cases c:j=i
  ·subst c;rw[List.getElem?_set_self hil] at h;injection h with h
   subst h;rw[putW_same];exact hV
  ·rw[List.getElem?_set_ne (fun e=>c e.symm)] at h;rw[putW_other _ _ _ _ c];exact I.st j z h
 ·simp at h1;rw[putW_other _ _ _ _ (by omega)];exact I.fre j h1 h2
 ·have hc:=cntP_set (hasK s p) T i x y hi;by_cases c1:(s,p)=(y.s,x.prio)
  ·simp only[Prod.mk.injEq] at c1;obtain⟨rfl,rfl⟩:=c1;have e1:hasK y.s x.prio x=false:=by simp[hasK,hne]
   have e2:hasK y.s x.prio y=true:=by simp[hasK,hp]
   simp[e1,e2] at hc;simp[fput,hc]
  ·by_cases c2:(s,p)=(x.s,x.prio)
   ·simp only[Prod.mk.injEq] at c2;obtain⟨rfl,rfl⟩:=c2;have e1:hasK x.s x.prio x=true:=by simp[hasK]
    have e2:hasK x.s x.prio y=false:=by simp[hasK];intro e;exact absurd e.symm hne
    simp[e1,e2] at hc;simp[fput,c1];omega
   ·have e1:hasK s p x=false:=by
     simp only[Prod.mk.injEq] at c2;simp[hasK];intro h1 h2;exact c2 ⟨h1.symm,h2.symm⟩
    have e2:hasK s p y=false:=by
     simp only[Prod.mk.injEq] at c1;simp[hasK];intro h1 h2;exact c1 ⟨h1.symm,by rw[<-hp];exact h2.symm⟩
    simp[e1,e2] at hc;simp[fput,c1,c2,hc,I.cnt s p]
 ·by_cases c1:(s,p)=(y.s,x.prio)
  ·simp only[Prod.mk.injEq] at c1;omega
  ·by_cases c2:(s,p)=(x.s,x.prio)
   ·simp only[Prod.mk.injEq] at c2;omega
   ·simp[fput,c1,c2] at h;exact I.dom s p h
 ·rcases List.mem_or_eq_of_mem_set hz with hz|hz
  ·exact I.ok z hz
  ·subst hz;exact⟨by rw[hp];exact okx.1,hs⟩
theorem TInv.same(I:TInv T ws fc n){i:Nat}{x y:TR}(hi:T[i]?=some x)(hp:y.prio=x.prio)(hs:y.s=x.s):TInv (T.set i y) ws fc n:=by
 have hil:i<T.length:=(List.getElem?_eq_some_iff.1 hi).1;have okx:=I.ok x (List.mem_of_getElem? hi);refine⟨fun j z h=>?_,fun j h1 h2=>I.fre j (by simpa using h1) h2,fun s p=>?_,I.dom,by simp;exact I.le,fun z hz=>?_⟩
 ·by_cases c:j=i
  ·subst c;rw[List.getElem?_set_self hil] at h;injection h with h
   subst h;rw[hs];exact I.st j x hi
  ·rw[List.getElem?_set_ne (fun e=>c e.symm)] at h;exact I.st j z h
 ·have hc:=cntP_set (hasK s p) T i x y hi;have:hasK s p y=hasK s p x:=by simp[hasK,hp,hs]
  rw[this] at hc;rw[I.cnt s p];congr 2;omega
 ·rcases List.mem_or_eq_of_mem_set hz with hz|hz
  ·exact I.ok z hz
  ·subst hz;exact⟨by rw[hp];exact okx.1,by rw[hs];exact okx.2⟩
end
def IsT(x:Int):Prop:=0<=x/\x<18446744073709551616
def addT(a b:Int):Int:=if a+b<18446744073709551616 then a+b else 18446744073709551615
section
section
variable {P:Program}{ops:Array Oper}{Q:Exit->Act->World->Prop}{md:Region.Mode}{S:World->Prop}{L:Nat}
theorem anyE_t{i:Nat}{oi:Oper}{v:Value}{f:Nat}{lst:Array Bool}{a:Act}{w:World}(hi:ops[i]?=some oi)(hh:(Region.noSelect ops&&Region.waitsFor md ops L i&&Region.free md ops lst i&&(Region.ready md ops lst).contains i)=true)
  (hQ:∀c a w,Q (.panic c) (a.put oi.dst v) w->Q (.panic c) a w) (hy:YieldsIf P ops S oi v a) (hS:S w) (h:wpAnyE P md ops Q S L f (lst.setIfInBounds i true) (a.put oi.dst v) w):wpAnyE P md ops Q S L (f+1) lst a w:=by
 simp only[Bool.and_eq_true] at hh;exact anyE_take hi hh.1.1.1 hh.1.1.2 hh.1.2 hh.2 hQ hy hS h
end
end
section
section
variable {P:Program}{ops:Array Oper}{Q:Exit->Act->World->Prop}{md:Region.Mode}{S:World->Prop}{L:Nat}
end
end
section
open Go.RowKit Go.Lib Go.WideMaps Go.Maps
variable {w w' u:World}{B a b r M n g cap i O:Nat}{v v':Value}{T T':List TR}{x y:TR}{ws ws':Nat->Int}{fc fc':Int×Int->Option Value}
theorem flat_same{α:Type}{R:RowT α}(d:List α):∀(i:Nat)(x y:α),d[i]?=some x->R.enc y=R.enc x->R.flat (d.set i y)=R.flat d:=by
 induction d with
 | nil=>intro i x y h;simp at h
 | cons z d ih=>
  intro i x y h he
  cases i with
  | zero=>
   simp at h;subst h
   rw[List.set_cons_zero,flat_cons,flat_cons,he]
  | succ i=>
   rw[List.set_cons_succ,flat_cons,flat_cons,ih i x y (by simpa using h) he]
theorem OwnG.same{α:Type}{R:RowT α}{w:World}{base:Nat}{v:Value}{d:List α}{i:Nat}{x y:α}(h:OwnG R w base v d)(hi:d[i]?=some x)(he:R.enc y=R.enc x):OwnG R w base v (d.set i y):=by
 unfold OwnG;rw[length_set,flat_same d i x y hi he];exact h
structure TC(w:World)(g O:Nat)(x:TR):Prop where
 k0:w.cell? ⟨g,O,none⟩=some (.int .i64 x.prio)
 k1:w.cell? ⟨g,O+1,none⟩=some (.int .u64 x.due)
 k2:w.cell? ⟨g,O+2,none⟩=some (.int .u64 x.key)
 k4:w.cell? ⟨g,O+4,none⟩=some (.int .u64 x.f)
 k5:w.cell? ⟨g,O+5,none⟩=some (.int .u64 x.p)
 k6:w.cell? ⟨g,O+6,none⟩=some (.int .u64 x.d)
 k7:w.cell? ⟨g,O+7,none⟩=some (.int .u64 x.r)
 k8:w.cell? ⟨g,O+8,none⟩=some (.int .u64 x.m)
 fz:∀o,w.frozen? ⟨g,o,none⟩=false
theorem Tab.tc(h:Tab w B a b r M n (.slice (some ⟨g,0,none⟩) T.length cap) T ws fc)(hi:T[i]?=some x)(hO:i*9=O):TC w g O x:=by
 subst hO;have c:=fun j u hu=>h.own.cell (i:=i) (x:=x) hi (j:=j) (u:=u) hu;exact⟨c 0 _ rfl,c 1 _ rfl,c 2 _ rfl,c 4 _ rfl,c 5 _ rfl,c 6 _ rfl,c 7 _ rfl,c 8 _ rfl,fun o=>h.own.frozen o⟩
theorem Tab.len(h:Tab w B a b r M n v T ws fc)(hi:T[i]?=some x):∃g cap,v=.slice (some ⟨g,0,none⟩) T.length cap:=h.own.addr (fun e=>by rw[e] at hi;simp at hi)
theorem Tab.sameT(h:Tab w B a b r M n v T ws fc)(hi:T[i]?=some x)(he:rT.enc y=rT.enc x):Tab w B a b r M n v (T.set i y) ws fc:=⟨h.head,h.own.same hi he,h.arn,h.map⟩
theorem Tab.setC(h:Tab w B a b r M n (.slice (some ⟨g,0,none⟩) T.length cap) T ws fc)(hi:T[i]?=some x){j:Nat}{z:Value}(he:rT.enc y=(rT.enc x).set j z)(hj:j<9)(hO:i*9+j=O) :
  Tab (w.setCell ⟨g,O,none⟩ z) B a b r M n (.slice (some ⟨g,0,none⟩) (T.set i y).length cap) (T.set i y) ws fc/\Fr (tf B a b r M (.slice (some ⟨g,0,none⟩) T.length cap)) w (w.setCell ⟨g,O,none⟩ z):=by
 subst hO;have hf:Fr (fun k=>(Value.slice (some ⟨g,0,none⟩) T.length cap).ownBlock=some k) w (w.setCell ⟨g,i*9+j,none⟩ z):=Fr.setCell _ w g (i*9+j) z rfl;have ho:=h.own.setAt (i:=i) (j:=j) (y:=y) (u:=z) hi he hj;have:=h.setT (T':=T.set i y) hf (by rw[length_set] at ho;exact ho);refine⟨?_,hf.mono (fun k hk=>.inr (.inr (.inr (.inr (.inr hk)))))⟩;rw[length_set];exact this
def S8(B M g O:Nat)(pr s c:Int)(v0:World):Prop:=v0.cell? ⟨B,2,none⟩=some (.map (some M))/\v0.cell? ⟨g,O,none⟩=some (.int .i64 pr)/\(Instr.lookup 129 (.map (some M)) (.agg #[.int .i64 s,.int .i64 pr]) false).run prog v0=.ok (.int .i64 c) v0
theorem bump_all(h:Tab u B a b r M n (.slice (some ⟨g,0,none⟩) T.length cap) T ws fc)(I:∀s p,(fc (s,p)).isSome=true->(0<=s/\s<8)/\0<=p/\p<8)(hi:T[i]?=some x)(hO:i*9=O)(hp:0<=x.prio/\x.prio<=7)(s:Int)(hs:0<=s/\s<8)(c c':Int)(hc:(fc (s,x.prio)).getD (.int .i64 0)=.int .i64 c) :
  S8 B M g O x.prio s c u.drew/\∃st w4 w5,(Instr.mapEntry 129 (.map (some M)) (.agg #[.int .i64 s,.int .i64 x.prio])).run prog u.drew=.ok (.tuple #[.int .i64 c,.int .i64 st]) w4/\S8 B M g O x.prio s c w4/\
   (Instr.entryStore 129 (.map (some M)) (.int .i64 st) (.int .i64 c')).run prog w4=.ok () w5/\
   Tab w5 B a b r M n (.slice (some ⟨g,0,none⟩) T.length cap) T ws (fput fc (s,x.prio) (.int .i64 c'))/\Fr (tf B a b r M (.slice (some ⟨g,0,none⟩) T.length cap)) u w5:=by
 have h0:=h.drew;obtain⟨N,hN⟩:=h0.map;have hk:keyP.ok (s,x.prio):=⟨wfI_8 hs,wfI_8 (by omega)⟩;obtain⟨st,w4,w5,mm,l0,e4,l4,e5,m5,g5,g4⟩:=hN.bump (few hN I) hk c hc (.int .i64 c');obtain⟨es,q,hM'⟩:=h0.hM;obtain⟨cg,hg⟩:=h0.hg (g:=g) rfl;refine⟨⟨h0.c2,(h0.tc hi hO).k0,l0⟩,st,w4,w5,e4,⟨?_,?_,l4⟩,e5,h0.setM g5 m5,?_⟩
 ·rw[World.cell?_of_block (g4.block B (lt_of_block h0.head) (fun e=>un_map h0.head hM' (by injection e)))];exact h0.c2
 ·rw[World.cell?_of_block (g4.block g (lt_of_block hg) (fun e=>un_map hg hM' (by injection e)))];exact(h0.tc hi hO).k0
 ·exact((Fr.refl _ u).drew).trans (Fr.of_grown g5) (fun j hj=>.inl (.inr (.inr (.inr (.inr (.inl (by injection hj with hj;exact hj.symm)))))))
theorem dom_put{fc:Int×Int->Option Value}(I:∀s p,(fc (s,p)).isSome=true->(0<=s/\s<8)/\0<=p/\p<8){s p:Int}(hs:0<=s/\s<8)(hp:0<=p/\p<8)(z:Value):∀s' p',((fput fc (s,p) z) (s',p')).isSome=true->(0<=s'/\s'<8)/\0<=p'/\p'<8:=fun s' p' h=>by
 by_cases c:(s',p')=(s,p)
 ·simp only[Prod.mk.injEq] at c;omega
 ·simp[fput,c] at h;exact I s' p' h
end
section
open Go.RowKit Go.Lib Go.WideMaps Go.Maps
variable {w w' u:World}{B a b r M n g cap i O:Nat}{v v':Value}{T T':List TR}{x y:TR}{ws ws':Nat->Int}{fc fc':Int×Int->Option Value}
theorem tf_abr{B a b r M:Nat}{v:Value}{j:Nat}(h:j=a\/j=b\/j=r):tf B a b r M v j:=by
 rcases h with rfl|rfl|rfl
 ·exact .inr (.inl rfl)
 ·exact .inr (.inr (.inl rfl))
 ·exact .inr (.inr (.inr (.inl rfl)))
end
end Go.Proofs.YtjpbngiddjkjiaaGreatDoor.Ta
