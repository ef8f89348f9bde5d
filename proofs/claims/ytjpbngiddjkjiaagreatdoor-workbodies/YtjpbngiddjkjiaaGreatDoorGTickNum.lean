import Derived.Laws.BitsAllLaws
import Derived.Laws.Bits64
import Derived.WalkKit
import Derived.Test.YtjpbngiddjkjiaaGreatDoorProg
import Derived.Laws.Externs
import Derived.Below
import Derived.Deep.LoopGhost
import Derived.Deep.RegionHeld3
import Derived.Deep.Fields
import Derived.Laws.CopyOwn
open Go.Proofs.Tryz
namespace Go.Proofs.YtjpbngiddjkjiaaGreatDoor.Ag
set_option maxHeartbeats 8000000
set_option maxRecDepth 100000
set_option linter.unusedVariables false
def IsT(x:Int):Prop:=0<=x/\x<18446744073709551616
def addT(a b:Int):Int:=if a+b<18446744073709551616 then a+b else 18446744073709551615
def ofT(n:Int):Int:=if n<0 then 0 else n
section
open Go.RowKit
theorem ret_int{k:IntKind}{a b:Int}(h:a=b):Ending.returned (.int k a)=.returned (.int k b):=by rw[h]
theorem add64(x y:Int)(hx:IsT x)(hy:IsT y)(w:World):(callFunc 216 #[.int .u64 x,.int .u64 y,.int .u64 0]).run prog w =
  .ok (.value (.tuple #[.int .u64 ((x+y)%18446744073709551616),.int .u64 ((x+y)/18446744073709551616)])) w:=by
 obtain⟨hx,_⟩:=hx;obtain⟨hy,_⟩:=hy;rw[run_callFunc_extern func216 (by kernel_rfl) (by kernel_rfl) (by kernel_rfl) (e:=add64Entry) (by kernel_rfl),run_add64 x y 0 hx hy (by omega) (by omega)];simp only[Result.andThen,Int.add_zero]
theorem add_any(a b:Int)(w:World)(ha:IsT a)(hb:IsT b) :
  Calls prog 178 #[.int .u64 a,.int .u64 b] w fun e w'=>e=.returned (.int .u64 (addT a b))/\w'=w:=by
 have hc:=add64 a b ha hb;obtain⟨a0,a1⟩:=ha;obtain⟨b0,b1⟩:=hb;by_cases h:a+b<18446744073709551616
 ·have e1:(a+b)/18446744073709551616=0:=by omega
  have e2:(a+b)%18446744073709551616=a+b:=by omega
  have e3:addT a b=a+b:=by unfold addT;rw[if_pos h]
  rw[e1,e2] at hc;rw[e3];clear a0 a1 b0 b1 h;go_enter func178,ntmps178
  go_wp2_with (simp only[hc])
  go_ret;exact⟨rfl,rfl⟩
 ·have e1:(a+b)/18446744073709551616=1:=by omega
  have e3:addT a b=18446744073709551615:=by unfold addT;rw[if_neg h]
  rw[e1] at hc;rw[e3];clear a0 a1 b0 b1 h;go_enter func178,ntmps178
  go_wp2_with (simp only[hc])
  go_ret;exact⟨rfl,rfl⟩
theorem of_any(n:Int)(w:World)(h1 : -9223372036854775808<=n)(h2:n<=9223372036854775807) :
  Calls prog 121 #[.int .i64 n] w fun e w'=>e=.returned (.int .u64 (ofT n))/\w'=w:=by
 unfold ofT;by_cases h:n<0
 ·rw[if_pos h];go_enter func121,ntmps121
  go_wp2
  go_ret;exact⟨rfl,rfl⟩
 ·rw[if_neg h];go_enter func121,ntmps121
  go_wp2
  go_ret;exact⟨rfl,rfl⟩
end
section
open Go.RowKit
def inN(n m:Int):Int:=min (max n 0) m
def slN(n:Int):Int:=2^(inN n 7).toNat-1
theorem inN_le{n m:Int}(h:0<=m):0<=inN n m/\inN n m<=m:=by unfold inN;omega
theorem in7(n:Int):inN n 7=0\/inN n 7=1\/inN n 7=2\/inN n 7=3\/inN n 7=4\/inN n 7=5\/inN n 7=6\/inN n 7=7:=by
 have:=@inN_le n 7 (by omega);omega
theorem slN_le(n:Int):0<=slN n/\slN n<=127:=by
 unfold slN;rcases in7 n with h|h|h|h|h|h|h|h<;>(rw[h];decide)
theorem slN_is(n:Int):IsT (slN n):=by have:=slN_le n;unfold IsT;omega
theorem within_any(n m:Int)(w:World) :
  Calls prog 230 #[.int .i64 n,.int .i64 m] w fun e w'=>e=.returned (.int .i64 (inN n m))/\w'=w:=by
 unfold inN;go_enter func230,ntmps230
 go_wp2<;>(go_ret;exact⟨ret_int (by omega),rfl⟩)
theorem slack_any(n:Int)(w:World) :
  Calls prog 195 #[.int .i64 n] w fun e w'=>e=.returned (.int .u64 (slN n))/\w'=w:=by
 have wi:=within_any n 7 w;unfold slN;rcases in7 n with h|h|h|h|h|h|h|h <;>
 (rw[h] at wi
  rw[h];go_enter func195,ntmps195
  go_wp2_with fail
  refine wi.mono ?_;rintro e w1 ⟨rfl,rfl⟩;clear wi
  go_wp2
  go_ret;exact⟨by first|rfl|(congr 2),rfl⟩)
theorem key_any(t n:Int)(ht:IsT t)(w:World) :
  Calls prog 146 #[.int .u64 t,.int .i64 n] w fun e w'=>e=.returned (.int .u64 (addT t (slN n)))/\w'=w:=by
 have sl:=slack_any n w;have ad:=add_any t (slN n) w ht (slN_is n);go_enter func146,ntmps146
 go_wp2_with fail
 refine sl.mono ?_;rintro e w1 ⟨rfl,rfl⟩
 go_wp2_with fail
 refine ad.mono ?_;rintro e w1 ⟨rfl,rfl⟩
 go_wp2
 go_ret;exact⟨rfl,rfl⟩
theorem over_any(k d t:Int)(w:World) :
  Calls prog 175 #[.agg #[.int .u64 k,.int .i64 d],.int .u64 t] w fun e w'=>e=.returned (.bool (decide (k<=t)))/\w'=w.alloc (.cells #[.int .u64 k,.int .i64 d] 35):=by
 go_enter func175,ntmps175
 go_wp2
 go_ret;exact⟨rfl,rfl⟩
theorem alloc_sz(w:World)(o:Obj):(w.alloc o).heap.size=w.heap.size+1:=by unfold World.alloc;simp
def EBox(w:World)(B:Nat)(k d:Int):Prop:=w.heap[B]?=some (.cells #[.int .u64 k,.int .i64 d] 35 (0,0))
theorem EBox.below{w w':World}{B:Nat}{k d:Int}(h:EBox w B k d)(hw:Below w.heap.size w w'):EBox w' B k d:=(hw.block B (lt_of_block h)).trans h
theorem EBox.cell{w:World}{B:Nat}{k d:Int}(h:EBox w B k d):w.cell? ⟨B,0,none⟩=some (.int .u64 k)/\w.cell? ⟨B,1,none⟩=some (.int .i64 d):=by
 unfold EBox at h;exact⟨by rw[cell_of_row _ _ _ _ _ _ h];rfl,by rw[cell_of_row _ _ _ _ _ _ h];rfl⟩
theorem EBox.fz{w:World}{B:Nat}{k d:Int}(h:EBox w B k d):(∀o,w.frozen? ⟨B,o,none⟩=false)/\B<w.heap.size:=by
 unfold EBox at h;exact⟨fun o=>by simp[World.frozen?,h],lt_of_block h⟩
theorem EBox.new(w:World)(k d:Int):EBox (w.alloc (.cells #[.int .u64 k,.int .i64 d] 35)) w.heap.size k d:=heap_alloc_new w _
theorem EBox.put{w:World}{B:Nat}{k d:Int}(h:EBox w B k d)(k2 d2:Int):EBox ((w.setCell ⟨B,0,none⟩ (.int .u64 k2)).setCell ⟨B,1,none⟩ (.int .i64 d2)) B k2 d2:=by
 unfold EBox at *;have e1:=setRow_heap w B #[.int .u64 k,.int .i64 d] (#[.int .u64 k,.int .i64 d].setIfInBounds 0 (.int .u64 k2)) 35 (0,0) h;rw[<-setCell_eq_setRow w B 0 _ _ (0,0) _ h] at e1;have e2:=setRow_heap _ B _ ((#[.int .u64 k,.int .i64 d].setIfInBounds 0 (.int .u64 k2)).setIfInBounds 1 (.int .i64 d2)) 35 (0,0) e1;rw[<-setCell_eq_setRow _ B 1 _ _ (0,0) _ e1] at e2;exact e2
theorem bel1(w:World)(o:Obj):Below w.heap.size w (w.alloc o):=(Below.refl _ _).alloc (Nat.le_refl _) _
theorem choose_any(a b:Int×Int)(t:Int)(w:World) :
  Calls prog 114 #[.agg #[.int .u64 a.1,.int .i64 a.2],.agg #[.int .u64 b.1,.int .i64 b.2],.int .u64 t] w fun e w'=>e=.returned (if a.1<=t then .agg #[.int .u64 a.1,.int .i64 a.2] else .agg #[.int .u64 b.1,.int .i64 b.2])/\Below w.heap.size w w':=by
 obtain⟨k,d⟩:=a;obtain⟨k2,d2⟩:=b;obtain⟨S,hS⟩:∃S,w.heap.size=S:=⟨_,rfl⟩;obtain⟨u1,hu1⟩:∃u,w.alloc (.cells #[.int .u64 k,.int .i64 d] 35)=u:=⟨_,rfl⟩;obtain⟨u2,hu2⟩:∃u,u1.alloc (.cells #[.int .u64 k2,.int .i64 d2] 35)=u:=⟨_,rfl⟩;obtain⟨u,hu⟩:∃u,u2.alloc (.cells #[.int .u64 0,.int .i64 0] 35)=u:=⟨_,rfl⟩;obtain⟨v,hv⟩:∃v,u.alloc (.cells #[.int .u64 k,.int .i64 d] 35)=v:=⟨_,rfl⟩;have s1:u1.heap.size=S+1:=by rw[<-hu1,alloc_sz,hS]
 have s2:u2.heap.size=S+1+1:=by rw[<-hu2,alloc_sz,s1]
 have b1:Below S w u1:=by rw[<-hu1,<-hS];exact bel1 _ _
 have b2:Below u1.heap.size u1 u2:=by rw[<-hu2];exact bel1 _ _
 have b3:Below u2.heap.size u2 u:=by rw[<-hu];exact bel1 _ _
 have b4:Below u.heap.size u v:=by rw[<-hv];exact bel1 _ _
 have e1:EBox u1 S k d:=by rw[<-hu1,<-hS];exact EBox.new _ _ _
 have e2:EBox u2 (S+1) k2 d2:=by rw[<-hu2,<-s1];exact EBox.new _ _ _
 have e3:EBox u (S+1+1) 0 0:=by rw[<-hu,<-s2];exact EBox.new _ _ _
 have f1:=((e1.below b2).below b3).below b4;have f2:=(e2.below b3).below b4;have f3:=e3.below b4;have bv:Below S w v:=((b1.trans (b2.mono (by omega))).trans (b3.mono (by omega))).trans (b4.mono (by have:=b3.size;omega));obtain⟨x0,x1⟩:=f1.cell;obtain⟨y0,y1⟩:=f2.cell;obtain⟨z0,z1⟩:=f3.cell;obtain⟨fz,lt⟩:=f3.fz;have ov:=over_any k d t u;rw[hv] at ov;have p1:Aside (EBox ((v.setCell ⟨S+1+1,0,none⟩ (.int .u64 k)).setCell ⟨S+1+1,1,none⟩ (.int .i64 d)) (S+1+1) k d):=f3.put k d;have p2:Aside (EBox ((v.setCell ⟨S+1+1,0,none⟩ (.int .u64 k2)).setCell ⟨S+1+1,1,none⟩ (.int .i64 d2)) (S+1+1) k2 d2):=f3.put k2 d2;have q:Aside (∀a b,Below S w ((v.setCell ⟨S+1+1,0,none⟩ a).setCell ⟨S+1+1,1,none⟩ b)):=fun a b=>(bv.setCell (by show S<=S+1+1;omega) _).setCell (by show S<=S+1+1;omega) _;have HU:Hid _:=hu;have HU1:Hid _:=hu1;have HU2:Hid _:=hu2;clear hu hu1 hu2 hv b1 b2 b3 b4 e1 e2 e3 f1 f2 f3 bv s1 s2;by_cases h:k<=t
 ·rw[if_pos h];rw[decide_eq_true h] at ov;go_enter func114,ntmps114
  go_wp2_with fail
  rw[HU1.out,HU2.out,HU.out];refine ov.mono ?_;rintro e w1 ⟨rfl,rfl⟩;clear ov;obtain⟨r0,r1⟩:=p1.out.cell
  go_wp2
  refine bodyPost_ret (v:=.agg #[.int .u64 k,.int .i64 d]) (by simp[results,results114,go_sem,r0,r1]) rfl ⟨rfl,?_⟩
  first|exact q.out _ _|(rw[hS];exact q.out _ _)
 ·rw[if_neg h];rw[decide_eq_false h] at ov;go_enter func114,ntmps114
  go_wp2_with fail
  rw[HU1.out,HU2.out,HU.out];refine ov.mono ?_;rintro e w1 ⟨rfl,rfl⟩;clear ov;obtain⟨r0,r1⟩:=p2.out.cell
  go_wp2
  refine bodyPost_ret (v:=.agg #[.int .u64 k2,.int .i64 d2]) (by simp[results,results114,go_sem,r0,r1]) rfl ⟨rfl,?_⟩
  first|exact q.out _ _|(rw[hS];exact q.out _ _)
end
end Go.Proofs.YtjpbngiddjkjiaaGreatDoor.Ag
