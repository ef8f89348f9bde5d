import Derived.Deep.OwnRows
import Derived.WalkSmall
import Derived.Test.YtjpbngiddjkjiaaGreatDoorUJL
import Derived.Test.YtjpbngiddjkjiaaGreatDoorUJN
import Derived.Maps.OwnSet
import Derived.Maps.AppendAt
import Derived.WideKeyPair
import Derived.DeepKeys4
import Derived.Outline
open Go.Proofs.Tryz
open Nat(le_trans)
namespace Go.Proofs.YtjpbngiddjkjiaaGreatDoor.Qu
set_option maxHeartbeats 8000000
set_option maxRecDepth 100000
set_option linter.unusedVariables false
section
open Go.RowKit Go.Lib Go.Sort
structure Pl where
 e:Ent
 v:Nat
 f:Bool
def Pl.zero:Pl:=⟨(0,0),0,false⟩
def Pl.cell(p:Pl):Nat->Value
 | 0=>.int .u64 p.e.1
 | 1=>.int .i64 p.e.2
 | 2=>.int .u64 p.v
 | _=>.bool p.f
def slSet(g:Nat->Pl)(i:Nat)(p:Pl):Nat->Pl:=fun j=>if j=i then p else g j
theorem slSet_same(g:Nat->Pl)(i:Nat)(p:Pl):slSet g i p i=p:=by unfold slSet;rw[if_pos rfl]
theorem slSet_ne(g:Nat->Pl){i j:Nat}(p:Pl)(h:j≠i):slSet g i p j=g j:=by unfold slSet;rw[if_neg h]
theorem gr_trans{u v w:World}{row:Option Nat}(h:u.grownBy v row)(g:v.grownBy w row):u.grownBy w row:=
 ⟨g.os.trans h.os,g.tape.trans h.tape,g.output.trans h.output,le_trans h.size g.size,fun k hk hne=>(g.block k (Nat.lt_of_lt_of_le hk h.size) hne).trans (h.block k hk hne)⟩
theorem gr_set(w:World)(R o:Nat)(u:Value):w.grownBy (w.setCell ⟨R,o,none⟩ u) (some R):=
 ⟨rfl,rfl,rfl,by simp[World.setCell],fun k hk hne=>Below.heap_setCell w ⟨R,o,none⟩ u k (fun e=>hne (by rw[e]))⟩
theorem below_gr{w w':World}{R b:Nat}(h:w.grownBy w' (some R))(hb:b<=R)(hw:b<=w.heap.size):Below b w w':=
 ⟨h.os,h.tape,h.output,h.size,fun k hk=>h.block k (by omega) (by intro e;injection e with e;omega)⟩
structure Slt(w:World)(B R n:Nat)(g:Nat->Pl):Prop where
 ne:B≠R
 head:w.heap[B]?=some (.cells #[.slice (some ⟨R,0,none⟩) n n] 185 (0,0))
 row:w.rowIs R 234 (n*4) (fun j=>(g (j/4)).cell (j%4))
 most:n<=8
variable {w w':World}{B R n:Nat}{g:Nat->Pl}
theorem Slt.c0(h:Slt w B R n g):w.cell? ⟨B,0,none⟩=some (.slice (some ⟨R,0,none⟩) n n):=by simp[World.cell?,h.head]
theorem Slt.blt(h:Slt w B R n g):B<w.heap.size:=lt_of_block h.head
theorem Slt.rlt(h:Slt w B R n g):R<w.heap.size:=h.row.lt
theorem Slt.of_blocks(h:Slt w B R n g)(hb:w'.heap[B]?=w.heap[B]?)(hr:w'.heap[R]?=w.heap[R]?):Slt w' B R n g:=
 ⟨h.ne,hb.trans h.head,h.row.of_block hr,h.most⟩
theorem Slt.below(h:Slt w B R n g)(hw:Below w.heap.size w w'):Slt w' B R n g:=h.of_blocks (hw.block B h.blt) (hw.block R h.rlt)
theorem Slt.alloc(h:Slt w B R n g)(o:Obj):Slt (w.alloc o) B R n g:=h.of_blocks (Below.heap_alloc _ _ _ h.blt) (Below.heap_alloc _ _ _ h.rlt)
theorem Slt.drew(h:Slt w B R n g):Slt w.drew B R n g:=⟨h.ne,h.head,h.row,h.most⟩
theorem Slt.kept{row:Option Nat}(h:Slt w B R n g)(hw:w.grownBy w' row)(h1:some B≠row)(h2:some R≠row):Slt w' B R n g:=h.of_blocks (hw.block B h.blt h1) (hw.block R h.rlt h2)
theorem Slt.congr{g':Nat->Pl}(h:Slt w B R n g)(e:∀i,i<n->g i=g' i):Slt w B R n g':=
 ⟨h.ne,h.head,h.row.congr fun j hj=>by rw[e _ (by omega)],h.most⟩
theorem Slt.cells(h:Slt w B R n g){i:Nat}(hi:i<n){k d:Int}{v:Nat}{f:Bool}(hp:g i=⟨(k,d),v,f⟩) :
  w.cell? ⟨R,i*4,none⟩=some (.int .u64 k)/\w.cell? ⟨R,i*4+1,none⟩=some (.int .i64 d)/\w.cell? ⟨R,i*4+2,none⟩=some (.int .u64 v)/\w.cell? ⟨R,i*4+3,none⟩=some (.bool f):=by
 have h0:=h.row.cell (i:=i*4) (by omega);have h1:=h.row.cell (i:=i*4+1) (by omega);have h2:=h.row.cell (i:=i*4+2) (by omega);have h3:=h.row.cell (i:=i*4+3) (by omega);rw[show i*4/4=i by omega,show i*4%4=0 by omega,hp] at h0;rw[show(i*4+1)/4=i by omega,show(i*4+1)%4=1 by omega,hp] at h1;rw[show(i*4+2)/4=i by omega,show(i*4+2)%4=2 by omega,hp] at h2;rw[show(i*4+3)/4=i by omega,show(i*4+3)%4=3 by omega,hp] at h3;exact⟨h0,h1,h2,h3⟩
theorem Slt.free(h:Slt w B R n g)(o:Nat):w.frozen? ⟨R,o,none⟩=false:=h.row.frozen o
theorem Slt.put(h:Slt w B R n g){i:Nat}(hi:i<n)(k d:Int)(v:Nat)(f:Bool) :
  Slt ((((w.setCell ⟨R,i*4,none⟩ (.int .u64 k)).setCell ⟨R,i*4+1,none⟩ (.int .i64 d)).setCell ⟨R,i*4+2,none⟩ (.int .u64 v)).setCell ⟨R,i*4+3,none⟩ (.bool f)) B R n (slSet g i ⟨(k,d),v,f⟩)/\
   w.grownBy ((((w.setCell ⟨R,i*4,none⟩ (.int .u64 k)).setCell ⟨R,i*4+1,none⟩ (.int .i64 d)).setCell ⟨R,i*4+2,none⟩ (.int .u64 v)).setCell ⟨R,i*4+3,none⟩ (.bool f)) (some R):=by
 have gr:=gr_trans (gr_trans (gr_trans (gr_set w R (i*4) (.int .u64 k)) (gr_set _ R (i*4+1) (.int .i64 d))) (gr_set _ R (i*4+2) (.int .u64 v))) (gr_set _ R (i*4+3) (.bool f));refine⟨⟨h.ne,(gr.block B h.blt (by intro e;injection e with e;exact h.ne e)).trans h.head,((((h.row.set (i*4) (.int .u64 k)).set (i*4+1) (.int .i64 d)).set (i*4+2) (.int .u64 v)).set (i*4+3) (.bool f)).congr fun j hj=>?_,h.most⟩,gr⟩;by_cases e:j/4=i
 ·rw[e,slSet_same];have:j%4=0\/j%4=1\/j%4=2\/j%4=3:=by omega
  rcases this with m|m|m|m
  ·rw[if_neg (by omega),if_neg (by omega),if_neg (by omega),if_pos (by omega),m];rfl
  ·rw[if_neg (by omega),if_neg (by omega),if_pos (by omega),m];rfl
  ·rw[if_neg (by omega),if_pos (by omega),m];rfl
  ·rw[if_pos (by omega),m];rfl
 ·rw[slSet_ne g _ e,if_neg (by omega),if_neg (by omega),if_neg (by omega),if_neg (by omega)]
theorem infoPl:∃i,prog.info? 234=some i/\i.zero=some (.agg #[.int .u64 0,.int .i64 0,.int .u64 0,.bool false])/\i.size=4/\i.bytes=32:=by
 have h:(prog.info? 234).map (fun i=>(i.zero,i.size,i.bytes))=some (some (.agg #[.int .u64 0,.int .i64 0,.int .u64 0,.bool false]),4,32):=by kernel_rfl
 obtain⟨i,h1,h2⟩:=Option.map_eq_some_iff.1 h;simp at h2;exact⟨i,h1,h2.1,h2.2.1,h2.2.2⟩
theorem slMade(z:Array Value)(n j:Nat)(hj:j<n):(madeCells z n)[j]?=some (z[j%z.size]!):=by
 unfold madeCells;simp[hj]
theorem makePl_run(w:World)(n:Nat)(hn:n<=8) :
  ∃w',(Instr.makeSlice 183 (.int .i64 (n:Int)) (.int .i64 (n:Int))).run prog w=.ok (.slice (some ⟨w.heap.size,0,none⟩) n n) w'/\w'.rowIs w.heap.size 234 (n*4) (fun j=>Pl.zero.cell (j%4))/\Below w.heap.size w w'/\w'.heap.size=w.heap.size+1:=by
 obtain⟨i,hi,hz,hs,hby⟩:=infoPl;have hm:=run_make (P:=prog) w 183 234 i _ underlying183 hi hz .i64 .i64 n n (by omega) (Int.le_refl _) (by rw[hby];omega) (by omega);simp only[Int.toNat_natCast,hs] at hm;refine⟨_,hm,⟨_,heap_alloc_new w _,by simp[madeCells],fun j hj=>?_⟩,(Below.refl _ _).alloc (Nat.le_refl _) _,by simp⟩;rw[slMade _ _ _ hj];show some ((#[Value.int .u64 0,.int .i64 0,.int .u64 0,.bool false]:Array Value)[j%4]!)=some (Pl.zero.cell (j%4));have:j%4=0\/j%4=1\/j%4=2\/j%4=3:=by omega
 rcases this with m|m|m|m<;>rw[m]<;>rfl
end
section
open Go.RowKit Go.Lib Go.Sort
theorem slNew_in(n:Nat)(w:World)(S:Nat)(hS:w.heap.size=S)(h1:1<=n)(h2:n<=8) :
  Calls prog 59 #[.int .i64 n] w fun e w'=>e=.returned (.tuple #[.pointer (some ⟨S+1,0,none⟩),.int .i64 0])/\
   Slt w' (S+1) S n (fun _=>Pl.zero)/\Below S w w'/\w'.heap.size=S+2:=by
 have g1:¬(n:Int)<1:=by omega
 have g2:¬(8:Int)<(n:Int):=by omega
 obtain⟨u,hmk,hr,hb,hz⟩:=makePl_run w n h2;rw[hS] at hmk hr hb hz
 have fin:Slt (u.alloc (.cells #[.slice (some ⟨S,0,none⟩) n n] 185)) (S+1) S n (fun _=>Pl.zero)/\Below S w (u.alloc (.cells #[.slice (some ⟨S,0,none⟩) n n] 185))/\(u.alloc (.cells #[.slice (some ⟨S,0,none⟩) n n] 185)).heap.size=S+2:=by
  refine⟨⟨by omega,by rw[<-hz];exact heap_alloc_new u _,hr.alloc _,h2⟩,hb.alloc (by omega) _,by simp[hz]⟩
 have F:Aside _:=fin;clear fin hr hb;go_enter func59,ntmps59
 go_wp2_with fail
 go_ret2;exact⟨by simp,F.out⟩
theorem slAt_in(w:World)(B R n:Nat)(g:Nat->Pl)(i:Nat)(h:Slt w B R n g)(hi:i<n) :
  Calls prog 187 #[.pointer (some ⟨B,0,none⟩),.int .i64 i] w fun e w'=>e=.returned (.pointer (some ⟨R,i*4,none⟩))/\w'=w:=by
 have c0:=h.c0;have h0:¬(i:Int)<0:=by omega
 have h1:¬(n:Int)<=(i:Int):=by omega
 have h2:(i:Int)<(n:Int):=by omega
 go_enter func187,ntmps187
 go_wp2_with fail
 go_ret;exact⟨by simp,rfl⟩
theorem slEmpty_any(w:World)(B R n:Nat)(g:Nat->Pl)(i:Nat)(h:Slt w B R n g)(hi:i<n)(k d:Int)(v:Nat)(f:Bool)(hp:g i=⟨(k,d),v,f⟩)(hv:v<=1000000) :
  Calls prog 135 #[.pointer (some ⟨R,i*4,none⟩)] w fun e w'=>e=.returned (.agg #[.int .u64 k,.int .i64 d])/\Slt w' B R n (slSet g i ⟨(0,0),v+1,false⟩)/\w.grownBy w' (some R):=by
 obtain⟨c0,c1,c2,c3⟩:=h.cells hi hp;have rl:=h.rlt;have f0:=h.free (i*4);have f1:=h.free (i*4+1);have f2:=h.free (i*4+2);have f3:=h.free (i*4+3);have wv:IntKind.u64.wrap ((v:Int)+1)=(v:Int)+1:=by rw[IntKind.wrap_u64,Int.emod_eq_of_lt (by omega) (by omega)]
 go_enter func135,ntmps135
 go_wp2_with fail
 have hs:=h.put hi 0 0 (v+1) false;rw[show((v+1:Nat):Int)=(v:Int)+1 by omega] at hs;obtain⟨W,hW⟩:∃W,(((w.setCell ⟨R,i*4,none⟩ (.int .u64 0)).setCell ⟨R,i*4+1,none⟩ (.int .i64 0)).setCell ⟨R,i*4+2,none⟩ (.int .u64 ((v:Int)+1))).setCell ⟨R,i*4+3,none⟩ (.bool false)=W:=⟨_,rfl⟩;have sz:w.heap.size=W.heap.size:=by rw[<-hW];simp[World.setCell]
 rw[hW] at hs⊢;rw[sz];refine bodyPost_ret (v:=.agg #[.int .u64 k,.int .i64 d]) (by simp[results,results135,go_sem]) rfl ⟨rfl,(hs.1.alloc _).alloc _,gr_trans (gr_trans hs.2 (World.grownBy_alloc _ _ _)) (World.grownBy_alloc _ _ _)⟩
theorem slPut_ok(w:World)(B R n:Nat)(g:Nat->Pl)(i:Nat)(k d:Int)(v:Nat)(h:Slt w B R n g)(hi:i<n)(hf:(g i).f=false)(hv:(g i).v=v)(hm:v<=1000000) :
  Calls prog 196 #[.pointer (some ⟨B,0,none⟩),.int .i64 i,.agg #[.int .u64 k,.int .i64 d]] w fun e w'=>e=.returned (.int .i64 0)/\Slt w' B R n (slSet g i ⟨(k,d),v+1,true⟩)/\w.grownBy w' (some R):=by
 obtain⟨k',d',e'⟩:∃k' d',g i=⟨(k',d'),v,false⟩:=⟨_,_,by rw[<-hf,<-hv]⟩;obtain⟨c0,c1,c2,c3⟩:=h.cells hi e';have rl:=h.rlt;have f0:=h.free (i*4);have f1:=h.free (i*4+1);have f2:=h.free (i*4+2);have f3:=h.free (i*4+3);have wv:IntKind.u64.wrap ((v:Int)+1)=(v:Int)+1:=by rw[IntKind.wrap_u64,Int.emod_eq_of_lt (by omega) (by omega)]
 clear hf hv;go_enter func196,ntmps196
 go_wp2_with fail
 refine(slAt_in _ B R n g i (h.alloc _) hi).mono ?_;rintro e w1 ⟨rfl,rfl⟩
 go_wp2_with fail
 go_region
 go_wp2_with fail
 have hs:=h.put hi k d (v+1) true;rw[show((v+1:Nat):Int)=(v:Int)+1 by omega] at hs;go_ret;exact⟨rfl,(hs.1.alloc _).drew,gr_trans (gr_trans hs.2 (World.grownBy_alloc _ _ _)) ⟨rfl,rfl,rfl,Nat.le_refl _,fun _ _ _=>rfl⟩⟩
theorem slTake_no(w:World)(B R n:Nat)(g:Nat->Pl)(i:Nat)(ver:Int)(h:Slt w B R n g)(hi:i<n)(hf:(g i).f=false\/((g i).v:Int)≠ver) :
  Calls prog 166 #[.pointer (some ⟨B,0,none⟩),.int .i64 i,.int .u64 ver] w fun e w'=>e=.returned (.tuple #[.agg #[.int .u64 0,.int .i64 0],.bool false])/\Below w.heap.size w w':=by
 obtain⟨k',d',v',f',e'⟩:∃k' d' v' f',g i=⟨(k',d'),v',f'⟩:=⟨_,_,_,_,rfl⟩;obtain⟨c0,c1,c2,c3⟩:=h.cells hi e';have rl:=h.rlt;rw[e'] at hf;simp only at hf
 cases f' with
 | false=>
  go_enter func166,ntmps166
  go_wp2_with fail
  refine(slAt_in _ B R n g i (h.alloc _) hi).mono ?_;rintro e w1 ⟨rfl,rfl⟩
  go_wp2_with fail
  refine bodyPost_ret (v:=.tuple #[.agg #[.int .u64 0,.int .i64 0],.bool false]) (by simp[results,results166,go_sem]) rfl ⟨rfl,(Below.refl _ _).alloc (Nat.le_refl _) _⟩
 | true=>
  have hne:¬(v':Int)=ver:=by simpa using hf
  have hb:((v':Int)==ver)=false:=by simpa using hne
  clear hf;go_enter func166,ntmps166
  go_wp2_with fail
  refine(slAt_in _ B R n g i (h.alloc _) hi).mono ?_;rintro e w1 ⟨rfl,rfl⟩
  go_wp2_with fail
  refine bodyPost_ret (v:=.tuple #[.agg #[.int .u64 0,.int .i64 0],.bool false]) (by simp[results,results166,go_sem]) rfl ⟨rfl,(Below.refl _ _).alloc (Nat.le_refl _) _⟩
theorem gr_new{w u:World}{row:Option Nat}(h:w.grownBy u row){S o:Nat}(hS:w.heap.size<=S)(x:Value):w.grownBy (u.setCell ⟨S,o,none⟩ x) row:=
 ⟨h.os,h.tape,h.output,by simpa [World.setCell] using h.size,fun k hk hne=>(Below.heap_setCell u ⟨S,o,none⟩ x k (by show k≠S;omega)).trans (h.block k hk hne)⟩
theorem Slt.setNew{u:World}{B R n:Nat}{g:Nat->Pl}(h:Slt u B R n g){S o:Nat}(h1:B≠S)(h2:R≠S)(x:Value):Slt (u.setCell ⟨S,o,none⟩ x) B R n g:=
 h.of_blocks (Below.heap_setCell u ⟨S,o,none⟩ x B h1) (Below.heap_setCell u ⟨S,o,none⟩ x R h2)
theorem slBox{u:World}{S:Nat}{x y:Value}{T:TypeId}(h:u.heap[S]?=some (.cells #[x,y] T (0,0)))(a b:Value) :
  ((u.setCell ⟨S,0,none⟩ a).setCell ⟨S,1,none⟩ b).cell? ⟨S,0,none⟩=some a/\((u.setCell ⟨S,0,none⟩ a).setCell ⟨S,1,none⟩ b).cell? ⟨S,1,none⟩=some b:=by
 have h1:(u.setCell ⟨S,0,none⟩ a).heap[S]?=some (.cells #[a,y] T (0,0)):=by simp[World.setCell,Array.getElem?_modify,h]
 have h2:((u.setCell ⟨S,0,none⟩ a).setCell ⟨S,1,none⟩ b).heap[S]?=some (.cells #[a,b] T (0,0)):=by
  generalize u.setCell ⟨S,0,none⟩ a=v at h1⊢;simp[World.setCell,Array.getElem?_modify,h1]
 exact⟨by rw[cell_of_row _ _ _ _ _ _ h2];rfl,by rw[cell_of_row _ _ _ _ _ _ h2];rfl⟩
theorem slTake_ok(w:World)(B R n:Nat)(g:Nat->Pl)(i:Nat)(k d:Int)(v:Nat)(h:Slt w B R n g)(hi:i<n)(hp:g i=⟨(k,d),v,true⟩)(hm:v<=1000000) :
  Calls prog 166 #[.pointer (some ⟨B,0,none⟩),.int .i64 i,.int .u64 v] w fun e w'=>e=.returned (.tuple #[.agg #[.int .u64 k,.int .i64 d],.bool true])/\Slt w' B R n (slSet g i ⟨(0,0),v+1,false⟩)/\w.grownBy w' (some R):=by
 obtain⟨c0,c1,c2,c3⟩:=h.cells hi hp;have rl:=h.rlt;have bl:=h.blt;go_enter func166,ntmps166
 go_wp2_with fail
 refine(slAt_in _ B R n g i (h.alloc _) hi).mono ?_;rintro e w1 ⟨rfl,rfl⟩
 go_wp2_with fail
 refine(slEmpty_any _ B R n g i (h.alloc _) hi k d v true hp hm).mono ?_;rintro e w2 ⟨rfl,s2,g2⟩;have hb:=(g2.block w.heap.size (by simp) (by intro e;injection e with e;omega)).trans (heap_alloc_new w _);have y0:w2.cell? ⟨w.heap.size,0,none⟩=some (.int .u64 0):=by rw[cell_of_row _ _ _ _ _ _ hb];rfl
 have y1:w2.cell? ⟨w.heap.size,1,none⟩=some (.int .i64 0):=by rw[cell_of_row _ _ _ _ _ _ hb];rfl
 have z0:w2.frozen? ⟨w.heap.size,0,none⟩=false:=by simp[World.frozen?,hb]
 have z1:w2.frozen? ⟨w.heap.size,1,none⟩=false:=by simp[World.frozen?,hb]
 have gg:w.grownBy w2 (some R):=gr_trans (World.grownBy_alloc _ _ _) g2
 have fs:Aside (Slt ((w2.setCell ⟨w.heap.size,0,none⟩ (.int .u64 k)).setCell ⟨w.heap.size,1,none⟩ (.int .i64 d)) B R n (slSet g i ⟨(0,0),v+1,false⟩)/\w.grownBy ((w2.setCell ⟨w.heap.size,0,none⟩ (.int .u64 k)).setCell ⟨w.heap.size,1,none⟩ (.int .i64 d)) (some R)):=
  ⟨(s2.setNew (by omega) (by omega) _).setNew (by omega) (by omega) _,gr_new (gr_new gg (by omega) _) (by omega) _⟩
 obtain⟨b0,b1⟩:=slBox hb (.int .u64 k) (.int .i64 d);clear hb g2 s2 gg h c0 c1 c2 c3 rl bl hp
 go_wp2_with fail
 refine bodyPost_ret (v:=.tuple #[.agg #[.int .u64 k,.int .i64 d],.bool true]) (by simp[results,results166,go_sem,b0,b1]) rfl ⟨rfl,fs.out.1,fs.out.2⟩
theorem slGet_in(w:World)(B R n:Nat)(g:Nat->Pl)(i:Nat)(k d:Int)(v:Nat)(f:Bool)(h:Slt w B R n g)(hi:i<n)(hp:g i=⟨(k,d),v,f⟩) :
  Calls prog 133 #[.pointer (some ⟨B,0,none⟩),.int .i64 i] w fun e w'=>e=.returned (.tuple #[.agg #[.int .u64 k,.int .i64 d],.int .u64 v,.bool f])/\Below w.heap.size w w':=by
 obtain⟨c0,c1,c2,c3⟩:=h.cells hi hp;have rl:=h.rlt;go_enter func133,ntmps133
 go_wp2_with fail
 refine(slAt_in _ B R n g i (h.alloc _) hi).mono ?_;rintro e w1 ⟨rfl,rfl⟩
 go_wp2_with fail
 go_region
 go_wp2_with fail
 refine bodyPost_ret (v:=.tuple #[.agg #[.int .u64 k,.int .i64 d],.int .u64 v,.bool f]) (by simp[results,results133,go_sem]) rfl ⟨rfl,((Below.refl _ _).alloc (Nat.le_refl _) _).drew⟩
end
section
open Go.RowKit Go.Lib Go.Sort
def slAll(g:Nat->Pl):Nat->List Ent
 | 0=>[]
 | k+1=>slAll g k++(if (g k).f then [(g k).e] else [])
theorem slAll_len(g:Nat->Pl):∀k,(slAll g k).length<=k
 | 0=>Nat.le_refl _
 | k+1=>by
  have:=slAll_len g k;unfold slAll;rw[List.length_append]
  split<;>simp<;>omega
def slHit(p:Pl)(id:Int):Bool:=p.f&&(p.e.2==id)
theorem slDrop_none(w:World)(B R n:Nat)(g:Nat->Pl)(id:Int)(h:Slt w B R n g)(hn:∀i,i<n->slHit (g i) id=false) :
  Calls prog 91 #[.pointer (some ⟨B,0,none⟩),.int .i64 id] w fun e w'=>e=.returned (.bool false)/\w'=w:=by
 have c0:=h.c0;have bl:=h.blt;have H:Aside (Slt w B R n g):=h;have HN:Aside (∀i,i<n->slHit (g i) id=false):=hn;have n8:=h.most;clear h hn;go_enter func91,ntmps91
 go_wp2
 go_loopg [12] n (fun kx s12 wr=>∃k:Nat,s12=.int .i64 k/\k<=n/\n-k<=kx/\wr=w)
 case atStart=>exact⟨0,rfl,by omega,by omega,rfl⟩
 case round=>
  obtain⟨i,rfl,hk,hkx,rfl⟩:=hrel;by_cases hlt:i<n
  ·have hz:(i:Int)<(n:Int):=by omega
   obtain⟨k,d,v,f,e'⟩:∃k d v f,g i=⟨(k,d),v,f⟩:=⟨_,_,_,_,rfl⟩;obtain⟨q0,q1,q2,q3⟩:=H.out.cells hlt e';have hh:=HN.out i hlt;rw[e'] at hh
   cases f with
   | false=>
    clear hh
    go_wp2
    go_roundg (n-(i+1))
    case measure=>omega
    case rel=>exact⟨i+1,by go_num,by omega,Nat.le_refl _,rfl⟩
   | true=>
    have hd:(d==id)=false:=by simpa [slHit] using hh
    clear hh
    go_wp2
    go_roundg (n-(i+1))
    case measure=>omega
    case rel=>exact⟨i+1,by go_num,by omega,Nat.le_refl _,rfl⟩
  ·have hz:¬(i:Int)<(n:Int):=by omega
   go_wp2
   go_ret;exact⟨rfl,rfl⟩
theorem slDrop_hit(w:World)(B R n:Nat)(g:Nat->Pl)(j:Nat)(id:Int)(k:Int)(v:Nat)(h:Slt w B R n g)(hj:j<n)(hp:g j=⟨(k,id),v,true⟩)(hm:v<=1000000)(hn:∀i,i<j->slHit (g i) id=false) :
  Calls prog 91 #[.pointer (some ⟨B,0,none⟩),.int .i64 id] w fun e w'=>e=.returned (.bool true)/\Slt w' B R n (slSet g j ⟨(0,0),v+1,false⟩)/\w.grownBy w' (some R):=by
 have c0:=h.c0;have bl:=h.blt;have em:=slEmpty_any w B R n g j h hj k id v true hp hm;have H:Aside (Slt w B R n g):=h;have HN:Aside (∀i,i<j->slHit (g i) id=false):=hn;have HP:Hid (g j=⟨(k,id),v,true⟩):=hp;have n8:=h.most;clear h hn hp;go_enter func91,ntmps91
 go_wp2
 go_loopg [12] n (fun kx s12 wr=>∃i:Nat,s12=.int .i64 i/\i<=j/\n-i<=kx/\wr=w)
 case atStart=>exact⟨0,rfl,by omega,by omega,rfl⟩
 case round=>
  obtain⟨i,rfl,hk,hkx,rfl⟩:=hrel;have hlt:i<n:=by omega
  have hz:(i:Int)<(n:Int):=by omega
  by_cases hij:i=j
  ·subst hij;obtain⟨q0,q1,q2,q3⟩:=H.out.cells hlt HP.out
   go_wp2_with fail
   refine em.mono ?_;rintro e w2 ⟨rfl,s2,g2⟩;have F:Aside _:=And.intro s2 g2;clear s2 g2 em
   go_wp2
   go_ret;exact⟨rfl,F.out⟩
  ·obtain⟨k',d',v',f,e'⟩:∃k d v f,g i=⟨(k,d),v,f⟩:=⟨_,_,_,_,rfl⟩;obtain⟨q0,q1,q2,q3⟩:=H.out.cells hlt e';have hh:=HN.out i (by omega);rw[e'] at hh
   cases f with
   | false=>
    clear hh em
    go_wp2
    go_roundg (n-(i+1))
    case measure=>omega
    case rel=>exact⟨i+1,by go_num,by omega,Nat.le_refl _,rfl⟩
   | true=>
    have hd:(d'==id)=false:=by simpa [slHit] using hh
    clear hh em
    go_wp2
    go_roundg (n-(i+1))
    case measure=>omega
    case rel=>exact⟨i+1,by go_num,by omega,Nat.le_refl _,rfl⟩
theorem slApp{w:World}{base k:Nat}{r:Option Addr}{t:Nat}{d:List Ent}(x:Ent)(h:OwnE w base (.slice r k t) d)(hl:d.length=k)(hk:k<=100000)(hb:base<=w.heap.size) :
  ∃r' t' w',(Builtin.append_ #[157,157] 157 #[.slice r k t,.slice (some ⟨w.heap.size,0,none⟩) 1 1]).run prog (w.alloc (.cells #[.int .u64 x.1,.int .i64 x.2] 35))=.ok (.slice r' (k+1) t') w'/\OwnE w' base (.slice r' (k+1) t') (d++[x])/\Below base w w':=by
 have bv:Below w.heap.size w (w.alloc (.cells #[.int .u64 x.1,.int .i64 x.2] 35)):=(Below.refl _ _).alloc (Nat.le_refl _) _;obtain⟨v',w',hr,o,g⟩:=app_run (c:=[x]) (h.below bv) (IsL.one w x) (by simp;omega) (le_trans hb bv.size) 157;obtain⟨r',t',e,_⟩:=o.isL;have e2:(d++[x]).length=k+1:=by simp[hl]
 rw[e2] at e;subst e;exact⟨r',t',w',hr,o,OwnE.grown (h.below bv) (bv.mono hb) g (le_trans hb bv.size)⟩
def SlAllIs(w:World)(m:Nat)(d:List Ent)(r:Ending)(w':World):Prop:=∃a cap,r=.returned (.slice a m cap)/\OwnE w' w.heap.size (.slice a m cap) d/\Below w.heap.size w w'
theorem slAll_any(w:World)(B R n:Nat)(g:Nat->Pl)(m:Nat)(h:Slt w B R n g)(hm:(slAll g n).length=m) :
  Calls prog 212 #[.pointer (some ⟨B,0,none⟩)] w (SlAllIs w m (slAll g n)):=by
 have c0:=h.c0;have bl:=h.blt;have H:Aside (Slt w B R n g):=h;have n8:=h.most;have HM:Hid _:=hm;clear h hm;go_enter func212,ntmps212
 go_wp2
 go_loopg [3,5,11] n (fun kx s3 s5 s11 wr=>∃(i z:Nat)(r:Option Addr)(t:Nat),s11=.int .i64 i/\s3=.slice r z t/\Hid ((slAll g i).length=z)/\i<=n/\n-i<=kx/\Aside (OwnE wr w.heap.size (.slice r z t) (slAll g i))/\Aside (Below w.heap.size w wr))
 case atStart=>exact⟨0,0,none,0,rfl,rfl,rfl,by omega,by omega,OwnE.nil _ _,Below.refl _ _⟩
 case round=>
  obtain⟨i,z,r,t,rfl,rfl,HZ,hk,hkx,O,D⟩:=hrel;have zle:z<=8:=by have h1:=HZ.out;have h2:=slAll_len g i;omega
  have sz:=D.out.size;by_cases hlt:i<n
  ·have hz:(i:Int)<(n:Int):=by omega
   obtain⟨k,d,v,f,e'⟩:∃k d v f,g i=⟨(k,d),v,f⟩:=⟨_,_,_,_,rfl⟩;have Hr:=H.out.below D.out;obtain⟨q0,q1,q2,q3⟩:=Hr.cells hlt e';have rl:=Hr.rlt;have e1:slAll g (i+1)=slAll g i++(if f then [(k,d)] else []):=by show slAll g i++_=_;rw[e']
   clear Hr e';obtain⟨u,hu⟩:∃u,wr.alloc (.cells #[.int .u64 k,.int .i64 d,.int .u64 v,.bool f] 234)=u:=⟨_,rfl⟩;have bu:Below wr.heap.size wr u:=by rw[<-hu];exact(Below.refl _ _).alloc (Nat.le_refl _) _
   cases f with
   | false=>
    have E2:Hid (slAll g (i+1)=slAll g i):=by show _=_;rw[e1];simp
    have O2:Aside (OwnE (wr.alloc (.cells #[.int .u64 k,.int .i64 d,.int .u64 v,.bool false] 234)) w.heap.size (.slice r z t) (slAll g (i+1))):=by rw[E2.out,hu];exact O.out.below bu
    have D2:Aside (Below w.heap.size w (wr.alloc (.cells #[.int .u64 k,.int .i64 d,.int .u64 v,.bool false] 234))):=by rw[hu];exact D.out.trans (bu.mono sz)
    clear e1 hu bu O D
    go_wp2
    go_roundg (n-(i+1))
    case measure=>omega
    case rel=>exact⟨i+1,z,r,t,by go_num,rfl,by rw[E2.out];exact HZ,by omega,Nat.le_refl _,O2,D2⟩
   | true=>
    have E2:Hid (slAll g (i+1)=slAll g i++[(k,d)]):=by show _=_;rw[e1];simp
    obtain⟨r',t',w2,hr,o2,b2⟩:=slApp (k,d) (O.out.below bu) HZ.out (by omega) (by have:=bu.size;omega);have D2:Aside (Below w.heap.size w w2):=(D.out.trans (bu.mono sz)).trans b2;have O2:Aside (OwnE w2 w.heap.size (.slice r' (z+1) t') (slAll g (i+1))):=by rw[E2.out];exact o2
    have HZ2:Hid ((slAll g (i+1)).length=z+1):=by show _=_;rw[E2.out,List.length_append,HZ.out];rfl
    have us:u.heap.size=wr.heap.size+1:=by rw[<-hu];simp
    simp only at hr;rw[us,<-hu] at hr;clear us;clear e1 o2 b2 O D hu bu
    go_wp2_with (at_builtin;refine Lib.wpList_append_run (World.alloc (World.alloc wr _) _) rfl _ _ 157 157 rfl _ _ rfl rfl _ w2 hr ?_)
    go_roundg (n-(i+1))
    case measure=>omega
    case rel=>exact⟨i+1,z+1,r',t',by go_num,rfl,HZ2,by omega,Nat.le_refl _,O2,D2⟩
  ·have hz:¬(i:Int)<(n:Int):=by omega
   obtain rfl:i=n:=by omega
   obtain rfl:z=m:=by rw[<-HZ.out];exact HM.out
   go_wp2
   go_ret;exact⟨r,t,rfl,O.out,D.out⟩
end
section
open Go.RowKit Go.Lib Go.Sort Go.WideMaps Go.Maps
structure QAd where
 B:Nat
 SB:Nat
 SR:Nat
 OR:Nat
 oc:Nat
 L:Nat->Nat
 HB:Nat
 M:Nat
 QC:Nat
 TC:Nat->Nat
structure QSt where
 g:Nat->Pl
 ls:Nat->List (List Ent)
 v:Nat
 hs:List (List Ent)
theorem laidOut:laidOutB prog=true:=by kernel_rfl
theorem rowSpot:(191:TypeId)<prog.types.size:=of_decide_eq_true (by kernel_rfl)
theorem wideSpot:(match prog.underlying 191 with|some (.array _ _)|some (.struct _)=>true|_=>false)=true:=by kernel_rfl
theorem lawSpot:Keyed prog 191:=Keyed.of_law (deep_law_laid laidOut (m:=2) (by omega) rowSpot (by kernel_rfl) wideSpot)
theorem cellsSpot:prog.cellsOf 191=2:=by kernel_rfl
theorem arrSpot:ArrKey prog 191 3 2:=⟨underlying191,by kernel_rfl,by kernel_rfl,cellsSpot⟩
abbrev spotKey(a b:Int):Lit:=.string (keyBytes [.int .i64 a,.int .i64 b])
abbrev wfI(a:Int):Prop:=(Lit.int .i64 a).wf=true
theorem key_spot{a b:Int}(wa:wfI a)(wb:wfI b):keyOf prog 191 (.agg #[.int .i64 a,.int .i64 b])=some (spotKey a b):=
 keyOf_pair arrSpot underlying3 ⟨_,rfl⟩ wa wb
theorem undTab:prog.underlying 138=some (.map 191 194):=underlying138
theorem spot_inj{x y a b:Int}(wx:wfI x)(wy:wfI y)(wa:wfI a)(wb:wfI b)(h:spotKey x y=spotKey a b):x=a/\y=b:=by
 have h1:=key_spot wx wy;rw[h] at h1;have h2:=lawSpot.inj h1 (key_spot wa wb);simpa using h2
def heldR(v:Value):Option (DataW Value×List MemPlace):=some (.held v,[])
def zPart:Value:=.agg #[.nilFunc,.nilFunc]
theorem zeroPart(w:World):(zeroValue 194).run prog w=.ok zPart w:=by kernel_rfl
def Tab(w:World)(M:Nat)(f:Int->Int->Option Value):Prop:=
 ∃(n:Nat)(D:DataW Value),n<=100/\w.ownsMap prog 191 heldR M n D/\
  ∀p t,wfI p->wfI t->Maps.has D (spotKey p t)=(f p t).isSome/\∀v,f p t=some v->∀z,D.atKey (spotKey p t) z=.held v
theorem Tab.lt{w:World}{M:Nat}{f:Int->Int->Option Value}(h:Tab w M f):M<w.heap.size:=by
 obtain⟨n,D,_,h2,_⟩:=h;exact h2.lt
theorem Tab.isMap{w:World}{M:Nat}{f:Int->Int->Option Value}(h:Tab w M f):∃es c,w.heap[M]?=some (.map es c):=by
 obtain⟨n,D,_,⟨es,c,hb,_⟩,_⟩:=h;exact⟨es,c,hb⟩
theorem Tab.of_block{w w':World}{M:Nat}{f:Int->Int->Option Value}(h:Tab w M f)(e:w'.heap[M]?=w.heap[M]?):Tab w' M f:=by
 obtain⟨n,D,h1,⟨es,c,hb,r⟩,h3⟩:=h;exact⟨n,D,h1,⟨es,c,e.trans hb,r⟩,h3⟩
theorem Tab.look{w:World}{M:Nat}{f:Int->Int->Option Value}(h:Tab w M f){p t:Int}(wp:wfI p)(wt:wfI t){v:Value}(hv:f p t=some v) :
  (Instr.lookup 138 (.map (some M)) (.agg #[.int .i64 p,.int .i64 t]) false).run prog w=.ok v w:=by
 obtain⟨n,D,h1,h2,h3⟩:=h;obtain⟨v',ps,hr,hv'⟩:=h2.lookup lawSpot undTab (zeroPart w) (zd:=.held zPart) (zp:=[]) rfl (key_spot wp wt);rw[((h3 p t wp wt).2 v hv) _] at hv';unfold heldR at hv';simp only[Option.some.injEq,Prod.mk.injEq,DataW.held.injEq] at hv';rw[<-hv'.1];exact hr
def fput(f:Int->Int->Option Value)(p t:Int)(v:Value):Int->Int->Option Value:=fun a b=>if a=p/\b=t then some v else f a b
def TabN(w:World)(M n:Nat)(f:Int->Int->Option Value):Prop:=
 ∃(D:DataW Value),w.ownsMap prog 191 heldR M n D/\
  ∀p t,wfI p->wfI t->Maps.has D (spotKey p t)=(f p t).isSome/\∀v,f p t=some v->∀z,D.atKey (spotKey p t) z=.held v
theorem TabN.tab{w:World}{M n:Nat}{f:Int->Int->Option Value}(h:TabN w M n f)(hn:n<=100):Tab w M f:=by
 obtain⟨D,h1,h2⟩:=h;exact⟨n,D,hn,h1,h2⟩
theorem TabN.made(w:World):TabN (w.alloc (.map #[] 0)) w.heap.size 0 (fun _ _=>none):=
 ⟨.map [],World.ownsMap_made w _ _ _,fun p t _ _=>⟨rfl,fun v hv=>by cases hv⟩⟩
theorem TabN.kept{w w':World}{M n:Nat}{f:Int->Int->Option Value}(h:TabN w M n f)(e:w'.heap[M]?=w.heap[M]?):TabN w' M n f:=by
 obtain⟨D,⟨es,c,hb,r⟩,h2⟩:=h;exact⟨D,⟨es,c,e.trans hb,r⟩,h2⟩
theorem TabN.lt{w:World}{M n:Nat}{f:Int->Int->Option Value}(h:TabN w M n f):M<w.heap.size:=by
 obtain⟨D,h2,_⟩:=h;exact h2.lt
theorem TabN.congr{w:World}{M n:Nat}{f g:Int->Int->Option Value}(h:TabN w M n f)(e:∀p t,f p t=g p t):TabN w M n g:=by
 have:f=g:=funext fun p=>funext fun t=>e p t;rw[<-this];exact h
theorem TabN.store{w:World}{M n:Nat}{f:Int->Int->Option Value}(h:TabN w M n f)(hn:n<=100){p t:Int}(wp:wfI p)(wt:wfI t)(v:Value) :
  ∃w',(Instr.mapUpdate 138 (.map (some M)) (.agg #[.int .i64 p,.int .i64 t]) v).run prog w=.ok () w'/\TabN w' M (n+1) (fput f p t v)/\w.grownBy w' (some M):=by
 obtain⟨D,h1,h2⟩:=h;obtain⟨w',hr,ho,hm⟩:=h1.store lawSpot undTab (by unfold maxLen;omega) (key_spot wp wt) (val:=v) (d:=.held v) (ps:=[]) rfl;refine⟨w',hr,⟨_,ho,fun a b wa wb=>?_⟩,hm.grown⟩;have hk:=lawSpot.key (key_spot wp wt);by_cases e:a=p/\b=t
 ·obtain⟨rfl,rfl⟩:=e;refine⟨by rw[Maps.has_put_same h1.isMap hk];simp[fput],fun u hu z=>?_⟩;rw[Maps.atKey_put_same h1.isMap hk];simp[fput] at hu;rw[hu]
 ·have hne:spotKey a b≠spotKey p t:=fun he=>e (spot_inj wa wb wp wt he);rw[Maps.has_put_other hne];have:fput f p t v a b=f a b:=by unfold fput;rw[if_neg e]
  rw[this];refine⟨(h2 a b wa wb).1,fun u hu z=>?_⟩;rw[Maps.atKey_put_other hne];exact(h2 a b wa wb).2 u hu z
abbrev ptr(b:Nat):Value:=.pointer (some ⟨b,0,none⟩)
def pShared(A:QAd):Value:=.agg #[.func (.func 87) #[ptr A.HB] #[],.func (.func 88) #[ptr A.HB] #[]]
def pSlot(A:QAd)(t:Nat):Value:=.agg #[.func (.func 89) #[] #[ptr A.QC,ptr (A.TC t)],.func (.func 91) #[ptr A.SB] #[]]
def pOwn(A:QAd)(t:Nat):Value:=.agg #[.func (.func 92) #[ptr (A.L t)] #[],.func (.func 93) #[ptr (A.L t)] #[]]
def tabF(A:QAd)(T:Nat)(p t:Int):Option Value:=
 if p=3/\t=0 then some (pShared A)
 else if p=1/\0<=t/\t<T then some (pSlot A t.toNat)
 else if p=2/\0<=t/\t<T then some (pOwn A t.toNat)
 else none
theorem tabF_shared(A:QAd)(T:Nat):tabF A T 3 0=some (pShared A):=by simp[tabF]
theorem tabF_slot(A:QAd){T i:Nat}(h:i<T):tabF A T 1 (i:Int)=some (pSlot A i):=by
 unfold tabF;rw[if_neg (by omega),if_pos (by omega)];simp
theorem tabF_own(A:QAd){T i:Nat}(h:i<T):tabF A T 2 (i:Int)=some (pOwn A i):=by
 unfold tabF;rw[if_neg (by omega),if_neg (by omega),if_pos (by omega)];simp
def Fr(X:Nat->Prop)(w w':World):Prop:=w.heap.size<=w'.heap.size/\∀k,k<w.heap.size->¬X k->w'.heap[k]?=w.heap[k]?
theorem Fr.below{X:Nat->Prop}{w w':World}(h:Below w.heap.size w w'):Fr X w w':=⟨h.size,fun k hk _=>h.block k hk⟩
theorem Fr.grown{R:Nat}{w w':World}(h:w.grownBy w' (some R)):Fr (fun k=>k=R) w w':=⟨h.size,fun k hk hx=>h.block k hk (fun e=>by injection e with e;exact hx e)⟩
theorem ne_type{w:World}{k k':Nat}{cs cs':Array Value}{T T':TypeId}{fr fr':Nat×Nat}(h:w.heap[k]?=some (.cells cs T fr))(h':w.heap[k']?=some (.cells cs' T' fr'))(hT:T≠T'):k≠k':=by
 rintro rfl;rw[h] at h';simp only[Option.some.injEq,Obj.cells.injEq] at h';exact hT h'.2.1
theorem own_fr{X:Nat->Prop}{w w':World}{base n k:Nat}{T:TypeId}{v:Value}{vs:List Value}(h:w.ownsRow base T k v n vs)(f:Fr X w w')(hx:∀g cs,w.heap[g]?=some (.cells cs T (0,0))->v.ownBlock=some g->¬X g):w'.ownsRow base T k v n vs:=by
 obtain⟨h1,h2⟩:=h;refine⟨h1,?_⟩;rcases h2 with h2|⟨g,cap,cur,r1,r2,r3,r4⟩
 ·exact .inl h2
 ·exact .inr ⟨g,cap,cur,r1,r2,(f.2 g (lt_of_block r3) (hx g cur r3 (by rw[r1];rfl))).trans r3,r4⟩
theorem RowB.fr{X:Nat->Prop}{w w':World}{base n cap:Nat}{a:Option Addr}{bs:List Bk}(h:RowB 223 w base (.slice a n cap) bs)(f:Fr X w w')(hr:∀k,a=some ⟨k,0,none⟩->¬X k)(he:∀k cs,w.heap[k]?=some (.cells cs 35 (0,0))->¬X k):RowB 223 w' base (.slice a n cap) bs:=by
 refine⟨own_fr h.row f fun g cs hg hv=>?_,fun b hb=>own_fr (h.own b hb) f fun g cs hg _=>he g cs hg⟩;rcases h.row.2 with⟨e,_⟩|⟨g',c',cur,e,_⟩
 ·rw[e] at hv;simp[Value.ownBlock] at hv
 ·have e':=e;injection e' with e1 _ _
  rw[e] at hv;simp only[Value.ownBlock,Option.some.injEq] at hv;subst hv;exact hr _ e1
theorem LsmA.fr{X:Nat->Prop}{w w':World}{base b:Nat}{ls:List (List Ent)}{a:Option Addr}(h:LsmA w base b ls a)(f:Fr X w w')(hb:¬X b)(hr:∀k,a=some ⟨k,0,none⟩->¬X k)(he:∀k cs,w.heap[k]?=some (.cells cs 35 (0,0))->¬X k):LsmA w' base b ls a:=by
 obtain⟨cap,bs,h1,h2,h3,h4⟩:=h;exact⟨cap,bs,h1,h2,(f.2 b (lt_of_block h3) hb).trans h3,h4.fr f hr he⟩
theorem ShrA.fr{X:Nat->Prop}{w w':World}{b v:Nat}{ls:List (List Ent)}{a:Option Addr}(h:ShrA w b v ls a)(f:Fr X w w')(hb:¬X b)(hr:∀k,a=some ⟨k,0,none⟩->¬X k)(he:∀k cs,w.heap[k]?=some (.cells cs 35 (0,0))->¬X k):ShrA w' b v ls a:=by
 obtain⟨n,cap,h1,bs,h2,h3,h4⟩:=h;exact⟨n,cap,(f.2 b (lt_of_block h1) hb).trans h1,bs,h2,h3,h4.fr f hr he⟩
theorem LsmA.head{w:World}{base b:Nat}{ls:List (List Ent)}{a:Option Addr}(h:LsmA w base b ls a):∃cs,w.heap[b]?=some (.cells cs 190 (0,0)):=by
 obtain⟨cap,bs,h1,h2,h3,h4⟩:=h;exact⟨_,h3⟩
theorem RowB.addr{w:World}{base n cap:Nat}{a:Option Addr}{bs:List Bk}(h:RowB 223 w base (.slice a n cap) bs){x:Addr}(hx:a=some x):∃g cs,x=⟨g,0,none⟩/\w.heap[g]?=some (.cells cs 223 (0,0)):=by
 rcases h.row.2 with⟨e,_⟩|⟨g,c',cur,e,_,hg,_⟩
 ·injection e with e1;rw[hx] at e1;cases e1
 ·injection e with e1;rw[hx] at e1;injection e1 with e1;exact⟨g,cur,e1,hg⟩
theorem LsmA.row{w:World}{base b:Nat}{ls:List (List Ent)}{a:Option Addr}(h:LsmA w base b ls a){x:Addr}(hx:a=some x):∃g cs,x=⟨g,0,none⟩/\w.heap[g]?=some (.cells cs 223 (0,0)):=by
 obtain⟨cap,bs,h1,h2,h3,h4⟩:=h;exact h4.addr hx
theorem ShrA.row{w:World}{b v:Nat}{ls:List (List Ent)}{a:Option Addr}(h:ShrA w b v ls a){x:Addr}(hx:a=some x):∃g cs,x=⟨g,0,none⟩/\w.heap[g]?=some (.cells cs 223 (0,0)):=by
 obtain⟨n,cap,h1,bs,h2,h3,h4⟩:=h;exact h4.addr hx
theorem ShrA.head{w:World}{b v:Nat}{ls:List (List Ent)}{a:Option Addr}(h:ShrA w b v ls a):∃cs,w.heap[b]?=some (.cells cs 188 (0,0)):=by
 obtain⟨n,cap,h1,h2⟩:=h;exact⟨_,h1⟩
structure QFix(w:World)(A:QAd)(T K:Nat):Prop where
 head:w.heap[A.B]?=some (.cells #[.int .i64 K,ptr A.SB,.slice (some ⟨A.OR,0,none⟩) T A.oc,ptr A.HB,.map (some A.M)] 140 (0,0))
 row:∃cs,w.heap[A.OR]?=some (.cells cs 141 (0,0))/\∀i,i<T->cs[i]?=some (ptr (A.L i))
 tab:Tab w A.M (tabF A T)
 qc:w.heap[A.QC]?=some (.cells #[ptr A.B] 63 (0,0))
 tc:∀i,i<T->w.heap[A.TC i]?=some (.cells #[.int .i64 i] 3 (0,0))
def May(w:World)(X:Nat->Prop):Prop:=∀k,X k->∃cs U fr,w.heap[k]?=some (.cells cs U fr)/\(U=234\/U=190\/U=223\/U=188)
theorem May.not{w:World}{X:Nat->Prop}(h:May w X){k:Nat}{cs:Array Value}{U:TypeId}{fr:Nat×Nat}(hk:w.heap[k]?=some (.cells cs U fr))(hU:U≠234/\U≠190/\U≠223/\U≠188):¬X k:=fun hx=>by
 obtain⟨cs',U',fr',h1,h2⟩:=h k hx;rw[hk] at h1;simp only[Option.some.injEq,Obj.cells.injEq] at h1;obtain⟨_,rfl,_⟩:=h1;rcases h2 with h2|h2|h2|h2
 ·exact hU.1 h2
 ·exact hU.2.1 h2
 ·exact hU.2.2.1 h2
 ·exact hU.2.2.2 h2
theorem QFix.fr{X:Nat->Prop}{w w':World}{A:QAd}{T K:Nat}(h:QFix w A T K)(f:Fr X w w')(m:May w X):QFix w' A T K:=by
 obtain⟨cs,r1,r2⟩:=h.row;refine⟨(f.2 _ (lt_of_block h.head) (m.not h.head (by decide))).trans h.head,⟨cs,(f.2 _ (lt_of_block r1) (m.not r1 (by decide))).trans r1,r2⟩,?_,(f.2 _ (lt_of_block h.qc) (m.not h.qc (by decide))).trans h.qc,fun i hi=>(f.2 _ (lt_of_block (h.tc i hi)) (m.not (h.tc i hi) (by decide))).trans (h.tc i hi)⟩;refine h.tab.of_block (f.2 _ h.tab.lt fun hx=>?_);obtain⟨cs',U',fr',h1,_⟩:=m _ hx;obtain⟨es,c,h2⟩:=h.tab.isMap;rw[h1] at h2
 cases h2
def MQ(U:TypeId):Prop:=U=234\/U=190\/U=223\/U=188
structure Went(base:Nat)(w w':World):Prop where
 low:Below base w w'
 kept:Kept MQ w w'
 all:∀k,k<w.heap.size->(∀cs U fr,w.heap[k]?=some (.cells cs U fr)->¬MQ U)->w'.heap[k]?=w.heap[k]?
theorem Went.refl(base:Nat)(w:World):Went base w w:=⟨Below.refl _ _,Kept.refl _ _,fun _ _ _=>rfl⟩
theorem Went.trans{base:Nat}{u v w:World}(h:Went base u v)(g:Went base v w):Went base u w:=⟨h.low.trans g.low,h.kept.trans g.kept,fun k hk hn=>by
 have e:=h.all k hk hn;rw[<-e];exact g.all k (Nat.lt_of_lt_of_le hk h.kept.size) (by rw[e];exact hn)⟩
theorem Went.below{base:Nat}{w w':World}(h:Below w.heap.size w w')(hb:base<=w.heap.size):Went base w w':=⟨h.mono hb,Kept.of_below h,fun k hk _=>h.block k hk⟩
theorem Went.size{base:Nat}{w w':World}(h:Went base w w'):w.heap.size<=w'.heap.size:=h.kept.size
theorem Went.block{base:Nat}{w w':World}(h:Went base w w'){k:Nat}{cs:Array Value}{U:TypeId}{fr:Nat×Nat}(hk:w.heap[k]?=some (.cells cs U fr))(hU:¬MQ U):w'.heap[k]?=some (.cells cs U fr):=(h.kept.block k cs U fr hk hU).trans hk
theorem mq_ent:¬MQ 35:=by unfold MQ;decide
theorem mq_int:¬MQ 3:=by unfold MQ;decide
theorem Went.grown{base R:Nat}{w w':World}{cs:Array Value}{U:TypeId}{fr:Nat×Nat}(hr:w.heap[R]?=some (.cells cs U fr))(hU:MQ U)(hb:base<=R)(hg:w.grownBy w' (some R)):Went base w w':=
 ⟨below_gr hg hb (Nat.le_of_lt (Nat.lt_of_le_of_lt hb (lt_of_block hr))),⟨hg.size,fun k ds V f hk hV=>hg.block k (lt_of_block hk) (fun e=>by
  injection e with e
  subst e;rw[hr] at hk;simp only[Option.some.injEq,Obj.cells.injEq] at hk;exact hV (hk.2.1▸hU))⟩,fun k hk hn=>hg.block k hk (fun e=>by
  injection e with e
  subst e;exact hn cs U fr hr hU)⟩
structure QueA(w:World)(base:Nat)(A:QAd)(T K:Nat)(s:QSt)(ra:Nat->Option Addr)(sa:Option Addr):Prop where
 fix:QFix w A T K
 slt:Slt w A.SB A.SR T s.g
 own:∀i,i<T->LsmA w base (A.L i) (s.ls i) (ra i)
 shr:ShrA w A.HB s.v s.hs sa
 inj:∀i j,i<T->j<T->A.L i=A.L j->i=j
 rne:∀i j,i<T->j<T->i≠j->∀x,ra i=some x->ra j≠some x
 sne:∀i,i<T->∀x,ra i=some x->sa≠some x
 lowS:base<=A.SR
 lowH:base<=A.HB
def Que(w:World)(base:Nat)(A:QAd)(T K:Nat)(s:QSt):Prop:=∃ra sa,QueA w base A T K s ra sa
theorem QueA.below{w w':World}{base:Nat}{A:QAd}{T K:Nat}{s:QSt}{ra:Nat->Option Addr}{sa:Option Addr}(h:QueA w base A T K s ra sa)(hw:Below w.heap.size w w'):QueA w' base A T K s ra sa:=
 ⟨h.fix.fr (X:=fun _=>False) (Fr.below hw) (fun k hk=>hk.elim),h.slt.below hw,fun i hi=>(h.own i hi).below hw,h.shr.below hw,h.inj,h.rne,h.sne,h.lowS,h.lowH⟩
theorem Que.below{w w':World}{base:Nat}{A:QAd}{T K:Nat}{s:QSt}(h:Que w base A T K s)(hw:Below w.heap.size w w'):Que w' base A T K s:=by
 obtain⟨ra,sa,h⟩:=h;exact⟨ra,sa,h.below hw⟩
theorem Slt.rowT{w:World}{B R n:Nat}{g:Nat->Pl}(h:Slt w B R n g):∃cs,w.heap[R]?=some (.cells cs 234 (0,0)):=by
 obtain⟨cs,h1,_⟩:=h.row;exact⟨cs,h1⟩
theorem QueA.slots{w w':World}{base:Nat}{A:QAd}{T K:Nat}{s:QSt}{ra:Nat->Option Addr}{sa:Option Addr}{g':Nat->Pl}(h:QueA w base A T K s ra sa)(hs:Slt w' A.SB A.SR T g')(hg:w.grownBy w' (some A.SR)) :
  QueA w' base A T K {s with g:=g'} ra sa/\Went base w w':=by
 obtain⟨cs,hr⟩:=h.slt.rowT;refine⟨?_,Went.grown hr (.inl rfl) h.lowS hg⟩;have f:=Fr.grown hg;have ne:∀{k:Nat} {ds:Array Value} {U:TypeId},w.heap[k]?=some (.cells ds U (0,0))->U≠234->¬k=A.SR:=fun hk hU=>ne_type hk hr hU;refine⟨h.fix.fr f (fun k hk=>⟨cs,_,(0,0),by rw[hk];exact hr,.inl rfl⟩),hs,fun i hi=>?_,?_,h.inj,h.rne,h.sne,h.lowS,h.lowH⟩
 ·obtain⟨ds,hd⟩:=(h.own i hi).head
  exact(h.own i hi).fr f (ne hd (by decide)) (fun k hk=>by
   obtain⟨g,es,e,he⟩:=(h.own i hi).row hk;injection e with e1
   subst e1;exact ne he (by decide)) (fun k es he=>ne he (by decide))
 ·obtain⟨ds,hd⟩:=h.shr.head
  exact h.shr.fr f (ne hd (by decide)) (fun k hk=>by
   obtain⟨g,es,e,he⟩:=h.shr.row hk;injection e with e1
   subst e1;exact ne he (by decide)) (fun k es he=>ne he (by decide))
theorem QueA.shared{w w':World}{base:Nat}{A:QAd}{T K:Nat}{s:QSt}{ra:Nat->Option Addr}{sa sa':Option Addr}{v':Nat}{hs':List (List Ent)}(h:QueA w base A T K s ra sa)(hs:ShrA w' A.HB v' hs' sa')(hm:Moved w sa sa')(hg:w.grownBy w' (some A.HB)) :
  QueA w' base A T K {s with v:=v',hs:=hs'} ra sa'/\Went base w w':=by
 obtain⟨cs,hr⟩:=h.shr.head;refine⟨?_,Went.grown hr (.inr (.inr (.inr rfl))) h.lowH hg⟩;have f:=Fr.grown hg;have ne:∀{k:Nat} {ds:Array Value} {U:TypeId},w.heap[k]?=some (.cells ds U (0,0))->U≠188->¬k=A.HB:=fun hk hU=>ne_type hk hr hU;refine⟨h.fix.fr f (fun k hk=>⟨cs,_,(0,0),by rw[hk];exact hr,.inr (.inr (.inr rfl))⟩),h.slt.kept hg (fun e=>by injection e with e;exact ne h.slt.head (by decide) e) (fun e=>by injection e with e;obtain⟨ds,hd⟩:=h.slt.rowT;exact ne hd (by decide) e),fun i hi=>?_,hs,h.inj,h.rne,fun i hi x hx e=>?_,h.lowS,h.lowH⟩
 ·obtain⟨ds,hd⟩:=(h.own i hi).head
  exact(h.own i hi).fr f (ne hd (by decide)) (fun k hk=>by
   obtain⟨g,es,e,he⟩:=(h.own i hi).row hk;injection e with e1
   subst e1;exact ne he (by decide)) (fun k es he=>ne he (by decide))
 ·rcases hm with hm|hm
  ·exact h.sne i hi x hx (by rw[<-hm];exact e)
  ·have h1:=hm x e;obtain⟨g,es,e2,he⟩:=(h.own i hi).row hx;have:=lt_of_block he;rw[e2] at h1;exact absurd h1 (by show ¬w.heap.size<=g;omega)
def lset{α:Type}(f:Nat->α)(t:Nat)(x:α):Nat->α:=fun i=>if i=t then x else f i
theorem lset_same{α:Type}(f:Nat->α)(t:Nat)(x:α):lset f t x t=x:=if_pos rfl
theorem lset_ne{α:Type}(f:Nat->α){t i:Nat}(x:α)(h:i≠t):lset f t x i=f i:=if_neg h
theorem QueA.turn{w w':World}{base:Nat}{A:QAd}{T K t:Nat}{s:QSt}{ra:Nat->Option Addr}{sa:Option Addr}{l':List (List Ent)}(h:QueA w base A T K s ra sa)(ht:t<T)(hl:Turned w base (A.L t) (ra t) l' w') :
  ∃ra',QueA w' base A T K {s with ls:=lset s.ls t l'} ra' sa/\Went base w w':=by
 obtain⟨a',l1,l2,l3,l4,l5⟩:=hl;obtain⟨cs,hr⟩:=(h.own t ht).head
 have wt:Went base w w':=⟨l2,⟨l3.size,fun k ds V f hk hV=>l3.block k ds V f hk (fun e=>hV (by rcases e with e|e;exact .inr (.inl e);exact .inr (.inr (.inl e))))⟩,fun k hk hn=>l4 k hk (fun e=>by subst e;exact hn cs _ _ hr (.inr (.inl rfl))) (fun e=>by
  obtain⟨g,es,e2,he⟩:=(h.own t ht).row e;injection e2 with e1
  subst e1;exact hn es _ _ he (.inr (.inr (.inl rfl))))⟩
 have f:Fr (fun k=>k=A.L t\/ra t=some ⟨k,0,none⟩) w w':=⟨l3.size,fun k hk hx=>l4 k hk (fun e=>hx (.inl e)) (fun e=>hx (.inr e))⟩
 have ne:∀{k:Nat} {ds:Array Value} {U:TypeId},w.heap[k]?=some (.cells ds U (0,0))->U≠190->U≠223->¬(k=A.L t\/ra t=some ⟨k,0,none⟩):=fun {k} {ds} {U} hk h1 h2 hx=>by
  rcases hx with hx|hx
  ·exact ne_type hk hr h1 hx
  ·obtain⟨g,es,e,he⟩:=(h.own t ht).row hx;injection e with e1
   subst e1;exact ne_type hk he h2 rfl
 refine⟨lset ra t a',⟨h.fix.fr f (fun k hk=>?_),?_,fun i hi=>?_,?_,h.inj,fun i j hi hj hij x hx=>?_,fun i hi x hx=>?_,h.lowS,h.lowH⟩,wt⟩
 ·rcases hk with rfl|hk
  ·exact⟨cs,_,_,hr,.inr (.inl rfl)⟩
  ·obtain⟨g,es,e,he⟩:=(h.own t ht).row hk;injection e with e1
   subst e1;exact⟨es,_,_,he,.inr (.inr (.inl rfl))⟩
 ·obtain⟨ds,hd⟩:=h.slt.rowT;exact h.slt.of_blocks (f.2 _ h.slt.blt (ne h.slt.head (by decide) (by decide))) (f.2 _ h.slt.rlt (ne hd (by decide) (by decide)))
 ·by_cases e:i=t
  ·subst e;rw[lset_same];show LsmA w' base (A.L i) (lset s.ls i l' i) a';rw[lset_same];exact l1
  ·rw[lset_ne _ _ e];show LsmA w' base (A.L i) (lset s.ls t l' i) (ra i);rw[lset_ne _ _ e];refine(h.own i hi).fr f (fun hx=>?_) (fun k hk hx=>?_) (fun k es he=>ne he (by decide) (by decide))
   ·rcases hx with hx|hx
    ·exact e (h.inj i t hi ht hx)
    ·obtain⟨g,es,e2,he⟩:=(h.own t ht).row hx;injection e2 with e1
     subst e1;obtain⟨ds,hd⟩:=(h.own i hi).head;exact ne_type hd he (by decide) rfl
   ·rcases hx with hx|hx
    ·obtain⟨g,es,e2,he⟩:=(h.own i hi).row hk;injection e2 with e1
     subst e1;exact ne_type he hr (by decide) hx
    ·exact h.rne i t hi ht e _ hk hx
 ·obtain⟨ds,hd⟩:=h.shr.head;refine h.shr.fr f (ne hd (by decide) (by decide)) (fun k hk hx=>?_) (fun k es he=>ne he (by decide) (by decide));rcases hx with hx|hx
  ·obtain⟨g,es,e2,he⟩:=h.shr.row hk;injection e2 with e1
   subst e1;exact ne_type he hr (by decide) hx
  ·exact h.sne t ht _ hx hk
 ·have old:∀q,q<T->∀y,ra q=some y->y.block<w.heap.size:=fun q hq y hy=>by
   obtain⟨g,es,e2,he⟩:=(h.own q hq).row hy;rw[e2];exact lt_of_block he
  by_cases e1:i=t
  ·subst e1;rw[lset_same] at hx;rw[lset_ne _ _ (fun e=>hij e.symm)];intro hy;rcases l5 with l5|l5
   ·exact h.rne i j hi hj hij x (by rw[<-l5];exact hx) hy
   ·have:=l5 x hx;have:=old j hj x hy;omega
  ·rw[lset_ne _ _ e1] at hx;by_cases e2:j=t
   ·subst e2;rw[lset_same];intro hy;rcases l5 with l5|l5
    ·exact h.rne i j hi hj hij x hx (by rw[<-l5];exact hy)
    ·have:=l5 x hy;have:=old i hi x hx;omega
   ·rw[lset_ne _ _ e2];exact h.rne i j hi hj hij x hx
 ·by_cases e1:i=t
  ·subst e1;rw[lset_same] at hx;rcases l5 with l5|l5
   ·exact h.sne i hi x (by rw[<-l5];exact hx)
   ·intro hy;have h1:=l5 x hx;obtain⟨g,es,e2,he⟩:=h.shr.row hy;have h2:=lt_of_block he;rw[e2] at h1;exact absurd h1 (by show ¬w.heap.size<=g;omega)
  ·rw[lset_ne _ _ e1] at hx;exact h.sne i hi x hx
theorem QFix.cells{w:World}{A:QAd}{T K:Nat}(h:QFix w A T K):w.cell? ⟨A.B,0,none⟩=some (.int .i64 K)/\w.cell? ⟨A.B,1,none⟩=some (ptr A.SB)/\w.cell? ⟨A.B,2,none⟩=some (.slice (some ⟨A.OR,0,none⟩) T A.oc)/\w.cell? ⟨A.B,3,none⟩=some (ptr A.HB)/\w.cell? ⟨A.B,4,none⟩=some (.map (some A.M)):=by
 refine⟨?_,?_,?_,?_,?_⟩<;>(rw[cell_of_row _ _ _ _ _ _ h.head];rfl)
theorem QFix.own{w:World}{A:QAd}{T K:Nat}(h:QFix w A T K){i:Nat}(hi:i<T):w.cell? ⟨A.OR,i,none⟩=some (ptr (A.L i)):=by
 obtain⟨cs,h1,h2⟩:=h.row;rw[cell_of_row _ _ _ _ _ _ h1];exact h2 i hi
theorem QFix.below{w w':World}{A:QAd}{T K:Nat}(h:QFix w A T K)(hw:Below w.heap.size w w'):QFix w' A T K:=h.fr (X:=fun _=>False) (Fr.below hw) (fun k hk=>hk.elim)
theorem QFix.blt{w:World}{A:QAd}{T K:Nat}(h:QFix w A T K):A.B<w.heap.size:=lt_of_block h.head
theorem QFix.olt{w:World}{A:QAd}{T K:Nat}(h:QFix w A T K):A.OR<w.heap.size:=by
 obtain⟨cs,h1,h2⟩:=h.row;exact lt_of_block h1
end
section
open Go.RowKit Go.Lib Go.Sort
def settleQ(K:Nat)(s:QSt)(t:Nat):QSt:=
 if (s.g t).f=true then
  if K<(putL (s.ls t) (s.g t).e).flatten.length then⟨slSet s.g t ⟨(0,0),(s.g t).v+1,false⟩,lset s.ls t [],s.v+1,addS s.hs (sortE (putL (s.ls t) (s.g t).e).flatten)⟩
  else⟨slSet s.g t ⟨(0,0),(s.g t).v+1,false⟩,lset s.ls t (putL (s.ls t) (s.g t).e),s.v,s.hs⟩
 else s
def putQ(K:Nat)(s:QSt)(t:Nat)(e:Ent):QSt:={settleQ K s t with g:=slSet (settleQ K s t).g t ⟨e,((settleQ K s t).g t).v+1,true⟩}
theorem settle_f(K:Nat)(s:QSt)(t:Nat):((settleQ K s t).g t).f=false:=by
 unfold settleQ
 split
 ·split<;>(show(slSet s.g t _ t).f=false;rw[slSet_same])
 ·cases h:(s.g t).f
  ·rfl
  ·contradiction
structure QOk(K T N:Nat)(s:QSt):Prop where
 ver:∀i,i<T->(s.g i).v<=2*N
 fall:∀i,i<T->Fall (s.ls i)
 len:∀i,i<T->(s.ls i).flatten.length<=K
 sv:s.v<=N
 hlen:s.hs.length<=N
 hsum:s.hs.flatten.length<=17*N
 hsrt:∀d∈s.hs,Srt d
theorem QOk.mono{K T N N':Nat}{s:QSt}(h:QOk K T N s)(hn:N<=N'):QOk K T N' s:=
 ⟨fun i hi=>by have:=h.ver i hi;omega,h.fall,h.len,by have:=h.sv;omega,by have:=h.hlen;omega,by have:=h.hsum;omega,h.hsrt⟩
theorem putL_len(ls:List (List Ent))(e:Ent):(putL ls e).flatten.length=ls.flatten.length+1:=by rw[(putL_perm ls e).length_eq];simp
theorem settle_ok1{K T N t:Nat}{s:QSt}(h:QOk K T N s)(ht:t<T)(hK:K<=16):QOk K T (N+1) (settleQ K s t)/\∀i,i<T->((settleQ K s t).g i).v<=2*N+1:=by
 have vv:∀i,i<T->(slSet s.g t ⟨(0,0),(s.g t).v+1,false⟩ i).v<=2*N+1:=fun i hi=>by
  by_cases e:i=t
  ·subst e;rw[slSet_same];have:=h.ver i hi;show(s.g i).v+1<=_;omega
  ·rw[slSet_ne _ _ e];have:=h.ver i hi;omega
 unfold settleQ
 split
 ·rename_i hf
  split
  ·rename_i hl
   refine⟨⟨fun i hi=>by have:=vv i hi;show(slSet s.g t _ i).v<=_;omega,fun i hi=>?_,fun i hi=>?_,by have:=h.sv;show s.v+1<=N+1;omega,?_,?_,addS_srt _ h.hsrt⟩,vv⟩
   ·show Fall (lset s.ls t [] i);by_cases e:i=t
    ·subst e;rw[lset_same];exact Fall.nil
    ·rw[lset_ne _ _ e];exact h.fall i hi
   ·show(lset s.ls t [] i).flatten.length<=K;by_cases e:i=t
    ·subst e;rw[lset_same];simp
    ·rw[lset_ne _ _ e];exact h.len i hi
   ·have:=addS_count s.hs (sortE (putL (s.ls t) (s.g t).e).flatten);have:=h.hlen;show(addS s.hs _).length<=N+1;omega
   ·show(addS s.hs _).flatten.length<=17*(N+1);rw[addS_len,sortE_len,putL_len];have:=h.hsum;have:=h.len t ht;omega
  ·rename_i hl
   refine⟨⟨fun i hi=>by have:=vv i hi;show(slSet s.g t _ i).v<=_;omega,fun i hi=>?_,fun i hi=>?_,by have:=h.sv;show s.v<=N+1;omega,by have:=h.hlen;show s.hs.length<=N+1;omega,by have:=h.hsum;show s.hs.flatten.length<=_;omega,h.hsrt⟩,vv⟩
   ·show Fall (lset s.ls t _ i);by_cases e:i=t
    ·subst e;rw[lset_same];exact putL_fall (h.fall i hi) _
    ·rw[lset_ne _ _ e];exact h.fall i hi
   ·show(lset s.ls t _ i).flatten.length<=K;by_cases e:i=t
    ·subst e;rw[lset_same];omega
    ·rw[lset_ne _ _ e];exact h.len i hi
 ·exact⟨h.mono (by omega),fun i hi=>by have:=h.ver i hi;omega⟩
theorem settle_ok{K T N t:Nat}{s:QSt}(h:QOk K T N s)(ht:t<T)(hK:K<=16):QOk K T (N+1) (settleQ K s t):=(settle_ok1 h ht hK).1
theorem put_ok{K T N t:Nat}{s:QSt}(h:QOk K T N s)(ht:t<T)(hK:K<=16)(e:Ent):QOk K T (N+1) (putQ K s t e):=by
 obtain⟨h1,h2⟩:=settle_ok1 h ht hK;refine⟨fun i hi=>?_,h1.fall,h1.len,h1.sv,h1.hlen,h1.hsum,h1.hsrt⟩;show(slSet (settleQ K s t).g t ⟨e,((settleQ K s t).g t).v+1,true⟩ i).v<=_;by_cases e:i=t
 ·subst e;rw[slSet_same];have:=h2 i hi;show _+1<=_;omega
 ·rw[slSet_ne _ _ e];have:=h2 i hi;omega
theorem QOk.count{K T N:Nat}{s:QSt}(h:QOk K T N s){i:Nat}(hi:i<T):(s.ls i).length<=K:=le_trans (h.fall i hi).count (h.len i hi)
def newQ:QSt:=⟨fun _=>Pl.zero,fun _=>[],0,[]⟩
theorem newQ_ok(K T:Nat):QOk K T 0 newQ:=⟨fun _ _=>Nat.le_refl _,fun _ _=>Fall.nil,fun _ _=>Nat.zero_le _,Nat.le_refl _,Nat.le_refl _,Nat.le_refl _,fun d hd=>by simp[newQ] at hd⟩
end
section
open Go.RowKit Go.Lib Go.Sort
theorem settle_no(w:World)(base:Nat)(A:QAd)(T K:Nat)(s:QSt)(t:Nat)(h:Que w base A T K s)(ht:t<T)(hf:(s.g t).f=false) :
  Calls prog 111 #[ptr A.B,.int .i64 t] w fun r w'=>r=.returned (.bool false)/\Below w.heap.size w w':=by
 obtain⟨ra,sa,h⟩:=h;obtain⟨c0,c1,c2,c3,c4⟩:=h.fix.cells;obtain⟨k,d,v,e'⟩:∃k d v,s.g t=⟨(k,d),v,false⟩:=⟨_,_,_,by rw[<-hf]⟩;have gt:=slGet_in w A.SB A.SR T s.g t k d v false h.slt ht e';have H:Aside (QueA w base A T K s ra sa):=h;have HF:Hid _:=hf;clear h c0 c2 c3 c4 e' hf;go_enter func111,ntmps111
 go_wp2_with fail
 refine gt.mono ?_;rintro r w1 ⟨rfl,b1⟩;have h1:=H.out.below b1;obtain⟨_,d1,_,_,_⟩:=h1.fix.cells;have bl:=h1.fix.blt;obtain⟨u,hu⟩:∃u,w1.alloc (.cells #[.int .u64 k,.int .i64 d] 35)=u:=⟨_,rfl⟩;have bu:Below w1.heap.size w1 u:=by rw[<-hu];exact(Below.refl _ _).alloc (Nat.le_refl _) _
 have tk:=slTake_no u A.SB A.SR T s.g t v (h1.below bu).slt ht (.inl HF.out);have BU:Aside (Below w.heap.size w u):=b1.trans (bu.mono b1.size);have HU:Hid _:=hu;clear hu bu b1 h1 gt c1
 go_wp2_with fail
 rw[HU.out];refine tk.mono ?_;rintro r w2 ⟨rfl,b2⟩;have B2:Aside (Below w.heap.size w w2):=BU.out.trans (b2.mono BU.out.size);clear b2 tk d1 bl
 go_wp2
 go_ret;exact⟨rfl,B2.out.alloc B2.out.size _⟩
def SettleIs(w:World)(base:Nat)(A:QAd)(T K:Nat)(s':QSt)(r:Ending)(w':World):Prop:=r=.returned (.bool true)/\Que w' base A T K s'/\Went base w w'
theorem settle_yes(w:World)(base:Nat)(A:QAd)(T K N:Nat)(s:QSt)(t:Nat)(h:Que w base A T K s)(ok:QOk K T N s)(hN:N<=1000)(hK:K<=16)(ht:t<T)(hf:(s.g t).f=true)(hbase:base<=w.heap.size) :
  Calls prog 111 #[ptr A.B,.int .i64 t] w (SettleIs w base A T K (settleQ K s t)):=by
 obtain⟨ra,sa,h⟩:=h;obtain⟨c0,c1,c2,c3,c4⟩:=h.fix.cells;obtain⟨k,d,v,e'⟩:∃k d v,s.g t=⟨(k,d),v,true⟩:=⟨_,_,_,by rw[<-hf]⟩;have gt:=slGet_in w A.SB A.SR T s.g t k d v true h.slt ht e';have hv:=ok.ver t ht;rw[e'] at hv;simp only at hv
 have sq:settleQ K s t=if K<(putL (s.ls t) (k,d)).flatten.length then⟨slSet s.g t ⟨(0,0),v+1,false⟩,lset s.ls t [],s.v+1,addS s.hs (sortE (putL (s.ls t) (k,d)).flatten)⟩
  else⟨slSet s.g t ⟨(0,0),v+1,false⟩,lset s.ls t (putL (s.ls t) (k,d)),s.v,s.hs⟩:=by
  unfold settleQ;rw[if_pos hf,e']
 have SQ:Hid _:=sq;have H:Aside (QueA w base A T K s ra sa):=h;have HE:Hid _:=e';have OK:Aside (QOk K T N s):=ok;have t8:=h.slt.most;have tT:(t:Int)<(T:Int):=by omega
 clear h c0 c2 c3 c4 e' hf sq ok;go_enter func111,ntmps111
 go_wp2_with fail
 refine gt.mono ?_;rintro r w1 ⟨rfl,b1⟩;have h1:=H.out.below b1;obtain⟨_,d1,_,_,_⟩:=h1.fix.cells;have bl:=h1.fix.blt;obtain⟨u,hu⟩:∃u,w1.alloc (.cells #[.int .u64 k,.int .i64 d] 35)=u:=⟨_,rfl⟩;have bu:Below w1.heap.size w1 u:=by rw[<-hu];exact(Below.refl _ _).alloc (Nat.le_refl _) _
 have tk:=slTake_ok u A.SB A.SR T s.g t k d v (h1.below bu).slt ht HE.out (by omega);have BU:Aside (Below w.heap.size w u):=b1.trans (bu.mono b1.size);have QU:Aside (QueA u base A T K s ra sa):=h1.below bu;have HU:Hid _:=hu;clear hu bu b1 h1 gt c1
 go_wp2_with fail
 rw[HU.out];refine tk.mono ?_;rintro r w2 ⟨rfl,s2,g2⟩;obtain⟨q2,b2⟩:=QU.out.slots s2 g2;have B2:Aside (Went base w w2):=(Went.below BU.out hbase).trans b2;obtain⟨_,_,x2,_,_⟩:=q2.fix.cells;have y2:=q2.fix.own ht;have bl2:=q2.fix.blt;have ol2:=q2.fix.olt;obtain⟨S2,hS2⟩:∃S,w2.heap.size=S:=⟨_,rfl⟩;obtain⟨u2,hu2⟩:∃u,w2.alloc (.cells #[.int .u64 k,.int .i64 d] 35)=u:=⟨_,rfl⟩;have bu2:Below w2.heap.size w2 u2:=by rw[<-hu2];exact(Below.refl _ _).alloc (Nat.le_refl _) _
 have BU2:Aside (Went base w u2):=B2.out.trans (Went.below bu2 (le_trans hbase B2.out.size));have QU2:Aside (QueA u2 base A T K {s with g:=slSet s.g t ⟨(0,0),v+1,false⟩} ra sa):=q2.below bu2;have lp:=lput_any (A.L t) base (ra t) (s.ls t) (k,d) u2 (QU2.out.own t ht) (by have:=OK.out.count ht;omega) (by have:=OK.out.len t ht;omega) (le_trans hbase BU2.out.size);have HU2:Hid _:=hu2;clear hu2 bu2 q2 b2 s2 g2 tk d1 bl hS2 B2
 go_wp2_with fail
 rw[HU2.out];refine lp.mono ?_;rintro r w3 ⟨rfl,t3⟩;obtain⟨ra3,q3,b3⟩:=QU2.out.turn ht t3;have B3:Aside (Went base w w3):=BU2.out.trans b3;have Q3:Aside (QueA w3 base A T K {g:=slSet s.g t ⟨(0,0),v+1,false⟩,ls:=lset s.ls t (putL (s.ls t) (k,d)),v:=s.v,hs:=s.hs} ra3 sa):=q3;obtain⟨x3,_,_,_,_⟩:=q3.fix.cells;have bl3:=q3.fix.blt;have nl:=putL_len (s.ls t) (k,d);have ll:=OK.out.len t ht;obtain⟨n,hn⟩:∃n,(putL (s.ls t) (k,d)).flatten.length=n:=⟨_,rfl⟩;rw[hn] at nl;have HN:Hid _:=hn;have n17:n<=17:=by omega
 have n1:0<n:=by omega
 clear nl ll
 have ln:∀W,Below w3.heap.size w3 W->Calls prog 137 #[ptr (A.L t)] W fun r w'=>r=.returned (.int .i64 n)/\Below W.heap.size W w':=fun W hW=>by
  have l:=((Q3.out.below hW).own t ht).t;have e:(lset s.ls t (putL (s.ls t) (k,d))) t=putL (s.ls t) (k,d):=lset_same _ _ _;have:=llen_any (A.L t) base (putL (s.ls t) (k,d)) W (by rw[<-e];exact l) (by rw[HN.out];omega);rw[HN.out] at this;exact this
 have LN:Aside (∀W,Below w3.heap.size w3 W->Calls prog 137 #[ptr (A.L t)] W fun r w'=>r=.returned (.int .i64 n)/\Below W.heap.size W w'):=ln;have KC:Aside (∀W,Below w3.heap.size w3 W->W.cell? ⟨A.B,0,none⟩=some (.int .i64 K)):=fun W hW=>((Q3.out.fix).below hW).cells.1;have hb0:Below w3.heap.size w3 w3:=Below.refl _ _;have hb1:Below w3.heap.size w3 w3.drew:=hb0.drew;have mx:=mixed;clear t3 q3 b3 lp x2 y2 bl2 ol2 hn ln
 go_wp2_with fail
 go_region_held3 (fun W=>W.cell? ⟨A.B,0,none⟩=some (.int .i64 K)) (first|with_reducible exact KC.out _ hb0|with_reducible exact KC.out _ hb1|with_reducible exact KC.out _ hb2)
  ((go_at_call 137;(with_reducible refine Calls.mono (LN.out _ hb1) ?_);rintro r w4 ⟨rfl,d4⟩;have hb2:Below w3.heap.size w3 w4:=hb1.trans (d4.mono hb1.size)))
 have B4:Aside (Went base w w4):=B3.out.trans (Went.below hb2 (le_trans hbase B3.out.size));have Q4:Aside (QueA w4 base A T K {g:=slSet s.g t ⟨(0,0),v+1,false⟩,ls:=lset s.ls t (putL (s.ls t) (k,d)),v:=s.v,hs:=s.hs} ra3 sa):=Q3.out.below hb2;clear hb0 hb1 hb2 d4 KC LN x3 bl3 Q3 B3;by_cases hs:K<n
 ·have hs':(K:Int)<(n:Int):=by omega
  have sq:=SQ.out;rw[HN.out,if_pos hs] at sq;have SQ2:Hid _:=sq;have l4:=Q4.out.own t ht;have e4:(lset s.ls t (putL (s.ls t) (k,d))) t=putL (s.ls t) (k,d):=lset_same _ _ _
  have ld:∀W,Below w4.heap.size w4 W->Calls prog 169 #[ptr (A.L t)] W (Drained W base (A.L t) (ra3 t) (sortE (putL (s.ls t) (k,d)).flatten)):=fun W hW=>
   ldrain_any (A.L t) base (ra3 t) (putL (s.ls t) (k,d)) W (by rw[<-e4];exact(Q4.out.below hW).own t ht) (by rw[HN.out];omega) (le_trans hbase (le_trans B4.out.size hW.size))
  have LD:Aside (∀W,Below w4.heap.size w4 W->Calls prog 169 #[ptr (A.L t)] W (Drained W base (A.L t) (ra3 t) (sortE (putL (s.ls t) (k,d)).flatten))):=ld;have hb0:Below w4.heap.size w4 w4:=Below.refl _ _;have hb1:Below w4.heap.size w4 w4.drew:=hb0.drew;have KC:Aside (∀(W:World)(st:QSt)(r1:Nat->Option Addr)(r2:Option Addr),QueA W base A T K st r1 r2->W.cell? ⟨A.B,3,none⟩=some (ptr A.HB)):=fun W st r1 r2 hq=>hq.fix.cells.2.2.2.1;have q40:=Q4.out;have q41:=Q4.out.below hb1;have x4:=q40.fix.cells.2.2.2.1;have bl4:=q40.fix.blt;have sl:(sortE (putL (s.ls t) (k,d)).flatten).length=n:=by rw[sortE_len];exact HN.out
  have SL:Hid _:=sl
  have AD:Aside (∀(W:World)(r1:Nat->Option Addr)(g':Nat->Pl)(l':Nat->List (List Ent))(a1:Option Addr)(c1:Nat),QueA W base A T K ⟨g',l',s.v,s.hs⟩ r1 sa->OwnE W base (.slice a1 n c1) (sortE (putL (s.ls t) (k,d)).flatten)->Calls prog 168 #[ptr A.HB,.slice a1 n c1] W fun r w'=>r=.returned (.tuple #[])/\ShrN W.heap.size w' A.HB (s.v+1) (addS s.hs (sortE (putL (s.ls t) (k,d)).flatten))/\W.grownBy w' (some A.HB)):=fun W r1 g' l' a1 c1 hq ho=>by
   have il:IsL W a1 c1 (sortE (putL (s.ls t) (k,d)).flatten):=by rw[<-SL.out] at ho;exact ho.is
   exact sadd_some A.HB s.v s.hs a1 n c1 _ W hq.shr.s il SL.out (by omega) (by have:=OK.out.hlen;omega) (by have:=OK.out.hsum;omega) OK.out.hsrt (by have:=OK.out.sv;omega)
  clear l4 e4 ld sl sq
  go_wp2_with fail
  go_region_held3 (fun W=>W.cell? ⟨A.B,3,none⟩=some (ptr A.HB)) (first|with_reducible exact KC.out _ _ _ _ q40|with_reducible exact KC.out _ _ _ _ q41|with_reducible exact KC.out _ _ _ _ q5|with_reducible exact KC.out _ _ _ _ q6)
   ((first
    | (go_at_call 168;(with_reducible refine Calls.mono (AD.out w5 _ _ _ a1 c1 q5 o5) ?_);rintro r w6 ⟨rfl,⟨sa6,s6,m6⟩,g6⟩;obtain⟨q6,b6⟩:=q5.shared s6 (.inr m6) g6)
    | (go_at_call 169;(with_reducible refine Calls.mono (LD.out _ hb1) ?_);rintro r w5 ⟨a1,c1,rfl,o5,t5⟩;rw[SL.out] at o5⊢;obtain⟨ra5,q5,b5⟩:=q41.turn ht t5)))
  have e6:lset (lset s.ls t (putL (s.ls t) (k,d))) t ([]:List (List Ent))=lset s.ls t []:=by
   funext i
   by_cases e:i=t
   ·subst e;rw[lset_same,lset_same]
   ·rw[lset_ne _ _ e,lset_ne _ _ e,lset_ne _ _ e]
  have FIN:Aside (SettleIs w base A T K (settleQ K s t) (.returned (.bool true)) w6):=by
   refine⟨rfl,?_,B4.out.trans ((Went.below hb1 (le_trans hbase B4.out.size)).trans (b5.trans b6))⟩;rw[SQ2.out,<-e6];exact⟨_,_,q6⟩
  clear q6 g6 s6 m6 b6 q5 b5 t5 o5 q40 q41 x4 e6 hb0 hb1
  go_wp2
  go_ret;exact FIN.out
 ·have hs':¬(K:Int)<(n:Int):=by omega
  have sq:=SQ.out;rw[HN.out,if_neg hs] at sq;have FIN:Aside (SettleIs w base A T K (settleQ K s t) (.returned (.bool true)) w4):=⟨rfl,by rw[sq];exact⟨_,_,Q4.out⟩,B4.out⟩;clear sq
  go_wp2
  go_ret;exact FIN.out
theorem settle_in(w:World)(base:Nat)(A:QAd)(T K N:Nat)(s:QSt)(t:Nat)(f:Bool)(h:Que w base A T K s)(ok:QOk K T N s)(hN:N<=1000)(hK:K<=16)(ht:t<T)(hf:(s.g t).f=f)(hbase:base<=w.heap.size) :
  Calls prog 111 #[ptr A.B,.int .i64 t] w fun r w'=>r=.returned (.bool f)/\Que w' base A T K (settleQ K s t)/\Went base w w':=by
 cases f with
 | true=>exact settle_yes w base A T K N s t h ok hN hK ht hf hbase
 | false=>
  refine(settle_no w base A T K s t h ht hf).mono fun r w' ⟨h1,h2⟩=>⟨h1,?_,Went.below h2 hbase⟩;have:settleQ K s t=s:=by unfold settleQ;rw[if_neg (by rw[hf];simp)]
  rw[this];exact h.below h2
theorem ent0{w:World}{B:Nat}{x y:Value}{U:TypeId}(h:w.heap[B]?=some (.cells #[x,y] U (0,0))):w.cell? ⟨B,0,none⟩=some x/\w.cell? ⟨B,1,none⟩=some y:=⟨by rw[cell_of_row _ _ _ _ _ _ h];rfl,by rw[cell_of_row _ _ _ _ _ _ h];rfl⟩
theorem put_in(w:World)(base:Nat)(A:QAd)(T K N:Nat)(s:QSt)(t:Nat)(k d:Int)(h:Que w base A T K s)(ok:QOk K T N s)(hN:N<=1000)(hK:K<=16)(ht:t<T)(hbase:base<=w.heap.size) :
  Calls prog 147 #[ptr A.B,.int .i64 t,.agg #[.int .u64 k,.int .i64 d]] w fun r w'=>r=.returned (.int .i64 0)/\Que w' base A T K (putQ K s t (k,d))/\Went base w w':=by
 obtain⟨S,hS⟩:∃S,w.heap.size=S:=⟨_,rfl⟩;obtain⟨u,hu⟩:∃u,w.alloc (.cells #[.int .u64 k,.int .i64 d] 35)=u:=⟨_,rfl⟩;have bu:Below w.heap.size w u:=by rw[<-hu];exact(Below.refl _ _).alloc (Nat.le_refl _) _
 have us:u.heap[S]?=some (.cells #[.int .u64 k,.int .i64 d] 35 (0,0)):=by rw[<-hu,<-hS];exact heap_alloc_new w _
 have st:=settle_in u base A T K N s t _ (h.below bu) ok hN hK ht rfl (le_trans hbase bu.size);obtain⟨f,hf⟩:∃f,(s.g t).f=f:=⟨_,rfl⟩;rw[hf] at st;have BU:Aside (Below w.heap.size w u):=bu;have US:Aside (u.heap[S]?=some (.cells #[.int .u64 k,.int .i64 d] 35 (0,0))):=us;have HU:Hid _:=hu;have OK:Aside (QOk K T N s):=ok;clear hu bu us h ok hf;go_enter func147,ntmps147
 go_wp2_with fail
 rw[HU.out];refine st.mono ?_;rintro r w1 ⟨rfl,⟨ra,sa,q1⟩,b1⟩;have W1:Aside (Went base w w1):=(Went.below BU.out hbase).trans b1;have s1:=b1.block US.out mq_ent;have vv:=(settle_ok1 OK.out ht hK).2 t ht;have sp:=slPut_ok w1.drew A.SB A.SR T (settleQ K s t).g t k d ((settleQ K s t).g t).v q1.slt.drew ht (settle_f K s t) rfl (by omega);have Q1:Aside (QueA w1.drew base A T K (settleQ K s t) ra sa):=q1.below (Below.refl _ _).drew;obtain⟨e0,e1⟩:=ent0 s1;have c1:=q1.fix.cells.2.1;have Sl:S<w1.heap.size:=lt_of_block s1;have bl:=q1.fix.blt;have KC:Aside (∀(W:World)(st:QSt),QueA W base A T K st ra sa->W.heap[S]?=some (.cells #[.int .u64 k,.int .i64 d] 35 (0,0))->W.cell? ⟨A.B,1,none⟩=some (ptr A.SB)/\W.cell? ⟨S,0,none⟩=some (.int .u64 k)/\W.cell? ⟨S,1,none⟩=some (.int .i64 d)):=fun W st hq hs=>⟨hq.fix.cells.2.1,(ent0 hs).1,(ent0 hs).2⟩;have q0:=q1;have q1d:QueA w1.drew base A T K (settleQ K s t) ra sa:=Q1.out;have s1d:w1.drew.heap[S]?=some (.cells #[.int .u64 k,.int .i64 d] 35 (0,0)):=s1;have mx:=mixed;clear st b1 vv q1
 go_wp2_with fail
 go_region_held3 (fun W=>W.cell? ⟨A.B,1,none⟩=some (ptr A.SB)/\W.cell? ⟨S,0,none⟩=some (.int .u64 k)/\W.cell? ⟨S,1,none⟩=some (.int .i64 d)) (first|with_reducible exact KC.out _ _ q0 s1|with_reducible exact KC.out _ _ q1d s1d|with_reducible exact KC.out _ _ q2 s2)
  ((go_at_call 196;(with_reducible refine Calls.mono sp ?_);rintro r w2 ⟨rfl,x2,g2⟩;obtain⟨q2,b2⟩:=Q1.out.slots x2 g2;have s2:=b2.block s1d mq_ent))
 have FIN:Aside (Que w2 base A T K (putQ K s t (k,d))/\Went base w w2):=⟨⟨_,_,q2⟩,(W1.out.trans (Went.below (Below.refl _ _).drew (le_trans hbase W1.out.size))).trans b2⟩;clear q2 b2 s2 x2 g2 q0 q1d s1d s1 sp
 go_wp2
 go_ret;exact⟨rfl,FIN.out⟩
end
end Go.Proofs.YtjpbngiddjkjiaaGreatDoor.Qu
