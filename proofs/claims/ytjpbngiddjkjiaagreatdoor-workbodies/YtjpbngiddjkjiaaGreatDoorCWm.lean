import Derived.WalkKit
import Derived.Deep.OwnRows
import Derived.Deep.QuietTactic
import Derived.Test.YtjpbngiddjkjiaaGreatDoorProg
import Derived.BigQuiet
import Derived.WalkSmall
import Derived.Deep.RegionHeld3
import Derived.BigRegion
open Go.Proofs.Tryz
namespace Go.Proofs.YtjpbngiddjkjiaaGreatDoor.Ca
set_option maxRecDepth 100000
set_option linter.unusedVariables false
open Go.RowKit
section
def putW(ws:Nat->Int)(i:Nat)(v:Int):Nat->Int:=fun j=>if j=i then v else ws j
@[simp] theorem putW_same(ws:Nat->Int)(i:Nat)(v:Int):putW ws i v i=v:=by simp[putW]
theorem putW_other(ws:Nat->Int)(i j:Nat)(v:Int)(h:j≠i):putW ws i v j=ws j:=by simp[putW,h]
structure Kept(a b r:Nat)(w w':World):Prop where
 os:w'.os=w.os
 tape:w'.tape=w.tape
 output:w'.output=w.output
 size:w.heap.size<=w'.heap.size
 block:∀k,k<w.heap.size->k≠a->k≠b->k≠r->w'.heap[k]?=w.heap[k]?
theorem Kept.refl(a b r:Nat)(w:World):Kept a b r w w:=⟨rfl,rfl,rfl,Nat.le_refl _,fun _ _ _ _ _=>rfl⟩
theorem Kept.trans{a b r:Nat}{u v w:World}(h:Kept a b r u v)(k:Kept a b r v w):Kept a b r u w:=
 ⟨k.os.trans h.os,k.tape.trans h.tape,k.output.trans h.output,Nat.le_trans h.size k.size,fun i hi ha hb hr=>(k.block i (by have:=h.size;omega) ha hb hr).trans (h.block i hi ha hb hr)⟩
theorem Kept.set{a b r c:Nat}{u v:World}(h:Kept a b r u v)(i:Nat)(x:Value)(hc:c=a\/c=b\/c=r):Kept a b r u (v.setCell ⟨c,i,none⟩ x):=
 h.trans ⟨rfl,rfl,rfl,by simp[World.setCell],fun k _ ha hb hr=>Below.heap_setCell _ _ _ _ (show k≠c by rcases hc with rfl|rfl|rfl<;>assumption)⟩
theorem Kept.drew{a b r:Nat}{u v:World}(h:Kept a b r u v):Kept a b r u v.drew:=⟨h.os,h.tape,h.output,h.size,h.block⟩
theorem Kept.cell{a b r:Nat}{w w':World}(h:Kept a b r w w'){p:Addr}(hp:p.block<w.heap.size)(ha:p.block≠a)(hb:p.block≠b)(hr:p.block≠r):w'.cell? p=w.cell? p:=World.cell?_of_block (w:=w) (h.block p.block hp ha hb hr)
structure WMem(t e:TypeId)(w:World)(b r n:Nat)(ws:Nat->Int):Prop where
 ne:b≠r
 head:∃s q l k:Int,w.heap[b]?=some (.cells #[.slice (some ⟨r,0,none⟩) n n,.int .u64 s,.int .u64 q,.int .i64 l,.int .i64 k] t (0,0))
 row:w.rowIs r e n (fun i=>.int .u64 (ws i))
 fits:∀i,i<n->0<=ws i/\ws i<18446744073709551616
 size:n<=4096
variable {t e:TypeId}{w w':World}{a b r n:Nat}{ws:Nat->Int}
theorem set_head{c:Array Value}{b i:Nat}{x:Value}{t:TypeId}(h:w.heap[b]?=some (.cells c t (0,0))):(w.setCell ⟨b,i,none⟩ x).heap[b]?=some (.cells (c.setIfInBounds i x) t (0,0)):=by
 simp[World.setCell,Array.getElem?_modify,h]
theorem WMem.c0(h:WMem t e w b r n ws):w.cell? ⟨b,0,none⟩=some (.slice (some ⟨r,0,none⟩) n n):=by
 obtain⟨s,q,l,k,hh⟩:=h.head;simp[World.cell?,hh]
theorem WMem.cells(h:WMem t e w b r n ws):∃s q l k:Int,w.cell? ⟨b,1,none⟩=some (.int .u64 s)/\w.cell? ⟨b,2,none⟩=some (.int .u64 q)/\w.cell? ⟨b,3,none⟩=some (.int .i64 l)/\w.cell? ⟨b,4,none⟩=some (.int .i64 k):=by
 obtain⟨s,q,l,k,hh⟩:=h.head;exact⟨s,q,l,k,by simp[World.cell?,hh],by simp[World.cell?,hh],by simp[World.cell?,hh],by simp[World.cell?,hh]⟩
theorem WMem.free(h:WMem t e w b r n ws)(i:Nat):w.frozen? ⟨b,i,none⟩=false:=by
 obtain⟨s,q,l,k,hh⟩:=h.head;simp[World.frozen?,hh]
theorem WMem.word(h:WMem t e w b r n ws){i:Nat}(hi:i<n):w.cell? ⟨r,i,none⟩=some (.int .u64 (ws i)):=h.row.cell hi
theorem WMem.free'(h:WMem t e w b r n ws)(i:Nat):w.frozen? ⟨r,i,none⟩=false:=h.row.frozen i
theorem WMem.blt(h:WMem t e w b r n ws):b<w.heap.size:=by
 obtain⟨s,q,l,k,hh⟩:=h.head;exact lt_of_block hh
theorem WMem.rlt(h:WMem t e w b r n ws):r<w.heap.size:=h.row.lt
theorem WMem.of_blocks(h:WMem t e w b r n ws)(hb:w'.heap[b]?=w.heap[b]?)(hr:w'.heap[r]?=w.heap[r]?):WMem t e w' b r n ws:=by
 obtain⟨s,q,l,k,hh⟩:=h.head;exact⟨h.ne,⟨s,q,l,k,hb.trans hh⟩,h.row.of_block hr,h.fits,h.size⟩
theorem WMem.drew(h:WMem t e w b r n ws):WMem t e w.drew b r n ws:=h.of_blocks rfl rfl
theorem WMem.u1(h:WMem t e w b r n ws)(x:Int):WMem t e (w.setCell ⟨b,1,none⟩ (.int .u64 x)) b r n ws:=by
 obtain⟨s,q,l,k,hh⟩:=h.head;exact⟨h.ne,⟨x,q,l,k,by rw[set_head hh];simp⟩,h.row.setOther (Ne.symm h.ne) _,h.fits,h.size⟩
theorem WMem.u3(h:WMem t e w b r n ws)(x:Int):WMem t e (w.setCell ⟨b,3,none⟩ (.int .i64 x)) b r n ws:=by
 obtain⟨s,q,l,k,hh⟩:=h.head;exact⟨h.ne,⟨s,q,x,k,by rw[set_head hh];simp⟩,h.row.setOther (Ne.symm h.ne) _,h.fits,h.size⟩
theorem WMem.u4(h:WMem t e w b r n ws)(x:Int):WMem t e (w.setCell ⟨b,4,none⟩ (.int .i64 x)) b r n ws:=by
 obtain⟨s,q,l,k,hh⟩:=h.head;exact⟨h.ne,⟨s,q,l,x,by rw[set_head hh];simp⟩,h.row.setOther (Ne.symm h.ne) _,h.fits,h.size⟩
theorem WMem.put(h:WMem t e w b r n ws)(i:Nat)(v:Int)(h0:0<=v)(h1:v<18446744073709551616) :
  WMem t e (w.setCell ⟨r,i,none⟩ (.int .u64 v)) b r n (putW ws i v):=by
 obtain⟨s,q,l,k,hh⟩:=h.head;refine⟨h.ne,⟨s,q,l,k,?_⟩,(h.row.set i (.int .u64 v)).congr fun j hj=>?_,fun j hj=>?_,h.size⟩
 ·rw[Below.heap_setCell _ _ _ _ h.ne];exact hh
 ·by_cases e:j=i<;>simp[putW,e]
 ·by_cases e:j=i
  ·simp[putW,e,h0,h1]
  ·simpa [putW,e] using h.fits j hj
variable {ta:TypeId}
end
abbrev WAt:=WMem 174 33
theorem infoU64:(prog.info? 33).map (fun i=>(i.zero,i.size,i.bytes))=some (some (.int .u64 0),1,8):=by kernel_rfl
theorem mnew_at(w:World)(n:Nat)(hn:n<=4096) :
  WAt ((w.alloc (.cells (madeCells #[.int .u64 0] n) 33)).alloc (.cells #[.slice (some ⟨w.heap.size,0,none⟩) n n,.int .u64 0,.int .u64 0,.int .i64 0,.int .i64 0] 174)) (w.heap.size+1) w.heap.size n (fun _=>0):=by
 refine⟨by omega,⟨0,0,0,0,?_⟩,(World.rowIs_made w (.int .u64 0) n 33).alloc _,fun i hi=>by simp,hn⟩;have:=heap_alloc_new (w.alloc (.cells (madeCells #[.int .u64 0] n) 33)) (.cells #[.slice (some ⟨w.heap.size,0,none⟩) n n,.int .u64 0,.int .u64 0,.int .i64 0,.int .i64 0] 174);simpa using this
theorem mnew_in(n:Nat)(w:World)(h1:1<=n)(h2:n<=4096) :
  Calls prog 63 #[.int .i64 n] w fun e w'=>e=.returned (.tuple #[.pointer (some ⟨w.heap.size+1,0,none⟩),.int .i64 0])/\
   WAt w' (w.heap.size+1) w.heap.size n (fun _=>0)/\Below w.heap.size w w'/\w'.heap.size=w.heap.size+2:=by
 have g1:¬(n:Int)<1:=by omega
 have g2:¬(4096:Int)<(n:Int):=by omega
 have hmk:=run_make_row' (P:=prog) 172 33 (.int .u64 0) 8 underlying172 infoU64 rfl .i64 .i64 n (by omega) (by omega);have hat:=mnew_at w n h2;go_enter func63,ntmps63
 go_wp2_with fail
 go_ret2;exact⟨rfl,hat,((Below.refl _ _).alloc (Nat.le_refl _) _).alloc (by simp) _,by simp⟩
theorem mreach_in(w:World)(b r n:Nat)(ws:Nat->Int)(i:Nat)(c:Int)(h:WAt w b r n ws)(hi:i<n) :
  Calls prog 76 #[.pointer (some ⟨b,0,none⟩),.int .i64 i,.int .i64 c] w fun e w'=>e=.returned (.bool true)/\WAt w' b r n ws/\Kept b b r w w':=by
 have c0:=h.c0;obtain⟨s,q,l,k,c1,c2,c3,c4⟩:=h.cells;have f1:=h.free 1;have f3:=h.free 3;have f4:=h.free 4;have h0:¬(i:Int)<0:=by omega
 have h1:¬(n:Int)<=(i:Int):=by omega
 have H:Hid (WAt w b r n ws):=h;obtain⟨X,hX⟩:∃X,IntKind.u64.wrap (s+1)=X:=⟨_,rfl⟩;go_enter func76,ntmps76
 go_wp2_with fail
 go_ret;exact⟨rfl,((H.out.u1 _).u3 _).u4 _,(((Kept.refl _ _ _ _).set _ _ (.inl rfl)).set _ _ (.inl rfl)).set _ _ (.inl rfl)⟩
theorem mload_in(w:World)(b r n:Nat)(ws:Nat->Int)(i:Nat)(h:WAt w b r n ws)(hi:i<n) :
  Calls prog 48 #[.pointer (some ⟨b,0,none⟩),.int .i64 i] w fun e w'=>e=.returned (.int .u64 (ws i))/\WAt w' b r n ws/\Kept b b r w w':=by
 have g1:(i:Int)<(n:Int):=by omega
 go_enter func48,ntmps48
 go_wp2_with fail
 refine(mreach_in w b r n ws i 1 h hi).mono ?_;rintro e w1 ⟨rfl,h1,hw⟩;have c0:=h1.c0;have cw:=h1.word hi
 go_wp2_with fail
 go_ret;exact⟨rfl,h1,hw⟩
theorem mstore_in(w:World)(b r n:Nat)(ws:Nat->Int)(i:Nat)(v:Int)(h:WAt w b r n ws)(hi:i<n)(v0:0<=v)(v1:v<18446744073709551616) :
  Calls prog 47 #[.pointer (some ⟨b,0,none⟩),.int .i64 i,.int .u64 v] w fun e w'=>e=.returned (.tuple #[])/\WAt w' b r n (putW ws i v)/\Kept b b r w w':=by
 have g1:(i:Int)<(n:Int):=by omega
 go_enter func47,ntmps47
 go_wp2_with fail
 refine(mreach_in w b r n ws i 2 h hi).mono ?_;rintro e w1 ⟨rfl,h1,hw⟩;have c0:=h1.c0;have cw:=h1.word hi;have fw:=h1.free' i;have h2:=h1.put i v v0 v1;have H:Hid _:=And.intro h2 hw;clear h2 hw h h1
 go_wp2_with fail
 go_end0
 exact⟨rfl,H.out.1,H.out.2.set _ _ (.inr (.inr rfl))⟩
theorem madd_in(w:World)(b r n:Nat)(ws:Nat->Int)(i:Nat)(v X Y:Int)(h:WAt w b r n ws)(hi:i<n)(hX:ws i=X)(hY:(X+v)%18446744073709551616=Y) :
  Calls prog 46 #[.pointer (some ⟨b,0,none⟩),.int .i64 i,.int .u64 v] w fun e w'=>e=.returned (.int .u64 Y)/\WAt w' b r n (putW ws i Y)/\Kept b b r w w':=by
 have g1:(i:Int)<(n:Int):=by omega
 have hW:IntKind.u64.wrap (X+v)=Y:=by rw[IntKind.wrap_u64];exact hY
 have y0:0<=Y:=by omega
 have y1:Y<18446744073709551616:=by omega
 go_enter func46,ntmps46
 go_wp2_with fail
 refine(mreach_in w b r n ws i 4 h hi).mono ?_;rintro e w1 ⟨rfl,h1,hw⟩;have c0:=h1.c0;have cw:w1.cell? ⟨r,i,none⟩=some (.int .u64 X):=by rw[<-hX];exact h1.word hi
 have fw:=h1.free' i;have h2:=h1.put i Y y0 y1;have d0:=h2.c0;have dw:(w1.setCell ⟨r,i,none⟩ (.int .u64 Y)).cell? ⟨r,i,none⟩=some (.int .u64 Y):=by simpa using h2.word hi
 have H:Hid _:=And.intro h2 hw;clear hX hY h2 hw h h1
 go_wp2_with fail
 go_ret;exact⟨rfl,H.out.1,H.out.2.set _ _ (.inr (.inr rfl))⟩
section
structure Cr(w:World)(a b r:Nat)(n o m:Nat):Prop where
 nb:a≠b
 nr:a≠r
 head:w.heap[a]?=some (.cells #[.int .i64 n,.pointer (some ⟨b,0,none⟩)] 111 (0,0))
 mem:∃ws,WAt w b r 2 ws/\ws 0=o/\ws 1=m
 om:o<=m
 mn:m<=n
 most:n<=64
variable {w w':World}{a b r n o m:Nat}
theorem Cr.c0(h:Cr w a b r n o m):w.cell? ⟨a,0,none⟩=some (.int .i64 n):=by simp[World.cell?,h.head]
theorem Cr.c1(h:Cr w a b r n o m):w.cell? ⟨a,1,none⟩=some (.pointer (some ⟨b,0,none⟩)):=by simp[World.cell?,h.head]
theorem Cr.alt(h:Cr w a b r n o m):a<w.heap.size:=lt_of_block h.head
theorem Cr.blt(h:Cr w a b r n o m):b<w.heap.size:=by obtain⟨ws,h1,_⟩:=h.mem;exact h1.blt
theorem Cr.rlt(h:Cr w a b r n o m):r<w.heap.size:=by obtain⟨ws,h1,_⟩:=h.mem;exact h1.rlt
theorem Cr.of_blocks(h:Cr w a b r n o m)(ha:w'.heap[a]?=w.heap[a]?)(hb:w'.heap[b]?=w.heap[b]?)(hr:w'.heap[r]?=w.heap[r]?):Cr w' a b r n o m:=by
 obtain⟨ws,h1,h2,h3⟩:=h.mem;exact⟨h.nb,h.nr,ha.trans h.head,⟨ws,h1.of_blocks hb hr,h2,h3⟩,h.om,h.mn,h.most⟩
theorem Cr.drew(h:Cr w a b r n o m):Cr w.drew a b r n o m:=h.of_blocks rfl rfl rfl
theorem Cr.grew(h:Cr w a b r n o m)(hw:Below w.heap.size w w'):Cr w' a b r n o m:=h.of_blocks (hw.block a h.alt) (hw.block b h.blt) (hw.block r h.rlt)
theorem Cr.turn(h:Cr w a b r n o m)(hk:Kept b b r w w'){ws:Nat->Int}{o' m':Nat}(hm:WAt w' b r 2 ws)(h0:ws 0=o')(h1:ws 1=m')(g1:o'<=m')(g2:m'<=n):Cr w' a b r n o' m':=
 ⟨h.nb,h.nr,(hk.block a h.alt h.nb h.nb h.nr).trans h.head,⟨ws,hm,h0,h1⟩,g1,g2,h.most⟩
theorem new_any(n:Nat)(w:World)(h1:1<=n)(h2:n<=64) :
  Calls prog 30 #[.int .i64 n] w fun e w'=>e=.returned (.tuple #[.pointer (some ⟨w.heap.size+2,0,none⟩),.int .i64 0])/\Cr w' (w.heap.size+2) (w.heap.size+1) w.heap.size n 0 0/\Below w.heap.size w w'/\w'.heap.size=w.heap.size+3:=by
 have g1:¬(n:Int)<1:=by omega
 have g2:¬(64:Int)<(n:Int):=by omega
 go_enter func30,ntmps30
 go_wp2_with fail
 refine(mnew_in 2 w (by omega) (by omega)).mono ?_;rintro e w1 ⟨rfl,hm,bl,sz⟩
 go_wp2_with fail
 go_ret2;refine⟨rfl,⟨by omega,by omega,?_,⟨fun _=>0,hm.of_blocks (Below.heap_alloc _ _ _ hm.blt) (Below.heap_alloc _ _ _ hm.rlt),rfl,rfl⟩,by omega,by omega,h2⟩,bl.alloc (by omega) _,by simp[sz]⟩;have:=heap_alloc_new w1 (.cells #[.int .i64 n,.pointer (some ⟨w.heap.size+1,0,none⟩)] 111);rw[sz] at this;exact this
theorem count0(w:World)(h:Cr w a b r n o m) :
  Calls prog 108 #[.pointer (some ⟨a,0,none⟩),.int .i64 0] w fun e w'=>e=.returned (.int .i64 o)/\Cr w' a b r n o m/\Kept b b r w w':=by
 obtain⟨ws,h1,h2,h3⟩:=h.mem;have c1:=h.c1;have q1:=h.om;have q2:=h.mn;have q3:=h.most;have H:Hid _:=h;clear h;go_enter func108,ntmps108
 go_wp2_with fail
 refine(mload_in w b r 2 ws 0 h1 (by omega)).mono ?_;rintro e w1 ⟨rfl,h4,hk⟩;rw[h2];have HK:Hid _:=And.intro h4 hk;clear h1 h4 hk
 go_wp2_with fail
 go_ret;exact⟨rfl,H.out.turn HK.out.2 HK.out.1 h2 h3 q1 q2,HK.out.2⟩
theorem out_any(w:World)(h:Cr w a b r n o m) :
  Calls prog 75 #[.pointer (some ⟨a,0,none⟩)] w fun e w'=>e=.returned (.int .i64 o)/\Cr w' a b r n o m/\Kept b b r w w':=by
 have H:Hid _:=h;clear h;go_enter func75,ntmps75
 go_wp2_with fail
 refine(count0 w H.out).mono ?_;rintro e w1 ⟨rfl,h4,hk⟩;have HK:Hid _:=And.intro h4 hk;clear h4 hk
 go_wp2_with fail
 go_ret;exact⟨rfl,HK.out.1,HK.out.2⟩
theorem free_any(w:World)(h:Cr w a b r n o m) :
  Calls prog 45 #[.pointer (some ⟨a,0,none⟩)] w fun e w'=>e=.returned (.int .i64 ((n:Int)-o))/\Cr w' a b r n o m/\Kept b b r w w':=by
 have c0:=h.c0;have q1:=h.om;have q2:=h.mn;have q3:=h.most;have H:Hid _:=h.drew;have wr:IntKind.i64.wrap ((n:Int)-o)=(n:Int)-o:=by rw[IntKind.wrap_i64];omega
 clear h;go_enter func45,ntmps45
 go_wp2_with fail
 go_region_held3 (fun w'=>w'.cell? ⟨a,0,none⟩=some (.int .i64 n)) (go_keep) ((go_at_call 75;refine(out_any _ H.out).mono ?_;rintro e v1 ⟨rfl,h4,hk⟩;have d0:=h4.c0))
 have HK:Hid _:=And.intro h4 hk;clear h4 hk
 go_wp2_with fail
 go_ret;exact⟨rfl,HK.out.1,((Kept.refl b b r w).drew).trans HK.out.2⟩
end
section
variable {w w':World}{a b r n o m:Nat}
theorem maxU(s:TypeId)(us:Array TypeId)(x y K:Int)(h:max x y=K)(w:World):(Builtin.max_ us s #[.int .u64 x,.int .u64 y]).run prog w=.ok (.int .u64 K) w:=by
 have e:(if x<y then y else x)=K:=by split<;>omega
 rw[<-e]
 rfl
theorem take_ok(w:World)(h:Cr w a b r n o m)(ho:o<n) :
  Calls prog 22 #[.pointer (some ⟨a,0,none⟩)] w fun e w'=>e=.returned (.bool true)/\Cr w' a b r n (o+1) (max m (o+1))/\Kept b b r w w':=by
 have H:Hid _:=h;have hz:((n:Int)-o==0)=false:=by simp;omega
 have q1:=h.om;have q2:=h.mn;have q3:=h.most;clear h;obtain⟨p,hp⟩:∃p,o+1=p:=⟨_,rfl⟩;rw[hp];go_enter func22,ntmps22
 go_wp2_with fail
 refine(free_any w H.out).mono ?_;rintro e w1 ⟨rfl,h4,hk⟩;have c1:=h4.c1;obtain⟨ws,m1,m2,m3⟩:=h4.mem;have HK:Hid _:=And.intro h4 hk;clear h4 hk
 go_wp2_with fail
 have eP:((o:Int)+1)%18446744073709551616=(p:Int):=by omega
 refine(madd_in w1 b r 2 ws 0 1 o (p:Int) m1 (by omega) m2 eP).mono ?_;rintro e w2 ⟨rfl,m4,k2⟩;obtain⟨K,hK⟩:∃K:Nat,K=max m p:=⟨_,rfl⟩;have hmax:=maxU 33 #[33,33] (p:Int) (m:Int) K (by omega);have e1:putW ws 0 (p:Int) 1=m:=by rw[putW_other _ _ _ _ (by omega),m3]
 have hd:w2.cell? ⟨a,1,none⟩=some (.pointer (some ⟨b,0,none⟩)):=(k2.cell HK.out.1.alt HK.out.1.nb HK.out.1.nb HK.out.1.nr).trans c1;have m4':WAt w2.drew b r 2 (putW ws 0 (p:Int)):=m4.drew;have alt2:Hid (a<w2.drew.heap.size):=Nat.lt_of_lt_of_le HK.out.1.alt k2.size;have nb:Hid (a≠b/\a≠r):=⟨HK.out.1.nb,HK.out.1.nr⟩;have K2:Hid _:=k2.drew;have hKh:Hid _:=hK;have kb:K<=64:=by omega
 clear m1 m4 k2 hz eP hK
 go_wp2_with fail
 go_region_held3 (fun w'=>w'.cell? ⟨a,1,none⟩=some (.pointer (some ⟨b,0,none⟩))) (go_keep) ((first|(go_at_call 47;refine(mstore_in _ b r 2 _ 1 (K:Int) m5 (by omega) (by omega) (by omega)).mono ?_;rintro e w4 ⟨rfl,m6,k4⟩;have hd4:w4.cell? ⟨a,1,none⟩=some (.pointer (some ⟨b,0,none⟩)):=(k4.cell alt3.out nb.out.1 nb.out.1 nb.out.2).trans hd3)|(go_at_call 48;refine(mload_in _ b r 2 _ 1 m4' (by omega)).mono ?_;rintro e w3 ⟨rfl,m5,k3⟩;rw[e1];have hd3:w3.cell? ⟨a,1,none⟩=some (.pointer (some ⟨b,0,none⟩)):=(k3.cell alt2.out nb.out.1 nb.out.1 nb.out.2).trans hd;have alt3:Hid (a<w3.heap.size):=Nat.lt_of_lt_of_le alt2.out k3.size)))
 have KK:Hid _:=And.intro m6 ((K2.out.trans k3).trans k4);clear m6 k3 k4 m5 m4'
 go_wp2_with fail
 go_ret;refine⟨rfl,?_,HK.out.2.trans KK.out.2⟩;have hK:=hKh.out;rw[<-hK];exact HK.out.1.turn KK.out.2 KK.out.1 (by rw[putW_other _ _ _ _ (by omega)];simp) (by simp) (by omega) (by omega)
theorem give_no(w:World)(h:Cr w a b r n 0 m) :
  Calls prog 149 #[.pointer (some ⟨a,0,none⟩)] w fun e w'=>e=.returned (.int .i64 7)/\Cr w' a b r n 0 m/\Kept b b r w w':=by
 have H:Hid _:=h;clear h;go_enter func149,ntmps149
 go_wp2_with fail
 refine(out_any w H.out).mono ?_;rintro e w1 ⟨rfl,h4,hk⟩;have HK:Hid _:=And.intro h4 hk;clear h4 hk
 go_wp2_with fail
 go_ret;exact⟨rfl,HK.out.1,HK.out.2⟩
theorem give_ok(w:World)(h:Cr w a b r n (o+1) m) :
  Calls prog 149 #[.pointer (some ⟨a,0,none⟩)] w fun e w'=>e=.returned (.int .i64 0)/\Cr w' a b r n o m/\Kept b b r w w':=by
 have H:Hid _:=h;have q1:=h.om;have q2:=h.mn;have q3:=h.most;clear h;obtain⟨p,hp⟩:∃p,o+1=p:=⟨_,rfl⟩;rw[hp] at H;have hz:((p:Int)==0)=false:=by simp;omega
 go_enter func149,ntmps149
 go_wp2_with fail
 refine(out_any w H.out).mono ?_;rintro e w1 ⟨rfl,h4,hk⟩;have c1:=h4.c1;obtain⟨ws,m1,m2,m3⟩:=h4.mem;have HK:Hid _:=And.intro h4 hk;clear h4 hk
 go_wp2_with fail
 refine(madd_in w1 b r 2 ws 0 18446744073709551615 p (o:Int) m1 (by omega) m2 (by omega)).mono ?_;rintro e w2 ⟨rfl,m4,k2⟩;have KK:Hid _:=And.intro m4 k2;clear m4 k2 m1
 go_wp2_with fail
 go_ret;exact⟨rfl,HK.out.1.turn KK.out.2 KK.out.1 (by simp) (by rw[putW_other _ _ _ _ (by omega),m3]) (by omega) q2,HK.out.2.trans KK.out.2⟩
end
end Go.Proofs.YtjpbngiddjkjiaaGreatDoor.Ca
