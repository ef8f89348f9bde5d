import Derived.Test.YthpgfmmpjoodkaaGreatDoorUJG0
import Derived.Test.YthpgfmmpjoodkaaGreatDoorUJD
import Derived.Defers
import Derived.Recover
open List(length_take take_of_length_le)
open Nat(le_refl le_trans zero_add)
namespace Go.Proofs.YthpgfmmpjoodkaaGreatDoor.Qu
set_option maxHeartbeats 8000000
set_option maxRecDepth 100000
set_option linter.unusedVariables false
open Go.RowKit Go.Lib Go.Sort
def MadeB(w:World)(d:List Ent)(r:Ending)(w':World):Prop:=∃a cap,r=.returned (.agg #[.int .i64 (lvl d.length),.slice a d.length cap])/\OwnE w' w.heap.size (.slice a d.length cap) d/\Below w.heap.size w w'
theorem OwnE.set{w:World}{base:Nat}{v:Value}{d:List Ent}(h:OwnE w base v d){p:Addr}(hp:p.block<base)(u:Value):OwnE (w.setCell p u) base v d:=by
 obtain⟨h1,h2⟩:=h;refine⟨h1,?_⟩;rcases h2 with h2|⟨g,cap,cur,r1,r2,r3,r4⟩
 ·exact .inl h2
 ·exact .inr ⟨g,cap,cur,r1,r2,(Below.heap_setCell w p u g (by omega)).trans r3,r4⟩
theorem OwnE.is{w:World}{base cap:Nat}{a:Option Addr}{n:Nat}{d:List Ent}(h:OwnE w base (.slice a n cap) d):IsL w a cap d:=by
 obtain⟨a',cap',e,l⟩:=h.isL;injection e with e1 e2 e3
 subst e1 e3;exact l
structure Box2(S:Nat)(x y:Value)(w:World):Prop where
 lt:S<w.heap.size
 c0:w.cell? ⟨S,0,none⟩=some x
 c1:w.cell? ⟨S,1,none⟩=some y
 f0:w.frozen? ⟨S,0,none⟩=false
 f1:w.frozen? ⟨S,1,none⟩=false
theorem Box2.new(w:World)(x y:Value)(T:TypeId):Box2 w.heap.size x y (w.alloc (.cells #[x,y] T)):=⟨by simp,by simp,by simp,by simp,by simp⟩
theorem Box2.below{S B:Nat}{x y:Value}{w w':World}(h:Box2 S x y w)(hw:Below B w w')(hB:S<B):Box2 S x y w':=
 ⟨by have:=hw.size;have:=h.lt;omega,(hw.cell (p:=⟨S,0,none⟩) hB).trans h.c0,(hw.cell (p:=⟨S,1,none⟩) hB).trans h.c1,(hw.frozen (p:=⟨S,0,none⟩) hB).trans h.f0,(hw.frozen (p:=⟨S,1,none⟩) hB).trans h.f1⟩
theorem Box2.set{S:Nat}{x y:Value}{w:World}(h:Box2 S x y w)(x' y':Value):Box2 S x' y' ((w.setCell ⟨S,0,none⟩ x').setCell ⟨S,1,none⟩ y'):=by
 have k1:((w.setCell ⟨S,0,none⟩ x').cell? ⟨S,1,none⟩).isSome:=by
  rw[World.cell?_setCell_other _ _ _ _ (by simp),h.c1];rfl
 refine⟨by simpa [World.setCell] using h.lt,?_,?_,?_,?_⟩
 ·rw[World.cell?_setCell_other _ _ _ _ (by simp),World.cell?_setCell_same' _ _ _ (by rw[h.c0];rfl)]
 ·rw[World.cell?_setCell_same' _ _ _ k1]
 ·rw[World.frozen?_setCell,World.frozen?_setCell];exact h.f0
 ·rw[World.frozen?_setCell,World.frozen?_setCell];exact h.f1
theorem Box2.other{S:Nat}{x y:Value}{w:World}(h:Box2 S x y w){p:Addr}(hp:p.block≠S)(u:Value):Box2 S x y (w.setCell p u):=by
 refine⟨by simpa [World.setCell] using h.lt,?_,?_,?_,?_⟩
 ·rw[World.cell?_setCell_other _ _ _ _ (by intro e;exact hp (by rw[e])),h.c0]
 ·rw[World.cell?_setCell_other _ _ _ _ (by intro e;exact hp (by rw[e])),h.c1]
 ·rw[World.frozen?_setCell];exact h.f0
 ·rw[World.frozen?_setCell];exact h.f1
theorem of_any(a:Option Addr)(cap:Nat)(l:List Ent)(w:World)(h:IsL w a cap l)(hd:l.length<=1000000) :
  Calls Tryz.prog 253 #[.slice a l.length cap] w (MadeB w (sortE l)):=by
 have lv:=level_any l.length hd;have sl:=sortE_len l;obtain⟨S,hS⟩:∃S,w.heap.size=S:=⟨_,rfl⟩;have HS:Hid _:=hS;obtain⟨u,hu⟩:∃u,w.alloc (.cells #[.int .i64 0,.slice none 0 0] 290)=u:=⟨_,rfl⟩;have HU:Hid _:=hu;have b0:Below S w u:=by rw[<-hu];exact(Below.refl _ _).alloc (by omega) _
 have su:u.heap.size=S+1:=by rw[<-hu,<-hS];simp
 have x0:Box2 S (.int .i64 0) (.slice none 0 0) u:=by rw[<-hu,<-hS];exact Box2.new _ _ _ _
 have st:=sort_made a cap l u (h.below (by rw[hS];exact b0)) hd;have B0:Aside (Below S w u):=b0;have X0:Aside (Box2 S (.int .i64 0) (.slice none 0 0) u):=x0;have SL:Hid _:=sl;have SU:Hid _:=su;obtain⟨m,hm⟩:∃m,lvl l.length=m:=⟨_,rfl⟩;have HM:Hid _:=hm;rw[hm] at lv;clear h b0 x0 sl su hm hu;go_enter Tryz.func253,Tryz.ntmps253
 go_wp2_with fail
 rw[HU.out];refine(lv _).mono ?_;rintro e w1 ⟨rfl,rfl⟩
 go_wp2_with fail
 refine st.mono ?_;rintro e w2 ⟨r,t,rfl,o2,b2⟩;rw[SL.out];have x2:=X0.out.below b2 (by rw[SU.out];omega);have q0:=x2.c0;have q1:=x2.c1;have q2:=x2.f0;have q3:=x2.f1
 have B3:Aside (Below S w ((w2.setCell ⟨S,0,none⟩ (.int .i64 m)).setCell ⟨S,1,none⟩ (.slice r l.length t))):=
  ((B0.out.trans (b2.mono (by rw[SU.out];omega))).setCell (le_refl _) _).setCell (le_refl _) _
 have X3:Aside (Box2 S (.int .i64 m) (.slice r l.length t) ((w2.setCell ⟨S,0,none⟩ (.int .i64 m)).setCell ⟨S,1,none⟩ (.slice r l.length t))):=x2.set _ _
 have O3:Aside (OwnE ((w2.setCell ⟨S,0,none⟩ (.int .i64 m)).setCell ⟨S,1,none⟩ (.slice r l.length t)) S (.slice r (sortE l).length t) (sortE l)):=
  ((o2.set (by rw[SU.out];exact Nat.lt_succ_self S) _).set (by rw[SU.out];exact Nat.lt_succ_self S) _).low (by rw[SU.out];exact Nat.le_succ S)
 clear x2 o2 b2 st X0 B0 lv
 go_wp2
 generalize World.setCell _ _ _=w3 at B3 X3 O3⊢;have y0:=X3.out.c0;have y1:=X3.out.c1;refine bodyPost_ret (v:=.agg #[.int .i64 m,.slice r l.length t]) (by simp[results,Tryz.results253,go_sem,y0,y1]) rfl ⟨r,t,?_,by rw[HS.out];exact O3.out,by rw[HS.out];exact B3.out⟩;rw[SL.out,HM.out]
theorem app_one{w:World}{base k:Nat}{r:Option Addr}{t:Nat}{d:List Ent}(x:Ent)(h:OwnE w base (.slice r k t) d)(hl:d.length=k)(hk:k<=100000)(hb:base<=w.heap.size) :
  ∃r' t' w',(Builtin.append_ #[33,33] 33 #[.slice r k t,.slice (some ⟨w.heap.size,0,none⟩) 1 1]).run Tryz.prog (w.alloc (.cells #[.int .u64 x.1,.int .i64 x.2] 36))=.ok (.slice r' (k+1) t') w'/\OwnE w' base (.slice r' (k+1) t') (d++[x])/\Below base w w':=by
 have bv:Below w.heap.size w (w.alloc (.cells #[.int .u64 x.1,.int .i64 x.2] 36)):=(Below.refl _ _).alloc (le_refl _) _;obtain⟨v',w',hr,o,g⟩:=app_run (c:=[x]) (h.below bv) (IsL.one w x) (by simp;omega) (le_trans hb bv.size) 33;obtain⟨r',t',e,_⟩:=o.isL;have e2:(d++[x]).length=k+1:=by simp[hl]
 rw[e2] at e;subst e;exact⟨r',t',w',hr,o,OwnE.grown (h.below bv) (bv.mono hb) g (le_trans hb bv.size)⟩
theorem two_lists{w:World}{a b:Option Addr}{p q:Nat}{c d:List Ent}(hc:IsL w a p c)(hd:IsL w b q d) :
  IsLL (w.alloc (.cells #[.slice a c.length p,.slice b d.length q] 33)) (some ⟨w.heap.size,0,none⟩) [c,d]:=by
 have b1:Below w.heap.size w (w.alloc (.cells #[.slice a c.length p,.slice b d.length q] 33)):=(Below.refl _ _).alloc (le_refl _) _;refine IsLL.of_block (cs:=#[.slice a c.length p,.slice b d.length q]) (T:=33) (fr:=(0,0)) (heap_alloc_new w _) (by simp) (fun i z hz=>?_);have hi:i<2:=by simpa using (List.getElem?_eq_some_iff.1 hz).1
 have:i=0\/i=1:=by omega
 rcases this with rfl|rfl
 ·simp at hz;subst hz;exact⟨a,p,rfl,hc.below b1⟩
 ·simp at hz;subst hz;exact⟨b,q,rfl,hd.below b1⟩
theorem mergeB_any(i j:Int)(a b:Option Addr)(p q:Nat)(c d:List Ent)(w:World)(hc:IsL w a p c)(hd:IsL w b q d)(hl:c.length+d.length<=1000000) :
  Calls Tryz.prog 259 #[.agg #[.int .i64 i,.slice a c.length p],.agg #[.int .i64 j,.slice b d.length q]] w (MadeB w (sortE (c++d))):=by
 obtain⟨S,hS⟩:∃S,w.heap.size=S:=⟨_,rfl⟩;have HS:Hid _:=hS;obtain⟨u,hu⟩:∃u,((w.alloc (.cells #[.int .i64 i,.slice a c.length p] 290)).alloc (.cells #[.int .i64 j,.slice b d.length q] 290)).alloc (.cells #[.int .i64 0,.slice none 0 0] 290)=u:=⟨_,rfl⟩;have HU:Hid _:=hu;have b0:Below S w u:=by rw[<-hu,<-hS];exact(((Below.refl _ _).alloc (le_refl _) _).alloc (by simp) _).alloc (by simp;omega) _
 have su:u.heap.size=S+3:=by rw[<-hu,<-hS];simp
 have x0:Box2 (S+2) (.int .i64 0) (.slice none 0 0) u:=by
  rw[<-hu,<-hS];have:=Box2.new ((w.alloc (.cells #[.int .i64 i,.slice a c.length p] 290)).alloc (.cells #[.int .i64 j,.slice b d.length q] 290)) (.int .i64 0) (.slice none 0 0) 290;simpa using this
 have k1:u.cell? ⟨S,1,none⟩=some (.slice a c.length p):=by rw[<-hu,<-hS];exact(cells3 w _ _ _ _ _ _ 1).1
 have k2:u.cell? ⟨S+1,1,none⟩=some (.slice b d.length q):=by rw[<-hu,<-hS];exact(cells3 w _ _ _ _ _ _ 1).2.1
 have tl:=two_lists (hc.below (by rw[hS];exact b0)) (hd.below (by rw[hS];exact b0));rw[su] at tl;have con:=concat_any _ 2 _ _ tl (by simpa using hl);simp only[List.length_cons,List.length_nil,List.flatten_cons,List.flatten_nil,List.append_nil,zero_add,Nat.reduceAdd] at con;have B0:Aside (Below S w u):=b0;have X0:Aside (Box2 (S+2) (.int .i64 0) (.slice none 0 0) u):=x0;have SU:Hid _:=su;obtain⟨n,hn⟩:∃n,(c++d).length=n:=⟨_,rfl⟩;have HN:Hid _:=hn;have hn':n<=1000000:=by rw[<-hn,List.length_append];exact hl
 obtain⟨U,hU⟩:∃U,u.alloc (.cells #[.slice a c.length p,.slice b d.length q] 33)=U:=⟨_,rfl⟩;have HUU:Hid _:=hU;have bU:Aside (Below (S+3) u U):=by rw[<-hU];exact(Below.refl _ _).alloc (by omega) _
 have sU:U.heap.size=S+4:=by rw[<-hU];simp[su]
 rw[hU] at con;have SUU:Hid _:=sU;clear b0 x0 su hu tl hn hU sU hc hd hl;go_enter Tryz.func259,Tryz.ntmps259
 go_wp2_with fail
 rw[HU.out,HUU.out];refine con.mono ?_;rintro e w1 ⟨r,t,rfl,o1,b1⟩;have ofa:=of_any r t (c++d) w1 o1.is (by rw[HN.out];exact hn');rw[HN.out] at ofa⊢;have B1:Aside (Below (S+3) u w1):=bU.out.trans (b1.mono (by rw[SUU.out];omega));clear con o1 b1 bU
 go_wp2_with fail
 refine ofa.mono ?_;rintro e w2 ⟨r2,t2,rfl,o2,b2⟩;have sl:(sortE (c++d)).length=n:=by rw[sortE_len,HN.out]
 have SL:Hid _:=sl;rw[sl];have sz:S+3<=w1.heap.size:=by have:=B1.out.size;rw[SU.out] at this;exact this
 have B2:Aside (Below (S+3) u w2):=B1.out.trans (b2.mono sz);have x2:=X0.out.below B2.out (by omega);have q0:=x2.c0;have q1:=x2.c1;have q2:=x2.f0;have q3:=x2.f1;obtain⟨m,hm⟩:∃m,lvl n=m:=⟨_,rfl⟩;have HM:Hid _:=hm;rw[hm]
 have B3:Aside (Below S w ((w2.setCell ⟨S+2,0,none⟩ (.int .i64 m)).setCell ⟨S+2,1,none⟩ (.slice r2 n t2))):=
  ((B0.out.trans (B2.out.mono (by omega))).setCell (by show S<=S+2;omega) _).setCell (by show S<=S+2;omega) _
 have X3:Aside (Box2 (S+2) (.int .i64 m) (.slice r2 n t2) ((w2.setCell ⟨S+2,0,none⟩ (.int .i64 m)).setCell ⟨S+2,1,none⟩ (.slice r2 n t2))):=x2.set _ _
 have O3:Aside (OwnE ((w2.setCell ⟨S+2,0,none⟩ (.int .i64 m)).setCell ⟨S+2,1,none⟩ (.slice r2 n t2)) S (.slice r2 (sortE (c++d)).length t2) (sortE (c++d))):=
  ((o2.set (by show S+2<_;omega) _).set (by show S+2<_;omega) _).low (by omega)
 clear x2 o2 b2 ofa X0 B0 B1 B2 hm sl
 go_wp2
 generalize World.setCell _ _ _=w3 at B3 X3 O3⊢;have y0:=X3.out.c0;have y1:=X3.out.c1;refine bodyPost_ret (v:=.agg #[.int .i64 m,.slice r2 n t2]) (by simp[results,Tryz.results259,go_sem,y0,y1]) rfl ⟨r2,t2,?_,by rw[HS.out];exact O3.out,by rw[HS.out];exact B3.out⟩;rw[SL.out,HM.out]
def MinIs(w:World)(x:Ent)(r:Ending)(w':World):Prop:=r=.returned (.tuple #[.agg #[.int .u64 x.1,.int .i64 x.2],.bool true])/\Below w.heap.size w w'
theorem minB_any(i:Int)(a:Option Addr)(cap:Nat)(x:Ent)(d:List Ent)(w:World)(h:IsL w a cap (x::d)) :
  Calls Tryz.prog 230 #[.agg #[.int .i64 i,.slice a (x::d).length cap]] w (MinIs w x):=by
 obtain⟨S,hS⟩:∃S,w.heap.size=S:=⟨_,rfl⟩;have HS:Hid _:=hS;have hl:=h.len;obtain⟨n,hn⟩:∃n,(x::d).length=n:=⟨_,rfl⟩;have n0:0<n:=by rw[<-hn];simp
 rw[hn] at hl⊢;obtain⟨b,off,rfl,hb,c0,c1⟩:=h.elem 0 x rfl;simp only[Nat.zero_mul,Nat.add_zero] at c0 c1;have t1:¬(n:Int)=0:=by omega
 have t2:((n:Int)==0)=false:=by simp;omega
 have t3:(0:Int)<(n:Int):=by omega
 have hb2:b<S:=by omega
 clear h hn;go_enter Tryz.func230,Tryz.ntmps230
 go_wp2
 refine bodyPost_ret (v:=.tuple #[.agg #[.int .u64 x.1,.int .i64 x.2],.bool true]) (by simp[results,Tryz.results230,go_sem,hS]) rfl ⟨rfl,((Below.refl _ _).alloc (le_refl _) _).alloc (by simp) _⟩
section
def MadeN(w:World)(m n:Nat)(d:List Ent)(r:Ending)(w':World):Prop:=∃a cap,r=.returned (.agg #[.int .i64 m,.slice a n cap])/\IsL w' a cap d/\Below w.heap.size w w'
theorem MadeB.n{w w':World}{d:List Ent}{r:Ending}(h:MadeB w d r w'){n m:Nat}(hn:d.length=n)(hm:lvl n=m):MadeN w m n d r w':=by
 obtain⟨a,cap,h1,h2,h3⟩:=h;rw[hn,hm] at h1;exact⟨a,cap,h1,h2.is,h3⟩
variable {w:World}{a b:Option Addr}{p q:Nat}{c d e:List Ent}
theorem Box2.on{S:Nat}{x y:Value}{w w':World}(h:Box2 S x y w)(hw:Below w.heap.size w w'):Box2 S x y w':=h.below hw h.lt
end
structure IsBs(w:World)(a:Option Addr)(ls:List (List Ent)):Prop where
 len:ls.length<=9223372036854775807
 elem:∀i d,ls[i]?=some d->∃b off p k m,a=some ⟨b,off,none⟩/\b<w.heap.size/\w.cell? ⟨b,off+i*2,none⟩=some (.int .i64 m)/\w.cell? ⟨b,off+i*2+1,none⟩=some (.slice p d.length k)/\IsL w p k d
theorem IsBs.below{w w':World}{a:Option Addr}{ls:List (List Ent)}(h:IsBs w a ls)(hw:Below w.heap.size w w'):IsBs w' a ls:=
 ⟨h.len,fun i d hd=>by
  obtain⟨b,off,p,k,m,e,hb,h1,h2,h3⟩:=h.elem i d hd;exact⟨b,off,p,k,m,e,by have:=hw.size;omega,(hw.cell (p:=⟨b,off+i*2,none⟩) hb).trans h1,(hw.cell (p:=⟨b,off+i*2+1,none⟩) hb).trans h2,h3.below hw⟩⟩
def PivO(w:World)(K:Nat)(d:List Ent)(r:Ending)(w':World):Prop:=∃a cap,r=.returned (.slice a K cap)/\OwnE w' w.heap.size (.slice a K cap) d/\Below w.heap.size w w'
theorem OwnE.take{w:World}{base n cap:Nat}{a:Option Addr}{d:List Ent}(h:OwnE w base (.slice a n cap) d)(k:Nat)(hk:k<=n)(hn:d.length=n):OwnE w base (.slice a k cap) (d.take k):=by
 have e:(d.take k).length=k:=by rw[length_take];omega
 have hf:flat (d.take k)=(flat d).take (k*2):=by
  conv=>rhs;rw[<-List.take_append_drop k d,flat_append]
  rw[List.take_append_of_le_length (by rw[flat_len,e];omega)];exact(take_of_length_le (by rw[flat_len,e];omega)).symm
 subst hn;refine⟨by rw[flat_len],?_⟩;rw[e];rcases h.2 with⟨h1,h0⟩|⟨g,cap',cur,h1,hb,hg,hn,hc,hs,ht⟩
 ·injection h1 with e1 e2 e3
  subst e1 e3;have:k=0:=by omega
  subst this;exact .inl ⟨rfl,rfl⟩
 ·injection h1 with e1 e2 e3
  subst e1 e3;exact .inr ⟨g,cap,cur,rfl,hb,hg,by omega,hc,hs,by rw[hf,<-ht,List.take_take];congr 1;omega⟩
theorem pivotO_any(a:Option Addr)(cap:Nat)(ls:List (List Ent))(n:Int)(w:World)(h:IsBs w a ls)(hd:ls.flatten.length<=1000000) :
  Calls Tryz.prog 198 #[.slice a ls.length cap,.int .i64 n] w (PivO w (wth n ls.flatten.length) ((sortE ls.flatten).take (wth n ls.flatten.length))):=by
 have hl:=h.len;have H:Aside (IsBs w a ls):=h;clear h;go_enter Tryz.func198,Tryz.ntmps198
 go_wp2
 go_loopg [5,10] ls.length (fun kx s5 s10 wr=>∃(k n:Nat)(r:Option Addr)(t:Nat),s10=.int .i64 k/\s5=.slice r n t/\Hid ((ls.take k).flatten.length=n)/\k<=ls.length/\ls.length-k<=kx/\Aside (OwnE wr w.heap.size (.slice r n t) (ls.take k).flatten)/\Aside (Below w.heap.size w wr))
 case atStart=>exact⟨0,0,none,0,rfl,rfl,rfl,by omega,by omega,OwnE.nil w _,Below.refl _ _⟩
 case round=>
  obtain⟨k,z,r,t,rfl,rfl,HN,hk,hkx,O,B⟩:=hrel;by_cases hlt:k<ls.length
  ·have hz:(k:Int)<(ls.length:Int):=by omega
   obtain⟨b,off,p,q,m,rfl,hb,c0,c1,L⟩:=(H.out.below B.out).elem k ls[k] (List.getElem?_eq_getElem hlt);have e1:=flat_take hlt;have e2:=flat_take_le ls (k+1);obtain⟨d,hdk⟩:∃d,ls[k]=d:=⟨_,rfl⟩;rw[hdk] at e1 c1 L;have e3:(ls.take k).flatten.length+d.length<=1000000:=by rw[e1,List.length_append] at e2;omega
   have bv:Below wr.heap.size wr (wr.alloc (.cells #[.int .i64 m,.slice p d.length q] 290)):=(Below.refl _ _).alloc (le_refl _) _;obtain⟨v2,w2,hr,o2,g2⟩:=app_run (d:=(ls.take k).flatten) (c:=d) (O.out.below bv) (L.below bv) e3 (le_trans B.out.size bv.size) 33;obtain⟨r2,t2,rfl,_⟩:=o2.isL;have B2:Aside (Below w.heap.size w w2):=OwnE.grown (O.out.below bv) (B.out.trans (bv.mono B.out.size)) g2 (le_trans B.out.size bv.size);rw[<-e1] at o2 hr;obtain⟨n2,hn2⟩:∃n2,(ls.take (k+1)).flatten.length=n2:=⟨_,rfl⟩;rw[hn2] at hr;have O2:Aside (OwnE w2 w.heap.size (.slice r2 n2 t2) (ls.take (k+1)).flatten):=by rw[<-hn2];exact o2
   have HN2:Hid _:=hn2;clear o2 g2 e1 e2 e3 hdk hn2 L O B bv
   go_wp2_with (at_builtin;refine Lib.wpList_append_run (World.alloc wr _) rfl _ _ 33 33 rfl _ _ rfl rfl _ w2 hr ?_)
   go_roundg (ls.length-(k+1))
   case measure=>omega
   case rel=>exact⟨k+1,n2,r2,t2,by go_num,rfl,HN2,by omega,le_refl _,O2,B2⟩
  ·have hz:¬(k:Int)<(ls.length:Int):=by omega
   have e:(ls.take k).flatten=ls.flatten:=by rw[take_of_length_le (by omega)]
   rw[e] at HN O;have hz2:z<=1000000:=by have:=HN.out;omega
   have so:=sort_made r t ls.flatten wr O.out.is hd;have wi:=within_any n z (by omega);have k0:=wth_le n z;rw[HN.out] at so;obtain⟨K,hK⟩:∃K,wth n z=K:=⟨_,rfl⟩;have HK:Hid _:=hK;rw[hK] at wi k0;have sl:(sortE ls.flatten).length=z:=by rw[sortE_len,HN.out]
   have SL:Hid _:=sl;have B0:=B.out.size;clear e sl hK O
   go_wp2_with fail
   refine so.mono ?_;rintro e w1 ⟨r1,t1,rfl,o1,b1⟩;rw[SL.out] at o1⊢;have t0:=o1.is.le;have t3:=o1.is.big;rw[SL.out] at t0;unfold maxLen at t3;have B1:Aside (Below w.heap.size w w1):=B.out.trans (b1.mono B0);have O1:Aside (OwnE w1 w.heap.size (.slice r1 K t1) ((sortE ls.flatten).take K)):=(o1.take K (by omega) SL.out).low B0;have j1:(K:Int)<=(t1:Int):=by omega
   have j2:(K:Int)<=(z:Int):=by omega
   have j3:(0:Int)<=(K:Int):=by omega
   clear o1 b1 so B
   go_wp2_with fail
   refine(wi _).mono ?_;rintro e w2 ⟨rfl,rfl⟩
   go_wp2
   go_ret;exact⟨r1,t1,by rw[HN.out,HK.out];rfl,by rw[HN.out,HK.out];exact O1.out,B1.out⟩
theorem catch_idle(w:World):CallsD Tryz.prog 287 #[] .returning w fun e u' w'=>e=.returned (.tuple #[])/\u'=.returning/\w'=w:=by
 refine callsD_of_wpS Tryz.func287 rfl fun c₀ cs hu=>?_;apply wpS_region
 cases c₀
 simp_all[wpOpsS,go_sem,recoverD,bodyPostS,results,Tryz.results287]
theorem says_any(g:Nat)(cb:Array Value)(id:Int)(B:Bool)(w:World)(eg:∀args w,(callFunc g args).run Tryz.prog w=.ok (.enter g args) w)
  (hg:Calls Tryz.prog g (#[.int .i64 id]++cb) w fun e w'=>e=.returned (.bool B)/\Below w.heap.size w w') :
  Calls Tryz.prog 254 #[.func (.func g) #[] cb,.int .i64 id] w fun e w'=>e=.returned (.bool B)/\Below w.heap.size w w':=by
 go_enter_defers Tryz.func254,Tryz.ntmps254
 go_wp2_with fail
 refine hg.mono ?_;rintro e w1 ⟨rfl,d1⟩
 go_wp2
 refine leaves_cons (f:=287) (args:=#[]) (by simp) (by simp[go_sem]) ?_;refine(catch_idle _).mono ?_;rintro e u' w'' ⟨rfl,rfl,rfl⟩;exact⟨_,results_tmp rfl _ _ _,rfl,d1⟩
def keepL(p:Int->Bool)(d:List Ent):List Ent:=d.filter (fun x=>!p x.2)
theorem keep_take(p:Int->Bool){d:List Ent}{k:Nat}(h:k<d.length):keepL p (d.take (k+1))=keepL p (d.take k)++(if p d[k].2 then [] else [d[k]]):=by
 unfold keepL;rw[List.take_succ_eq_append_getElem h,List.filter_append]
 cases e:p d[k].2<;>simp[e]
theorem keep_len(p:Int->Bool)(d:List Ent):(keepL p d).length<=d.length:=List.length_filter_le _ _
theorem shrink_any(i:Int)(a:Option Addr)(cap:Nat)(d:List Ent)(g:Nat)(cb:Array Value)(p:Int->Bool)(w:World)(h:IsL w a cap d)(hd:d.length<=100000)(eg:∀args w,(callFunc g args).run Tryz.prog w=.ok (.enter g args) w)
  (hg:∀id W,Below w.heap.size w W->Calls Tryz.prog g (#[.int .i64 id]++cb) W fun e w'=>e=.returned (.bool (p id))/\Below W.heap.size W w') :
  Calls Tryz.prog 192 #[.agg #[.int .i64 i,.slice a d.length cap],.func (.func g) #[] cb] w (MadeB w (sortE (keepL p d))):=by
 obtain⟨S,hS⟩:∃S,w.heap.size=S:=⟨_,rfl⟩;have HS:Hid _:=hS;obtain⟨N,hN⟩:∃N,d.length=N:=⟨_,rfl⟩;have HN:Hid _:=hN;obtain⟨u,hu⟩:∃u,(w.alloc (.cells #[.int .i64 i,.slice a N cap] 290)).alloc (.cells #[.int .i64 0,.slice none 0 0] 290)=u:=⟨_,rfl⟩;have HU:Hid _:=hu;have b0:Below S w u:=by rw[<-hu,<-hS];exact((Below.refl _ _).alloc (le_refl _) _).alloc (by simp) _
 have su:u.heap.size=S+2:=by rw[<-hu,<-hS];simp
 have x1:Box2 (S+1) (.int .i64 0) (.slice none 0 0) u:=by
  have:=Box2.new (w.alloc (.cells #[.int .i64 i,.slice a N cap] 290)) (.int .i64 0) (.slice none 0 0) 290;rw[hu] at this;simpa [hS] using this
 have LU:Aside (IsL u a cap d):=h.below (by rw[hS];exact b0);have B0:Aside (Below S w u):=b0;have X1:Aside (Box2 (S+1) (.int .i64 0) (.slice none 0 0) u):=x1;have SU:Hid _:=su;have HG:Aside (∀id W,Below w.heap.size w W->Calls Tryz.prog g (#[.int .i64 id]++cb) W fun e w'=>e=.returned (.bool (p id))/\Below W.heap.size W w'):=hg;rw[hN] at hd⊢;have hnil:∀w:World,(binOp BinOp.eql 103 (.func (.func g) #[] cb) .nilFunc).run Tryz.prog w=.ok (.bool false) w:=fun _=>by first|rfl|(simp[go_sem];done)|kernel_rfl
 clear hg hN hu b0 su x1 h;go_enter Tryz.func192,Tryz.ntmps192
 go_wp2_with fail
 rw[HU.out]
 go_loopg [5,16] N (fun kx s5 s16 wr=>∃(k n:Nat)(r:Option Addr)(t:Nat),s16=.int .i64 k/\s5=.slice r n t/\Hid ((keepL p (d.take k)).length=n)/\k<=N/\N-k<=kx/\Aside (OwnE wr (S+2) (.slice r n t) (keepL p (d.take k)))/\Aside (Below (S+2) u wr))
 case atStart=>exact⟨0,0,none,0,rfl,rfl,rfl,by omega,by omega,OwnE.nil _ _,Below.refl _ _⟩
 case round=>
  obtain⟨k,z,r,t,rfl,rfl,HZ,hk,hkx,O,B⟩:=hrel;have zle:z<=N:=by have h1:=HZ.out;have h2:=keep_len p (d.take k);rw[length_take,HN.out] at h2;omega
  have sz:S+2<=wr.heap.size:=by have:=B.out.size;have:=SU.out;omega
  have BW:Aside (Below S w wr):=B0.out.trans (B.out.mono (by omega));by_cases hlt:k<N
  ·have hz:(k:Int)<(N:Int):=by omega
   have hlt':k<d.length:=by rw[HN.out];exact hlt
   obtain⟨b,off,rfl,hb,c0,c1⟩:=(LU.out.below (by rw[SU.out];exact B.out)).elem k d[k] (List.getElem?_eq_getElem hlt');have e1:=keep_take p hlt';obtain⟨x,hx⟩:∃x,d[k]=x:=⟨_,rfl⟩;rw[hx] at e1 c0 c1;obtain⟨R,hR⟩:∃R,wr.heap.size=R:=⟨_,rfl⟩;obtain⟨v,hv⟩:∃v,wr.alloc (.cells #[.int .u64 x.1,.int .i64 x.2] 36)=v:=⟨_,rfl⟩;have HV:Hid _:=hv;have bv:Below wr.heap.size wr v:=by rw[<-hv];exact(Below.refl _ _).alloc (le_refl _) _
   have v0:v.cell? ⟨R,0,none⟩=some (.int .u64 x.1):=by rw[<-hv,<-hR];exact cell_new wr _ _ 0
   have v1:v.cell? ⟨R,1,none⟩=some (.int .i64 x.2):=by rw[<-hv,<-hR];exact cell_new wr _ _ 1
   have vs:R<v.heap.size:=by rw[<-hv,<-hR];simp
   have sy:=says_any g cb x.2 (p x.2) v eg (HG.out x.2 v (by rw[HS.out];exact BW.out.trans (bv.mono (by omega))));have hbR:b<R:=by omega
   have E1:Aside (keepL p (d.take (k+1))=keepL p (d.take k)++(if p x.2 then [] else [x])):=e1;have BV:Aside (Below (S+2) u v):=B.out.trans (bv.mono (by omega));have OV:Aside (OwnE v (S+2) (.slice r z t) (keepL p (d.take k))):=O.out.below bv;clear e1 hx hv bv O B hb
   cases hB:p x.2 with
   | true=>
    rw[hB] at sy E1;have E2:Hid (keepL p (d.take (k+1))=keepL p (d.take k)):=by show _=_;have:=E1.out;simpa using this
    clear E1
    go_wp2_with fail
    rw[HV.out];refine sy.mono ?_;rintro e w1 ⟨rfl,b1⟩;have B1:Aside (Below (S+2) u w1):=BV.out.trans (b1.mono (by omega));have O1:Aside (OwnE w1 (S+2) (.slice r z t) (keepL p (d.take (k+1)))):=by rw[E2.out];exact OV.out.below b1
    clear b1 sy v0 v1 c0 c1 OV BV
    go_wp2
    go_roundg (N-(k+1))
    case measure=>omega
    case rel=>exact⟨k+1,z,r,t,by go_num,rfl,by rw[E2.out];exact HZ,by omega,le_refl _,O1,B1⟩
   | false=>
    rw[hB] at sy E1;have E2:Hid (keepL p (d.take (k+1))=keepL p (d.take k)++[x]):=by show _=_;have:=E1.out;simpa using this
    clear E1
    go_wp2_with fail
    rw[HV.out];refine sy.mono ?_;rintro e w1 ⟨rfl,b1⟩;have B1:Aside (Below (S+2) u w1):=BV.out.trans (b1.mono (by omega));have y0:w1.cell? ⟨R,0,none⟩=some (.int .u64 x.1):=(b1.cell (p:=⟨R,0,none⟩) vs).trans v0;have y1:w1.cell? ⟨R,1,none⟩=some (.int .i64 x.2):=(b1.cell (p:=⟨R,1,none⟩) vs).trans v1;have ws:R<w1.heap.size:=by have:=b1.size;omega
    obtain⟨r',t',w2,hr,o2,b2⟩:=app_one x (OV.out.below b1) HZ.out (by omega) (by omega);have B2:Aside (Below (S+2) u w2):=B1.out.trans b2;have O2:Aside (OwnE w2 (S+2) (.slice r' (z+1) t') (keepL p (d.take (k+1)))):=by rw[E2.out];exact o2
    have HZ2:Hid ((keepL p (d.take (k+1))).length=z+1):=by show _=_;rw[E2.out,List.length_append,HZ.out];rfl
    clear b1 sy v0 v1 c0 c1 OV BV o2 b2
    go_wp2_with (at_builtin;refine Lib.wpList_append_run (World.alloc w1 _) rfl _ _ 33 33 rfl _ _ rfl rfl _ w2 hr ?_)
    go_roundg (N-(k+1))
    case measure=>omega
    case rel=>exact⟨k+1,z+1,r',t',by go_num,rfl,HZ2,by omega,le_refl _,O2,B2⟩
  ·have hz:¬(k:Int)<(N:Int):=by omega
   have e:d.take k=d:=take_of_length_le (by rw[HN.out];omega);rw[e] at HZ O;have ofa:=of_any r t (keepL p d) wr O.out.is (by have:=HZ.out;omega);rw[HZ.out] at ofa;obtain⟨m,hm⟩:∃m,lvl z=m:=⟨_,rfl⟩;have HM:Hid _:=hm;have SL:Hid ((sortE (keepL p d)).length=z):=by show _=_;rw[sortE_len,HZ.out]
   clear e O hm
   go_wp2_with fail
   refine ofa.mono ?_;rintro e w2 ⟨r2,t2,rfl,o2,b2⟩;rw[SL.out,HM.out];have x2:=X1.out.below (B.out.trans (b2.mono sz)) (by omega);have q0:=x2.c0;have q1:=x2.c1;have q2:=x2.f0;have q3:=x2.f1
   have B3:Aside (Below S w ((w2.setCell ⟨S+1,0,none⟩ (.int .i64 m)).setCell ⟨S+1,1,none⟩ (.slice r2 z t2))):=
    ((BW.out.trans (b2.mono (by omega))).setCell (by show S<=S+1;omega) _).setCell (by show S<=S+1;omega) _
   have X3:Aside (Box2 (S+1) (.int .i64 m) (.slice r2 z t2) ((w2.setCell ⟨S+1,0,none⟩ (.int .i64 m)).setCell ⟨S+1,1,none⟩ (.slice r2 z t2))):=x2.set _ _
   have O3:Aside (OwnE ((w2.setCell ⟨S+1,0,none⟩ (.int .i64 m)).setCell ⟨S+1,1,none⟩ (.slice r2 z t2)) S (.slice r2 (sortE (keepL p d)).length t2) (sortE (keepL p d))):=
    ((o2.set (by show S+1<_;omega) _).set (by show S+1<_;omega) _).low (by omega)
   clear x2 o2 b2 ofa X1 B0 B BW LU
   go_wp2
   generalize World.setCell _ _ _=w3 at B3 X3 O3⊢;have y0:=X3.out.c0;have y1:=X3.out.c1;refine bodyPost_ret (v:=.agg #[.int .i64 m,.slice r2 z t2]) (by simp[results,Tryz.results192,go_sem,y0,y1]) rfl ⟨r2,t2,?_,by rw[HS.out];exact O3.out,by rw[HS.out];exact B3.out⟩;rw[SL.out,HM.out]
structure Kept(S:TypeId->Prop)(w w':World):Prop where
 size:w.heap.size<=w'.heap.size
 block:∀(k:Nat)(cs:Array Value)(T:TypeId)(fr:Nat×Nat),w.heap[k]?=some (Obj.cells cs T fr)->¬S T->w'.heap[k]?=w.heap[k]?
theorem Kept.refl(S:TypeId->Prop)(w:World):Kept S w w:=⟨le_refl _,fun _ _ _ _ _ _=>rfl⟩
theorem Kept.trans{S:TypeId->Prop}{u v w:World}(h:Kept S u v)(g:Kept S v w):Kept S u w:=
 ⟨le_trans h.size g.size,fun k cs T fr hk hT=>(g.block k cs T fr ((h.block k cs T fr hk hT).trans hk) hT).trans (h.block k cs T fr hk hT)⟩
theorem Kept.of_below{S:TypeId->Prop}{w w':World}(h:Below w.heap.size w w'):Kept S w w':=
 ⟨h.size,fun k cs T fr hk _=>h.block k (lt_of_block hk)⟩
theorem Kept.step{S:TypeId->Prop}{u v w:World}(h:Kept S u v)(g:Below v.heap.size v w):Kept S u w:=h.trans (Kept.of_below g)
theorem Kept.own{S:TypeId->Prop}{w w':World}{base n k:Nat}{T:TypeId}{v:Value}{vs:List Value}(h:Kept S w w')(hT:¬S T)(o:w.ownsRow base T k v n vs):w'.ownsRow base T k v n vs:=by
 obtain⟨h1,h2⟩:=o;refine⟨h1,?_⟩;rcases h2 with h2|⟨g,cap,cur,r1,r2,r3,r4⟩
 ·exact .inl h2
 ·exact .inr ⟨g,cap,cur,r1,r2,(h.block g _ _ _ r3 hT).trans r3,r4⟩
theorem Kept.set{S:TypeId->Prop}{w:World}{b:Nat}{cs:Array Value}{T:TypeId}{fr:Nat×Nat}(hb:w.heap[b]?=some (.cells cs T fr))(hT:S T){o:Nat}{sp}(u:Value):Kept S w (w.setCell ⟨b,o,sp⟩ u):=by
 refine⟨by simp[World.setCell],fun k ds U fr' hk hU=>?_⟩
 have:k≠b:=by
  rintro rfl;rw[hb] at hk;simp only[Option.some.injEq,Obj.cells.injEq] at hk;rw[<-hk.2.1] at hU;exact hU hT
 have:=Below.heap_setCell w ⟨b,o,sp⟩ u k;exact this ‹_›
structure Bk where
 d:List Ent
 p:Option Addr
 q:Nat
def encB(b:Bk):List Value:=[.int .i64 (lv b.d),.slice b.p b.d.length b.q]
def flatB(bs:List Bk):List Value:=bs.flatMap encB
@[simp] theorem flatB_nil:flatB []=[]:=rfl
theorem flatB_cons(b:Bk)(bs:List Bk):flatB (b::bs)=.int .i64 (lv b.d)::.slice b.p b.d.length b.q::flatB bs:=rfl
theorem flatB_append(cs bs:List Bk):flatB (cs++bs)=flatB cs++flatB bs:=by simp[flatB]
theorem flatB_len:∀(bs:List Bk),(flatB bs).length=bs.length*2
 | []=>rfl
 | b::bs=>by simp only[flatB_cons,List.length_cons,flatB_len bs];omega
theorem flatB_one(bs:List Bk):∀u∈flatB bs,u.oneCell'=true:=by
 intro u hu;obtain⟨x,_,h⟩:=List.mem_flatMap.1 hu;simp[encB] at h;rcases h with rfl|rfl<;>rfl
theorem flatB_at:∀(bs:List Bk)(i:Nat)(b:Bk),bs[i]?=some b->(flatB bs)[i*2]?=some (.int .i64 (lv b.d))/\(flatB bs)[i*2+1]?=some (.slice b.p b.d.length b.q)
 | [],i,b,h=>by simp at h
 | x::bs,0,b,h=>by simp at h;subst h;exact⟨rfl,rfl⟩
 | x::bs,i+1,b,h=>by
  obtain⟨h1,h2⟩:=flatB_at bs i b (by simpa using h);rw[show(i+1)*2=i*2+1+1 by omega,flatB_cons];exact⟨by simpa using h1,by simpa using h2⟩
theorem flatB_take(bs:List Bk)(k:Nat):(flatB bs).take (k*2)=flatB (bs.take k):=by
 by_cases h:k<=bs.length
 ·conv=>lhs;rw[<-List.take_append_drop k bs,flatB_append]
  rw[List.take_append_of_le_length (by rw[flatB_len,length_take];omega),take_of_length_le (by rw[flatB_len,length_take];omega)]
 ·rw[take_of_length_le (by rw[flatB_len];omega),take_of_length_le (by omega)]
theorem flatB_drop(bs:List Bk)(k:Nat):(flatB bs).drop (k*2)=flatB (bs.drop k):=by
 by_cases h:k<=bs.length
 ·conv=>lhs;rw[<-List.take_append_drop k bs,flatB_append]
  have:(flatB (bs.take k)).length=k*2:=by rw[flatB_len,length_take];omega
  rw[List.drop_append,List.drop_eq_nil_of_le (by omega),this];simp
 ·rw[List.drop_eq_nil_of_le (by rw[flatB_len];omega),List.drop_eq_nil_of_le (by omega)]
  rfl
structure RowB(T:TypeId)(w:World)(base:Nat)(v:Value)(bs:List Bk):Prop where
 row:w.ownsRow base T 2 v bs.length (flatB bs)
 own:∀b∈bs,OwnE w base (.slice b.p b.d.length b.q) b.d
theorem RowB.nil(T:TypeId)(w:World)(base:Nat):RowB T w base (.slice none 0 0) []:=⟨World.ownsRow_nil w base _ _,fun b h=>by simp at h⟩
theorem own_below{w w':World}{base n k:Nat}{T:TypeId}{v:Value}{vs:List Value}(h:w.ownsRow base T k v n vs)(hw:Below w.heap.size w w'):w'.ownsRow base T k v n vs:=
 (Kept.of_below (S:=fun _=>False) hw).own (fun h=>h) h
theorem RowB.below{T:TypeId}{w w':World}{base:Nat}{v:Value}{bs:List Bk}(h:RowB T w base v bs)(hw:Below w.heap.size w w'):RowB T w' base v bs:=
 ⟨own_below h.row hw,fun b hb=>(h.own b hb).below hw⟩
theorem RowB.kept{S:TypeId->Prop}{T:TypeId}{w w':World}{base:Nat}{v:Value}{bs:List Bk}(h:RowB T w base v bs)(hw:Kept S w w')(h1:¬S T)(h2:¬S 36):RowB T w' base v bs:=
 ⟨hw.own h1 h.row,fun b hb=>hw.own h2 (h.own b hb)⟩
theorem RowB.slice{T:TypeId}{w:World}{base:Nat}{v:Value}{bs:List Bk}(h:RowB T w base v bs):∃a cap,v=.slice a bs.length cap/\bs.length<=cap/\cap<=maxLen:=by
 rcases h.row.2 with⟨h1,h0⟩|⟨g,cap,cur,h1,_,_,hn,hc,_⟩
 ·exact⟨none,0,by rw[h1,h0],by omega,by simp[maxLen]⟩
 ·exact⟨some ⟨g,0,none⟩,cap,h1,hn,hc⟩
theorem RowB.at{T:TypeId}{w:World}{base n cap:Nat}{a:Option Addr}{bs:List Bk}(h:RowB T w base (.slice a n cap) bs){i:Nat}(hi:i<bs.length) :
  ∃g,a=some ⟨g,0,none⟩/\base<=g/\g<w.heap.size/\w.cell? ⟨g,i*2,none⟩=some (.int .i64 (lv bs[i].d))/\w.cell? ⟨g,i*2+1,none⟩=some (.slice bs[i].p bs[i].d.length bs[i].q):=by
 rcases h.row.2 with⟨h1,h0⟩|⟨g,cap',cur,h1,hb,hg,hn,hc,hs,ht⟩
 ·omega
 ·injection h1 with e1 e2 e3
  subst e1 e2 e3;obtain⟨f1,f2⟩:=flatB_at bs i bs[i] (List.getElem?_eq_getElem hi);exact⟨g,rfl,hb,lt_of_block hg,by rw[World.ownsRow.cellAt h.row (i*2) (by omega),f1],by rw[World.ownsRow.cellAt h.row (i*2+1) (by omega),f2]⟩
theorem RowB.isBs{T:TypeId}{w:World}{base n cap:Nat}{a:Option Addr}{bs:List Bk}(h:RowB T w base (.slice a n cap) bs):IsBs w a (bs.map Bk.d):=by
 obtain⟨a',cap',e,h1,h2⟩:=h.slice;unfold maxLen at h2;refine⟨by rw[List.length_map];omega,fun i d hd=>?_⟩;rw[List.getElem?_map] at hd;obtain⟨b,hb,rfl⟩:=Option.map_eq_some_iff.1 hd;obtain⟨hi,hb'⟩:=List.getElem?_eq_some_iff.1 hb;obtain⟨g,e1,_,hg,c0,c1⟩:=h.at hi;rw[hb'] at c0 c1;exact⟨g,0,b.p,b.q,lv b.d,e1,hg,by rw[zero_add];exact c0,by rw[zero_add];exact c1,(h.own b (List.mem_of_getElem? hb)).is⟩
def LsmT(TL TB:TypeId)(w:World)(base b:Nat)(ls:List (List Ent)):Prop:=
 ∃(a:Option Addr)(cap:Nat)(bs:List Bk),bs.map Bk.d=ls/\base<=b/\w.heap[b]?=some (.cells #[.slice a bs.length cap] TL (0,0))/\RowB TB w base (.slice a bs.length cap) bs
theorem LsmT.below{TL TB:TypeId}{w w':World}{base b:Nat}{ls:List (List Ent)}(h:LsmT TL TB w base b ls)(hw:Below w.heap.size w w'):LsmT TL TB w' base b ls:=by
 obtain⟨a,cap,bs,h1,h2,h3,h4⟩:=h;exact⟨a,cap,bs,h1,h2,(hw.block b (lt_of_block h3)).trans h3,h4.below hw⟩
theorem LsmT.lt{TL TB:TypeId}{w:World}{base b:Nat}{ls:List (List Ent)}(h:LsmT TL TB w base b ls):base<=b/\b<w.heap.size:=by
 obtain⟨a,cap,bs,h1,h2,h3,h4⟩:=h;exact⟨h2,lt_of_block h3⟩
theorem LsmT.open{TL TB:TypeId}{w:World}{base b:Nat}{ls:List (List Ent)}(h:LsmT TL TB w base b ls) :
  ∃(a:Option Addr)(cap:Nat),w.cell? ⟨b,0,none⟩=some (.slice a ls.length cap)/\ls.length<=cap/\cap<=maxLen/\b<w.heap.size/\base<=b/\IsBs w a ls/\
   ∃bs:List Bk,bs.map Bk.d=ls/\RowB TB w base (.slice a ls.length cap) bs:=by
 obtain⟨a,cap,bs,rfl,h2,h3,h4⟩:=h;obtain⟨a',cap',e,k1,k2⟩:=h4.slice;injection e with e1 e2 e3
 subst e3;rw[List.length_map];exact⟨a,cap,by rw[cell_of_row _ _ _ _ _ _ h3];rfl,k1,k2,lt_of_block h3,h2,h4.isBs,bs,rfl,h4⟩
theorem setCell_row{w:World}{b:Nat}{cs:Array Value}{T:TypeId}{fr:Nat×Nat}(h:w.heap[b]?=some (.cells cs T fr))(u:Value):(w.setCell ⟨b,0,none⟩ u).heap[b]?=some (.cells (cs.setIfInBounds 0 u) T fr):=by
 rw[setCell_eq_setRow w b 0 cs T fr u h];exact setRow_heap w b cs _ T fr h
theorem RowB.setCell{T:TypeId}{w:World}{base b:Nat}{v:Value}{bs:List Bk}(h:RowB T w base v bs){cs:Array Value}{TL:TypeId}{fr:Nat×Nat}(hb:w.heap[b]?=some (.cells cs TL fr))(h1:T≠TL)(h2:36≠TL)(u:Value):RowB T (w.setCell ⟨b,0,none⟩ u) base v bs:=
 h.kept (S:=fun X=>X=TL) (Kept.set (S:=fun X=>X=TL) hb rfl u) h1 h2
def Moved(w:World)(a a':Option Addr):Prop:=a'=a\/∀x:Addr,a'=some x->w.heap.size<=x.block
theorem Moved.refl(w:World)(a:Option Addr):Moved w a a:=.inl rfl
theorem Moved.none(w:World)(a:Option Addr):Moved w a none:=.inr fun x h=>by cases h
theorem Moved.mono{w v:World}{a b:Option Addr}(h:Moved v a b)(hs:w.heap.size<=v.heap.size):Moved w a b:=by
 rcases h with h|h
 ·exact .inl h
 ·exact .inr fun x hx=>le_trans hs (h x hx)
def Only(B:Nat)(a:Option Addr)(w w':World):Prop:=∀k,k<w.heap.size->k≠B->a≠some ⟨k,0,none⟩->w'.heap[k]?=w.heap[k]?
theorem Only.trans{B:Nat}{a:Option Addr}{u v w:World}(h:Only B a u v)(g:Only B a v w)(hs:u.heap.size<=v.heap.size):Only B a u w:=
 fun k hk h1 h2=>(g k (by omega) h1 h2).trans (h k hk h1 h2)
theorem Only.below{B:Nat}{a:Option Addr}{w w':World}(h:Below w.heap.size w w'):Only B a w w':=fun k hk _ _=>h.block k hk
theorem Only.step{B:Nat}{a:Option Addr}{u v w:World}(h:Only B a u v)(g:Below v.heap.size v w)(hs:u.heap.size<=v.heap.size):Only B a u w:=h.trans (Only.below g) hs
theorem Only.set{B:Nat}{a:Option Addr}{u v:World}(h:Only B a u v)(o:Nat)(x:Value):Only B a u (v.setCell ⟨B,o,none⟩ x):=
 fun k hk h1 h2=>(Below.heap_setCell v ⟨B,o,none⟩ x k h1).trans (h k hk h1 h2)
theorem Only.setNew{B:Nat}{a:Option Addr}{u v:World}(h:Only B a u v){S:Nat}(hS:u.heap.size<=S)(o:Nat)(x:Value):Only B a u (v.setCell ⟨S,o,none⟩ x):=
 fun k hk h1 h2=>(Below.heap_setCell v ⟨S,o,none⟩ x k (by show k≠S;omega)).trans (h k hk h1 h2)
end Go.Proofs.YthpgfmmpjoodkaaGreatDoor.Qu
