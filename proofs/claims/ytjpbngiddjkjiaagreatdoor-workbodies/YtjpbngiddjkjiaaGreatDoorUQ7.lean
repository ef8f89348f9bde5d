import Derived.Test.YtjpbngiddjkjiaaGreatDoorUQ2
import Derived.Carry
open Go.Proofs.Tryz
open List(append_assoc flatMap_append range_succ)
open Nat(le_refl)
namespace Go.Proofs.YtjpbngiddjkjiaaGreatDoor.Qu
set_option linter.unusedSimpArgs false
set_option maxHeartbeats 8000000
set_option maxRecDepth 100000
set_option linter.unusedVariables false
section
open Go.RowKit Go.Lib Go.Sort
def candL(s:QSt)(K dr:Nat):List Ent:=match (sortE s.hs.flatten)[dr%drawN K s.hs.flatten.length]? with
 | some x=>if s.hs.flatten.length=0 then [] else [x]
 | none=>[]
def own1(s:QSt)(t:Nat):List Ent:=(sortE (s.ls t).flatten).take 1
def nearQ(s:QSt)(K t dr:Nat):Option (Nat×Ent):=leastL [own1 s t,candL s K dr] 2
def relaxQ(s:QSt)(T K t dr:Nat):Ent×Bool:=if unb (nearQ s K t dr) then(unl (nearQ s K t dr),true) else headO (furtherL s T t)
theorem candO(w:World)(base:Nat)(A:QAd)(T K N:Nat)(s:QSt)(dr:Nat)(h:Que w base A T K s)(ok:QOk K T N s)(hN:N<=1000)(hdr:dr<18446744073709551616) :
  Calls prog 172 #[ptr A.HB,.int .i64 K,.int .u64 dr] w (EntIs w (headO (candL s K dr)).1 (headO (candL s K dr)).2):=by
 obtain⟨ra,sa,h⟩:=h;by_cases c:s.hs.flatten.length=0
 ·have e:candL s K dr=[]:=by
   unfold candL
   split
   ·rw[if_pos c]
   ·rfl
  rw[e];exact cand_none A.HB s.v s.hs K dr w h.shr.s c
 ·have hl:dr%drawN K s.hs.flatten.length<(sortE s.hs.flatten).length:=by
   rw[sortE_len];have h1:0<drawN K s.hs.flatten.length:=by unfold drawN;omega
   have h2:=Nat.mod_lt dr h1;have h3:drawN K s.hs.flatten.length<=s.hs.flatten.length:=by unfold drawN;omega
   omega
  have e:candL s K dr=[(sortE s.hs.flatten)[dr%drawN K s.hs.flatten.length]]:=by
   unfold candL;rw[List.getElem?_eq_getElem hl];show(if s.hs.flatten.length=0 then [] else _)=_;rw[if_neg c]
  rw[e];exact cand_any A.HB s.v s.hs K dr w h.shr.s (by have:=ok.hsum;omega) hdr (by omega) _ (List.getElem?_eq_getElem hl)
theorem slotL_head(d:List Ent):slotL ⟨(headO d).1,0,(headO d).2⟩=d.take 1:=by
 cases d<;>rfl
theorem candL_take(s:QSt)(K dr:Nat):(candL s K dr).take 1=candL s K dr:=by
 unfold candL
 split
 ·split<;>rfl
 ·rfl
theorem isLL_two{w:World}{g n1 n2 c1 c2:Nat}{a1 a2:Option Addr}{d1 d2:List Ent}(hg:w.heap[g]?=some (.cells #[.slice a1 n1 c1,.slice a2 n2 c2] 157 (0,0)))(h1:d1.length=n1)(h2:d2.length=n2)(l1:IsL w a1 c1 d1)(l2:IsL w a2 c2 d2):IsLL w (some ⟨g,0,none⟩) [d1,d2]:=by
 refine⟨by simp,fun i x hx=>?_⟩
 match i,hx with
 | 0,hx=>
  simp at hx;subst hx;exact⟨g,0,a1,c1,rfl,lt_of_block hg,by rw[h1,cell_of_row _ _ _ _ _ _ hg];rfl,l1⟩
 | 1,hx=>
  simp at hx;subst hx;exact⟨g,0,a2,c2,rfl,lt_of_block hg,by rw[h2,cell_of_row _ _ _ _ _ _ hg];rfl,l2⟩
 | i+2,hx=>simp at hx
def NearAt(S x1:Nat)(e1 e2:Int)(u wx:World):Prop:=Below u.heap.size u wx/\wx.heap[x1]?=some (.cells #[.int .u64 e1,.int .i64 e2] 35 (0,0))/\u.heap.size<=x1
theorem _root_.Go.RowKit.Below.box{b:Nat}{u w:World}(h:Below b u w){G:Nat}(hG:b<=G)(x y:Value):Below b u ((w.setCell ⟨G,0,none⟩ x).setCell ⟨G,1,none⟩ y):=(h.setCell hG _).setCell hG _
theorem _root_.Go.RowKit.Below.st{w v x:World}(h:Below w.heap.size w v)(g:Below v.heap.size v x):Below w.heap.size w x:=h.trans (g.mono h.size)
theorem _root_.Go.RowKit.Below.sta{w v x:World}{o:Obj}(h:Below w.heap.size w v)(g:Below (v.alloc o).heap.size (v.alloc o) x):Below w.heap.size w x:=(h.alloc h.size o).trans (g.mono (h.alloc h.size o).size)
theorem relaxed_in(w:World)(base:Nat)(A:QAd)(T K N:Nat)(s:QSt)(t dr:Nat)(h:Que w base A T K s)(ok:QOk K T N s)(hN:N<=1000)(hK:K<=16)(ht:t<T)(h8:T<=8)(hdr:dr<18446744073709551616) :
  Calls prog 112 #[ptr A.B,.int .i64 t,.int .u64 dr] w (EntIs w (relaxQ s T K t dr).1 (relaxQ s T K t dr).2):=by
 obtain⟨S,hS⟩:∃S,w.heap.size=S:=⟨_,rfl⟩;obtain⟨u,hu⟩:∃u,w.alloc (.cells #[.int .u64 0,.int .i64 0] 35)=u:=⟨_,rfl⟩;have bu:Below w.heap.size w u:=by rw[<-hu];exact(Below.refl _ _).alloc (le_refl _) _
 have us:u.heap[S]?=some (.cells #[.int .u64 0,.int .i64 0] 35 (0,0)):=by rw[<-hu,<-hS];exact heap_alloc_new w _
 have H:Aside (Que u base A T K s):=h.below bu;have OK:Aside (QOk K T N s):=ok
 have KC:Aside (∀W,Below u.heap.size u W->W.cell? ⟨A.B,0,none⟩=some (.int .i64 K)/\W.cell? ⟨A.B,2,none⟩=some (.slice (some ⟨A.OR,0,none⟩) T A.oc)/\W.cell? ⟨A.B,3,none⟩=some (ptr A.HB)/\W.cell? ⟨A.OR,t,none⟩=some (ptr (A.L t))):=fun W hW=>by
  obtain⟨ra,sa,q⟩:=H.out.below hW;exact⟨q.fix.cells.1,q.fix.cells.2.2.1,q.fix.cells.2.2.2.1,q.fix.own ht⟩
 have BU:Aside (Below w.heap.size w u):=bu;have US:Aside (u.heap[S]?=some (.cells #[.int .u64 0,.int .i64 0] 35 (0,0))):=us;have HU:Hid _:=hu;have HS:Hid _:=hS
 obtain⟨c2,c3⟩:w.cell? ⟨A.B,2,none⟩=some (.slice (some ⟨A.OR,0,none⟩) T A.oc)/\A.B<w.heap.size:=by
  obtain⟨ra,sa,q⟩:=h;exact⟨q.fix.cells.2.2.1,q.fix.blt⟩
 have c3':A.B<S:=by omega
 have c3n:¬A.B=S:=by omega
 have g1:¬(t:Int)<0:=by omega
 have g2:(t:Int)<(T:Int):=by omega
 have g3:¬(T:Int)<=(t:Int):=by omega
 obtain⟨a1,ha1⟩:∃x,(headO (sortE (s.ls t).flatten)).1.1=x:=⟨_,rfl⟩;obtain⟨a2,ha2⟩:∃x,(headO (sortE (s.ls t).flatten)).1.2=x:=⟨_,rfl⟩;obtain⟨af,haf⟩:∃x,(headO (sortE (s.ls t).flatten)).2=x:=⟨_,rfl⟩;obtain⟨b1,hb1⟩:∃x,(headO (candL s K dr)).1.1=x:=⟨_,rfl⟩;obtain⟨b2,hb2⟩:∃x,(headO (candL s K dr)).1.2=x:=⟨_,rfl⟩;obtain⟨bf,hbf⟩:∃x,(headO (candL s K dr)).2=x:=⟨_,rfl⟩
 have MN:Aside (∀W,Below u.heap.size u W->Calls prog 171 #[ptr (A.L t)] W (EntIs W (a1,a2) af)):=fun W hW=>by
  have:=lminO W base A T K N s t (H.out.below hW) OK.out hK ht;rw[haf,show(headO (sortE (s.ls t).flatten)).1=(a1,a2) from Prod.ext ha1 ha2] at this;exact this
 have CD:Aside (∀W,Below u.heap.size u W->Calls prog 172 #[ptr A.HB,.int .i64 K,.int .u64 dr] W (EntIs W (b1,b2) bf)):=fun W hW=>by
  have:=candO W base A T K N s dr (H.out.below hW) OK.out hN hdr;rw[hbf,show(headO (candL s K dr)).1=(b1,b2) from Prod.ext hb1 hb2] at this;exact this
 obtain⟨l1,hl1⟩:∃l,own1 s t=l:=⟨_,rfl⟩;obtain⟨l2,hl2⟩:∃l,candL s K dr=l:=⟨_,rfl⟩;obtain⟨n1,hn1⟩:∃n,l1.length=n:=⟨_,rfl⟩;obtain⟨n2,hn2⟩:∃n,l2.length=n:=⟨_,rfl⟩
 have L1:Aside (∀W,Calls prog 134 #[.agg #[.int .u64 a1,.int .i64 a2],.bool af] W fun r w'=>∃a cap,r=.returned (.slice a n1 cap)/\(∀X,Below w'.heap.size w' X->IsL X a cap l1)/\Below W.heap.size W w'):=fun W=>by
  have:=listOf_any ⟨(headO (sortE (s.ls t).flatten)).1,0,(headO (sortE (s.ls t).flatten)).2⟩ W;rw[slotL_head,show(sortE (s.ls t).flatten).take 1=l1 from hl1] at this;simp only[ha1,ha2,haf] at this;refine this.mono fun r w' ⟨a,cap,r1,r2,r3⟩=>?_;exact⟨a,cap,by rw[<-hn1];exact r1,fun X hX=>r2.is.below hX,r3⟩
 have L2:Aside (∀W,Calls prog 134 #[.agg #[.int .u64 b1,.int .i64 b2],.bool bf] W fun r w'=>∃a cap,r=.returned (.slice a n2 cap)/\(∀X,Below w'.heap.size w' X->IsL X a cap l2)/\Below W.heap.size W w'):=fun W=>by
  have:=listOf_any ⟨(headO (candL s K dr)).1,0,(headO (candL s K dr)).2⟩ W;rw[slotL_head,candL_take,hl2] at this;rw[hl2] at hb1 hb2 hbf;simp only[hb1,hb2,hbf] at this;refine this.mono fun r w' ⟨a,cap,r1,r2,r3⟩=>?_;exact⟨a,cap,by rw[<-hn2];exact r1,fun X hX=>r2.is.below hX,r3⟩
 obtain⟨e1,he1⟩:∃x,(unl (nearQ s K t dr)).1=x:=⟨_,rfl⟩;obtain⟨e2,he2⟩:∃x,(unl (nearQ s K t dr)).2=x:=⟨_,rfl⟩;obtain⟨ej,hej⟩:∃x,unj (nearQ s K t dr)=x:=⟨_,rfl⟩;obtain⟨ef,hef⟩:∃x,unb (nearQ s K t dr)=x:=⟨_,rfl⟩
 have LE:Aside (∀(W:World)(g:Nat)(p1 p2:Option Addr)(q1 q2:Nat),W.heap[g]?=some (.cells #[.slice p1 n1 q1,.slice p2 n2 q2] 157 (0,0))->IsL W p1 q1 l1->IsL W p2 q2 l2->Calls prog 170 #[.slice (some ⟨g,0,none⟩) 2 2] W fun r w'=>r=.returned (.tuple #[.agg #[.int .u64 e1,.int .i64 e2],.int .i64 ej,.bool ef])/\Below W.heap.size W w'):=fun W g p1 p2 q1 q2 hg i1 i2=>by
  have:=least_any (some ⟨g,0,none⟩) 2 [l1,l2] W (isLL_two hg hn1 hn2 i1 i2);have e:leastL [l1,l2] 2=nearQ s K t dr:=by unfold nearQ;rw[hl1,hl2]
  refine this.mono fun r w' ⟨r1,r2⟩=>⟨?_,r2⟩;rw[r1];show _=Ending.returned _;simp only[List.length_cons,List.length_nil];rw[show(0+1+1:Nat)=2 from rfl,e,he1,he2,hej,hef]
 have E1:Hid _:=he1;have E2:Hid _:=he2;have EF:Hid _:=hef;have hd0:Below u.heap.size u u:=Below.refl _ _;have hd1:Below u.heap.size u u.drew:=hd0.drew;have hd1a:Below u.heap.size u (u.drew.alloc (.cells #[.int .u64 0,.int .i64 0] 35)):=hd1.alloc hd1.size _;have hd0a:Below u.heap.size u (u.alloc (.cells #[.int .u64 0,.int .i64 0] 35)):=hd0.alloc hd0.size _;have hd1b:Below u.heap.size u (u.alloc (.cells #[.int .u64 0,.int .i64 0] 35)).drew:=hd0a.drew;obtain⟨y1,y2,y3,y4⟩:=KC.out u hd0;have t8:T<=8:=h8;clear hu bu us h ok ha1 ha2 haf hb1 hb2 hbf hl1 hl2 hn1 hn2 he1 he2 hej hef;have mx:=mixed;go_enter func112,ntmps112
 go_upto_region 3 with fail
 rw[HU.out]
 go_cut [8,10] (fun s8 s10 wx=>∃G:Nat,s8=.pointer (some ⟨G,0,none⟩)/\s10=.bool ef/\NearAt S G e1 e2 u wx)
 case first=>
  go_region_held3 (fun W=>W.cell? ⟨A.B,0,none⟩=some (.int .i64 K)/\W.cell? ⟨A.B,2,none⟩=some (.slice (some ⟨A.OR,0,none⟩) T A.oc)/\W.cell? ⟨A.B,3,none⟩=some (ptr A.HB)/\W.cell? ⟨A.OR,t,none⟩=some (ptr (A.L t))) (first|with_reducible exact KC.out _ hd0|with_reducible exact KC.out _ hd1|with_reducible exact KC.out _ hd1a|with_reducible exact KC.out _ hd0a|with_reducible exact KC.out _ hd1b|with_reducible exact KC.out _ hd2|with_reducible exact KC.out _ (hd2.alloc hd2.size _)|with_reducible exact KC.out _ hd3|with_reducible exact KC.out _ (hd3.alloc hd3.size _)|with_reducible exact KC.out _ hd4|with_reducible exact KC.out _ (hd4.alloc hd4.size _)|with_reducible exact KC.out _ hd5|with_reducible exact KC.out _ (hd5.alloc hd5.size _)|with_reducible exact KC.out _ hd6|with_reducible exact KC.out _ (hd6.alloc hd6.size _)|with_reducible exact KC.out _ (hd6.box (by first|exact le_refl _|exact hd1.size|exact hd2.size|exact hd3.size|exact hd4.size|exact hd5.size|(have:=hd5.size;omega)) _ _)|with_reducible exact KC.out _ ((hd5.alloc hd5.size _).alloc (hd5.alloc hd5.size _).size _))
   ((first
    | (go_at_call 134;(first|((with_reducible refine Calls.mono (L2.out w4) ?_);rintro r w5 ⟨p2,q2,rfl,k,d⟩;have hd5:Below u.heap.size u w5:=hd4.st d;(try (have bx:=(d.block _ (lt_of_block bx)).trans bx));have k2:=k;have dd3:=dc3.st d)|((with_reducible refine Calls.mono (L2.out (w4.alloc (.cells #[.int .u64 0,.int .i64 0] 35))) ?_);rintro r w5 ⟨p2,q2,rfl,k,d⟩;have hd5:Below u.heap.size u w5:=hd4.sta d;have bx:=(d.block w4.heap.size (by simp)).trans (heap_alloc_new w4 (.cells #[.int .u64 0,.int .i64 0] 35));have k2:=k;have dd3:=dc3.sta d)))
    | (go_at_call 172;(first|((with_reducible refine Calls.mono (CD.out w3 hd3) ?_);rintro r w4 ⟨rfl,d⟩;have hd4:Below u.heap.size u w4:=hd3.st d;(try (have bx:=(d.block _ (lt_of_block bx)).trans bx));have dc3:=d)|((with_reducible refine Calls.mono (CD.out (w3.alloc (.cells #[.int .u64 0,.int .i64 0] 35)) (hd3.alloc hd3.size _)) ?_);rintro r w4 ⟨rfl,d⟩;have hd4:Below u.heap.size u w4:=hd3.sta d;have bx:=(d.block w3.heap.size (by simp)).trans (heap_alloc_new w3 (.cells #[.int .u64 0,.int .i64 0] 35));have dc3:=((Below.refl w3.heap.size w3)).sta d)))
    | (go_at_call 134;(first|((with_reducible refine Calls.mono (L1.out w2) ?_);rintro r w3 ⟨p1,q1,rfl,k,d⟩;have hd3:Below u.heap.size u w3:=hd2.st d;(try (have bx:=(d.block _ (lt_of_block bx)).trans bx));have k1:=k)|((with_reducible refine Calls.mono (L1.out (w2.alloc (.cells #[.int .u64 0,.int .i64 0] 35))) ?_);rintro r w3 ⟨p1,q1,rfl,k,d⟩;have hd3:Below u.heap.size u w3:=hd2.sta d;have bx:=(d.block w2.heap.size (by simp)).trans (heap_alloc_new w2 (.cells #[.int .u64 0,.int .i64 0] 35));have k1:=k)))
    | (go_at_call 171;(first|((with_reducible refine Calls.mono (MN.out u.drew hd1) ?_);rintro r w2 ⟨rfl,d⟩;have hd2:Below u.heap.size u w2:=hd1.st d;(try (have bx:=(d.block _ (lt_of_block bx)).trans bx)))|((with_reducible refine Calls.mono (MN.out (u.drew.alloc (.cells #[.int .u64 0,.int .i64 0] 35)) (hd1.alloc hd1.size _)) ?_);rintro r w2 ⟨rfl,d⟩;have hd2:Below u.heap.size u w2:=hd1.sta d;have bx:=(d.block u.drew.heap.size (by simp)).trans (heap_alloc_new u.drew (.cells #[.int .u64 0,.int .i64 0] 35)))|((with_reducible refine Calls.mono (MN.out (u.alloc (.cells #[.int .u64 0,.int .i64 0] 35)).drew hd1b) ?_);rintro r w2 ⟨rfl,d⟩;have hd2:Below u.heap.size u w2:=hd1b.st d;have bx:w2.heap[u.heap.size]?=some (.cells #[.int .u64 0,.int .i64 0] 35 (0,0)):=(d.block u.heap.size (by show u.heap.size<(u.alloc (.cells #[.int .u64 0,.int .i64 0] 35)).heap.size;simp)).trans (heap_alloc_new u (.cells #[.int .u64 0,.int .i64 0] 35)))))
    | (go_at_call 170;(first|((with_reducible refine Calls.mono (LE.out (w5.alloc (.cells #[.slice p1 n1 q1,.slice p2 n2 q2] 157)) w5.heap.size p1 p2 q1 q2 (heap_alloc_new w5 (.cells #[.slice p1 n1 q1,.slice p2 n2 q2] 157)) (k1 _ (dd3.alloc dd3.size _)) (k2 _ ((Below.refl _ _).alloc (le_refl _) _))) ?_);rintro r w6 ⟨rfl,d⟩;have hd6:Below u.heap.size u w6:=(hd5.alloc hd5.size (.cells #[.slice p1 n1 q1,.slice p2 n2 q2] 157)).st d;(try (have bx:=(d.block _ (Nat.lt_of_lt_of_le (lt_of_block bx) (by simp))).trans ((heap_alloc_old w5 (.cells #[.slice p1 n1 q1,.slice p2 n2 q2] 157) (lt_of_block bx)).trans bx)));(try (have zq0:=(ent0 bx).1;have zq1:=(ent0 bx).2;have zq2:=entf bx 0;have zq3:=entf bx 1;have zq4:=lt_of_block bx)))|((with_reducible refine Calls.mono (LE.out ((w5.alloc (.cells #[.int .u64 0,.int .i64 0] 35)).alloc (.cells #[.slice p1 n1 q1,.slice p2 n2 q2] 157)) (w5.heap.size+1) p1 p2 q1 q2 (by have q:=heap_alloc_new (w5.alloc (.cells #[.int .u64 0,.int .i64 0] 35)) (.cells #[.slice p1 n1 q1,.slice p2 n2 q2] 157);rw[show(w5.alloc (.cells #[.int .u64 0,.int .i64 0] 35)).heap.size=w5.heap.size+1 by simp] at q;exact q) (k1 _ ((dd3.alloc dd3.size (.cells #[.int .u64 0,.int .i64 0] 35)).alloc (dd3.alloc dd3.size (.cells #[.int .u64 0,.int .i64 0] 35)).size (.cells #[.slice p1 n1 q1,.slice p2 n2 q2] 157))) (k2 _ (((Below.refl _ _).alloc (le_refl _) _).alloc (by simp) _))) ?_);rintro r w6 ⟨rfl,d⟩;have hd6:Below u.heap.size u w6:=((hd5.alloc hd5.size (.cells #[.int .u64 0,.int .i64 0] 35)).alloc (hd5.alloc hd5.size (.cells #[.int .u64 0,.int .i64 0] 35)).size (.cells #[.slice p1 n1 q1,.slice p2 n2 q2] 157)).st d;have bx:=(d.block w5.heap.size (by simp<;>omega)).trans ((heap_alloc_old (w5.alloc (.cells #[.int .u64 0,.int .i64 0] 35)) (.cells #[.slice p1 n1 q1,.slice p2 n2 q2] 157) (by simp)).trans (heap_alloc_new w5 (.cells #[.int .u64 0,.int .i64 0] 35)));(try (have zq0:=(ent0 bx).1;have zq1:=(ent0 bx).2;have zq2:=entf bx 0;have zq3:=entf bx 1;have zq4:=lt_of_block bx)))|((with_reducible refine Calls.mono (LE.out ((w5.alloc (.cells #[.slice p1 n1 q1,.slice p2 n2 q2] 157)).alloc (.cells #[.int .u64 0,.int .i64 0] 35)) w5.heap.size p1 p2 q1 q2 ((heap_alloc_old (w5.alloc (.cells #[.slice p1 n1 q1,.slice p2 n2 q2] 157)) (.cells #[.int .u64 0,.int .i64 0] 35) (by simp)).trans (heap_alloc_new w5 (.cells #[.slice p1 n1 q1,.slice p2 n2 q2] 157))) (k1 _ ((dd3.alloc dd3.size (.cells #[.slice p1 n1 q1,.slice p2 n2 q2] 157)).alloc (dd3.alloc dd3.size (.cells #[.slice p1 n1 q1,.slice p2 n2 q2] 157)).size (.cells #[.int .u64 0,.int .i64 0] 35))) (k2 _ (((Below.refl _ _).alloc (le_refl _) _).alloc (by simp) _))) ?_);rintro r w6 ⟨rfl,d⟩;have hd6:Below u.heap.size u w6:=((hd5.alloc hd5.size (.cells #[.slice p1 n1 q1,.slice p2 n2 q2] 157)).alloc (hd5.alloc hd5.size (.cells #[.slice p1 n1 q1,.slice p2 n2 q2] 157)).size (.cells #[.int .u64 0,.int .i64 0] 35)).st d;have bx:w6.heap[w5.heap.size+1]?=some (.cells #[.int .u64 0,.int .i64 0] 35 (0,0)):=(d.block (w5.heap.size+1) (by simp<;>omega)).trans (by have q:=heap_alloc_new (w5.alloc (.cells #[.slice p1 n1 q1,.slice p2 n2 q2] 157)) (.cells #[.int .u64 0,.int .i64 0] 35);rw[show(w5.alloc (.cells #[.slice p1 n1 q1,.slice p2 n2 q2] 157)).heap.size=w5.heap.size+1 by simp] at q;exact q);(try (have zq0:=(ent0 bx).1;have zq1:=(ent0 bx).2;have zq2:=entf bx 0;have zq3:=entf bx 1;have zq4:=lt_of_block bx)))))))
  all_goals go_wp2_with fail
  all_goals go_meet
  all_goals first|exact⟨_,rfl,rfl,hd6.alloc hd6.size _,heap_alloc_new w6 _,hd6.size⟩|exact⟨_,rfl,rfl,hd6.box (by first|exact le_refl _|exact hd1.size|exact hd2.size|exact hd3.size|exact hd4.size|exact hd5.size|(have:=hd5.size;omega)) _ _,entSet2 bx _ _,(by first|exact le_refl _|exact hd1.size|exact hd2.size|exact hd3.size|exact hd4.size|exact hd5.size|(have:=hd5.size;omega))⟩
 case rest=>
  obtain⟨G,rfl,rfl,hx,gx,gu⟩:=hcut;have s2:=(hx.block S (lt_of_block US.out)).trans US.out;have GS:S<G:=Nat.lt_of_lt_of_le (lt_of_block US.out) gu;have nSG:¬S=G:=by omega
  have nGS:¬G=S:=by omega
  have Sl:S<wc.heap.size:=lt_of_block s2;have Gl:G<wc.heap.size:=lt_of_block gx;have DX:Aside (Below u.heap.size u wc):=hx;have WX:Aside (Below w.heap.size w wc):=BU.out.trans (hx.mono BU.out.size);have y0:wc.cell? ⟨S,0,none⟩=some (.int .u64 0):=(ent0 s2).1;have y1:wc.cell? ⟨S,1,none⟩=some (.int .i64 0):=(ent0 s2).2;have z0:=entf s2 0;have z1:=entf s2 1;have k0:=(ent0 gx).1;have k1:=(ent0 gx).2;clear MN CD L1 L2 LE hd0 hd1 hd1a hd0a hd1b c2 c3 c3' c3n
  cases ef with
  | true=>
   have s3:=entSet2 s2 (.int .u64 e1) (.int .i64 e2);have FB:Aside (Below w.heap.size w ((wc.setCell ⟨S,0,none⟩ (.int .u64 e1)).setCell ⟨S,1,none⟩ (.int .i64 e2))):=below_box WX.out (by have:=HS.out;omega) _ _;have v0:=(ent0 s3).1;have v1:=(ent0 s3).2
   have FE:Aside ((relaxQ s T K t dr).1.1=e1/\(relaxQ s T K t dr).1.2=e2/\(relaxQ s T K t dr).2=true):=by
    unfold relaxQ;rw[EF.out,if_pos rfl];exact⟨E1.out,E2.out,rfl⟩
   clear s2 s3 gx hx
   go_wp2_with fail
   refine bodyPost_ret (v:=.tuple #[.agg #[.int .u64 e1,.int .i64 e2],.bool true]) (by simp[results,results112,go_sem,v0,v1]) rfl ⟨by rw[FE.out.1,FE.out.2.1,FE.out.2.2],FB.out⟩
  | false=>
   obtain⟨x1,hx1⟩:∃x,(headO (furtherL s T t)).1.1=x:=⟨_,rfl⟩;obtain⟨x2,hx2⟩:∃x,(headO (furtherL s T t)).1.2=x:=⟨_,rfl⟩;obtain⟨f,hf⟩:∃x,(headO (furtherL s T t)).2=x:=⟨_,rfl⟩;have fu:=further_any wc base A T K N s t (H.out.below hx) OK.out hN hK ht h8;unfold EntIs at fu;rw[hx1,hx2,hf] at fu
   have FE:Aside ((relaxQ s T K t dr).1.1=x1/\(relaxQ s T K t dr).1.2=x2/\(relaxQ s T K t dr).2=f):=by
    unfold relaxQ;rw[EF.out,if_neg (by simp)];exact⟨hx1,hx2,hf⟩
   have S2:Aside (wc.heap[S]?=some (.cells #[.int .u64 0,.int .i64 0] 35 (0,0))):=s2;have GX:Aside (wc.heap[G]?=some (.cells #[.int .u64 e1,.int .i64 e2] 35 (0,0))):=gx;clear s2 gx hx hx1 hx2 hf y0 y1 z0 z1 k0 k1 Sl Gl
   go_wp2_with fail
   refine fu.mono ?_;rintro r wd ⟨rfl,d⟩;have s2:=(d.block S (lt_of_block S2.out)).trans S2.out;have gx:=(d.block G (lt_of_block GX.out)).trans GX.out;have Sl:S<wd.heap.size:=lt_of_block s2;have Gl:G<wd.heap.size:=lt_of_block gx;have WD:Aside (Below w.heap.size w wd):=WX.out.trans (d.mono WX.out.size);have g3:=entSet2 gx (.int .u64 x1) (.int .i64 x2);have k0:=(ent0 gx).1;have k1:=(ent0 gx).2;have k2:=entf gx 0;have k3:=entf gx 1;obtain⟨v,hv⟩:∃v,(wd.setCell ⟨G,0,none⟩ (.int .u64 x1)).setCell ⟨G,1,none⟩ (.int .i64 x2)=v:=⟨_,rfl⟩
   have sv:v.heap[S]?=some (.cells #[.int .u64 0,.int .i64 0] 35 (0,0)):=by
    rw[<-hv];exact((Below.heap_setCell _ ⟨G,1,none⟩ _ S (by show S≠G;omega)).trans (Below.heap_setCell wd ⟨G,0,none⟩ _ S (by show S≠G;omega))).trans s2
   rw[hv] at g3;have WV:Aside (Below w.heap.size w v):=by rw[<-hv];exact below_box WD.out (by have:=HS.out;omega) _ _
   have y0:v.cell? ⟨S,0,none⟩=some (.int .u64 0):=(ent0 sv).1;have y1:v.cell? ⟨S,1,none⟩=some (.int .i64 0):=(ent0 sv).2;have z0:=entf sv 0;have z1:=entf sv 1;have i0:=(ent0 g3).1;have i1:=(ent0 g3).2;have s3:=entSet2 sv (.int .u64 x1) (.int .i64 x2);have v0:=(ent0 s3).1;have v1:=(ent0 s3).2;have FB:Aside (Below w.heap.size w ((v.setCell ⟨S,0,none⟩ (.int .u64 x1)).setCell ⟨S,1,none⟩ (.int .i64 x2))):=below_box WV.out (by have:=HS.out;omega) _ _;have HV:Hid _:=hv;clear s2 gx g3 sv s3 d fu hv;go_upto_region 6 with fail
   rw[HV.out]
   go_wp2_with fail
   refine bodyPost_ret (v:=.tuple #[.agg #[.int .u64 x1,.int .i64 x2],.bool f]) (by simp[results,results112,go_sem,v0,v1]) rfl ⟨by rw[FE.out.1,FE.out.2.1,FE.out.2.2],FB.out⟩
end
section
open Go.RowKit Go.Lib Go.Sort Go.Maps
theorem tabF_succ(A:QAd)(k R:Nat):∀p t,fput (fput (tabF A k) 1 k (pSlot {A with TC:=lset A.TC k R} k)) 2 k (pOwn A k) p t=tabF {A with TC:=lset A.TC k R} (k+1) p t:=by
 intro p t;unfold fput;by_cases e2:p=2/\t=(k:Int)
 ·obtain⟨rfl,rfl⟩:=e2;rw[if_pos ⟨rfl,rfl⟩];unfold tabF;rw[if_neg (by omega),if_neg (by omega),if_pos (by omega)];simp[pOwn]
 ·rw[if_neg e2];by_cases e1:p=1/\t=(k:Int)
  ·obtain⟨rfl,rfl⟩:=e1;rw[if_pos ⟨rfl,rfl⟩];unfold tabF;rw[if_neg (by omega),if_pos (by omega)];simp
  ·rw[if_neg e1];unfold tabF;by_cases c3:p=3/\t=0
   ·rw[if_pos c3,if_pos c3];rfl
   ·rw[if_neg c3,if_neg c3];by_cases c1:p=1/\0<=t/\t<(k:Int)
    ·rw[if_pos c1,if_pos (by omega)];have:t.toNat≠k:=by omega
     unfold pSlot;rw[show({A with TC:=lset A.TC k R}:QAd).TC t.toNat=A.TC t.toNat from lset_ne _ _ this]
    ·have r1:¬(p=1/\0<=t/\t<((k+1:Nat):Int)):=by omega
     rw[if_neg c1,if_neg r1];by_cases c2:p=2/\0<=t/\t<(k:Int)
     ·have r2:p=2/\0<=t/\t<((k+1:Nat):Int):=by omega
      rw[if_pos c2,if_pos r2];rfl
     ·have r2:¬(p=2/\0<=t/\t<((k+1:Nat):Int)):=by omega
      rw[if_neg c2,if_neg r2]
theorem tabF_zero(A:QAd):∀p t,fput (fun _ _=>none) 3 0 (pShared A) p t=tabF A 0 p t:=by
 intro p t;unfold fput tabF;by_cases c3:p=3/\t=0
 ·rw[if_pos c3,if_pos c3]
 ·rw[if_neg c3,if_neg c3,if_neg (by omega),if_neg (by omega)]
def TableIs(w:World)(A:QAd)(T:Nat)(r:Ending)(w':World):Prop:=∃(M QC:Nat)(TC:Nat->Nat),r=.returned (.map (some M))/\Below w.heap.size w w'/\Tab w' M (tabF {A with M:=M,QC:=QC,TC:=TC} T)/\w'.heap[QC]?=some (.cells #[ptr A.B] 63 (0,0))/\(∀i,i<T->w'.heap[TC i]?=some (.cells #[.int .i64 i] 3 (0,0)))
theorem table_any(w:World)(A:QAd)(T:Nat)(x0 x4:Value)(hB:w.heap[A.B]?=some (.cells #[x0,ptr A.SB,.slice (some ⟨A.OR,0,none⟩) T A.oc,ptr A.HB,x4] 140 (0,0)))
  (hrow:∀i,i<T->w.cell? ⟨A.OR,i,none⟩=some (ptr (A.L i))) (hor:A.OR<w.heap.size) (h8:T<=8) :
  Calls prog 62 #[ptr A.B] w (TableIs w A T):=by
 obtain⟨S,hS⟩:∃S,w.heap.size=S:=⟨_,rfl⟩;obtain⟨u,hu⟩:∃u,w.alloc (.cells #[ptr A.B] 63)=u:=⟨_,rfl⟩;have bu:Below w.heap.size w u:=by rw[<-hu];exact(Below.refl _ _).alloc (le_refl _) _
 have us:u.heap[S]?=some (.cells #[ptr A.B] 63 (0,0)):=by rw[<-hu,<-hS];exact heap_alloc_new w _
 have uz:u.heap.size=S+1:=by rw[<-hu,<-hS];simp
 have hBl:=lt_of_block hB
 have KC:Aside (∀W:World,(∀k,k<u.heap.size->W.heap[k]?=u.heap[k]?)->W.cell? ⟨S,0,none⟩=some (ptr A.B)/\W.cell? ⟨A.B,1,none⟩=some (ptr A.SB)/\W.cell? ⟨A.B,2,none⟩=some (.slice (some ⟨A.OR,0,none⟩) T A.oc)/\W.cell? ⟨A.B,3,none⟩=some (ptr A.HB)/\∀i,i<T->W.cell? ⟨A.OR,i,none⟩=some (ptr (A.L i))):=fun W hW=>by
  have b1:=((hW A.B (by omega)).trans (bu.block A.B hBl)).trans hB;have b2:=(hW S (by omega)).trans us;refine⟨by rw[cell_of_row _ _ _ _ _ _ b2];rfl,by rw[cell_of_row _ _ _ _ _ _ b1];rfl,by rw[cell_of_row _ _ _ _ _ _ b1];rfl,by rw[cell_of_row _ _ _ _ _ _ b1];rfl,fun i hi=>?_⟩;have b3:=(hW A.OR (by omega)).trans (bu.block A.OR hor);exact(World.cell?_of_block (a:=⟨A.OR,i,none⟩) b3).trans (hrow i hi)
 have hmm:=@run_makeMap prog;have hmf:∀(fn:Fn)(first cap:Array Value)(w:World),(Instr.makeFunc fn first cap).run prog w=.ok (.func fn first cap) w:=fun _ _ _ _=>rfl;obtain⟨w1,st1,tb1,gr1⟩:=(show TabN (u.alloc (.map #[] 0)).drew u.heap.size 0 (fun _ _=>none) from(TabN.made u).kept rfl).store (by omega) (p:=3) (t:=0) (show(Lit.int .i64 3).wf=true by decide) (show(Lit.int .i64 0).wf=true by decide) (pShared A);obtain⟨c0,c1,c2,c3,_⟩:=KC.out u (fun k hk=>rfl);unfold pShared at st1;rw[uz] at st1 tb1 gr1;have hk1:∀k,k<u.heap.size->(u.alloc (.map #[] 0)).drew.heap[k]?=u.heap[k]?:=fun k hk=>Below.heap_alloc u _ k hk;have hk2:∀k,k<u.heap.size->w1.heap[k]?=u.heap[k]?:=fun k hk=>(gr1.block k (by show k<(u.alloc (.map #[] 0)).heap.size;simp;omega) (by intro e;injection e with e;omega)).trans (hk1 k hk);have hk3:∀k,k<u.heap.size->(u.alloc (.map #[] 0)).heap[k]?=u.heap[k]?:=fun k hk=>Below.heap_alloc u _ k hk;have HU:Hid _:=hu;have BU:Aside (Below w.heap.size w u):=bu;have US:Aside (u.heap[S]?=some (.cells #[ptr A.B] 63 (0,0))):=us;clear hB hrow us bu hu;go_enter func62,ntmps62
 have mx:=mixed;go_upto_region 1 with fail
 rw[HU.out]
 go_cut [3] (fun s3 wx=>s3=.map (some (S+1))/\wx=w1)
 case first=>
  go_region_held3 (fun W=>W.cell? ⟨S,0,none⟩=some (ptr A.B)/\W.cell? ⟨A.B,3,none⟩=some (ptr A.HB)) (first|with_reducible exact⟨c0,c3⟩|with_reducible exact⟨(KC.out _ hk1).1,(KC.out _ hk1).2.2.2.1⟩|with_reducible exact⟨(KC.out _ hk2).1,(KC.out _ hk2).2.2.2.1⟩|with_reducible exact⟨(KC.out _ hk3).1,(KC.out _ hk3).2.2.2.1⟩|exact⟨c0,c3⟩)
   (fail)
  all_goals go_wp2_with fail
  all_goals go_meet
  all_goals exact⟨rfl,rfl⟩
 case rest=>
  obtain⟨rfl,rfl⟩:=hcut;have wt0:∀k:Nat,k<T->wfI (k:Int):=fun k hk=>by unfold wfI;simp[Lit.wf,IntKind.min,IntKind.max,IntKind.bits,IntKind.signed];omega
  have B1:Below u.heap.size u wc:=⟨gr1.os,gr1.tape,gr1.output,by have:=gr1.size;have h:(u.alloc (.map #[] 0)).drew.heap.size=u.heap.size+1:=(by show(u.alloc (.map #[] 0)).heap.size=_;simp);omega,hk2⟩;have T0:TabN wc (S+1) 1 (tabF {A with M:=S+1,QC:=S,TC:=A.TC} 0):=tb1.congr (tabF_zero {A with M:=S+1,QC:=S,TC:=A.TC});obtain⟨i0,i1,i2,i3,i4⟩:=KC.out wc hk2;have I0:Aside (∃TC,TabN wc (S+1) (2*0+1) (tabF {A with M:=S+1,QC:=S,TC:=TC} 0)/\Below u.heap.size u wc/\∀i,i<0->wc.heap[TC i]?=some (.cells #[.int .i64 i] 3 (0,0))):=⟨A.TC,T0,B1,fun i hi=>absurd hi (by omega)⟩;clear tb1 gr1 st1 hk1 hk2 hk3 c0 c1 c2 c3 T0 B1
  go_wp2_with fail
  go_loopg [25] T (fun kx s25 wr=>∃(k:Nat),s25=.int .i64 k/\k<=T/\T-k<=kx/\Aside (∃TC,TabN wr (S+1) (2*k+1) (tabF {A with M:=S+1,QC:=S,TC:=TC} k)/\Below u.heap.size u wr/\∀i,i<k->wr.heap[TC i]?=some (.cells #[.int .i64 i] 3 (0,0))))
  case atStart=>exact⟨0,rfl,by omega,by omega,I0⟩
  case round=>
   clear I0 i0 i1 i2 i3 i4;obtain⟨k,rfl,hk,hkx,I⟩:=hrel;obtain⟨TC,tb,bb,tc⟩:=I.out;by_cases hlt:k<T
   ·have hz:(k:Int)<(T:Int):=by omega
    obtain⟨i0,i1,i2,i3,i4⟩:=KC.out wr bb.block;have i5:=i4 k hlt;obtain⟨R,hR⟩:∃R,wr.heap.size=R:=⟨_,rfl⟩;obtain⟨u4,hu4⟩:∃x,wr.alloc (.cells #[.int .i64 k] 3)=x:=⟨_,rfl⟩;have bu4:Below wr.heap.size wr u4:=by rw[<-hu4];exact(Below.refl _ _).alloc (le_refl _) _
    have us4:u4.heap[R]?=some (.cells #[.int .i64 k] 3 (0,0)):=by rw[<-hu4,<-hR];exact heap_alloc_new wr _
    have tb4:TabN u4.drew (S+1) (2*k+1) (tabF {A with M:=S+1,QC:=S,TC:=TC} k):=tb.kept (bu4.block (S+1) tb.lt);obtain⟨w5,st5,tb5,gr5⟩:=tb4.store (by omega) (p:=1) (t:=k) (show(Lit.int .i64 1).wf=true by decide) (wt0 k hlt) (pSlot {A with M:=S+1,QC:=S,TC:=lset TC k R} k);obtain⟨w6,st6,tb6,gr6⟩:=tb5.store (by omega) (p:=2) (t:=k) (show(Lit.int .i64 2).wf=true by decide) (wt0 k hlt) (pOwn {A with M:=S+1,QC:=S,TC:=TC} k);have RS:S+1<R:=by rw[<-hR];exact tb.lt
    have ru4:R<u4.heap.size:=lt_of_block us4;have us5:w5.heap[R]?=some (.cells #[.int .i64 k] 3 (0,0)):=(gr5.block R ru4 (by intro e;injection e with e;omega)).trans us4;have us6:w6.heap[R]?=some (.cells #[.int .i64 k] 3 (0,0)):=(gr6.block R (lt_of_block us5) (by intro e;injection e with e;omega)).trans us5;have b4:Below u.heap.size u u4:=bb.trans (bu4.mono bb.size);have b5:Below u.heap.size u w5:=b4.trans ⟨gr5.os,gr5.tape,gr5.output,gr5.size,fun j hj=>gr5.block j (by show j<u4.heap.size;have:=b4.size;omega) (by intro e;injection e with e;omega)⟩;have b6:Below u.heap.size u w6:=b5.trans ⟨gr6.os,gr6.tape,gr6.output,gr6.size,fun j hj=>gr6.block j (by have:=b5.size;omega) (by intro e;injection e with e;omega)⟩
    have I6:Aside (∃TC,TabN w6 (S+1) (2*(k+1)+1) (tabF {A with M:=S+1,QC:=S,TC:=TC} (k+1))/\Below u.heap.size u w6/\∀i,i<k+1->w6.heap[TC i]?=some (.cells #[.int .i64 i] 3 (0,0))):=by
     refine⟨lset TC k R,tb6.congr (tabF_succ {A with M:=S+1,QC:=S,TC:=TC} k R),b6,fun i hi=>?_⟩;by_cases e:i=k
     ·subst e;rw[lset_same];exact us6
     ·rw[lset_ne _ _ e];have h1:=tc i (by omega);have l1:=lt_of_block h1;have h2:=(bu4.block _ l1).trans h1
      have ne:TC i≠S+1:=fun e=>by
       rw[e] at h1;obtain⟨es,c,hm⟩:=(tb.tab (by omega)).isMap;rw[h1] at hm
       cases hm
      have h3:=(gr5.block (TC i) (lt_of_block h2) (by intro e;injection e with e;exact ne e)).trans h2;exact(gr6.block (TC i) (lt_of_block h3) (by intro e;injection e with e;exact ne e)).trans h3
    obtain⟨j0,j1,j2,j3,_⟩:=KC.out u4 b4.block;obtain⟨m0,m1,m2,m3,_⟩:=KC.out u4.drew b4.block;obtain⟨n0,n1,n2,n3,_⟩:=KC.out w5 b5.block;have x4:u4.cell? ⟨R,0,none⟩=some (.int .i64 k):=by rw[cell_of_row _ _ _ _ _ _ us4];rfl
    have x4d:u4.drew.cell? ⟨R,0,none⟩=some (.int .i64 k):=x4;have x5:w5.cell? ⟨R,0,none⟩=some (.int .i64 k):=by rw[cell_of_row _ _ _ _ _ _ us5];rfl
    unfold pSlot at st5;rw[show(QAd.TC {A with M:=S+1,QC:=S,TC:=lset TC k R} k)=R from lset_same _ _ _] at st5;unfold pOwn at st6;have HU4:Hid _:=hu4;clear tb tc bb tb4 tb5 tb6 gr5 gr6 us4 us5 us6 b4 b5 b6 hu4 i4 bu4 I;go_upto_region 5 with fail
    rw[HU4.out]
    go_cut [30] (fun s30 wx=>wx=w5)
    case first=>
     go_region_held3 (fun W=>W.cell? ⟨S,0,none⟩=some (ptr A.B)/\W.cell? ⟨A.B,1,none⟩=some (ptr A.SB)/\W.cell? ⟨R,0,none⟩=some (.int .i64 k)) (first|with_reducible exact⟨j0,j1,x4⟩|with_reducible exact⟨m0,m1,x4d⟩|with_reducible exact⟨n0,n1,x5⟩)
      (fail)
     all_goals go_wp2_with fail
     all_goals go_meet
     all_goals exact rfl
    case rest=>
     subst hcut
     go_wp2
     go_roundg (T-(k+1))
     case measure=>omega
     case rel=>exact⟨k+1,by go_num,by omega,le_refl _,I6⟩
   ·have hz:¬(k:Int)<(T:Int):=by omega
    have ek:k=T:=by omega
    have FIN:Aside (TableIs w A T (.returned (.map (some (S+1)))) wr):=by
     refine⟨S+1,S,TC,rfl,BU.out.trans (bb.mono BU.out.size),?_,(bb.block S (lt_of_block US.out)).trans US.out,?_⟩
     ·rw[<-ek];exact tb.tab (by omega)
     ·rw[<-ek];exact tc
    clear tb bb tc I ek
    go_wp2
    go_ret;exact FIN.out
end
section
open Go.RowKit Go.Lib Go.Sort
structure NewI(w:World)(S T K k:Nat)(a:Option Addr)(cap:Nat)(L:Nat->Nat)(wr:World):Prop where
 low:Below S w wr
 head:wr.heap[S+3]?=some (.cells #[.int .i64 K,ptr (S+1),.slice a k cap,ptr (S+2),.map none] 140 (0,0))
 slt:Slt wr (S+1) S T (fun _=>Pl.zero)
 shr:ShrA wr (S+2) 0 [] none
 row:wr.ownsRow (S+4) 141 1 (.slice a k cap) k ((List.range k).map fun i=>ptr (L i))
 own:∀i,i<k->LsmA wr S (L i) [] none
 inj:∀i j,i<k->j<k->L i=L j->i=j
theorem infoP:∃i,prog.info? 141=some i/\i.zero=some (.pointer none)/\i.size=1/\i.bytes=8:=by
 have h:(prog.info? 141).map (fun i=>(i.zero,i.size,i.bytes))=some (some (.pointer none),1,8):=by kernel_rfl
 obtain⟨i,h1,h2⟩:=Option.map_eq_some_iff.1 h;simp at h2;exact⟨i,h1,h2.1,h2.2.1,h2.2.2⟩
theorem que_set2{w:World}{B:Nat}{x0 x1 x2 x3 x4:Value}{U:TypeId}(h:w.heap[B]?=some (.cells #[x0,x1,x2,x3,x4] U (0,0)))(v:Value):(w.setCell ⟨B,2,none⟩ v).heap[B]?=some (.cells #[x0,x1,v,x3,x4] U (0,0)):=by
 simp[World.setCell,Array.getElem?_modify,h]
theorem que_set4{w:World}{B:Nat}{x0 x1 x2 x3 x4:Value}{U:TypeId}(h:w.heap[B]?=some (.cells #[x0,x1,x2,x3,x4] U (0,0)))(v:Value):(w.setCell ⟨B,4,none⟩ v).heap[B]?=some (.cells #[x0,x1,x2,x3,v] U (0,0)):=by
 simp[World.setCell,Array.getElem?_modify,h]
theorem que_cells{w:World}{B:Nat}{x0 x1 x2 x3 x4:Value}{U:TypeId}(h:w.heap[B]?=some (.cells #[x0,x1,x2,x3,x4] U (0,0))):w.cell? ⟨B,2,none⟩=some x2/\w.cell? ⟨B,4,none⟩=some x4:=⟨by rw[cell_of_row _ _ _ _ _ _ h];rfl,by rw[cell_of_row _ _ _ _ _ _ h];rfl⟩
theorem NewI.step{w wr:World}{S T K k cap:Nat}{a:Option Addr}{L:Nat->Nat}(h:NewI w S T K k a cap L wr)(hk:k<=100)(hS:S<=w.heap.size)(R:Nat)(hR:wr.heap.size=R)(ty:TypeId)(X:World)(hX:(wr.drew.alloc (.cells #[.slice none 0 0] 190)).alloc (.cells #[ptr R] 141)=X) :
  ∃r t' w4,(Builtin.append_ #[137,137] ty #[.slice a k cap,.slice (some ⟨R+1,0,none⟩) 1 1]).run prog X=.ok (.slice r (k+1) t') w4/\
   w4.cell? ⟨S+3,2,none⟩=some (.slice a k cap)/\w4.frozen? ⟨S+3,2,none⟩=false/\NewI w S T K (k+1) r t' (lset L k R) (w4.setCell ⟨S+3,2,none⟩ (.slice r (k+1) t')):=by
 have b1:Below wr.heap.size wr X:=by rw[<-hX];exact((Below.refl wr.heap.size wr).drew.alloc (le_refl _) _).alloc (by show wr.heap.size<=(wr.alloc _).heap.size;simp) _
 have xz:X.heap.size=R+2:=by rw[<-hX,<-hR];show((wr.alloc _).alloc _).heap.size=_;simp
 have xR:X.heap[R]?=some (.cells #[.slice none 0 0] 190 (0,0)):=by
  rw[<-hX,<-hR];exact(Below.heap_alloc _ _ _ (by show wr.heap.size<(wr.alloc _).heap.size;simp)).trans (heap_alloc_new wr.drew _)
 have xP:X.heap[R+1]?=some (.cells #[ptr R] 141 (0,0)):=by
  have:=heap_alloc_new (wr.drew.alloc (.cells #[.slice none 0 0] 190)) (.cells #[ptr R] 141);rw[show(wr.drew.alloc (.cells #[.slice none 0 0] 190)).heap.size=R+1 by show(wr.alloc _).heap.size=_;simp[hR],hX] at this;exact this
 have S3:S+3<wr.heap.size:=lt_of_block h.head;obtain⟨i,hi,hz,hs,hby⟩:=infoP;have hrowX:=own_below h.row b1
 obtain⟨v',w4,k1,k2,k3,k4⟩:=run_append_own (P:=prog) X (S+4) 137 ty 141 i _ 1 8 underlying137 hi hz hs hby rfl (by omega) _ k _ hrowX ⟨R+1,0,none⟩ 1 1 [ptr R] rfl
  (fun j u hj=>by
   obtain⟨rfl,rfl⟩:j=0/\u=ptr R:=by
    cases j with
    | zero=>simp at hj;exact⟨rfl,hj.symm⟩
    | succ j=>simp at hj
   show X.cell? ⟨R+1,0+0,none⟩=_;rw[cell_of_row _ _ _ _ _ _ xP];rfl) (by intro u hu;simp at hu;subst hu;rfl) (by unfold maxLen;omega) (by omega) (by omega)
 have e:∃r t',v'=.slice r (k+1) t':=by
  rcases k2.2 with⟨e,e0⟩|⟨g,cap',cur,e,_⟩
  ·omega
  ·exact⟨_,_,e⟩
 obtain⟨r,t',rfl⟩:=e;have ne:∀{j:Nat} {ds:Array Value} {U:TypeId},X.heap[j]?=some (.cells ds U (0,0))->U≠141->some j≠(Value.slice a k cap).ownBlock:=fun hj hU=>own_ne hrowX hj (fun e=>hU e.symm);have hB4:=(k3.block (S+3) (by omega) (ne ((b1.block _ S3).trans h.head) (by decide))).trans ((b1.block _ S3).trans h.head);have nS:∀{j:Nat} {ds:Array Value} {U:TypeId},w4.heap[j]?=some (.cells ds U (0,0))->U≠140->j≠S+3:=fun hj hU=>ne_type hj hB4 hU;obtain⟨sc,hsc⟩:=h.slt.rowT;obtain⟨hc,hhc⟩:=h.shr.head;refine⟨r,t',w4,k1,(que_cells hB4).1,by simp[World.frozen?,hB4],?_⟩;have f1:Fr (fun j=>some j=(Value.slice a k cap).ownBlock) X w4:=⟨k3.size,fun j hj hx=>k3.block j hj hx⟩;have f2:Fr (fun j=>j=S+3) w4 (w4.setCell ⟨S+3,2,none⟩ (.slice r (k+1) t')):=⟨by simp[World.setCell],fun j hj hx=>Below.heap_setCell w4 ⟨S+3,2,none⟩ _ j hx⟩
 have keep:∀{j:Nat} {ds:Array Value} {U:TypeId},X.heap[j]?=some (.cells ds U (0,0))->U≠141->U≠140->(w4.setCell ⟨S+3,2,none⟩ (.slice r (k+1) t')).heap[j]?=X.heap[j]?:=fun {j} {ds} {U} hj h1 h2=>by
  have q1:=k3.block j (lt_of_block hj) (ne hj h1);exact(f2.2 j (lt_of_block (q1.trans hj)) (nS (q1.trans hj) h2)).trans q1
 have lk:∀(j:Nat),LsmA X S j [] none->LsmA (w4.setCell ⟨S+3,2,none⟩ (.slice r (k+1) t')) S j [] none:=fun j hj=>by
  obtain⟨cap',bs,e1,e2,e3,e4⟩:=hj;have:bs=[]:=List.map_eq_nil_iff.1 e1;subst this;refine⟨cap',[],rfl,e2,(keep e3 (by decide) (by decide)).trans e3,?_⟩;rcases e4.row.2 with⟨q,_⟩|⟨g,c9,cur,q,_⟩
  ·rw[q];exact RowB.nil _ _ _
  ·injection q with q;cases q
 refine⟨?_,que_set2 hB4 _,?_,?_,?_,fun i hi=>?_,fun i j hi hj hij=>?_⟩
 ·have b2:Below S w X:=h.low.trans (b1.mono (by omega));have b3:Below S X w4:=⟨k3.os,k3.tape,k3.output,k3.size,fun j hj=>k3.block j (by omega) (fun e=>by have:=(World.ownsRow.lt hrowX j e.symm).1;omega)⟩;exact(b2.trans b3).setCell (by show S<=S+3;omega) _
 ·have hs1:=(b1.block _ h.slt.blt).trans h.slt.head;have hs2:=(b1.block _ h.slt.rlt).trans hsc;exact h.slt.of_blocks ((keep hs1 (by decide) (by decide)).trans (b1.block _ h.slt.blt)) ((keep hs2 (by decide) (by decide)).trans (b1.block _ h.slt.rlt))
 ·have hs1:=(b1.block _ (lt_of_block hhc)).trans hhc;obtain⟨n,c9,e1,bs,e2,e3,e4⟩:=h.shr;have:bs=[]:=List.map_eq_nil_iff.1 e2;subst this;refine⟨n,c9,((keep hs1 (by decide) (by decide)).trans (b1.block _ (lt_of_block hhc))).trans e1,[],rfl,e3,?_⟩;rcases e4.row.2 with⟨q,_⟩|⟨g,c9,cur,q,_⟩
  ·rw[q];exact RowB.nil _ _ _
  ·injection q with q;cases q
 ·have k2':=own_fr k2 f2 (fun g cs hg _=>nS hg (by decide))
  have e:((List.range (k+1)).map fun i=>ptr (lset L k R i))=((List.range k).map fun i=>ptr (L i))++[ptr R]:=by
   rw[range_succ,List.map_append]
   have e9:((List.range k).map fun i=>ptr (lset L k R i))=(List.range k).map fun i=>ptr (L i):=List.map_congr_left fun i hi=>by
    rw[lset_ne _ _ (by have:=List.mem_range.1 hi;omega)]
   rw[e9];show _++[ptr (lset L k R k)]=_;rw[lset_same]
  rw[e];exact k2'
 ·by_cases e:i=k
  ·subst e;rw[lset_same];exact lk R ⟨0,[],rfl,by omega,xR,RowB.nil _ _ _⟩
  ·rw[lset_ne _ _ e];exact lk _ ((h.own i (by omega)).below b1)
 ·have lt:∀q,q<k->L q<R:=fun q hq=>by
   obtain⟨cs,hc⟩:=(h.own q hq).head;rw[<-hR];exact lt_of_block hc
  by_cases e1:i=k
  ·by_cases e2:j=k
   ·omega
   ·subst e1;rw[lset_same,lset_ne _ _ e2] at hij;have:=lt j (by omega);omega
  ·by_cases e2:j=k
   ·subst e2;rw[lset_same,lset_ne _ _ e1] at hij;have:=lt i (by omega);omega
   ·rw[lset_ne _ _ e1,lset_ne _ _ e2] at hij;exact h.inj i j (by omega) (by omega) hij
def NewIs(w:World)(T K:Nat)(r:Ending)(w':World):Prop:=∃A:QAd,r=.returned (.tuple #[ptr A.B,.int .i64 0])/\Que w' w.heap.size A T K newQ/\Below w.heap.size w w'
theorem NewI.done{w wr w':World}{S T K cap:Nat}{a:Option Addr}{L:Nat->Nat}(h:NewI w S T K T a cap L wr)(h1:1<=T)(hS:w.heap.size=S)(OR:Nat)(ha:a=some ⟨OR,0,none⟩)(M QC:Nat)(TC:Nat->Nat)(b:Below wr.heap.size wr w')
  (tb:Tab w' M (tabF ⟨S+3,S+1,S,OR,cap,L,S+2,M,QC,TC⟩ T)) (qc:w'.heap[QC]?=some (.cells #[ptr (S+3)] 63 (0,0))) (tc:∀i,i<T->w'.heap[TC i]?=some (.cells #[.int .i64 i] 3 (0,0))) :
  w'.cell? ⟨S+3,4,none⟩=some (.map none)/\w'.frozen? ⟨S+3,4,none⟩=false/\NewIs w T K (.returned (.tuple #[ptr (S+3),.int .i64 0])) (w'.setCell ⟨S+3,4,none⟩ (.map (some M))):=by
 have hB:=(b.block _ (lt_of_block h.head)).trans h.head;subst ha;refine⟨(que_cells hB).2,by simp[World.frozen?,hB],⟨S+3,S+1,S,OR,cap,L,S+2,M,QC,TC⟩,rfl,⟨fun _=>none,none,?_⟩,?_⟩
 ·have f:Fr (fun j=>j=S+3) w' (w'.setCell ⟨S+3,4,none⟩ (.map (some M))):=⟨by simp[World.setCell],fun j hj hx=>Below.heap_setCell w' ⟨S+3,4,none⟩ _ j hx⟩;have nS:∀{j:Nat} {ds:Array Value} {U:TypeId},w'.heap[j]?=some (.cells ds U (0,0))->U≠140->¬j=S+3:=fun hj hU=>ne_type hj hB hU;have kp:∀{j:Nat} {ds:Array Value} {U:TypeId},w'.heap[j]?=some (.cells ds U (0,0))->U≠140->(w'.setCell ⟨S+3,4,none⟩ (.map (some M))).heap[j]?=w'.heap[j]?:=fun hj hU=>f.2 _ (lt_of_block hj) (nS hj hU);have slt:=h.slt.below b;have shr:=h.shr.below b;obtain⟨sc,hsc⟩:=slt.rowT;obtain⟨hc,hhc⟩:=shr.head;have hrow:=own_below h.row b;refine⟨⟨que_set4 hB _,?_,?_,(kp qc (by decide)).trans qc,fun i hi=>(kp (tc i hi) (by decide)).trans (tc i hi)⟩,slt.of_blocks (kp slt.head (by decide)) (kp hsc (by decide)),fun i hi=>?_,?_,h.inj,fun i j hi hj hij x hx=>by(cases hx),fun i hi x hx=>by(cases hx),by show w.heap.size<=S;omega,by show w.heap.size<=S+2;omega⟩
  ·rcases hrow.2 with⟨e,e0⟩|⟨g,cap',cur,e,_,hg,hn,hc',hs,ht⟩
   ·omega
   ·injection e with e1 _ e3
    injection e1 with e1
    injection e1 with e1
    subst e1 e3;refine⟨cur,(kp hg (by decide)).trans hg,fun i hi=>?_⟩;have:=World.ownsRow.cellAt hrow i (by omega);rw[cell_of_row _ _ _ _ _ _ hg] at this;simp only[List.getElem?_map,List.getElem?_range hi,Option.map_some] at this;simpa using this
  ·refine tb.of_block (f.2 _ tb.lt fun e=>?_);obtain⟨es,c,hm⟩:=tb.isMap;have e':M=S+3:=e;rw[e',hB] at hm
   cases hm
  ·have li:=(h.own i hi).below b;rw[hS];obtain⟨cs,hcs⟩:=li.head;exact li.fr f (nS hcs (by decide)) (fun k hk=>by cases hk) (fun k es he=>nS he (by decide))
  ·exact shr.fr f (nS hhc (by decide)) (fun k hk=>by cases hk) (fun k es he=>nS he (by decide))
 ·rw[hS];exact(h.low.trans (b.mono (by have:=lt_of_block h.head;omega))).setCell (by show S<=S+3;omega) _
theorem qnew_in(T K:Nat)(w:World)(h1:1<=T)(h8:T<=8)(hK:K<=16) :
  Calls prog 29 #[.int .i64 T,.int .i64 K] w (NewIs w T K):=by
 obtain⟨S,hS⟩:∃S,w.heap.size=S:=⟨_,rfl⟩;have sn:=slNew_in T w S hS h1 h8;have HS:Hid _:=hS;have g1:¬(K:Int)<0:=by omega
 have g2:¬(16:Int)<(K:Int):=by omega
 clear hS;go_enter func29,ntmps29
 go_wp2_with fail
 refine sn.mono ?_;rintro r w1 ⟨rfl,sl1,b1,z1⟩;have nw:=snew_any w1;obtain⟨w2,hw2⟩:∃x,w1.alloc (.cells #[.int .u64 0,.slice none 0 0] 188)=x:=⟨_,rfl⟩;have bw2:Below w1.heap.size w1 w2:=by rw[<-hw2];exact(Below.refl _ _).alloc (le_refl _) _
 have z2:w2.heap.size=S+3:=by rw[<-hw2];simp[z1]
 have h2:w2.heap[S+2]?=some (.cells #[.int .u64 0,.slice none 0 0] 188 (0,0)):=by rw[<-hw2,<-z1];exact heap_alloc_new w1 _
 obtain⟨w3,hw3⟩:∃x,w2.alloc (.cells #[.int .i64 K,ptr (S+1),.slice none 0 0,ptr (S+2),.map none] 140)=x:=⟨_,rfl⟩;have bw3:Below w2.heap.size w2 w3:=by rw[<-hw3];exact(Below.refl _ _).alloc (le_refl _) _
 have h3:w3.heap[S+3]?=some (.cells #[.int .i64 K,ptr (S+1),.slice none 0 0,ptr (S+2),.map none] 140 (0,0)):=by rw[<-hw3,<-z2];exact heap_alloc_new w2 _
 have I3:Aside (NewI w S T K 0 none 0 (fun _=>0) w3):=by
  refine⟨b1.trans ((bw2.trans (bw3.mono bw2.size)).mono (by omega)),h3,(sl1.below bw2).below bw3,⟨0,0,(bw3.block _ (by omega)).trans h2,[],rfl,rfl,RowB.nil _ _ _⟩,World.ownsRow_nil _ _ _ _,fun i hi=>absurd hi (by omega),fun i j hi=>absurd hi (by omega)⟩
 rw[z1] at nw;have HW2:Hid _:=hw2;have HW3:Hid _:=hw3;have Z2:Hid _:=z2;clear sl1 b1 bw2 bw3 h2 h3 hw3 sn
 go_wp2_with fail
 refine nw.mono ?_;rintro r wx ⟨rfl,hwx⟩;rw[hw2] at hwx;subst hwx;clear hw2 nw
 go_wp2_with fail
 rw[HW3.out]
 go_loopg [29] T (fun kx s29 wr=>∃(k cap:Nat)(a:Option Addr)(L:Nat->Nat),s29=.int .i64 k/\k<=T/\T-k<=kx/\Aside (NewI w S T K k a cap L wr))
 case atStart=>exact⟨0,0,none,fun _=>0,rfl,by omega,by omega,I3⟩
 case round=>
  clear I3;obtain⟨k,cap,a,L,rfl,hk,hkx,I⟩:=hrel;by_cases hlt:k<T
  ·have hz:(k:Int)<(T:Int):=by omega
   obtain⟨R,hR⟩:∃R,wr.heap.size=R:=⟨_,rfl⟩;obtain⟨r,t',w4,hr,q2,q3,i4⟩:=I.out.step (by omega) (by have:=HS.out;omega) R hR 137 _ rfl;have I4:Aside (NewI w S T K (k+1) r t' (lset L k R) (w4.setCell ⟨S+3,2,none⟩ (.slice r (k+1) t'))):=i4;have c2:=(que_cells I.out.head).1;have Sl:S+3<wr.heap.size:=lt_of_block I.out.head;have ln:=lnew_any wr.drew;rw[show wr.drew.heap.size=R from hR] at ln;have e0:wr.drew.cell? ⟨S+3,2,none⟩=some (.slice a k cap):=c2;have e1:(wr.drew.alloc (.cells #[.slice none 0 0] 190)).cell? ⟨S+3,2,none⟩=some (.slice a k cap):=(cell_old wr.drew _ 2 Sl).trans c2;have e2:((wr.drew.alloc (.cells #[.slice none 0 0] 190)).alloc (.cells #[ptr R] 141)).cell? ⟨S+3,2,none⟩=some (.slice a k cap):=(cell_old _ _ 2 (by show S+3<(wr.alloc _).heap.size;simp;omega)).trans e1;have mx:=mixed;clear i4
   go_wp2_with fail
   refine anyE_start (S:=(fun v=>v.cell? ⟨S+3,2,none⟩=some (.slice a k cap))) (L:=10) (by kernel_rfl) ?_;refine anyE_u (i:=0) e0 rfl (by kernel_rfl) (fun w z=>by go_simp<;>rfl) (fun _ _ _ h=>h) ?_;refine anyE_u (i:=1) e0 rfl (by kernel_rfl) (fun w z=>by go_simp<;>rfl) (fun _ _ _ h=>h) ?_;refine anyE_u (i:=2) e0 rfl (by kernel_rfl) (fun w z=>by go_simp<;>rfl) (fun _ _ _ h=>h) ?_;refine anyE_u (i:=3) e0 rfl (by kernel_rfl) (fun w z=>by go_simp<;>rfl) (fun _ _ _ h=>h) ?_;refine anyE_u (i:=4) e0 rfl (by kernel_rfl) (fun w z=>by go_simp<;>rfl) (fun _ _ _ h=>h) ?_;simp only[Act.put,sA,sB,sC];refine anyE_ready (rs:=[5]) (by kernel_rfl) (by simp) ?_;refine AllE.cons (o:={dst:=some 36,op:=Op.call {callee:=Callee.value (Operand.func 61),args:=#[],argTypes:=#[]},type:=141,pos:= "queue.go:43",after:=#[],guard:=none}) rfl (fun Kt hKt=>?_) ?_
   ·go_simp
    (with_reducible refine Calls.mono ln ?_)
    rintro r2 w2 ⟨rfl,rfl⟩
    go_wp2_with fail
    refine hKt.out _ _ (fun _=>e1) ?_;clear hKt Kt;try simp only[Act.put,sA,sB,sC]
    refine anyE_ready (rs:=[6]) (by kernel_rfl) (by simp) ?_;refine AllE.cons rfl (fun Kt hKt=>?_) ?_
    ·go_simp
     refine hKt.out _ _ (fun _=>e2) ?_;clear hKt Kt;try simp only[Act.put,sA,sB,sC]
     refine anyE_ready (rs:=[7]) (by kernel_rfl) (by simp) ?_;refine AllE.cons (o:={dst:=some 38,op:=Op.call {callee:=Callee.builtin Builtin.append,args:=#[Operand.tmp 35,Operand.tmp 37],argTypes:=#[137,137]},type:=137,pos:= "queue.go:43",after:=#[⟨4,.data⟩,⟨6,.data⟩,⟨5,.chain⟩],guard:=none}) rfl (fun Kt hKt=>?_) ?_
     ·refine step_app _ (by rfl) _ _ 137 137 (by rfl) (.slice a k cap) (.slice (some ⟨R+1,0,none⟩) 1 1) (by rfl) (by rfl) (.slice r (k+1) t') w4 hr ?_;refine hKt.out _ _ (fun _=>q2) ?_;clear hKt Kt;try simp only[Act.put,sA,sB,sC]
      refine anyE_ready (rs:=[8]) (by kernel_rfl) (by simp) ?_;refine AllE.cons rfl (fun Kt hKt=>?_) ?_
      ·go_simp
       refine hKt.out _ _ (fun _=>q2) ?_;clear hKt Kt;try simp only[Act.put,sA,sB,sC]
       refine anyE_ready (rs:=[9]) (by kernel_rfl) (by simp) ?_;refine AllE.cons rfl (fun Kt hKt=>?_) ?_
       ·go_simp
        refine hKt.out _ _ (fun _=>q2) ?_;clear hKt Kt;try simp only[Act.put,sA,sB,sC]
        refine anyE_ready (rs:=[10]) (by kernel_rfl) (by simp) ?_;refine AllE.cons rfl (fun Kt hKt=>?_) ?_
        ·go_simp
         refine hKt.out _ _ (fun h=>absurd rfl h) ?_;clear hKt Kt;try simp only[Act.put,sA,sB,sC]
         refine anyE_done (by kernel_rfl) ?_ _
         go_wp2
         go_roundg (T-(k+1))
         case measure=>omega
         case rel=>exact⟨k+1,t',r,lset L k R,by go_num,by omega,le_refl _,I4⟩
        exact AllE.nil
       exact AllE.nil
      exact AllE.nil
     exact AllE.nil
    exact AllE.nil
   exact AllE.nil
  ·have hz:¬(k:Int)<(T:Int):=by omega
   obtain rfl:k=T:=by omega
   obtain⟨OR,ha⟩:∃OR,a=some ⟨OR,0,none⟩:=by
    rcases I.out.row.2 with⟨e,e0⟩|⟨g,c',cur,e,_⟩
    ·omega
    ·injection e with e1;exact⟨g,e1⟩
   have hrow:∀i,i<k->wr.cell? ⟨OR,i,none⟩=some (ptr (L i)):=fun i hi=>by
    have:=World.ownsRow.cellAt (by rw[<-ha];exact I.out.row) i (by omega);rw[this];simp[hi]
   have hor:OR<wr.heap.size:=by
    rcases I.out.row.2 with⟨e,e0⟩|⟨g,c',cur,e,_,hg,_⟩
    ·omega
    ·injection e with e1;rw[ha] at e1;injection e1 with e1;injection e1 with e1;rw[e1];exact lt_of_block hg
   have hh:=I.out.head;rw[ha] at hh;have tbl:=table_any wr ⟨S+3,S+1,S,OR,cap,L,S+2,0,0,fun _=>0⟩ k _ _ hh hrow hor h8;have HA:Hid _:=ha;clear hh hrow hor ha
   go_wp2_with fail
   refine tbl.mono ?_;rintro r w5 ⟨M,QC,TC,rfl,b5,tb5,qc5,tc5⟩;obtain⟨f1,f2,fin⟩:=I.out.done h1 HS.out OR HA.out M QC TC b5 tb5 qc5 tc5;have FIN:Aside (NewIs w k K (.returned (.tuple #[ptr (S+3),.int .i64 0])) (w5.setCell ⟨S+3,4,none⟩ (.map (some M)))):=fin;clear fin tb5 qc5 tc5 b5 tbl
   go_wp2
   go_ret2;exact FIN.out
end
section
open Go.RowKit Go.Lib Go.Sort
structure View(T:Nat)(s:QSt)(sl ow:Nat->List Ent)(sh:List Ent):Prop where
 sl:∀i,i<T->slotL (s.g i)=sl i
 ow:∀i,i<T->sortE (s.ls i).flatten=ow i
 sh:sortE s.hs.flatten=sh
theorem slotL_of{p:Pl}{e:Ent}(h:slotL p=[e]):p.f=true/\p.e=e:=by
 unfold slotL at h
 split at h
 ·rename_i hf;simp at h;exact⟨hf,h⟩
 ·cases h
theorem slotL_nil{p:Pl}(h:slotL p=[]):p.f=false:=by
 unfold slotL at h
 split at h
 ·cases h
 ·rename_i hf;simpa using hf
theorem View.new(T:Nat):View T newQ (fun _=>[]) (fun _=>[]) []:=⟨fun _ _=>rfl,fun _ _=>sortE_nil,sortE_nil⟩
variable {T K:Nat}{s:QSt}{sl ow:Nat->List Ent}{sh:List Ent}
theorem View.len(h:View T s sl ow sh){t:Nat}(ht:t<T):(s.ls t).flatten.length=(ow t).length:=by rw[<-h.ow t ht,sortE_len]
theorem View.hlen(h:View T s sl ow sh):s.hs.flatten.length=sh.length:=by rw[<-h.sh,sortE_len]
theorem View.osrt(h:View T s sl ow sh){t:Nat}(ht:t<T):Srt (ow t):=by rw[<-h.ow t ht];exact sortE_srt _
theorem View.ssrt(h:View T s sl ow sh):Srt sh:=by rw[<-h.sh];exact sortE_srt _
theorem View.f(h:View T s sl ow sh){t:Nat}(ht:t<T):(s.g t).f=!(sl t).isEmpty:=by
 rw[<-h.sl t ht];unfold slotL
 cases (s.g t).f<;>rfl
theorem settle_none{t:Nat}(hf:(s.g t).f=false):settleQ K s t=s:=by unfold settleQ;rw[if_neg (by rw[hf];simp)]
theorem View.settle_no(h:View T s sl ow sh){t:Nat}(ht:t<T)(hs:sl t=[]):settleQ K s t=s:=settle_none (slotL_nil (by rw[h.sl t ht,hs]))
theorem View.settle_fit(h:View T s sl ow sh){t:Nat}(ht:t<T){e:Ent}(hs:sl t=[e])(hl:(ow t).length+1<=K):View T (settleQ K s t) (lset sl t []) (lset ow t (sortE (ow t++[e]))) sh:=by
 obtain⟨hf,he⟩:=slotL_of (by rw[h.sl t ht,hs]:slotL (s.g t)=[e])
 have e1:settleQ K s t=⟨slSet s.g t ⟨(0,0),(s.g t).v+1,false⟩,lset s.ls t (putL (s.ls t) (s.g t).e),s.v,s.hs⟩:=by
  unfold settleQ;rw[if_pos hf,if_neg (by rw[putL_len,h.len ht];omega)]
 rw[e1];refine⟨fun i hi=>?_,fun i hi=>?_,h.sh⟩
 ·show slotL (slSet s.g t _ i)=_;by_cases c:i=t
  ·subst c;rw[slSet_same,lset_same];rfl
  ·rw[slSet_ne _ _ c,lset_ne _ _ c];exact h.sl i hi
 ·show sortE (lset s.ls t _ i).flatten=_;by_cases c:i=t
  ·subst c;rw[lset_same,lset_same,he];refine sortE_congr ?_;refine(putL_perm _ _).trans (List.Perm.append_right _ ?_);rw[<-h.ow i hi];exact(sortE_perm _).symm
  ·rw[lset_ne _ _ c,lset_ne _ _ c];exact h.ow i hi
theorem View.settle_spill(h:View T s sl ow sh){t:Nat}(ht:t<T){e:Ent}(hs:sl t=[e])(hl:K<(ow t).length+1):View T (settleQ K s t) (lset sl t []) (lset ow t []) (sortE (sh++(ow t++[e]))):=by
 obtain⟨hf,he⟩:=slotL_of (by rw[h.sl t ht,hs]:slotL (s.g t)=[e])
 have e1:settleQ K s t=⟨slSet s.g t ⟨(0,0),(s.g t).v+1,false⟩,lset s.ls t [],s.v+1,addS s.hs (sortE (putL (s.ls t) (s.g t).e).flatten)⟩:=by
  unfold settleQ;rw[if_pos hf,if_pos (by rw[putL_len,h.len ht];omega)]
 rw[e1];refine⟨fun i hi=>?_,fun i hi=>?_,?_⟩
 ·show slotL (slSet s.g t _ i)=_;by_cases c:i=t
  ·subst c;rw[slSet_same,lset_same];rfl
  ·rw[slSet_ne _ _ c,lset_ne _ _ c];exact h.sl i hi
 ·show sortE (lset s.ls t [] i).flatten=_;by_cases c:i=t
  ·subst c;rw[lset_same,lset_same];exact sortE_nil
  ·rw[lset_ne _ _ c,lset_ne _ _ c];exact h.ow i hi
 ·refine sortE_congr ?_;refine(addS_perm _ _).trans ?_;refine List.Perm.append ?_ ?_
  ·rw[<-h.sh];exact(sortE_perm _).symm
  ·rw[he];refine(sortE_perm _).trans ((putL_perm _ _).trans (List.Perm.append_right _ ?_));rw[<-h.ow t ht];exact(sortE_perm _).symm
theorem View.put{t:Nat}(h:View T (settleQ K s t) sl ow sh)(e:Ent):View T (putQ K s t e) (lset sl t [e]) ow sh:=by
 refine⟨fun i hi=>?_,h.ow,h.sh⟩;show slotL (slSet (settleQ K s t).g t _ i)=_;by_cases c:i=t
 ·subst c;rw[slSet_same,lset_same];rfl
 ·rw[slSet_ne _ _ c,lset_ne _ _ c];exact h.sl i hi
theorem View.spot(h:View T s sl ow sh)(j:Nat):spotL s T j=if j<T then sl j else if j<2*T then ow (j-T) else sh:=by
 unfold spotL;by_cases c1:j<T
 ·rw[if_pos c1,if_pos c1];exact h.sl j c1
 ·rw[if_neg c1,if_neg c1];by_cases c2:j<2*T
  ·rw[if_pos c2,if_pos c2];exact h.ow _ (by omega)
  ·rw[if_neg c2,if_neg c2];exact h.sh
theorem slAll_flat(g:Nat->Pl):∀k,slAll g k=(List.range k).flatMap (fun i=>slotL (g i))
 | 0=>rfl
 | k+1=>by
  rw[range_succ,flatMap_append,<-slAll_flat g k];show slAll g k++(if (g k).f then [(g k).e] else [])=_;simp[slotL]
theorem flatMap_congr'{f g:Nat->List Ent}{k:Nat}(h:∀i,i<k->f i=g i):(List.range k).flatMap f=(List.range k).flatMap g:=by
 induction k with
 | zero=>rfl
 | succ k ih=>rw[range_succ,flatMap_append,flatMap_append,ih (fun i hi=>h i (by omega))];simp[h k (by omega)]
theorem View.slots(h:View T s sl ow sh):slAll s.g T=(List.range T).flatMap sl:=by
 rw[slAll_flat];exact flatMap_congr' h.sl
theorem flatN_nil(k:Nat):(List.range k).flatMap (fun _=>([]:List Ent))=[]:=by simp
theorem View.lists(h:View T s sl ow sh):listsQ s T=(List.range T).map sl++(List.range T).map ow++[sh]:=by
 apply List.ext_getElem?;intro j;by_cases c:j<2*T+1
 ·rw[listsQ_at s T c,h.spot j];by_cases c1:j<T
  ·rw[if_pos c1,append_assoc,List.getElem?_append_left (by simpa using c1)];simp[c1]
  ·rw[if_neg c1];by_cases c2:j<2*T
   ·rw[if_pos c2,append_assoc,List.getElem?_append_right (by simp;omega),List.getElem?_append_left (by simp;omega)];have e:j-T<T:=by omega
    simp[e]
   ·rw[if_neg c2,List.getElem?_append_right (by simp;omega)];simp;rw[show j-(T+T)=0 by omega]
    rfl
 ·rw[List.getElem?_eq_none (by rw[listsQ_len];omega),List.getElem?_eq_none (by simp;omega)]
end
section
open Go.RowKit Go.Lib Go.Sort
def allV(T:Nat)(sl ow:Nat->List Ent)(sh:List Ent):List Ent:=(List.range T).flatMap sl++((List.range T).flatMap ow++sh)
def ids(d:List Ent):List Int:=d.map Prod.snd
theorem hasL_mem{d:List Ent}{id:Int}:hasL d id=true↔id∈ids d:=by
 unfold ids;constructor
 ·intro h;have:¬(hasL d id=false):=by rw[h];simp
  rw[hasL_false] at this;have:∃x∈d,x.2=id:=Classical.byContradiction fun hn=>this fun x hx e=>hn ⟨x,hx,e⟩;obtain⟨x,hx,rfl⟩:=this;exact List.mem_map.2 ⟨x,hx,rfl⟩
 ·intro h;obtain⟨x,hx,rfl⟩:=List.mem_map.1 h
  cases e:hasL d x.2 with
  | true=>rfl
  | false=>exact absurd rfl (hasL_false.1 e x hx)
theorem hasL_no{d:List Ent}{id:Int}:hasL d id=false↔id∉ids d:=by
 rw[<-hasL_mem];cases hasL d id<;>simp
theorem outL_no{d:List Ent}{id:Int}(h:hasL d id=false):outL id d=d:=by
 unfold outL;rw[List.filter_eq_self];intro x hx;simp[hasL_false.1 h x hx]
theorem outL_app(id:Int)(c d:List Ent):outL id (c++d)=outL id c++outL id d:=List.filter_append ..
theorem outL_flat(id:Int)(f:Nat->List Ent):∀k,outL id ((List.range k).flatMap f)=(List.range k).flatMap (fun i=>outL id (f i))
 | 0=>rfl
 | k+1=>by rw[range_succ,flatMap_append,flatMap_append,outL_app,outL_flat id f k];simp
theorem outL_perm{c d:List Ent}(id:Int)(h:c.Perm d):(outL id c).Perm (outL id d):=h.filter _
theorem outL_sort{d:List Ent}(id:Int)(h:Srt d):sortE (outL id d)=outL id d:=sortE_id (h.filter _)
theorem ids_flat(f:Nat->List Ent)(k:Nat):ids ((List.range k).flatMap f)=(List.range k).flatMap (fun i=>ids (f i)):=by unfold ids;rw[List.map_flatMap]
theorem flat_has{f:Nat->List Ent}{k:Nat}{id:Int}:id∈ids ((List.range k).flatMap f)↔∃i,i<k/\id∈ids (f i):=by
 rw[ids_flat,List.mem_flatMap];simp[List.mem_range]
theorem flat_apart{f:Nat->List Ent}{k:Nat}(h:(ids ((List.range k).flatMap f)).Nodup){i j:Nat}(hi:i<k)(hj:j<k)(hij:i<j){id:Int}(h1:id∈ids (f i))(h2:id∈ids (f j)):False:=by
 rw[ids_flat] at h;unfold List.Nodup at h;rw[List.pairwise_flatMap] at h;have:=List.pairwise_iff_getElem.1 h.2 i j (by simpa using hi) (by simpa using hj) hij;simp only[List.getElem_range] at this;exact this id h1 id h2 rfl
theorem flat_apart'{f:Nat->List Ent}{k:Nat}(h:(ids ((List.range k).flatMap f)).Nodup){i j:Nat}(hi:i<k)(hj:j<k)(hij:i≠j){id:Int}(h1:id∈ids (f i)):id∉ids (f j):=fun h2=>by
 by_cases c:i<j
 ·exact flat_apart h hi hj c h1 h2
 ·exact flat_apart h hj hi (by omega) h2 h1
theorem flat_sub{f:Nat->List Ent}{k:Nat}(h:(ids ((List.range k).flatMap f)).Nodup){i:Nat}(hi:i<k):(ids (f i)).Nodup:=by
 rw[ids_flat] at h;unfold List.Nodup at h;rw[List.pairwise_flatMap] at h;exact h.1 i (List.mem_range.2 hi)
theorem slHit_has(p:Pl)(id:Int):slHit p id=hasL (slotL p) id:=by
 unfold slHit slotL
 cases p.f with
 | false=>rfl
 | true=>
  rw[if_pos rfl,Bool.true_and,Bool.eq_iff_iff,beq_iff_eq,hasL_mem];unfold ids;simp;exact⟨fun h=>h.symm,fun h=>h.symm⟩
variable {T K:Nat}{s:QSt}{sl ow:Nat->List Ent}{sh:List Ent}
theorem View.own_has(h:View T s sl ow sh){t:Nat}(ht:t<T)(id:Int):hasL (s.ls t).flatten id=hasL (ow t) id:=by rw[<-h.ow t ht];exact(hasL_perm (sortE_perm _) id).symm
theorem View.sh_has(h:View T s sl ow sh)(id:Int):hasL s.hs.flatten id=hasL sh id:=by rw[<-h.sh];exact(hasL_perm (sortE_perm _) id).symm
theorem View.slot_hit(h:View T s sl ow sh){i:Nat}(hi:i<T)(id:Int):slHit (s.g i) id=hasL (sl i) id:=by rw[slHit_has,h.sl i hi]
theorem View.no_slot(h:View T s sl ow sh){id:Int}(hn:∀i,i<T->hasL (sl i) id=false):slFirst s.g T id=none:=find_range_none fun i hi=>by rw[h.slot_hit hi];exact hn i hi
theorem View.nodup_own(h:View T s sl ow sh){t:Nat}(ht:t<T)(hn:(ids (ow t)).Nodup):(((s.ls t).flatten).map Prod.snd).Nodup:=by
 have:(ids (ow t)).Perm ((s.ls t).flatten.map Prod.snd):=by unfold ids;rw[<-h.ow t ht];exact(sortE_perm _).map _
 exact this.nodup_iff.1 hn
theorem View.nodup_sh(h:View T s sl ow sh)(hn:(ids sh).Nodup):((s.hs.flatten).map Prod.snd).Nodup:=by
 have:(ids sh).Perm (s.hs.flatten.map Prod.snd):=by unfold ids;rw[<-h.sh];exact(sortE_perm _).map _
 exact this.nodup_iff.1 hn
theorem View.take_none(h:View T s sl ow sh){id:Int}(h1:∀i,i<T->hasL (sl i) id=false)(h2:∀i,i<T->hasL (ow i) id=false)(h3:hasL sh id=false):firstHit s T id=none/\takeQ s T id=s:=by
 have e:firstHit s T id=none:=find_range_none fun j hj=>by
  unfold hitQ;by_cases c1:j<T
  ·rw[if_pos c1,h.no_slot h1];rfl
  ·rw[if_neg c1];by_cases c2:j<2*T
   ·rw[if_pos c2,h.own_has (by omega)];exact h2 _ (by omega)
   ·rw[if_neg c2,h.sh_has];exact h3
 exact⟨e,by unfold takeQ;rw[e]⟩
theorem View.take_slot(h:View T s sl ow sh){id:Int}{i:Nat}(hi:i<T)(h1:hasL (sl i) id=true)(h2:∀k,k<i->hasL (sl k) id=false):firstHit s T id=some 0/\View T (takeQ s T id) (lset sl i []) ow sh:=by
 have f:slFirst s.g T id=some i:=find_range hi (by rw[h.slot_hit hi];exact h1) (fun k hk=>by rw[h.slot_hit (by omega)];exact h2 k hk);have e:firstHit s T id=some 0:=find_range (by omega) (by unfold hitQ;rw[if_pos (by omega),f];rfl) (fun k hk=>absurd hk (by omega));refine⟨e,?_⟩
 have e2:takeQ s T id={s with g:=slSet s.g i ⟨(0,0),(s.g i).v+1,false⟩}:=by
  unfold takeQ;rw[e];show dropQ s T id 0=_;unfold dropQ;rw[if_pos (by omega)];unfold slDropQ;rw[f]
 rw[e2];refine⟨fun k hk=>?_,h.ow,h.sh⟩;show slotL (slSet s.g i _ k)=_;by_cases c:k=i
 ·subst c;rw[slSet_same,lset_same];rfl
 ·rw[slSet_ne _ _ c,lset_ne _ _ c];exact h.sl k hk
theorem View.take_own(h:View T s sl ow sh){id:Int}{t:Nat}(ht:t<T)(h1:∀i,i<T->hasL (sl i) id=false)(h2:hasL (ow t) id=true)(h3:∀k,k<t->hasL (ow k) id=false)(hn:(ids (ow t)).Nodup):firstHit s T id=some (T+t)/\View T (takeQ s T id) sl (lset ow t (outL id (ow t))) sh:=by
 have e:firstHit s T id=some (T+t):=find_range (by omega)
  (by unfold hitQ;rw[if_neg (by omega),if_pos (by omega),show T+t-T=t by omega,h.own_has ht];exact h2)
  (fun k hk=>by
   unfold hitQ;by_cases c1:k<T
   ·rw[if_pos c1,h.no_slot h1];rfl
   ·rw[if_neg c1,if_pos (by omega),h.own_has (by omega)];exact h3 _ (by omega))
 refine⟨e,?_⟩
 have e2:takeQ s T id={s with ls:=lset s.ls t (dropLs (s.ls t) id)}:=by
  unfold takeQ;rw[e];show dropQ s T id (T+t)=_;unfold dropQ;rw[if_neg (by omega),if_pos (by omega),show T+t-T=t by omega]
 rw[e2];refine⟨h.sl,fun k hk=>?_,h.sh⟩;show sortE (lset s.ls t _ k).flatten=_;by_cases c:k=t
 ·subst c;rw[lset_same,lset_same,<-outL_sort id (h.osrt ht)];refine sortE_congr ((dropLs_perm (h.nodup_own ht hn)).trans ?_);rw[<-h.ow k hk];exact outL_perm id (sortE_perm _).symm
 ·rw[lset_ne _ _ c,lset_ne _ _ c];exact h.ow k hk
theorem View.take_shared(h:View T s sl ow sh){id:Int}(h1:∀i,i<T->hasL (sl i) id=false)(h2:∀k,k<T->hasL (ow k) id=false)(h3:hasL sh id=true)(hn:(ids sh).Nodup):firstHit s T id=some (2*T)/\View T (takeQ s T id) sl ow (outL id sh):=by
 have e:firstHit s T id=some (2*T):=find_range (by omega)
  (by unfold hitQ;rw[if_neg (by omega),if_neg (by omega),h.sh_has];exact h3)
  (fun k hk=>by
   unfold hitQ;by_cases c1:k<T
   ·rw[if_pos c1,h.no_slot h1];rfl
   ·rw[if_neg c1,if_pos (by omega),h.own_has (by omega)];exact h2 _ (by omega))
 refine⟨e,?_⟩
 have e2:takeQ s T id={s with v:=if hasL s.hs.flatten id then s.v+1 else s.v,hs:=dropS s.hs id}:=by
  unfold takeQ;rw[e];show dropQ s T id (2*T)=_;unfold dropQ;rw[if_neg (by omega),if_neg (by omega)]
 rw[e2];refine⟨h.sl,h.ow,?_⟩;show sortE (dropS s.hs id).flatten=_;rw[<-outL_sort id h.ssrt];refine sortE_congr ((dropS_perm (h.nodup_sh hn)).trans ?_);rw[<-h.sh];exact outL_perm id (sortE_perm _).symm
theorem take_ok{N:Nat}(ok:QOk K T N s)(id:Int):QOk K T (N+1) (takeQ s T id):=by
 unfold takeQ
 cases e:firstHit s T id with
 | none=>exact ok.mono (by omega)
 | some j=>
  show QOk K T (N+1) (dropQ s T id j);unfold dropQ;by_cases c1:j<T
  ·rw[if_pos c1];refine⟨fun i hi=>?_,ok.fall,ok.len,by have:=ok.sv;show s.v<=_;omega,by have:=ok.hlen;show s.hs.length<=_;omega,by have:=ok.hsum;show s.hs.flatten.length<=_;omega,ok.hsrt⟩;show(slDropQ s.g T id i).v<=_;unfold slDropQ;have hv:=ok.ver i hi
   cases slFirst s.g T id with
   | none=>show(s.g i).v<=_;omega
   | some k=>
    show(slSet s.g k _ i).v<=_;by_cases c:i=k
    ·subst c;rw[slSet_same];show(s.g i).v+1<=_;omega
    ·rw[slSet_ne _ _ c];omega
  ·rw[if_neg c1];by_cases c2:j<2*T
   ·rw[if_pos c2];refine⟨fun i hi=>by have:=ok.ver i hi;show(s.g i).v<=_;omega,fun i hi=>?_,fun i hi=>?_,by have:=ok.sv;show s.v<=_;omega,by have:=ok.hlen;show s.hs.length<=_;omega,by have:=ok.hsum;show s.hs.flatten.length<=_;omega,ok.hsrt⟩
    ·show Fall (lset s.ls (j-T) _ i);by_cases c:i=j-T
     ·subst c;rw[lset_same];exact dropLs_fall (ok.fall _ hi) id
     ·rw[lset_ne _ _ c];exact ok.fall i hi
    ·show(lset s.ls (j-T) _ i).flatten.length<=K;by_cases c:i=j-T
     ·subst c;rw[lset_same];exact Nat.le_trans (dropLs_len id) (ok.len _ hi)
     ·rw[lset_ne _ _ c];exact ok.len i hi
   ·rw[if_neg c2];refine⟨fun i hi=>by have:=ok.ver i hi;show(s.g i).v<=_;omega,ok.fall,ok.len,?_,?_,?_,dropS_srt id ok.hsrt⟩
    ·show(if hasL s.hs.flatten id then s.v+1 else s.v)<=_;have:=ok.sv
     split<;>omega
    ·show(dropS s.hs id).length<=_;have:=dropS_count s.hs id;have:=ok.hlen;omega
    ·show(dropS s.hs id).flatten.length<=_;have:=dropS_len s.hs id;have:=ok.hsum;omega
end
section
open Go.RowKit Go.Lib Go.Sort
theorem leastL_is(ls:List (List Ent))(hs:∀d∈ls,Srt d):∀k,k<=ls.length->(leastL ls k=none/\(ls.take k).flatten=[])\/∃j x,leastL ls k=some (j,x)/\IsMin x (ls.take k).flatten
 | 0,_=>.inl ⟨rfl,rfl⟩
 | k+1,hk=>by
  have hk':k<ls.length:=by omega
  have ih:=leastL_is ls hs k (by omega);have e:ls.getD k []=ls[k]:=by rw[List.getD_eq_getElem?_getD,List.getElem?_eq_getElem hk'];rfl
  have srt:=hs ls[k] (List.getElem_mem hk');rw[flat_take hk'];show(least1 (leastL ls k) k (ls.getD k [])=none/\_)\/∃j x,least1 (leastL ls k) k (ls.getD k [])=some (j,x)/\_;rw[e]
  cases hd:ls[k] with
  | nil=>
   rw[List.append_nil];rcases ih with⟨i1,i2⟩|⟨j,x,i1,i2⟩
   ·rw[i1];exact .inl ⟨rfl,i2⟩
   ·rw[i1];exact .inr ⟨j,x,rfl,i2⟩
  | cons y r=>
   rw[hd] at srt;rcases ih with⟨i1,i2⟩|⟨j,x,i1,i2⟩
   ·rw[i1,i2];exact .inr ⟨k,y,rfl,by rw[List.nil_append];exact IsMin.head srt⟩
   ·rw[i1]
    cases c:ltE y x with
    | true=>
     refine .inr ⟨k,y,?_,i2.right (IsMin.head srt) c⟩;show(if ltE y x then some (k,y) else some (j,x))=_;rw[if_pos c]
    | false=>
     refine .inr ⟨j,x,?_,i2.left (IsMin.head srt) c⟩;show(if ltE y x then some (k,y) else some (j,x))=_;rw[if_neg (by rw[c];simp)]
variable {T K:Nat}{s:QSt}{sl ow:Nat->List Ent}{sh:List Ent}
theorem slotL_srt(p:Pl):Srt (slotL p):=by
 unfold slotL
 split
 ·simp[Srt]
 ·exact Srt.nil
theorem View.lists_srt(h:View T s sl ow sh):∀d∈listsQ s T,Srt d:=by
 intro d hd;unfold listsQ at hd;obtain⟨j,_,rfl⟩:=List.mem_map.1 hd;unfold spotL
 split
 ·exact slotL_srt _
 ·split
  ·exact sortE_srt _
  ·exact sortE_srt _
theorem View.flatten(h:View T s sl ow sh):(listsQ s T).flatten=allV T sl ow sh:=by
 rw[h.lists];unfold allV;rw[List.flatten_append,List.flatten_append,List.flatten_cons,List.flatten_nil,List.append_nil,append_assoc]
 rfl
theorem View.least(h:View T s sl ow sh):(leastQ s T=none/\allV T sl ow sh=[])\/∃j x,leastQ s T=some (j,x)/\IsMin x (allV T sl ow sh):=by
 have l:=leastL_is (listsQ s T) h.lists_srt (2*T+1) (by rw[listsQ_len];exact le_refl _);rw[List.take_of_length_le (by rw[listsQ_len];exact le_refl _),h.flatten] at l;exact l
end
end Go.Proofs.YtjpbngiddjkjiaaGreatDoor.Qu
