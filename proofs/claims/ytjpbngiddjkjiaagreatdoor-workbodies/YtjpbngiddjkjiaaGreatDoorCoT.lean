import Derived.Test.YtjpbngiddjkjiaaGreatDoorUQKp
import Derived.Test.YtjpbngiddjkjiaaGreatDoorWWhG
import Derived.Deep.MidRow
import Derived.Test.YtjpbngiddjkjiaaGreatDoorDDgF
import Derived.Test.YtjpbngiddjkjiaaGreatDoorBTbCb
import Derived.Test.YtjpbngiddjkjiaaGreatDoorCWm
open Go.Proofs.Tryz
open Nat(le_trans lt_of_lt_of_le)
namespace Go.Proofs.YtjpbngiddjkjiaaGreatDoor
set_option linter.unusedSimpArgs false
set_option maxHeartbeats 8000000
set_option linter.unusedVariables false
set_option maxRecDepth 100000
section
open Go.RowKit Go.Lib Go.WideMaps Go.Maps
def QT(U:TypeId):Prop:=U=234\/U=190\/U=223\/U=188\/U=35
def NQ(w:World)(k:Nat):Prop:=∀cs U fr,w.heap[k]?=some (.cells cs U fr)->¬QT U
variable {w w':World}{X:Nat->Prop}{k:Nat}
theorem nq_of{cs:Array Value}{U:TypeId}{fr:Nat×Nat}(h:w.heap[k]?=some (.cells cs U fr))(hU:¬QT U):NQ w k:=fun cs' U' fr' h'=>by
 rw[h] at h';simp only[Option.some.injEq,Obj.cells.injEq] at h';rw[<-h'.2.1];exact hU
theorem nq_map{es:Array MapEntry}{q:Nat}(h:w.heap[k]?=some (.map es q)):NQ w k:=fun cs' U' fr' h'=>by
 rw[h] at h'
 cases h'
theorem mq_qt{U:TypeId}(h:¬QT U):¬Qu.MQ U:=fun e=>h (by
 rcases e with e|e|e|e
 ·exact .inl e
 ·exact .inr (.inl e)
 ·exact .inr (.inr (.inl e))
 ·exact .inr (.inr (.inr (.inl e))))
theorem tb_nq{B n:Nat}{T:List Ta.TR}(h:Ta.Tb w X B n T)(hx:X k):NQ w k:=by
 obtain⟨hn,a,b,r,M,v,ws,fc,D,I,hX⟩:=h;obtain⟨ca,ha'⟩:=D.ha;obtain⟨cb,hb'⟩:=D.hb;obtain⟨cr,hr'⟩:=D.hr;obtain⟨es,q,hM'⟩:=D.hM;rcases (hX k).1 hx with rfl|rfl|rfl|rfl|rfl|e
 ·exact nq_of D.head (by unfold QT;decide)
 ·exact nq_of ha' (by unfold QT;decide)
 ·exact nq_of hb' (by unfold QT;decide)
 ·exact nq_of hr' (by unfold QT;decide)
 ·exact nq_map hM'
 ·obtain⟨cg,hg⟩:=D.hg e;exact nq_of hg (by unfold QT;decide)
theorem dg_nq{B N:Nat}{E:Da.Rel}(h:Da.Dg w X B E N)(hx:X k):NQ w k:=by
 obtain⟨M0,M,fp,f,l,D,I,hX⟩:=h;rcases (hX k).1 hx with rfl|rfl|⟨s,rfl⟩|⟨s,i,v,h1,h2⟩
 ·exact nq_of D.head (by unfold QT;decide)
 ·obtain⟨n,q,_⟩:=D.mp;obtain⟨es,c,q⟩:=q.isMap;exact nq_map q
 ·obtain⟨n,q,_⟩:=D.mi s;obtain⟨es,c,q⟩:=q.isMap;exact nq_map q
 ·obtain⟨cs,hc⟩:=(D.own s i v h1).1.rowT h2;exact nq_of hc (by unfold QT;decide)
theorem wl_nq{B base now:Nat}{T:List Wl.Ent}(h:Wl.Whl w X B base now T)(hx:X k):NQ w k:=by
 obtain⟨M,hd,u,c,far,f,h1,h2,h3,h4,h5⟩:=h;rcases (h5 k).1 hx with rfl|rfl|⟨i,hi,e⟩
 ·obtain⟨cs,hc,_⟩:=h1.head;exact nq_of hc (by unfold QT;decide)
 ·obtain⟨es,c,q⟩:=h1.map.isMap;exact nq_map q
 ·obtain⟨d,o⟩:=h1.own hi e;rcases o with⟨_,o|⟨g,off,o⟩⟩|⟨g,off,cap,o,r⟩
  ·rw[o] at e;cases e
  ·rw[o] at e;cases e
  ·rw[o,r.rowB] at e;injection e with e
   subst e;obtain⟨P,R,hm,_⟩:=r.mem;exact nq_of hm (by unfold QT;decide)
theorem cr_nq{a b r n o m:Nat}(h:Ca.Cr w a b r n o m)(hx:k=a\/k=b\/k=r):NQ w k:=by
 obtain⟨ws,h1,_⟩:=h.mem;rcases hx with rfl|rfl|rfl
 ·exact nq_of h.head (by unfold QT;decide)
 ·obtain⟨_,_,_,_,hh⟩:=h1.head;exact nq_of hh (by unfold QT;decide)
 ·obtain⟨cs,hh,_⟩:=h1.row;exact nq_of hh (by unfold QT;decide)
def QC(U:TypeId):Prop:=U=69
def NC(w:World)(k:Nat):Prop:=∀cs U fr,w.heap[k]?=some (.cells cs U fr)->¬QC U
theorem nc_of{cs:Array Value}{U:TypeId}{fr:Nat×Nat}(h:w.heap[k]?=some (.cells cs U fr))(hU:¬QC U):NC w k:=fun cs' U' fr' h'=>by
 rw[h] at h';simp only[Option.some.injEq,Obj.cells.injEq] at h';rw[<-h'.2.1];exact hU
theorem nc_map{es:Array MapEntry}{q:Nat}(h:w.heap[k]?=some (.map es q)):NC w k:=fun cs' U' fr' h'=>by
 rw[h] at h'
 cases h'
theorem mq_qc{U:TypeId}(h:Qu.MQ U):¬QC U:=by
 rcases h with e|e|e|e<;>(rw[e];unfold QC;decide)
theorem tb_nc{B n:Nat}{T:List Ta.TR}(h:Ta.Tb w X B n T)(hx:X k):NC w k:=by
 obtain⟨hn,a,b,r,M,v,ws,fc,D,I,hX⟩:=h;obtain⟨ca,ha'⟩:=D.ha;obtain⟨cb,hb'⟩:=D.hb;obtain⟨cr,hr'⟩:=D.hr;obtain⟨es,q,hM'⟩:=D.hM;rcases (hX k).1 hx with rfl|rfl|rfl|rfl|rfl|e
 ·exact nc_of D.head (by unfold QC;decide)
 ·exact nc_of ha' (by unfold QC;decide)
 ·exact nc_of hb' (by unfold QC;decide)
 ·exact nc_of hr' (by unfold QC;decide)
 ·exact nc_map hM'
 ·obtain⟨cg,hg⟩:=D.hg e;exact nc_of hg (by unfold QC;decide)
theorem dg_nc{B N:Nat}{E:Da.Rel}(h:Da.Dg w X B E N)(hx:X k):NC w k:=by
 obtain⟨M0,M,fp,f,l,D,I,hX⟩:=h;rcases (hX k).1 hx with rfl|rfl|⟨s,rfl⟩|⟨s,i,v,h1,h2⟩
 ·exact nc_of D.head (by unfold QC;decide)
 ·obtain⟨n,q,_⟩:=D.mp;obtain⟨es,c,q⟩:=q.isMap;exact nc_map q
 ·obtain⟨n,q,_⟩:=D.mi s;obtain⟨es,c,q⟩:=q.isMap;exact nc_map q
 ·obtain⟨cs,hc⟩:=(D.own s i v h1).1.rowT h2;exact nc_of hc (by unfold QC;decide)
theorem wl_nc{B base now:Nat}{T:List Wl.Ent}(h:Wl.Whl w X B base now T)(hx:X k):NC w k:=by
 obtain⟨M,hd,u,c,far,f,h1,h2,h3,h4,h5⟩:=h;rcases (h5 k).1 hx with rfl|rfl|⟨i,hi,e⟩
 ·obtain⟨cs,hc,_⟩:=h1.head;exact nc_of hc (by unfold QC;decide)
 ·obtain⟨es,c,q⟩:=h1.map.isMap;exact nc_map q
 ·obtain⟨d,o⟩:=h1.own hi e;rcases o with⟨_,o|⟨g,off,o⟩⟩|⟨g,off,cap,o,r⟩
  ·rw[o] at e;cases e
  ·rw[o] at e;cases e
  ·rw[o,r.rowB] at e;injection e with e
   subst e;obtain⟨P,R,hm,_⟩:=r.mem;exact nc_of hm (by unfold QC;decide)
theorem cr_nc{a b r n o m:Nat}(h:Ca.Cr w a b r n o m)(hx:k=a\/k=b\/k=r):NC w k:=by
 obtain⟨ws,h1,_⟩:=h.mem;rcases hx with rfl|rfl|rfl
 ·exact nc_of h.head (by unfold QC;decide)
 ·obtain⟨_,_,_,_,hh⟩:=h1.head;exact nc_of hh (by unfold QC;decide)
 ·obtain⟨cs,hh,_⟩:=h1.row;exact nc_of hh (by unfold QC;decide)
end
section
open Go.RowKit Go.Lib Go.WideMaps Go.Maps
structure EvR where
 kd:Int
 t:Int
 id:Int
 key:Int
 tk:Int
 now:Int
def rE:Ta.RowT EvR where
 enc:=fun x=>[.int .i64 x.kd,.int .i64 x.t,.int .i64 x.id,.int .u64 x.key,.int .u64 x.tk,.int .u64 x.now]
 k:=6
 et:=167
 st:=67
 z:=.agg #[.int .i64 0,.int .i64 0,.int .i64 0,.int .u64 0,.int .u64 0,.int .u64 0]
 nb:=48
 kpos:=by decide
 len:=fun x=>rfl
 one:=fun x u hu=>by
  simp at hu;rcases hu with rfl|rfl|rfl|rfl|rfl|rfl<;>rfl
 und:=underlying67
 info:=by
  have h:(prog.info? 167).map (fun i=>(i.zero,i.size,i.bytes))=some (some (.agg #[.int .i64 0,.int .i64 0,.int .i64 0,.int .u64 0,.int .u64 0,.int .u64 0]),6,48):=by kernel_rfl
  obtain⟨i,h1,h2⟩:=Option.map_eq_some_iff.1 h;simp at h2;exact⟨i,h1,h2.1,h2.2.1,h2.2.2⟩
 zs:=rfl
 small:=by decide
structure CAd where
 B:Nat
 Bt:Nat
 Bw:Nat
 wb:Nat
 Bd:Nat
 ca:Nat
 cb:Nat
 cr:Nat
 A:Qu.QAd
structure CS where
 th:Nat
 k:Nat
 n:Nat
 T:List Ta.TR
 q:Qu.QSt
 qn:Nat
 now:Nat
 tm:List Wl.Ent
 E:Da.Rel
 N:Nat
 o:Nat
 m:Nat
 tk:Nat
 cl:Bool
 gone:List Int
 ev:List EvR
def qf(A:Qu.QAd)(T:Nat)(k:Nat):Prop:=k=A.B\/k=A.SB\/k=A.SR\/k=A.OR\/k=A.HB\/k=A.M\/k=A.QC\/∃i,i<T/\(k=A.L i\/k=A.TC i)
structure Fp(L:Nat)(w:World)(F:Nat->Nat->Prop):Prop where
 lt:∀p k,F p k->k<w.heap.size
 low:∀p k,p≠2->F p k->L<=k
 dis:∀p q k,p≠q->F p k->¬F q k
def fset(F:Nat->Nat->Prop)(p:Nat)(X:Nat->Prop):Nat->Nat->Prop:=fun q=>if q=p then X else F q
theorem fset_same(F:Nat->Nat->Prop)(p:Nat)(X:Nat->Prop):fset F p X p=X:=if_pos rfl
theorem fset_ne(F:Nat->Nat->Prop){p q:Nat}(X:Nat->Prop)(h:q≠p):fset F p X q=F q:=if_neg h
variable {w w' w'' u:World}{L:Nat}{F F' F'':Nat->Nat->Prop}{X:Nat->Prop}{p:Nat}
theorem Fp.grow(h:Fp L w F)(hs:w.heap.size<=w'.heap.size):Fp L w' F:=⟨fun p k hk=>lt_of_lt_of_le (h.lt p k hk) hs,h.low,h.dis⟩
theorem Fp.set(h:Fp L w F)(h2:p≠2)(hs:w.heap.size<=w'.heap.size)(hX:∀k,X k->F p k\/w.heap.size<=k)(hlt:∀k,X k->k<w'.heap.size)(hL:L<=w.heap.size):Fp L w' (fset F p X):=by
 refine⟨fun q k hk=>?_,fun q k hq hk=>?_,fun q r k hqr hk hr=>?_⟩
 ·by_cases e:q=p
  ·subst e;rw[fset_same] at hk;exact hlt k hk
  ·rw[fset_ne _ _ e] at hk;exact lt_of_lt_of_le (h.lt q k hk) hs
 ·by_cases e:q=p
  ·subst e;rw[fset_same] at hk
   rcases hX k hk with hk|hk
   ·exact h.low _ _ hq hk
   ·omega
  ·rw[fset_ne _ _ e] at hk;exact h.low q k hq hk
 ·by_cases e:q=p
  ·subst e;rw[fset_same] at hk
   rw[fset_ne _ _ (fun e=>hqr e.symm)] at hr;rcases hX k hk with hk|hk
   ·exact h.dis _ _ k hqr hk hr
   ·have:=h.lt r k hr;omega
  ·rw[fset_ne _ _ e] at hk;by_cases e':r=p
   ·subst e';rw[fset_same] at hr
    rcases hX k hr with hr|hr
    ·exact h.dis _ _ k hqr hk hr
    ·have:=h.lt q k hk;omega
   ·rw[fset_ne _ _ e'] at hr;exact h.dis _ _ k hqr hk hr
theorem f8_set(h:∀p k,F p k->p<=7)(hp:p<=7):∀q k,fset F p X q k->q<=7:=fun q k hk=>by
 by_cases e:q=p
 ·omega
 ·rw[fset_ne _ _ e] at hk;exact h q k hk
structure Gn(L:Nat)(F:Nat->Nat->Prop)(w:World)(F':Nat->Nat->Prop)(w':World):Prop where
 low:Below L w w'
 block:∀k,k<w.heap.size->(∀p,¬F p k)->(∀cs U fr,w.heap[k]?=some (.cells cs U fr)->¬Qu.MQ U)->w'.heap[k]?=w.heap[k]?
 new:∀p k,F' p k->F p k\/w.heap.size<=k
structure Gc(L:Nat)(F:Nat->Nat->Prop)(w:World)(F':Nat->Nat->Prop)(w':World):Prop where
 n:Gn L F w F' w'
 hd:∀(k:Nat)(cs:Array Value)(fr:Nat×Nat),w.heap[k]?=some (.cells cs 69 fr)->∃cs',w'.heap[k]?=some (.cells cs' 69 fr)/\cs'[10]?=cs[10]?
theorem Gc.low(h:Gc L F w F' w'):Below L w w':=h.n.low
theorem Gc.block(h:Gc L F w F' w'):∀k,k<w.heap.size->(∀p,¬F p k)->(∀cs U fr,w.heap[k]?=some (.cells cs U fr)->¬Qu.MQ U)->w'.heap[k]?=w.heap[k]?:=h.n.block
theorem Gc.new(h:Gc L F w F' w'):∀p k,F' p k->F p k\/w.heap.size<=k:=h.n.new
theorem Gn.size(h:Gn L F w F' w'):w.heap.size<=w'.heap.size:=h.low.size
theorem Gc.size(h:Gc L F w F' w'):w.heap.size<=w'.heap.size:=h.low.size
theorem Gc.refl(L:Nat)(F:Nat->Nat->Prop)(w:World):Gc L F w F w:=⟨⟨Below.refl _ _,fun _ _ _ _=>rfl,fun _ _ h=>.inl h⟩,fun k cs fr h=>⟨cs,h,rfl⟩⟩
theorem Gn.trans(h:Gn L F w F' w')(g:Gn L F' w' F'' w''):Gn L F w F'' w'':=by
 refine⟨h.low.trans g.low,fun k hk hF hU=>?_,fun p k hk=>?_⟩
 ·have e:=h.block k hk hF hU;rw[<-e];refine g.block k (lt_of_lt_of_le hk h.size) (fun p hp=>?_) (by rw[e];exact hU);rcases h.new p k hp with hp|hp
  ·exact hF p hp
  ·omega
 ·rcases g.new p k hk with hk|hk
  ·exact h.new p k hk
  ·exact .inr (le_trans h.size hk)
theorem Gc.trans(h:Gc L F w F' w')(g:Gc L F' w' F'' w''):Gc L F w F'' w'':=by
 refine⟨h.n.trans g.n,fun k cs fr hk=>?_⟩;obtain⟨c1,h1,e1⟩:=h.hd k cs fr hk;obtain⟨c2,h2,e2⟩:=g.hd k c1 fr h1;exact⟨c2,h2,e2.trans e1⟩
theorem Gc.below(F:Nat->Nat->Prop)(hL:L<=w.heap.size)(h:Below w.heap.size w w'):Gc L F w F w':=⟨⟨h.mono hL,fun k hk _ _=>h.block k hk,fun _ _ h=>.inl h⟩,fun k cs fr hk=>⟨cs,(h.block k (lt_of_block hk)).trans hk,rfl⟩⟩
structure Co(w:World)(L:Nat)(D:CAd)(F:Nat->Nat->Prop)(g v:Value)(σ:CS):Prop where
 head:w.heap[D.B]?=some (.cells #[.int .i64 σ.th,.int .i64 σ.k,.int .i64 σ.n,.pointer (some ⟨D.Bt,0,none⟩),.pointer (some ⟨D.A.B,0,none⟩),.pointer (some ⟨D.Bw,0,none⟩),.pointer (some ⟨D.Bd,0,none⟩),.pointer (some ⟨D.ca,0,none⟩),.int .u64 σ.tk,.bool σ.cl,g,v] 69 (0,0))
 tab:Ta.Tb w (F 1) D.Bt 200 σ.T
 que:Qu.Que w L D.A σ.th σ.k σ.q
 whl:Wl.Whl w (F 3) D.Bw D.wb σ.now σ.tm
 dag:Da.Dg w (F 4) D.Bd σ.E σ.N
 cre:Ca.Cr w D.ca D.cb D.cr σ.n σ.o σ.m
 evs:Ta.OwnG rE w L v σ.ev
 gon:Da.OwnI w L g σ.gone
 f0:∀k,F 0 k↔k=D.B
 f2:∀k,F 2 k↔qf D.A σ.th k
 f5:∀k,F 5 k↔(k=D.ca\/k=D.cb\/k=D.cr)
 f6:∀k,F 6 k↔v.ownBlock=some k
 f7:∀k,F 7 k↔g.ownBlock=some k
 f8:∀p k,F p k->p<=7
 fp:Fp L w F
 lw:L<=w.heap.size
 wb:D.wb<=w.heap.size
 qok:Qu.QOk σ.k σ.th σ.qn σ.q
 th1:1<=σ.th
 th8:σ.th<=8
 k16:σ.k<=16
variable {D:CAd}{g v:Value}{σ:CS}
theorem Co.nq(C:Co w L D F g v σ){p k:Nat}(hp:p<=7)(h2:p≠2)(hk:F p k):NQ w k:=by
 have:p=0\/p=1\/p=3\/p=4\/p=5\/p=6\/p=7:=by omega
 rcases this with rfl|rfl|rfl|rfl|rfl|rfl|rfl
 ·obtain rfl:=(C.f0 k).1 hk;exact nq_of C.head (by unfold QT;decide)
 ·exact tb_nq C.tab hk
 ·exact wl_nq C.whl hk
 ·exact dg_nq C.dag hk
 ·exact cr_nq C.cre ((C.f5 k).1 hk)
 ·obtain⟨cs,hc⟩:=C.evs.rowT ((C.f6 k).1 hk);exact nq_of hc (by show ¬QT 167;unfold QT;decide)
 ·obtain⟨cs,hc⟩:=C.gon.rowT ((C.f7 k).1 hk);exact nq_of hc (by unfold QT;decide)
theorem Co.nc(C:Co w L D F g v σ){p k:Nat}(hp:p<=7)(h0:p≠0)(h2:p≠2)(hk:F p k):NC w k:=by
 have:p=1\/p=3\/p=4\/p=5\/p=6\/p=7:=by omega
 rcases this with rfl|rfl|rfl|rfl|rfl|rfl
 ·exact tb_nc C.tab hk
 ·exact wl_nc C.whl hk
 ·exact dg_nc C.dag hk
 ·exact cr_nc C.cre ((C.f5 k).1 hk)
 ·obtain⟨cs,hc⟩:=C.evs.rowT ((C.f6 k).1 hk);exact nc_of hc (by show ¬QC 167;unfold QC;decide)
 ·obtain⟨cs,hc⟩:=C.gon.rowT ((C.f7 k).1 hk);exact nc_of hc (by unfold QC;decide)
theorem que_fr{Y:Nat->Prop}{base T K:Nat}{A:Qu.QAd}{s:Qu.QSt}(h:Qu.Que w base A T K s)(f:Ta.Fr Y w w')(h1:∀k,qf A T k->¬Y k)(h2:∀k,Y k->NQ w k):Qu.Que w' base A T K s:=by
 obtain⟨ra,sa,h⟩:=h;have F':Qu.Fr Y w w':=⟨f.size,fun k hk hx=>f.block k hk hx⟩;have ne:∀{k:Nat} {cs:Array Value} {U:TypeId} {fr:Nat×Nat},w.heap[k]?=some (.cells cs U fr)->QT U->¬Y k:=fun hk hU hy=>h2 _ hy _ _ _ hk hU;obtain⟨cs,r1,r2⟩:=h.fix.row;refine⟨ra,sa,⟨⟨?_,⟨cs,?_,r2⟩,?_,?_,fun i hi=>?_⟩,?_,fun i hi=>?_,?_,h.inj,h.rne,h.sne,h.lowS,h.lowH⟩⟩
 ·exact(f.block _ (lt_of_block h.fix.head) (h1 _ (.inl rfl))).trans h.fix.head
 ·exact(f.block _ (lt_of_block r1) (h1 _ (.inr (.inr (.inr (.inl rfl)))))).trans r1
 ·exact h.fix.tab.of_block (f.block _ h.fix.tab.lt (h1 _ (.inr (.inr (.inr (.inr (.inr (.inl rfl))))))))
 ·exact(f.block _ (lt_of_block h.fix.qc) (h1 _ (.inr (.inr (.inr (.inr (.inr (.inr (.inl rfl))))))))).trans h.fix.qc
 ·exact(f.block _ (lt_of_block (h.fix.tc i hi)) (h1 _ (.inr (.inr (.inr (.inr (.inr (.inr (.inr ⟨i,hi,.inr rfl⟩))))))))).trans (h.fix.tc i hi)
 ·exact h.slt.of_blocks (f.block _ h.slt.blt (h1 _ (.inr (.inl rfl)))) (f.block _ h.slt.rlt (h1 _ (.inr (.inr (.inl rfl)))))
 ·refine(h.own i hi).fr F' (h1 _ (.inr (.inr (.inr (.inr (.inr (.inr (.inr ⟨i,hi,.inl rfl⟩)))))))) (fun k hk=>?_) (fun k cs he=>ne he (.inr (.inr (.inr (.inr rfl)))));obtain⟨g,es,e,he⟩:=(h.own i hi).row hk;injection e with e1
  subst e1;exact ne he (.inr (.inr (.inl rfl)))
 ·refine h.shr.fr F' (h1 _ (.inr (.inr (.inr (.inr (.inl rfl)))))) (fun k hk=>?_) (fun k cs he=>ne he (.inr (.inr (.inr (.inr rfl)))));obtain⟨g,es,e,he⟩:=h.shr.row hk;injection e with e1
  subst e1;exact ne he (.inr (.inr (.inl rfl)))
theorem toW{Y:Nat->Prop}(f:Ta.Fr Y w w'):Wl.Fr Y w w':=⟨f.os,f.tape,f.output,f.size,f.block⟩
theorem toD{Y:Nat->Prop}(f:Ta.Fr Y w w'):Da.Fr Y w w':=⟨f.os,f.tape,f.output,f.size,f.block⟩
theorem ofW{Y:Nat->Prop}(f:Wl.Fr Y w w'):Ta.Fr Y w w':=⟨f.os,f.tape,f.output,f.size,f.block⟩
theorem ofD{Y:Nat->Prop}(f:Da.Fr Y w w'):Ta.Fr Y w w':=⟨f.os,f.tape,f.output,f.size,f.block⟩
structure K8(S:Nat->Prop)(w':World)(L:Nat)(D:CAd)(F:Nat->Nat->Prop)(g v:Value)(σ:CS):Prop where
 head:¬S 0->w'.heap[D.B]?=some (.cells #[.int .i64 σ.th,.int .i64 σ.k,.int .i64 σ.n,.pointer (some ⟨D.Bt,0,none⟩),.pointer (some ⟨D.A.B,0,none⟩),.pointer (some ⟨D.Bw,0,none⟩),.pointer (some ⟨D.Bd,0,none⟩),.pointer (some ⟨D.ca,0,none⟩),.int .u64 σ.tk,.bool σ.cl,g,v] 69 (0,0))
 tab:¬S 1->Ta.Tb w' (F 1) D.Bt 200 σ.T
 que:¬S 2->Qu.Que w' L D.A σ.th σ.k σ.q
 whl:¬S 3->Wl.Whl w' (F 3) D.Bw D.wb σ.now σ.tm
 dag:¬S 4->Da.Dg w' (F 4) D.Bd σ.E σ.N
 cre:¬S 5->Ca.Cr w' D.ca D.cb D.cr σ.n σ.o σ.m
 evs:¬S 6->Ta.OwnG rE w' L v σ.ev
 gon:¬S 7->Da.OwnI w' L g σ.gone
theorem Co.keep{Y:Nat->Prop}(C:Co w L D F g v σ)(S:Nat->Prop)(f:Ta.Fr Y w w')(hY:∀q,¬S q->∀k,F q k->¬Y k)(h2:¬S 2->∀k,Y k->NQ w k):K8 S w' L D F g v σ:=by
 refine⟨fun h=>?_,fun h=>?_,fun h=>?_,fun h=>?_,fun h=>?_,fun h=>?_,fun h=>?_,fun h=>?_⟩
 ·exact(f.block _ (lt_of_block C.head) (hY 0 h _ ((C.f0 _).2 rfl))).trans C.head
 ·exact C.tab.fr f (hY 1 h)
 ·exact que_fr C.que f (fun k hk=>hY 2 h k ((C.f2 k).2 hk)) (h2 h)
 ·exact C.whl.fr (toW f) (hY 3 h)
 ·exact C.dag.fr (toD f) (hY 4 h)
 ·have q:=hY 5 h;exact C.cre.of_blocks (f.block _ C.cre.alt (q _ ((C.f5 _).2 (.inl rfl)))) (f.block _ C.cre.blt (q _ ((C.f5 _).2 (.inr (.inl rfl))))) (f.block _ C.cre.rlt (q _ ((C.f5 _).2 (.inr (.inr rfl)))))
 ·exact C.evs.of_block fun k hk=>f.block k (C.evs.rowLt hk).2 (hY 6 h k ((C.f6 k).2 hk))
 ·exact C.gon.of_block fun k hk=>f.block k (C.gon.rowLt hk).2 (hY 7 h k ((C.f7 k).2 hk))
theorem Co.keepP(C:Co w L D F g v σ){p:Nat}(hp:p<=7)(h2:p≠2)(f:Ta.Fr (F p) w w'):K8 (fun q=>q=p) w' L D F g v σ:=
 C.keep (fun q=>q=p) f (fun q hq k hk hy=>C.fp.dis q p k hq hk hy) (fun _ k hk=>C.nq hp h2 hk)
theorem Co.gnP(C:Co w L D F g v σ){p:Nat}(h2:p≠2)(f:Ta.Fr (F p) w w'){X:Nat->Prop}(hX:∀k,X k->F p k\/w.heap.size<=k):Gn L F w (fset F p X) w':=by
 refine⟨f.toBelow (fun k hk=>C.fp.low p k h2 hk) C.lw,fun k hk hF _=>f.block k hk (hF p),fun q k hk=>?_⟩;by_cases e:q=p
 ·subst e;rw[fset_same] at hk;exact hX k hk
 ·rw[fset_ne _ _ e] at hk;exact .inl hk
theorem Co.gcP(C:Co w L D F g v σ){p:Nat}(h2:p≠2)(f:Ta.Fr (F p) w w'){X:Nat->Prop}(hX:∀k,X k->F p k\/w.heap.size<=k)(h0:p≠0):Gc L F w (fset F p X) w':=by
 refine⟨C.gnP h2 f hX,fun k cs fr hk=>⟨cs,(f.block k (lt_of_block hk) (fun hF=>C.nc (C.f8 p k hF) h0 h2 hF _ _ _ hk rfl)).trans hk,rfl⟩⟩
theorem Co.setTab(C:Co w L D F g v σ){X:Nat->Prop}{T:List Ta.TR}(h:Ta.Tb w' X D.Bt 200 T)(s:Ta.Sx (F 1) w X w'):Co w' L D (fset F 1 X) g v {σ with T:=T}/\Gc L F w (fset F 1 X) w':=by
 have K:=C.keepP (p:=1) (by omega) (by omega) s.fr;refine⟨⟨K.head (by simp),h,K.que (by simp),K.whl (by simp),K.dag (by simp),K.cre (by simp),K.evs (by simp),K.gon (by simp),C.f0,C.f2,C.f5,C.f6,C.f7,f8_set C.f8 (by omega),C.fp.set (by omega) s.fr.size s.new (fun k hk=>h.lt hk) C.lw,le_trans C.lw s.fr.size,le_trans C.wb s.fr.size,C.qok,C.th1,C.th8,C.k16⟩,C.gcP (by omega) s.fr s.new (by omega)⟩
theorem Co.setDag(C:Co w L D F g v σ){X:Nat->Prop}{E:Da.Rel}{N:Nat}(h:Da.Dg w' X D.Bd E N)(s:Da.St (F 4) w X w'):Co w' L D (fset F 4 X) g v {σ with E:=E,N:=N}/\Gc L F w (fset F 4 X) w':=by
 have f:=ofD s.fr;have K:=C.keepP (p:=4) (by omega) (by omega) f;exact⟨⟨K.head (by simp),K.tab (by simp),K.que (by simp),K.whl (by simp),h,K.cre (by simp),K.evs (by simp),K.gon (by simp),C.f0,C.f2,C.f5,C.f6,C.f7,f8_set C.f8 (by omega),C.fp.set (by omega) f.size s.new (fun k hk=>h.lt hk) C.lw,le_trans C.lw f.size,le_trans C.wb f.size,C.qok,C.th1,C.th8,C.k16⟩,C.gcP (by omega) f s.new (by omega)⟩
theorem Co.setWhl(C:Co w L D F g v σ){now:Nat}{T:List Wl.Ent}(h:Wl.WIs w (F 3) D.Bw D.wb now T w'):∃X,Co w' L D (fset F 3 X) g v {σ with now:=now,tm:=T}/\Gc L F w (fset F 3 X) w':=by
 obtain⟨X,h,f0,hX⟩:=h;have f:=ofW f0;have K:=C.keepP (p:=3) (by omega) (by omega) f;exact⟨X,⟨K.head (by simp),K.tab (by simp),K.que (by simp),h,K.dag (by simp),K.cre (by simp),K.evs (by simp),K.gon (by simp),C.f0,C.f2,C.f5,C.f6,C.f7,f8_set C.f8 (by omega),C.fp.set (by omega) f.size hX (fun k hk=>(h.low k hk).2) C.lw,le_trans C.lw f.size,le_trans C.wb f.size,C.qok,C.th1,C.th8,C.k16⟩,C.gcP (by omega) f hX (by omega)⟩
theorem fset_id(F:Nat->Nat->Prop)(p:Nat):fset F p (F p)=F:=by
 funext q
 by_cases e:q=p
 ·subst e;exact fset_same _ _ _
 ·exact fset_ne _ _ e
theorem Co.setCre(C:Co w L D F g v σ){o m:Nat}(h:Ca.Cr w' D.ca D.cb D.cr σ.n o m)(s:Ca.Kept D.cb D.cb D.cr w w'):Co w' L D F g v {σ with o:=o,m:=m}/\Gc L F w F w':=by
 have f:Ta.Fr (F 5) w w':=⟨s.os,s.tape,s.output,s.size,fun k hk hx=>s.block k hk (fun e=>hx ((C.f5 k).2 (.inr (.inl e)))) (fun e=>hx ((C.f5 k).2 (.inr (.inl e)))) (fun e=>hx ((C.f5 k).2 (.inr (.inr e))))⟩;have K:=C.keepP (p:=5) (by omega) (by omega) f;have G:=C.gcP (p:=5) (by omega) f (X:=F 5) (fun k hk=>.inl hk) (by omega);rw[fset_id] at G;exact⟨⟨K.head (by simp),K.tab (by simp),K.que (by simp),K.whl (by simp),K.dag (by simp),h,K.evs (by simp),K.gon (by simp),C.f0,C.f2,C.f5,C.f6,C.f7,C.f8,C.fp.grow f.size,le_trans C.lw f.size,le_trans C.wb f.size,C.qok,C.th1,C.th8,C.k16⟩,G⟩
theorem Co.setQue(C:Co w L D F g v σ){q:Qu.QSt}{qn:Nat}(h:Qu.Que w' L D.A σ.th σ.k q)(s:Qu.Went L w w')(ok:Qu.QOk σ.k σ.th qn q):Co w' L D F g v {σ with q:=q,qn:=qn}/\Gc L F w F w':=by
 have f:Ta.Fr (fun k=>∃cs U fr,w.heap[k]?=some (.cells cs U fr)/\Qu.MQ U) w w':=⟨s.low.os,s.low.tape,s.low.output,s.low.size,fun k hk hx=>s.all k hk (fun cs U fr h1 h2=>hx ⟨cs,U,fr,h1,h2⟩)⟩
 have K:=C.keep (fun q=>q=2) f (fun q hq k hk hy=>by
  obtain⟨cs,U,fr,h1,h2⟩:=hy;have hq7:q<=7:=C.f8 q k hk;exact mq_qt (C.nq hq7 hq hk cs U fr h1) h2) (fun e=>absurd rfl e)
 exact⟨⟨K.head (by simp),K.tab (by simp),h,K.whl (by simp),K.dag (by simp),K.cre (by simp),K.evs (by simp),K.gon (by simp),C.f0,C.f2,C.f5,C.f6,C.f7,C.f8,C.fp.grow f.size,le_trans C.lw f.size,le_trans C.wb f.size,ok,C.th1,C.th8,C.k16⟩,⟨⟨s.low,fun k hk _ hU=>s.all k hk hU,fun _ _ h=>.inl h⟩,fun k cs fr hk=>⟨cs,(s.all k (lt_of_block hk) (fun cs' U fr' h1 h2=>by rw[hk] at h1;simp only[Option.some.injEq,Obj.cells.injEq] at h1;exact mq_qc h2 h1.2.1.symm)).trans hk,rfl⟩⟩⟩
theorem Co.below(C:Co w L D F g v σ)(h:Below w.heap.size w w'):Co w' L D F g v σ:=by
 have K:=C.keep (fun q=>False) (Ta.Fr.below (X:=fun _=>False) h) (fun q hq k hk hy=>hy) (fun _ k hk=>hk.elim);exact⟨K.head (by simp),K.tab (by simp),K.que (by simp),K.whl (by simp),K.dag (by simp),K.cre (by simp),K.evs (by simp),K.gon (by simp),C.f0,C.f2,C.f5,C.f6,C.f7,C.f8,C.fp.grow h.size,le_trans C.lw h.size,le_trans C.wb h.size,C.qok,C.th1,C.th8,C.k16⟩
theorem Co.drew(C:Co w L D F g v σ):Co w.drew L D F g v σ:=C.below (Below.refl _ _).drew
theorem Co.hd0(C:Co w L D F g v σ){cs':Array Value}(f:Ta.Fr (F 0) w w')(hh:w'.heap[D.B]?=some (.cells cs' 69 (0,0)))(e:cs'[10]?=some g):∀(k:Nat)(cs:Array Value)(fr:Nat×Nat),w.heap[k]?=some (.cells cs 69 fr)->∃cs',w'.heap[k]?=some (.cells cs' 69 fr)/\cs'[10]?=cs[10]?:=fun k cs fr hk=>by
 by_cases h:k=D.B
 ·subst h;have h1:=C.head.symm.trans hk;simp only[Option.some.injEq,Obj.cells.injEq] at h1;obtain⟨rfl,_,rfl⟩:=h1;exact⟨cs',hh,e⟩
 ·exact⟨cs,(f.block k (lt_of_block hk) (fun hF=>h ((C.f0 k).1 hF))).trans hk,rfl⟩
theorem Co.setHead(C:Co w L D F g v σ){g' v':Value}{σ':CS}(f:Ta.Fr (F 0) w w')(hh:w'.heap[D.B]?=some (.cells #[.int .i64 σ.th,.int .i64 σ.k,.int .i64 σ.n,.pointer (some ⟨D.Bt,0,none⟩),.pointer (some ⟨D.A.B,0,none⟩),.pointer (some ⟨D.Bw,0,none⟩),.pointer (some ⟨D.Bd,0,none⟩),.pointer (some ⟨D.ca,0,none⟩),.int .u64 σ'.tk,.bool σ'.cl,g,v] 69 (0,0)))
  (hσ:σ'={σ with tk:=σ'.tk,cl:=σ'.cl}):Co w' L D F g v σ'/\Gc L F w F w':=by
 have K:=C.keepP (p:=0) (by omega) (by omega) f;have G:=C.gnP (p:=0) (by omega) f (X:=F 0) (fun k hk=>.inl hk);rw[fset_id] at G;have HD:=C.hd0 f hh rfl;rw[hσ] at hh⊢;exact⟨⟨hh,K.tab (by simp),K.que (by simp),K.whl (by simp),K.dag (by simp),K.cre (by simp),K.evs (by simp),K.gon (by simp),C.f0,C.f2,C.f5,C.f6,C.f7,C.f8,C.fp.grow f.size,le_trans C.lw f.size,le_trans C.wb f.size,C.qok,C.th1,C.th8,C.k16⟩,⟨G,HD⟩⟩
theorem set_at{w:World}{B k:Nat}{cs:Array Value}{U:TypeId}(h:w.heap[B]?=some (.cells cs U (0,0)))(v:Value):(w.setCell ⟨B,k,none⟩ v).heap[B]?=some (.cells (cs.setIfInBounds k v) U (0,0)):=Ta.set_head h
theorem Co.two(C:Co w L D F g v σ){p:Nat}(hp:p<=7)(h2:p≠2)(f:Ta.Fr (fun k=>F p k\/F 0 k) w w'):K8 (fun q=>q=p\/q=0) w' L D F g v σ:=
 C.keep (fun q=>q=p\/q=0) f (fun q hq k hk hy=>by
  rcases hy with hy|hy
  ·exact C.fp.dis q p k (fun e=>hq (.inl e)) hk hy
  ·exact C.fp.dis q 0 k (fun e=>hq (.inr e)) hk hy) (fun _ k hk=>by
  rcases hk with hk|hk
  ·exact C.nq hp h2 hk
  ·exact C.nq (by omega) (by omega) hk)
theorem Co.gn2(C:Co w L D F g v σ){p:Nat}(h2:p≠2)(f:Ta.Fr (fun k=>F p k\/F 0 k) w w'){X:Nat->Prop}(hX:∀k,X k->F p k\/w.heap.size<=k):Gn L F w (fset F p X) w':=by
 refine⟨f.toBelow (fun k hk=>by rcases hk with hk|hk;exact C.fp.low p k h2 hk;exact C.fp.low 0 k (by omega) hk) C.lw,fun k hk hF _=>f.block k hk (fun hk=>by rcases hk with hk|hk;exact hF p hk;exact hF 0 hk),fun q k hk=>?_⟩;by_cases e:q=p
 ·subst e;rw[fset_same] at hk;exact hX k hk
 ·rw[fset_ne _ _ e] at hk;exact .inl hk
theorem Co.gc2(C:Co w L D F g v σ){p:Nat}(h2:p≠2)(f:Ta.Fr (fun k=>F p k\/F 0 k) w w'){X:Nat->Prop}(hX:∀k,X k->F p k\/w.heap.size<=k)(h0:p≠0){cs':Array Value}(hh:w'.heap[D.B]?=some (.cells cs' 69 (0,0)))(e:cs'[10]?=some g):Gc L F w (fset F p X) w':=by
 refine⟨C.gn2 h2 f hX,fun k cs fr hk=>?_⟩;by_cases h:k=D.B
 ·subst h;have h1:=C.head.symm.trans hk;simp only[Option.some.injEq,Obj.cells.injEq] at h1;obtain⟨rfl,_,rfl⟩:=h1;exact⟨cs',hh,e⟩
 ·refine⟨cs,(f.block k (lt_of_block hk) (fun hF=>?_)).trans hk,rfl⟩;rcases hF with hF|hF
  ·exact C.nc (C.f8 p k hF) h0 h2 hF _ _ _ hk rfl
  ·exact h ((C.f0 k).1 hF)
theorem Co.setEv(C:Co w L D F g v σ){v':Value}{ev:List EvR}(o:Ta.OwnG rE w' L v' ev)(f:Ta.Fr (fun k=>v.ownBlock=some k) w w')(hn:∀k,v'.ownBlock=some k->v.ownBlock=some k\/w.heap.size<=k) :
  Co (w'.setCell ⟨D.B,11,none⟩ v') L D (fset F 6 (fun k=>v'.ownBlock=some k)) g v' {σ with ev:=ev}/\Gc L F w (fset F 6 (fun k=>v'.ownBlock=some k)) (w'.setCell ⟨D.B,11,none⟩ v'):=by
 have f':Ta.Fr (fun k=>F 6 k\/F 0 k) w w':=f.mono (fun k hk=>.inl ((C.f6 k).2 hk));have f2:Ta.Fr (fun k=>F 6 k\/F 0 k) w (w'.setCell ⟨D.B,11,none⟩ v'):=f'.trans (Ta.Fr.setCell (fun k=>k=D.B) w' D.B 11 v' rfl) (fun j hj=>.inl (.inr ((C.f0 j).2 hj)));have K:=C.two (p:=6) (by omega) (by omega) f2;have hX:∀k,v'.ownBlock=some k->F 6 k\/w.heap.size<=k:=fun k hk=>(hn k hk).imp (C.f6 k).2 id;have hh:w'.heap[D.B]?=w.heap[D.B]?:=f.block _ (lt_of_block C.head) (fun e=>C.fp.dis 0 6 D.B (by omega) ((C.f0 _).2 rfl) ((C.f6 _).2 e))
 have ne:∀k,v'.ownBlock=some k->k≠D.B:=fun k hk e=>by
  subst e;rcases hX _ hk with h|h
  ·exact C.fp.dis 0 6 _ (by omega) ((C.f0 _).2 rfl) h
  ·have:=lt_of_block C.head;omega
 have o2:Ta.OwnG rE (w'.setCell ⟨D.B,11,none⟩ v') L v' ev:=o.of_block fun k hk=>heap_setCell_other _ _ k _ (fun e=>ne k hk e);refine⟨⟨by rw[set_at (hh.trans C.head)];rfl,K.tab (by simp),K.que (by simp),K.whl (by simp),K.dag (by simp),K.cre (by simp),o2,K.gon (by simp),C.f0,C.f2,C.f5,fun k=>by rw[fset_same],C.f7,f8_set C.f8 (by omega),C.fp.set (by omega) f2.size hX (fun k hk=>(o2.rowLt hk).2) C.lw,le_trans C.lw f2.size,le_trans C.wb f2.size,C.qok,C.th1,C.th8,C.k16⟩,C.gc2 (by omega) f2 hX (by omega) (set_at (hh.trans C.head) v') rfl⟩
theorem Co.cell(C:Co w L D F g v σ)(k:Nat):w.cell? ⟨D.B,k,none⟩=(#[.int .i64 σ.th,.int .i64 σ.k,.int .i64 σ.n,.pointer (some ⟨D.Bt,0,none⟩),.pointer (some ⟨D.A.B,0,none⟩),.pointer (some ⟨D.Bw,0,none⟩),.pointer (some ⟨D.Bd,0,none⟩),.pointer (some ⟨D.ca,0,none⟩),.int .u64 σ.tk,.bool σ.cl,g,v]:Array Value)[k]?:=cell_of_row _ _ _ _ _ _ C.head
theorem Co.c0(C:Co w L D F g v σ):w.cell? ⟨D.B,0,none⟩=some (.int .i64 σ.th):=C.cell 0
theorem Co.c1(C:Co w L D F g v σ):w.cell? ⟨D.B,1,none⟩=some (.int .i64 σ.k):=C.cell 1
theorem Co.c2(C:Co w L D F g v σ):w.cell? ⟨D.B,2,none⟩=some (.int .i64 σ.n):=C.cell 2
theorem Co.c3(C:Co w L D F g v σ):w.cell? ⟨D.B,3,none⟩=some (.pointer (some ⟨D.Bt,0,none⟩)):=C.cell 3
theorem Co.c4(C:Co w L D F g v σ):w.cell? ⟨D.B,4,none⟩=some (.pointer (some ⟨D.A.B,0,none⟩)):=C.cell 4
theorem Co.c5(C:Co w L D F g v σ):w.cell? ⟨D.B,5,none⟩=some (.pointer (some ⟨D.Bw,0,none⟩)):=C.cell 5
theorem Co.c6(C:Co w L D F g v σ):w.cell? ⟨D.B,6,none⟩=some (.pointer (some ⟨D.Bd,0,none⟩)):=C.cell 6
theorem Co.c7(C:Co w L D F g v σ):w.cell? ⟨D.B,7,none⟩=some (.pointer (some ⟨D.ca,0,none⟩)):=C.cell 7
theorem Co.c8(C:Co w L D F g v σ):w.cell? ⟨D.B,8,none⟩=some (.int .u64 σ.tk):=C.cell 8
theorem Co.c9(C:Co w L D F g v σ):w.cell? ⟨D.B,9,none⟩=some (.bool σ.cl):=C.cell 9
theorem Co.c11(C:Co w L D F g v σ):w.cell? ⟨D.B,11,none⟩=some v:=C.cell 11
theorem Co.fz(C:Co w L D F g v σ)(o:Nat):w.frozen? ⟨D.B,o,none⟩=false:=by simp[World.frozen?,C.head]
def Gq(F:Nat->Nat->Prop)(w w':World):Prop:=∀k,k<w.heap.size->(∀p,p≠2->¬F p k)->w'.heap[k]?=w.heap[k]?
theorem Gq.below(F:Nat->Nat->Prop)(h:Below w.heap.size w w'):Gq F w w':=fun k hk _=>h.block k hk
theorem Gq.trans(h:Gq F w w')(G:Gc L F w F' w')(k:Gq F' w' w''):Gq F w w'':=fun j hj hF=>by
 rw[<-h j hj hF];refine k j (lt_of_lt_of_le hj G.size) (fun p hp hx=>?_);rcases G.new p j hx with e|e
 ·exact hF p hp e
 ·omega
theorem Co.box{w1 w2:World}{F1:Nat->Nat->Prop}{g1 v1:Value}{σ1:CS}{K:Nat}(C:Co w L D F g v σ)(C1:Co w1 L D F1 g1 v1 σ1)(G:Gc L F w F1 w1)(Q:Gq F w w1)(hq:σ1.q=σ.q)(ht:σ1.th=σ.th)(hk:σ1.k=σ.k)(hK:w.heap.size<=K)(hK1:K<w1.heap.size)(hn:∀p,¬F1 p K)(f:Ta.Fr (fun k=>k=K) w1 w2):Co w2 L D F1 g1 v1 σ1/\Gc L F w F1 w2/\Gq F w w2:=by
 have e:∀k,k<w1.heap.size->k≠K->w2.heap[k]?=w1.heap[k]?:=fun k hk hx=>f.block k hk hx;have low:∀k,k<w.heap.size->w2.heap[k]?=w1.heap[k]?:=fun k hk=>e k (lt_of_lt_of_le hk G.size) (by omega);have FW:Ta.Fr (fun k=>∃p,p≠2/\F p k) w w2:=⟨f.os.trans G.low.os,f.tape.trans G.low.tape,f.output.trans G.low.output,le_trans G.size f.size,fun k hk hx=>(low k hk).trans (Q k hk (fun p hp hF=>hx ⟨p,hp,hF⟩))⟩
 have que:Qu.Que w2 L D.A σ1.th σ1.k σ1.q:=by
  rw[hq,ht,hk];exact que_fr C.que FW (fun k hk ⟨p,hp,hF⟩=>C.fp.dis p 2 k hp hF ((C.f2 k).2 hk)) (fun k ⟨p,hp,hF⟩=>C.nq (C.f8 p k hF) hp hF)
 have KK:K8 (fun q=>q=2) w2 L D F1 g1 v1 σ1:=C1.keep (fun q=>q=2) f (fun q hq k hk hy=>by subst hy;exact hn q hk) (fun e=>absurd rfl e)
 refine⟨⟨KK.head (by simp),KK.tab (by simp),que,KK.whl (by simp),KK.dag (by simp),KK.cre (by simp),KK.evs (by simp),KK.gon (by simp),C1.f0,C1.f2,C1.f5,C1.f6,C1.f7,C1.f8,C1.fp.grow f.size,le_trans C1.lw f.size,le_trans C1.wb f.size,C1.qok,C1.th1,C1.th8,C1.k16⟩,⟨⟨G.low.trans (f.toBelow (fun k hk=>by subst hk;exact le_trans C.lw hK) (le_trans C.lw G.size)),fun k hk hF hU=>(low k hk).trans (G.block k hk hF hU),G.new⟩,fun k cs fr hk=>by
  obtain⟨cs',h1,e1⟩:=G.hd k cs fr hk;exact⟨cs',(low k (lt_of_block hk)).trans h1,e1⟩⟩,fun k hk hF=>(low k hk).trans (Q k hk hF)⟩
def Cox(L:Nat)(D:CAd)(F:Nat->Nat->Prop)(w:World)(σ:CS)(w':World):Prop:=∃F' g' v',Co w' L D F' g' v' σ/\Gc L F w F' w'
theorem Cox.then{σ1 σ2:CS}(h:Cox L D F w σ1 w')(k:∀F' g' v',Co w' L D F' g' v' σ1->Cox L D F' w' σ2 w''):Cox L D F w σ2 w'':=by
 obtain⟨F1,g1,v1,C1,G1⟩:=h;obtain⟨F2,g2,v2,C2,G2⟩:=k F1 g1 v1 C1;exact⟨F2,g2,v2,C2,G1.trans G2⟩
theorem Cox.below{σ1:CS}(h:Cox L D F w σ1 w')(b:Below w'.heap.size w' w''):Cox L D F w σ1 w'':=h.then fun F' g' v' C=>⟨F',g',v',C.below b,Gc.below F' C.lw b⟩
theorem Co.x(C:Co w L D F g v σ):Cox L D F w σ w:=⟨F,g,v,C,Gc.refl _ _ _⟩
theorem Co.xb(C:Co w L D F g v σ)(b:Below w.heap.size w w'):Cox L D F w σ w':=C.x.below b
end
section
open Go.RowKit Go.WideMaps Go.Maps
theorem mixedC:prog.follows .mixedOrders=true:=by kernel_rfl
theorem bx2{w:World}{K:Nat}{x y:Value}{U:TypeId}(h:w.heap[K]?=some (.cells #[x,y] U (0,0))):w.cell? ⟨K,0,none⟩=some x/\w.cell? ⟨K,1,none⟩=some y:=⟨by rw[cell_of_row _ _ _ _ _ _ h];rfl,by rw[cell_of_row _ _ _ _ _ _ h];rfl⟩
theorem belA(w:World)(o:Obj):Below w.heap.size w (w.alloc o):=(Below.refl _ _).alloc (Nat.le_refl _) _
theorem belT{w u v:World}(h:Below w.heap.size w u)(k:Below u.heap.size u v):Below w.heap.size w v:=h.trans (k.mono h.size)
theorem follow_02(B:Nat)(t id:Int)(w:World){Q:World->Prop}(hf:∀w1,Below w.heap.size w w1->Calls prog 100 #[.pointer (some ⟨B,0,none⟩),.int .i64 t,.int .i64 id] w1 fun e w'=>e=.returned (.tuple #[])/\Q w') :
  Calls prog 44 #[.pointer (some ⟨B,0,none⟩),.int .i64 t,.int .i64 id,.agg #[.int .i64 0,.int .i64 2]] w fun e w'=>e=.returned (.tuple #[])/\Q w':=by
 have eg:=enters_of (P:=prog) func100 (by kernel_rfl) rfl;have mx:=mixedC;obtain⟨K,hK⟩:∃K,w.heap.size=K:=⟨_,rfl⟩;obtain⟨u,hu⟩:∃x,w.alloc (.cells #[.int .i64 0,.int .i64 2] 108)=x:=⟨_,rfl⟩;have hB:u.drew.heap[K]?=some (.cells #[.int .i64 0,.int .i64 2] 108 (0,0)):=by rw[<-hu,<-hK];exact heap_alloc_new w _
 have b0:Aside (Below w.heap.size w u.drew):=by show Below w.heap.size w u.drew;rw[<-hu];exact(belA _ _).drew
 obtain⟨c0,c1⟩:=bx2 hB;have HB:Aside _:=hB;have HU:Aside _:=hu;have HF:Aside _:=hf;clear hu hB hf;go_enter func44,ntmps44
 go_wp2_with fail
 rw[HU.out]
 go_region_held3 (fun w'=>w'.cell? ⟨K,0,none⟩=some (.int .i64 0)/\w'.cell? ⟨K,1,none⟩=some (.int .i64 2)) (first|exact⟨c0,c1⟩|exact⟨d0,d1⟩) ((go_at_call 74;refine(stepsC_any B _).mono ?_;rintro e v ⟨rfl,b1,st⟩;have hb2:v.heap[K]?=some (.cells #[.int .i64 0,.int .i64 2] 108 (0,0)):=(b1.block K (lt_of_block HB.out)).trans HB.out;obtain⟨d0,d1⟩:=bx2 hb2;have lk:(Instr.lookup 169 (.map (some u.heap.size)) (.agg #[.int .i64 0,.int .i64 2]) true).run prog v=.ok (.tuple #[.func (.func 100) #[.pointer (some ⟨B,0,none⟩)] #[],.bool true]) v:=st.look (j:=4) (by decide)))
 have BV:Aside (Below w.heap.size w v):=belT b0.out b1;clear c0 c1 d0 d1 lk st b1 hb2
 go_wp2_with fail
 refine(HF.out v BV.out).mono ?_;rintro e w2 ⟨rfl,q⟩;have FIN:Aside _:=q;clear q
 go_wp2_with fail
 go_end0
 exact⟨rfl,FIN.out⟩
theorem follow_12(B:Nat)(t id:Int)(w:World){Q:World->Prop}(hf:∀w1,Below w.heap.size w w1->Calls prog 100 #[.pointer (some ⟨B,0,none⟩),.int .i64 t,.int .i64 id] w1 fun e w'=>e=.returned (.tuple #[])/\Q w') :
  Calls prog 44 #[.pointer (some ⟨B,0,none⟩),.int .i64 t,.int .i64 id,.agg #[.int .i64 1,.int .i64 2]] w fun e w'=>e=.returned (.tuple #[])/\Q w':=by
 have eg:=enters_of (P:=prog) func100 (by kernel_rfl) rfl;have mx:=mixedC;obtain⟨K,hK⟩:∃K,w.heap.size=K:=⟨_,rfl⟩;obtain⟨u,hu⟩:∃x,w.alloc (.cells #[.int .i64 1,.int .i64 2] 108)=x:=⟨_,rfl⟩;have hB:u.drew.heap[K]?=some (.cells #[.int .i64 1,.int .i64 2] 108 (0,0)):=by rw[<-hu,<-hK];exact heap_alloc_new w _
 have b0:Aside (Below w.heap.size w u.drew):=by show Below w.heap.size w u.drew;rw[<-hu];exact(belA _ _).drew
 obtain⟨c0,c1⟩:=bx2 hB;have HB:Aside _:=hB;have HU:Aside _:=hu;have HF:Aside _:=hf;clear hu hB hf;go_enter func44,ntmps44
 go_wp2_with fail
 rw[HU.out]
 go_region_held3 (fun w'=>w'.cell? ⟨K,0,none⟩=some (.int .i64 1)/\w'.cell? ⟨K,1,none⟩=some (.int .i64 2)) (first|exact⟨c0,c1⟩|exact⟨d0,d1⟩) ((go_at_call 74;refine(stepsC_any B _).mono ?_;rintro e v ⟨rfl,b1,st⟩;have hb2:v.heap[K]?=some (.cells #[.int .i64 1,.int .i64 2] 108 (0,0)):=(b1.block K (lt_of_block HB.out)).trans HB.out;obtain⟨d0,d1⟩:=bx2 hb2;have lk:(Instr.lookup 169 (.map (some u.heap.size)) (.agg #[.int .i64 1,.int .i64 2]) true).run prog v=.ok (.tuple #[.func (.func 100) #[.pointer (some ⟨B,0,none⟩)] #[],.bool true]) v:=st.look (j:=12) (by decide)))
 have BV:Aside (Below w.heap.size w v):=belT b0.out b1;clear c0 c1 d0 d1 lk st b1 hb2
 go_wp2_with fail
 refine(HF.out v BV.out).mono ?_;rintro e w2 ⟨rfl,q⟩;have FIN:Aside _:=q;clear q
 go_wp2_with fail
 go_end0
 exact⟨rfl,FIN.out⟩
theorem follow_16(B:Nat)(t id:Int)(w:World){Q:World->Prop}(hf:∀w1,Below w.heap.size w w1->Calls prog 102 #[.pointer (some ⟨B,0,none⟩),.int .i64 t,.int .i64 id] w1 fun e w'=>e=.returned (.tuple #[])/\Q w') :
  Calls prog 44 #[.pointer (some ⟨B,0,none⟩),.int .i64 t,.int .i64 id,.agg #[.int .i64 1,.int .i64 6]] w fun e w'=>e=.returned (.tuple #[])/\Q w':=by
 have eg:=enters_of (P:=prog) func102 (by kernel_rfl) rfl;have mx:=mixedC;obtain⟨K,hK⟩:∃K,w.heap.size=K:=⟨_,rfl⟩;obtain⟨u,hu⟩:∃x,w.alloc (.cells #[.int .i64 1,.int .i64 6] 108)=x:=⟨_,rfl⟩;have hB:u.drew.heap[K]?=some (.cells #[.int .i64 1,.int .i64 6] 108 (0,0)):=by rw[<-hu,<-hK];exact heap_alloc_new w _
 have b0:Aside (Below w.heap.size w u.drew):=by show Below w.heap.size w u.drew;rw[<-hu];exact(belA _ _).drew
 obtain⟨c0,c1⟩:=bx2 hB;have HB:Aside _:=hB;have HU:Aside _:=hu;have HF:Aside _:=hf;clear hu hB hf;go_enter func44,ntmps44
 go_wp2_with fail
 rw[HU.out]
 go_region_held3 (fun w'=>w'.cell? ⟨K,0,none⟩=some (.int .i64 1)/\w'.cell? ⟨K,1,none⟩=some (.int .i64 6)) (first|exact⟨c0,c1⟩|exact⟨d0,d1⟩) ((go_at_call 74;refine(stepsC_any B _).mono ?_;rintro e v ⟨rfl,b1,st⟩;have hb2:v.heap[K]?=some (.cells #[.int .i64 1,.int .i64 6] 108 (0,0)):=(b1.block K (lt_of_block HB.out)).trans HB.out;obtain⟨d0,d1⟩:=bx2 hb2;have lk:(Instr.lookup 169 (.map (some u.heap.size)) (.agg #[.int .i64 1,.int .i64 6]) true).run prog v=.ok (.tuple #[.func (.func 102) #[.pointer (some ⟨B,0,none⟩)] #[],.bool true]) v:=st.look (j:=16) (by decide)))
 have BV:Aside (Below w.heap.size w v):=belT b0.out b1;clear c0 c1 d0 d1 lk st b1 hb2
 go_wp2_with fail
 refine(HF.out v BV.out).mono ?_;rintro e w2 ⟨rfl,q⟩;have FIN:Aside _:=q;clear q
 go_wp2_with fail
 go_end0
 exact⟨rfl,FIN.out⟩
theorem follow_23(B:Nat)(t id:Int)(w:World){Q:World->Prop}(hf:∀w1,Below w.heap.size w w1->Calls prog 103 #[.pointer (some ⟨B,0,none⟩),.int .i64 t,.int .i64 id] w1 fun e w'=>e=.returned (.tuple #[])/\Q w') :
  Calls prog 44 #[.pointer (some ⟨B,0,none⟩),.int .i64 t,.int .i64 id,.agg #[.int .i64 2,.int .i64 3]] w fun e w'=>e=.returned (.tuple #[])/\Q w':=by
 have eg:=enters_of (P:=prog) func103 (by kernel_rfl) rfl;have mx:=mixedC;obtain⟨K,hK⟩:∃K,w.heap.size=K:=⟨_,rfl⟩;obtain⟨u,hu⟩:∃x,w.alloc (.cells #[.int .i64 2,.int .i64 3] 108)=x:=⟨_,rfl⟩;have hB:u.drew.heap[K]?=some (.cells #[.int .i64 2,.int .i64 3] 108 (0,0)):=by rw[<-hu,<-hK];exact heap_alloc_new w _
 have b0:Aside (Below w.heap.size w u.drew):=by show Below w.heap.size w u.drew;rw[<-hu];exact(belA _ _).drew
 obtain⟨c0,c1⟩:=bx2 hB;have HB:Aside _:=hB;have HU:Aside _:=hu;have HF:Aside _:=hf;clear hu hB hf;go_enter func44,ntmps44
 go_wp2_with fail
 rw[HU.out]
 go_region_held3 (fun w'=>w'.cell? ⟨K,0,none⟩=some (.int .i64 2)/\w'.cell? ⟨K,1,none⟩=some (.int .i64 3)) (first|exact⟨c0,c1⟩|exact⟨d0,d1⟩) ((go_at_call 74;refine(stepsC_any B _).mono ?_;rintro e v ⟨rfl,b1,st⟩;have hb2:v.heap[K]?=some (.cells #[.int .i64 2,.int .i64 3] 108 (0,0)):=(b1.block K (lt_of_block HB.out)).trans HB.out;obtain⟨d0,d1⟩:=bx2 hb2;have lk:(Instr.lookup 169 (.map (some u.heap.size)) (.agg #[.int .i64 2,.int .i64 3]) true).run prog v=.ok (.tuple #[.func (.func 103) #[.pointer (some ⟨B,0,none⟩)] #[],.bool true]) v:=st.look (j:=20) (by decide)))
 have BV:Aside (Below w.heap.size w v):=belT b0.out b1;clear c0 c1 d0 d1 lk st b1 hb2
 go_wp2_with fail
 refine(HF.out v BV.out).mono ?_;rintro e w2 ⟨rfl,q⟩;have FIN:Aside _:=q;clear q
 go_wp2_with fail
 go_end0
 exact⟨rfl,FIN.out⟩
theorem follow_26(B:Nat)(t id:Int)(w:World){Q:World->Prop}(hf:∀w1,Below w.heap.size w w1->Calls prog 104 #[.pointer (some ⟨B,0,none⟩),.int .i64 t,.int .i64 id] w1 fun e w'=>e=.returned (.tuple #[])/\Q w') :
  Calls prog 44 #[.pointer (some ⟨B,0,none⟩),.int .i64 t,.int .i64 id,.agg #[.int .i64 2,.int .i64 6]] w fun e w'=>e=.returned (.tuple #[])/\Q w':=by
 have eg:=enters_of (P:=prog) func104 (by kernel_rfl) rfl;have mx:=mixedC;obtain⟨K,hK⟩:∃K,w.heap.size=K:=⟨_,rfl⟩;obtain⟨u,hu⟩:∃x,w.alloc (.cells #[.int .i64 2,.int .i64 6] 108)=x:=⟨_,rfl⟩;have hB:u.drew.heap[K]?=some (.cells #[.int .i64 2,.int .i64 6] 108 (0,0)):=by rw[<-hu,<-hK];exact heap_alloc_new w _
 have b0:Aside (Below w.heap.size w u.drew):=by show Below w.heap.size w u.drew;rw[<-hu];exact(belA _ _).drew
 obtain⟨c0,c1⟩:=bx2 hB;have HB:Aside _:=hB;have HU:Aside _:=hu;have HF:Aside _:=hf;clear hu hB hf;go_enter func44,ntmps44
 go_wp2_with fail
 rw[HU.out]
 go_region_held3 (fun w'=>w'.cell? ⟨K,0,none⟩=some (.int .i64 2)/\w'.cell? ⟨K,1,none⟩=some (.int .i64 6)) (first|exact⟨c0,c1⟩|exact⟨d0,d1⟩) ((go_at_call 74;refine(stepsC_any B _).mono ?_;rintro e v ⟨rfl,b1,st⟩;have hb2:v.heap[K]?=some (.cells #[.int .i64 2,.int .i64 6] 108 (0,0)):=(b1.block K (lt_of_block HB.out)).trans HB.out;obtain⟨d0,d1⟩:=bx2 hb2;have lk:(Instr.lookup 169 (.map (some u.heap.size)) (.agg #[.int .i64 2,.int .i64 6]) true).run prog v=.ok (.tuple #[.func (.func 104) #[.pointer (some ⟨B,0,none⟩)] #[],.bool true]) v:=st.look (j:=24) (by decide)))
 have BV:Aside (Below w.heap.size w v):=belT b0.out b1;clear c0 c1 d0 d1 lk st b1 hb2
 go_wp2_with fail
 refine(HF.out v BV.out).mono ?_;rintro e w2 ⟨rfl,q⟩;have FIN:Aside _:=q;clear q
 go_wp2_with fail
 go_end0
 exact⟨rfl,FIN.out⟩
theorem follow_34(B:Nat)(t id:Int)(w:World){Q:World->Prop}(hf:∀w1,Below w.heap.size w w1->Calls prog 106 #[.pointer (some ⟨B,0,none⟩),.int .i64 t,.int .i64 id] w1 fun e w'=>e=.returned (.tuple #[])/\Q w') :
  Calls prog 44 #[.pointer (some ⟨B,0,none⟩),.int .i64 t,.int .i64 id,.agg #[.int .i64 3,.int .i64 4]] w fun e w'=>e=.returned (.tuple #[])/\Q w':=by
 have eg:=enters_of (P:=prog) func106 (by kernel_rfl) rfl;have mx:=mixedC;obtain⟨K,hK⟩:∃K,w.heap.size=K:=⟨_,rfl⟩;obtain⟨u,hu⟩:∃x,w.alloc (.cells #[.int .i64 3,.int .i64 4] 108)=x:=⟨_,rfl⟩;have hB:u.drew.heap[K]?=some (.cells #[.int .i64 3,.int .i64 4] 108 (0,0)):=by rw[<-hu,<-hK];exact heap_alloc_new w _
 have b0:Aside (Below w.heap.size w u.drew):=by show Below w.heap.size w u.drew;rw[<-hu];exact(belA _ _).drew
 obtain⟨c0,c1⟩:=bx2 hB;have HB:Aside _:=hB;have HU:Aside _:=hu;have HF:Aside _:=hf;clear hu hB hf;go_enter func44,ntmps44
 go_wp2_with fail
 rw[HU.out]
 go_region_held3 (fun w'=>w'.cell? ⟨K,0,none⟩=some (.int .i64 3)/\w'.cell? ⟨K,1,none⟩=some (.int .i64 4)) (first|exact⟨c0,c1⟩|exact⟨d0,d1⟩) ((go_at_call 74;refine(stepsC_any B _).mono ?_;rintro e v ⟨rfl,b1,st⟩;have hb2:v.heap[K]?=some (.cells #[.int .i64 3,.int .i64 4] 108 (0,0)):=(b1.block K (lt_of_block HB.out)).trans HB.out;obtain⟨d0,d1⟩:=bx2 hb2;have lk:(Instr.lookup 169 (.map (some u.heap.size)) (.agg #[.int .i64 3,.int .i64 4]) true).run prog v=.ok (.tuple #[.func (.func 106) #[.pointer (some ⟨B,0,none⟩)] #[],.bool true]) v:=st.look (j:=32) (by decide)))
 have BV:Aside (Below w.heap.size w v):=belT b0.out b1;clear c0 c1 d0 d1 lk st b1 hb2
 go_wp2_with fail
 refine(HF.out v BV.out).mono ?_;rintro e w2 ⟨rfl,q⟩;have FIN:Aside _:=q;clear q
 go_wp2_with fail
 go_end0
 exact⟨rfl,FIN.out⟩
theorem follow_35(B:Nat)(t id:Int)(w:World){Q:World->Prop}(hf:∀w1,Below w.heap.size w w1->Calls prog 107 #[.pointer (some ⟨B,0,none⟩),.int .i64 t,.int .i64 id] w1 fun e w'=>e=.returned (.tuple #[])/\Q w') :
  Calls prog 44 #[.pointer (some ⟨B,0,none⟩),.int .i64 t,.int .i64 id,.agg #[.int .i64 3,.int .i64 5]] w fun e w'=>e=.returned (.tuple #[])/\Q w':=by
 have eg:=enters_of (P:=prog) func107 (by kernel_rfl) rfl;have mx:=mixedC;obtain⟨K,hK⟩:∃K,w.heap.size=K:=⟨_,rfl⟩;obtain⟨u,hu⟩:∃x,w.alloc (.cells #[.int .i64 3,.int .i64 5] 108)=x:=⟨_,rfl⟩;have hB:u.drew.heap[K]?=some (.cells #[.int .i64 3,.int .i64 5] 108 (0,0)):=by rw[<-hu,<-hK];exact heap_alloc_new w _
 have b0:Aside (Below w.heap.size w u.drew):=by show Below w.heap.size w u.drew;rw[<-hu];exact(belA _ _).drew
 obtain⟨c0,c1⟩:=bx2 hB;have HB:Aside _:=hB;have HU:Aside _:=hu;have HF:Aside _:=hf;clear hu hB hf;go_enter func44,ntmps44
 go_wp2_with fail
 rw[HU.out]
 go_region_held3 (fun w'=>w'.cell? ⟨K,0,none⟩=some (.int .i64 3)/\w'.cell? ⟨K,1,none⟩=some (.int .i64 5)) (first|exact⟨c0,c1⟩|exact⟨d0,d1⟩) ((go_at_call 74;refine(stepsC_any B _).mono ?_;rintro e v ⟨rfl,b1,st⟩;have hb2:v.heap[K]?=some (.cells #[.int .i64 3,.int .i64 5] 108 (0,0)):=(b1.block K (lt_of_block HB.out)).trans HB.out;obtain⟨d0,d1⟩:=bx2 hb2;have lk:(Instr.lookup 169 (.map (some u.heap.size)) (.agg #[.int .i64 3,.int .i64 5]) true).run prog v=.ok (.tuple #[.func (.func 107) #[.pointer (some ⟨B,0,none⟩)] #[],.bool true]) v:=st.look (j:=36) (by decide)))
 have BV:Aside (Below w.heap.size w v):=belT b0.out b1;clear c0 c1 d0 d1 lk st b1 hb2
 go_wp2_with fail
 refine(HF.out v BV.out).mono ?_;rintro e w2 ⟨rfl,q⟩;have FIN:Aside _:=q;clear q
 go_wp2_with fail
 go_end0
 exact⟨rfl,FIN.out⟩
theorem follow_no(B:Nat)(t id:Int)(w:World) :
  Calls prog 44 #[.pointer (some ⟨B,0,none⟩),.int .i64 t,.int .i64 id,.agg #[.int .i64 0,.int .i64 1]] w fun e w'=>e=.returned (.tuple #[])/\Below w.heap.size w w':=by
 have mx:=mixedC;obtain⟨K,hK⟩:∃K,w.heap.size=K:=⟨_,rfl⟩;obtain⟨u,hu⟩:∃x,w.alloc (.cells #[.int .i64 0,.int .i64 1] 108)=x:=⟨_,rfl⟩;have hB:u.drew.heap[K]?=some (.cells #[.int .i64 0,.int .i64 1] 108 (0,0)):=by rw[<-hu,<-hK];exact heap_alloc_new w _
 have b0:Aside (Below w.heap.size w u.drew):=by show Below w.heap.size w u.drew;rw[<-hu];exact(belA _ _).drew
 obtain⟨c0,c1⟩:=bx2 hB;have HB:Aside _:=hB;have HU:Aside _:=hu;clear hu hB;go_enter func44,ntmps44
 go_wp2_with fail
 rw[HU.out]
 go_region_held3 (fun w'=>w'.cell? ⟨K,0,none⟩=some (.int .i64 0)/\w'.cell? ⟨K,1,none⟩=some (.int .i64 1)) (first|exact⟨c0,c1⟩|exact⟨d0,d1⟩) ((go_at_call 74;refine(stepsC_any B _).mono ?_;rintro e v ⟨rfl,b1,st⟩;have hb2:v.heap[K]?=some (.cells #[.int .i64 0,.int .i64 1] 108 (0,0)):=(b1.block K (lt_of_block HB.out)).trans HB.out;obtain⟨d0,d1⟩:=bx2 hb2;have lk:(Instr.lookup 169 (.map (some u.heap.size)) (.agg #[.int .i64 0,.int .i64 1]) true).run prog v=.ok (.tuple #[.nilFunc,.bool false]) v:=(st.look_no (a:=0) (b:=1) (by decide) (by decide) (by decide))))
 have BV:Aside (Below w.heap.size w v):=belT b0.out b1;clear c0 c1 d0 d1 lk st b1 hb2
 go_wp2_with fail
 go_end0
 exact⟨rfl,BV.out⟩
end
section
open Go.RowKit Go.Lib Go.WideMaps Go.Maps Ta
variable {w w' u:World}{L:Nat}{D:CAd}{F:Nat->Nat->Prop}{g v:Value}{σ:CS}
def tellS(σ:CS)(kd t id key:Int):CS:={σ with ev:=σ.ev++[⟨kd,t,id,key,σ.tk,σ.now⟩]}
def STl(B K Bw:Nat)(v:Value)(key id tk:Int)(v0:World):Prop:=v0.cell? ⟨B,5,none⟩=some (.pointer (some ⟨Bw,0,none⟩))/\v0.cell? ⟨B,8,none⟩=some (.int .u64 tk)/\v0.cell? ⟨B,11,none⟩=some v/\v0.cell? ⟨K,0,none⟩=some (.int .u64 key)/\v0.cell? ⟨K,1,none⟩=some (.int .i64 id)
theorem Co.stl(C:Co w L D F g v σ){K:Nat}{key id:Int}(hK:w.heap[K]?=some (.cells #[.int .u64 key,.int .i64 id] 35 (0,0))):STl D.B K D.Bw v key id σ.tk w:=
 ⟨C.c5,C.c8,C.c11,by rw[cell_of_row _ _ _ _ _ _ hK];rfl,by rw[cell_of_row _ _ _ _ _ _ hK];rfl⟩
theorem tell_all(C:Co u L D F g v σ)(hl:σ.ev.length<1000000){K:Nat}{key id:Int}(hK:u.heap[K]?=some (.cells #[.int .u64 key,.int .i64 id] 35 (0,0)))(kd t:Int) :
  ∃a2 L2 c2 w2,(Builtin.append_ #[67,67] 67 #[v,.slice (some ⟨u.heap.size,0,none⟩) 1 1]).run prog (u.alloc (.cells #[.int .i64 kd,.int .i64 t,.int .i64 id,.int .u64 key,.int .u64 σ.tk,.int .u64 σ.now] 167))=.ok (.slice a2 L2 c2) w2/\
   STl D.B K D.Bw v key id σ.tk (u.alloc (.cells #[.int .i64 kd,.int .i64 t,.int .i64 id,.int .u64 key,.int .u64 σ.tk,.int .u64 σ.now] 167))/\STl D.B K D.Bw v key id σ.tk w2/\w2.frozen? ⟨D.B,11,none⟩=false/\D.B<w2.heap.size/\
   Cox L D F u (tellS σ kd t id key) (w2.setCell ⟨D.B,11,none⟩ (.slice a2 L2 c2))/\Gq F u (w2.setCell ⟨D.B,11,none⟩ (.slice a2 L2 c2)):=by
 obtain⟨v2,w2,hr,o2,F2,n2⟩:=C.evs.push2 ⟨kd,t,id,key,σ.tk,σ.now⟩ hl C.lw 67;obtain⟨C3,G3⟩:=C.setEv o2 F2 n2;obtain⟨a2,c2,e2,_⟩:=o2.isG;have b1:=belA u (.cells #[.int .i64 kd,.int .i64 t,.int .i64 id,.int .u64 key,.int .u64 σ.tk,.int .u64 σ.now] 167);have eB:w2.heap[D.B]?=u.heap[D.B]?:=F2.block _ (lt_of_block C.head) (fun e=>C.fp.dis 0 6 D.B (by omega) ((C.f0 _).2 rfl) ((C.f6 _).2 e))
 have eK:w2.heap[K]?=u.heap[K]?:=F2.block _ (lt_of_block hK) (fun e=>by
  have:=C.nq (p:=6) (by omega) (by omega) ((C.f6 _).2 e) _ _ _ hK;exact this (.inr (.inr (.inr (.inr rfl)))))
 have hd:=eB.trans C.head;refine⟨a2,_,c2,w2,by rw[<-e2];exact hr,(C.below b1).stl ((b1.block K (lt_of_block hK)).trans hK),⟨?_,?_,?_,?_,?_⟩,?_,lt_of_block hd,?_,fun k hk hF=>?_⟩
 ·rw[cell_of_row _ _ _ _ _ _ hd];rfl
 ·rw[cell_of_row _ _ _ _ _ _ hd];rfl
 ·rw[cell_of_row _ _ _ _ _ _ hd];rfl
 ·rw[cell_of_row _ _ _ _ _ _ (eK.trans hK)];rfl
 ·rw[cell_of_row _ _ _ _ _ _ (eK.trans hK)];rfl
 ·simp[World.frozen?,hd]
 ·rw[<-e2];exact⟨_,_,_,C3,G3⟩
 ·rw[heap_setCell_other _ _ k _ (fun e=>hF 0 (by omega) ((C.f0 k).2 e))];exact F2.block k hk (fun e=>hF 6 (by omega) ((C.f6 k).2 e))
theorem tellC(C:Co w L D F g v σ)(hl:σ.ev.length<1000000)(kd t id key:Int) :
  Calls prog 43 #[.pointer (some ⟨D.B,0,none⟩),.int .i64 kd,.int .i64 t,.agg #[.int .u64 key,.int .i64 id]] w fun e w'=>e=.returned (.tuple #[])/\Cox L D F w (tellS σ kd t id key) w'/\Gq F w w':=by
 obtain⟨K,hKS⟩:∃K,w.heap.size=K:=⟨_,rfl⟩;obtain⟨u0,hu0⟩:∃x,w.alloc (.cells #[.int .u64 key,.int .i64 id] 35)=x:=⟨_,rfl⟩;have b0:Below w.heap.size w u0:=by rw[<-hu0];exact belA _ _
 have hK:u0.drew.heap[K]?=some (.cells #[.int .u64 key,.int .i64 id] 35 (0,0)):=by rw[<-hu0,<-hKS];exact heap_alloc_new w _
 have C0:Co u0.drew L D F g v σ:=(C.below b0).drew;obtain⟨a2,L2,c2,w2,r7,s1,s2,f7,lt7,CX,QX⟩:=tell_all C0 hl hK kd t
 have FIN:Aside (Cox L D F w (tellS σ kd t id key) (w2.setCell ⟨D.B,11,none⟩ (.slice a2 L2 c2))/\Gq F w (w2.setCell ⟨D.B,11,none⟩ (.slice a2 L2 c2))):=by
  obtain⟨F',g',v',C',G'⟩:=CX;exact⟨⟨F',g',v',C',(Gc.below F C.lw b0.drew).trans G'⟩,(Gq.below F b0.drew).trans (Gc.below F C.lw b0.drew) QX⟩
 have NW:Aside (Calls prog 73 #[.pointer (some ⟨D.Bw,0,none⟩)] u0.drew fun e w'=>e=.returned (.int .u64 σ.now)/\w'=u0.drew):=Wl.now_any C0.whl;have K0:Aside (STl D.B K D.Bw v key id σ.tk u0.drew):=C0.stl hK;have K1:Aside _:=s1;have K2:Aside (STl D.B K D.Bw v key id σ.tk w2):=s2;have R7:Aside _:=r7;have HU:Aside _:=hu0;clear hu0 s1 s2 r7 CX hK C0 C b0;unfold STl at K0 K1 K2;go_enter func43,ntmps43
 go_upto_region 1 with fail
 rw[HU.out];refine anyE_start (S:=(fun v0=>v0.cell? ⟨D.B,5,none⟩=some (.pointer (some ⟨D.Bw,0,none⟩))/\v0.cell? ⟨D.B,8,none⟩=some (.int .u64 σ.tk)/\v0.cell? ⟨D.B,11,none⟩=some v/\v0.cell? ⟨K,0,none⟩=some (.int .u64 key)/\v0.cell? ⟨K,1,none⟩=some (.int .i64 id))) (L:=25) (by kernel_rfl) ?_;refine anyE_u (i:=0) K0.out rfl (by kernel_rfl) (fun w z=>by go_simp<;>rfl) (fun _ _ _ h=>h) ?_;refine anyE_u (i:=1) K0.out rfl (by kernel_rfl) (fun w z=>by go_simp<;>rfl) (fun _ _ _ h=>h) ?_;refine anyE_u (i:=2) K0.out rfl (by kernel_rfl) (fun w z=>by go_simp<;>rfl) (fun _ _ _ h=>h) ?_;refine anyE_u (i:=3) K0.out rfl (by kernel_rfl) (fun w z=>by go_simp<;>rfl) (fun _ _ _ h=>h) ?_;refine anyE_u (i:=4) K0.out rfl (by kernel_rfl) (fun w z=>by go_simp<;>rfl) (fun _ _ _ h=>h) ?_;refine anyE_u (i:=5) K0.out rfl (by kernel_rfl) (fun w z=>by go_simp<;>rfl) (fun _ _ _ h=>h) ?_;refine anyE_u (i:=6) K0.out rfl (by kernel_rfl) (fun w z=>by go_simp<;>rfl) (fun _ _ _ h=>h) ?_;refine anyE_u (i:=7) K0.out rfl (by kernel_rfl) (fun w z=>by go_simp<;>rfl) (fun _ _ _ h=>h) ?_;refine anyE_u (i:=8) K0.out rfl (by kernel_rfl) (fun w z=>by go_simp<;>rfl) (fun _ _ _ h=>h) ?_;refine anyE_u (i:=9) K0.out rfl (by kernel_rfl) (fun w z=>by go_simp<;>rfl) (fun _ _ _ h=>h) ?_;refine anyE_u (i:=10) K0.out rfl (by kernel_rfl) (fun w z=>by go_simp<;>rfl) (fun _ _ _ h=>h) ?_;refine anyE_u (i:=11) K0.out rfl (by kernel_rfl) (fun w z=>by go_simp<;>rfl) (fun _ _ _ h=>h) ?_;refine anyE_u (i:=12) K0.out rfl (by kernel_rfl) (fun w z=>by go_simp<;>rfl) (fun _ _ _ h=>h) ?_;refine anyE_u (i:=13) K0.out rfl (by kernel_rfl) (fun w z=>by go_simp<;>rfl) (fun _ _ _ h=>h) ?_;refine anyE_u (i:=14) K0.out rfl (by kernel_rfl) (fun w z=>by go_simp<;>rfl) (fun _ _ _ h=>h) ?_;refine anyE_u (i:=15) K0.out rfl (by kernel_rfl) (fun w z=>by go_simp<;>rfl) (fun _ _ _ h=>h) ?_;refine anyE_u (i:=16) K0.out rfl (by kernel_rfl) (fun w z=>by go_simp<;>rfl) (fun _ _ _ h=>h) ?_;refine anyE_u (i:=17) K0.out rfl (by kernel_rfl) (fun w z=>by go_simp<;>rfl) (fun _ _ _ h=>h) ?_;refine anyE_u (i:=18) K0.out rfl (by kernel_rfl) (fun w z=>by go_simp<;>rfl) (fun _ _ _ h=>h) ?_;simp only[Act.put,sA,sB,sC];refine anyE_ready (rs:=[19]) (by kernel_rfl) (by simp) ?_;refine AllE.cons (o:={dst:=some 27,op:=Op.call {callee:=Callee.value (Operand.func 73),args:=#[Operand.tmp 26],argTypes:=#[64]},type:=33,pos:= "core.go:275",after:=#[⟨18,.data⟩],guard:=none}) rfl (fun Kt hKt=>?_) ?_
 ·go_simp
  (with_reducible refine Calls.mono NW.out ?_)
  rintro x_ wc ⟨rfl,rfl⟩;dsimp only;refine hKt.out _ _ (fun _=>K0.out) ?_;clear hKt Kt;try simp only[Act.put,sA,sB,sC]
  refine anyE_u (i:=20) K0.out rfl (by kernel_rfl) (fun w z=>by go_simp<;>rfl) (fun _ _ _ h=>h) ?_;simp only[Act.put,sA,sB,sC];refine anyE_ready (rs:=[21]) (by kernel_rfl) (by simp) ?_;refine AllE.cons rfl (fun Kt hKt=>?_) ?_
  ·go_simp
   try go_wp2_with fail
   refine hKt.out _ _ (fun _=>K1.out) ?_;clear hKt Kt;try simp only[Act.put,sA,sB,sC]
   refine anyE_ready (rs:=[22]) (by kernel_rfl) (by simp) ?_;refine AllE.cons (o:={dst:=some 30,op:=Op.call {callee:=Callee.builtin Builtin.append,args:=#[Operand.tmp 12,Operand.tmp 29],argTypes:=#[67,67]},type:=67,pos:= "core.go:275",after:=#[⟨4,.data⟩,⟨21,.data⟩,⟨19,.chain⟩],guard:=none}) rfl (fun Kt hKt=>?_) ?_
   ·refine step_app _ (by rfl) _ _ 67 67 (by rfl) v (.slice (some ⟨u0.drew.heap.size,0,none⟩) 1 1) (by rfl) (by rfl) (.slice a2 L2 c2) w2 R7.out ?_;refine hKt.out _ _ (fun _=>K2.out) ?_;clear hKt Kt;try simp only[Act.put,sA,sB,sC]
    refine anyF_u [24] (i:=23) K2.out rfl (by kernel_rfl) (fun w z=>by go_simp<;>rfl) (fun _ _ _ h=>h) ?_;refine anyE_u (i:=24) K2.out rfl (by kernel_rfl) (fun w z=>by go_simp<;>rfl) (fun _ _ _ h=>h) ?_;simp only[Act.put,sA,sB,sC];refine anyE_ready (rs:=[25]) (by kernel_rfl) (by simp) ?_;refine AllE.cons rfl (fun Kt hKt=>?_) ?_
    ·obtain⟨k1,_⟩:=K2.out;go_simp
     refine hKt.out _ _ (fun h=>absurd rfl h) ?_;clear hKt Kt;try simp only[Act.put,sA,sB,sC]
     refine anyE_done (by kernel_rfl) ?_ _
     go_wp2_with fail
     go_end0
     exact⟨rfl,FIN.out⟩
    exact AllE.nil
   exact AllE.nil
  exact AllE.nil
 exact AllE.nil
end
end Go.Proofs.YtjpbngiddjkjiaaGreatDoor
