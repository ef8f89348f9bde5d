import Derived.Test.YtjpbngiddjkjiaaGreatDoorUJH
import Derived.WalkMore
open Go.Proofs.Tryz
open List(eraseIdx_eq_take_drop_succ getElem_mem length_append map_append)
open Nat(le_refl le_trans)
namespace Go.Proofs.YtjpbngiddjkjiaaGreatDoor.Qu
set_option maxHeartbeats 8000000
set_option maxRecDepth 100000
set_option linter.unusedVariables false
open Go.RowKit Go.Lib Go.Sort
abbrev Lsm:=LsmT 190 223
def LsmC(w:World)(base b:Nat)(ls:List (List Ent))(a:Option Addr)(cap:Nat):Prop:=
 ∃(bs:List Bk),bs.map Bk.d=ls/\base<=b/\w.heap[b]?=some (.cells #[.slice a bs.length cap] 190 (0,0))/\RowB 223 w base (.slice a bs.length cap) bs
def LsmA(w:World)(base b:Nat)(ls:List (List Ent))(a:Option Addr):Prop:=∃cap,LsmC w base b ls a cap
theorem LsmC.a{w:World}{base b cap:Nat}{ls:List (List Ent)}{a:Option Addr}(h:LsmC w base b ls a cap):LsmA w base b ls a:=⟨cap,h⟩
theorem LsmA.t{w:World}{base b:Nat}{ls:List (List Ent)}{a:Option Addr}(h:LsmA w base b ls a):Lsm w base b ls:=by
 obtain⟨cap,bs,h1,h2,h3,h4⟩:=h;exact⟨a,cap,bs,h1,h2,h3,h4⟩
theorem LsmA.below{w w':World}{base b:Nat}{ls:List (List Ent)}{a:Option Addr}(h:LsmA w base b ls a)(hw:Below w.heap.size w w'):LsmA w' base b ls a:=by
 obtain⟨cap,bs,h1,h2,h3,h4⟩:=h;exact⟨cap,bs,h1,h2,(hw.block b (lt_of_block h3)).trans h3,h4.below hw⟩
def Turned(w:World)(base b:Nat)(a:Option Addr)(ls:List (List Ent))(w':World):Prop:=∃a',LsmA w' base b ls a'/\Below base w w'/\Kept LB w w'/\Only b a w w'/\Moved w a a'
theorem Box2.grown{S:Nat}{x y:Value}{w w':World}{row:Option Nat}(h:Box2 S x y w)(hg:w.grownBy w' row)(hne:some S≠row):Box2 S x y w':=by
 have e:=hg.block S h.lt hne;exact⟨by have:=hg.size;have:=h.lt;omega,(World.cell?_of_block (a:=⟨S,0,none⟩) e).trans h.c0,(World.cell?_of_block (a:=⟨S,1,none⟩) e).trans h.c1,(World.frozen?_of_block (a:=⟨S,0,none⟩) e).trans h.f0,(World.frozen?_of_block (a:=⟨S,1,none⟩) e).trans h.f1⟩
theorem row_ne{w:World}{base n cap S:Nat}{a:Option Addr}{vs:List Value}(o:w.ownsRow base 223 2 (.slice a n cap) n vs)(h:a≠some ⟨S,0,none⟩):some S≠(Value.slice a n cap).ownBlock:=by
 intro e;rcases o.2 with⟨h1,h0⟩|⟨g,cap',cur,h1,_⟩
 ·injection h1 with e1 e2 e3
  subst e1;simp[Value.ownBlock] at e
 ·injection h1 with e1 e2 e3
  subst e1;simp only[Value.ownBlock,Option.some.injEq] at e;exact h (by rw[e])
theorem row_neB{w:World}{base n cap B:Nat}{a:Option Addr}{vs:List Value}{cs:Array Value}(o:w.ownsRow base 223 2 (.slice a n cap) n vs)(h:w.heap[B]?=some (.cells cs 190 (0,0))):some B≠(Value.slice a n cap).ownBlock:=by
 intro e;rcases o.2 with⟨h1,h0⟩|⟨g,cap',cur,h1,_,hg,_⟩
 ·injection h1 with e1 e2 e3
  subst e1;simp[Value.ownBlock] at e
 ·injection h1 with e1 e2 e3
  subst e1;simp only[Value.ownBlock,Option.some.injEq] at e;subst e;rw[h] at hg;simp at hg
structure LayInv(w:World)(base B S:Nat)(T:List (List Ent))(Z k n cap:Nat)(a:Option Addr)(bs:List Bk)(d:List Ent)(p:Option Addr)(q:Nat)(wr:World):Prop where
 len:bs.length=n
 kn:k<=n
 cell:wr.heap[B]?=some (.cells #[.slice a n cap] 190 (0,0))
 row:RowB 223 wr base (.slice a n cap) bs
 box:wr.heap[S]?=some (.cells #[.int .i64 (lv d),.slice p d.length q] 223 (0,0))
 own:OwnE wr base (.slice p d.length q) d
 ne:a≠some ⟨S,0,none⟩
 room:n<cap\/(k=n/\∀x∈bs.take k,lv d<=lv x.d)
 tgt:layL ((bs.take k).map Bk.d) d++(bs.drop k).map Bk.d=T
 sum:(bs.map Bk.d).flatten.length+d.length=Z
 low:Below base w wr
 kept:Kept LB w wr
 only:Only B a w wr
theorem LayInv.on{w:World}{base B S:Nat}{T:List (List Ent)}{Z k n cap:Nat}{a:Option Addr}{bs:List Bk}{d:List Ent}{p:Option Addr}{q:Nat}{wr v:World}(h:LayInv w base B S T Z k n cap a bs d p q wr)(hb:base<=w.heap.size)(hv:Below wr.heap.size wr v):LayInv w base B S T Z k n cap a bs d p q v:=
 ⟨h.len,h.kn,(hv.block B (lt_of_block h.cell)).trans h.cell,h.row.below hv,(hv.block S (lt_of_block h.box)).trans h.box,h.own.below hv,h.ne,h.room,h.tgt,h.sum,h.low.trans (hv.mono (le_trans hb h.kept.size)),h.kept.step hv,h.only.step hv h.kept.size⟩
theorem take_snoc{bs:List Bk}{j:Nat}(h:j<bs.length):(bs.take (j+1)).map Bk.d=(bs.take j).map Bk.d++[bs[j].d]:=by rw[List.take_succ_eq_append_getElem h,map_append];rfl
theorem LayInv.pass{w:World}{base B S:Nat}{T:List (List Ent)}{Z j n cap:Nat}{a:Option Addr}{bs:List Bk}{d:List Ent}{p:Option Addr}{q:Nat}{wr:World}(h:LayInv w base B S T Z (j+1) n cap a bs d p q wr)(hj:j<bs.length)(hl:lv bs[j].d<lv d):LayInv w base B S T Z j n cap a bs d p q wr:=by
 refine⟨h.len,by have:=h.kn;omega,h.cell,h.row,h.box,h.own,h.ne,?_,?_,h.sum,h.low,h.kept,h.only⟩
 ·rcases h.room with r|⟨_,r⟩
  ·exact .inl r
  ·have:=r bs[j] (by rw[List.take_succ_eq_append_getElem hj];exact List.mem_append.2 (.inr (List.mem_singleton.2 rfl)));omega
 ·rw[<-h.tgt,take_snoc hj,layL_lt hl,List.append_assoc];congr 1;rw[List.drop_eq_getElem_cons hj,List.map_cons]
  rfl
theorem LayInv.stop{w:World}{base B S:Nat}{T:List (List Ent)}{Z k n cap:Nat}{a:Option Addr}{bs:List Bk}{d:List Ent}{p:Option Addr}{q:Nat}{wr:World}(h:LayInv w base B S T Z k n cap a bs d p q wr)(hs:k=0\/∃(j:Nat)(hj:j<bs.length),k=j+1/\lv d<lv bs[j].d):((bs.take k++(⟨d,p,q⟩:Bk)::bs.drop k).map Bk.d)=T:=by
 rw[<-h.tgt];rcases hs with rfl|⟨j,hj,rfl,hl⟩
 ·simp[layL_nil]
 ·rw[take_snoc hj,layL_gt hl];rw[map_append,List.map_cons,take_snoc hj];simp only[List.append_assoc,List.cons_append,List.nil_append]
theorem LayInv.fits{w:World}{base B S:Nat}{T:List (List Ent)}{Z k n cap:Nat}{a:Option Addr}{bs:List Bk}{d:List Ent}{p:Option Addr}{q:Nat}{wr:World}(h:LayInv w base B S T Z k n cap a bs d p q wr):k=n\/n<cap:=by
 rcases h.room with r|⟨r,_⟩
 ·exact .inr r
 ·exact .inl r
theorem LayInv.merge{w:World}{base B S:Nat}{T:List (List Ent)}{Z j n cap:Nat}{a:Option Addr}{bs:List Bk}{d e:List Ent}{p p':Option Addr}{q q':Nat}{wr w':World}(h:LayInv w base B S T Z (j+1) n cap a bs d p q wr)(hj:j<bs.length)(hl:lv bs[j].d=lv d)(he:sortE (bs[j].d++d)=e)(hn:n<=cap)
  (cell:w'.heap[B]?=some (.cells #[.slice a (n-1) cap] 190 (0,0))) (row:RowB 223 w' base (.slice a (n-1) cap) (bs.eraseIdx j)) (box:w'.heap[S]?=some (.cells #[.int .i64 (lv e),.slice p' e.length q'] 223 (0,0))) (own:OwnE w' base (.slice p' e.length q') e) (low:Below base w w') (kept:Kept LB w w') (only:Only B a w w') :
  LayInv w base B S T Z j (n-1) cap a (bs.eraseIdx j) e p' q' w':=by
 have k0:=h.kn;have e1:(bs.eraseIdx j).length=n-1:=by rw[List.length_eraseIdx,if_pos hj,h.len]
 have e2:(bs.eraseIdx j).take j=bs.take j:=by rw[eraseIdx_eq_take_drop_succ,List.take_append_of_le_length (by simp;omega),List.take_take,Nat.min_self]
 have e3:(bs.eraseIdx j).drop j=bs.drop (j+1):=by
  rw[eraseIdx_eq_take_drop_succ,List.drop_append,List.drop_eq_nil_of_le (by simp;omega),List.length_take,show j-min j bs.length=0 by omega];simp
 refine⟨e1,by omega,cell,row,box,own,h.ne,.inl (by omega),?_,?_,low,kept,only⟩
 ·rw[e2,e3,<-h.tgt,take_snoc hj,layL_eq hl,he]
 ·rw[<-h.sum,<-he,sortE_len,length_append,show(bs.eraseIdx j).map Bk.d=(bs.map Bk.d).eraseIdx j by rw[eraseIdx_eq_take_drop_succ,eraseIdx_eq_take_drop_succ,map_append,List.map_take,List.map_drop]];have:=flat_split (ls:=bs.map Bk.d) (k:=j) (by simpa using hj);rw[this.length_eq,length_append];simp;omega
theorem lsm_cell{w:World}{B:Nat}{v:Value}{T:TypeId}(h:w.heap[B]?=some (.cells #[v] T (0,0))):w.cell? ⟨B,0,none⟩=some v:=by rw[cell_of_row _ _ _ _ _ _ h];rfl
theorem box0{w:World}{S:Nat}{x y:Value}{T:TypeId}(h:w.heap[S]?=some (.cells #[x,y] T (0,0))):w.cell? ⟨S,0,none⟩=some x:=by rw[cell_of_row _ _ _ _ _ _ h];rfl
theorem box1{w:World}{S:Nat}{x y:Value}{T:TypeId}(h:w.heap[S]?=some (.cells #[x,y] T (0,0))):w.cell? ⟨S,1,none⟩=some y:=by rw[cell_of_row _ _ _ _ _ _ h];rfl
theorem boxf{w:World}{S:Nat}{x y:Value}{T:TypeId}(h:w.heap[S]?=some (.cells #[x,y] T (0,0)))(o:Nat):w.frozen? ⟨S,o,none⟩=false:=by simp[World.frozen?,h]
theorem box_set{w:World}{S:Nat}{x y:Value}{T:TypeId}(h:w.heap[S]?=some (.cells #[x,y] T (0,0)))(x' y':Value):((w.setCell ⟨S,0,none⟩ x').setCell ⟨S,1,none⟩ y').heap[S]?=some (.cells #[x',y'] T (0,0))/\w.grownBy ((w.setCell ⟨S,0,none⟩ x').setCell ⟨S,1,none⟩ y') (some S):=by
 have e1:=setCell_eq_setRow w S 0 _ T (0,0) x' h;have h1:(w.setCell ⟨S,0,none⟩ x').heap[S]?=some (.cells #[x',y] T (0,0)):=by rw[e1];exact setRow_heap w S _ _ T (0,0) h
 have e2:=setCell_eq_setRow (w.setCell ⟨S,0,none⟩ x') S 1 _ T (0,0) y' h1;refine⟨by rw[e2];exact setRow_heap _ S _ _ T (0,0) h1,⟨rfl,rfl,rfl,by simp[World.setCell],fun k hk hne=>?_⟩⟩;have hne':k≠S:=fun e=>hne (by rw[e]);exact(Below.heap_setCell _ ⟨S,1,none⟩ y' k hne').trans (Below.heap_setCell _ ⟨S,0,none⟩ x' k hne')
theorem lsm_fro{w:World}{B:Nat}{v:Value}{T:TypeId}(h:w.heap[B]?=some (.cells #[v] T (0,0))):w.frozen? ⟨B,0,none⟩=false:=by simp[World.frozen?,h]
theorem lsm_apart{w:World}{base n cap R:Nat}{a:Option Addr}{bs:List Bk}(h:RowB 223 w base (.slice a n cap) bs)(hR:w.heap.size=R):a≠some ⟨R,0,none⟩:=by
 rintro rfl;rcases h.row.2 with⟨h1,h0⟩|⟨g,cap',cur,h1,_,hg,_⟩
 ·injection h1 with e1;cases e1
 ·injection h1 with e1 e2 e3
  simp only[Option.some.injEq,Addr.mk.injEq,and_true] at e1;have:=lt_of_block hg;omega
theorem lay_count{w:World}{base B S:Nat}{T:List (List Ent)}{Z k n cap:Nat}{a:Option Addr}{bs:List Bk}{d:List Ent}{p:Option Addr}{q:Nat}{wr:World}(h:LayInv w base B S T Z k n cap a bs d p q wr):n<=n:=le_refl _
theorem lay_cell{w:World}{base B S:Nat}{T:List (List Ent)}{Z k n cap:Nat}{a:Option Addr}{bs cs:List Bk}{d:List Ent}{p:Option Addr}{q:Nat}{wr w':World}{v:Value}(h:LayInv w base B S T Z k n cap a bs d p q wr)(t:TurnsB wr base (.slice a n cap) v cs w'):w'.heap[B]?=some (.cells #[.slice a n cap] 190 (0,0)):=by
 have hr:=h.row.row;rw[h.len] at hr;exact(t.2.block B (lt_of_block h.cell) (row_neB hr h.cell)).trans h.cell
theorem lay_mid{w:World}{base B S:Nat}{T:List (List Ent)}{Z k n cap t2:Nat}{a r2:Option Addr}{bs:List Bk}{d E:List Ent}{p:Option Addr}{q:Nat}{w2:World}(hbase:base<=w.heap.size)(z:w.heap.size<=S)(hS:base<=S)(BS:B<S)(h:LayInv w base B S T Z k n cap a bs d p q w2)(o:OwnE w2 base (.slice r2 E.length t2) E)(W:World)(hW:(w2.setCell ⟨S,0,none⟩ (.int .i64 (lv E))).setCell ⟨S,1,none⟩ (.slice r2 E.length t2)=W) :
  W.heap[S]?=some (.cells #[.int .i64 (lv E),.slice r2 E.length t2] 223 (0,0))/\W.heap[B]?=some (.cells #[.slice a n cap] 190 (0,0))/\RowB 223 W base (.slice a n cap) bs/\OwnE W base (.slice r2 E.length t2) E/\Below base w W/\Kept LB w W/\Only B a w W:=by
 obtain⟨b1,g1⟩:=box_set h.box (.int .i64 (lv E)) (.slice r2 E.length t2);rw[hW] at b1 g1;have hr:=h.row.row;rw[h.len] at hr
 have kp:Kept (fun X=>X=223) w2 W:=by
  refine⟨g1.size,fun k cs U fr hk hU=>g1.block k (lt_of_block hk) ?_⟩;intro e;simp only[Option.some.injEq] at e;subst e;rw[h.box] at hk;simp only[Option.some.injEq,Obj.cells.injEq] at hk;exact hU hk.2.1.symm
 refine⟨b1,(g1.block B (lt_of_block h.cell) (by simp;omega)).trans h.cell,⟨World.ownsRow.kept h.row.row g1 (.inr (row_ne hr h.ne).symm),fun x hx=>kp.own (by decide) (h.row.own x hx)⟩,kp.own (by decide) o,?_,?_,?_⟩
 ·rw[<-hW];exact(h.low.setCell hS _).setCell hS _
 ·refine h.kept.trans ⟨kp.size,fun k cs U fr hk hU=>kp.block k cs U fr hk fun e=>hU (.inr e)⟩
 ·rw[<-hW];exact(h.only.setNew z _ _).setNew z _ _
theorem lay_next{w:World}{base B S:Nat}{T:List (List Ent)}{Z j n cap t2:Nat}{a r2:Option Addr}{bs:List Bk}{d E:List Ent}{p:Option Addr}{q:Nat}{w2 W w4:World}(hbase:base<=w.heap.size)(hB:base<=B)(BS:B<S)(h:LayInv w base B S T Z (j+1) n cap a bs d p q w2)(hj:j<bs.length)(hl:lv bs[j].d=lv d)(he:sortE (bs[j].d++d)=E)(hn:n<=cap)
  (f:W.heap[S]?=some (.cells #[.int .i64 (lv E),.slice r2 E.length t2] 223 (0,0))/\W.heap[B]?=some (.cells #[.slice a n cap] 190 (0,0))/\RowB 223 W base (.slice a n cap) bs/\OwnE W base (.slice r2 E.length t2) E/\Below base w W/\Kept LB w W/\Only B a w W)
  (t:TurnsB W base (.slice a n cap) (.slice a (n-1) cap) (bs.eraseIdx j) w4) :
  w4.heap[B]?=some (.cells #[.slice a n cap] 190 (0,0))/\LayInv w base B S T Z j (n-1) cap a (bs.eraseIdx j) E r2 t2 (w4.setCell ⟨B,0,none⟩ (.slice a (n-1) cap)):=by
 obtain⟨f1,f2,f3,f4,f5,f6,f7⟩:=f;have hr:=f3.row;rw[h.len] at hr;have e:=t.ends f3.row (le_trans hbase f6.size);have c4:w4.heap[B]?=some (.cells #[.slice a n cap] 190 (0,0)):=(t.2.block B (lt_of_block f2) (row_neB hr f2)).trans f2;have s4:w4.heap[S]?=some (.cells #[.int .i64 (lv E),.slice r2 E.length t2] 223 (0,0)):=(t.2.block S (lt_of_block f1) (row_ne hr h.ne)).trans f1;have o4:OwnE w4 base (.slice r2 E.length t2) E:=e.2.own lb_ent f4;have kb:Kept LB w4 (w4.setCell ⟨B,0,none⟩ (.slice a (n-1) cap)):=Kept.set c4 (.inl rfl) _;refine⟨c4,h.merge hj hl he hn (by rw[setCell_row c4];rfl) (t.1.setCell c4 (by decide) (by decide) _) ((Below.heap_setCell w4 ⟨B,0,none⟩ _ S (by show S≠B;omega)).trans s4) (kb.own lb_ent o4) ((f5.trans e.1).setCell hB _) ((f6.trans e.2).trans kb) (Only.set (fun k hk h1 h2=>(t.2.block k (Nat.lt_of_lt_of_le hk f6.size) (row_ne hr h2)).trans (f7 k hk h1 h2)) 0 _)⟩
theorem lay_done{w:World}{base B S:Nat}{T:List (List Ent)}{Z k n cap a8c:Nat}{a a8:Option Addr}{bs:List Bk}{d:List Ent}{p:Option Addr}{q:Nat}{wr w':World}(hbase:base<=w.heap.size)(hB:base<=B)(h:LayInv w base B S T Z k n cap a bs d p q wr)(t:TurnsB wr base (.slice a n cap) (.slice a8 (n+1) a8c) (bs.take k++(⟨d,p,q⟩:Bk)::bs.drop k) w')(mv:Moved wr a a8)(tg:((bs.take k++(⟨d,p,q⟩:Bk)::bs.drop k).map Bk.d)=T) :
  Turned w base B a T (w'.setCell ⟨B,0,none⟩ (.slice a8 (n+1) a8c)):=by
 have z:=lay_cell h t;have e:=t.ends h.row.row (le_trans hbase h.kept.size);have kn:=h.kn;have hl:(bs.take k++(⟨d,p,q⟩:Bk)::bs.drop k).length=n+1:=by rw[<-h.len] at kn⊢;simp;omega
 have hr:=h.row.row;rw[h.len] at hr;refine⟨a8,⟨a8c,bs.take k++(⟨d,p,q⟩:Bk)::bs.drop k,tg,hB,by rw[hl,setCell_row z];rfl,by rw[hl];exact t.1.setCell z (by decide) (by decide) _⟩,(h.low.trans e.1).setCell hB _,(h.kept.trans e.2).trans (Kept.set z (.inl rfl) _),Only.set (fun k hk h1 h2=>(t.2.block k (Nat.lt_of_lt_of_le hk h.kept.size) (row_ne hr h2)).trans (h.only k hk h1 h2)) 0 _,mv.mono h.kept.size⟩
theorem lay_any(B base c0:Nat)(a0:Option Addr)(ls:List (List Ent))(d0:List Ent)(p0:Option Addr)(q0:Nat)(w:World)(h:LsmC w base B ls a0 c0)(ho:OwnE w base (.slice p0 d0.length q0) d0)(hroom:ls.length<c0\/∀x∈ls,lv d0<=lv x)(hlen:ls.length<=100000)(hsum:ls.flatten.length+d0.length<=100000)(hbase:base<=w.heap.size) :
  Calls prog 141 #[.pointer (some ⟨B,0,none⟩),.agg #[.int .i64 (lv d0),.slice p0 d0.length q0]] w fun r w'=>r=.returned (.tuple #[])/\Turned w base B a0 (layL ls d0) w':=by
 obtain⟨S,hS⟩:∃S,w.heap.size=S:=⟨_,rfl⟩;have HS:Hid _:=hS;obtain⟨T,hT⟩:∃T,layL ls d0=T:=⟨_,rfl⟩;obtain⟨Z,hZ⟩:∃Z,ls.flatten.length+d0.length=Z:=⟨_,rfl⟩;rw[hT];rw[hZ] at hsum;obtain⟨bs0,rfl,hB,hcell,hrow⟩:=h;have hl0:(bs0.map Bk.d).length=bs0.length:=by simp
 rw[hl0] at hroom hlen;have BS:B<S:=by rw[<-hS];exact lt_of_block hcell
 obtain⟨u,hu⟩:∃u,w.alloc (.cells #[.int .i64 (lv d0),.slice p0 d0.length q0] 223)=u:=⟨_,rfl⟩;have bu:Below w.heap.size w u:=by rw[<-hu];exact(Below.refl _ _).alloc (le_refl _) _
 have inv:LayInv w base B S T Z bs0.length bs0.length c0 a0 bs0 d0 p0 q0 u:=by
  refine⟨rfl,le_refl _,(bu.block B (by omega)).trans hcell,hrow.below bu,by rw[<-hu,<-hS];exact heap_alloc_new w _,ho.below bu,lsm_apart hrow hS,?_,by simpa using hT,hZ,bu.mono hbase,Kept.of_below bu,Only.below bu⟩;rcases hroom with r|r
  ·exact .inl r
  ·exact .inr ⟨rfl,fun x hx=>r x.d (List.mem_map.2 ⟨x,List.mem_of_mem_take hx,rfl⟩)⟩
 have INV:Aside (LayInv w base B S T Z bs0.length bs0.length c0 a0 bs0 d0 p0 q0 u):=inv;obtain⟨n0,hn0⟩:∃n,bs0.length=n:=⟨_,rfl⟩;rw[hn0] at hcell hlen INV;have k0:=lsm_cell hcell;obtain⟨M0,hM0⟩:∃M,lv d0=M:=⟨_,rfl⟩;obtain⟨K0,hK0⟩:∃M,d0.length=M:=⟨_,rfl⟩;have HU:Hid _:=hu;rw[hM0,hK0] at HU⊢;clear hT hZ hrow hcell inv hu bu ho hroom hl0 hn0 hM0 hK0;go_enter func141,ntmps141
 go_wp2_with fail
 go_step3
 go_wp2_with fail
 go_step3
 go_wp2_with fail
 rw[HU.out]
 go_loopg [4] n0 (fun kx s4 wr=>∃(k n cap:Nat)(bs:List Bk)(d:List Ent)(p:Option Addr)(q:Nat),s4=.int .i64 k/\k<=kx/\n<=n0/\Aside (LayInv w base B S T Z k n cap a0 bs d p q wr))
 case atStart=>exact⟨n0,n0,c0,bs0,d0,p0,q0,rfl,le_refl _,le_refl _,INV⟩
 case round=>
  clear INV hS k0 HU;obtain⟨k,n,cap,bs,d,p,q,rfl,hkx,hnn,LI⟩:=hrel;obtain⟨a,ha0⟩:∃a,a=a0:=⟨_,rfl⟩;have HA0:Hid (a=a0):=ha0;rw[<-ha0] at LI;clear ha0;obtain⟨m,hm⟩:∃m,lv d=m:=⟨_,rfl⟩;obtain⟨K,hK⟩:∃m,d.length=m:=⟨_,rfl⟩;have HM:Hid _:=hm;have HK:Hid _:=hK;clear hm hK;by_cases h0:k=0
  ·subst h0;have hz:¬(0:Int)<0:=by omega
   obtain⟨R9,hR9⟩:∃R,wr.heap.size=R:=⟨_,rfl⟩;have y0:=box0 LI.out.box;have y1:=box1 LI.out.box;have yB:=lsm_cell LI.out.cell;have zB:=lsm_fro LI.out.cell;rw[HK.out] at y1;rw[HM.out] at y0;have sS:S<R9:=by rw[<-hR9];exact lt_of_block LI.out.box
   have sB:B<R9:=by rw[<-hR9];exact lt_of_block LI.out.cell
   have tg:=LI.out.stop (.inl rfl);have T9:Hid _:=tg;obtain⟨v9,hv9⟩:∃v,(wr.alloc (.cells #[.int .i64 m,.slice p K q] 223)).drew=v:=⟨_,rfl⟩;have bv9:Below wr.heap.size wr v9:=by rw[<-hv9];exact((Below.refl _ _).alloc (le_refl _) _).drew
   have LI9:Aside (LayInv w base B S T Z 0 n cap a bs d p q v9):=LI.out.on hbase bv9;have ins:=insB_F a n cap 0 base R9 bs ⟨d,p,q⟩ v9 LI9.out.row LI9.out.len LI9.out.kn LI9.out.fits LI9.out.own (by rw[<-hv9,<-hR9,HK.out,HM.out];exact heap_alloc_new wr _) (lsm_apart LI.out.row hR9) (by have:=lay_count LI.out;omega) (le_trans hbase LI9.out.kept.size);rw[show((0:Nat):Int)=0 from rfl] at ins;have HV9:Hid _:=hv9;rw[<-hv9] at ins;clear tg hv9 bv9
   go_wp2_with fail
   go_region_with ((go_at_call 192;refine ins.mono ?_;rintro r w8 ⟨a8,c8,rfl,t8,m8⟩;rw[HV9.out] at t8 m8;have z8:=lay_cell LI9.out t8;have u8:=lsm_cell z8;have f8:=lsm_fro z8;have D8:Aside (Turned w base B a0 T (w8.setCell ⟨B,0,none⟩ (.slice a8 (n+1) c8))):=(by rw[<-HA0.out];exact lay_done hbase hB LI9.out t8 m8 T9.out);clear z8 t8 m8))
   all_goals (rw[Exit.noGoto_normal];go_end0;exact⟨rfl,D8.out⟩)
  ·obtain⟨j,rfl⟩:∃j,k=j+1:=⟨k-1,by omega⟩;have hz:(0:Int)<((j+1:Nat):Int):=by omega
   have hz':(0:Int)<(j:Int)+1:=by omega
   have hjn:j+1<=n:=LI.out.kn;have hj:j<bs.length:=by rw[LI.out.len];omega
   obtain⟨g,ha,hbg,hgs,c0,c1⟩:=LI.out.row.at hj;have HA:Hid (a=some ⟨g,0,none⟩):=ha;obtain⟨x,hx⟩:∃x,bs[j]=x:=⟨_,rfl⟩;rw[hx] at c0 c1;have HX:Hid _:=hx;obtain⟨mi,hmi⟩:∃m,lv x.d=m:=⟨_,rfl⟩;obtain⟨ki,hki⟩:∃m,x.d.length=m:=⟨_,rfl⟩;have HMI:Hid _:=hmi;have HKI:Hid _:=hki;rw[hmi] at c0;rw[hki] at c1;obtain⟨xp,hxp⟩:∃m,x.p=m:=⟨_,rfl⟩;obtain⟨xq,hxq⟩:∃m,x.q=m:=⟨_,rfl⟩;have HXP:Hid _:=hxp;have HXQ:Hid _:=hxq;rw[hxp,hxq] at c1;obtain⟨R,hR⟩:∃R,wr.heap.size=R:=⟨_,rfl⟩;have y0:=box0 LI.out.box;have y1:=box1 LI.out.box;have yB:=lsm_cell LI.out.cell;rw[HK.out] at y1;rw[HM.out] at y0;rw[ha] at yB;have sS:S<R:=by rw[<-hR];exact lt_of_block LI.out.box
   have sB:B<R:=by rw[<-hR];exact lt_of_block LI.out.cell
   have sg:g<R:=by rw[<-hR];exact hgs
   have jn:(j:Int)<(n:Int):=by omega
   obtain⟨v1,hv1⟩:∃v,wr.alloc (.cells #[.int .i64 mi,.slice xp ki xq] 223)=v:=⟨_,rfl⟩;have bv1:Below wr.heap.size wr v1:=by rw[<-hv1];exact(Below.refl _ _).alloc (le_refl _) _
   have LI1:Aside (LayInv w base B S T Z (j+1) n cap a bs d p q v1):=LI.out.on hbase bv1;have HV1:Hid _:=hv1;clear hmi hki hxp hxq hx ha LI bv1 hgs hv1;by_cases cg:m<mi
   ·have t1:(m:Int)<(mi:Int):=by omega
    have LI:=LI1;clear LI1;obtain⟨R9,hR9⟩:∃R,v1.heap.size=R:=⟨_,rfl⟩;have y0_:=box0 LI.out.box;have y1_:=box1 LI.out.box;have yB_:=lsm_cell LI.out.cell;have zB:=lsm_fro LI.out.cell;rw[HK.out] at y1_;rw[HM.out] at y0_;have sS9:S<R9:=by rw[<-hR9];exact lt_of_block LI.out.box
    have sB9:B<R9:=by rw[<-hR9];exact lt_of_block LI.out.cell
    have tg:=LI.out.stop (.inr ⟨j,hj,rfl,by rw[HX.out,HMI.out,HM.out];exact cg⟩);have T9:Hid _:=tg;obtain⟨v9,hv9⟩:∃v,(v1.alloc (.cells #[.int .i64 m,.slice p K q] 223)).drew=v:=⟨_,rfl⟩;have bv9:Below v1.heap.size v1 v9:=by rw[<-hv9];exact((Below.refl _ _).alloc (le_refl _) _).drew
    have LI9:Aside (LayInv w base B S T Z (j+1) n cap a bs d p q v9):=LI.out.on hbase bv9;have ins:=insB_F a n cap (j+1) base R9 bs ⟨d,p,q⟩ v9 LI9.out.row LI9.out.len LI9.out.kn LI9.out.fits LI9.out.own (by rw[<-hv9,<-hR9,HK.out,HM.out];exact heap_alloc_new v1 _) (lsm_apart LI.out.row hR9) (by have:=lay_count LI.out;omega) (le_trans hbase LI9.out.kept.size);rw[show((j+1:Nat):Int)=(j:Int)+1 from by omega] at ins;have HV9:Hid _:=hv9;rw[<-hv9] at ins;clear tg hv9 bv9
    go_wp2_with fail
    rw[HV1.out]
    go_region_with ((go_at_call 192;refine ins.mono ?_;rintro r w8 ⟨a8,c8,rfl,t8,m8⟩;rw[HV9.out] at t8 m8;have z8:=lay_cell LI9.out t8;have u8:=lsm_cell z8;have f8:=lsm_fro z8;have D8:Aside (Turned w base B a0 T (w8.setCell ⟨B,0,none⟩ (.slice a8 (n+1) c8))):=(by rw[<-HA0.out];exact lay_done hbase hB LI9.out t8 m8 T9.out);clear z8 t8 m8))
    all_goals (rw[Exit.noGoto_normal];go_end0;exact⟨rfl,D8.out⟩)
   ·have t1:¬(m:Int)<(mi:Int):=by omega
    by_cases ce:mi=m
    ·have t2:((mi:Int)==(m:Int))=true:=by simp[ce]
     subst ce;have xm:x∈bs:=by rw[<-HX.out];exact getElem_mem hj
     have ox:=LI1.out.row.own x xm;rw[HXP.out,HXQ.out] at ox;have sl:=LI1.out.sum;have sl2:=(flat_split (ls:=bs.map Bk.d) (k:=j) (by simpa using hj)).length_eq;rw[length_append] at sl2;simp only[List.getElem_map] at sl2;rw[HX.out,HKI.out] at sl2;rw[HK.out] at sl;have mg:=mergeB_any mi mi xp p xq q x.d d v1 ox.is LI1.out.own.is (by rw[HKI.out,HK.out];omega);obtain⟨E,hE⟩:∃E,sortE (x.d++d)=E:=⟨_,rfl⟩;obtain⟨KE,hKE⟩:∃E',E.length=E':=⟨_,rfl⟩;obtain⟨ME,hME⟩:∃E',lv E=E':=⟨_,rfl⟩;rw[hE,HKI.out,HK.out] at mg;have HE:Hid _:=hE;have HKE:Hid _:=hKE;have HME:Hid _:=hME;have nBS:¬B=S:=by omega
     have nSB:¬S=B:=by omega
     have ncap:n<=cap:=by
      obtain⟨a',c',e,h1,h2⟩:=LI1.out.row.slice;injection e with _ _ e3
      have:=LI1.out.len;omega
     clear hE hKE hME ox sl sl2 xm
     go_wp2_with fail
     rw[HV1.out];refine mg.mono ?_;rintro r w2 ⟨r2,t2',rfl,o2,b2⟩;clear y0 y1 yB c0 c1;rw[show lvl E.length=ME from HME.out,HKE.out];have LI2:Aside (LayInv w base B S T Z (j+1) n cap a bs d p q w2):=LI1.out.on hbase b2;have o2':OwnE w2 base (.slice r2 E.length t2') E:=o2.low (le_trans hbase LI1.out.kept.size);have y0:=box0 LI2.out.box;have y1:=box1 LI2.out.box;have yf0:=boxf LI2.out.box 0;have yf1:=boxf LI2.out.box 1;have yB:=lsm_cell LI2.out.cell;obtain⟨W3,hW3⟩:∃W,(w2.setCell ⟨S,0,none⟩ (.int .i64 ME)).setCell ⟨S,1,none⟩ (.slice r2 KE t2')=W:=⟨_,rfl⟩;have md:=lay_mid hbase (by have:=HS.out;omega) (by rw[<-HS.out];exact hbase) BS LI2.out o2' W3 (by rw[HME.out,HKE.out];exact hW3);have MD:Aside (W3.heap[S]?=some (.cells #[.int .i64 (lv E),.slice r2 E.length t2'] 223 (0,0))/\W3.heap[B]?=some (.cells #[.slice a n cap] 190 (0,0))/\RowB 223 W3 base (.slice a n cap) bs/\OwnE W3 base (.slice r2 E.length t2') E/\Below base w W3/\Kept LB w W3/\Only B a w W3):=md;have dl:=delete_any a n cap j base bs W3 MD.out.2.2.1 LI2.out.len (by omega);have HW3:Hid _:=hW3;obtain⟨n1,hn1⟩:∃n1,n-1=n1:=⟨_,rfl⟩;have HN1:Hid _:=hn1;rw[hn1] at dl;clear md o2 o2' b2 hW3 mg hn1
     go_wp2_with fail
     rw[HW3.out];refine dl.mono ?_;rintro r w4 ⟨rfl,t4⟩;rw[<-HN1.out] at t4;obtain⟨c4,li4⟩:=lay_next hbase hB BS LI2.out hj (by rw[HX.out,HMI.out,HM.out]) (by rw[HX.out];exact HE.out) ncap MD.out t4;have z4:=lsm_cell c4;have f4:=lsm_fro c4;rw[HN1.out] at li4;have LI4:Aside (LayInv w base B S T Z j n1 cap a (bs.eraseIdx j) E r2 t2' (w4.setCell ⟨B,0,none⟩ (.slice a n1 cap))):=li4;clear c4 li4 t4 dl y0 y1 yf0 yf1 yB
     go_wp2
     go_roundg j
     case measure=>omega
     case rel=>exact⟨j,n1,cap,_,E,r2,t2',by go_num,le_refl _,by have:=HN1.out;omega,by rw[<-HA0.out];exact LI4⟩
    ·have t2:((mi:Int)==(m:Int))=false:=by simp;omega
     have t3:¬(mi:Int)=(m:Int):=by omega
     go_wp2
     rw[HV1.out]
     go_roundg j
     case measure=>omega
     case rel=>exact⟨j,n,cap,bs,d,p,q,by go_num,le_refl _,hnn,by rw[<-HA0.out];exact LI1.out.pass hj (by rw[HX.out,HMI.out,HM.out];omega)⟩
theorem lnew_any(w:World):Calls prog 61 #[] w fun r w'=>r=.returned (.pointer (some ⟨w.heap.size,0,none⟩))/\w'=w.alloc (.cells #[.slice none 0 0] 190):=by
 go_enter func61,ntmps61
 go_wp2
 go_ret;exact⟨rfl,rfl⟩
theorem lput_any(B base:Nat)(a0:Option Addr)(ls:List (List Ent))(e:Ent)(w:World)(h:LsmA w base B ls a0)(hlen:ls.length<=10000)(hsum:ls.flatten.length<=10000)(hbase:base<=w.heap.size) :
  Calls prog 167 #[.pointer (some ⟨B,0,none⟩),.agg #[.int .u64 e.1,.int .i64 e.2]] w fun r w'=>r=.returned (.tuple #[])/\Turned w base B a0 (putL ls e) w':=by
 obtain⟨S,hS⟩:∃S,w.heap.size=S:=⟨_,rfl⟩;obtain⟨u0,hu0⟩:∃u,w.alloc (.cells #[.int .u64 e.1,.int .i64 e.2] 35)=u:=⟨_,rfl⟩;obtain⟨u,hu⟩:∃v,u0.alloc (.cells #[.int .u64 e.1,.int .i64 e.2] 35)=v:=⟨_,rfl⟩;have z0:u0.heap.size=S+1:=by rw[<-hu0,<-hS];simp
 have b0:Below w.heap.size w u0:=by rw[<-hu0];exact(Below.refl _ _).alloc (le_refl _) _
 have b1:Below u0.heap.size u0 u:=by rw[<-hu];exact(Below.refl _ _).alloc (le_refl _) _
 have bu:Below w.heap.size w u:=b0.trans (b1.mono b0.size);have L:IsL u (some ⟨S+1,0,none⟩) 1 [e]:=by rw[<-hu,<-z0];exact IsL.one u0 e
 have ofa:=of_any (some ⟨S+1,0,none⟩) 1 [e] u L (by simp);have es:sortE [e]=[e]:=sortE_id (by simp[Srt]);rw[es] at ofa;obtain⟨m,hm⟩:∃m,lv [e]=m:=⟨_,rfl⟩;have HM:Hid _:=hm;have LU:Aside (LsmA u base B ls a0):=h.below bu;have BU:Aside (Below w.heap.size w u):=bu;have HU:Hid ((w.alloc (.cells #[.int .u64 e.1,.int .i64 e.2] 35)).alloc (.cells #[.int .u64 e.1,.int .i64 e.2] 35)=u):=by show _=_;rw[hu0,hu]
 simp only[List.length_singleton] at ofa;have SB:base<=S:=by omega
 clear hu0 hu z0 b0 b1 bu L es hm h;go_enter func167,ntmps167
 go_wp2_with fail
 rw[HU.out];refine ofa.mono ?_;rintro r w1 ⟨a1,c1,rfl,o1,b1⟩;obtain⟨cap1,l1⟩:=LU.out.below b1;have s1:base<=u.heap.size:=by have:=BU.out.size;omega
 have ly:=lay_any B base cap1 a0 ls [e] a1 c1 w1 l1 (o1.low s1) (.inr fun x hx=>by rw[show lv [e]=0 from lvl_zero (by simp)];exact Nat.zero_le _) (by omega) (by have:[e].length=1:=rfl;omega) (by have:=b1.size;omega);rw[show lvl [e].length=m from HM.out];rw[HM.out] at ly;simp only[List.length_singleton] at ly⊢;have B1:Aside (Below w.heap.size w w1):=BU.out.trans (b1.mono BU.out.size);clear o1 b1 l1 ofa
 go_wp2_with fail
 refine ly.mono ?_;rintro r w2 ⟨rfl,t2⟩;obtain⟨a9,t3,t4,t5,t6,t7⟩:=t2;have D:Aside (Turned w base B a0 (putL ls e) w2):=⟨a9,t3,(B1.out.mono hbase).trans t4,(Kept.of_below B1.out).trans t5,(Only.below B1.out).trans t6 B1.out.size,t7.mono B1.out.size⟩;clear t3 t4 t5 t6 t7 ly
 go_wp2
 go_end0
 exact⟨rfl,D.out⟩
theorem llen_any(B base:Nat)(ls:List (List Ent))(w:World)(h:Lsm w base B ls)(hsum:ls.flatten.length<=100000) :
  Calls prog 137 #[.pointer (some ⟨B,0,none⟩)] w fun r w'=>r=.returned (.int .i64 ls.flatten.length)/\Below w.heap.size w w':=by
 obtain⟨a,cap,cB,hc1,hc2,hB,_,IB,_⟩:=h.open;unfold maxLen at hc2;have H:Aside (IsBs w a ls):=IB;obtain⟨T,hT⟩:∃T,ls.flatten.length=T:=⟨_,rfl⟩;have HT:Hid _:=hT;rw[hT] at hsum⊢;have hl:ls.length<=9223372036854775807:=by omega
 clear IB h hT;go_enter func137,ntmps137
 go_wp2
 go_loopg [3,11] ls.length (fun kx s3 s11 wr=>∃(k n:Nat),s11=.int .i64 k/\s3=.int .i64 n/\Hid ((ls.take k).flatten.length=n)/\n<=100000/\k<=ls.length/\ls.length-k<=kx/\Aside (Below w.heap.size w wr))
 case atStart=>exact⟨0,0,rfl,rfl,rfl,by omega,by omega,by omega,Below.refl _ _⟩
 case round=>
  obtain⟨k,z,rfl,rfl,HN,hz1,hk,hkx,D⟩:=hrel;by_cases hlt:k<ls.length
  ·have hz:(k:Int)<(ls.length:Int):=by omega
   obtain⟨b,off,p,q,m,rfl,hb,c0,c1,L⟩:=(H.out.below D.out).elem k ls[k] (List.getElem?_eq_getElem hlt);have e1:=flat_take hlt;have e2:=flat_take_le ls (k+1);obtain⟨d,hdk⟩:∃d,ls[k]=d:=⟨_,rfl⟩;rw[hdk] at e1 c1;obtain⟨n1,hn1⟩:∃n,d.length=n:=⟨_,rfl⟩;rw[hn1] at c1;have e3:(ls.take (k+1)).flatten.length=z+n1:=by rw[e1,length_append,HN.out,hn1]
   have hz2:z+n1<=100000:=by have:=HT.out;omega
   have HN2:Hid _:=e3;have D2:Aside (Below w.heap.size w (wr.alloc (.cells #[.int .i64 m,.slice p n1 q] 223))):=D.out.trans (((Below.refl _ _).alloc (le_refl _) _).mono D.out.size);clear e1 e2 e3 hdk L hn1
   go_wp2
   go_roundg (ls.length-(k+1))
   case measure=>omega
   case rel=>exact⟨k+1,z+n1,by go_num,by go_num,HN2,hz2,by omega,le_refl _,D2⟩
  ·have hz:¬(k:Int)<(ls.length:Int):=by omega
   have e:(ls.take k).flatten=ls.flatten:=by rw[List.take_of_length_le (by omega)]
   rw[e] at HN
   go_wp2
   go_ret;have e2:T=z:=by rw[<-HT.out,HN.out]
   exact⟨by rw[e2];rfl,D.out⟩
theorem lall_any(B base:Nat)(ls:List (List Ent))(w:World)(h:Lsm w base B ls)(hsum:ls.flatten.length<=100000) :
  Calls prog 92 #[.pointer (some ⟨B,0,none⟩)] w (PivO w ls.flatten.length (sortE ls.flatten)):=by
 obtain⟨a,cap,cB,hc1,hc2,hB,_,IB,_⟩:=h.open;have H:Aside (Lsm w base B ls):=h;have HB:Aside (IsBs w a ls):=IB;obtain⟨T,hT⟩:∃T,ls.flatten.length=T:=⟨_,rfl⟩
 have ln:∀W,Below w.heap.size w W->Calls prog 137 #[.pointer (some ⟨B,0,none⟩)] W fun r w'=>r=.returned (.int .i64 T)/\Below W.heap.size W w':=fun W hW=>by
  have:=llen_any B base ls W (H.out.below hW) hsum;rw[hT] at this;exact this
 have pv:∀W,Below w.heap.size w W->Calls prog 136 #[.slice a ls.length cap,.int .i64 T] W (PivO W T (sortE ls.flatten)):=fun W hW=>by
  have:=pivotO_any a cap ls T W (HB.out.below hW) (by omega);have e:wth (T:Int) ls.flatten.length=T:=by unfold wth;omega
  rw[e,List.take_of_length_le (by rw[sortE_len];omega)] at this;exact this
 rw[hT];have KC:Aside (∀v,Below w.heap.size w v->v.cell? ⟨B,0,none⟩=some (.slice a ls.length cap)):=fun v hv=>(hv.cell (p:=⟨B,0,none⟩) hB).trans cB;have hb0:Below w.heap.size w w:=Below.refl _ _;have hb1:Below w.heap.size w w.drew:=hb0.drew;have PV:Aside (∀W,Below w.heap.size w W->Calls prog 136 #[.slice a ls.length cap,.int .i64 T] W (PivO W T (sortE ls.flatten))):=pv;have LN:Aside (∀W,Below w.heap.size w W->Calls prog 137 #[.pointer (some ⟨B,0,none⟩)] W fun r w'=>r=.returned (.int .i64 T)/\Below W.heap.size W w'):=ln;clear ln pv h IB;have mx:=mixed;go_enter func92,ntmps92
 go_wp2_with fail
 go_region_held3 (fun v=>v.cell? ⟨B,0,none⟩=some (.slice a ls.length cap)) (first|with_reducible exact KC.out _ hb0|with_reducible exact KC.out _ hb1|with_reducible exact KC.out _ hb2|with_reducible exact KC.out _ hb3)
  ((first
   | (go_at_call 136;(with_reducible refine Calls.mono (PV.out _ hb2) ?_);rintro r w3 ⟨x,y,rfl,o3,d3⟩;have hb3:Below w.heap.size w w3:=hb2.trans (d3.mono hb2.size))
   | (go_at_call 137;(with_reducible refine Calls.mono (LN.out _ hb1) ?_);rintro r w2 ⟨rfl,d2⟩;have hb2:Below w.heap.size w w2:=hb1.trans (d2.mono hb1.size))))
 have O3:Aside (OwnE w3 w.heap.size (.slice x T y) (sortE ls.flatten)):=o3.low hb2.size;have D3:Aside (Below w.heap.size w w3):=hb3;clear o3 hb3 d3 hb2 d2
 go_wp2
 go_ret;exact⟨x,y,rfl,O3.out,D3.out⟩
def Drained(w:World)(base B:Nat)(a0:Option Addr)(d:List Ent)(r:Ending)(w':World):Prop:=∃a cap,r=.returned (.slice a d.length cap)/\OwnE w' base (.slice a d.length cap) d/\Turned w base B a0 [] w'
theorem ldrain_any(B base:Nat)(a0:Option Addr)(ls:List (List Ent))(w:World)(h:LsmA w base B ls a0)(hsum:ls.flatten.length<=100000)(hbase:base<=w.heap.size) :
  Calls prog 169 #[.pointer (some ⟨B,0,none⟩)] w (Drained w base B a0 (sortE ls.flatten)):=by
 have al:=lall_any B base ls w h.t hsum;have sl:=sortE_len ls.flatten;obtain⟨T,hT⟩:∃T,ls.flatten.length=T:=⟨_,rfl⟩;rw[hT] at al sl;have SL:Hid _:=sl;have H:Aside (LsmA w base B ls a0):=h;clear h sl;go_enter func169,ntmps169
 go_wp2_with fail
 refine al.mono ?_;rintro r w1 ⟨a1,c1,rfl,o1,b1⟩;have h1:=H.out.below b1;obtain⟨cap,bs,e1,hB,cell,row⟩:=h1;have yB:=lsm_cell cell;have fB:=lsm_fro cell;have kp:Kept LB w1 (w1.setCell ⟨B,0,none⟩ (.slice none 0 0)):=Kept.set cell (.inl rfl) _
 have fin:Aside (Drained w base B a0 (sortE ls.flatten) (.returned (.slice a1 T c1)) (w1.setCell ⟨B,0,none⟩ (.slice none 0 0))):=by
  refine⟨a1,c1,by rw[SL.out],?_,none,?_,(b1.mono hbase).setCell hB _,(Kept.of_below b1).trans kp,(Only.below b1).set 0 _,Moved.none _ _⟩
  ·rw[SL.out];exact kp.own lb_ent (o1.low hbase)
  ·exact⟨0,[],rfl,hB,by rw[setCell_row cell];rfl,RowB.nil _ _ _⟩
 clear kp cell row o1 b1 al
 go_wp2
 go_ret;exact fin.out
theorem Lsm.at{w:World}{base B:Nat}{ls:List (List Ent)}(h:Lsm w base B ls):∃(a:Option Addr)(cap:Nat),w.cell? ⟨B,0,none⟩=some (.slice a ls.length cap)/\ls.length<=cap/\cap<=maxLen/\B<w.heap.size/\
  ∀(i:Nat)(hi:i<ls.length),∃g p q,a=some ⟨g,0,none⟩/\g<w.heap.size/\∀W,Below w.heap.size w W->W.cell? ⟨g,i*2,none⟩=some (.int .i64 (lv ls[i]))/\W.cell? ⟨g,i*2+1,none⟩=some (.slice p ls[i].length q)/\IsL W p q ls[i]:=by
 obtain⟨a,cap,cB,h1,h2,hB,_,_,bs,rfl,row⟩:=h.open;refine⟨a,cap,cB,h1,h2,hB,fun i hi=>?_⟩;have hi':i<bs.length:=by simpa using hi
 obtain⟨g,e,_,hg,c0,c1⟩:=row.at hi';refine⟨g,bs[i].p,bs[i].q,e,hg,fun W hW=>?_⟩;simp only[List.getElem_map];exact⟨(hW.cell (p:=⟨g,i*2,none⟩) hg).trans c0,(hW.cell (p:=⟨g,i*2+1,none⟩) hg).trans c1,(row.own bs[i] (getElem_mem hi')).is.below hW⟩
def IsMin(x:Ent)(d:List Ent):Prop:=x∈d/\∀y∈d,ltE y x=false
theorem IsMin.sort{x:Ent}{d:List Ent}(h:IsMin x d):∃t,sortE d=x::t:=by
 have p:=sortE_perm d
 cases e:sortE d with
 | nil=>
  rw[e] at p;have:=p.mem_iff.2 h.1;simp at this
 | cons y t=>
  have s:=sortE_srt d;rw[e] at s p;have hy:y∈d:=p.mem_iff.1 (by simp);have h1:=h.2 y hy;have hx:x∈y::t:=p.mem_iff.2 h.1;rcases List.mem_cons.1 hx with rfl|hx
  ·exact⟨t,rfl⟩
  ·have h2:=(List.pairwise_cons.1 s).1 x hx;rw[totE _ _ h1 h2];exact⟨t,rfl⟩
theorem IsMin.head{x:Ent}{d:List Ent}(h:Srt (x::d)):IsMin x (x::d):=
 ⟨by simp,fun y hy=>by
  rcases List.mem_cons.1 hy with rfl|hy
  ·exact swoE.irrefl _
  ·exact(List.pairwise_cons.1 h).1 y hy⟩
theorem IsMin.left{x y:Ent}{c d:List Ent}(h:IsMin x c)(g:IsMin y d)(hl:ltE y x=false):IsMin x (c++d):=
 ⟨by simp[h.1],fun z hz=>by
  rcases List.mem_append.1 hz with hz|hz
  ·exact h.2 z hz
  ·exact swoE.ntrans _ _ _ (g.2 z hz) hl⟩
theorem IsMin.right{x y:Ent}{c d:List Ent}(h:IsMin x c)(g:IsMin y d)(hl:ltE y x=true):IsMin y (c++d):=
 ⟨by simp[g.1],fun z hz=>by
  rcases List.mem_append.1 hz with hz|hz
  ·exact swoE.ntrans _ _ _ (h.2 z hz) (swoE.asymmA hl)
  ·exact g.2 z hz⟩
def MinUp(ls:List (List Ent))(k:Nat)(F:Bool)(x:Ent):Prop:=(F=false/\k=0/\x=(0,0))\/(F=true/\IsMin x (ls.take k).flatten)
theorem MinUp.first{ls:List (List Ent)}{k:Nat}{x e:Ent}{r:List Ent}(h:MinUp ls k false x)(hk:k<ls.length)(hd:ls[k]=e::r)(hs:Srt (e::r)):MinUp ls (k+1) true e:=by
 rcases h with⟨_,rfl,_⟩|⟨h,_⟩
 ·right
  refine⟨rfl,?_⟩;rw[flat_take hk,hd];simpa using IsMin.head hs
 ·cases h
theorem MinUp.less{ls:List (List Ent)}{k:Nat}{x e:Ent}{r:List Ent}(h:MinUp ls k true x)(hk:k<ls.length)(hd:ls[k]=e::r)(hs:Srt (e::r))(hl:ltE e x=true):MinUp ls (k+1) true e:=by
 rcases h with⟨h,_⟩|⟨_,h⟩
 ·cases h
 ·right
  refine⟨rfl,?_⟩;rw[flat_take hk,hd];exact h.right (IsMin.head hs) hl
theorem MinUp.more{ls:List (List Ent)}{k:Nat}{x e:Ent}{r:List Ent}(h:MinUp ls k true x)(hk:k<ls.length)(hd:ls[k]=e::r)(hs:Srt (e::r))(hl:ltE e x=false):MinUp ls (k+1) true x:=by
 rcases h with⟨h,_⟩|⟨_,h⟩
 ·cases h
 ·right
  refine⟨rfl,?_⟩;rw[flat_take hk,hd];exact h.left (IsMin.head hs) hl
def MinL(w:World)(d:List Ent)(r:Ending)(w':World):Prop:=∃(F:Bool)(x:Ent),r=.returned (.tuple #[.agg #[.int .u64 x.1,.int .i64 x.2],.bool F])/\((F=false/\d=[]/\x=(0,0))\/(F=true/\∃t,sortE d=x::t))/\Below w.heap.size w w'
theorem lmin_any(B base:Nat)(ls:List (List Ent))(w:World)(h:Lsm w base B ls)(hf:Fall ls)(hlen:ls.length<=10000) :
  Calls prog 171 #[.pointer (some ⟨B,0,none⟩)] w (MinL w ls.flatten):=by
 obtain⟨a,cap,cB,hc1,hc2,hB,hat⟩:=h.at;have AT:Aside (∀(i:Nat)(hi:i<ls.length),∃g p q,a=some ⟨g,0,none⟩/\g<w.heap.size/\∀W,Below w.heap.size w W->W.cell? ⟨g,i*2,none⟩=some (.int .i64 (lv ls[i]))/\W.cell? ⟨g,i*2+1,none⟩=some (.slice p ls[i].length q)/\IsL W p q ls[i]):=hat;obtain⟨S,hS⟩:∃S,w.heap.size=S:=⟨_,rfl⟩;have HS:Hid _:=hS;have hB2:B<S:=by omega
 obtain⟨n,hn⟩:∃n,ls.length=n:=⟨_,rfl⟩;have HN:Hid _:=hn;have HF:Aside (Fall ls):=hf;rw[hn] at cB hlen;obtain⟨u,hu⟩:∃u,(w.alloc (.cells #[.int .u64 0,.int .i64 0] 35)).alloc (.cells #[.int .u64 0,.int .i64 0] 35)=u:=⟨_,rfl⟩;have HU:Hid _:=hu;have su:u.heap.size=S+2:=by rw[<-hu,<-hS];simp
 have b0:Below S w u:=by rw[<-hu,<-hS];exact((Below.refl _ _).alloc (le_refl _) _).alloc (by simp) _
 have x1:Box2 (S+1) (.int .u64 0) (.int .i64 0) u:=by
  have:=Box2.new (w.alloc (.cells #[.int .u64 0,.int .i64 0] 35)) (.int .u64 0) (.int .i64 0) 35;rw[hu] at this;simpa [hS] using this
 have x0:Box2 S (.int .u64 0) (.int .i64 0) u:=by
  have:=(Box2.new w (.int .u64 0) (.int .i64 0) 35).below ((Below.refl _ _).alloc (le_refl _) (.cells #[.int .u64 0,.int .i64 0] 35)) (by simp);rw[hu] at this;simpa [hS] using this
 have X0:Aside (Box2 S (.int .u64 0) (.int .i64 0) u):=x0;have X1:Aside (Box2 (S+1) (.int .u64 0) (.int .i64 0) u):=x1;have B0:Aside (Below S w u):=b0;have cB0:u.cell? ⟨B,0,none⟩=some (.slice a n cap):=(b0.cell (p:=⟨B,0,none⟩) hB2).trans cB;clear hat h hn hc1 hc2 hf hu x0 x1 b0 su;go_enter func171,ntmps171
 go_wp2_with fail
 rw[HU.out]
 go_loopg [5,15] n (fun kx s5 s15 wr=>∃(k:Nat)(F:Bool)(x:Ent),s15=.int .i64 k/\s5=.bool F/\k<=n/\n-k<=kx/\Aside (MinUp ls k F x)/\Aside (Box2 S (.int .u64 0) (.int .i64 0) wr)/\Aside (Box2 (S+1) (.int .u64 x.1) (.int .i64 x.2) wr)/\Aside (Below S w wr))
 case atStart=>exact⟨0,false,(0,0),rfl,rfl,by omega,by omega,(.inl ⟨rfl,rfl,rfl⟩:MinUp ls 0 false (0,0)),X0,X1,B0⟩
 case round=>
  clear X0 X1 B0 cB0 HU cB;obtain⟨k,F,x,rfl,rfl,hk,hkx,M,X0,X1,D⟩:=hrel;by_cases hlt:k<n
  ·have hz:(k:Int)<(n:Int):=by omega
   have hkl:k<ls.length:=by rw[HN.out];exact hlt
   obtain⟨g,p,q,ha,hg,hcs⟩:=AT.out k hkl;obtain⟨c0,c1,L⟩:=hcs wr (by rw[HS.out];exact D.out);have hsrt:=HF.out.srt _ (getElem_mem hkl);have hpos:=HF.out.pos _ (getElem_mem hkl)
   obtain⟨e,r,hd⟩:∃e r,ls[k]=e::r:=by
    cases hd:ls[k] with
    | nil=>rw[hd] at hpos;simp at hpos
    | cons e r=>exact⟨e,r,rfl⟩
   have HD:Hid _:=hd;have HSR:Aside (Srt (e::r)):=by rw[<-hd];exact hsrt
   rw[hd] at c0 c1 L;obtain⟨m,hm⟩:∃m,lv (e::r)=m:=⟨_,rfl⟩;obtain⟨kl,hkl2⟩:∃m,(e::r).length=m:=⟨_,rfl⟩;rw[hm] at c0;rw[hkl2] at c1;obtain⟨R,hR⟩:∃R,wr.heap.size=R:=⟨_,rfl⟩;have sg:g<R:=by have:=D.out.size;omega
   have sS:S+1<R:=by rw[<-hR];exact X1.out.lt
   obtain⟨v1,hv1⟩:∃v,wr.alloc (.cells #[.int .i64 m,.slice p kl q] 223)=v:=⟨_,rfl⟩;have bv1:Below wr.heap.size wr v1:=by rw[<-hv1];exact(Below.refl _ _).alloc (le_refl _) _
   have HV1:Hid _:=hv1;have mn:=minB_any m p q e r v1 (L.below bv1);rw[hkl2] at mn;have XV0:Aside (Box2 S (.int .u64 0) (.int .i64 0) v1):=X0.out.on bv1;have XV1:Aside (Box2 (S+1) (.int .u64 x.1) (.int .i64 x.2) v1):=X1.out.on bv1;have DV:Aside (Below S w v1):=D.out.trans (bv1.mono (by omega));have sv1:R<=v1.heap.size:=by have:=bv1.size;omega
   clear hm hkl2 hd L hsrt hpos hcs bv1 hv1 D X0 X1;subst ha
   go_wp2_with fail
   rw[HV1.out];refine mn.mono ?_;rintro r2 w2 ⟨rfl,b2⟩;obtain⟨R2,hR2⟩:∃R,w2.heap.size=R:=⟨_,rfl⟩;have sR:R<=R2:=by have:=b2.size;omega
   obtain⟨v2,hv2⟩:∃v,w2.alloc (.cells #[.int .u64 e.1,.int .i64 e.2] 35)=v:=⟨_,rfl⟩;have bv2:Below w2.heap.size w2 v2:=by rw[<-hv2];exact(Below.refl _ _).alloc (le_refl _) _
   have HV2:Hid _:=hv2;have XE:Aside (Box2 R2 (.int .u64 e.1) (.int .i64 e.2) v2):=by rw[<-hv2,<-hR2];exact Box2.new _ _ _ _
   have Y0:Aside (Box2 S (.int .u64 0) (.int .i64 0) v2):=(XV0.out.on b2).on bv2;have Y1:Aside (Box2 (S+1) (.int .u64 x.1) (.int .i64 x.2) v2):=(XV1.out.on b2).on bv2;have D2:Aside (Below S w v2):=(DV.out.trans (b2.mono (by omega))).trans (bv2.mono (by omega));have o0:=((XV1.out.on b2)).c0;have o1:=((XV1.out.on b2)).c1;have of0:=((XV1.out.on b2)).f0;have of1:=((XV1.out.on b2)).f1;have nS:S+1≠S:=by omega
   have Z1:Aside (Box2 (S+1) (.int .u64 e.1) (.int .i64 e.2) (((w2.setCell ⟨S+1,0,none⟩ (.int .u64 e.1)).setCell ⟨S+1,1,none⟩ (.int .i64 e.2)).alloc (.cells #[.int .u64 e.1,.int .i64 e.2] 35))):=((XV1.out.on b2).set _ _).on ((Below.refl _ _).alloc (le_refl _) _);have Z0:Aside (Box2 S (.int .u64 0) (.int .i64 0) (((w2.setCell ⟨S+1,0,none⟩ (.int .u64 e.1)).setCell ⟨S+1,1,none⟩ (.int .i64 e.2)).alloc (.cells #[.int .u64 e.1,.int .i64 e.2] 35))):=(((XV0.out.on b2).other nS _).other nS _).on ((Below.refl _ _).alloc (le_refl _) _);have ZD:Aside (Below S w (((w2.setCell ⟨S+1,0,none⟩ (.int .u64 e.1)).setCell ⟨S+1,1,none⟩ (.int .i64 e.2)).alloc (.cells #[.int .u64 e.1,.int .i64 e.2] 35))):=(((DV.out.trans (b2.mono (by omega))).setCell (by show S<=S+1;omega) _).setCell (by show S<=S+1;omega) _).alloc (by simp;omega) _;have sv2:R2<=v2.heap.size:=by have:=bv2.size;omega
   clear b2 bv2 mn XV0 XV1 DV c0 c1 hv2;have sS2:S+1<R2:=by omega
   cases F with
   | false=>
    go_wp2
    go_roundg (n-(k+1))
    case measure=>omega
    case rel=>exact⟨k+1,true,e,by go_num,rfl,by omega,le_refl _,M.out.first hkl HD.out HSR.out,Z0,Z1,ZD⟩
   | true=>
    clear Z0 Z1 ZD;have ls2:=less_any e x v2;have sS3:S<=v2.heap.size:=by omega
    cases hB:ltE e x with
    | true=>
     rw[hB] at ls2;have HB:Hid _:=hB;clear hB
     go_wp2_with fail
     rw[HV2.out];refine ls2.mono ?_;rintro r3 w3 ⟨rfl,g3⟩;have q0:=(Y1.out.on g3.below).c0;have q1:=(Y1.out.on g3.below).c1;have q2:=(Y1.out.on g3.below).f0;have q3:=(Y1.out.on g3.below).f1;have p0:=(XE.out.on g3.below).c0;have p1:=(XE.out.on g3.below).c1;have Z1:Aside (Box2 (S+1) (.int .u64 e.1) (.int .i64 e.2) ((w3.setCell ⟨S+1,0,none⟩ (.int .u64 e.1)).setCell ⟨S+1,1,none⟩ (.int .i64 e.2))):=(Y1.out.on g3.below).set _ _;have Z0:Aside (Box2 S (.int .u64 0) (.int .i64 0) ((w3.setCell ⟨S+1,0,none⟩ (.int .u64 e.1)).setCell ⟨S+1,1,none⟩ (.int .i64 e.2))):=((Y0.out.on g3.below).other nS _).other nS _;have ZD:Aside (Below S w ((w3.setCell ⟨S+1,0,none⟩ (.int .u64 e.1)).setCell ⟨S+1,1,none⟩ (.int .i64 e.2))):=((D2.out.trans (g3.below.mono sS3)).setCell (by show S<=S+1;omega) _).setCell (by show S<=S+1;omega) _;clear g3 ls2 o0 o1 of0 of1 Y0 Y1 D2 XE
     go_wp2
     go_roundg (n-(k+1))
     case measure=>omega
     case rel=>exact⟨k+1,true,e,by go_num,rfl,by omega,le_refl _,M.out.less hkl HD.out HSR.out HB.out,Z0,Z1,ZD⟩
    | false=>
     rw[hB] at ls2;have HB:Hid _:=hB;clear hB
     go_wp2_with fail
     rw[HV2.out];refine ls2.mono ?_;rintro r3 w3 ⟨rfl,g3⟩;have Z1:Aside (Box2 (S+1) (.int .u64 x.1) (.int .i64 x.2) w3):=Y1.out.on g3.below;have Z0:Aside (Box2 S (.int .u64 0) (.int .i64 0) w3):=Y0.out.on g3.below;have ZD:Aside (Below S w w3):=D2.out.trans (g3.below.mono sS3);clear g3 ls2 o0 o1 of0 of1 Y0 Y1 D2 XE
     go_wp2
     go_roundg (n-(k+1))
     case measure=>omega
     case rel=>exact⟨k+1,true,x,by go_num,rfl,by omega,le_refl _,M.out.more hkl HD.out HSR.out HB.out,Z0,Z1,ZD⟩
  ·have hz:¬(k:Int)<(n:Int):=by omega
   have y0:=X1.out.c0;have y1:=X1.out.c1;have y2:=X0.out.c0;have y3:=X0.out.c1;have y4:=X0.out.f0;have y5:=X0.out.f1;have e:k=ls.length:=by rw[HN.out];omega
   have FIN:Aside ((F=false/\ls.flatten=[]/\x=(0,0))\/(F=true/\∃t,sortE ls.flatten=x::t)):=by
    rcases M.out with⟨h1,h2,h3⟩|⟨h1,h2⟩
    ·have:ls=[]:=List.length_eq_zero_iff.1 (by omega);exact .inl ⟨h1,by rw[this];rfl,h3⟩
    ·rw[List.take_of_length_le (by omega)] at h2;exact .inr ⟨h1,h2.sort⟩
   have Z0:Aside (Box2 S (.int .u64 x.1) (.int .i64 x.2) ((wr.setCell ⟨S,0,none⟩ (.int .u64 x.1)).setCell ⟨S,1,none⟩ (.int .i64 x.2))):=X0.out.set _ _;have ZD:Aside (Below S w ((wr.setCell ⟨S,0,none⟩ (.int .u64 x.1)).setCell ⟨S,1,none⟩ (.int .i64 x.2))):=(D.out.setCell (le_refl _) _).setCell (le_refl _) _;clear X0 X1 M D e
   go_wp2
   generalize World.setCell _ _ _=w3 at Z0 ZD⊢;have z0:=Z0.out.c0;have z1:=Z0.out.c1;refine bodyPost_ret (v:=.tuple #[.agg #[.int .u64 x.1,.int .i64 x.2],.bool F]) (by simp[results,results171,go_sem,z0,z1]) rfl ⟨F,x,rfl,FIN.out,by rw[HS.out];exact ZD.out⟩
def dropLs(ls:List (List Ent))(id:Int):List (List Ent):=if firstB ls id<ls.length then dropB ls id (firstB ls id) else ls
theorem dropLs_fall{ls:List (List Ent)}(h:Fall ls)(id:Int):Fall (dropLs ls id):=by
 unfold dropLs
 split
 ·exact dropB_fall h id _
 ·exact h
theorem dropLs_len{ls:List (List Ent)}(id:Int):(dropLs ls id).flatten.length<=ls.flatten.length:=by
 unfold dropLs
 split
 ·exact dropB_len id ‹_›
 ·exact le_refl _
theorem dropLs_perm{ls:List (List Ent)}{id:Int}(hd:(ls.flatten.map Prod.snd).Nodup):(dropLs ls id).flatten.Perm (outL id ls.flatten):=by
 unfold dropLs
 split
 ·next c=>exact dropB_out c hd (firstB_hasL c)
 ·next c=>
  have:hasL ls.flatten id=false:=by
   cases e:hasL ls.flatten id with
   | false=>rfl
   | true=>exact absurd (firstB_has.2 e) c
  unfold outL;rw[List.filter_eq_self.2];intro x hx;have:=hasL_false.1 this x hx;simp[this]
theorem l7keep_out(id:Int)(d:List Ent):keepL (fun o=>decide (o=id)) d=outL id d:=rfl
theorem l7outL_srt{d:List Ent}(h:Srt d)(id:Int):sortE (outL id d)=outL id d:=sortE_id (h.filter _)
theorem l7hasFn_any(S:Nat)(id:Int)(x:Ent)(W:World)(hS:S<W.heap.size)(c0:W.cell? ⟨S,0,none⟩=some (.int .i64 id)) :
  Calls prog 190 #[.agg #[.int .u64 x.1,.int .i64 x.2],.pointer (some ⟨S,0,none⟩)] W fun e w'=>e=.returned (.bool (decide (x.2=id)))/\Grown W w':=by
 have e:decide (x.2=id)=(x.2==id):=by by_cases h:x.2=id<;>simp[h]
 rw[e];have c1:(W.alloc (.cells #[.int .u64 x.1,.int .i64 x.2] 35)).cell? ⟨S,0,none⟩=some (.int .i64 id):=(cell_old W _ 0 hS).trans c0;have hS2:¬S=W.heap.size:=by omega
 go_enter func190,ntmps190
 go_wp2
 go_ret;exact⟨rfl,(Grown.refl W).alloc _⟩
theorem l7contains_any(S:Nat)(id:Int)(a:Option Addr)(cap:Nat)(d:List Ent)(w:World)(h:IsL w a cap d)(hS:S<w.heap.size)(c0:w.cell? ⟨S,0,none⟩=some (.int .i64 id)) :
  Calls prog 182 #[.slice a d.length cap,.func (.func 190) #[] #[.pointer (some ⟨S,0,none⟩)]] w fun e w'=>e=.returned (.bool (hasL d id))/\Grown w w':=by
 have ix:=indexFunc_any a cap d 190 #[.pointer (some ⟨S,0,none⟩)] (fun x=>decide (x.2=id)) w h (enters_of func190 (by kernel_rfl) rfl)
  (fun x W hW=>l7hasFn_any S id x W (by have:=hW.below.size;omega) ((hW.below.cell (p:=⟨S,0,none⟩) hS).trans c0))
 clear h c0;go_enter func182,ntmps182
 go_wp2_with fail
 refine ix.mono ?_;rintro r w1 ⟨z,rfl,fi,g1⟩;have G1:Aside (Grown w w1):=g1;clear g1 ix;rcases fi with⟨rfl,hno⟩|⟨k,hk,rfl,hyes,hno⟩
 ·have hh:hasL d id=false:=hasL_none fun i hi=>by simpa using hno i hi
  have HH:Hid _:=hh;clear hno hh
  go_wp2
  go_ret;exact⟨by rw[HH.out];rfl,G1.out⟩
 ·have hh:hasL d id=true:=hasL_at k hk (by simpa using hyes);have HH:Hid _:=hh;have k0:(0:Int)<=(k:Int):=by omega
  clear hno hyes hh
  go_wp2
  go_ret;exact⟨by rw[HH.out];rfl,G1.out⟩
theorem l7lhas_any(i id:Int)(a:Option Addr)(cap:Nat)(d:List Ent)(w:World)(h:IsL w a cap d) :
  Calls prog 139 #[.agg #[.int .i64 i,.slice a d.length cap],.int .i64 id] w fun e w'=>e=.returned (.bool (hasL d id))/\Below w.heap.size w w':=by
 obtain⟨S,hS⟩:∃S,w.heap.size=S:=⟨_,rfl⟩;obtain⟨n,hn⟩:∃n,d.length=n:=⟨_,rfl⟩;obtain⟨u,hu⟩:∃u,(w.alloc (.cells #[.int .i64 i,.slice a n cap] 223)).alloc (.cells #[.int .i64 id] 3)=u:=⟨_,rfl⟩;have HU:Hid _:=hu;have b0:Below w.heap.size w u:=by rw[<-hu];exact((Below.refl _ _).alloc (le_refl _) _).alloc (by simp) _
 have su:u.heap.size=S+2:=by rw[<-hu,<-hS];simp
 have c0:u.cell? ⟨S+1,0,none⟩=some (.int .i64 id):=by
  have:=cell_new (w.alloc (.cells #[.int .i64 i,.slice a n cap] 223)) #[.int .i64 id] 3 0;rw[hu] at this;simpa [hS] using this
 have ct:=l7contains_any (S+1) id a cap d u (h.below b0) (by omega) c0;rw[hn] at ct⊢;have B0:Aside (Below w.heap.size w u):=b0;obtain⟨Y,hY⟩:∃Y,hasL d id=Y:=⟨_,rfl⟩;rw[hY] at ct⊢;have hmf:∀(fn:Fn)(first cap:Array Value)(w:World),(Instr.makeFunc fn first cap).run prog w=.ok (.func fn first cap) w:=fun _ _ _ _=>rfl;clear hu b0 su c0 h hn hY;go_enter func139,ntmps139
 go_wp2_with fail
 rw[HU.out];refine ct.mono ?_;rintro r w1 ⟨rfl,g1⟩;have B1:Aside (Below w.heap.size w w1):=B0.out.trans (g1.below.mono B0.out.size);clear g1 ct
 go_wp2
 go_ret;exact⟨rfl,B1.out⟩
theorem l7drop1_any(S:Nat)(id i:Int)(a:Option Addr)(cap:Nat)(d:List Ent)(W:World)(h:IsL W a cap d)(hS:S<W.heap.size)(c0:W.cell? ⟨S,0,none⟩=some (.int .i64 id)) :
  Calls prog 138 #[.agg #[.int .i64 i,.slice a d.length cap],.pointer (some ⟨S,0,none⟩)] W fun e w'=>e=.returned (.bool (hasL d id))/\Below W.heap.size W w':=by
 obtain⟨R,hR⟩:∃R,W.heap.size=R:=⟨_,rfl⟩;obtain⟨n,hn⟩:∃n,d.length=n:=⟨_,rfl⟩;obtain⟨u,hu⟩:∃u,W.alloc (.cells #[.int .i64 i,.slice a n cap] 223)=u:=⟨_,rfl⟩;have HU:Hid _:=hu;have b0:Below W.heap.size W u:=by rw[<-hu];exact(Below.refl _ _).alloc (le_refl _) _
 have hs:=l7lhas_any i id a cap d u (h.below b0);rw[hn] at hs⊢;have B0:Aside (Below W.heap.size W u):=b0;have sS:S<R:=by omega
 obtain⟨Y,hY⟩:∃Y,hasL d id=Y:=⟨_,rfl⟩;rw[hY] at hs⊢;clear hu b0 h hn hY;go_enter func138,ntmps138
 go_wp2_with fail
 rw[HU.out];refine hs.mono ?_;rintro r w1 ⟨rfl,g1⟩;have B1:Aside (Below W.heap.size W w1):=B0.out.trans (g1.mono B0.out.size);clear g1 hs
 go_wp2
 go_ret;exact⟨rfl,B1.out⟩
theorem l7drop2_any(S:Nat)(id o:Int)(W:World)(c0:W.cell? ⟨S,0,none⟩=some (.int .i64 id)) :
  Calls prog 140 #[.int .i64 o,.pointer (some ⟨S,0,none⟩)] W fun e w'=>e=.returned (.bool (decide (o=id)))/\Below W.heap.size W w':=by
 have e:decide (o=id)=(o==id):=by by_cases h:o=id<;>simp[h]
 rw[e];go_enter func140,ntmps140
 go_wp2
 go_ret;exact⟨rfl,Below.refl _ _⟩
def BlAt(w:World)(a:Option Addr)(ls:List (List Ent)):Prop:=∀(i:Nat)(hi:i<ls.length),∃g p q,a=some ⟨g,0,none⟩/\g<w.heap.size/\∀W,Below w.heap.size w W->W.cell? ⟨g,i*2,none⟩=some (.int .i64 (lv ls[i]))/\W.cell? ⟨g,i*2+1,none⟩=some (.slice p ls[i].length q)/\IsL W p q ls[i]
theorem indexB_any(S:Nat)(id:Int)(a:Option Addr)(cap:Nat)(ls:List (List Ent))(w:World)(h:BlAt w a ls)(hl:ls.length<=10000)(hS:S<w.heap.size)(c0:w.cell? ⟨S,0,none⟩=some (.int .i64 id)) :
  Calls prog 126 #[.slice a ls.length cap,.func (.func 138) #[] #[.pointer (some ⟨S,0,none⟩)]] w fun r w'=>∃z:Int,r=.returned (.int .i64 z)/\((z = -1/\firstB ls id=ls.length)\/(firstB ls id<ls.length/\z=(firstB ls id:Nat)))/\Below w.heap.size w w':=by
 have H:Aside (BlAt w a ls):=h;have EG:=enters_of func138 (by kernel_rfl) rfl;obtain⟨n,hn⟩:∃n,ls.length=n:=⟨_,rfl⟩;have HN:Hid _:=hn;rw[hn] at hl⊢;have CS:Aside (∀W,Below w.heap.size w W->S<W.heap.size/\W.cell? ⟨S,0,none⟩=some (.int .i64 id)):=fun W hW=>⟨by have:=hW.size;omega,(hW.cell (p:=⟨S,0,none⟩) hS).trans c0⟩;clear h c0 hn;go_enter func126,ntmps126
 go_wp2
 go_loopg [8] n (fun kx s8 wr=>∃k:Nat,s8=.int .i64 k/\k<=n/\n-k<=kx/\Aside (Below w.heap.size w wr)/\Aside (∀i (hi:i<ls.length),i<k->hasL ls[i] id=false))
 case atStart=>exact⟨0,rfl,by omega,by omega,Below.refl _ _,(fun i _ h=>absurd h (by omega):∀i (hi:i<ls.length),i<0->hasL ls[i] id=false)⟩
 case round=>
  obtain⟨k,rfl,hk,hkx,D,A⟩:=hrel;by_cases hlt:k<n
  ·have hz:(k:Int)<(n:Int):=by omega
   have hkl:k<ls.length:=by rw[HN.out];exact hlt
   obtain⟨g,p,q,ha,hg,hcs⟩:=H.out k hkl;obtain⟨c0,c1,L⟩:=hcs wr D.out;obtain⟨d,hd⟩:∃d,ls[k]=d:=⟨_,rfl⟩;have HD:Hid _:=hd;rw[hd] at c0 c1 L;obtain⟨Y,hY⟩:∃Y,hasL d id=Y:=⟨_,rfl⟩;have HY:Hid _:=hY;have pc:=l7drop1_any S id (lv d) p q d wr L (CS.out wr D.out).1 (CS.out wr D.out).2;obtain⟨m,hm⟩:∃m,lv d=m:=⟨_,rfl⟩;obtain⟨kl,hkl2⟩:∃m,d.length=m:=⟨_,rfl⟩;rw[hm] at c0 pc;rw[hkl2] at c1 pc;rw[hY] at pc;have HA:Hid _:=ha;have hs:=D.out.size;clear hY hm hkl2 hd L hcs;subst ha
   go_wp2_with fail
   refine pc.mono ?_;rintro r w1 ⟨rfl,g1⟩;have D2:Aside (Below w.heap.size w w1):=D.out.trans (g1.mono hs);clear g1 D c0 c1 pc
   cases Y with
   | true=>
    have fb:=firstB_at hkl (by rw[HD.out];exact HY.out) (fun i hi=>A.out i (by omega) hi);have FB:Hid _:=fb;clear fb
    go_wp2
    go_ret;refine⟨k,rfl,.inr ⟨by rw[FB.out];exact hlt,by rw[FB.out]⟩,D2.out⟩
   | false=>
    go_wp2
    go_roundg (n-(k+1))
    case measure=>omega
    case rel=>
     refine⟨k+1,by go_num,by omega,le_refl _,D2,(fun i hi hik=>?_:∀i (hi:i<ls.length),i<k+1->hasL ls[i] id=false)⟩;by_cases e:i=k
     ·subst e;rw[HD.out];exact HY.out
     ·exact A.out i hi (by omega)
  ·have hz:¬(k:Int)<(n:Int):=by omega
   have fb:=firstB_none (ls:=ls) (id:=id) (fun d hd=>by
    obtain⟨i,hi,rfl⟩:=List.getElem_of_mem hd;exact A.out i hi (by have:=HN.out;omega))
   rw[HN.out] at fb;have FB:Hid _:=fb;clear fb
   go_wp2
   go_ret;exact⟨-1,rfl,.inl ⟨rfl,FB.out⟩,D.out⟩
theorem lsm_less{w:World}{base B n cap:Nat}{a:Option Addr}{bs:List Bk}{w':World}{k:Nat}(hB:base<=B)(hc:w.heap[B]?=some (.cells #[.slice a n cap] 190 (0,0)))(hr:RowB 223 w base (.slice a n cap) bs)(hn:bs.length=n)(hk:k<n)(t:TurnsB w base (.slice a n cap) (.slice a (n-1) cap) (bs.eraseIdx k) w')(hbase:base<=w.heap.size) :
  w'.heap[B]?=some (.cells #[.slice a n cap] 190 (0,0))/\LsmC (w'.setCell ⟨B,0,none⟩ (.slice a (n-1) cap)) base B ((bs.map Bk.d).eraseIdx k) a cap/\Below base w (w'.setCell ⟨B,0,none⟩ (.slice a (n-1) cap))/\Kept LB w (w'.setCell ⟨B,0,none⟩ (.slice a (n-1) cap))/\Only B a w (w'.setCell ⟨B,0,none⟩ (.slice a (n-1) cap)):=by
 have e:=t.ends hr.row hbase;have hr':=hr.row;rw[hn] at hr';have c4:w'.heap[B]?=some (.cells #[.slice a n cap] 190 (0,0)):=(t.2.block B (lt_of_block hc) (row_neB hr' hc)).trans hc;have le:(bs.eraseIdx k).length=n-1:=by rw[List.length_eraseIdx,if_pos (by omega),hn]
 refine⟨c4,⟨bs.eraseIdx k,?_,hB,?_,?_⟩,e.1.setCell hB _,e.2.trans (Kept.set c4 (.inl rfl) _),Only.set (fun k hk h1 h2=>t.2.block k hk (row_ne hr' h2)) 0 _⟩
 ·rw[eraseIdx_eq_take_drop_succ,eraseIdx_eq_take_drop_succ,map_append,List.map_take,List.map_drop]
 ·rw[le,setCell_row c4];rfl
 ·rw[le];exact t.1.setCell c4 (by decide) (by decide) _
theorem ldrop_any(B base:Nat)(a0:Option Addr)(ls:List (List Ent))(id:Int)(w:World)(hA:LsmA w base B ls a0)(hf:Fall ls)(hlen:ls.length<=10000)(hsum:ls.flatten.length<=10000)(hbase:base<=w.heap.size) :
  Calls prog 93 #[.pointer (some ⟨B,0,none⟩),.int .i64 id] w fun r w'=>r=.returned (.bool (hasL ls.flatten id))/\Turned w base B a0 (dropLs ls id) w':=by
 have h:=hA.t;obtain⟨S,hS⟩:∃S,w.heap.size=S:=⟨_,rfl⟩;have HS:Hid _:=hS;obtain⟨u,hu⟩:∃u,w.alloc (.cells #[.int .i64 id] 3)=u:=⟨_,rfl⟩;have HU:Hid _:=hu;have bu:Below w.heap.size w u:=by rw[<-hu];exact(Below.refl _ _).alloc (le_refl _) _
 have su:S<u.heap.size:=by rw[<-hu,<-hS];simp
 have cu:u.cell? ⟨S,0,none⟩=some (.int .i64 id):=by rw[<-hu,<-hS];exact cell_new w _ _ 0
 have hU:=hA.below bu;obtain⟨cap,bs,hbs,hB,hcell,hrow⟩:=hU;obtain⟨a',cap',cB,hc1,hc2,hB1,hat⟩:=Lsm.at (h.below bu)
 have ea:a0=a'/\cap'=cap/\ls.length=bs.length:=by
  have:=lsm_cell hcell;rw[cB] at this;simp only[Option.some.injEq,Value.slice.injEq] at this;exact⟨this.1.symm,this.2.2,this.2.1⟩
 obtain⟨ea0,rfl,el⟩:=ea;subst ea0;have ix:=indexB_any S id a0 cap' ls u hat hlen su cu;obtain⟨n,hn⟩:∃n,ls.length=n:=⟨_,rfl⟩;have HN:Hid _:=hn;rw[hn] at cB ix hlen el;have hmf:∀(fn:Fn)(first cap:Array Value)(w:World),(Instr.makeFunc fn first cap).run prog w=.ok (.func fn first cap) w:=fun _ _ _ _=>rfl;have BU:Aside (Below w.heap.size w u):=bu;have CU:Aside (u.cell? ⟨S,0,none⟩=some (.int .i64 id)):=cu;have LU:Aside (LsmA u base B ls a0):=hA.below bu;have CE:Aside (u.heap[B]?=some (.cells #[.slice a0 n cap'] 190 (0,0))):=by rw[el];exact hcell
 have RW:Aside (RowB 223 u base (.slice a0 n cap') bs):=by rw[el];exact hrow
 have HBS:Hid (bs.map Bk.d=ls):=hbs;have HF:Aside (Fall ls):=hf;have EL:Hid (n=bs.length):=el;have BS:B<S:=by rw[<-hS];exact h.lt.2
 have cBw:w.cell? ⟨B,0,none⟩=some (.slice a0 n cap'):=(bu.cell (p:=⟨B,0,none⟩) (by show B<_;omega)).symm.trans cB;clear hu bu cu hcell hrow hbs hf hat h hA hc1 el hn cB;go_enter func93,ntmps93
 go_wp2_with fail
 rw[HU.out];refine ix.mono ?_;rintro r w1 ⟨z,rfl,fi,b1⟩;have B1:Aside (Below u.heap.size u w1):=b1;clear b1 ix;rcases fi with⟨rfl,hno⟩|⟨hlt,rfl⟩
 ·have hh:hasL ls.flatten id=false:=by
   cases e:hasL ls.flatten id with
   | false=>rfl
   | true=>have:=firstB_has.2 e;rw[HN.out] at this;omega
  have hd:dropLs ls id=ls:=by unfold dropLs;rw[if_neg (by rw[HN.out];omega)]
  have bw:Below w.heap.size w w1:=BU.out.trans (B1.out.mono BU.out.size);have FIN:Aside (Turned w base B a0 (dropLs ls id) w1):=by rw[hd];exact⟨a0,LU.out.below B1.out,bw.mono hbase,Kept.of_below bw,Only.below bw,Moved.refl _ _⟩
  have HH:Hid _:=hh;clear hh hd bw hno
  go_wp2
  go_ret;exact⟨by rw[HH.out];rfl,FIN.out⟩
 ·obtain⟨k,hk⟩:∃k,firstB ls id=k:=⟨_,rfl⟩;have hlt0:firstB ls id<ls.length:=by rw[HN.out];exact hlt
  have hh:hasL ls.flatten id=true:=firstB_has.1 hlt0;rw[hk] at hlt⊢;have HK:Hid _:=hk;have HH:Hid _:=hh;have hkl:k<ls.length:=by rw[HN.out];exact hlt
  have hkb:k<bs.length:=by rw[<-EL.out];exact hlt
  -- the block
  have R1:Aside (RowB 223 w1 base (.slice a0 n cap') bs):=RW.out.below B1.out;have C1:Aside (w1.heap[B]?=some (.cells #[.slice a0 n cap'] 190 (0,0))):=(B1.out.block B (lt_of_block CE.out)).trans CE.out;obtain⟨g,ha,hbg,hgs,c0,c1⟩:=R1.out.at hkb;obtain⟨x,hx⟩:∃x,bs[k]=x:=⟨_,rfl⟩
  have xd:x.d=ls[k]:=by
   have:(bs.map Bk.d)[k]?=ls[k]?:=by rw[HBS.out]
   rw[List.getElem?_map,List.getElem?_eq_getElem hkb,List.getElem?_eq_getElem hkl,hx] at this;simpa using this
  rw[hx] at c0 c1;have xm:x∈bs:=by rw[<-hx];exact getElem_mem hkb
  have ox:=R1.out.own x xm;have sx:Srt x.d:=by rw[xd];exact HF.out.srt _ (getElem_mem hkl)
  have lx:x.d.length<=10000:=by
   have:=(flat_split hkl).length_eq;rw[length_append,<-xd] at this;omega
  have cS1:∀W,Below w1.heap.size w1 W->W.cell? ⟨S,0,none⟩=some (.int .i64 id):=fun W hW=>(hW.cell (p:=⟨S,0,none⟩) (by have:=B1.out.size;show S<_;omega)).trans ((B1.out.cell (p:=⟨S,0,none⟩) su).trans CU.out);have sh:=shrink_any (lv x.d) x.p x.q x.d 140 #[.pointer (some ⟨S,0,none⟩)] (fun o=>decide (o=id)) w1 ox.is (by omega) (enters_of func140 (by kernel_rfl) rfl) (fun o W hW=>l7drop2_any S id o W (cS1 W hW));rw[l7keep_out,l7outL_srt sx] at sh;obtain⟨E,hE⟩:∃E,outL id x.d=E:=⟨_,rfl⟩;rw[hE] at sh;obtain⟨m,hm⟩:∃m,lv x.d=m:=⟨_,rfl⟩;obtain⟨kl,hkl2⟩:∃m,x.d.length=m:=⟨_,rfl⟩;obtain⟨xp,hxp⟩:∃m,x.p=m:=⟨_,rfl⟩;obtain⟨xq,hxq⟩:∃m,x.q=m:=⟨_,rfl⟩;rw[hm] at c0 sh;rw[hkl2,hxp,hxq] at c1 sh;obtain⟨KE,hKE⟩:∃E',E.length=E':=⟨_,rfl⟩;obtain⟨ME,hME⟩:∃E',lv E=E':=⟨_,rfl⟩;have HE:Hid (outL id ls[k]=E):=by show _=_;rw[<-xd];exact hE
  have HKE:Hid _:=hKE;have HME:Hid _:=hME;have yB:=lsm_cell C1.out;have z0:¬(k:Int)<0:=by omega
  have z1:(k:Int)<(n:Int):=by omega
  have HA:Hid (a0=some ⟨g,0,none⟩):=ha;subst ha;have EB:base<=u.heap.size:=by have:=BU.out.size;omega
  clear hk hh hlt0 hx xd xm ox sx lx cS1 hE hm hkl2 hxp hxq hKE hME
  have e0:dropLs ls id=if E.length=0 then ls.eraseIdx k else layL (ls.eraseIdx k) E:=by
   unfold dropLs;rw[if_pos (by rw[HK.out];exact hkl)];unfold dropB;rw[HK.out,List.getElem?_eq_getElem hkl,Option.getD_some,HE.out]
  have E0:Hid _:=e0;have BW1:Aside (Below w.heap.size w w1):=BU.out.trans (B1.out.mono BU.out.size);have sw1:w.heap.size<=w1.heap.size:=BW1.out.size;clear e0
  go_wp2_with fail
  refine sh.mono ?_;rintro r w2 ⟨a2,c2,rfl,o2,b2⟩;rw[show lvl E.length=ME from HME.out,HKE.out];obtain⟨R2,hR2⟩:∃R,w2.heap.size=R:=⟨_,rfl⟩;obtain⟨v2,hv2⟩:∃v,w2.alloc (.cells #[.int .i64 ME,.slice a2 KE c2] 223)=v:=⟨_,rfl⟩;have bv2:Below w2.heap.size w2 v2:=by rw[<-hv2];exact(Below.refl _ _).alloc (le_refl _) _
  have HV2:Hid _:=hv2;have b12:Below w1.heap.size w1 v2:=b2.trans (bv2.mono b2.size);have XL:Aside (Box2 R2 (.int .i64 ME) (.slice a2 KE c2) v2):=by rw[<-hv2,<-hR2];exact Box2.new _ _ _ _
  have R2':Aside (RowB 223 v2 base (.slice (some ⟨g,0,none⟩) n cap') bs):=R1.out.below b12;have C2:Aside (v2.heap[B]?=some (.cells #[.slice (some ⟨g,0,none⟩) n cap'] 190 (0,0))):=(b12.block B (lt_of_block C1.out)).trans C1.out;have OE:Aside (OwnE v2 base (.slice a2 KE c2) E):=by have:=(o2.low (le_trans hbase sw1)).below bv2;rw[HKE.out] at this;exact this
  have BV2:Aside (Below w.heap.size w v2):=BW1.out.trans (b12.mono sw1);have yB2:=lsm_cell ((b2.block B (lt_of_block C1.out)).trans C1.out);have dl:=delete_any (some ⟨g,0,none⟩) n cap' k base bs v2 R2'.out EL.out.symm hlt;obtain⟨n1,hn1⟩:∃n1,n-1=n1:=⟨_,rfl⟩;have HN1:Hid _:=hn1;rw[hn1] at dl;have gR:g<R2:=by have:=b2.size;omega
  have BR:B<R2:=by have:=lt_of_block C1.out;have:=b2.size;omega
  have nBR:¬B=R2:=by omega
  have nRB:¬R2=B:=by omega
  clear o2 b2 bv2 b12 hv2 sh hn1 c0 c1 yB R1 C1
  go_wp2_with fail
  rw[HV2.out];refine dl.mono ?_;rintro r w3 ⟨rfl,t3⟩;rw[<-HN1.out] at t3;have ll:=lsm_less hB C2.out R2'.out EL.out.symm hlt t3 (le_trans hbase BV2.out.size);rw[HN1.out,HBS.out] at ll;obtain⟨c4,l4,b4,k4,o4⟩:=ll;have y3:=lsm_cell c4;have f3:=lsm_fro c4;have x3:Box2 R2 (.int .i64 ME) (.slice a2 KE c2) w3:=XL.out.grown t3.2 (by simp only[Value.ownBlock,ne_eq,Option.some.injEq];omega);have x4:Box2 R2 (.int .i64 ME) (.slice a2 KE c2) (w3.setCell ⟨B,0,none⟩ (.slice (some ⟨g,0,none⟩) n1 cap')):=x3.other (by show B≠R2;omega) _;have i0:=x3.c0;have i1:=x3.c1;obtain⟨w4,hw4⟩:∃W,w3.setCell ⟨B,0,none⟩ (.slice (some ⟨g,0,none⟩) n1 cap')=W:=⟨_,rfl⟩;rw[hw4] at l4 b4 k4 x4 o4;have HW4:Hid _:=hw4;have L4:Aside (LsmC w4 base B (ls.eraseIdx k) (some ⟨g,0,none⟩) cap'):=l4;have O4:Aside (OwnE w4 base (.slice a2 KE c2) E):=k4.own lb_ent OE.out;have B4:Aside (Below base w w4):=(BV2.out.mono hbase).trans b4;have K4:Aside (Kept LB w w4):=(Kept.of_below BV2.out).trans k4;have ON4:Aside (Only B (some ⟨g,0,none⟩) w w4):=(Only.below BV2.out).trans o4 BV2.out.size
  have ncap:n<=cap':=by
   obtain⟨a9,c9,e,h1,h2⟩:=R2'.out.slice;injection e with _ _ e3
   have:=EL.out;omega
  have el:(ls.eraseIdx k).length=n-1:=by rw[List.length_eraseIdx,if_pos hkl,HN.out]
  have ef:=(flat_split hkl).length_eq;rw[length_append] at ef;have eE:E.length<=ls[k].length:=by rw[<-HE.out];exact outL_len _ _
  have EF:Hid ((ls.eraseIdx k).flatten.length+E.length<=10000):=by show _<=_;omega
  have ELN:Hid ((ls.eraseIdx k).length=n-1):=el;clear t3 l4 b4 k4 o4 x3 c4 dl hw4 el ef eE;by_cases hz:KE=0
  ·subst hz
   have FIN:Aside (Turned w base B (some ⟨g,0,none⟩) (dropLs ls id) w4):=by
    rw[E0.out,if_pos HKE.out];exact⟨_,L4.out.a,B4.out,K4.out,ON4.out,Moved.refl _ _⟩
   go_wp2_with fail
   rw[HW4.out];go_ret;exact⟨by rw[HH.out];rfl,FIN.out⟩
  ·have hz2:(0:Int)<(KE:Int):=by omega
   have ly:=lay_any B base cap' (some ⟨g,0,none⟩) (ls.eraseIdx k) E a2 c2 w4 L4.out (by rw[HKE.out];exact O4.out) (.inl (by rw[ELN.out];omega)) (by rw[ELN.out];omega) (by have:=EF.out;omega) (le_trans hbase K4.out.size);rw[HME.out,HKE.out] at ly
   go_wp2_with fail
   rw[HW4.out];refine ly.mono ?_;rintro r w5 ⟨rfl,t5⟩
   have FIN:Aside (Turned w base B (some ⟨g,0,none⟩) (dropLs ls id) w5):=by
    rw[E0.out,if_neg (by rw[HKE.out];exact hz)];obtain⟨a9,t6,t7,t8,t9,t10⟩:=t5;exact⟨a9,t6,B4.out.trans t7,K4.out.trans t8,ON4.out.trans t9 K4.out.size,t10.mono K4.out.size⟩
   clear t5 ly
   go_wp2
   go_ret;exact⟨by rw[HH.out];rfl,FIN.out⟩
end Go.Proofs.YtjpbngiddjkjiaaGreatDoor.Qu
