import Derived.Test.YthpgfmmpjoodkaaGreatDoorAnyF
import Derived.Test.YthpgfmmpjoodkaaGreatDoorA0
import Derived.Test.YthpgfmmpjoodkaaGreatDoorUJJ
import Derived.StillTail
open List(length_append length_map)
open Nat(le_refl le_trans)
namespace Go.Proofs.YthpgfmmpjoodkaaGreatDoor.Qu
set_option linter.unusedSimpArgs false
set_option maxHeartbeats 8000000
set_option maxRecDepth 100000
set_option linter.unusedVariables false
section
open Go.RowKit Go.Lib Go.Sort
theorem ofFn_any(S:Nat)(m i:Int)(a:Option Addr)(n cap:Nat)(W:World)(hS:S<W.heap.size)(c0:W.cell? ⟨S,0,none⟩=some (.int .i64 m)) :
  Calls Tryz.prog 316 #[.agg #[.int .i64 i,.slice a n cap],.pointer (some ⟨S,0,none⟩)] W fun e w'=>e=.returned (.bool (decide (i=m)))/\Below W.heap.size W w':=by
 have e:decide (i=m)=(i==m):=by by_cases h:i=m<;>simp[h]
 rw[e];have c1:(W.alloc (.cells #[.int .i64 i,.slice a n cap] 290)).cell? ⟨S,0,none⟩=some (.int .i64 m):=(cell_old W _ 0 hS).trans c0;have hS2:¬S=W.heap.size:=by omega
 go_enter Tryz.func316,Tryz.ntmps316
 go_wp2
 go_ret;exact⟨rfl,(Below.refl _ _).alloc (le_refl _) _⟩
theorem belowFn_any(S:Nat)(m i:Int)(a:Option Addr)(n cap:Nat)(W:World)(hS:S<W.heap.size)(c0:W.cell? ⟨S,0,none⟩=some (.int .i64 m)) :
  Calls Tryz.prog 317 #[.agg #[.int .i64 i,.slice a n cap],.pointer (some ⟨S,0,none⟩)] W fun e w'=>e=.returned (.bool (decide (i<m)))/\Below W.heap.size W w':=by
 have c1:(W.alloc (.cells #[.int .i64 i,.slice a n cap] 290)).cell? ⟨S,0,none⟩=some (.int .i64 m):=(cell_old W _ 0 hS).trans c0;have hS2:¬S=W.heap.size:=by omega
 go_enter Tryz.func317,Tryz.ntmps317
 go_wp2
 go_ret;exact⟨rfl,(Below.refl _ _).alloc (le_refl _) _⟩
def FirstAt(ls:List (List Ent))(p:List Ent->Bool)(z:Int):Prop:=(z = -1/\ls.findIdx p=ls.length)\/(ls.findIdx p<ls.length/\z=(ls.findIdx p:Nat))
theorem firstOf_any(a:Option Addr)(n cap m:Nat)(ls:List (List Ent))(w:World)(h:RawB w a (lvs ls))(hn:ls.length=n)(hl:n<=100000) :
  Calls Tryz.prog 310 #[.slice a n cap,.int .i64 m] w fun r w'=>∃z:Int,r=.returned (.int .i64 z)/\FirstAt ls (ofLv m) z/\Below w.heap.size w w':=by
 obtain⟨S,hS⟩:∃S,w.heap.size=S:=⟨_,rfl⟩;obtain⟨u,hu⟩:∃u,w.alloc (.cells #[.int .i64 m] 3)=u:=⟨_,rfl⟩;have HU:Hid _:=hu;have bu:Below w.heap.size w u:=by rw[<-hu];exact(Below.refl _ _).alloc (le_refl _) _
 have su:S<u.heap.size:=by rw[<-hu,<-hS];simp
 have cu:u.cell? ⟨S,0,none⟩=some (.int .i64 m):=by rw[<-hu,<-hS];exact cell_new w _ _ 0
 have ix:=indexR_any 316 #[.pointer (some ⟨S,0,none⟩)] (fun x=>decide (x.1=(m:Int))) a cap (lvs ls) u (h.below bu) (by rw[lvs_len];omega) (enters_of Tryz.func316 (by kernel_rfl) rfl)
  (fun x r t W _ hW _=>ofFn_any S m x.1 r x.2.length t W (by have:=hW.size;omega) ((hW.cell (p:=⟨S,0,none⟩) su).trans cu))
 rw[lvs_find ls (ofLv m) (fun x=>decide (x.1=(m:Int))) (fun d=>by
  unfold ofLv;by_cases c:lv d=m
  ·simp[c]
  ·simp[c];omega),lvs_len,hn] at ix
 have BU:Aside (Below w.heap.size w u):=bu;have HN:Hid _:=hn;have hmf:∀(fn:Fn)(first cap:Array Value)(w:World),(Instr.makeFunc fn first cap).run Tryz.prog w=.ok (.func fn first cap) w:=fun _ _ _ _=>rfl;clear hu bu cu h hn;go_enter Tryz.func310,Tryz.ntmps310
 go_wp2_with fail
 rw[HU.out];refine ix.mono ?_;rintro r w1 ⟨z,rfl,fi,b1⟩;have FI:Aside (FirstAt ls (ofLv m) z):=by show(_\/_);rw[HN.out];exact fi
 have B1:Aside (Below w.heap.size w w1):=BU.out.trans (b1.mono BU.out.size);clear ix fi b1
 go_wp2
 go_ret;exact⟨z,rfl,FI.out,B1.out⟩
theorem firstBelow_any(a:Option Addr)(n cap m:Nat)(ls:List (List Ent))(w:World)(h:RawB w a (lvs ls))(hn:ls.length=n)(hl:n<=100000) :
  Calls Tryz.prog 311 #[.slice a n cap,.int .i64 m] w fun r w'=>r=.returned (.int .i64 (ls.findIdx (belowLv m):Nat))/\Below w.heap.size w w':=by
 obtain⟨S,hS⟩:∃S,w.heap.size=S:=⟨_,rfl⟩;obtain⟨u,hu⟩:∃u,w.alloc (.cells #[.int .i64 m] 3)=u:=⟨_,rfl⟩;have HU:Hid _:=hu;have bu:Below w.heap.size w u:=by rw[<-hu];exact(Below.refl _ _).alloc (le_refl _) _
 have su:S<u.heap.size:=by rw[<-hu,<-hS];simp
 have cu:u.cell? ⟨S,0,none⟩=some (.int .i64 m):=by rw[<-hu,<-hS];exact cell_new w _ _ 0
 have ix:=indexR_any 317 #[.pointer (some ⟨S,0,none⟩)] (fun x=>decide (x.1<(m:Int))) a cap (lvs ls) u (h.below bu) (by rw[lvs_len];omega) (enters_of Tryz.func317 (by kernel_rfl) rfl)
  (fun x r t W _ hW _=>belowFn_any S m x.1 r x.2.length t W (by have:=hW.size;omega) ((hW.cell (p:=⟨S,0,none⟩) su).trans cu))
 rw[lvs_find ls (belowLv m) (fun x=>decide (x.1<(m:Int))) (fun d=>by
  unfold belowLv;by_cases c:lv d<m
  ·simp[c]
  ·simp[c]),lvs_len,hn] at ix
 obtain⟨K,hK⟩:∃K,ls.findIdx (belowLv m)=K:=⟨_,rfl⟩;rw[hK] at ix⊢;have BU:Aside (Below w.heap.size w u):=bu;have hmf:∀(fn:Fn)(first cap:Array Value)(w:World),(Instr.makeFunc fn first cap).run Tryz.prog w=.ok (.func fn first cap) w:=fun _ _ _ _=>rfl;clear hu bu cu h hn hK;go_enter Tryz.func311,Tryz.ntmps311
 go_wp2_with fail
 rw[HU.out];refine ix.mono ?_;rintro r w1 ⟨z,rfl,fi,b1⟩;have B1:Aside (Below w.heap.size w w1):=BU.out.trans (b1.mono BU.out.size);clear ix b1;rcases fi with⟨rfl,rfl⟩|⟨hk,rfl⟩
 ·go_wp2
  go_ret;exact⟨rfl,B1.out⟩
 ·have k0:¬(K:Int)<0:=by omega
  go_wp2
  go_ret;exact⟨rfl,B1.out⟩
theorem RowB.box{w:World}{base n cap S:Nat}{a:Option Addr}{bs:List Bk}{x y:Value}(h:RowB 290 w base (.slice a n cap) bs)(hS:w.heap[S]?=some (.cells #[x,y] 290 (0,0)))(ha:a≠some ⟨S,0,none⟩)(x' y':Value) :
  RowB 290 ((w.setCell ⟨S,0,none⟩ x').setCell ⟨S,1,none⟩ y') base (.slice a n cap) bs:=by
 have g:w.grownBy ((w.setCell ⟨S,0,none⟩ x').setCell ⟨S,1,none⟩ y') (some S):=grown_trans (grown_set w S 0 _) (grown_set _ S 1 _)
 have kp:Kept (fun T=>T=290) w ((w.setCell ⟨S,0,none⟩ x').setCell ⟨S,1,none⟩ y'):=
  (Kept.set (S:=fun T=>T=290) hS rfl x').trans (Kept.set (S:=fun T=>T=290) (shr_set0 hS x') rfl y')
 refine⟨h.row.kept g ?_,fun b hb=>kp.own (by decide) (h.own b hb)⟩;rcases h.row.2 with⟨e,_⟩|⟨g',cap',cur,e,_⟩
 ·rw[e];exact .inl rfl
 ·rw[e];injection e with e1
  refine .inr fun c=>ha ?_;simp only[Value.ownBlock,Option.some.injEq] at c;rw[e1,c]
theorem kept_box{w:World}{S:Nat}{x y:Value}(hS:w.heap[S]?=some (.cells #[x,y] 290 (0,0)))(x' y':Value):Kept (fun T=>T=290) w ((w.setCell ⟨S,0,none⟩ x').setCell ⟨S,1,none⟩ y'):=
 (Kept.set (S:=fun T=>T=290) hS rfl x').trans (Kept.set (S:=fun T=>T=290) (shr_set0 hS x') rfl y')
structure LaidInv(w:World)(base S:Nat)(T:List (List Ent))(Z:Nat)(a:Option Addr)(n cap:Nat)(bs:List Bk)(d:List Ent)(p:Option Addr)(q:Nat)(wr:World):Prop where
 len:bs.length=n
 row:RowB 290 wr base (.slice a n cap) bs
 box:wr.heap[S]?=some (.cells #[.int .i64 (lv d),.slice p d.length q] 290 (0,0))
 own:OwnE wr base (.slice p d.length q) d
 ne:a≠some ⟨S,0,none⟩
 tgt:laidS (bs.map Bk.d) d=T
 sum:(bs.map Bk.d).flatten.length+d.length=Z
 grew:w.grownBy wr (Value.slice a n cap).ownBlock
theorem LaidInv.on{w:World}{base S:Nat}{T:List (List Ent)}{Z n cap:Nat}{a:Option Addr}{bs:List Bk}{d:List Ent}{p:Option Addr}{q:Nat}{wr v:World}(h:LaidInv w base S T Z a n cap bs d p q wr)(hv:Below wr.heap.size wr v):LaidInv w base S T Z a n cap bs d p q v:=
 ⟨h.len,h.row.below hv,(hv.block S (lt_of_block h.box)).trans h.box,h.own.below hv,h.ne,h.tgt,h.sum,grown_trans h.grew (grown_of_below hv _)⟩
theorem map_erase(bs:List Bk)(j:Nat):(bs.eraseIdx j).map Bk.d=(bs.map Bk.d).eraseIdx j:=by rw[List.eraseIdx_eq_take_drop_succ,List.eraseIdx_eq_take_drop_succ,List.map_append,List.map_take,List.map_drop]
theorem ownB_slice(a:Option Addr)(n n' c c':Nat):(Value.slice a n c).ownBlock=(Value.slice a n' c').ownBlock:=by cases a<;>rfl
theorem LaidInv.merge{w:World}{base S:Nat}{T:List (List Ent)}{Z n cap:Nat}{a:Option Addr}{bs:List Bk}{d E:List Ent}{p r2:Option Addr}{q t2 j:Nat}{w2 W3 w4:World}(h:LaidInv w base S T Z a n cap bs d p q w2)(hS:w.heap.size<=S)(hj:j<bs.length)(hf:(bs.map Bk.d).findIdx (ofLv (lv d))=j)(he:sortE (bs[j].d++d)=E)
  (hW:W3=(w2.setCell ⟨S,0,none⟩ (.int .i64 (lv E))).setCell ⟨S,1,none⟩ (.slice r2 E.length t2)) (oE:OwnE w2 base (.slice r2 E.length t2) E) (t:TurnsB W3 base (.slice a n cap) (.slice a (n-1) cap) (bs.eraseIdx j) w4) :
  LaidInv w base S T Z a (n-1) cap (bs.eraseIdx j) E r2 t2 w4:=by
 have b3:W3.heap[S]?=some (.cells #[.int .i64 (lv E),.slice r2 E.length t2] 290 (0,0)):=by rw[hW];exact shr_set1 (shr_set0 h.box _) _
 have kb:=kept_box h.box (.int .i64 (lv E)) (.slice r2 E.length t2);rw[<-hW] at kb;have r3:=h.row.box h.box h.ne (.int .i64 (lv E)) (.slice r2 E.length t2);rw[<-hW] at r3;have g3:w2.grownBy W3 (some S):=by rw[hW];exact grown_trans (grown_set w2 S 0 _) (grown_set _ S 1 _)
 have hr:=r3.row
 have neS:some S≠(Value.slice a n cap).ownBlock:=by
  intro e;rcases hr.2 with⟨h1,h0⟩|⟨g,cap',cur,h1,_⟩
  ·rw[h1] at e;simp[Value.ownBlock] at e
  ·rw[h1] at e;simp only[Value.ownBlock,Option.some.injEq] at e;injection h1 with e1
   exact h.ne (by rw[e1,e])
 have kt:Kept (fun T=>T=290) W3 w4:=kept_grown rfl hr t.2;refine⟨by rw[List.length_eraseIdx,if_pos hj,h.len],t.1,(t.2.block S (lt_of_block b3) neS).trans b3,kt.own (by decide) (kb.own (by decide) oE),h.ne,?_,?_,?_⟩
 ·rw[<-h.tgt,map_erase,laidS_step (ls:=bs.map Bk.d) (by simpa using hj) hf,<-he];simp
 ·rw[<-h.sum,<-he,sortE_len,length_append,map_erase];have:=flat_split (ls:=bs.map Bk.d) (k:=j) (by simpa using hj);rw[this.length_eq,length_append];simp;omega
 ·rw[ownB_slice a (n-1) n cap cap];refine⟨t.2.os.trans (g3.os.trans h.grew.os),t.2.tape.trans (g3.tape.trans h.grew.tape),t.2.output.trans (g3.output.trans h.grew.output),le_trans h.grew.size (le_trans g3.size t.2.size),fun k hk hne=>?_⟩;have k2:=h.grew.size;have k3:=g3.size;exact(t.2.block k (by omega) hne).trans ((g3.block k (by omega) (fun e=>by injection e with e;omega)).trans (h.grew.block k hk hne))
def LaidIs(w:World)(base:Nat)(v0:Value)(T:List (List Ent))(r:Ending)(w':World):Prop:=∃a n cap,r=.returned (.slice a n cap)/\Bls w' base a n cap T/\w.grownBy w' v0.ownBlock
theorem LaidInv.done{w:World}{base S:Nat}{T:List (List Ent)}{Z n cap:Nat}{a:Option Addr}{bs:List Bk}{d:List Ent}{p a8:Option Addr}{q c8:Nat}{wr w8:World}(h:LaidInv w base S T Z a n cap bs d p q wr)(hf:(bs.map Bk.d).findIdx (ofLv (lv d))=(bs.map Bk.d).length)(t:TurnsB wr base (.slice a n cap) (.slice a8 (n+1) c8) (bs.take ((bs.map Bk.d).findIdx (belowLv (lv d)))++(⟨d,p,q⟩:Bk)::bs.drop ((bs.map Bk.d).findIdx (belowLv (lv d)))) w8) :
  Bls w8 base a8 (n+1) c8 T/\w.grownBy w8 (Value.slice a n cap).ownBlock:=by
 have hk:=List.findIdx_le_length (xs:=bs.map Bk.d) (p:=belowLv (lv d));rw[length_map] at hk;refine⟨⟨_,?_,?_,t.1⟩,grown_trans h.grew t.2⟩
 ·rw[<-h.tgt,laidS_end hf];unfold putIn;rw[List.map_append,List.map_cons,List.map_take,List.map_drop]
 ·rw[length_append,List.length_cons,List.length_take,List.length_drop,<-h.len];omega
theorem LaidInv.count{w:World}{base S:Nat}{T:List (List Ent)}{Z n cap:Nat}{a:Option Addr}{bs:List Bk}{d:List Ent}{p:Option Addr}{q:Nat}{wr:World}(h:LaidInv w base S T Z a n cap bs d p q wr){j:Nat}(hj:j<bs.length):bs[j].d.length+d.length<=Z:=by
 have:=(flat_split (ls:=bs.map Bk.d) (k:=j) (by simpa using hj)).length_eq;rw[length_append] at this;simp only[List.getElem_map] at this;have:=h.sum;omega
theorem row_apart{w:World}{base n cap S:Nat}{a:Option Addr}{bs:List Bk}(h:RowB 290 w base (.slice a n cap) bs)(hS:w.heap.size<=S):a≠some ⟨S,0,none⟩:=by
 intro e;subst e;have:=World.ownsRow.lt h.row S rfl;omega
end
section
section
variable {P:Program}{ops:Array Oper}{Q:Exit->Act->World->Prop}{md:Region.Mode}{S:World->Prop}{L:Nat}
theorem anyE_t{i:Nat}{oi:Oper}{v:Value}{f:Nat}{lst:Array Bool}{a:Act}{w:World}(hi:ops[i]?=some oi)(hh:(Region.noSelect ops&&Region.waitsFor md ops L i&&Region.free md ops lst i&&(Region.ready md ops lst).contains i)=true)
  (hQ:∀c a w,Q (.panic c) (a.put oi.dst v) w->Q (.panic c) a w) (hy:YieldsIf P ops S oi v a) (hS:S w) (h:wpAnyE P md ops Q S L f (lst.setIfInBounds i true) (a.put oi.dst v) w):wpAnyE P md ops Q S L (f+1) lst a w:=by
 simp only[Bool.and_eq_true] at hh;exact anyE_take hi hh.1.1.1 hh.1.1.2 hh.1.2 hh.2 hQ hy hS h
end
end
section
open Go.RowKit Go.Lib Go.Sort
theorem laid_any(a:Option Addr)(n0 cap base:Nat)(ls:List (List Ent))(d0:List Ent)(p0:Option Addr)(K0 M0 q0:Nat)(w:World)(h:Bls w base a n0 cap ls)(ho:OwnE w base (.slice p0 K0 q0) d0)(hK0:d0.length=K0)(hM0:lv d0=M0)(hlen:n0<=10000)(hsum:ls.flatten.length+K0<=100000)(hbase:base<=w.heap.size) :
  Calls Tryz.prog 301 #[.slice a n0 cap,.agg #[.int .i64 M0,.slice p0 K0 q0]] w (LaidIs w base (.slice a n0 cap) (laidS ls d0)):=by
 obtain⟨S,hS⟩:∃S,w.heap.size=S:=⟨_,rfl⟩;obtain⟨T,hT⟩:∃T,laidS ls d0=T:=⟨_,rfl⟩;rw[hT];obtain⟨Z,hZ⟩:∃Z,ls.flatten.length+K0=Z:=⟨_,rfl⟩;rw[hZ] at hsum;obtain⟨bs0,hb1,hb2,hb3⟩:=h;obtain⟨u,hu⟩:∃u,w.alloc (.cells #[.int .i64 M0,.slice p0 K0 q0] 290)=u:=⟨_,rfl⟩;have HU:Hid _:=hu;have bu:Below w.heap.size w u:=by rw[<-hu];exact(Below.refl _ _).alloc (le_refl _) _
 have inv:LaidInv w base S T Z a n0 cap bs0 d0 p0 q0 u:=by
  refine⟨hb2,hb3.below bu,by rw[hK0,hM0,<-hu,<-hS];exact heap_alloc_new w _,by rw[hK0];exact ho.below bu,row_apart hb3 (by omega),by rw[hb1];exact hT,by rw[hb1,hK0];exact hZ,grown_of_below bu _⟩
 have INV:Aside (LaidInv w base S T Z a n0 cap bs0 d0 p0 q0 u):=inv;have y0:=shr0 inv.box;rw[hM0] at y0;have fo:=firstOf_any a n0 cap M0 (bs0.map Bk.d) u inv.row.raw (by rw[length_map];exact hb2) (by omega);have HM0:Hid (lv d0=M0):=hM0;clear hT hZ hb1 hb2 hb3 hu bu inv ho hK0 hM0;go_enter Tryz.func301,Tryz.ntmps301
 go_wp2_with fail
 rw[HU.out];refine fo.mono ?_;rintro r w1 ⟨z0,rfl,fi0,b1⟩;have I1:Aside (LaidInv w base S T Z a n0 cap bs0 d0 p0 q0 w1):=INV.out.on b1;have F1:Aside (FirstAt (bs0.map Bk.d) (ofLv (lv d0)) z0):=by rw[HM0.out];exact fi0
 clear INV fi0 b1 fo y0 HM0 HU
 go_wp2_with fail
 go_loopg [0,5] n0 (fun kx s0 s5 wr=>∃(n:Nat)(z:Int)(bs:List Bk)(d:List Ent)(p:Option Addr)(q:Nat),s0=.slice a n cap/\s5=.int .i64 z/\n<=kx/\n<=n0/\Aside (FirstAt (bs.map Bk.d) (ofLv (lv d)) z)/\Aside (LaidInv w base S T Z a n cap bs d p q wr))
 case atStart=>exact⟨n0,z0,bs0,d0,p0,q0,rfl,rfl,le_refl _,le_refl _,F1,I1⟩
 case round=>
  clear F1 I1;obtain⟨n,z,bs,d,p,q,rfl,rfl,hkx,hnn,FA,I⟩:=hrel;obtain⟨m,hm⟩:∃m,lv d=m:=⟨_,rfl⟩;obtain⟨K,hK⟩:∃m,d.length=m:=⟨_,rfl⟩;have HM:Hid _:=hm;have HK:Hid _:=hK;clear hm hK;have y0:=shr0 I.out.box;have y1:=shr1 I.out.box;rw[HM.out] at y0;rw[HK.out] at y1;have sS:S<wr.heap.size:=lt_of_block I.out.box;rcases FA.out with⟨rfl,hno⟩|⟨hlt,rfl⟩
  ·have hz:¬(0:Int)<=-1:=by omega
   have HNO:Hid _:=hno;obtain⟨R9,hR9⟩:∃R,wr.heap.size=R:=⟨_,rfl⟩;have hb0:Below wr.heap.size wr wr:=Below.refl _ _;have hb1:Below wr.heap.size wr wr.drew:=hb0.drew;have FB:Aside (∀W,Below wr.heap.size wr W->Calls Tryz.prog 311 #[.slice a n cap,.int .i64 m] W fun r w'=>r=.returned (.int .i64 ((bs.map Bk.d).findIdx (belowLv m):Nat))/\Below W.heap.size W w'):=fun W hW=>firstBelow_any a n cap m (bs.map Bk.d) W (I.out.row.raw.below hW) (by rw[length_map];exact I.out.len) (by omega);have KC:Aside (∀W,Below wr.heap.size wr W->W.cell? ⟨S,0,none⟩=some (.int .i64 m)/\W.cell? ⟨S,1,none⟩=some (.slice p K q)):=fun W hW=>⟨(hW.cell (p:=⟨S,0,none⟩) sS).trans y0,(hW.cell (p:=⟨S,1,none⟩) sS).trans y1⟩;have ki:=List.findIdx_le_length (xs:=bs.map Bk.d) (p:=belowLv m);rw[length_map,I.out.len] at ki
   have INS:Aside (∀W G,Below wr.heap.size wr W->wr.heap.size<=G->W.heap[G]?=some (.cells #[.int .i64 m,.slice p K q] 290 (0,0))->Calls Tryz.prog 260 #[.slice a n cap,.int .i64 ((bs.map Bk.d).findIdx (belowLv m):Nat),.slice (some ⟨G,0,none⟩) 1 1] W (fun r w'=>LaidIs w base (.slice a n0 cap) T r w'/\w'.cell? ⟨S,0,none⟩=W.cell? ⟨S,0,none⟩/\w'.cell? ⟨S,1,none⟩=W.cell? ⟨S,1,none⟩)):=fun W G hW hG hc=>by
    have i2:=I.out.on hW;have:=insS_any a n cap ((bs.map Bk.d).findIdx (belowLv m)) base G bs ⟨d,p,q⟩ W i2.row i2.len ki i2.own (by rw[HM.out,HK.out];exact hc) (row_apart I.out.row hG) (by omega) (le_trans hbase i2.grew.size);refine this.mono ?_;rintro r w' ⟨a',cap',rfl,t⟩;rw[<-HM.out] at t;have fin:=i2.done HNO.out t
    have hS8:w'.heap[S]?=W.heap[S]?:=t.2.block S (lt_of_block i2.box) (fun e=>by
     rcases i2.row.row.2 with⟨h1,h0⟩|⟨g,cap',cur,h1,_⟩
     ·rw[h1] at e;simp[Value.ownBlock] at e
     ·rw[h1] at e;simp only[Value.ownBlock,Option.some.injEq] at e;injection h1 with e1
      exact i2.ne (by rw[e1,e]))
    exact⟨⟨a',n+1,cap',rfl,fin.1,by rw[ownB_slice a n0 n cap cap];exact fin.2⟩,World.cell?_of_block (a:=⟨S,0,none⟩) hS8,World.cell?_of_block (a:=⟨S,1,none⟩) hS8⟩
   obtain⟨Q,hQ⟩:∃Q,(bs.map Bk.d).findIdx (belowLv m)=Q:=⟨_,rfl⟩;rw[hQ] at FB INS ki;have hbB:Below wr.heap.size wr (wr.alloc (.cells #[.int .i64 m,.slice p K q] 290)).drew:=(hb0.alloc (le_refl _) _).drew;have gB:(wr.alloc (.cells #[.int .i64 m,.slice p K q] 290)).drew.heap[R9]?=some (.cells #[.int .i64 m,.slice p K q] 290 (0,0)):=by rw[<-hR9];exact heap_alloc_new wr _
   clear hQ hno FA y0 y1;have mx:=mixed
   go_wp2_with fail
   go_region_held3 (fun v=>v.cell? ⟨S,0,none⟩=some (.int .i64 m)/\v.cell? ⟨S,1,none⟩=some (.slice p K q)) (first|with_reducible exact KC.out _ hb1|with_reducible exact KC.out _ hbB|with_reducible exact KC.out _ hb8|with_reducible exact KC.out _ hb9|exact⟨k0.trans (KC.out _ hbI).1,k1.trans (KC.out _ hbI).2⟩)
    ((first
     | (go_at_call 260;(first|((with_reducible refine Calls.mono (INS.out _ R8 hb9 sz8 hg9) ?_);rintro r w10 ⟨⟨a8,n8,c8,rfl,l8,g8⟩,k0,k1⟩;have hbI:=hb9)|((with_reducible refine Calls.mono (INS.out _ R9 hb8 sz9 hg8) ?_);rintro r w10 ⟨⟨a8,n8,c8,rfl,l8,g8⟩,k0,k1⟩;have hbI:=hb8)))
     | (go_at_call 311;(first
      | ((with_reducible refine Calls.mono (FB.out _ hb1) ?_);rintro r w8 ⟨rfl,d8⟩;have hb8:Below wr.heap.size wr w8:=hb1.trans (d8.mono hb1.size);obtain⟨R8,hR8⟩:∃R,w8.heap.size=R:=⟨_,rfl⟩;have hb9:Below wr.heap.size wr (w8.alloc (.cells #[.int .i64 m,.slice p K q] 290)):=hb8.alloc hb8.size _;have sz8:wr.heap.size<=R8:=(by rw[<-hR8];exact hb8.size);have hg9:(w8.alloc (.cells #[.int .i64 m,.slice p K q] 290)).heap[R8]?=some (.cells #[.int .i64 m,.slice p K q] 290 (0,0)):=(by rw[<-hR8];exact heap_alloc_new w8 _))
      | ((with_reducible refine Calls.mono (FB.out _ hbB) ?_);rintro r w8 ⟨rfl,d8⟩;have hb8:Below wr.heap.size wr w8:=hbB.trans (d8.mono hbB.size);have sz9:wr.heap.size<=R9:=(by omega);have hg8:w8.heap[R9]?=some (.cells #[.int .i64 m,.slice p K q] 290 (0,0)):=(d8.block R9 (lt_of_block gB)).trans gB)))))
   all_goals (go_wp2;go_ret;exact⟨a8,n8,c8,rfl,l8,g8⟩)
  ·obtain⟨j,hj⟩:∃j,(bs.map Bk.d).findIdx (ofLv (lv d))=j:=⟨_,rfl⟩;rw[hj] at hlt⊢;rw[length_map] at hlt;have HJ:Hid _:=hj;have hz:(0:Int)<=(j:Int):=by omega
   have jn:j<n:=by rw[<-I.out.len];exact hlt
   have jn2:(j:Int)<(n:Int):=by omega
   obtain⟨g,ha,hbg,hgs,c0,c1⟩:=I.out.row.at hlt;have HA:Hid (a=some ⟨g,0,none⟩):=ha;have gS:g≠S:=fun e=>I.out.ne (by rw[ha,e]);have cn:=I.out.count hlt;have mg:=mergeB_any (lv bs[j].d) m bs[j].p p bs[j].q q bs[j].d d wr.drew ((I.out.row.own _ (List.getElem_mem hlt)).is.below ((Below.refl _ _).drew)) (I.out.own.is.below ((Below.refl _ _).drew)) (by omega);obtain⟨x,hx⟩:∃x,bs[j]=x:=⟨_,rfl⟩;have HX:Hid _:=hx;rw[hx] at c0 c1 mg;obtain⟨mi,hmi⟩:∃m,lv x.d=m:=⟨_,rfl⟩;obtain⟨ki,hki⟩:∃m,x.d.length=m:=⟨_,rfl⟩;obtain⟨xp,hxp⟩:∃m,x.p=m:=⟨_,rfl⟩;obtain⟨xq,hxq⟩:∃m,x.q=m:=⟨_,rfl⟩;obtain⟨E,hE⟩:∃E,sortE (x.d++d)=E:=⟨_,rfl⟩;have HE:Hid _:=hE;rw[hmi] at c0 mg;rw[hki,hxp,hxq] at c1 mg;rw[HK.out,hE] at mg;obtain⟨KE,hKE⟩:∃E',E.length=E':=⟨_,rfl⟩;obtain⟨ME,hME⟩:∃E',lv E=E':=⟨_,rfl⟩;have HKE:Hid _:=hKE;have HME:Hid _:=hME;have MG:Aside (Calls Tryz.prog 259 #[.agg #[.int .i64 mi,.slice xp ki xq],.agg #[.int .i64 m,.slice p K q]] wr.drew (MadeB wr.drew E)):=mg;have hb1:Below wr.heap.size wr wr.drew:=(Below.refl _ _).drew;have KC:Aside (∀W,Below wr.heap.size wr W->W.cell? ⟨g,j*2,none⟩=some (.int .i64 mi)/\W.cell? ⟨g,j*2+1,none⟩=some (.slice xp ki xq)/\W.cell? ⟨S,0,none⟩=some (.int .i64 m)/\W.cell? ⟨S,1,none⟩=some (.slice p K q)):=fun W hW=>⟨(hW.cell (p:=⟨g,j*2,none⟩) hgs).trans c0,(hW.cell (p:=⟨g,j*2+1,none⟩) hgs).trans c1,(hW.cell (p:=⟨S,0,none⟩) sS).trans y0,(hW.cell (p:=⟨S,1,none⟩) sS).trans y1⟩;have BX:Aside (wr.heap[S]?=some (.cells #[.int .i64 m,.slice p K q] 290 (0,0))):=by have:=I.out.box;rw[HM.out,HK.out] at this;exact this
   subst ha;have mx:=mixed;clear hx hmi hki hxp hxq hE hKE hME mg c0 c1 cn hj FA
   go_wp2_with fail
   refine anyE_start (S:=(fun v=>v.cell? ⟨g,j*2,none⟩=some (.int .i64 mi)/\v.cell? ⟨g,j*2+1,none⟩=some (.slice xp ki xq)/\v.cell? ⟨S,0,none⟩=some (.int .i64 m)/\v.cell? ⟨S,1,none⟩=some (.slice p K q))) (L:=6) (by kernel_rfl) ?_;refine anyE_u (i:=0) (KC.out _ hb1) rfl (by kernel_rfl) (fun w z=>by go_simp<;>rfl) (fun _ _ _ h=>h) ?_;refine anyE_u (i:=1) (KC.out _ hb1) rfl (by kernel_rfl) (fun w z=>by go_simp<;>rfl) (fun _ _ _ h=>h) ?_;refine anyE_u (i:=2) (KC.out _ hb1) rfl (by kernel_rfl) (fun w z=>by go_simp<;>rfl) (fun _ _ _ h=>h) ?_;refine anyE_u (i:=3) (KC.out _ hb1) rfl (by kernel_rfl) (fun w z=>by go_simp<;>rfl) (fun _ _ _ h=>h) ?_;refine anyE_u (i:=4) (KC.out _ hb1) rfl (by kernel_rfl) (fun w z=>by go_simp<;>rfl) (fun _ _ _ h=>h) ?_;simp only[Act.put,sA,sB,sC];refine anyE_ready (rs:=[5]) (by kernel_rfl) (by simp) ?_;refine AllE.cons (o:={dst:=some 21,op:=Op.call {callee:=Callee.value (Operand.func 259),args:=#[Operand.tmp 19,Operand.tmp 20],argTypes:=#[290,290]},type:=290,pos:= "shared.go:69",after:=#[⟨3,.data⟩,⟨4,.data⟩],guard:=none}) rfl (fun Kt hKt=>?_) ?_
   ·go_simp
    (with_reducible refine Calls.mono MG.out ?_)
    rintro r w2 ⟨r2,t2,rfl,o2,d2⟩;have hb2:Below wr.heap.size wr w2:=hb1.trans (d2.mono hb1.size);rw[show lvl E.length=ME from HME.out,HKE.out]
    go_wp2_with fail
    refine hKt.out _ _ (fun _=>KC.out _ hb2) ?_;clear hKt Kt;try simp only[Act.put,sA,sB,sC]
    refine anyE_ready (rs:=[6]) (by kernel_rfl) (by simp) ?_;refine AllE.cons rfl (fun Kt hKt=>?_) ?_
    ·have z0:=shr0 ((hb2.block S sS).trans BX.out);have z1:=shr1 ((hb2.block S sS).trans BX.out);have zf0:=shrf ((hb2.block S sS).trans BX.out) 0;have zf1:=shrf ((hb2.block S sS).trans BX.out) 1;go_simp
     refine hKt.out _ _ (fun h=>absurd rfl h) ?_;clear hKt Kt;try simp only[Act.put,sA,sB,sC]
     refine anyE_done (by kernel_rfl) ?_ _;obtain⟨W3,hW3⟩:∃W,(w2.setCell ⟨S,0,none⟩ (.int .i64 ME)).setCell ⟨S,1,none⟩ (.slice r2 KE t2)=W:=⟨_,rfl⟩;have HW3:Hid _:=hW3;have I2:Aside (LaidInv w base S T Z (some ⟨g,0,none⟩) n cap bs d p q w2):=I.out.on hb2;have O2:Aside (OwnE w2 base (.slice r2 E.length t2) E):=o2.low (le_trans hbase I.out.grew.size);have r3:=I2.out.row.box I2.out.box I2.out.ne (.int .i64 ME) (.slice r2 KE t2);rw[hW3] at r3;have dl:=delete_any (some ⟨g,0,none⟩) n cap j base bs W3 r3 I2.out.len jn;obtain⟨n1,hn1⟩:∃n1,n-1=n1:=⟨_,rfl⟩;have HN1:Hid _:=hn1;rw[hn1] at dl;clear r3 hW3 o2 d2 hb2 hn1 y0 y1 hb1 MG KC BX;rw[HW3.out]
     go_wp2_with fail
     refine dl.mono ?_;rintro r w4 ⟨rfl,t4⟩;rw[<-HN1.out] at t4;have I4:=I2.out.merge (by omega) hlt HJ.out (by rw[HX.out];exact HE.out) (by rw[HME.out,HKE.out];exact HW3.out.symm) O2.out t4;rw[HN1.out] at I4;have y4:=shr0 I4.box;rw[HME.out] at y4;have fo:=firstOf_any (some ⟨g,0,none⟩) n1 cap ME ((bs.eraseIdx j).map Bk.d) w4 I4.row.raw (by rw[length_map];exact I4.len) (by have:=HN1.out;omega);have A4:Aside (LaidInv w base S T Z (some ⟨g,0,none⟩) n1 cap (bs.eraseIdx j) E r2 t2 w4):=I4;clear I4 t4 dl I2 O2 I
     go_wp2_with fail
     refine fo.mono ?_;rintro r w5 ⟨z5,rfl,fi5,b5⟩;have I5:Aside (LaidInv w base S T Z (some ⟨g,0,none⟩) n1 cap (bs.eraseIdx j) E r2 t2 w5):=A4.out.on b5;have F5:Aside (FirstAt ((bs.eraseIdx j).map Bk.d) (ofLv (lv E)) z5):=by rw[HME.out];exact fi5
     clear fi5 b5 fo A4
     go_wp2
     go_roundg n1
     case measure=>have:=HN1.out;omega
     case rel=>exact⟨n1,z5,_,E,r2,t2,rfl,rfl,le_refl _,by have:=HN1.out;omega,F5,I5⟩
    exact AllE.nil
   exact AllE.nil
end
end Go.Proofs.YthpgfmmpjoodkaaGreatDoor.Qu
