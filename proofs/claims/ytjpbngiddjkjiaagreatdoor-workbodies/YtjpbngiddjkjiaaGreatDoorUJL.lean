import Derived.Test.YtjpbngiddjkjiaaGreatDoorAnyF
import Derived.Test.YtjpbngiddjkjiaaGreatDoorA0
import Derived.Test.YtjpbngiddjkjiaaGreatDoorUJJ
import Derived.StillTail
open Go.Proofs.Tryz
open List(getElem_mem length_append length_map length_set set_cons_succ)
open Nat(le_refl le_trans)
namespace Go.Proofs.YtjpbngiddjkjiaaGreatDoor.Qu
set_option linter.unusedSimpArgs false
set_option maxHeartbeats 8000000
set_option maxRecDepth 100000
set_option linter.unusedVariables false
section
open Go.RowKit Go.Lib Go.Sort
theorem ofFn_any(S:Nat)(m i:Int)(a:Option Addr)(n cap:Nat)(W:World)(hS:S<W.heap.size)(c0:W.cell? ⟨S,0,none⟩=some (.int .i64 m)) :
  Calls prog 258 #[.agg #[.int .i64 i,.slice a n cap],.pointer (some ⟨S,0,none⟩)] W fun e w'=>e=.returned (.bool (decide (i=m)))/\Below W.heap.size W w':=by
 have e:decide (i=m)=(i==m):=by by_cases h:i=m<;>simp[h]
 rw[e];have c1:(W.alloc (.cells #[.int .i64 i,.slice a n cap] 223)).cell? ⟨S,0,none⟩=some (.int .i64 m):=(cell_old W _ 0 hS).trans c0;have hS2:¬S=W.heap.size:=by omega
 go_enter func258,ntmps258
 go_wp2
 go_ret;exact⟨rfl,(Below.refl _ _).alloc (le_refl _) _⟩
theorem belowFn_any(S:Nat)(m i:Int)(a:Option Addr)(n cap:Nat)(W:World)(hS:S<W.heap.size)(c0:W.cell? ⟨S,0,none⟩=some (.int .i64 m)) :
  Calls prog 259 #[.agg #[.int .i64 i,.slice a n cap],.pointer (some ⟨S,0,none⟩)] W fun e w'=>e=.returned (.bool (decide (i<m)))/\Below W.heap.size W w':=by
 have c1:(W.alloc (.cells #[.int .i64 i,.slice a n cap] 223)).cell? ⟨S,0,none⟩=some (.int .i64 m):=(cell_old W _ 0 hS).trans c0;have hS2:¬S=W.heap.size:=by omega
 go_enter func259,ntmps259
 go_wp2
 go_ret;exact⟨rfl,(Below.refl _ _).alloc (le_refl _) _⟩
def FirstAt(ls:List (List Ent))(p:List Ent->Bool)(z:Int):Prop:=(z = -1/\ls.findIdx p=ls.length)\/(ls.findIdx p<ls.length/\z=(ls.findIdx p:Nat))
theorem firstOf_any(a:Option Addr)(n cap m:Nat)(ls:List (List Ent))(w:World)(h:RawB w a (lvs ls))(hn:ls.length=n)(hl:n<=100000) :
  Calls prog 241 #[.slice a n cap,.int .i64 m] w fun r w'=>∃z:Int,r=.returned (.int .i64 z)/\FirstAt ls (ofLv m) z/\Below w.heap.size w w':=by
 obtain⟨S,hS⟩:∃S,w.heap.size=S:=⟨_,rfl⟩;obtain⟨u,hu⟩:∃u,w.alloc (.cells #[.int .i64 m] 3)=u:=⟨_,rfl⟩;have HU:Hid _:=hu;have bu:Below w.heap.size w u:=by rw[<-hu];exact(Below.refl _ _).alloc (le_refl _) _
 have su:S<u.heap.size:=by rw[<-hu,<-hS];simp
 have cu:u.cell? ⟨S,0,none⟩=some (.int .i64 m):=by rw[<-hu,<-hS];exact cell_new w _ _ 0
 have ix:=indexR_any 258 #[.pointer (some ⟨S,0,none⟩)] (fun x=>decide (x.1=(m:Int))) a cap (lvs ls) u (h.below bu) (by rw[lvs_len];omega) (enters_of func258 (by kernel_rfl) rfl)
  (fun x r t W _ hW _=>ofFn_any S m x.1 r x.2.length t W (by have:=hW.size;omega) ((hW.cell (p:=⟨S,0,none⟩) su).trans cu))
 rw[lvs_find ls (ofLv m) (fun x=>decide (x.1=(m:Int))) (fun d=>by
  unfold ofLv;by_cases c:lv d=m
  ·simp[c]
  ·simp[c];omega),lvs_len,hn] at ix
 have BU:Aside (Below w.heap.size w u):=bu;have HN:Hid _:=hn;have hmf:∀(fn:Fn)(first cap:Array Value)(w:World),(Instr.makeFunc fn first cap).run prog w=.ok (.func fn first cap) w:=fun _ _ _ _=>rfl;clear hu bu cu h hn;go_enter func241,ntmps241
 go_wp2_with fail
 rw[HU.out];refine ix.mono ?_;rintro r w1 ⟨z,rfl,fi,b1⟩;have FI:Aside (FirstAt ls (ofLv m) z):=by show(_\/_);rw[HN.out];exact fi
 have B1:Aside (Below w.heap.size w w1):=BU.out.trans (b1.mono BU.out.size);clear ix fi b1
 go_wp2
 go_ret;exact⟨z,rfl,FI.out,B1.out⟩
theorem firstBelow_any(a:Option Addr)(n cap m:Nat)(ls:List (List Ent))(w:World)(h:RawB w a (lvs ls))(hn:ls.length=n)(hl:n<=100000) :
  Calls prog 242 #[.slice a n cap,.int .i64 m] w fun r w'=>r=.returned (.int .i64 (ls.findIdx (belowLv m):Nat))/\Below w.heap.size w w':=by
 obtain⟨S,hS⟩:∃S,w.heap.size=S:=⟨_,rfl⟩;obtain⟨u,hu⟩:∃u,w.alloc (.cells #[.int .i64 m] 3)=u:=⟨_,rfl⟩;have HU:Hid _:=hu;have bu:Below w.heap.size w u:=by rw[<-hu];exact(Below.refl _ _).alloc (le_refl _) _
 have su:S<u.heap.size:=by rw[<-hu,<-hS];simp
 have cu:u.cell? ⟨S,0,none⟩=some (.int .i64 m):=by rw[<-hu,<-hS];exact cell_new w _ _ 0
 have ix:=indexR_any 259 #[.pointer (some ⟨S,0,none⟩)] (fun x=>decide (x.1<(m:Int))) a cap (lvs ls) u (h.below bu) (by rw[lvs_len];omega) (enters_of func259 (by kernel_rfl) rfl)
  (fun x r t W _ hW _=>belowFn_any S m x.1 r x.2.length t W (by have:=hW.size;omega) ((hW.cell (p:=⟨S,0,none⟩) su).trans cu))
 rw[lvs_find ls (belowLv m) (fun x=>decide (x.1<(m:Int))) (fun d=>by
  unfold belowLv;by_cases c:lv d<m
  ·simp[c]
  ·simp[c]),lvs_len,hn] at ix
 obtain⟨K,hK⟩:∃K,ls.findIdx (belowLv m)=K:=⟨_,rfl⟩;rw[hK] at ix⊢;have BU:Aside (Below w.heap.size w u):=bu;have hmf:∀(fn:Fn)(first cap:Array Value)(w:World),(Instr.makeFunc fn first cap).run prog w=.ok (.func fn first cap) w:=fun _ _ _ _=>rfl;clear hu bu cu h hn hK;go_enter func242,ntmps242
 go_wp2_with fail
 rw[HU.out];refine ix.mono ?_;rintro r w1 ⟨z,rfl,fi,b1⟩;have B1:Aside (Below w.heap.size w w1):=BU.out.trans (b1.mono BU.out.size);clear ix b1;rcases fi with⟨rfl,rfl⟩|⟨hk,rfl⟩
 ·go_wp2
  go_ret;exact⟨rfl,B1.out⟩
 ·have k0:¬(K:Int)<0:=by omega
  go_wp2
  go_ret;exact⟨rfl,B1.out⟩
theorem RowB.box{w:World}{base n cap S:Nat}{a:Option Addr}{bs:List Bk}{x y:Value}(h:RowB 223 w base (.slice a n cap) bs)(hS:w.heap[S]?=some (.cells #[x,y] 223 (0,0)))(ha:a≠some ⟨S,0,none⟩)(x' y':Value) :
  RowB 223 ((w.setCell ⟨S,0,none⟩ x').setCell ⟨S,1,none⟩ y') base (.slice a n cap) bs:=by
 have g:w.grownBy ((w.setCell ⟨S,0,none⟩ x').setCell ⟨S,1,none⟩ y') (some S):=grown_trans (grown_set w S 0 _) (grown_set _ S 1 _)
 have kp:Kept (fun T=>T=223) w ((w.setCell ⟨S,0,none⟩ x').setCell ⟨S,1,none⟩ y'):=
  (Kept.set (S:=fun T=>T=223) hS rfl x').trans (Kept.set (S:=fun T=>T=223) (shr_set0 hS x') rfl y')
 refine⟨h.row.kept g ?_,fun b hb=>kp.own (by decide) (h.own b hb)⟩;rcases h.row.2 with⟨e,_⟩|⟨g',cap',cur,e,_⟩
 ·rw[e];exact .inl rfl
 ·rw[e];injection e with e1
  refine .inr fun c=>ha ?_;simp only[Value.ownBlock,Option.some.injEq] at c;rw[e1,c]
theorem kept_box{w:World}{S:Nat}{x y:Value}(hS:w.heap[S]?=some (.cells #[x,y] 223 (0,0)))(x' y':Value):Kept (fun T=>T=223) w ((w.setCell ⟨S,0,none⟩ x').setCell ⟨S,1,none⟩ y'):=
 (Kept.set (S:=fun T=>T=223) hS rfl x').trans (Kept.set (S:=fun T=>T=223) (shr_set0 hS x') rfl y')
structure LaidInv(w:World)(base S:Nat)(T:List (List Ent))(Z:Nat)(a:Option Addr)(n cap:Nat)(bs:List Bk)(d:List Ent)(p:Option Addr)(q:Nat)(wr:World):Prop where
 len:bs.length=n
 row:RowB 223 wr base (.slice a n cap) bs
 box:wr.heap[S]?=some (.cells #[.int .i64 (lv d),.slice p d.length q] 223 (0,0))
 own:OwnE wr base (.slice p d.length q) d
 ne:a≠some ⟨S,0,none⟩
 tgt:laidS (bs.map Bk.d) d=T
 sum:(bs.map Bk.d).flatten.length+d.length=Z
 grew:w.grownBy wr (Value.slice a n cap).ownBlock
theorem LaidInv.on{w:World}{base S:Nat}{T:List (List Ent)}{Z n cap:Nat}{a:Option Addr}{bs:List Bk}{d:List Ent}{p:Option Addr}{q:Nat}{wr v:World}(h:LaidInv w base S T Z a n cap bs d p q wr)(hv:Below wr.heap.size wr v):LaidInv w base S T Z a n cap bs d p q v:=
 ⟨h.len,h.row.below hv,(hv.block S (lt_of_block h.box)).trans h.box,h.own.below hv,h.ne,h.tgt,h.sum,grown_trans h.grew (grown_of_below hv _)⟩
theorem map_erase(bs:List Bk)(j:Nat):(bs.eraseIdx j).map Bk.d=(bs.map Bk.d).eraseIdx j:=by rw[List.eraseIdx_eq_take_drop_succ,List.eraseIdx_eq_take_drop_succ,List.map_append,List.map_take,List.map_drop]
theorem ownB_slice(a:Option Addr)(n n' c c':Nat):(Value.slice a n c).ownBlock=(Value.slice a n' c').ownBlock:=by cases a<;>rfl
theorem LaidInv.merge{w:World}{base S:Nat}{T:List (List Ent)}{Z n cap:Nat}{a:Option Addr}{bs:List Bk}{d E:List Ent}{p r2:Option Addr}{q t2 j:Nat}{w2 W3 w4:World}(h:LaidInv w base S T Z a n cap bs d p q w2)(hS:w.heap.size<=S)(hj:j<bs.length)(hf:(bs.map Bk.d).findIdx (ofLv (lv d))=j)(he:sortE (bs[j].d++d)=E)
  (hW:W3=(w2.setCell ⟨S,0,none⟩ (.int .i64 (lv E))).setCell ⟨S,1,none⟩ (.slice r2 E.length t2)) (oE:OwnE w2 base (.slice r2 E.length t2) E) (t:TurnsB W3 base (.slice a n cap) (.slice a (n-1) cap) (bs.eraseIdx j) w4) :
  LaidInv w base S T Z a (n-1) cap (bs.eraseIdx j) E r2 t2 w4:=by
 have b3:W3.heap[S]?=some (.cells #[.int .i64 (lv E),.slice r2 E.length t2] 223 (0,0)):=by rw[hW];exact shr_set1 (shr_set0 h.box _) _
 have kb:=kept_box h.box (.int .i64 (lv E)) (.slice r2 E.length t2);rw[<-hW] at kb;have r3:=h.row.box h.box h.ne (.int .i64 (lv E)) (.slice r2 E.length t2);rw[<-hW] at r3;have g3:w2.grownBy W3 (some S):=by rw[hW];exact grown_trans (grown_set w2 S 0 _) (grown_set _ S 1 _)
 have hr:=r3.row
 have neS:some S≠(Value.slice a n cap).ownBlock:=by
  intro e;rcases hr.2 with⟨h1,h0⟩|⟨g,cap',cur,h1,_⟩
  ·rw[h1] at e;simp[Value.ownBlock] at e
  ·rw[h1] at e;simp only[Value.ownBlock,Option.some.injEq] at e;injection h1 with e1
   exact h.ne (by rw[e1,e])
 have kt:Kept (fun T=>T=223) W3 w4:=kept_grown rfl hr t.2;refine⟨by rw[List.length_eraseIdx,if_pos hj,h.len],t.1,(t.2.block S (lt_of_block b3) neS).trans b3,kt.own (by decide) (kb.own (by decide) oE),h.ne,?_,?_,?_⟩
 ·rw[<-h.tgt,map_erase,laidS_step (ls:=bs.map Bk.d) (by simpa using hj) hf,<-he];simp
 ·rw[<-h.sum,<-he,sortE_len,length_append,map_erase];have:=flat_split (ls:=bs.map Bk.d) (k:=j) (by simpa using hj);rw[this.length_eq,length_append];simp;omega
 ·rw[ownB_slice a (n-1) n cap cap];refine⟨t.2.os.trans (g3.os.trans h.grew.os),t.2.tape.trans (g3.tape.trans h.grew.tape),t.2.output.trans (g3.output.trans h.grew.output),le_trans h.grew.size (le_trans g3.size t.2.size),fun k hk hne=>?_⟩;have k2:=h.grew.size;have k3:=g3.size;exact(t.2.block k (by omega) hne).trans ((g3.block k (by omega) (fun e=>by injection e with e;omega)).trans (h.grew.block k hk hne))
def LaidIs(w:World)(base:Nat)(v0:Value)(T:List (List Ent))(r:Ending)(w':World):Prop:=∃a n cap,r=.returned (.slice a n cap)/\Bls w' base a n cap T/\w.grownBy w' v0.ownBlock
theorem LaidInv.done{w:World}{base S:Nat}{T:List (List Ent)}{Z n cap:Nat}{a:Option Addr}{bs:List Bk}{d:List Ent}{p a8:Option Addr}{q c8:Nat}{wr w8:World}(h:LaidInv w base S T Z a n cap bs d p q wr)(hf:(bs.map Bk.d).findIdx (ofLv (lv d))=(bs.map Bk.d).length)(t:TurnsB wr base (.slice a n cap) (.slice a8 (n+1) c8) (bs.take ((bs.map Bk.d).findIdx (belowLv (lv d)))++(⟨d,p,q⟩:Bk)::bs.drop ((bs.map Bk.d).findIdx (belowLv (lv d)))) w8) :
  Bls w8 base a8 (n+1) c8 T/\w.grownBy w8 (Value.slice a n cap).ownBlock:=by
 have hk:=List.findIdx_le_length (xs:=bs.map Bk.d) (p:=belowLv (lv d));rw[length_map] at hk;refine⟨⟨_,?_,?_,t.1⟩,grown_trans h.grew t.2⟩
 ·rw[<-h.tgt,laidS_end hf];unfold putIn;rw[List.map_append,List.map_cons,List.map_take,List.map_drop]
 ·rw[length_append,List.length_cons,List.length_take,List.length_drop,<-h.len];omega
theorem LaidInv.count{w:World}{base S:Nat}{T:List (List Ent)}{Z n cap:Nat}{a:Option Addr}{bs:List Bk}{d:List Ent}{p:Option Addr}{q:Nat}{wr:World}(h:LaidInv w base S T Z a n cap bs d p q wr){j:Nat}(hj:j<bs.length):bs[j].d.length+d.length<=Z:=by
 have:=(flat_split (ls:=bs.map Bk.d) (k:=j) (by simpa using hj)).length_eq;rw[length_append] at this;simp only[List.getElem_map] at this;have:=h.sum;omega
theorem row_apart{w:World}{base n cap S:Nat}{a:Option Addr}{bs:List Bk}(h:RowB 223 w base (.slice a n cap) bs)(hS:w.heap.size<=S):a≠some ⟨S,0,none⟩:=by
 intro e;subst e;have:=World.ownsRow.lt h.row S rfl;omega
end
section
section
variable {P:Program}{ops:Array Oper}{Q:Exit->Act->World->Prop}{md:Region.Mode}{S:World->Prop}{L:Nat}
theorem anyE_t{i:Nat}{oi:Oper}{v:Value}{f:Nat}{lst:Array Bool}{a:Act}{w:World}(hi:ops[i]?=some oi)(hh:(Region.noSelect ops&&Region.waitsFor md ops L i&&Region.free md ops lst i&&(Region.ready md ops lst).contains i)=true)
  (hQ:∀c a w,Q (.panic c) (a.put oi.dst v) w->Q (.panic c) a w) (hy:YieldsIf P ops S oi v a) (hS:S w) (h:wpAnyE P md ops Q S L f (lst.setIfInBounds i true) (a.put oi.dst v) w):wpAnyE P md ops Q S L (f+1) lst a w:=by
 simp only[Bool.and_eq_true] at hh;exact anyE_take hi hh.1.1.1 hh.1.1.2 hh.1.2 hh.2 hQ hy hS h
end
end
section
open Go.RowKit Go.Lib Go.Sort
theorem laid_any(a:Option Addr)(n0 cap base:Nat)(ls:List (List Ent))(d0:List Ent)(p0:Option Addr)(K0 M0 q0:Nat)(w:World)(h:Bls w base a n0 cap ls)(ho:OwnE w base (.slice p0 K0 q0) d0)(hK0:d0.length=K0)(hM0:lv d0=M0)(hlen:n0<=10000)(hsum:ls.flatten.length+K0<=100000)(hbase:base<=w.heap.size) :
  Calls prog 209 #[.slice a n0 cap,.agg #[.int .i64 M0,.slice p0 K0 q0]] w (LaidIs w base (.slice a n0 cap) (laidS ls d0)):=by
 obtain⟨S,hS⟩:∃S,w.heap.size=S:=⟨_,rfl⟩;obtain⟨T,hT⟩:∃T,laidS ls d0=T:=⟨_,rfl⟩;rw[hT];obtain⟨Z,hZ⟩:∃Z,ls.flatten.length+K0=Z:=⟨_,rfl⟩;rw[hZ] at hsum;obtain⟨bs0,hb1,hb2,hb3⟩:=h;obtain⟨u,hu⟩:∃u,w.alloc (.cells #[.int .i64 M0,.slice p0 K0 q0] 223)=u:=⟨_,rfl⟩;have HU:Hid _:=hu;have bu:Below w.heap.size w u:=by rw[<-hu];exact(Below.refl _ _).alloc (le_refl _) _
 have inv:LaidInv w base S T Z a n0 cap bs0 d0 p0 q0 u:=by
  refine⟨hb2,hb3.below bu,by rw[hK0,hM0,<-hu,<-hS];exact heap_alloc_new w _,by rw[hK0];exact ho.below bu,row_apart hb3 (by omega),by rw[hb1];exact hT,by rw[hb1,hK0];exact hZ,grown_of_below bu _⟩
 have INV:Aside (LaidInv w base S T Z a n0 cap bs0 d0 p0 q0 u):=inv;have y0:=shr0 inv.box;rw[hM0] at y0;have fo:=firstOf_any a n0 cap M0 (bs0.map Bk.d) u inv.row.raw (by rw[length_map];exact hb2) (by omega);have HM0:Hid (lv d0=M0):=hM0;clear hT hZ hb1 hb2 hb3 hu bu inv ho hK0 hM0;go_enter func209,ntmps209
 go_wp2_with fail
 rw[HU.out];refine fo.mono ?_;rintro r w1 ⟨z0,rfl,fi0,b1⟩;have I1:Aside (LaidInv w base S T Z a n0 cap bs0 d0 p0 q0 w1):=INV.out.on b1;have F1:Aside (FirstAt (bs0.map Bk.d) (ofLv (lv d0)) z0):=by rw[HM0.out];exact fi0
 clear INV fi0 b1 fo y0 HM0 HU
 go_wp2_with fail
 go_loopg [0,5] n0 (fun kx s0 s5 wr=>∃(n:Nat)(z:Int)(bs:List Bk)(d:List Ent)(p:Option Addr)(q:Nat),s0=.slice a n cap/\s5=.int .i64 z/\n<=kx/\n<=n0/\Aside (FirstAt (bs.map Bk.d) (ofLv (lv d)) z)/\Aside (LaidInv w base S T Z a n cap bs d p q wr))
 case atStart=>exact⟨n0,z0,bs0,d0,p0,q0,rfl,rfl,le_refl _,le_refl _,F1,I1⟩
 case round=>
  clear F1 I1;obtain⟨n,z,bs,d,p,q,rfl,rfl,hkx,hnn,FA,I⟩:=hrel;obtain⟨m,hm⟩:∃m,lv d=m:=⟨_,rfl⟩;obtain⟨K,hK⟩:∃m,d.length=m:=⟨_,rfl⟩;have HM:Hid _:=hm;have HK:Hid _:=hK;clear hm hK;have y0:=shr0 I.out.box;have y1:=shr1 I.out.box;rw[HM.out] at y0;rw[HK.out] at y1;have sS:S<wr.heap.size:=lt_of_block I.out.box;rcases FA.out with⟨rfl,hno⟩|⟨hlt,rfl⟩
  ·have hz:¬(0:Int)<=-1:=by omega
   have HNO:Hid _:=hno;obtain⟨R9,hR9⟩:∃R,wr.heap.size=R:=⟨_,rfl⟩;have hb0:Below wr.heap.size wr wr:=Below.refl _ _;have hb1:Below wr.heap.size wr wr.drew:=hb0.drew;have FB:Aside (∀W,Below wr.heap.size wr W->Calls prog 242 #[.slice a n cap,.int .i64 m] W fun r w'=>r=.returned (.int .i64 ((bs.map Bk.d).findIdx (belowLv m):Nat))/\Below W.heap.size W w'):=fun W hW=>firstBelow_any a n cap m (bs.map Bk.d) W (I.out.row.raw.below hW) (by rw[length_map];exact I.out.len) (by omega);have KC:Aside (∀W,Below wr.heap.size wr W->W.cell? ⟨S,0,none⟩=some (.int .i64 m)/\W.cell? ⟨S,1,none⟩=some (.slice p K q)):=fun W hW=>⟨(hW.cell (p:=⟨S,0,none⟩) sS).trans y0,(hW.cell (p:=⟨S,1,none⟩) sS).trans y1⟩;have ki:=List.findIdx_le_length (xs:=bs.map Bk.d) (p:=belowLv m);rw[length_map,I.out.len] at ki
   have INS:Aside (∀W G,Below wr.heap.size wr W->wr.heap.size<=G->W.heap[G]?=some (.cells #[.int .i64 m,.slice p K q] 223 (0,0))->Calls prog 192 #[.slice a n cap,.int .i64 ((bs.map Bk.d).findIdx (belowLv m):Nat),.slice (some ⟨G,0,none⟩) 1 1] W (fun r w'=>LaidIs w base (.slice a n0 cap) T r w'/\w'.cell? ⟨S,0,none⟩=W.cell? ⟨S,0,none⟩/\w'.cell? ⟨S,1,none⟩=W.cell? ⟨S,1,none⟩)):=fun W G hW hG hc=>by
    have i2:=I.out.on hW;have:=insS_any a n cap ((bs.map Bk.d).findIdx (belowLv m)) base G bs ⟨d,p,q⟩ W i2.row i2.len ki i2.own (by rw[HM.out,HK.out];exact hc) (row_apart I.out.row hG) (by omega) (le_trans hbase i2.grew.size);refine this.mono ?_;rintro r w' ⟨a',cap',rfl,t⟩;rw[<-HM.out] at t;have fin:=i2.done HNO.out t
    have hS8:w'.heap[S]?=W.heap[S]?:=t.2.block S (lt_of_block i2.box) (fun e=>by
     rcases i2.row.row.2 with⟨h1,h0⟩|⟨g,cap',cur,h1,_⟩
     ·rw[h1] at e;simp[Value.ownBlock] at e
     ·rw[h1] at e;simp only[Value.ownBlock,Option.some.injEq] at e;injection h1 with e1
      exact i2.ne (by rw[e1,e]))
    exact⟨⟨a',n+1,cap',rfl,fin.1,by rw[ownB_slice a n0 n cap cap];exact fin.2⟩,World.cell?_of_block (a:=⟨S,0,none⟩) hS8,World.cell?_of_block (a:=⟨S,1,none⟩) hS8⟩
   obtain⟨Q,hQ⟩:∃Q,(bs.map Bk.d).findIdx (belowLv m)=Q:=⟨_,rfl⟩;rw[hQ] at FB INS ki;have hbB:Below wr.heap.size wr (wr.alloc (.cells #[.int .i64 m,.slice p K q] 223)).drew:=(hb0.alloc (le_refl _) _).drew;have gB:(wr.alloc (.cells #[.int .i64 m,.slice p K q] 223)).drew.heap[R9]?=some (.cells #[.int .i64 m,.slice p K q] 223 (0,0)):=by rw[<-hR9];exact heap_alloc_new wr _
   clear hQ hno FA y0 y1;have mx:=mixed
   go_wp2_with fail
   go_region_held3 (fun v=>v.cell? ⟨S,0,none⟩=some (.int .i64 m)/\v.cell? ⟨S,1,none⟩=some (.slice p K q)) (first|with_reducible exact KC.out _ hb1|with_reducible exact KC.out _ hbB|with_reducible exact KC.out _ hb8|with_reducible exact KC.out _ hb9|exact⟨k0.trans (KC.out _ hbI).1,k1.trans (KC.out _ hbI).2⟩)
    ((first
     | (go_at_call 192;(first|((with_reducible refine Calls.mono (INS.out _ R8 hb9 sz8 hg9) ?_);rintro r w10 ⟨⟨a8,n8,c8,rfl,l8,g8⟩,k0,k1⟩;have hbI:=hb9)|((with_reducible refine Calls.mono (INS.out _ R9 hb8 sz9 hg8) ?_);rintro r w10 ⟨⟨a8,n8,c8,rfl,l8,g8⟩,k0,k1⟩;have hbI:=hb8)))
     | (go_at_call 242;(first
      | ((with_reducible refine Calls.mono (FB.out _ hb1) ?_);rintro r w8 ⟨rfl,d8⟩;have hb8:Below wr.heap.size wr w8:=hb1.trans (d8.mono hb1.size);obtain⟨R8,hR8⟩:∃R,w8.heap.size=R:=⟨_,rfl⟩;have hb9:Below wr.heap.size wr (w8.alloc (.cells #[.int .i64 m,.slice p K q] 223)):=hb8.alloc hb8.size _;have sz8:wr.heap.size<=R8:=(by rw[<-hR8];exact hb8.size);have hg9:(w8.alloc (.cells #[.int .i64 m,.slice p K q] 223)).heap[R8]?=some (.cells #[.int .i64 m,.slice p K q] 223 (0,0)):=(by rw[<-hR8];exact heap_alloc_new w8 _))
      | ((with_reducible refine Calls.mono (FB.out _ hbB) ?_);rintro r w8 ⟨rfl,d8⟩;have hb8:Below wr.heap.size wr w8:=hbB.trans (d8.mono hbB.size);have sz9:wr.heap.size<=R9:=(by omega);have hg8:w8.heap[R9]?=some (.cells #[.int .i64 m,.slice p K q] 223 (0,0)):=(d8.block R9 (lt_of_block gB)).trans gB)))))
   all_goals (go_wp2;go_ret;exact⟨a8,n8,c8,rfl,l8,g8⟩)
  ·obtain⟨j,hj⟩:∃j,(bs.map Bk.d).findIdx (ofLv (lv d))=j:=⟨_,rfl⟩;rw[hj] at hlt⊢;rw[length_map] at hlt;have HJ:Hid _:=hj;have hz:(0:Int)<=(j:Int):=by omega
   have jn:j<n:=by rw[<-I.out.len];exact hlt
   have jn2:(j:Int)<(n:Int):=by omega
   obtain⟨g,ha,hbg,hgs,c0,c1⟩:=I.out.row.at hlt;have HA:Hid (a=some ⟨g,0,none⟩):=ha;have gS:g≠S:=fun e=>I.out.ne (by rw[ha,e]);have cn:=I.out.count hlt;have mg:=mergeB_any (lv bs[j].d) m bs[j].p p bs[j].q q bs[j].d d wr.drew ((I.out.row.own _ (getElem_mem hlt)).is.below ((Below.refl _ _).drew)) (I.out.own.is.below ((Below.refl _ _).drew)) (by omega);obtain⟨x,hx⟩:∃x,bs[j]=x:=⟨_,rfl⟩;have HX:Hid _:=hx;rw[hx] at c0 c1 mg;obtain⟨mi,hmi⟩:∃m,lv x.d=m:=⟨_,rfl⟩;obtain⟨ki,hki⟩:∃m,x.d.length=m:=⟨_,rfl⟩;obtain⟨xp,hxp⟩:∃m,x.p=m:=⟨_,rfl⟩;obtain⟨xq,hxq⟩:∃m,x.q=m:=⟨_,rfl⟩;obtain⟨E,hE⟩:∃E,sortE (x.d++d)=E:=⟨_,rfl⟩;have HE:Hid _:=hE;rw[hmi] at c0 mg;rw[hki,hxp,hxq] at c1 mg;rw[HK.out,hE] at mg;obtain⟨KE,hKE⟩:∃E',E.length=E':=⟨_,rfl⟩;obtain⟨ME,hME⟩:∃E',lv E=E':=⟨_,rfl⟩;have HKE:Hid _:=hKE;have HME:Hid _:=hME;have MG:Aside (Calls prog 191 #[.agg #[.int .i64 mi,.slice xp ki xq],.agg #[.int .i64 m,.slice p K q]] wr.drew (MadeB wr.drew E)):=mg;have hb1:Below wr.heap.size wr wr.drew:=(Below.refl _ _).drew;have KC:Aside (∀W,Below wr.heap.size wr W->W.cell? ⟨g,j*2,none⟩=some (.int .i64 mi)/\W.cell? ⟨g,j*2+1,none⟩=some (.slice xp ki xq)/\W.cell? ⟨S,0,none⟩=some (.int .i64 m)/\W.cell? ⟨S,1,none⟩=some (.slice p K q)):=fun W hW=>⟨(hW.cell (p:=⟨g,j*2,none⟩) hgs).trans c0,(hW.cell (p:=⟨g,j*2+1,none⟩) hgs).trans c1,(hW.cell (p:=⟨S,0,none⟩) sS).trans y0,(hW.cell (p:=⟨S,1,none⟩) sS).trans y1⟩;have BX:Aside (wr.heap[S]?=some (.cells #[.int .i64 m,.slice p K q] 223 (0,0))):=by have:=I.out.box;rw[HM.out,HK.out] at this;exact this
   subst ha;have mx:=mixed;clear hx hmi hki hxp hxq hE hKE hME mg c0 c1 cn hj FA
   go_wp2_with fail
   refine anyE_start (S:=(fun v=>v.cell? ⟨g,j*2,none⟩=some (.int .i64 mi)/\v.cell? ⟨g,j*2+1,none⟩=some (.slice xp ki xq)/\v.cell? ⟨S,0,none⟩=some (.int .i64 m)/\v.cell? ⟨S,1,none⟩=some (.slice p K q))) (L:=6) (by kernel_rfl) ?_;refine anyE_u (i:=0) (KC.out _ hb1) rfl (by kernel_rfl) (fun w z=>by go_simp<;>rfl) (fun _ _ _ h=>h) ?_;refine anyE_u (i:=1) (KC.out _ hb1) rfl (by kernel_rfl) (fun w z=>by go_simp<;>rfl) (fun _ _ _ h=>h) ?_;refine anyE_u (i:=2) (KC.out _ hb1) rfl (by kernel_rfl) (fun w z=>by go_simp<;>rfl) (fun _ _ _ h=>h) ?_;refine anyE_u (i:=3) (KC.out _ hb1) rfl (by kernel_rfl) (fun w z=>by go_simp<;>rfl) (fun _ _ _ h=>h) ?_;refine anyE_u (i:=4) (KC.out _ hb1) rfl (by kernel_rfl) (fun w z=>by go_simp<;>rfl) (fun _ _ _ h=>h) ?_;simp only[Act.put,sA,sB,sC];refine anyE_ready (rs:=[5]) (by kernel_rfl) (by simp) ?_;refine AllE.cons (o:={dst:=some 21,op:=Op.call {callee:=Callee.value (Operand.func 191),args:=#[Operand.tmp 19,Operand.tmp 20],argTypes:=#[223,223]},type:=223,pos:= "shared.go:69",after:=#[⟨3,.data⟩,⟨4,.data⟩],guard:=none}) rfl (fun Kt hKt=>?_) ?_
   ·go_simp
    (with_reducible refine Calls.mono MG.out ?_)
    rintro r w2 ⟨r2,t2,rfl,o2,d2⟩;have hb2:Below wr.heap.size wr w2:=hb1.trans (d2.mono hb1.size);rw[show lvl E.length=ME from HME.out,HKE.out]
    go_wp2_with fail
    refine hKt.out _ _ (fun _=>KC.out _ hb2) ?_;clear hKt Kt;try simp only[Act.put,sA,sB,sC]
    refine anyE_ready (rs:=[6]) (by kernel_rfl) (by simp) ?_;refine AllE.cons rfl (fun Kt hKt=>?_) ?_
    ·have z0:=shr0 ((hb2.block S sS).trans BX.out);have z1:=shr1 ((hb2.block S sS).trans BX.out);have zf0:=shrf ((hb2.block S sS).trans BX.out) 0;have zf1:=shrf ((hb2.block S sS).trans BX.out) 1;go_simp
     refine hKt.out _ _ (fun h=>absurd rfl h) ?_;clear hKt Kt;try simp only[Act.put,sA,sB,sC]
     refine anyE_done (by kernel_rfl) ?_ _;obtain⟨W3,hW3⟩:∃W,(w2.setCell ⟨S,0,none⟩ (.int .i64 ME)).setCell ⟨S,1,none⟩ (.slice r2 KE t2)=W:=⟨_,rfl⟩;have HW3:Hid _:=hW3;have I2:Aside (LaidInv w base S T Z (some ⟨g,0,none⟩) n cap bs d p q w2):=I.out.on hb2;have O2:Aside (OwnE w2 base (.slice r2 E.length t2) E):=o2.low (le_trans hbase I.out.grew.size);have r3:=I2.out.row.box I2.out.box I2.out.ne (.int .i64 ME) (.slice r2 KE t2);rw[hW3] at r3;have dl:=delete_any (some ⟨g,0,none⟩) n cap j base bs W3 r3 I2.out.len jn;obtain⟨n1,hn1⟩:∃n1,n-1=n1:=⟨_,rfl⟩;have HN1:Hid _:=hn1;rw[hn1] at dl;clear r3 hW3 o2 d2 hb2 hn1 y0 y1 hb1 MG KC BX;rw[HW3.out]
     go_wp2_with fail
     refine dl.mono ?_;rintro r w4 ⟨rfl,t4⟩;rw[<-HN1.out] at t4;have I4:=I2.out.merge (by omega) hlt HJ.out (by rw[HX.out];exact HE.out) (by rw[HME.out,HKE.out];exact HW3.out.symm) O2.out t4;rw[HN1.out] at I4;have y4:=shr0 I4.box;rw[HME.out] at y4;have fo:=firstOf_any (some ⟨g,0,none⟩) n1 cap ME ((bs.eraseIdx j).map Bk.d) w4 I4.row.raw (by rw[length_map];exact I4.len) (by have:=HN1.out;omega);have A4:Aside (LaidInv w base S T Z (some ⟨g,0,none⟩) n1 cap (bs.eraseIdx j) E r2 t2 w4):=I4;clear I4 t4 dl I2 O2 I
     go_wp2_with fail
     refine fo.mono ?_;rintro r w5 ⟨z5,rfl,fi5,b5⟩;have I5:Aside (LaidInv w base S T Z (some ⟨g,0,none⟩) n1 cap (bs.eraseIdx j) E r2 t2 w5):=A4.out.on b5;have F5:Aside (FirstAt ((bs.eraseIdx j).map Bk.d) (ofLv (lv E)) z5):=by rw[HME.out];exact fi5
     clear fi5 b5 fo A4
     go_wp2
     go_roundg n1
     case measure=>have:=HN1.out;omega
     case rel=>exact⟨n1,z5,_,E,r2,t2,rfl,rfl,le_refl _,by have:=HN1.out;omega,F5,I5⟩
    exact AllE.nil
   exact AllE.nil
end
section
open Go.RowKit Go.Lib Go.Sort
theorem mem_len{ls:List (List Ent)}{d:List Ent}(h:d∈ls):d.length<=ls.flatten.length:=by
 obtain⟨i,hi,rfl⟩:=List.getElem_of_mem h;have:=(flat_split hi).length_eq;rw[length_append] at this;omega
theorem own_lt{T:TypeId}{w:World}{base k n:Nat}{v:Value}{vs:List Value}(h:w.ownsRow base T k v n vs){S:Nat}(hS:w.heap.size<=S):some S≠v.ownBlock:=fun e=>by
 have:=World.ownsRow.lt h S e.symm;omega
theorem below_own{T:TypeId}{w w':World}{base k n:Nat}{v:Value}{vs:List Value}(h:w.ownsRow base T k v n vs)(hg:w.grownBy w' v.ownBlock)(hb:base<=w.heap.size):Below base w w':=
 ⟨hg.os,hg.tape,hg.output,hg.size,fun k hk=>hg.block k (by omega) (fun e=>by have:=World.ownsRow.lt h k e.symm;omega)⟩
def MadeO(w:World)(m n:Nat)(d:List Ent)(r:Ending)(w':World):Prop:=∃a cap,r=.returned (.agg #[.int .i64 m,.slice a n cap])/\OwnE w' w.heap.size (.slice a n cap) d/\Below w.heap.size w w'
theorem MadeB.o{w w':World}{d:List Ent}{r:Ending}(h:MadeB w d r w'){n m:Nat}(hn:d.length=n)(hm:lv d=m):MadeO w m n d r w':=by
 obtain⟨a,cap,h1,h2,h3⟩:=h;rw[hn] at h1 h2;rw[show lvl n=m by rw[<-hm,<-hn];rfl] at h1;exact⟨a,cap,h1,h2,h3⟩
theorem sadd_some(B v:Nat)(ls:List (List Ent))(a:Option Addr)(K cap:Nat)(l:List Ent)(w:World)(h:Shr w B v ls)(hL:IsL w a cap l)(hK:l.length=K)(h0:0<K)(hlen:ls.length<=9000)(hsum:ls.flatten.length+K<=100000)(hs:∀d∈ls,Srt d)(hv:v<=1000000) :
  Calls prog 168 #[.pointer (some ⟨B,0,none⟩),.slice a K cap] w fun r w'=>r=.returned (.tuple #[])/\ShrN w.heap.size w' B (v+1) (addS ls l)/\w.grownBy w' (some B):=by
 obtain⟨n,hn⟩:∃n,ls.length=n:=⟨_,rfl⟩;have HN:Hid _:=hn;have HK:Hid _:=hK;have sn:=snap_any B v n ls w h hn (by omega) (fun d hd=>by have:=mem_len hd;omega);have kz:¬(K:Int)=0:=by omega
 have kz2:((K:Int)==0)=false:=by simp;omega
 have H:Aside (Shr w B v ls):=h;have HL:Aside (IsL w a cap l):=hL;have HSR:Aside (∀d∈ls,Srt d):=hs;have hBw:B<w.heap.size:=h.lt;have ea:addS ls l=laidS ls (sortE l):=by unfold addS;rw[if_neg (by omega)]
 have EA:Hid _:=ea;have sl:=sortE_len l;have SL:Hid _:=sl;obtain⟨M,hM⟩:∃M,lv (sortE l)=M:=⟨_,rfl⟩;have HM:Hid _:=hM;clear h hL hs hn hK ea sl hM;go_enter func168,ntmps168
 go_wp2_with fail
 refine sn.mono ?_;rintro r w1 ⟨a1,c1,rfl,l1,b1⟩;obtain⟨S,hS⟩:∃S,w1.heap.size=S:=⟨_,rfl⟩;obtain⟨u,hu⟩:∃u,w1.alloc (.cells #[.int .u64 v,.slice a1 n c1] 219)=u:=⟨_,rfl⟩;have HU:Hid _:=hu;have bu1:Below w1.heap.size w1 u:=by rw[<-hu];exact(Below.refl _ _).alloc (le_refl _) _
 have bu:Below w.heap.size w u:=b1.trans (bu1.mono b1.size);have us:u.heap[S]?=some (.cells #[.int .u64 v,.slice a1 n c1] 219 (0,0)):=by rw[<-hu,<-hS];exact heap_alloc_new w1 _
 have lu:=l1.below bu1;have hb0:Below u.heap.size u u.drew:=(Below.refl _ _).drew;have LU:Aside (Bls u w.heap.size a1 n c1 ls):=lu;have BU:Aside (Below w.heap.size w u):=bu;have US:Aside (u.heap[S]?=some (.cells #[.int .u64 v,.slice a1 n c1] 219 (0,0))):=us
 have apart:Aside (some S≠(Value.slice a1 n c1).ownBlock):=by
  obtain⟨bs,_,h2,h3⟩:=l1;have:=own_lt (h3.row) (S:=S) (by omega);exact this
 have OF:Aside (∀W,Below u.heap.size u W->Calls prog 184 #[.slice a K cap] W (MadeO W M K (sortE l))):=fun W hW=>by
  have:=of_any a cap l W (HL.out.below (BU.out.trans (hW.mono BU.out.size))) (by have:=HK.out;omega);rw[HK.out] at this;exact this.mono fun r w' hm=>hm.o (by rw[SL.out];exact HK.out) HM.out
 have KC:Aside (∀W:World,W.heap[S]?=some (.cells #[.int .u64 v,.slice a1 n c1] 219 (0,0))->W.cell? ⟨S,0,none⟩=some (.int .u64 v)/\W.cell? ⟨S,1,none⟩=some (.slice a1 n c1)):=fun W hW=>⟨shr0 hW,shr1 hW⟩;have e0:u.drew.heap[S]?=some (.cells #[.int .u64 v,.slice a1 n c1] 219 (0,0)):=us;have us0:=us;have nSB:some S≠some B:=fun e=>by injection e with e;have:=b1.size;omega
 clear hu bu1 bu us lu l1 b1 sn
 go_wp2_with fail
 rw[HU.out];have mx:=mixed
 go_region_held3 (fun W=>W.cell? ⟨S,0,none⟩=some (.int .u64 v)/\W.cell? ⟨S,1,none⟩=some (.slice a1 n c1)) (first|with_reducible exact KC.out _ e0|with_reducible exact KC.out _ e2|with_reducible exact KC.out _ e3|with_reducible exact KC.out _ e4)
  ((first
   | (go_at_call 131;(with_reducible refine Calls.mono sw ?_);rintro r w4 ⟨rfl,s4,g4⟩;have e4:w4.heap[S]?=some (.cells #[.int .u64 v,.slice a1 n c1] 219 (0,0)):=(g4.block S (lt_of_block e3) nSB).trans e3)
   | (go_at_call 209;(with_reducible refine Calls.mono ld ?_);rintro r w3 ⟨a3,n3,c3,rfl,l3,g3⟩;have e3:w3.heap[S]?=some (.cells #[.int .u64 v,.slice a1 n c1] 219 (0,0)):=(g3.block S (lt_of_block e2) apart.out).trans e2;have b3:Below w.heap.size w w3:=BW2.out.trans (BR2.out w3 g3);have sw:=swap_any B v ls (laidS ls (sortE l)) a3 n3 c3 w3 (H.out.below b3) hv l3.raw (laidS_srt _ _ HSR.out (sortE_srt l)) l3.len.1 (by have:=l3.len.1;have:=laidS_count ls (sortE l);have:=HN.out;omega) (fun d hd=>by have:=mem_len hd;rw[laidS_len,SL.out,HK.out] at this;omega))
   | (go_at_call 184;(with_reducible refine Calls.mono (OF.out _ hb0) ?_);rintro r w2 ⟨a2,c2,rfl,o2,d2⟩;have b2:Below u.heap.size u w2:=hb0.trans (d2.mono hb0.size);have e2:w2.heap[S]?=some (.cells #[.int .u64 v,.slice a1 n c1] 219 (0,0)):=(b2.block S (lt_of_block us0)).trans us0;have l2:=LU.out.below b2;have BW2:Aside (Below w.heap.size w w2):=BU.out.trans (b2.mono BU.out.size);have BR2:Aside (∀W:World,w2.grownBy W (Value.slice a1 n c1).ownBlock->Below w.heap.size w2 W):=(fun W hg=>(by obtain⟨bs,_,h2,h3⟩:=l2;exact below_own h3.row hg BW2.out.size));have ld:=laid_any a1 n c1 w.heap.size ls (sortE l) a2 K M c2 w2 l2 (o2.low (le_trans BU.out.size hb0.size)) (by rw[SL.out];exact HK.out) HM.out (by have:=HN.out;omega) hsum BW2.out.size)))
 have S4:Aside (ShrN w.heap.size w4 B (v+1) (addS ls l)):=by rw[EA.out];exact s4.mono b3.size
 have G4:Aside (w.grownBy w4 (some B)):=grown_trans ⟨b3.os,b3.tape,b3.output,b3.size,fun k hk _=>b3.block k hk⟩ g4;clear s4 g4 e4 e3 e2 sw ld b3 l3 g3 o2 d2 b2 l2
 go_wp2
 go_end0
 exact⟨rfl,S4.out,G4.out⟩
end
section
open Go.RowKit Go.Lib Go.Sort
theorem keep_out(id:Int)(d:List Ent):keepL (fun o=>decide (o=id)) d=outL id d:=rfl
theorem outL_srt{d:List Ent}(h:Srt d)(id:Int):sortE (outL id d)=outL id d:=sortE_id (h.filter _)
theorem hasFn_any(S:Nat)(id:Int)(x:Ent)(W:World)(hS:S<W.heap.size)(c0:W.cell? ⟨S,0,none⟩=some (.int .i64 id)) :
  Calls prog 183 #[.agg #[.int .u64 x.1,.int .i64 x.2],.pointer (some ⟨S,0,none⟩)] W fun e w'=>e=.returned (.bool (decide (x.2=id)))/\Grown W w':=by
 have e:decide (x.2=id)=(x.2==id):=by by_cases h:x.2=id<;>simp[h]
 rw[e];have c1:(W.alloc (.cells #[.int .u64 x.1,.int .i64 x.2] 35)).cell? ⟨S,0,none⟩=some (.int .i64 id):=(cell_old W _ 0 hS).trans c0;have hS2:¬S=W.heap.size:=by omega
 go_enter func183,ntmps183
 go_wp2
 go_ret;exact⟨rfl,(Grown.refl W).alloc _⟩
theorem contains_any(S:Nat)(id:Int)(a:Option Addr)(cap:Nat)(d:List Ent)(w:World)(h:IsL w a cap d)(hS:S<w.heap.size)(c0:w.cell? ⟨S,0,none⟩=some (.int .i64 id)) :
  Calls prog 182 #[.slice a d.length cap,.func (.func 183) #[] #[.pointer (some ⟨S,0,none⟩)]] w fun e w'=>e=.returned (.bool (hasL d id))/\Grown w w':=by
 have ix:=indexFunc_any a cap d 183 #[.pointer (some ⟨S,0,none⟩)] (fun x=>decide (x.2=id)) w h (enters_of func183 (by kernel_rfl) rfl)
  (fun x W hW=>hasFn_any S id x W (by have:=hW.below.size;omega) ((hW.below.cell (p:=⟨S,0,none⟩) hS).trans c0))
 clear h c0;go_enter func182,ntmps182
 go_wp2_with fail
 refine ix.mono ?_;rintro r w1 ⟨z,rfl,fi,g1⟩;have G1:Aside (Grown w w1):=g1;clear g1 ix;rcases fi with⟨rfl,hno⟩|⟨k,hk,rfl,hyes,hno⟩
 ·have hh:hasL d id=false:=hasL_none fun i hi=>by simpa using hno i hi
  have HH:Hid _:=hh;clear hno hh
  go_wp2
  go_ret;exact⟨by rw[HH.out];rfl,G1.out⟩
 ·have hh:hasL d id=true:=hasL_at k hk (by simpa using hyes);have HH:Hid _:=hh;have k0:(0:Int)<=(k:Int):=by omega
  clear hno hyes hh
  go_wp2
  go_ret;exact⟨by rw[HH.out];rfl,G1.out⟩
theorem lhas_any(i id:Int)(a:Option Addr)(cap:Nat)(d:List Ent)(w:World)(h:IsL w a cap d) :
  Calls prog 128 #[.agg #[.int .i64 i,.slice a d.length cap],.int .i64 id] w fun e w'=>e=.returned (.bool (hasL d id))/\Below w.heap.size w w':=by
 obtain⟨S,hS⟩:∃S,w.heap.size=S:=⟨_,rfl⟩;obtain⟨n,hn⟩:∃n,d.length=n:=⟨_,rfl⟩;obtain⟨u,hu⟩:∃u,(w.alloc (.cells #[.int .i64 i,.slice a n cap] 223)).alloc (.cells #[.int .i64 id] 3)=u:=⟨_,rfl⟩;have HU:Hid _:=hu;have b0:Below w.heap.size w u:=by rw[<-hu];exact((Below.refl _ _).alloc (le_refl _) _).alloc (by simp) _
 have su:u.heap.size=S+2:=by rw[<-hu,<-hS];simp
 have c0:u.cell? ⟨S+1,0,none⟩=some (.int .i64 id):=by
  have:=cell_new (w.alloc (.cells #[.int .i64 i,.slice a n cap] 223)) #[.int .i64 id] 3 0;rw[hu] at this;simpa [hS] using this
 have ct:=contains_any (S+1) id a cap d u (h.below b0) (by omega) c0;rw[hn] at ct⊢;have B0:Aside (Below w.heap.size w u):=b0;obtain⟨Y,hY⟩:∃Y,hasL d id=Y:=⟨_,rfl⟩;rw[hY] at ct⊢;have hmf:∀(fn:Fn)(first cap:Array Value)(w:World),(Instr.makeFunc fn first cap).run prog w=.ok (.func fn first cap) w:=fun _ _ _ _=>rfl;clear hu b0 su c0 h hn hY;go_enter func128,ntmps128
 go_wp2_with fail
 rw[HU.out];refine ct.mono ?_;rintro r w1 ⟨rfl,g1⟩;have B1:Aside (Below w.heap.size w w1):=B0.out.trans (g1.below.mono B0.out.size);clear g1 ct
 go_wp2
 go_ret;exact⟨rfl,B1.out⟩
theorem drop1_any(S:Nat)(id i:Int)(a:Option Addr)(cap:Nat)(d:List Ent)(W:World)(h:IsL W a cap d)(hS:S<W.heap.size)(c0:W.cell? ⟨S,0,none⟩=some (.int .i64 id)) :
  Calls prog 127 #[.agg #[.int .i64 i,.slice a d.length cap],.pointer (some ⟨S,0,none⟩)] W fun e w'=>e=.returned (.bool (hasL d id))/\Below W.heap.size W w':=by
 obtain⟨R,hR⟩:∃R,W.heap.size=R:=⟨_,rfl⟩;obtain⟨n,hn⟩:∃n,d.length=n:=⟨_,rfl⟩;obtain⟨u,hu⟩:∃u,W.alloc (.cells #[.int .i64 i,.slice a n cap] 223)=u:=⟨_,rfl⟩;have HU:Hid _:=hu;have b0:Below W.heap.size W u:=by rw[<-hu];exact(Below.refl _ _).alloc (le_refl _) _
 have hs:=lhas_any i id a cap d u (h.below b0);rw[hn] at hs⊢;have B0:Aside (Below W.heap.size W u):=b0;have sS:S<R:=by omega
 obtain⟨Y,hY⟩:∃Y,hasL d id=Y:=⟨_,rfl⟩;rw[hY] at hs⊢;clear hu b0 h hn hY;go_enter func127,ntmps127
 go_wp2_with fail
 rw[HU.out];refine hs.mono ?_;rintro r w1 ⟨rfl,g1⟩;have B1:Aside (Below W.heap.size W w1):=B0.out.trans (g1.mono B0.out.size);clear g1 hs
 go_wp2
 go_ret;exact⟨rfl,B1.out⟩
theorem drop2_any(S:Nat)(id o:Int)(W:World)(c0:W.cell? ⟨S,0,none⟩=some (.int .i64 id)) :
  Calls prog 130 #[.int .i64 o,.pointer (some ⟨S,0,none⟩)] W fun e w'=>e=.returned (.bool (decide (o=id)))/\Below W.heap.size W w':=by
 have e:decide (o=id)=(o==id):=by by_cases h:o=id<;>simp[h]
 rw[e];go_enter func130,ntmps130
 go_wp2
 go_ret;exact⟨rfl,Below.refl _ _⟩
theorem flatB_set2:∀(bs:List Bk)(k:Nat)(b:Bk)(hk:k<bs.length),flatB (bs.set k b)=((flatB bs).set (k*2) (.int .i64 (lv b.d))).set (k*2+1) (.slice b.p b.d.length b.q)
 | [],k,b,hk=>by simp at hk
 | c::bs,0,b,hk=>by
  rw[List.set_cons_zero,flatB_cons,flatB_cons];simp
 | c::bs,k+1,b,hk=>by
  rw[set_cons_succ,flatB_cons,flatB_cons,flatB_set2 bs k b (by simpa using hk),show(k+1)*2+1=(k*2+1)+1+1 by omega,show(k+1)*2=(k*2)+1+1 by omega,set_cons_succ,set_cons_succ,set_cons_succ,set_cons_succ]
theorem RowB.set2{w:World}{base g n cap:Nat}{bs:List Bk}(h:RowB 223 w base (.slice (some ⟨g,0,none⟩) n cap) bs)(hn:bs.length=n)(k:Nat)(b:Bk)(hk:k<bs.length)(ob:OwnE w base (.slice b.p b.d.length b.q) b.d) :
  RowB 223 ((w.setCell ⟨g,k*2,none⟩ (.int .i64 (lv b.d))).setCell ⟨g,k*2+1,none⟩ (.slice b.p b.d.length b.q)) base (.slice (some ⟨g,0,none⟩) n cap) (bs.set k b)/\w.grownBy ((w.setCell ⟨g,k*2,none⟩ (.int .i64 (lv b.d))).setCell ⟨g,k*2+1,none⟩ (.slice b.p b.d.length b.q)) (some g):=by
 have hr:=h.row;rw[hn] at hr;rcases hr.2 with⟨h1,h0⟩|⟨g',cap',cur,h1,hb,hg,hnc,hc,hs,ht⟩
 ·cases h1
 injection h1 with e1 e2 e3
 injection e1 with e1
 injection e1 with e1
 subst e1 e3;have kp:Kept (fun T=>T=223) w (w.setCell ⟨g,k*2,none⟩ (.int .i64 (lv b.d))):=Kept.set (S:=fun T=>T=223) hg rfl _;have e1:=setCell_eq_setRow w g (k*2) cur 223 (0,0) (.int .i64 (lv b.d)) hg;have g1:(w.setCell ⟨g,k*2,none⟩ (.int .i64 (lv b.d))).heap[g]?=some (.cells (cur.setIfInBounds (k*2) (.int .i64 (lv b.d))) 223 (0,0)):=by rw[e1];exact setRow_heap w g cur _ _ (0,0) hg
 have kp2:=kp.trans (Kept.set (S:=fun T=>T=223) g1 rfl (o:=k*2+1) (sp:=none) (.slice b.p b.d.length b.q));refine⟨⟨?_,fun x hx=>?_⟩,grown_trans (grown_set w g (k*2) _) (grown_set _ g (k*2+1) _)⟩
 ·rw[length_set,hn];refine⟨by rw[flatB_len,length_set,hn],.inr ⟨g,cap,((cur.setIfInBounds (k*2) (.int .i64 (lv b.d))).setIfInBounds (k*2+1) (.slice b.p b.d.length b.q)),rfl,hb,?_,hnc,hc,?_,?_⟩⟩
  ·rw[setCell_eq_setRow _ g (k*2+1) _ 223 (0,0) (.slice b.p b.d.length b.q) g1];exact setRow_heap _ g _ _ _ (0,0) g1
  ·simpa using hs
  ·rw[flatB_set2 bs k b hk,Array.toList_setIfInBounds,Array.toList_setIfInBounds,List.take_set,List.take_set,ht]
 ·rcases List.mem_or_eq_of_mem_set hx with hx|rfl
  ·exact kp2.own (by decide) (h.own x hx)
  ·exact kp2.own (by decide) ob
theorem map_set(bs:List Bk)(k:Nat)(b:Bk):(bs.set k b).map Bk.d=(bs.map Bk.d).set k b.d:=by rw[List.map_set]
def DropIs(w:World)(B v:Nat)(a0:Option Addr)(ls:List (List Ent))(id:Int)(r:Ending)(w':World):Prop:=r=.returned (.bool (hasL ls.flatten id))/\(∃a',ShrA w' B (if hasL ls.flatten id then v+1 else v) (dropS ls id) a'/\Moved w a0 a')/\w.grownBy w' (some B)
theorem sdrop_any(B v:Nat)(a0:Option Addr)(ls:List (List Ent))(id:Int)(w:World)(hA:ShrA w B v ls a0)(hlen:ls.length<=9000)(hsum:ls.flatten.length<=100000)(hs:∀d∈ls,Srt d)(hv:v<=1000000) :
  Calls prog 88 #[.pointer (some ⟨B,0,none⟩),.int .i64 id] w (DropIs w B v a0 ls id):=by
 have h:=hA.s;have HA:Aside (ShrA w B v ls a0):=hA;obtain⟨n,hn⟩:∃n,ls.length=n:=⟨_,rfl⟩;have HN:Hid _:=hn;obtain⟨S,hS⟩:∃S,w.heap.size=S:=⟨_,rfl⟩;obtain⟨u0,hu0⟩:∃u,w.alloc (.cells #[.int .i64 id] 3)=u:=⟨_,rfl⟩;have HU0:Hid _:=hu0;have bu0:Below w.heap.size w u0:=by rw[<-hu0];exact(Below.refl _ _).alloc (le_refl _) _
 have su0:S<u0.heap.size:=by rw[<-hu0,<-hS];simp
 have cu0:u0.cell? ⟨S,0,none⟩=some (.int .i64 id):=by rw[<-hu0,<-hS];exact cell_new w _ _ 0
 have sn:=snap_any B v n ls u0 (h.below bu0) hn (by omega) (fun d hd=>by have:=mem_len hd;omega);have H:Aside (Shr w B v ls):=h;have HSR:Aside (∀d∈ls,Srt d):=hs;have hBw:B<w.heap.size:=h.lt;have BU0:Aside (Below w.heap.size w u0):=bu0;have CU0:Aside (∀W,Below u0.heap.size u0 W->W.cell? ⟨S,0,none⟩=some (.int .i64 id)):=fun W hW=>(hW.cell (p:=⟨S,0,none⟩) su0).trans cu0;have hmf:∀(fn:Fn)(first cap:Array Value)(w:World),(Instr.makeFunc fn first cap).run prog w=.ok (.func fn first cap) w:=fun _ _ _ _=>rfl;clear h hA hs hn hu0 bu0 cu0;go_enter func88,ntmps88
 go_wp2_with fail
 rw[HU0.out];refine sn.mono ?_;rintro r w1 ⟨a1,c1,rfl,l1,b1⟩;obtain⟨S1,hS1⟩:∃S,w1.heap.size=S:=⟨_,rfl⟩;obtain⟨u,hu⟩:∃u,w1.alloc (.cells #[.int .u64 v,.slice a1 n c1] 219)=u:=⟨_,rfl⟩;have HU:Hid _:=hu;have bu1:Below w1.heap.size w1 u:=by rw[<-hu];exact(Below.refl _ _).alloc (le_refl _) _
 have bu:Below u0.heap.size u0 u:=b1.trans (bu1.mono b1.size);have us:u.heap[S1]?=some (.cells #[.int .u64 v,.slice a1 n c1] 219 (0,0)):=by rw[<-hu,<-hS1];exact heap_alloc_new w1 _
 have lu:Bls u w.heap.size a1 n c1 ls:=(l1.below bu1).low BU0.out.size
 have apart:Aside (some S1≠(Value.slice a1 n c1).ownBlock):=by
  obtain⟨bs,_,h2,h3⟩:=l1;exact own_lt (h3.row) (S:=S1) (by omega)
 have ix:=indexR_any 127 #[.pointer (some ⟨S,0,none⟩)] (fun x=>hasL x.2 id) a1 c1 (lvs ls) u lu.raw (by rw[lvs_len,HN.out];have:=HN.out;omega) (enters_of func127 (by kernel_rfl) rfl)
  (fun x r t W _ hW hL=>drop1_any S id x.1 r t x.2 W hL (by have:=bu.size;have:=hW.size;omega) (CU0.out W (bu.trans (hW.mono bu.size))))
 rw[lvs_find ls (fun d=>hasL d id) (fun x=>hasL x.2 id) (fun d=>rfl),lvs_len,HN.out,<-firstB_findIdx] at ix;have BU:Aside (Below u0.heap.size u0 u):=bu;have US:Aside (u.heap[S1]?=some (.cells #[.int .u64 v,.slice a1 n c1] 219 (0,0))):=us;have LU:Aside (Bls u w.heap.size a1 n c1 ls):=lu;have SS1:S<S1:=by have:=b1.size;omega
 have k0:=shr0 us;have k1:=shr1 us;clear hu bu1 bu us lu l1 b1 sn
 go_wp2_with fail
 rw[HU.out];refine ix.mono ?_;rintro r w2 ⟨z,rfl,fi,b2⟩;have B2:Aside (Below u.heap.size u w2):=b2;have BW2:Aside (Below w.heap.size w w2):=BU0.out.trans ((BU.out.trans (b2.mono BU.out.size)).mono BU0.out.size);have us2:=(b2.block S1 (lt_of_block US.out)).trans US.out;have US2:Aside (w2.heap[S1]?=some (.cells #[.int .u64 v,.slice a1 n c1] 219 (0,0))):=us2;have L2:Aside (Bls w2 w.heap.size a1 n c1 ls):=LU.out.below b2;have i0:=shr0 us2;have i1:=shr1 us2;clear b2 ix us2 k0 k1;rcases fi with⟨rfl,hno⟩|⟨hlt,rfl⟩
 ·have hh:hasL ls.flatten id=false:=by
   cases e:hasL ls.flatten id with
   | false=>rfl
   | true=>have:=firstB_has.2 e;rw[HN.out] at this;omega
  have hd:dropS ls id=ls:=by unfold dropS;rw[if_neg (by rw[HN.out];omega)]
  have FIN:Aside (DropIs w B v a0 ls id (.returned (.bool false)) w2):=⟨by rw[hh],by rw[hh,hd];exact⟨a0,HA.out.below BW2.out,.inl rfl⟩,grown_of_below BW2.out _⟩;clear hno hh hd
  go_wp2
  go_ret;exact FIN.out
 ·obtain⟨k,hk⟩:∃k,firstB ls id=k:=⟨_,rfl⟩;have hlt0:firstB ls id<ls.length:=by rw[HN.out];exact hlt
  have hh:hasL ls.flatten id=true:=firstB_has.1 hlt0;rw[hk] at hlt⊢;have HH:Hid _:=hh;have hkl:k<ls.length:=by rw[HN.out];exact hlt
  have ed:dropS ls id=if (outL id ls[k]).length=0 then ls.eraseIdx k else ls.set k (outL id ls[k]):=by
   unfold dropS;rw[if_pos hlt0,hk];unfold cutB;rw[List.getElem?_eq_getElem hkl,Option.getD_some]
  have ED:Hid _:=ed;obtain⟨bs,hb1,hb2,hb3⟩:=L2.out;have hkb:k<bs.length:=by rw[hb2];exact hlt
  have xd:bs[k].d=ls[k]:=by
   have:(bs.map Bk.d)[k]?=ls[k]?:=by rw[hb1]
   rw[List.getElem?_map,List.getElem?_eq_getElem hkb,List.getElem?_eq_getElem hkl] at this;simpa using this
  obtain⟨g,ha,hbg,hgs,c0,c1'⟩:=hb3.at hkb;obtain⟨x,hx⟩:∃x,bs[k]=x:=⟨_,rfl⟩;rw[hx] at c0 c1' xd;have ox:=hb3.own x (by rw[<-hx];exact getElem_mem hkb);have sx:Srt x.d:=by rw[xd];exact HSR.out _ (getElem_mem hkl)
  have lx:x.d.length<=100000:=by have:=mem_len (getElem_mem hkl);rw[<-xd] at this;omega
  have sh:=shrink_any (lv x.d) x.p x.q x.d 130 #[.pointer (some ⟨S,0,none⟩)] (fun o=>decide (o=id)) w2 ox.is lx (enters_of func130 (by kernel_rfl) rfl) (fun o W hW=>drop2_any S id o W (CU0.out W ((BU.out.trans (B2.out.mono BU.out.size)).trans (hW.mono (le_trans BU.out.size B2.out.size)))));rw[keep_out,outL_srt sx] at sh;obtain⟨E,hE⟩:∃E,outL id x.d=E:=⟨_,rfl⟩;have HE:Hid (outL id ls[k]=E):=by show _=_;rw[<-xd];exact hE
  rw[hE] at sh;obtain⟨m,hm⟩:∃m,lv x.d=m:=⟨_,rfl⟩;obtain⟨kl,hkl2⟩:∃m,x.d.length=m:=⟨_,rfl⟩;obtain⟨xp,hxp⟩:∃m,x.p=m:=⟨_,rfl⟩;obtain⟨xq,hxq⟩:∃m,x.q=m:=⟨_,rfl⟩;rw[hm] at c0 sh;rw[hkl2,hxp,hxq] at c1' sh;obtain⟨KE,hKE⟩:∃E',E.length=E':=⟨_,rfl⟩;obtain⟨ME,hME⟩:∃E',lv E=E':=⟨_,rfl⟩;have HKE:Hid _:=hKE;have HME:Hid _:=hME;have sh2:=sh.mono (R':=MadeO w2 ME KE E) fun r w' hm=>hm.o hKE hME;have HB1:Hid (bs.map Bk.d=ls):=hb1;have HB2:Hid (bs.length=n):=hb2;have R2:Aside (RowB 223 w2 w.heap.size (.slice a1 n c1) bs):=hb3;have z0:¬(k:Int)<0:=by omega
  have z1:(k:Int)<(n:Int):=by omega
  have SE:Aside (Srt E):=by rw[<-hE];exact sx.filter _
  have elen:E.length<=100000:=by rw[<-hE];exact le_trans (outL_len _ _) lx
  have ELEN:Hid _:=elen;subst ha;clear hk hh hlt0 ed hb1 hb2 hb3 hx xd ox sx lx sh hE hm hkl2 hxp hxq hKE hME elen L2
  go_wp2_with fail
  refine sh2.mono ?_;rintro r w3 ⟨a3,c3,rfl,o3,b3⟩;obtain⟨S7,hS7⟩:∃S,w3.heap.size=S:=⟨_,rfl⟩;obtain⟨u3,hu3⟩:∃u,w3.alloc (.cells #[.int .i64 ME,.slice a3 KE c3] 223)=u:=⟨_,rfl⟩;have HU3:Hid _:=hu3;have bu3:Below w3.heap.size w3 u3:=by rw[<-hu3];exact(Below.refl _ _).alloc (le_refl _) _
  have b23:Below w2.heap.size w2 u3:=b3.trans (bu3.mono b3.size);have us7:u3.heap[S7]?=some (.cells #[.int .i64 ME,.slice a3 KE c3] 223 (0,0)):=by rw[<-hu3,<-hS7];exact heap_alloc_new w3 _
  have us3:=(b23.block S1 (lt_of_block US2.out)).trans US2.out;have R3:Aside (RowB 223 u3 w.heap.size (.slice (some ⟨g,0,none⟩) n c1) bs):=R2.out.below b23;have O3:Aside (OwnE u3 w.heap.size (.slice a3 KE c3) E):=(o3.low BW2.out.size).below bu3;have BW3:Aside (Below w.heap.size w u3):=BW2.out.trans (b23.mono BW2.out.size);have US3:Aside (u3.heap[S1]?=some (.cells #[.int .u64 v,.slice (some ⟨g,0,none⟩) n c1] 219 (0,0))):=us3;have us3':=(b3.block S1 (lt_of_block US2.out)).trans US2.out;have W0:=shr0 us3';have W1:=shr1 us3';have R3':=R2.out.below b3;obtain⟨_,hge',_,hgw3,Y0,Y1⟩:=R3'.at hkb;injection hge' with hge'
  injection hge' with hge'
  subst hge';have ngS7:¬g=S7:=by omega
  have nS1S7:¬S1=S7:=by have:=lt_of_block us3';omega
  have lS1S7:S1<S7:=by have:=lt_of_block us3';omega
  have lgS7:g<S7:=by omega
  have gw:u3.heap[g]?=w3.heap[g]?:=bu3.block g hgw3;have GW:Hid _:=gw;have gS1:some S1≠some g:=by have:=apart.out;simpa [Value.ownBlock] using this
  have gS7:S7≠g:=by have:=b3.size;omega
  have e0:=shr0 us3;have e1:=shr1 us3;have t0:=shr0 us7;have t1:=shr1 us7;have nSB:some S1≠some B:=fun e=>by injection e with e;omega
  have g3:g<u3.heap.size:=by have:=b23.size;omega
  clear hu3 bu3 b23 o3 b3 sh2 us7 us3 c0 c1' i0 i1 R2 us3' R3' gw;by_cases hz:KE=0
  ·subst hz;have dl:=fun W (hW:Below u3.heap.size u3 W)=>delete_any (some ⟨g,0,none⟩) n c1 k w.heap.size bs W (R3.out.below hW) HB2.out hlt;obtain⟨n1,hn1⟩:∃n1,n-1=n1:=⟨_,rfl⟩;have HN1:Hid _:=hn1;rw[hn1] at dl;have DL:Aside (∀W,Below u3.heap.size u3 W->Calls prog 132 #[.slice (some ⟨g,0,none⟩) n c1,.int .i64 k,.int .i64 ((k:Int)+1)] W fun r w'=>r=.returned (.slice (some ⟨g,0,none⟩) n1 c1)/\TurnsB W w.heap.size (.slice (some ⟨g,0,none⟩) n c1) (.slice (some ⟨g,0,none⟩) n1 c1) (bs.eraseIdx k) w'):=dl;have hb0:Below u3.heap.size u3 u3.drew:=(Below.refl _ _).drew;have KC:Aside (∀W:World,W.heap[S1]?=some (.cells #[.int .u64 v,.slice (some ⟨g,0,none⟩) n c1] 219 (0,0))->W.cell? ⟨S1,0,none⟩=some (.int .u64 v)/\W.cell? ⟨S1,1,none⟩=some (.slice (some ⟨g,0,none⟩) n c1)):=fun W hW=>⟨shr0 hW,shr1 hW⟩;have f0:u3.drew.heap[S1]?=some (.cells #[.int .u64 v,.slice (some ⟨g,0,none⟩) n c1] 219 (0,0)):=US3.out;have q1:IntKind.i64.wrap ((k:Int)+1)=(k:Int)+1:=by rw[IntKind.wrap_i64];omega
   have em:(bs.eraseIdx k).map Bk.d=ls.eraseIdx k:=by rw[map_erase,HB1.out]
   have EM:Hid _:=em;have el:(bs.eraseIdx k).length=n1:=by rw[List.length_eraseIdx,if_pos hkb,HB2.out];exact hn1
   have ELN:Hid _:=el
   have SW:Aside (∀W:World,Below w.heap.size w W->RowB 223 W w.heap.size (.slice (some ⟨g,0,none⟩) n1 c1) (bs.eraseIdx k)->Calls prog 131 #[.pointer (some ⟨B,0,none⟩),.int .u64 v,.slice (some ⟨g,0,none⟩) n1 c1] W fun r w'=>r=.returned (.bool true)/\ShrN W.heap.size w' B (v+1) (ls.eraseIdx k)/\W.grownBy w' (some B)):=fun W hW hr=>by
    refine swap_any B v ls (ls.eraseIdx k) _ n1 c1 W (H.out.below hW) hv (by have:=hr.raw;rw[EM.out] at this;exact this) (fun d hd=>HSR.out d (List.mem_of_mem_eraseIdx hd)) (by rw[<-EM.out,length_map];exact ELN.out) (by have:=HN1.out;have:=HN.out;omega) (fun d hd=>by have:=mem_len (List.mem_of_mem_eraseIdx hd);omega)
   have BW3d:Below w.heap.size w u3.drew:=BW3.out.trans (hb0.mono BW3.out.size);clear dl hn1 em el e0 e1;have mx:=mixed
   go_wp2_with fail
   rw[HU3.out]
   go_region_held3 (fun W=>W.cell? ⟨S1,0,none⟩=some (.int .u64 v)/\W.cell? ⟨S1,1,none⟩=some (.slice (some ⟨g,0,none⟩) n c1)) (first|with_reducible exact KC.out _ f0|with_reducible exact KC.out _ f4|with_reducible exact KC.out _ f5)
    ((first
     | (go_at_call 131;(with_reducible refine Calls.mono (SW.out _ b4 t41) ?_);rintro r w5 ⟨rfl,s5,g5⟩;have f5:w5.heap[S1]?=some (.cells #[.int .u64 v,.slice (some ⟨g,0,none⟩) n c1] 219 (0,0)):=(g5.block S1 (lt_of_block f4) nSB).trans f4)
     | (go_at_call 132;(with_reducible refine Calls.mono (DL.out _ hb0) ?_);rintro r w4 ⟨rfl,t4⟩;have t41:=t4.1;have f4:w4.heap[S1]?=some (.cells #[.int .u64 v,.slice (some ⟨g,0,none⟩) n c1] 219 (0,0)):=(t4.2.block S1 (lt_of_block f0) gS1).trans f0;have b4:Below w.heap.size w w4:=BW3d.trans (below_of_grown (B:=g) t4.2 hbg BW3d.size))))
   have FIN:Aside (DropIs w B v a0 ls id (.returned (.bool true)) w5):=⟨by rw[HH.out],by rw[HH.out,ED.out,HE.out,if_pos HKE.out];obtain⟨a9,s9,n9⟩:=s5;exact⟨a9,s9,.inr fun x hx=>le_trans b4.size (n9 x hx)⟩,grown_trans (grown_of_below b4 _) g5⟩;clear s5 g5 f5 f4 t4 t41 b4
   go_wp2
   go_ret;exact FIN.out
  ·have hz2:¬(KE:Int)=0:=by omega
   have hz3:((KE:Int)==0)=false:=by simp;omega
   have rs:=R3.out.set2 HB2.out k ⟨E,a3,c3⟩ hkb (by rw[HKE.out];exact O3.out);simp only[HKE.out,HME.out] at rs;obtain⟨w4,hw4⟩:∃W,(u3.setCell ⟨g,k*2,none⟩ (.int .i64 ME)).setCell ⟨g,k*2+1,none⟩ (.slice a3 KE c3)=W:=⟨_,rfl⟩;rw[hw4] at rs;have HW4:Hid _:=hw4;have b4:Below w.heap.size w w4:=BW3.out.trans (below_of_grown rs.2 hbg BW3.out.size);have f4:w4.heap[S1]?=some (.cells #[.int .u64 v,.slice (some ⟨g,0,none⟩) n c1] 219 (0,0)):=(rs.2.block S1 (lt_of_block US3.out) gS1).trans US3.out;have q0:=shr0 f4;have q1:=shr1 f4;have em:(bs.set k ⟨E,a3,c3⟩).map Bk.d=ls.set k E:=by rw[map_set,HB1.out]
   have el:(bs.set k ⟨E,a3,c3⟩).length=n:=by rw[length_set,HB2.out]
   have sw:=swap_any B v ls (ls.set k E) (some ⟨g,0,none⟩) n c1 w4 (H.out.below b4) hv (by have:=rs.1.raw;rw[em] at this;exact this) (fun d hd=>by
    rcases List.mem_or_eq_of_mem_set hd with hd|rfl
    ·exact HSR.out d hd
    ·exact SE.out) (by rw[length_set];exact HN.out) (by have:=HN.out;omega) (fun d hd=>by
    rcases List.mem_or_eq_of_mem_set hd with hd|rfl
    ·have:=mem_len hd;omega
    ·have:=ELEN.out;omega)
   obtain⟨gcur,gh⟩:∃cur,u3.heap[g]?=some (.cells cur 223 (0,0)):=by
    rcases R3.out.row.2 with⟨e,_⟩|⟨g',cap',cur,e,_,h2,_⟩
    ·cases e
    ·injection e with e1
     injection e1 with e1
     injection e1 with e1
     subst e1;exact⟨cur,h2⟩
   have zf0:u3.frozen? ⟨g,k*2,none⟩=false:=by simp[World.frozen?,gh]
   have zf1:u3.frozen? ⟨g,k*2+1,none⟩=false:=by simp[World.frozen?,gh]
   have gh3:=GW.out.symm.trans gh;have zf2:w3.frozen? ⟨g,k*2,none⟩=false:=by simp[World.frozen?,gh3]
   have zf3:w3.frozen? ⟨g,k*2+1,none⟩=false:=by simp[World.frozen?,gh3]
   rw[<-HU3.out] at zf0 zf1;have BW4:Aside (Below w.heap.size w w4):=b4;have nS1g:¬S1=g:=fun e=>gS1 (by rw[e]);have ngS1:¬g=S1:=fun e=>gS1 (by rw[e])
   have hw5:((w3.setCell ⟨g,k*2,none⟩ (.int .i64 ME)).setCell ⟨g,k*2+1,none⟩ (.slice a3 KE c3)).alloc (.cells #[.int .i64 ME,.slice a3 KE c3] 223)=w4:=by
    rw[<-hw4,<-HU3.out,World.setCell_alloc_past _ g _ _ (by omega),World.setCell_alloc_past _ g _ _ (by simp[World.setCell];omega)]
   clear rs hw4 f4 em el b4 gh gh3
   go_wp2_with fail
   try rw[hw5]
   refine sw.mono ?_;rintro r w5 ⟨rfl,s5,g5⟩;have FIN:Aside (DropIs w B v a0 ls id (.returned (.bool true)) w5):=⟨by rw[HH.out],by rw[HH.out,if_pos rfl,ED.out,HE.out,if_neg (by rw[HKE.out];exact hz)];obtain⟨a9,s9,n9⟩:=s5;exact⟨a9,s9,.inr fun x hx=>le_trans BW4.out.size (n9 x hx)⟩,grown_trans (grown_of_below BW4.out _) g5⟩;clear s5 g5 sw
   go_wp2
   go_ret;exact FIN.out
end
end Go.Proofs.YtjpbngiddjkjiaaGreatDoor.Qu
