import Derived.Test.YthpgfmmpjoodkaaGreatDoorUJN
import Derived.Deep.OwnRows
import Derived.WalkSmall
namespace Go.Proofs.YthpgfmmpjoodkaaGreatDoor.Qu
set_option maxHeartbeats 8000000
set_option maxRecDepth 100000
set_option linter.unusedVariables false
open Go.RowKit Go.Lib Go.Sort
def dropLs(ls:List (List Ent))(id:Int):List (List Ent):=if firstB ls id<ls.length then dropB ls id (firstB ls id) else ls
theorem dropLs_fall{ls:List (List Ent)}(h:Fall ls)(id:Int):Fall (dropLs ls id):=by
 unfold dropLs
 split
 ·exact dropB_fall h id _
 ·exact h
theorem dropLs_len{ls:List (List Ent)}(id:Int):(dropLs ls id).flatten.length<=ls.flatten.length:=by
 unfold dropLs
 split
 ·exact dropB_len id ‹_›
 ·exact Nat.le_refl _
theorem l7keep_out(id:Int)(d:List Ent):keepL (fun o=>decide (o=id)) d=outL id d:=rfl
theorem l7outL_srt{d:List Ent}(h:Srt d)(id:Int):sortE (outL id d)=outL id d:=sortE_id (h.filter _)
theorem l7hasFn_any(S:Nat)(id:Int)(x:Ent)(W:World)(hS:S<W.heap.size)(c0:W.cell? ⟨S,0,none⟩=some (.int .i64 id)) :
  Calls Tryz.prog 258 #[.agg #[.int .u64 x.1,.int .i64 x.2],.pointer (some ⟨S,0,none⟩)] W fun e w'=>e=.returned (.bool (decide (x.2=id)))/\Grown W w':=by
 have e:decide (x.2=id)=(x.2==id):=by by_cases h:x.2=id<;>simp[h]
 rw[e];have c1:(W.alloc (.cells #[.int .u64 x.1,.int .i64 x.2] 36)).cell? ⟨S,0,none⟩=some (.int .i64 id):=(cell_old W _ 0 hS).trans c0;have hS2:¬S=W.heap.size:=by omega
 go_enter Tryz.func258,Tryz.ntmps258
 go_wp2
 go_ret;exact⟨rfl,(Grown.refl W).alloc _⟩
theorem l7contains_any(S:Nat)(id:Int)(a:Option Addr)(cap:Nat)(d:List Ent)(w:World)(h:IsL w a cap d)(hS:S<w.heap.size)(c0:w.cell? ⟨S,0,none⟩=some (.int .i64 id)) :
  Calls Tryz.prog 251 #[.slice a d.length cap,.func (.func 258) #[] #[.pointer (some ⟨S,0,none⟩)]] w fun e w'=>e=.returned (.bool (hasL d id))/\Grown w w':=by
 have ix:=indexFunc_any a cap d 258 #[.pointer (some ⟨S,0,none⟩)] (fun x=>decide (x.2=id)) w h (enters_of Tryz.func258 (by kernel_rfl) rfl)
  (fun x W hW=>l7hasFn_any S id x W (by have:=hW.below.size;omega) ((hW.below.cell (p:=⟨S,0,none⟩) hS).trans c0))
 clear h c0;go_enter Tryz.func251,Tryz.ntmps251
 go_wp2_with fail
 refine ix.mono ?_;rintro r w1 ⟨z,rfl,fi,g1⟩;have G1:Aside (Grown w w1):=g1;clear g1 ix;rcases fi with⟨rfl,hno⟩|⟨k,hk,rfl,hyes,hno⟩
 ·have hh:hasL d id=false:=hasL_none fun i hi=>by simpa using hno i hi
  have HH:Hid _:=hh;clear hno hh
  go_wp2
  go_ret;exact⟨by rw[HH.out];rfl,G1.out⟩
 ·have hh:hasL d id=true:=hasL_at k hk (by simpa using hyes);have HH:Hid _:=hh;have k0:(0:Int)<=(k:Int):=by omega
  clear hno hyes hh
  go_wp2
  go_ret;exact⟨by rw[HH.out];rfl,G1.out⟩
theorem l7lhas_any(i id:Int)(a:Option Addr)(cap:Nat)(d:List Ent)(w:World)(h:IsL w a cap d) :
  Calls Tryz.prog 201 #[.agg #[.int .i64 i,.slice a d.length cap],.int .i64 id] w fun e w'=>e=.returned (.bool (hasL d id))/\Below w.heap.size w w':=by
 obtain⟨S,hS⟩:∃S,w.heap.size=S:=⟨_,rfl⟩;obtain⟨n,hn⟩:∃n,d.length=n:=⟨_,rfl⟩;obtain⟨u,hu⟩:∃u,(w.alloc (.cells #[.int .i64 i,.slice a n cap] 290)).alloc (.cells #[.int .i64 id] 3)=u:=⟨_,rfl⟩;have HU:Hid _:=hu;have b0:Below w.heap.size w u:=by rw[<-hu];exact((Below.refl _ _).alloc (Nat.le_refl _) _).alloc (by simp) _
 have su:u.heap.size=S+2:=by rw[<-hu,<-hS];simp
 have c0:u.cell? ⟨S+1,0,none⟩=some (.int .i64 id):=by
  have:=cell_new (w.alloc (.cells #[.int .i64 i,.slice a n cap] 290)) #[.int .i64 id] 3 0;rw[hu] at this;simpa [hS] using this
 have ct:=l7contains_any (S+1) id a cap d u (h.below b0) (by omega) c0;rw[hn] at ct⊢;have B0:Aside (Below w.heap.size w u):=b0;obtain⟨Y,hY⟩:∃Y,hasL d id=Y:=⟨_,rfl⟩;rw[hY] at ct⊢;have hmf:∀(fn:Fn)(first cap:Array Value)(w:World),(Instr.makeFunc fn first cap).run Tryz.prog w=.ok (.func fn first cap) w:=fun _ _ _ _=>rfl;clear hu b0 su c0 h hn hY;go_enter Tryz.func201,Tryz.ntmps201
 go_wp2_with fail
 rw[HU.out];refine ct.mono ?_;rintro r w1 ⟨rfl,g1⟩;have B1:Aside (Below w.heap.size w w1):=B0.out.trans (g1.below.mono B0.out.size);clear g1 ct
 go_wp2
 go_ret;exact⟨rfl,B1.out⟩
theorem l7drop1_any(S:Nat)(id i:Int)(a:Option Addr)(cap:Nat)(d:List Ent)(W:World)(h:IsL W a cap d)(hS:S<W.heap.size)(c0:W.cell? ⟨S,0,none⟩=some (.int .i64 id)) :
  Calls Tryz.prog 200 #[.agg #[.int .i64 i,.slice a d.length cap],.pointer (some ⟨S,0,none⟩)] W fun e w'=>e=.returned (.bool (hasL d id))/\Below W.heap.size W w':=by
 obtain⟨R,hR⟩:∃R,W.heap.size=R:=⟨_,rfl⟩;obtain⟨n,hn⟩:∃n,d.length=n:=⟨_,rfl⟩;obtain⟨u,hu⟩:∃u,W.alloc (.cells #[.int .i64 i,.slice a n cap] 290)=u:=⟨_,rfl⟩;have HU:Hid _:=hu;have b0:Below W.heap.size W u:=by rw[<-hu];exact(Below.refl _ _).alloc (Nat.le_refl _) _
 have hs:=l7lhas_any i id a cap d u (h.below b0);rw[hn] at hs⊢;have B0:Aside (Below W.heap.size W u):=b0;have sS:S<R:=by omega
 obtain⟨Y,hY⟩:∃Y,hasL d id=Y:=⟨_,rfl⟩;rw[hY] at hs⊢;clear hu b0 h hn hY;go_enter Tryz.func200,Tryz.ntmps200
 go_wp2_with fail
 rw[HU.out];refine hs.mono ?_;rintro r w1 ⟨rfl,g1⟩;have B1:Aside (Below W.heap.size W w1):=B0.out.trans (g1.mono B0.out.size);clear g1 hs
 go_wp2
 go_ret;exact⟨rfl,B1.out⟩
theorem l7drop2_any(S:Nat)(id o:Int)(W:World)(c0:W.cell? ⟨S,0,none⟩=some (.int .i64 id)) :
  Calls Tryz.prog 202 #[.int .i64 o,.pointer (some ⟨S,0,none⟩)] W fun e w'=>e=.returned (.bool (decide (o=id)))/\Below W.heap.size W w':=by
 have e:decide (o=id)=(o==id):=by by_cases h:o=id<;>simp[h]
 rw[e];go_enter Tryz.func202,Tryz.ntmps202
 go_wp2
 go_ret;exact⟨rfl,Below.refl _ _⟩
def BlAt(w:World)(a:Option Addr)(ls:List (List Ent)):Prop:=∀(i:Nat)(hi:i<ls.length),∃g p q,a=some ⟨g,0,none⟩/\g<w.heap.size/\∀W,Below w.heap.size w W->W.cell? ⟨g,i*2,none⟩=some (.int .i64 (lv ls[i]))/\W.cell? ⟨g,i*2+1,none⟩=some (.slice p ls[i].length q)/\IsL W p q ls[i]
theorem indexB_any(S:Nat)(id:Int)(a:Option Addr)(cap:Nat)(ls:List (List Ent))(w:World)(h:BlAt w a ls)(hl:ls.length<=10000)(hS:S<w.heap.size)(c0:w.cell? ⟨S,0,none⟩=some (.int .i64 id)) :
  Calls Tryz.prog 189 #[.slice a ls.length cap,.func (.func 200) #[] #[.pointer (some ⟨S,0,none⟩)]] w fun r w'=>∃z:Int,r=.returned (.int .i64 z)/\((z = -1/\firstB ls id=ls.length)\/(firstB ls id<ls.length/\z=(firstB ls id:Nat)))/\Below w.heap.size w w':=by
 have H:Aside (BlAt w a ls):=h;have EG:=enters_of Tryz.func200 (by kernel_rfl) rfl;obtain⟨n,hn⟩:∃n,ls.length=n:=⟨_,rfl⟩;have HN:Hid _:=hn;rw[hn] at hl⊢;have CS:Aside (∀W,Below w.heap.size w W->S<W.heap.size/\W.cell? ⟨S,0,none⟩=some (.int .i64 id)):=fun W hW=>⟨by have:=hW.size;omega,(hW.cell (p:=⟨S,0,none⟩) hS).trans c0⟩;clear h c0 hn;go_enter Tryz.func189,Tryz.ntmps189
 go_wp2
 go_loopg [8] n (fun kx s8 wr=>∃k:Nat,s8=.int .i64 k/\k<=n/\n-k<=kx/\Aside (Below w.heap.size w wr)/\Aside (∀i (hi:i<ls.length),i<k->hasL ls[i] id=false))
 case atStart=>exact⟨0,rfl,by omega,by omega,Below.refl _ _,(fun i _ h=>absurd h (by omega):∀i (hi:i<ls.length),i<0->hasL ls[i] id=false)⟩
 case round=>
  obtain⟨k,rfl,hk,hkx,D,A⟩:=hrel;by_cases hlt:k<n
  ·have hz:(k:Int)<(n:Int):=by omega
   have hkl:k<ls.length:=by rw[HN.out];exact hlt
   obtain⟨g,p,q,ha,hg,hcs⟩:=H.out k hkl;obtain⟨c0,c1,L⟩:=hcs wr D.out;obtain⟨d,hd⟩:∃d,ls[k]=d:=⟨_,rfl⟩;have HD:Hid _:=hd;rw[hd] at c0 c1 L;obtain⟨Y,hY⟩:∃Y,hasL d id=Y:=⟨_,rfl⟩;have HY:Hid _:=hY;have pc:=l7drop1_any S id (lv d) p q d wr L (CS.out wr D.out).1 (CS.out wr D.out).2;obtain⟨m,hm⟩:∃m,lv d=m:=⟨_,rfl⟩;obtain⟨kl,hkl2⟩:∃m,d.length=m:=⟨_,rfl⟩;rw[hm] at c0 pc;rw[hkl2] at c1 pc;rw[hY] at pc;have HA:Hid _:=ha;have hs:=D.out.size;clear hY hm hkl2 hd L hcs;subst ha
   go_wp2_with fail
   refine pc.mono ?_;rintro r w1 ⟨rfl,g1⟩;have D2:Aside (Below w.heap.size w w1):=D.out.trans (g1.mono hs);clear g1 D c0 c1 pc
   cases Y with
   | true=>
    have fb:=firstB_at hkl (by rw[HD.out];exact HY.out) (fun i hi=>A.out i (by omega) hi);have FB:Hid _:=fb;clear fb
    go_wp2
    go_ret;refine⟨k,rfl,.inr ⟨by rw[FB.out];exact hlt,by rw[FB.out]⟩,D2.out⟩
   | false=>
    go_wp2
    go_roundg (n-(k+1))
    case measure=>omega
    case rel=>
     refine⟨k+1,by go_num,by omega,Nat.le_refl _,D2,(fun i hi hik=>?_:∀i (hi:i<ls.length),i<k+1->hasL ls[i] id=false)⟩;by_cases e:i=k
     ·subst e;rw[HD.out];exact HY.out
     ·exact A.out i hi (by omega)
  ·have hz:¬(k:Int)<(n:Int):=by omega
   have fb:=firstB_none (ls:=ls) (id:=id) (fun d hd=>by
    obtain⟨i,hi,rfl⟩:=List.getElem_of_mem hd;exact A.out i hi (by have:=HN.out;omega))
   rw[HN.out] at fb;have FB:Hid _:=fb;clear fb
   go_wp2
   go_ret;exact⟨-1,rfl,.inl ⟨rfl,FB.out⟩,D.out⟩
theorem lsm_less{w:World}{base B n cap:Nat}{a:Option Addr}{bs:List Bk}{w':World}{k:Nat}(hB:base<=B)(hc:w.heap[B]?=some (.cells #[.slice a n cap] 230 (0,0)))(hr:RowB 290 w base (.slice a n cap) bs)(hn:bs.length=n)(hk:k<n)(t:TurnsB w base (.slice a n cap) (.slice a (n-1) cap) (bs.eraseIdx k) w')(hbase:base<=w.heap.size) :
  w'.heap[B]?=some (.cells #[.slice a n cap] 230 (0,0))/\LsmC (w'.setCell ⟨B,0,none⟩ (.slice a (n-1) cap)) base B ((bs.map Bk.d).eraseIdx k) a cap/\Below base w (w'.setCell ⟨B,0,none⟩ (.slice a (n-1) cap))/\Kept LB w (w'.setCell ⟨B,0,none⟩ (.slice a (n-1) cap))/\Only B a w (w'.setCell ⟨B,0,none⟩ (.slice a (n-1) cap)):=by
 have e:=t.ends hr.row hbase;have hr':=hr.row;rw[hn] at hr';have c4:w'.heap[B]?=some (.cells #[.slice a n cap] 230 (0,0)):=(t.2.block B (lt_of_block hc) (row_neB hr' hc)).trans hc;have le:(bs.eraseIdx k).length=n-1:=by rw[List.length_eraseIdx,if_pos (by omega),hn]
 refine⟨c4,⟨bs.eraseIdx k,?_,hB,?_,?_⟩,e.1.setCell hB _,e.2.trans (Kept.set c4 (.inl rfl) _),Only.set (fun k hk h1 h2=>t.2.block k hk (row_ne hr' h2)) 0 _⟩
 ·rw[List.eraseIdx_eq_take_drop_succ,List.eraseIdx_eq_take_drop_succ,List.map_append,List.map_take,List.map_drop]
 ·rw[le,setCell_row c4];rfl
 ·rw[le];exact t.1.setCell c4 (by decide) (by decide) _
theorem ldrop_any(B base:Nat)(a0:Option Addr)(ls:List (List Ent))(id:Int)(w:World)(hA:LsmA w base B ls a0)(hf:Fall ls)(hlen:ls.length<=10000)(hsum:ls.flatten.length<=10000)(hbase:base<=w.heap.size) :
  Calls Tryz.prog 135 #[.pointer (some ⟨B,0,none⟩),.int .i64 id] w fun r w'=>r=.returned (.bool (hasL ls.flatten id))/\Turned w base B a0 (dropLs ls id) w':=by
 have h:=hA.t;obtain⟨S,hS⟩:∃S,w.heap.size=S:=⟨_,rfl⟩;have HS:Hid _:=hS;obtain⟨u,hu⟩:∃u,w.alloc (.cells #[.int .i64 id] 3)=u:=⟨_,rfl⟩;have HU:Hid _:=hu;have bu:Below w.heap.size w u:=by rw[<-hu];exact(Below.refl _ _).alloc (Nat.le_refl _) _
 have su:S<u.heap.size:=by rw[<-hu,<-hS];simp
 have cu:u.cell? ⟨S,0,none⟩=some (.int .i64 id):=by rw[<-hu,<-hS];exact cell_new w _ _ 0
 have hU:=hA.below bu;obtain⟨cap,bs,hbs,hB,hcell,hrow⟩:=hU;obtain⟨a',cap',cB,hc1,hc2,hB1,hat⟩:=Lsm.at (h.below bu)
 have ea:a0=a'/\cap'=cap/\ls.length=bs.length:=by
  have:=lsm_cell hcell;rw[cB] at this;simp only[Option.some.injEq,Value.slice.injEq] at this;exact⟨this.1.symm,this.2.2,this.2.1⟩
 obtain⟨ea0,rfl,el⟩:=ea;subst ea0;have ix:=indexB_any S id a0 cap' ls u hat hlen su cu;obtain⟨n,hn⟩:∃n,ls.length=n:=⟨_,rfl⟩;have HN:Hid _:=hn;rw[hn] at cB ix hlen el;have hmf:∀(fn:Fn)(first cap:Array Value)(w:World),(Instr.makeFunc fn first cap).run Tryz.prog w=.ok (.func fn first cap) w:=fun _ _ _ _=>rfl;have BU:Aside (Below w.heap.size w u):=bu;have CU:Aside (u.cell? ⟨S,0,none⟩=some (.int .i64 id)):=cu;have LU:Aside (LsmA u base B ls a0):=hA.below bu;have CE:Aside (u.heap[B]?=some (.cells #[.slice a0 n cap'] 230 (0,0))):=by rw[el];exact hcell
 have RW:Aside (RowB 290 u base (.slice a0 n cap') bs):=by rw[el];exact hrow
 have HBS:Hid (bs.map Bk.d=ls):=hbs;have HF:Aside (Fall ls):=hf;have EL:Hid (n=bs.length):=el;have BS:B<S:=by rw[<-hS];exact h.lt.2
 have cBw:w.cell? ⟨B,0,none⟩=some (.slice a0 n cap'):=(bu.cell (p:=⟨B,0,none⟩) (by show B<_;omega)).symm.trans cB;clear hu bu cu hcell hrow hbs hf hat h hA hc1 el hn cB;go_enter Tryz.func135,Tryz.ntmps135
 go_wp2_with fail
 rw[HU.out];refine ix.mono ?_;rintro r w1 ⟨z,rfl,fi,b1⟩;have B1:Aside (Below u.heap.size u w1):=b1;clear b1 ix;rcases fi with⟨rfl,hno⟩|⟨hlt,rfl⟩
 ·have hh:hasL ls.flatten id=false:=by
   cases e:hasL ls.flatten id with
   | false=>rfl
   | true=>have:=firstB_has.2 e;rw[HN.out] at this;omega
  have hd:dropLs ls id=ls:=by unfold dropLs;rw[if_neg (by rw[HN.out];omega)]
  have bw:Below w.heap.size w w1:=BU.out.trans (B1.out.mono BU.out.size);have FIN:Aside (Turned w base B a0 (dropLs ls id) w1):=by rw[hd];exact⟨a0,LU.out.below B1.out,bw.mono hbase,Kept.of_below bw,Only.below bw,Moved.refl _ _⟩
  have HH:Hid _:=hh;clear hh hd bw hno
  go_wp2
  go_ret;exact⟨by rw[HH.out];rfl,FIN.out⟩
 ·obtain⟨k,hk⟩:∃k,firstB ls id=k:=⟨_,rfl⟩;have hlt0:firstB ls id<ls.length:=by rw[HN.out];exact hlt
  have hh:hasL ls.flatten id=true:=firstB_has.1 hlt0;rw[hk] at hlt⊢;have HK:Hid _:=hk;have HH:Hid _:=hh;have hkl:k<ls.length:=by rw[HN.out];exact hlt
  have hkb:k<bs.length:=by rw[<-EL.out];exact hlt
  -- the block
  have R1:Aside (RowB 290 w1 base (.slice a0 n cap') bs):=RW.out.below B1.out;have C1:Aside (w1.heap[B]?=some (.cells #[.slice a0 n cap'] 230 (0,0))):=(B1.out.block B (lt_of_block CE.out)).trans CE.out;obtain⟨g,ha,hbg,hgs,c0,c1⟩:=R1.out.at hkb;obtain⟨x,hx⟩:∃x,bs[k]=x:=⟨_,rfl⟩
  have xd:x.d=ls[k]:=by
   have:(bs.map Bk.d)[k]?=ls[k]?:=by rw[HBS.out]
   rw[List.getElem?_map,List.getElem?_eq_getElem hkb,List.getElem?_eq_getElem hkl,hx] at this;simpa using this
  rw[hx] at c0 c1;have xm:x∈bs:=by rw[<-hx];exact List.getElem_mem hkb
  have ox:=R1.out.own x xm;have sx:Srt x.d:=by rw[xd];exact HF.out.srt _ (List.getElem_mem hkl)
  have lx:x.d.length<=10000:=by
   have:=(flat_split hkl).length_eq;rw[List.length_append,<-xd] at this;omega
  have cS1:∀W,Below w1.heap.size w1 W->W.cell? ⟨S,0,none⟩=some (.int .i64 id):=fun W hW=>(hW.cell (p:=⟨S,0,none⟩) (by have:=B1.out.size;show S<_;omega)).trans ((B1.out.cell (p:=⟨S,0,none⟩) su).trans CU.out);have sh:=shrink_any (lv x.d) x.p x.q x.d 202 #[.pointer (some ⟨S,0,none⟩)] (fun o=>decide (o=id)) w1 ox.is (by omega) (enters_of Tryz.func202 (by kernel_rfl) rfl) (fun o W hW=>l7drop2_any S id o W (cS1 W hW));rw[l7keep_out,l7outL_srt sx] at sh;obtain⟨E,hE⟩:∃E,outL id x.d=E:=⟨_,rfl⟩;rw[hE] at sh;obtain⟨m,hm⟩:∃m,lv x.d=m:=⟨_,rfl⟩;obtain⟨kl,hkl2⟩:∃m,x.d.length=m:=⟨_,rfl⟩;obtain⟨xp,hxp⟩:∃m,x.p=m:=⟨_,rfl⟩;obtain⟨xq,hxq⟩:∃m,x.q=m:=⟨_,rfl⟩;rw[hm] at c0 sh;rw[hkl2,hxp,hxq] at c1 sh;obtain⟨KE,hKE⟩:∃E',E.length=E':=⟨_,rfl⟩;obtain⟨ME,hME⟩:∃E',lv E=E':=⟨_,rfl⟩;have HE:Hid (outL id ls[k]=E):=by show _=_;rw[<-xd];exact hE
  have HKE:Hid _:=hKE;have HME:Hid _:=hME;have yB:=lsm_cell C1.out;have z0:¬(k:Int)<0:=by omega
  have z1:(k:Int)<(n:Int):=by omega
  have HA:Hid (a0=some ⟨g,0,none⟩):=ha;subst ha;have EB:base<=u.heap.size:=by have:=BU.out.size;omega
  clear hk hh hlt0 hx xd xm ox sx lx cS1 hE hm hkl2 hxp hxq hKE hME
  have e0:dropLs ls id=if E.length=0 then ls.eraseIdx k else layL (ls.eraseIdx k) E:=by
   unfold dropLs;rw[if_pos (by rw[HK.out];exact hkl)];unfold dropB;rw[HK.out,List.getElem?_eq_getElem hkl,Option.getD_some,HE.out]
  have E0:Hid _:=e0;have BW1:Aside (Below w.heap.size w w1):=BU.out.trans (B1.out.mono BU.out.size);have sw1:w.heap.size<=w1.heap.size:=BW1.out.size;clear e0
  go_wp2_with fail
  refine sh.mono ?_;rintro r w2 ⟨a2,c2,rfl,o2,b2⟩;rw[show lvl E.length=ME from HME.out,HKE.out];obtain⟨R2,hR2⟩:∃R,w2.heap.size=R:=⟨_,rfl⟩;obtain⟨v2,hv2⟩:∃v,w2.alloc (.cells #[.int .i64 ME,.slice a2 KE c2] 290)=v:=⟨_,rfl⟩;have bv2:Below w2.heap.size w2 v2:=by rw[<-hv2];exact(Below.refl _ _).alloc (Nat.le_refl _) _
  have HV2:Hid _:=hv2;have b12:Below w1.heap.size w1 v2:=b2.trans (bv2.mono b2.size);have XL:Aside (Box2 R2 (.int .i64 ME) (.slice a2 KE c2) v2):=by rw[<-hv2,<-hR2];exact Box2.new _ _ _ _
  have R2':Aside (RowB 290 v2 base (.slice (some ⟨g,0,none⟩) n cap') bs):=R1.out.below b12;have C2:Aside (v2.heap[B]?=some (.cells #[.slice (some ⟨g,0,none⟩) n cap'] 230 (0,0))):=(b12.block B (lt_of_block C1.out)).trans C1.out;have OE:Aside (OwnE v2 base (.slice a2 KE c2) E):=by have:=(o2.low (Nat.le_trans hbase sw1)).below bv2;rw[HKE.out] at this;exact this
  have BV2:Aside (Below w.heap.size w v2):=BW1.out.trans (b12.mono sw1);have yB2:=lsm_cell ((b2.block B (lt_of_block C1.out)).trans C1.out);have dl:=delete_any (some ⟨g,0,none⟩) n cap' k base bs v2 R2'.out EL.out.symm hlt;obtain⟨n1,hn1⟩:∃n1,n-1=n1:=⟨_,rfl⟩;have HN1:Hid _:=hn1;rw[hn1] at dl;have gR:g<R2:=by have:=b2.size;omega
  have BR:B<R2:=by have:=lt_of_block C1.out;have:=b2.size;omega
  have nBR:¬B=R2:=by omega
  have nRB:¬R2=B:=by omega
  clear o2 b2 bv2 b12 hv2 sh hn1 c0 c1 yB R1 C1
  go_wp2_with fail
  rw[HV2.out];refine dl.mono ?_;rintro r w3 ⟨rfl,t3⟩;rw[<-HN1.out] at t3;have ll:=lsm_less hB C2.out R2'.out EL.out.symm hlt t3 (Nat.le_trans hbase BV2.out.size);rw[HN1.out,HBS.out] at ll;obtain⟨c4,l4,b4,k4,o4⟩:=ll;have y3:=lsm_cell c4;have f3:=lsm_fro c4;have x3:Box2 R2 (.int .i64 ME) (.slice a2 KE c2) w3:=XL.out.grown t3.2 (by simp only[Value.ownBlock,ne_eq,Option.some.injEq];omega);have x4:Box2 R2 (.int .i64 ME) (.slice a2 KE c2) (w3.setCell ⟨B,0,none⟩ (.slice (some ⟨g,0,none⟩) n1 cap')):=x3.other (by show B≠R2;omega) _;have i0:=x3.c0;have i1:=x3.c1;obtain⟨w4,hw4⟩:∃W,w3.setCell ⟨B,0,none⟩ (.slice (some ⟨g,0,none⟩) n1 cap')=W:=⟨_,rfl⟩;rw[hw4] at l4 b4 k4 x4 o4;have HW4:Hid _:=hw4;have L4:Aside (LsmC w4 base B (ls.eraseIdx k) (some ⟨g,0,none⟩) cap'):=l4;have O4:Aside (OwnE w4 base (.slice a2 KE c2) E):=k4.own lb_ent OE.out;have B4:Aside (Below base w w4):=(BV2.out.mono hbase).trans b4;have K4:Aside (Kept LB w w4):=(Kept.of_below BV2.out).trans k4;have ON4:Aside (Only B (some ⟨g,0,none⟩) w w4):=(Only.below BV2.out).trans o4 BV2.out.size
  have ncap:n<=cap':=by
   obtain⟨a9,c9,e,h1,h2⟩:=R2'.out.slice;injection e with _ _ e3
   have:=EL.out;omega
  have el:(ls.eraseIdx k).length=n-1:=by rw[List.length_eraseIdx,if_pos hkl,HN.out]
  have ef:=(flat_split hkl).length_eq;rw[List.length_append] at ef;have eE:E.length<=ls[k].length:=by rw[<-HE.out];exact outL_len _ _
  have EF:Hid ((ls.eraseIdx k).flatten.length+E.length<=10000):=by show _<=_;omega
  have ELN:Hid ((ls.eraseIdx k).length=n-1):=el;clear t3 l4 b4 k4 o4 x3 c4 dl hw4 el ef eE;by_cases hz:KE=0
  ·subst hz
   have FIN:Aside (Turned w base B (some ⟨g,0,none⟩) (dropLs ls id) w4):=by
    rw[E0.out,if_pos HKE.out];exact⟨_,L4.out.a,B4.out,K4.out,ON4.out,Moved.refl _ _⟩
   go_wp2_with fail
   rw[HW4.out];go_ret;exact⟨by rw[HH.out];rfl,FIN.out⟩
  ·have hz2:(0:Int)<(KE:Int):=by omega
   have ly:=lay_any B base cap' (some ⟨g,0,none⟩) (ls.eraseIdx k) E a2 c2 w4 L4.out (by rw[HKE.out];exact O4.out) (.inl (by rw[ELN.out];omega)) (by rw[ELN.out];omega) (by have:=EF.out;omega) (Nat.le_trans hbase K4.out.size);rw[HME.out,HKE.out] at ly
   go_wp2_with fail
   rw[HW4.out];refine ly.mono ?_;rintro r w5 ⟨rfl,t5⟩
   have FIN:Aside (Turned w base B (some ⟨g,0,none⟩) (dropLs ls id) w5):=by
    rw[E0.out,if_neg (by rw[HKE.out];exact hz)];obtain⟨a9,t6,t7,t8,t9,t10⟩:=t5;exact⟨a9,t6,B4.out.trans t7,K4.out.trans t8,ON4.out.trans t9 K4.out.size,t10.mono K4.out.size⟩
   clear t5 ly
   go_wp2
   go_ret;exact⟨by rw[HH.out];rfl,FIN.out⟩
section
structure Pl where
 e:Ent
 v:Nat
 f:Bool
def Pl.zero:Pl:=⟨(0,0),0,false⟩
def Pl.cell(p:Pl):Nat->Value
 | 0=>.int .u64 p.e.1
 | 1=>.int .i64 p.e.2
 | 2=>.int .u64 p.v
 | _=>.bool p.f
def slSet(g:Nat->Pl)(i:Nat)(p:Pl):Nat->Pl:=fun j=>if j=i then p else g j
theorem slSet_same(g:Nat->Pl)(i:Nat)(p:Pl):slSet g i p i=p:=by unfold slSet;rw[if_pos rfl]
theorem slSet_ne(g:Nat->Pl){i j:Nat}(p:Pl)(h:j≠i):slSet g i p j=g j:=by unfold slSet;rw[if_neg h]
theorem gr_trans{u v w:World}{row:Option Nat}(h:u.grownBy v row)(g:v.grownBy w row):u.grownBy w row:=
 ⟨g.os.trans h.os,g.tape.trans h.tape,g.output.trans h.output,Nat.le_trans h.size g.size,fun k hk hne=>(g.block k (Nat.lt_of_lt_of_le hk h.size) hne).trans (h.block k hk hne)⟩
theorem gr_set(w:World)(R o:Nat)(u:Value):w.grownBy (w.setCell ⟨R,o,none⟩ u) (some R):=
 ⟨rfl,rfl,rfl,by simp[World.setCell],fun k hk hne=>Below.heap_setCell w ⟨R,o,none⟩ u k (fun e=>hne (by rw[e]))⟩
theorem below_gr{w w':World}{R b:Nat}(h:w.grownBy w' (some R))(hb:b<=R)(hw:b<=w.heap.size):Below b w w':=
 ⟨h.os,h.tape,h.output,h.size,fun k hk=>h.block k (by omega) (by intro e;injection e with e;omega)⟩
structure Slt(w:World)(B R n:Nat)(g:Nat->Pl):Prop where
 ne:B≠R
 head:w.heap[B]?=some (.cells #[.slice (some ⟨R,0,none⟩) n n] 225 (0,0))
 row:w.rowIs R 248 (n*4) (fun j=>(g (j/4)).cell (j%4))
 most:n<=8
variable {w w':World}{B R n:Nat}{g:Nat->Pl}
theorem Slt.c0(h:Slt w B R n g):w.cell? ⟨B,0,none⟩=some (.slice (some ⟨R,0,none⟩) n n):=by simp[World.cell?,h.head]
theorem Slt.blt(h:Slt w B R n g):B<w.heap.size:=lt_of_block h.head
theorem Slt.rlt(h:Slt w B R n g):R<w.heap.size:=h.row.lt
theorem Slt.of_blocks(h:Slt w B R n g)(hb:w'.heap[B]?=w.heap[B]?)(hr:w'.heap[R]?=w.heap[R]?):Slt w' B R n g:=
 ⟨h.ne,hb.trans h.head,h.row.of_block hr,h.most⟩
theorem Slt.below(h:Slt w B R n g)(hw:Below w.heap.size w w'):Slt w' B R n g:=h.of_blocks (hw.block B h.blt) (hw.block R h.rlt)
theorem Slt.alloc(h:Slt w B R n g)(o:Obj):Slt (w.alloc o) B R n g:=h.of_blocks (Below.heap_alloc _ _ _ h.blt) (Below.heap_alloc _ _ _ h.rlt)
theorem Slt.drew(h:Slt w B R n g):Slt w.drew B R n g:=⟨h.ne,h.head,h.row,h.most⟩
theorem Slt.kept{row:Option Nat}(h:Slt w B R n g)(hw:w.grownBy w' row)(h1:some B≠row)(h2:some R≠row):Slt w' B R n g:=h.of_blocks (hw.block B h.blt h1) (hw.block R h.rlt h2)
theorem Slt.congr{g':Nat->Pl}(h:Slt w B R n g)(e:∀i,i<n->g i=g' i):Slt w B R n g':=
 ⟨h.ne,h.head,h.row.congr fun j hj=>by rw[e _ (by omega)],h.most⟩
theorem Slt.cells(h:Slt w B R n g){i:Nat}(hi:i<n){k d:Int}{v:Nat}{f:Bool}(hp:g i=⟨(k,d),v,f⟩) :
  w.cell? ⟨R,i*4,none⟩=some (.int .u64 k)/\w.cell? ⟨R,i*4+1,none⟩=some (.int .i64 d)/\w.cell? ⟨R,i*4+2,none⟩=some (.int .u64 v)/\w.cell? ⟨R,i*4+3,none⟩=some (.bool f):=by
 have h0:=h.row.cell (i:=i*4) (by omega);have h1:=h.row.cell (i:=i*4+1) (by omega);have h2:=h.row.cell (i:=i*4+2) (by omega);have h3:=h.row.cell (i:=i*4+3) (by omega);rw[show i*4/4=i by omega,show i*4%4=0 by omega,hp] at h0;rw[show(i*4+1)/4=i by omega,show(i*4+1)%4=1 by omega,hp] at h1;rw[show(i*4+2)/4=i by omega,show(i*4+2)%4=2 by omega,hp] at h2;rw[show(i*4+3)/4=i by omega,show(i*4+3)%4=3 by omega,hp] at h3;exact⟨h0,h1,h2,h3⟩
theorem Slt.free(h:Slt w B R n g)(o:Nat):w.frozen? ⟨R,o,none⟩=false:=h.row.frozen o
theorem Slt.put(h:Slt w B R n g){i:Nat}(hi:i<n)(k d:Int)(v:Nat)(f:Bool) :
  Slt ((((w.setCell ⟨R,i*4,none⟩ (.int .u64 k)).setCell ⟨R,i*4+1,none⟩ (.int .i64 d)).setCell ⟨R,i*4+2,none⟩ (.int .u64 v)).setCell ⟨R,i*4+3,none⟩ (.bool f)) B R n (slSet g i ⟨(k,d),v,f⟩)/\
   w.grownBy ((((w.setCell ⟨R,i*4,none⟩ (.int .u64 k)).setCell ⟨R,i*4+1,none⟩ (.int .i64 d)).setCell ⟨R,i*4+2,none⟩ (.int .u64 v)).setCell ⟨R,i*4+3,none⟩ (.bool f)) (some R):=by
 have gr:=gr_trans (gr_trans (gr_trans (gr_set w R (i*4) (.int .u64 k)) (gr_set _ R (i*4+1) (.int .i64 d))) (gr_set _ R (i*4+2) (.int .u64 v))) (gr_set _ R (i*4+3) (.bool f));refine⟨⟨h.ne,(gr.block B h.blt (by intro e;injection e with e;exact h.ne e)).trans h.head,((((h.row.set (i*4) (.int .u64 k)).set (i*4+1) (.int .i64 d)).set (i*4+2) (.int .u64 v)).set (i*4+3) (.bool f)).congr fun j hj=>?_,h.most⟩,gr⟩;by_cases e:j/4=i
 ·rw[e,slSet_same];have:j%4=0\/j%4=1\/j%4=2\/j%4=3:=by omega
  rcases this with m|m|m|m
  ·rw[if_neg (by omega),if_neg (by omega),if_neg (by omega),if_pos (by omega),m];rfl
  ·rw[if_neg (by omega),if_neg (by omega),if_pos (by omega),m];rfl
  ·rw[if_neg (by omega),if_pos (by omega),m];rfl
  ·rw[if_pos (by omega),m];rfl
 ·rw[slSet_ne g _ e,if_neg (by omega),if_neg (by omega),if_neg (by omega),if_neg (by omega)]
theorem infoPl:∃i,Tryz.prog.info? 248=some i/\i.zero=some (.agg #[.int .u64 0,.int .i64 0,.int .u64 0,.bool false])/\i.size=4/\i.bytes=32:=by
 have h:(Tryz.prog.info? 248).map (fun i=>(i.zero,i.size,i.bytes))=some (some (.agg #[.int .u64 0,.int .i64 0,.int .u64 0,.bool false]),4,32):=by kernel_rfl
 obtain⟨i,h1,h2⟩:=Option.map_eq_some_iff.1 h;simp at h2;exact⟨i,h1,h2.1,h2.2.1,h2.2.2⟩
theorem slMade(z:Array Value)(n j:Nat)(hj:j<n):(madeCells z n)[j]?=some (z[j%z.size]!):=by
 unfold madeCells;simp[hj]
theorem makePl_run(w:World)(n:Nat)(hn:n<=8) :
  ∃w',(Instr.makeSlice 223 (.int .i64 (n:Int)) (.int .i64 (n:Int))).run Tryz.prog w=.ok (.slice (some ⟨w.heap.size,0,none⟩) n n) w'/\w'.rowIs w.heap.size 248 (n*4) (fun j=>Pl.zero.cell (j%4))/\Below w.heap.size w w'/\w'.heap.size=w.heap.size+1:=by
 obtain⟨i,hi,hz,hs,hby⟩:=infoPl;have hm:=run_make (P:=Tryz.prog) w 223 248 i _ Tryz.underlying223 hi hz .i64 .i64 n n (by omega) (Int.le_refl _) (by rw[hby];omega) (by omega);simp only[Int.toNat_natCast,hs] at hm;refine⟨_,hm,⟨_,heap_alloc_new w _,by simp[madeCells],fun j hj=>?_⟩,(Below.refl _ _).alloc (Nat.le_refl _) _,by simp⟩;rw[slMade _ _ _ hj];show some ((#[Value.int .u64 0,.int .i64 0,.int .u64 0,.bool false]:Array Value)[j%4]!)=some (Pl.zero.cell (j%4));have:j%4=0\/j%4=1\/j%4=2\/j%4=3:=by omega
 rcases this with m|m|m|m<;>rw[m]<;>rfl
end
theorem slNew_in(n:Nat)(w:World)(S:Nat)(hS:w.heap.size=S)(h1:1<=n)(h2:n<=8) :
  Calls Tryz.prog 81 #[.int .i64 n] w fun e w'=>e=.returned (.tuple #[.pointer (some ⟨S+1,0,none⟩),.int .i64 0])/\
   Slt w' (S+1) S n (fun _=>Pl.zero)/\Below S w w'/\w'.heap.size=S+2:=by
 have g1:¬(n:Int)<1:=by omega
 have g2:¬(8:Int)<(n:Int):=by omega
 obtain⟨u,hmk,hr,hb,hz⟩:=makePl_run w n h2;rw[hS] at hmk hr hb hz
 have fin:Slt (u.alloc (.cells #[.slice (some ⟨S,0,none⟩) n n] 225)) (S+1) S n (fun _=>Pl.zero)/\Below S w (u.alloc (.cells #[.slice (some ⟨S,0,none⟩) n n] 225))/\(u.alloc (.cells #[.slice (some ⟨S,0,none⟩) n n] 225)).heap.size=S+2:=by
  refine⟨⟨by omega,by rw[<-hz];exact heap_alloc_new u _,hr.alloc _,h2⟩,hb.alloc (by omega) _,by simp[hz]⟩
 have F:Aside _:=fin;clear fin hr hb;go_enter Tryz.func81,Tryz.ntmps81
 go_wp2_with fail
 go_ret2;exact⟨by simp,F.out⟩
theorem slAt_in(w:World)(B R n:Nat)(g:Nat->Pl)(i:Nat)(h:Slt w B R n g)(hi:i<n) :
  Calls Tryz.prog 256 #[.pointer (some ⟨B,0,none⟩),.int .i64 i] w fun e w'=>e=.returned (.pointer (some ⟨R,i*4,none⟩))/\w'=w:=by
 have c0:=h.c0;have h0:¬(i:Int)<0:=by omega
 have h1:¬(n:Int)<=(i:Int):=by omega
 have h2:(i:Int)<(n:Int):=by omega
 go_enter Tryz.func256,Tryz.ntmps256
 go_wp2_with fail
 go_ret;exact⟨by simp,rfl⟩
theorem slEmpty_any(w:World)(B R n:Nat)(g:Nat->Pl)(i:Nat)(h:Slt w B R n g)(hi:i<n)(k d:Int)(v:Nat)(f:Bool)(hp:g i=⟨(k,d),v,f⟩)(hv:v<=1000000) :
  Calls Tryz.prog 197 #[.pointer (some ⟨R,i*4,none⟩)] w fun e w'=>e=.returned (.agg #[.int .u64 k,.int .i64 d])/\Slt w' B R n (slSet g i ⟨(0,0),v+1,false⟩)/\w.grownBy w' (some R):=by
 obtain⟨c0,c1,c2,c3⟩:=h.cells hi hp;have rl:=h.rlt;have f0:=h.free (i*4);have f1:=h.free (i*4+1);have f2:=h.free (i*4+2);have f3:=h.free (i*4+3);have wv:IntKind.u64.wrap ((v:Int)+1)=(v:Int)+1:=by rw[IntKind.wrap_u64,Int.emod_eq_of_lt (by omega) (by omega)]
 go_enter Tryz.func197,Tryz.ntmps197
 go_wp2_with fail
 have hs:=h.put hi 0 0 (v+1) false;rw[show((v+1:Nat):Int)=(v:Int)+1 by omega] at hs;obtain⟨W,hW⟩:∃W,(((w.setCell ⟨R,i*4,none⟩ (.int .u64 0)).setCell ⟨R,i*4+1,none⟩ (.int .i64 0)).setCell ⟨R,i*4+2,none⟩ (.int .u64 ((v:Int)+1))).setCell ⟨R,i*4+3,none⟩ (.bool false)=W:=⟨_,rfl⟩;have sz:w.heap.size=W.heap.size:=by rw[<-hW];simp[World.setCell]
 rw[hW] at hs⊢;rw[sz];refine bodyPost_ret (v:=.agg #[.int .u64 k,.int .i64 d]) (by simp[results,Tryz.results197,go_sem]) rfl ⟨rfl,(hs.1.alloc _).alloc _,gr_trans (gr_trans hs.2 (World.grownBy_alloc _ _ _)) (World.grownBy_alloc _ _ _)⟩
theorem slPut_ok(w:World)(B R n:Nat)(g:Nat->Pl)(i:Nat)(k d:Int)(v:Nat)(h:Slt w B R n g)(hi:i<n)(hf:(g i).f=false)(hv:(g i).v=v)(hm:v<=1000000) :
  Calls Tryz.prog 296 #[.pointer (some ⟨B,0,none⟩),.int .i64 i,.agg #[.int .u64 k,.int .i64 d]] w fun e w'=>e=.returned (.int .i64 0)/\Slt w' B R n (slSet g i ⟨(k,d),v+1,true⟩)/\w.grownBy w' (some R):=by
 obtain⟨k',d',e'⟩:∃k' d',g i=⟨(k',d'),v,false⟩:=⟨_,_,by rw[<-hf,<-hv]⟩;obtain⟨c0,c1,c2,c3⟩:=h.cells hi e';have rl:=h.rlt;have f0:=h.free (i*4);have f1:=h.free (i*4+1);have f2:=h.free (i*4+2);have f3:=h.free (i*4+3);have wv:IntKind.u64.wrap ((v:Int)+1)=(v:Int)+1:=by rw[IntKind.wrap_u64,Int.emod_eq_of_lt (by omega) (by omega)]
 clear hf hv;go_enter Tryz.func296,Tryz.ntmps296
 go_wp2_with fail
 refine(slAt_in _ B R n g i (h.alloc _) hi).mono ?_;rintro e w1 ⟨rfl,rfl⟩
 go_wp2_with fail
 go_region
 go_wp2_with fail
 have hs:=h.put hi k d (v+1) true;rw[show((v+1:Nat):Int)=(v:Int)+1 by omega] at hs;go_ret;exact⟨rfl,(hs.1.alloc _).drew,gr_trans (gr_trans hs.2 (World.grownBy_alloc _ _ _)) ⟨rfl,rfl,rfl,Nat.le_refl _,fun _ _ _=>rfl⟩⟩
theorem slTake_no(w:World)(B R n:Nat)(g:Nat->Pl)(i:Nat)(ver:Int)(h:Slt w B R n g)(hi:i<n)(hf:(g i).f=false\/((g i).v:Int)≠ver) :
  Calls Tryz.prog 280 #[.pointer (some ⟨B,0,none⟩),.int .i64 i,.int .u64 ver] w fun e w'=>e=.returned (.tuple #[.agg #[.int .u64 0,.int .i64 0],.bool false])/\Below w.heap.size w w':=by
 obtain⟨k',d',v',f',e'⟩:∃k' d' v' f',g i=⟨(k',d'),v',f'⟩:=⟨_,_,_,_,rfl⟩;obtain⟨c0,c1,c2,c3⟩:=h.cells hi e';have rl:=h.rlt;rw[e'] at hf;simp only at hf
 cases f' with
 | false=>
  go_enter Tryz.func280,Tryz.ntmps280
  go_wp2_with fail
  refine(slAt_in _ B R n g i (h.alloc _) hi).mono ?_;rintro e w1 ⟨rfl,rfl⟩
  go_wp2_with fail
  refine bodyPost_ret (v:=.tuple #[.agg #[.int .u64 0,.int .i64 0],.bool false]) (by simp[results,Tryz.results280,go_sem]) rfl ⟨rfl,(Below.refl _ _).alloc (Nat.le_refl _) _⟩
 | true=>
  have hne:¬(v':Int)=ver:=by simpa using hf
  have hb:((v':Int)==ver)=false:=by simpa using hne
  clear hf;go_enter Tryz.func280,Tryz.ntmps280
  go_wp2_with fail
  refine(slAt_in _ B R n g i (h.alloc _) hi).mono ?_;rintro e w1 ⟨rfl,rfl⟩
  go_wp2_with fail
  refine bodyPost_ret (v:=.tuple #[.agg #[.int .u64 0,.int .i64 0],.bool false]) (by simp[results,Tryz.results280,go_sem]) rfl ⟨rfl,(Below.refl _ _).alloc (Nat.le_refl _) _⟩
theorem gr_new{w u:World}{row:Option Nat}(h:w.grownBy u row){S o:Nat}(hS:w.heap.size<=S)(x:Value):w.grownBy (u.setCell ⟨S,o,none⟩ x) row:=
 ⟨h.os,h.tape,h.output,by simpa [World.setCell] using h.size,fun k hk hne=>(Below.heap_setCell u ⟨S,o,none⟩ x k (by show k≠S;omega)).trans (h.block k hk hne)⟩
theorem Slt.setNew{u:World}{B R n:Nat}{g:Nat->Pl}(h:Slt u B R n g){S o:Nat}(h1:B≠S)(h2:R≠S)(x:Value):Slt (u.setCell ⟨S,o,none⟩ x) B R n g:=
 h.of_blocks (Below.heap_setCell u ⟨S,o,none⟩ x B h1) (Below.heap_setCell u ⟨S,o,none⟩ x R h2)
theorem slBox{u:World}{S:Nat}{x y:Value}{T:TypeId}(h:u.heap[S]?=some (.cells #[x,y] T (0,0)))(a b:Value) :
  ((u.setCell ⟨S,0,none⟩ a).setCell ⟨S,1,none⟩ b).cell? ⟨S,0,none⟩=some a/\((u.setCell ⟨S,0,none⟩ a).setCell ⟨S,1,none⟩ b).cell? ⟨S,1,none⟩=some b:=by
 have h1:(u.setCell ⟨S,0,none⟩ a).heap[S]?=some (.cells #[a,y] T (0,0)):=by simp[World.setCell,Array.getElem?_modify,h]
 have h2:((u.setCell ⟨S,0,none⟩ a).setCell ⟨S,1,none⟩ b).heap[S]?=some (.cells #[a,b] T (0,0)):=by
  generalize u.setCell ⟨S,0,none⟩ a=v at h1⊢;simp[World.setCell,Array.getElem?_modify,h1]
 exact⟨by rw[cell_of_row _ _ _ _ _ _ h2];rfl,by rw[cell_of_row _ _ _ _ _ _ h2];rfl⟩
theorem slTake_ok(w:World)(B R n:Nat)(g:Nat->Pl)(i:Nat)(k d:Int)(v:Nat)(h:Slt w B R n g)(hi:i<n)(hp:g i=⟨(k,d),v,true⟩)(hm:v<=1000000) :
  Calls Tryz.prog 280 #[.pointer (some ⟨B,0,none⟩),.int .i64 i,.int .u64 v] w fun e w'=>e=.returned (.tuple #[.agg #[.int .u64 k,.int .i64 d],.bool true])/\Slt w' B R n (slSet g i ⟨(0,0),v+1,false⟩)/\w.grownBy w' (some R):=by
 obtain⟨c0,c1,c2,c3⟩:=h.cells hi hp;have rl:=h.rlt;have bl:=h.blt;go_enter Tryz.func280,Tryz.ntmps280
 go_wp2_with fail
 refine(slAt_in _ B R n g i (h.alloc _) hi).mono ?_;rintro e w1 ⟨rfl,rfl⟩
 go_wp2_with fail
 refine(slEmpty_any _ B R n g i (h.alloc _) hi k d v true hp hm).mono ?_;rintro e w2 ⟨rfl,s2,g2⟩;have hb:=(g2.block w.heap.size (by simp) (by intro e;injection e with e;omega)).trans (heap_alloc_new w _);have y0:w2.cell? ⟨w.heap.size,0,none⟩=some (.int .u64 0):=by rw[cell_of_row _ _ _ _ _ _ hb];rfl
 have y1:w2.cell? ⟨w.heap.size,1,none⟩=some (.int .i64 0):=by rw[cell_of_row _ _ _ _ _ _ hb];rfl
 have z0:w2.frozen? ⟨w.heap.size,0,none⟩=false:=by simp[World.frozen?,hb]
 have z1:w2.frozen? ⟨w.heap.size,1,none⟩=false:=by simp[World.frozen?,hb]
 have gg:w.grownBy w2 (some R):=gr_trans (World.grownBy_alloc _ _ _) g2
 have fs:Aside (Slt ((w2.setCell ⟨w.heap.size,0,none⟩ (.int .u64 k)).setCell ⟨w.heap.size,1,none⟩ (.int .i64 d)) B R n (slSet g i ⟨(0,0),v+1,false⟩)/\w.grownBy ((w2.setCell ⟨w.heap.size,0,none⟩ (.int .u64 k)).setCell ⟨w.heap.size,1,none⟩ (.int .i64 d)) (some R)):=
  ⟨(s2.setNew (by omega) (by omega) _).setNew (by omega) (by omega) _,gr_new (gr_new gg (by omega) _) (by omega) _⟩
 obtain⟨b0,b1⟩:=slBox hb (.int .u64 k) (.int .i64 d);clear hb g2 s2 gg h c0 c1 c2 c3 rl bl hp
 go_wp2_with fail
 refine bodyPost_ret (v:=.tuple #[.agg #[.int .u64 k,.int .i64 d],.bool true]) (by simp[results,Tryz.results280,go_sem,b0,b1]) rfl ⟨rfl,fs.out.1,fs.out.2⟩
theorem slGet_in(w:World)(B R n:Nat)(g:Nat->Pl)(i:Nat)(k d:Int)(v:Nat)(f:Bool)(h:Slt w B R n g)(hi:i<n)(hp:g i=⟨(k,d),v,f⟩) :
  Calls Tryz.prog 196 #[.pointer (some ⟨B,0,none⟩),.int .i64 i] w fun e w'=>e=.returned (.tuple #[.agg #[.int .u64 k,.int .i64 d],.int .u64 v,.bool f])/\Below w.heap.size w w':=by
 obtain⟨c0,c1,c2,c3⟩:=h.cells hi hp;have rl:=h.rlt;go_enter Tryz.func196,Tryz.ntmps196
 go_wp2_with fail
 refine(slAt_in _ B R n g i (h.alloc _) hi).mono ?_;rintro e w1 ⟨rfl,rfl⟩
 go_wp2_with fail
 go_region
 go_wp2_with fail
 refine bodyPost_ret (v:=.tuple #[.agg #[.int .u64 k,.int .i64 d],.int .u64 v,.bool f]) (by simp[results,Tryz.results196,go_sem]) rfl ⟨rfl,((Below.refl _ _).alloc (Nat.le_refl _) _).drew⟩
def slAll(g:Nat->Pl):Nat->List Ent
 | 0=>[]
 | k+1=>slAll g k++(if (g k).f then [(g k).e] else [])
theorem slAll_len(g:Nat->Pl):∀k,(slAll g k).length<=k
 | 0=>Nat.le_refl _
 | k+1=>by
  have:=slAll_len g k;unfold slAll;rw[List.length_append]
  split<;>simp<;>omega
def slHit(p:Pl)(id:Int):Bool:=p.f&&(p.e.2==id)
theorem slDrop_none(w:World)(B R n:Nat)(g:Nat->Pl)(id:Int)(h:Slt w B R n g)(hn:∀i,i<n->slHit (g i) id=false) :
  Calls Tryz.prog 133 #[.pointer (some ⟨B,0,none⟩),.int .i64 id] w fun e w'=>e=.returned (.bool false)/\w'=w:=by
 have c0:=h.c0;have bl:=h.blt;have H:Aside (Slt w B R n g):=h;have HN:Aside (∀i,i<n->slHit (g i) id=false):=hn;have n8:=h.most;clear h hn;go_enter Tryz.func133,Tryz.ntmps133
 go_wp2
 go_loopg [12] n (fun kx s12 wr=>∃k:Nat,s12=.int .i64 k/\k<=n/\n-k<=kx/\wr=w)
 case atStart=>exact⟨0,rfl,by omega,by omega,rfl⟩
 case round=>
  obtain⟨i,rfl,hk,hkx,rfl⟩:=hrel;by_cases hlt:i<n
  ·have hz:(i:Int)<(n:Int):=by omega
   obtain⟨k,d,v,f,e'⟩:∃k d v f,g i=⟨(k,d),v,f⟩:=⟨_,_,_,_,rfl⟩;obtain⟨q0,q1,q2,q3⟩:=H.out.cells hlt e';have hh:=HN.out i hlt;rw[e'] at hh
   cases f with
   | false=>
    clear hh
    go_wp2
    go_roundg (n-(i+1))
    case measure=>omega
    case rel=>exact⟨i+1,by go_num,by omega,Nat.le_refl _,rfl⟩
   | true=>
    have hd:(d==id)=false:=by simpa [slHit] using hh
    clear hh
    go_wp2
    go_roundg (n-(i+1))
    case measure=>omega
    case rel=>exact⟨i+1,by go_num,by omega,Nat.le_refl _,rfl⟩
  ·have hz:¬(i:Int)<(n:Int):=by omega
   go_wp2
   go_ret;exact⟨rfl,rfl⟩
theorem slDrop_hit(w:World)(B R n:Nat)(g:Nat->Pl)(j:Nat)(id:Int)(k:Int)(v:Nat)(h:Slt w B R n g)(hj:j<n)(hp:g j=⟨(k,id),v,true⟩)(hm:v<=1000000)(hn:∀i,i<j->slHit (g i) id=false) :
  Calls Tryz.prog 133 #[.pointer (some ⟨B,0,none⟩),.int .i64 id] w fun e w'=>e=.returned (.bool true)/\Slt w' B R n (slSet g j ⟨(0,0),v+1,false⟩)/\w.grownBy w' (some R):=by
 have c0:=h.c0;have bl:=h.blt;have em:=slEmpty_any w B R n g j h hj k id v true hp hm;have H:Aside (Slt w B R n g):=h;have HN:Aside (∀i,i<j->slHit (g i) id=false):=hn;have HP:Hid (g j=⟨(k,id),v,true⟩):=hp;have n8:=h.most;clear h hn hp;go_enter Tryz.func133,Tryz.ntmps133
 go_wp2
 go_loopg [12] n (fun kx s12 wr=>∃i:Nat,s12=.int .i64 i/\i<=j/\n-i<=kx/\wr=w)
 case atStart=>exact⟨0,rfl,by omega,by omega,rfl⟩
 case round=>
  obtain⟨i,rfl,hk,hkx,rfl⟩:=hrel;have hlt:i<n:=by omega
  have hz:(i:Int)<(n:Int):=by omega
  by_cases hij:i=j
  ·subst hij;obtain⟨q0,q1,q2,q3⟩:=H.out.cells hlt HP.out
   go_wp2_with fail
   refine em.mono ?_;rintro e w2 ⟨rfl,s2,g2⟩;have F:Aside _:=And.intro s2 g2;clear s2 g2 em
   go_wp2
   go_ret;exact⟨rfl,F.out⟩
  ·obtain⟨k',d',v',f,e'⟩:∃k d v f,g i=⟨(k,d),v,f⟩:=⟨_,_,_,_,rfl⟩;obtain⟨q0,q1,q2,q3⟩:=H.out.cells hlt e';have hh:=HN.out i (by omega);rw[e'] at hh
   cases f with
   | false=>
    clear hh em
    go_wp2
    go_roundg (n-(i+1))
    case measure=>omega
    case rel=>exact⟨i+1,by go_num,by omega,Nat.le_refl _,rfl⟩
   | true=>
    have hd:(d'==id)=false:=by simpa [slHit] using hh
    clear hh em
    go_wp2
    go_roundg (n-(i+1))
    case measure=>omega
    case rel=>exact⟨i+1,by go_num,by omega,Nat.le_refl _,rfl⟩
theorem slApp{w:World}{base k:Nat}{r:Option Addr}{t:Nat}{d:List Ent}(x:Ent)(h:OwnE w base (.slice r k t) d)(hl:d.length=k)(hk:k<=100000)(hb:base<=w.heap.size) :
  ∃r' t' w',(Builtin.append_ #[33,33] 33 #[.slice r k t,.slice (some ⟨w.heap.size,0,none⟩) 1 1]).run Tryz.prog (w.alloc (.cells #[.int .u64 x.1,.int .i64 x.2] 36))=.ok (.slice r' (k+1) t') w'/\OwnE w' base (.slice r' (k+1) t') (d++[x])/\Below base w w':=by
 have bv:Below w.heap.size w (w.alloc (.cells #[.int .u64 x.1,.int .i64 x.2] 36)):=(Below.refl _ _).alloc (Nat.le_refl _) _;obtain⟨v',w',hr,o,g⟩:=app_run (c:=[x]) (h.below bv) (IsL.one w x) (by simp;omega) (Nat.le_trans hb bv.size) 33;obtain⟨r',t',e,_⟩:=o.isL;have e2:(d++[x]).length=k+1:=by simp[hl]
 rw[e2] at e;subst e;exact⟨r',t',w',hr,o,OwnE.grown (h.below bv) (bv.mono hb) g (Nat.le_trans hb bv.size)⟩
def SlAllIs(w:World)(m:Nat)(d:List Ent)(r:Ending)(w':World):Prop:=∃a cap,r=.returned (.slice a m cap)/\OwnE w' w.heap.size (.slice a m cap) d/\Below w.heap.size w w'
theorem slAll_any(w:World)(B R n:Nat)(g:Nat->Pl)(m:Nat)(h:Slt w B R n g)(hm:(slAll g n).length=m) :
  Calls Tryz.prog 103 #[.pointer (some ⟨B,0,none⟩)] w (SlAllIs w m (slAll g n)):=by
 have c0:=h.c0;have bl:=h.blt;have H:Aside (Slt w B R n g):=h;have n8:=h.most;have HM:Hid _:=hm;clear h hm;go_enter Tryz.func103,Tryz.ntmps103
 go_wp2
 go_loopg [3,5,11] n (fun kx s3 s5 s11 wr=>∃(i z:Nat)(r:Option Addr)(t:Nat),s11=.int .i64 i/\s3=.slice r z t/\Hid ((slAll g i).length=z)/\i<=n/\n-i<=kx/\Aside (OwnE wr w.heap.size (.slice r z t) (slAll g i))/\Aside (Below w.heap.size w wr))
 case atStart=>exact⟨0,0,none,0,rfl,rfl,rfl,by omega,by omega,OwnE.nil _ _,Below.refl _ _⟩
 case round=>
  obtain⟨i,z,r,t,rfl,rfl,HZ,hk,hkx,O,D⟩:=hrel;have zle:z<=8:=by have h1:=HZ.out;have h2:=slAll_len g i;omega
  have sz:=D.out.size;by_cases hlt:i<n
  ·have hz:(i:Int)<(n:Int):=by omega
   obtain⟨k,d,v,f,e'⟩:∃k d v f,g i=⟨(k,d),v,f⟩:=⟨_,_,_,_,rfl⟩;have Hr:=H.out.below D.out;obtain⟨q0,q1,q2,q3⟩:=Hr.cells hlt e';have rl:=Hr.rlt;have e1:slAll g (i+1)=slAll g i++(if f then [(k,d)] else []):=by show slAll g i++_=_;rw[e']
   clear Hr e';obtain⟨u,hu⟩:∃u,wr.alloc (.cells #[.int .u64 k,.int .i64 d,.int .u64 v,.bool f] 248)=u:=⟨_,rfl⟩;have bu:Below wr.heap.size wr u:=by rw[<-hu];exact(Below.refl _ _).alloc (Nat.le_refl _) _
   cases f with
   | false=>
    have E2:Hid (slAll g (i+1)=slAll g i):=by show _=_;rw[e1];simp
    have O2:Aside (OwnE (wr.alloc (.cells #[.int .u64 k,.int .i64 d,.int .u64 v,.bool false] 248)) w.heap.size (.slice r z t) (slAll g (i+1))):=by rw[E2.out,hu];exact O.out.below bu
    have D2:Aside (Below w.heap.size w (wr.alloc (.cells #[.int .u64 k,.int .i64 d,.int .u64 v,.bool false] 248))):=by rw[hu];exact D.out.trans (bu.mono sz)
    clear e1 hu bu O D
    go_wp2
    go_roundg (n-(i+1))
    case measure=>omega
    case rel=>exact⟨i+1,z,r,t,by go_num,rfl,by rw[E2.out];exact HZ,by omega,Nat.le_refl _,O2,D2⟩
   | true=>
    have E2:Hid (slAll g (i+1)=slAll g i++[(k,d)]):=by show _=_;rw[e1];simp
    obtain⟨r',t',w2,hr,o2,b2⟩:=slApp (k,d) (O.out.below bu) HZ.out (by omega) (by have:=bu.size;omega);have D2:Aside (Below w.heap.size w w2):=(D.out.trans (bu.mono sz)).trans b2;have O2:Aside (OwnE w2 w.heap.size (.slice r' (z+1) t') (slAll g (i+1))):=by rw[E2.out];exact o2
    have HZ2:Hid ((slAll g (i+1)).length=z+1):=by show _=_;rw[E2.out,List.length_append,HZ.out];rfl
    have us:u.heap.size=wr.heap.size+1:=by rw[<-hu];simp
    simp only at hr;rw[us,<-hu] at hr;clear us;clear e1 o2 b2 O D hu bu
    go_wp2_with (at_builtin;refine Lib.wpList_append_run (World.alloc (World.alloc wr _) _) rfl _ _ 33 33 rfl _ _ rfl rfl _ w2 hr ?_)
    go_roundg (n-(i+1))
    case measure=>omega
    case rel=>exact⟨i+1,z+1,r',t',by go_num,rfl,HZ2,by omega,Nat.le_refl _,O2,D2⟩
  ·have hz:¬(i:Int)<(n:Int):=by omega
   obtain rfl:i=n:=by omega
   obtain rfl:z=m:=by rw[<-HZ.out];exact HM.out
   go_wp2
   go_ret;exact⟨r,t,rfl,O.out,D.out⟩
end Go.Proofs.YthpgfmmpjoodkaaGreatDoor.Qu
