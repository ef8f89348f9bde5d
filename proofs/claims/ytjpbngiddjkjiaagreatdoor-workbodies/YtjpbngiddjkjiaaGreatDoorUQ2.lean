import Derived.Test.YtjpbngiddjkjiaaGreatDoorUJQ
import Derived.Laws.EntriesVeiled
import Derived.Deep.DeepCutAuto
open Go.Proofs.Tryz
open Nat(le_refl)
namespace Go.Proofs.YtjpbngiddjkjiaaGreatDoor.Qu
set_option maxHeartbeats 8000000
set_option maxRecDepth 100000
set_option linter.unusedVariables false
open Go.RowKit Go.Lib Go.Sort
theorem listOf_yes(k d:Int)(w:World):Calls prog 134 #[.agg #[.int .u64 k,.int .i64 d],.bool true] w (Made w [(k,d)]):=by
 go_enter func134,ntmps134
 go_wp2
 go_ret;refine⟨some ⟨w.heap.size+1,0,none⟩,1,rfl,?_,((Below.refl _ _).alloc (le_refl _) _).alloc (by simp) _⟩;have:=OwnE.one (base:=w.heap.size) (w.alloc (.cells #[.int .u64 k,.int .i64 d] 35)) (k,d) (by simp);simpa using this
theorem listOf_no(k d:Int)(w:World):Calls prog 134 #[.agg #[.int .u64 k,.int .i64 d],.bool false] w (Made w []):=by
 go_enter func134,ntmps134
 go_wp2
 go_ret;exact⟨none,0,rfl,OwnE.nil _ _,(Below.refl _ _).alloc (le_refl _) _⟩
def slotL(p:Pl):List Ent:=if p.f then [p.e] else []
theorem listOf_any(p:Pl)(w:World):Calls prog 134 #[.agg #[.int .u64 p.e.1,.int .i64 p.e.2],.bool p.f] w (Made w (slotL p)):=by
 obtain⟨⟨k,d⟩,v,f⟩:=p
 cases f with
 | true=>exact listOf_yes k d w
 | false=>exact listOf_no k d w
theorem Made.mono{w w0 w':World}{d:List Ent}{r:Ending}(h:Made w d r w')(hw:Below w0.heap.size w0 w):Made w0 d r w':=by
 obtain⟨a,cap,h1,h2,h3⟩:=h;exact⟨a,cap,h1,h2.low hw.size,hw.trans (h3.mono hw.size)⟩
theorem inSlot_any(w:World)(base:Nat)(A:QAd)(T K:Nat)(s:QSt)(t:Nat)(h:Que w base A T K s)(ht:t<T) :
  Calls prog 90 #[ptr A.B,.int .i64 t] w (Made w (slotL (s.g t))):=by
 obtain⟨ra,sa,h⟩:=h;obtain⟨c0,c1,c2,c3,c4⟩:=h.fix.cells;obtain⟨k,d,v,f,e'⟩:∃k d v f,s.g t=⟨(k,d),v,f⟩:=⟨_,_,_,_,rfl⟩;have gt:=slGet_in w A.SB A.SR T s.g t k d v f h.slt ht e';rw[e'];clear h c0 c2 c3 c4 e';go_enter func90,ntmps90
 go_wp2_with fail
 refine gt.mono ?_;rintro r w1 ⟨rfl,b1⟩;obtain⟨u,hu⟩:∃u,w1.alloc (.cells #[.int .u64 k,.int .i64 d] 35)=u:=⟨_,rfl⟩;have BU:Aside (Below w.heap.size w u):=by rw[<-hu];exact b1.trans (((Below.refl _ _).alloc (le_refl _) _).mono b1.size)
 have HU:Hid _:=hu;have lo:=listOf_any ⟨(k,d),v,f⟩ u;clear hu b1 gt c1
 go_wp2_with fail
 rw[HU.out];refine lo.mono ?_;rintro r w2 hm;obtain⟨a,cap,rfl,o2,b2⟩:=hm.mono BU.out;have M:Aside (Made w (slotL ⟨(k,d),v,f⟩) (.returned (.slice a (slotL ⟨(k,d),v,f⟩).length cap)) w2):=⟨a,cap,rfl,o2,b2⟩;obtain⟨n,hn⟩:∃n,(slotL ⟨(k,d),v,f⟩).length=n:=⟨_,rfl⟩;rw[hn] at M⊢;clear hm o2 b2 lo hn
 go_wp2
 go_ret;exact M.out
theorem table1_any(w:World)(base:Nat)(A:QAd)(T K:Nat)(s:QSt)(t:Nat)(h:Que w base A T K s)(ht:t<T) :
  Calls prog 89 #[ptr A.QC,ptr (A.TC t)] w (Made w (slotL (s.g t))):=by
 have is:=inSlot_any w base A T K s t h ht;obtain⟨ra,sa,h⟩:=h;have c0:w.cell? ⟨A.QC,0,none⟩=some (ptr A.B):=by rw[cell_of_row _ _ _ _ _ _ h.fix.qc];rfl
 have c1:w.cell? ⟨A.TC t,0,none⟩=some (.int .i64 t):=by rw[cell_of_row _ _ _ _ _ _ (h.fix.tc t ht)];rfl
 obtain⟨d,hd⟩:∃d,slotL (s.g t)=d:=⟨_,rfl⟩;rw[hd] at is⊢;clear h hd;go_enter func89,ntmps89
 go_wp2_with fail
 refine is.mono ?_;rintro r w2 ⟨a,cap,rfl,o2,b2⟩;have M:Aside (Made w d (.returned (.slice a d.length cap)) w2):=⟨a,cap,rfl,o2,b2⟩;clear o2 b2 is
 go_wp2
 go_ret;exact M.out
def spotAt(T j:Nat):Int×Int:=if j<T then(1,(j:Int)) else if j<2*T then(2,((j-T:Nat):Int)) else(3,0)
def flatS(l:List (Int×Int)):List Value:=l.flatMap fun x=>[.int .i64 x.1,.int .i64 x.2]
theorem flatS_snoc(l:List (Int×Int))(x:Int×Int):flatS (l++[x])=flatS l++[.int .i64 x.1,.int .i64 x.2]:=by simp[flatS]
theorem flatS_at:∀(l:List (Int×Int))(i:Nat)(x:Int×Int),l[i]?=some x->(flatS l)[i*2]?=some (.int .i64 x.1)/\(flatS l)[i*2+1]?=some (.int .i64 x.2)
 | [],i,x,h=>by simp at h
 | y::l,0,x,h=>by simp at h;subst h;exact⟨rfl,rfl⟩
 | y::l,i+1,x,h=>by
  obtain⟨h1,h2⟩:=flatS_at l i x (by simpa using h);rw[show(i+1)*2=i*2+1+1 by omega];exact⟨by simpa [flatS] using h1,by simpa [flatS] using h2⟩
def OwnSp(w:World)(base:Nat)(a:Option Addr)(n cap:Nat)(l:List (Int×Int)):Prop:=l.length=n/\w.ownsRow base 191 2 (.slice a n cap) n (flatS l)
theorem OwnSp.below{w w':World}{base n cap:Nat}{a:Option Addr}{l:List (Int×Int)}(h:OwnSp w base a n cap l)(hw:Below w.heap.size w w'):OwnSp w' base a n cap l:=⟨h.1,own_below h.2 hw⟩
theorem infoSp:∃i,prog.info? 191=some i/\i.zero=some (.agg #[.int .i64 0,.int .i64 0])/\i.size=2/\i.bytes=16:=by
 have h:(prog.info? 191).map (fun i=>(i.zero,i.size,i.bytes))=some (some (.agg #[.int .i64 0,.int .i64 0]),2,16):=by kernel_rfl
 obtain⟨i,h1,h2⟩:=Option.map_eq_some_iff.1 h;simp at h2;exact⟨i,h1,h2.1,h2.2.1,h2.2.2⟩
theorem app_spot{w:World}{base n cap G:Nat}{a:Option Addr}{l:List (Int×Int)}{p t:Int}(h:OwnSp w base a n cap l)(c0:w.cell? ⟨G,0,none⟩=some (.int .i64 p))(c1:w.cell? ⟨G,1,none⟩=some (.int .i64 t))(hn:n<=1000)(hbase:base<=w.heap.size)(ty:TypeId) :
  ∃r t' w',(Builtin.append_ #[283,283] ty #[.slice a n cap,.slice (some ⟨G,0,none⟩) 1 1]).run prog w=.ok (.slice r (n+1) t') w'/\OwnSp w' base r (n+1) t' (l++[(p,t)])/\∀u,Below base u w->Below base u w':=by
 obtain⟨i,hi,hz,hs,hby⟩:=infoSp
 obtain⟨v',w',k1,k2,k3,k4⟩:=run_append_own (P:=prog) w base 283 ty 191 i _ 2 16 underlying283 hi hz hs hby rfl (by omega) _ n (flatS l) h.2 ⟨G,0,none⟩ 1 1 [.int .i64 p,.int .i64 t] rfl
  (fun j u hj=>by
   have:j=0\/j=1:=by have:=(List.getElem?_eq_some_iff.1 hj).1;simp at this;omega
   rcases this with rfl|rfl
   ·simp at hj;subst hj;exact c0
   ·simp at hj;subst hj;exact c1) (by intro u hu;simp at hu;rcases hu with rfl|rfl<;>rfl) (by unfold maxLen;omega) (by omega) hbase
 have e:∃r t',v'=.slice r (n+1) t':=by
  rcases k2.2 with⟨e,e0⟩|⟨g,cap',cur,e,_⟩
  ·omega
  ·exact⟨_,_,e⟩
 obtain⟨r,t',rfl⟩:=e;refine⟨r,t',w',k1,⟨by simp[h.1],by rw[flatS_snoc];exact k2⟩,fun u hu=>hu.trans ?_⟩
 exact⟨k3.os,k3.tape,k3.output,k3.size,fun k hk=>k3.block k (by omega) (fun e=>by
  have:=World.ownsRow.lt h.2 k e.symm;omega)⟩
def spL(T n:Nat):List (Int×Int):=(List.range n).map (spotAt T)
theorem spL_succ(T n:Nat):spL T (n+1)=spL T n++[spotAt T n]:=by simp[spL,List.range_succ]
def SpotsIs(w:World)(T n:Nat)(r:Ending)(w':World):Prop:=∃g cap,r=.returned (.slice (some ⟨g,0,none⟩) n cap)/\w.heap.size<=g/\(∀W:World,Below w'.heap.size w' W->g<W.heap.size/\∀j,j<n->W.cell? ⟨g,j*2,none⟩=some (.int .i64 (spotAt T j).1)/\W.cell? ⟨g,j*2+1,none⟩=some (.int .i64 (spotAt T j).2))/\(∀W:World,Kept MQ w' W->g<W.heap.size/\∀j,j<n->W.cell? ⟨g,j*2,none⟩=some (.int .i64 (spotAt T j).1)/\W.cell? ⟨g,j*2+1,none⟩=some (.int .i64 (spotAt T j).2))/\Below w.heap.size w w'
theorem OwnSp.cells{w:World}{base T n cap:Nat}{a:Option Addr}(h:OwnSp w base a n cap (spL T n))(hn:0<n):∃g,a=some ⟨g,0,none⟩/\base<=g/\∀W:World,W.heap[g]?=w.heap[g]?->g<W.heap.size/\∀j,j<n->W.cell? ⟨g,j*2,none⟩=some (.int .i64 (spotAt T j).1)/\W.cell? ⟨g,j*2+1,none⟩=some (.int .i64 (spotAt T j).2):=by
 rcases h.2.2 with⟨e,e0⟩|⟨g,cap',cur,e,hb,hg,_⟩
 ·omega
 ·injection e with e1 _ e3
  subst e1 e3;refine⟨g,rfl,hb,fun W hW=>⟨lt_of_block (hW.trans hg),fun j hj=>?_⟩⟩;have hx:(spL T n)[j]?=some (spotAt T j):=by simp[spL,hj]
  obtain⟨f0,f1⟩:=flatS_at _ j _ hx;have k0:=World.ownsRow.cellAt h.2 (j*2) (by omega);have k1:=World.ownsRow.cellAt h.2 (j*2+1) (by omega);rw[f0] at k0;rw[f1] at k1;exact⟨(World.cell?_of_block (a:=⟨g,j*2,none⟩) hW).trans k0,(World.cell?_of_block (a:=⟨g,j*2+1,none⟩) hW).trans k1⟩
theorem mq_spot:¬MQ 191:=by unfold MQ;decide
theorem OwnSp.is{w w0:World}{T n cap:Nat}{a:Option Addr}(h:OwnSp w w0.heap.size a n cap (spL T n))(hn:0<n)(hb:Below w0.heap.size w0 w):SpotsIs w0 T n (.returned (.slice a n cap)) w:=by
 obtain⟨g,e,h1,h2⟩:=h.cells hn
 obtain⟨cs,hg⟩:∃cs,w.heap[g]?=some (.cells cs 191 (0,0)):=by
  rcases h.2.2 with⟨e',e0⟩|⟨g',cap',cur,e',_,hg,_⟩
  ·omega
  ·injection e' with e1 _ e3
   rw[e] at e1;injection e1 with e1
   injection e1 with e1
   subst e1;exact⟨cur,hg⟩
 exact⟨g,cap,by rw[e],h1,fun W hW=>h2 W (hW.block g (lt_of_block hg)),fun W hW=>h2 W (hW.block g _ _ _ hg mq_spot),hb⟩
theorem spots_any(w:World)(A:QAd)(T K:Nat)(h:QFix w A T K)(h1:1<=T)(h8:T<=8) :
  Calls prog 198 #[ptr A.B] w (SpotsIs w T (2*T+1)):=by
 obtain⟨S,hS⟩:∃S,w.heap.size=S:=⟨_,rfl⟩;have H:Aside (QFix w A T K):=h;have CB:Aside (∀W,Below S w W->W.cell? ⟨A.B,2,none⟩=some (.slice (some ⟨A.OR,0,none⟩) T A.oc)):=fun W hW=>(H.out.below (by rw[hS];exact hW)).cells.2.2.1;have HS:Hid _:=hS;clear h hS;have ix0:∀w:World,(Instr.index 78 (.agg #[.int .i64 1,.int .i64 2]) (.int .i64 0)).run prog w=.ok (.int .i64 1) w:=fun w=>by kernel_rfl
 have ix1:∀w:World,(Instr.index 78 (.agg #[.int .i64 1,.int .i64 2]) (.int .i64 1)).run prog w=.ok (.int .i64 2) w:=fun w=>by kernel_rfl
 go_enter func198,ntmps198
 go_wp2
 go_loopg [3,8] 2 (fun kx s3 s8 wr=>∃(i n cap:Nat)(a:Option Addr),s8=.int .i64 i/\i<=2/\2-i<=kx/\Hid (n=i*T)/\s3=.slice a n cap/\Aside (OwnSp wr S a n cap (spL T n))/\Aside (Below S w wr))
 case atStart=>exact⟨0,0,0,none,rfl,by omega,by omega,(by show _=_;omega),rfl,⟨rfl,World.ownsRow_nil _ _ _ _⟩,Below.refl _ _⟩
 case round=>
  obtain⟨i,n,cap,a,rfl,hi,hkx,HN,rfl,O,D⟩:=hrel;by_cases hlt:i<2
  ·have hz:(i:Int)<2:=by omega
   have cb:=CB.out wr D.out;have hi2:i=0\/i=1:=by omega
   rcases hi2 with rfl|rfl
   ·clear hz hlt;obtain⟨wo,hwo⟩:∃x,x=wr:=⟨_,rfl⟩;subst hwo
    go_wp2
    go_loopg [3,16] T (fun kx2 s3 s16 wr=>∃(j m cap2:Nat)(a2:Option Addr),s16=.int .i64 j/\j<=T/\T-j<=kx2/\Hid (m=j)/\s3=.slice a2 m cap2/\Aside (OwnSp wr S a2 m cap2 (spL T m))/\Aside (Below S w wr))
    case atStart=>exact⟨0,n,cap,a,rfl,by omega,by omega,(by show _=_;have:=HN.out;omega),rfl,O,D⟩
    case round=>
     obtain⟨j,m,cap2,a2,rfl,hj,hkx2,HM,rfl,O2,D2⟩:=hrel;by_cases hjl:j<T
     ·have hz2:(j:Int)<(T:Int):=by omega
      have m20:m<=20:=by have:=HM.out;omega
      obtain⟨S2,hS2⟩:∃S,wr.heap.size=S:=⟨_,rfl⟩;obtain⟨u,hu⟩:∃u,wr.alloc (.cells #[.int .i64 1,.int .i64 j] 191)=u:=⟨_,rfl⟩;have bu:Below wr.heap.size wr u:=by rw[<-hu];exact(Below.refl _ _).alloc (le_refl _) _
      have us:u.heap[S2]?=some (.cells #[.int .i64 1,.int .i64 j] 191 (0,0)):=by rw[<-hu,<-hS2];exact heap_alloc_new wr _
      have SS:S<=u.heap.size:=by have:=D2.out.size;have:=bu.size;have:=HS.out;omega
      obtain⟨r,t',w',hr,o,bb⟩:=app_spot (G:=S2) (O2.out.below bu) (ent0 us).1 (ent0 us).2 (by omega) SS 283
      have sp:spotAt T m=(1,(j:Int)):=by
       have:=HM.out;unfold spotAt;rw[if_pos (by omega),this]
      rw[<-sp,<-spL_succ] at o;have O3:Aside (OwnSp w' S r (m+1) t' (spL T (m+1))):=o;have D3:Aside (Below S w w'):=bb w (D2.out.trans (bu.mono (by have:=D2.out.size;have:=HS.out;omega)));rw[<-hu] at hr;clear o bb us hu bu sp SS
      go_wp2_with (at_builtin;refine Lib.wpList_append_run _ rfl _ _ 283 283 rfl _ _ rfl rfl _ w' hr ?_)
      go_roundg (T-(j+1))
      case measure=>omega
      case rel=>exact⟨j+1,m+1,t',r,by go_num,by omega,le_refl _,(by show _=_;have:=HM.out;omega),rfl,O3,D3⟩
     ·have hz2:¬(j:Int)<(T:Int):=by omega
      go_wp2
      go_roundg (2-1)
      case measure=>omega
      case rel=>exact⟨1,m,cap2,a2,by go_num,by omega,le_refl _,(by show _=_;have:=HM.out;omega),rfl,O2,D2⟩
   ·clear hz hlt;obtain⟨wo,hwo⟩:∃x,x=wr:=⟨_,rfl⟩;subst hwo
    go_wp2
    go_loopg [3,16] T (fun kx2 s3 s16 wr=>∃(j m cap2:Nat)(a2:Option Addr),s16=.int .i64 j/\j<=T/\T-j<=kx2/\Hid (m=T+j)/\s3=.slice a2 m cap2/\Aside (OwnSp wr S a2 m cap2 (spL T m))/\Aside (Below S w wr))
    case atStart=>exact⟨0,n,cap,a,rfl,by omega,by omega,(by show _=_;have:=HN.out;omega),rfl,O,D⟩
    case round=>
     obtain⟨j,m,cap2,a2,rfl,hj,hkx2,HM,rfl,O2,D2⟩:=hrel;by_cases hjl:j<T
     ·have hz2:(j:Int)<(T:Int):=by omega
      have m20:m<=20:=by have:=HM.out;omega
      obtain⟨S2,hS2⟩:∃S,wr.heap.size=S:=⟨_,rfl⟩;obtain⟨u,hu⟩:∃u,wr.alloc (.cells #[.int .i64 2,.int .i64 j] 191)=u:=⟨_,rfl⟩;have bu:Below wr.heap.size wr u:=by rw[<-hu];exact(Below.refl _ _).alloc (le_refl _) _
      have us:u.heap[S2]?=some (.cells #[.int .i64 2,.int .i64 j] 191 (0,0)):=by rw[<-hu,<-hS2];exact heap_alloc_new wr _
      have SS:S<=u.heap.size:=by have:=D2.out.size;have:=bu.size;have:=HS.out;omega
      obtain⟨r,t',w',hr,o,bb⟩:=app_spot (G:=S2) (O2.out.below bu) (ent0 us).1 (ent0 us).2 (by omega) SS 283
      have sp:spotAt T m=(2,(j:Int)):=by
       have:=HM.out;unfold spotAt;rw[if_neg (by omega),if_pos (by omega),show m-T=j by omega]
      rw[<-sp,<-spL_succ] at o;have O3:Aside (OwnSp w' S r (m+1) t' (spL T (m+1))):=o;have D3:Aside (Below S w w'):=bb w (D2.out.trans (bu.mono (by have:=D2.out.size;have:=HS.out;omega)));rw[<-hu] at hr;clear o bb us hu bu sp SS
      go_wp2_with (at_builtin;refine Lib.wpList_append_run _ rfl _ _ 283 283 rfl _ _ rfl rfl _ w' hr ?_)
      go_roundg (T-(j+1))
      case measure=>omega
      case rel=>exact⟨j+1,m+1,t',r,by go_num,by omega,le_refl _,(by show _=_;have:=HM.out;omega),rfl,O3,D3⟩
     ·have hz2:¬(j:Int)<(T:Int):=by omega
      go_wp2
      go_roundg (2-2)
      case measure=>omega
      case rel=>exact⟨2,m,cap2,a2,by go_num,by omega,le_refl _,(by show _=_;have:=HM.out;omega),rfl,O2,D2⟩
  ·have hz:¬(i:Int)<2:=by omega
   obtain⟨S2,hS2⟩:∃S,wr.heap.size=S:=⟨_,rfl⟩;obtain⟨u,hu⟩:∃u,wr.alloc (.cells #[.int .i64 3,.int .i64 0] 191)=u:=⟨_,rfl⟩;have bu:Below wr.heap.size wr u:=by rw[<-hu];exact(Below.refl _ _).alloc (le_refl _) _
   have us:u.heap[S2]?=some (.cells #[.int .i64 3,.int .i64 0] 191 (0,0)):=by rw[<-hu,<-hS2];exact heap_alloc_new wr _
   have nT:n=2*T:=by have:=HN.out;have e2:i=2:=(by omega);rw[e2] at this;omega
   have SS:S<=u.heap.size:=by have:=D.out.size;have:=bu.size;have:=HS.out;omega
   obtain⟨r,t',w',hr,o,bb⟩:=app_spot (G:=S2) (O.out.below bu) (ent0 us).1 (ent0 us).2 (by omega) SS 283
   have sp:spotAt T n=(3,0):=by
    unfold spotAt;rw[if_neg (by omega),if_neg (by omega)]
   rw[<-sp,<-spL_succ] at o;have b3:Below S w w':=bb w (D.out.trans (bu.mono (by have:=D.out.size;have:=HS.out;omega)))
   have FIN:Aside (SpotsIs w T (2*T+1) (.returned (.slice r (n+1) t')) w'):=by
    have e:n+1=2*T+1:=by omega
    rw[e] at o⊢;rw[<-HS.out] at o b3;exact o.is (by omega) b3
   rw[<-hu] at hr;clear o bb us hu bu sp SS b3 nT
   go_wp2_with (at_builtin;refine Lib.wpList_append_run _ rfl _ _ 283 283 rfl _ _ rfl rfl _ w' hr ?_)
   go_ret;exact FIN.out
def OwnS(w:World)(base:Nat)(v:Value)(ls:List (List Ent)):Prop:=
 ∃vs:List Value,w.ownsRow base 157 1 v ls.length vs/\∀(i:Nat)(d:List Ent),ls[i]?=some d->∃p q,vs[i]?=some (Value.slice p d.length q)/\OwnE w base (.slice p d.length q) d
theorem OwnS.nil(w:World)(base:Nat):OwnS w base (.slice none 0 0) []:=⟨[],World.ownsRow_nil w base _ _,fun i d h=>by simp at h⟩
theorem OwnE.kept{w w':World}{base:Nat}{v:Value}{d:List Ent}{row:Option Nat}(h:OwnE w base v d)(hg:w.grownBy w' row)(hne:v.ownBlock=none\/v.ownBlock≠row):OwnE w' base v d:=World.ownsRow.kept h hg hne
theorem row_below{w w':World}{base n:Nat}{v:Value}{vs:List Value}(h:w.ownsRow base 157 1 v n vs)(hw:Below w.heap.size w w'):w'.ownsRow base 157 1 v n vs:=by
 obtain⟨h1,h2⟩:=h;refine⟨h1,?_⟩;rcases h2 with h2|⟨g,cap,cur,r1,r2,r3,r4⟩
 ·exact .inl h2
 ·exact .inr ⟨g,cap,cur,r1,r2,(hw.block g (lt_of_block r3)).trans r3,r4⟩
theorem OwnS.below{w w':World}{base:Nat}{v:Value}{ls:List (List Ent)}(h:OwnS w base v ls)(hw:Below w.heap.size w w'):OwnS w' base v ls:=by
 obtain⟨vs,h1,h2⟩:=h;refine⟨vs,row_below h1 hw,fun i d hd=>?_⟩;obtain⟨p,q,h3,h4⟩:=h2 i d hd;exact⟨p,q,h3,h4.below hw⟩
theorem rows_apart{w:World}{base:Nat}{v u:Value}{d:List Ent}{n:Nat}{vs:List Value}(h:OwnE w base u d)(h':w.ownsRow base 157 1 v n vs):u.ownBlock=none\/u.ownBlock≠v.ownBlock:=by
 rcases h.2 with⟨rfl,_⟩|⟨g,cap,cur,rfl,_,hg,_⟩
 ·exact .inl rfl
 ·right
  intro e;rcases h'.2 with⟨rfl,_⟩|⟨g',cap',cur',rfl,_,hg',_⟩
  ·simp[Value.ownBlock] at e
  ·simp only[Value.ownBlock,Option.some.injEq] at e;subst e;rw[hg] at hg';simp at hg'
theorem OwnS.isLL{w:World}{base:Nat}{v:Value}{ls:List (List Ent)}(h:OwnS w base v ls):∃a cap,v=.slice a ls.length cap/\IsLL w a ls:=by
 obtain⟨vs,h1,h2⟩:=h;have own:=h1;rcases h1.2 with⟨rfl,h0⟩|⟨g,cap,cur,rfl,hb,hg,hn,hc,hs,ht⟩
 ·obtain rfl:ls=[]:=List.length_eq_zero_iff.1 h0;exact⟨none,0,rfl,by simp,fun i d hd=>by simp at hd⟩
 ·unfold maxLen at hc;refine⟨some ⟨g,0,none⟩,cap,rfl,by omega,fun i d hd=>?_⟩;have hi:i<ls.length:=(List.getElem?_eq_some_iff.1 hd).1;obtain⟨p,q,h3,h4⟩:=h2 i d hd;obtain⟨a',c',e,l⟩:=h4.isL;injection e with e1 e2 e3
  subst e1 e3;refine⟨g,0,p,q,rfl,lt_of_block hg,?_,l⟩;rw[Nat.zero_add,World.ownsRow.cellAt own i (by omega),h3]
theorem infoS:∃i,prog.info? 157=some i/\i.zero=some (.slice none 0 0)/\i.size=1/\i.bytes=24:=by
 have h:(prog.info? 157).map (fun i=>(i.zero,i.size,i.bytes))=some (some (.slice none 0 0),1,24):=by kernel_rfl
 obtain⟨i,h1,h2⟩:=Option.map_eq_some_iff.1 h;simp at h2;exact⟨i,h1,h2.1,h2.2.1,h2.2.2⟩
theorem apps_run{w:World}{base g:Nat}{v:Value}{ls:List (List Ent)}{p:Option Addr}{q:Nat}{d:List Ent}(h:OwnS w base v ls)(hd:OwnE w base (.slice p d.length q) d)(hc:w.cell? ⟨g,0,none⟩=some (.slice p d.length q))
  (hb:ls.length<=1000000) (hbase:base<=w.heap.size) (ty:TypeId) :
  ∃r t w',(Builtin.append_ #[156,156] ty #[v,.slice (some ⟨g,0,none⟩) 1 1]).run prog w=.ok (.slice r (ls.length+1) t) w'/\OwnS w' base (.slice r (ls.length+1) t) (ls++[d])/\(∀u,Below base u w->Below base u w')/\w.grownBy w' v.ownBlock:=by
 obtain⟨vs,h1,h2⟩:=h;obtain⟨i,hi,hz,hs,hby⟩:=infoS
 obtain⟨v',w',k1,k2,k3,k4⟩:=run_append_own (P:=prog) w base 156 ty 157 i _ 1 24 underlying156 hi hz hs hby rfl (by omega) v ls.length vs h1 ⟨g,0,none⟩ 1 1 [.slice p d.length q] rfl
  (fun j u hj=>by
   obtain⟨rfl,rfl⟩:j=0/\u=.slice p d.length q:=by
    cases j with
    | zero=>simp at hj;exact⟨rfl,hj.symm⟩
    | succ j=>simp at hj
   exact hc) (by intro u hu;simp at hu;subst hu;rfl) (by unfold maxLen;omega) (by omega) hbase
 have hl:vs.length=ls.length:=by have:=h1.1;omega
 have own:OwnS w' base v' (ls++[d]):=by
  refine⟨vs++[.slice p d.length q],by simpa using k2,fun j x hx=>?_⟩;by_cases hj:j<ls.length
  ·rw[List.getElem?_append_left hj] at hx;obtain⟨p',q',h3,h4⟩:=h2 j x hx;exact⟨p',q',by rw[List.getElem?_append_left (by omega)];exact h3,h4.kept k3 (rows_apart h4 h1)⟩
  ·have hj2:j<(ls++[d]).length:=(List.getElem?_eq_some_iff.1 hx).1;simp at hj2;obtain rfl:j=ls.length:=by omega
   simp at hx;subst hx;exact⟨p,q,by rw[<-hl];simp,hd.kept k3 (rows_apart hd h1)⟩
 obtain⟨r,t,e,_⟩:=own.isLL;rw[List.length_append] at e;simp only[List.length_singleton] at e;subst e;exact⟨r,t,w',k1,own,(fun u hu=>hu.grown k3 hbase (fun k hk=>(World.ownsRow.lt h1 k hk).1)),k3⟩
theorem own_ne{w:World}{base n k R:Nat}{U V:TypeId}{v:Value}{vs:List Value}{cs:Array Value}(h:w.ownsRow base U k v n vs)(hR:w.heap[R]?=some (.cells cs V (0,0)))(hne:U≠V):some R≠v.ownBlock:=by
 intro e;rcases h.2 with⟨rfl,_⟩|⟨g,cap,cur,rfl,_,hg,_⟩
 ·simp[Value.ownBlock] at e
 ·simp only[Value.ownBlock,Option.some.injEq] at e;subst e;rw[hR] at hg;simp only[Option.some.injEq,Obj.cells.injEq] at hg;exact hne hg.2.1.symm
def spotL(s:QSt)(T j:Nat):List Ent:=if j<T then slotL (s.g j) else if j<2*T then sortE (s.ls (j-T)).flatten else sortE s.hs.flatten
def listsQ(s:QSt)(T:Nat):List (List Ent):=(List.range (2*T+1)).map (spotL s T)
theorem listsQ_len(s:QSt)(T:Nat):(listsQ s T).length=2*T+1:=by simp[listsQ]
theorem listsQ_at(s:QSt)(T:Nat){j:Nat}(hj:j<2*T+1):(listsQ s T)[j]?=some (spotL s T j):=by simp[listsQ,hj]
def slFirst(g:Nat->Pl)(T:Nat)(id:Int):Option Nat:=(List.range T).find? (fun i=>slHit (g i) id)
def slDropQ(g:Nat->Pl)(T:Nat)(id:Int):Nat->Pl:=match slFirst g T id with
 | some i=>slSet g i ⟨(0,0),(g i).v+1,false⟩
 | none=>g
def hitQ(s:QSt)(T:Nat)(id:Int)(j:Nat):Bool:=if j<T then(slFirst s.g T id).isSome else if j<2*T then hasL (s.ls (j-T)).flatten id else hasL s.hs.flatten id
def dropQ(s:QSt)(T:Nat)(id:Int)(j:Nat):QSt:=
 if j<T then {s with g:=slDropQ s.g T id}
 else if j<2*T then {s with ls:=lset s.ls (j-T) (dropLs (s.ls (j-T)) id)}
 else {s with v:=if hasL s.hs.flatten id then s.v+1 else s.v,hs:=dropS s.hs id}
def firstHit(s:QSt)(T:Nat)(id:Int):Option Nat:=(List.range (2*T+1)).find? (hitQ s T id)
def takeQ(s:QSt)(T:Nat)(id:Int):QSt:=match firstHit s T id with
 | some j=>dropQ s T id j
 | none=>s
theorem find_range{p:Nat->Bool}{n j:Nat}(hj:j<n)(hp:p j=true)(hl:∀i,i<j->p i=false):(List.range n).find? p=some j:=by
 rw[List.find?_range_eq_some];exact⟨hp,List.mem_range.2 hj,fun i hi=>by rw[hl i hi];rfl⟩
theorem find_range_none{p:Nat->Bool}{n:Nat}(hl:∀i,i<n->p i=false):(List.range n).find? p=none:=by
 rw[List.find?_eq_none];intro x hx;rw[hl x (List.mem_range.1 hx)];simp
theorem dropLs_no{ls:List (List Ent)}{id:Int}(h:hasL ls.flatten id=false):dropLs ls id=ls:=by
 unfold dropLs;rw[if_neg (fun hl=>by rw[firstB_has.1 hl] at h;cases h)]
theorem dropS_no{ls:List (List Ent)}{id:Int}(h:hasL ls.flatten id=false):dropS ls id=ls:=by
 unfold dropS;rw[if_neg (fun hl=>by rw[firstB_has.1 hl] at h;cases h)]
theorem dropQ_no{s:QSt}{T:Nat}{id:Int}{j:Nat}(h:hitQ s T id j=false):dropQ s T id j=s:=by
 unfold hitQ at h;unfold dropQ;by_cases c1:j<T
 ·rw[if_pos c1] at h⊢
  have:slDropQ s.g T id=s.g:=by
   unfold slDropQ
   cases e:slFirst s.g T id with
   | none=>rfl
   | some i=>rw[e] at h;cases h
  rw[this]
 ·rw[if_neg c1] at h⊢;by_cases c2:j<2*T
  ·rw[if_pos c2] at h⊢
   have:lset s.ls (j-T) (dropLs (s.ls (j-T)) id)=s.ls:=by
    funext i
    by_cases e:i=j-T
    ·subst e;rw[lset_same,dropLs_no h]
    ·rw[lset_ne _ _ e]
   rw[this]
  ·rw[if_neg c2] at h⊢;rw[dropS_no h,h]
   rfl
structure Part(A:QAd)(T j:Nat)(fa fd:Nat)(xa ya xd yd:Array Value):Prop where
 tab:tabF A T (spotAt T j).1 (spotAt T j).2=some (.agg #[.func (.func fa) xa ya,.func (.func fd) xd yd])
 ea:∀args w,(callFunc fa args).run prog w=.ok (.enter fa args) w
 ed:∀args w,(callFunc fd args).run prog w=.ok (.enter fd args) w
 all:∀(W:World)(base K N:Nat)(s:QSt),Que W base A T K s->QOk K T N s->N<=1000->K<=16->Calls prog fa (xa++ya) W (Made W (spotL s T j))
 drop:∀(W:World)(base K N:Nat)(s:QSt)(id:Int),Que W base A T K s->QOk K T N s->N<=1000->K<=16->base<=W.heap.size->Calls prog fd (xd.push (.int .i64 id)++yd) W fun r w'=>r=.returned (.bool (hitQ s T id j))/\Que w' base A T K (dropQ s T id j)/\Went base W w'
theorem PivO.made{w w':World}{n:Nat}{d:List Ent}{r:Ending}(h:PivO w n d r w')(hn:d.length=n):Made w d r w':=by
 obtain⟨a,cap,h1,h2,h3⟩:=h;exact⟨a,cap,by rw[hn];exact h1,by rw[hn];exact h2,h3⟩
theorem slFirst_some{g:Nat->Pl}{T:Nat}{id:Int}{i:Nat}(h:slFirst g T id=some i):i<T/\slHit (g i) id=true/\∀k,k<i->slHit (g k) id=false:=by
 unfold slFirst at h;rw[List.find?_range_eq_some] at h;exact⟨List.mem_range.1 h.2.1,h.1,fun k hk=>by simpa using h.2.2 k hk⟩
theorem slFirst_none{g:Nat->Pl}{T:Nat}{id:Int}(h:slFirst g T id=none):∀i,i<T->slHit (g i) id=false:=by
 unfold slFirst at h;rw[List.find?_eq_none] at h;intro i hi;have:=h i (List.mem_range.2 hi);simpa using this
theorem slotsDrop_any{W:World}{base K N T:Nat}{A:QAd}{s:QSt}(id:Int)(h:Que W base A T K s)(ok:QOk K T N s)(hN:N<=1000)(hb:base<=W.heap.size) :
  Calls prog 91 #[ptr A.SB,.int .i64 id] W fun r w'=>r=.returned (.bool (slFirst s.g T id).isSome)/\Que w' base A T K {s with g:=slDropQ s.g T id}/\Went base W w':=by
 obtain⟨ra,sa,h⟩:=h
 cases e:slFirst s.g T id with
 | none=>
  refine(slDrop_none W A.SB A.SR T s.g id h.slt (slFirst_none e)).mono fun r w' ⟨h1,h2⟩=>⟨h1,?_,by rw[h2];exact Went.refl _ _⟩;have:slDropQ s.g T id=s.g:=by unfold slDropQ;rw[e]
  rw[this,h2];exact⟨ra,sa,h⟩
 | some i=>
  obtain⟨h1,h2,h3⟩:=slFirst_some e;obtain⟨k,d,v,f,e'⟩:∃k d v f,s.g i=⟨(k,d),v,f⟩:=⟨_,_,_,_,rfl⟩;rw[e'] at h2;unfold slHit at h2;simp only[Bool.and_eq_true,beq_iff_eq] at h2;obtain⟨rfl,rfl⟩:=h2;have hv:=ok.ver i h1;rw[e'] at hv;simp only at hv;refine(slDrop_hit W A.SB A.SR T s.g i d k v h.slt h1 e' (by omega) h3).mono fun r w' ⟨r1,r2,r3⟩=>?_;have:slDropQ s.g T d=slSet s.g i ⟨(0,0),v+1,false⟩:=by unfold slDropQ;rw[e];show slSet s.g i ⟨(0,0),(s.g i).v+1,false⟩=_;rw[e']
  rw[this];obtain⟨q1,q2⟩:=h.slots r2 r3;exact⟨r1,⟨_,_,q1⟩,q2⟩
theorem part_slot(A:QAd){T j:Nat}(h:j<T):Part A T j 89 91 #[] #[ptr A.QC,ptr (A.TC j)] #[ptr A.SB] #[]:=by
 refine⟨?_,enters_of func89 (by kernel_rfl) rfl,enters_of func91 (by kernel_rfl) rfl,fun W base K N s hq ok hN hK=>?_,fun W base K N s id hq ok hN hK hb=>?_⟩
 ·have:spotAt T j=(1,(j:Int)):=by unfold spotAt;rw[if_pos h]
  rw[this];exact tabF_slot A h
 ·have:spotL s T j=slotL (s.g j):=by unfold spotL;rw[if_pos h]
  rw[this];exact table1_any W base A T K s j hq h
 ·have e1:hitQ s T id j=(slFirst s.g T id).isSome:=by unfold hitQ;rw[if_pos h]
  have e2:dropQ s T id j={s with g:=slDropQ s.g T id}:=by unfold dropQ;rw[if_pos h]
  rw[e1,e2];exact slotsDrop_any id hq ok hN hb
theorem part_own(A:QAd){T j t:Nat}(h:t<T)(hj:j=T+t):Part A T j 92 93 #[ptr (A.L t)] #[] #[ptr (A.L t)] #[]:=by
 have jt:j-T=t:=by omega
 refine⟨?_,enters_of func92 (by kernel_rfl) rfl,enters_of func93 (by kernel_rfl) rfl,fun W base K N s hq ok hN hK=>?_,fun W base K N s id hq ok hN hK hb=>?_⟩
 ·have:spotAt T j=(2,(t:Int)):=by unfold spotAt;rw[if_neg (by omega),if_pos (by omega),jt]
  rw[this];exact tabF_own A h
 ·have:spotL s T j=sortE (s.ls t).flatten:=by unfold spotL;rw[if_neg (by omega),if_pos (by omega),jt]
  rw[this];obtain⟨ra,sa,hq⟩:=hq;exact(lall_any (A.L t) base (s.ls t) W (hq.own t h).t (by have:=ok.len t h;omega)).mono fun r w' hp=>hp.made (sortE_len _)
 ·have e1:hitQ s T id j=hasL (s.ls t).flatten id:=by unfold hitQ;rw[if_neg (by omega),if_pos (by omega),jt]
  have e2:dropQ s T id j={s with ls:=lset s.ls t (dropLs (s.ls t) id)}:=by unfold dropQ;rw[if_neg (by omega),if_pos (by omega),jt]
  rw[e1,e2];obtain⟨ra,sa,hq⟩:=hq;refine(ldrop_any (A.L t) base (ra t) (s.ls t) id W (hq.own t h) (ok.fall t h) (by have:=ok.count h;omega) (by have:=ok.len t h;omega) hb).mono fun r w' ⟨r1,r2⟩=>?_;obtain⟨ra',q1,q2⟩:=hq.turn h r2;exact⟨r1,⟨_,_,q1⟩,q2⟩
theorem part_shared(A:QAd){T j:Nat}(hj:j=2*T):Part A T j 87 88 #[ptr A.HB] #[] #[ptr A.HB] #[]:=by
 refine⟨?_,enters_of func87 (by kernel_rfl) rfl,enters_of func88 (by kernel_rfl) rfl,fun W base K N s hq ok hN hK=>?_,fun W base K N s id hq ok hN hK hb=>?_⟩
 ·have:spotAt T j=(3,0):=by unfold spotAt;rw[if_neg (by omega),if_neg (by omega)]
  rw[this];exact tabF_shared A T
 ·have:spotL s T j=sortE s.hs.flatten:=by unfold spotL;rw[if_neg (by omega),if_neg (by omega)]
  rw[this];obtain⟨ra,sa,hq⟩:=hq;exact(sall_any A.HB s.v s.hs W hq.shr.s (by have:=ok.hsum;omega)).mono fun r w' hp=>hp.made (sortE_len _)
 ·have e1:hitQ s T id j=hasL s.hs.flatten id:=by unfold hitQ;rw[if_neg (by omega),if_neg (by omega)]
  have e2:dropQ s T id j={s with v:=if hasL s.hs.flatten id then s.v+1 else s.v,hs:=dropS s.hs id}:=by unfold dropQ;rw[if_neg (by omega),if_neg (by omega)]
  rw[e1,e2];obtain⟨ra,sa,hq⟩:=hq;refine(sdrop_any A.HB s.v sa s.hs id W hq.shr (by have:=ok.hlen;omega) (by have:=ok.hsum;omega) ok.hsrt (by have:=ok.sv;omega)).mono fun r w' ⟨r1,⟨a',r2,r3⟩,r4⟩=>?_;obtain⟨q1,q2⟩:=hq.shared r2 r3 r4;exact⟨r1,⟨_,_,q1⟩,q2⟩
theorem part_any(A:QAd){T j:Nat}(hj:j<2*T+1):∃fa fd xa ya xd yd,Part A T j fa fd xa ya xd yd:=by
 by_cases c1:j<T
 ·exact⟨_,_,_,_,_,_,part_slot A c1⟩
 ·by_cases c2:j<2*T
  ·exact⟨_,_,_,_,_,_,part_own A (t:=j-T) (by omega) (by omega)⟩
  ·exact⟨_,_,_,_,_,_,part_shared A (by omega)⟩
theorem spot_wf(T j:Nat)(h8:T<=8):wfI (spotAt T j).1/\wfI (spotAt T j).2:=by
 unfold spotAt wfI;by_cases c1:j<T
 ·rw[if_pos c1];exact⟨(show(Lit.int .i64 1).wf=true by decide),by simp[Lit.wf,IntKind.min,IntKind.max,IntKind.bits,IntKind.signed];omega⟩
 ·rw[if_neg c1];by_cases c2:j<2*T
  ·rw[if_pos c2];exact⟨(show(Lit.int .i64 2).wf=true by decide),by simp[Lit.wf,IntKind.min,IntKind.max,IntKind.bits,IntKind.signed];omega⟩
  ·rw[if_neg c2];exact⟨by decide,by decide⟩
theorem fieldA(f1 f2:Value)(w:World):(Instr.field 194 (.agg #[f1,f2]) 0).run prog w=.ok f1 w:=by
 simp[Instr.field,run_underlying underlying194,asAgg,part]
theorem fieldD(f1 f2:Value)(w:World):(Instr.field 194 (.agg #[f1,f2]) 1).run prog w=.ok f2 w:=by
 simp[Instr.field,run_underlying underlying194,asAgg,part]
def ListsIs(w:World)(n:Nat)(ls:List (List Ent))(r:Ending)(w':World):Prop:=∃a cap,r=.returned (.slice a n cap)/\OwnS w' w.heap.size (.slice a n cap) ls/\Below w.heap.size w w'
theorem OwnS.low{w:World}{base b':Nat}{v:Value}{ls:List (List Ent)}(h:OwnS w base v ls)(hb:b'<=base):OwnS w b' v ls:=by
 obtain⟨vs,h1,h2⟩:=h;refine⟨vs,own_low h1 hb,fun i d hd=>?_⟩;obtain⟨p,q,h3,h4⟩:=h2 i d hd;exact⟨p,q,h3,h4.low hb⟩
theorem lists_any(w:World)(base:Nat)(A:QAd)(T K N:Nat)(s:QSt)(h:Que w base A T K s)(ok:QOk K T N s)(hN:N<=1000)(hK:K<=16)(h1:1<=T)(h8:T<=8) :
  Calls prog 174 #[ptr A.B] w (ListsIs w (2*T+1) (listsQ s T)):=by
 obtain⟨S,hS⟩:∃S,w.heap.size=S:=⟨_,rfl⟩;have H:Aside (Que w base A T K s):=h;have OK:Aside (QOk K T N s):=ok;have fx:QFix w A T K:=by obtain⟨ra,sa,h⟩:=h;exact h.fix
 have sp:=spots_any w A T K fx h1 h8
 have CB:Aside (∀W,Below S w W->W.cell? ⟨A.B,4,none⟩=some (.map (some A.M))/\A.B<W.heap.size):=fun W hW=>by
  have f:=fx.below (by rw[hS];exact hW:Below w.heap.size w W);exact⟨f.cells.2.2.2.2,f.blt⟩
 have HS:Hid _:=hS;obtain⟨n,hn⟩:∃n,2*T+1=n:=⟨_,rfl⟩;have HN:Hid _:=hn;have n17:n<=17:=by omega
 rw[hn] at sp⊢;clear h hS ok fx hn;go_enter func174,ntmps174
 go_wp2_with fail
 refine sp.mono ?_;rintro r w1 ⟨g,cap0,rfl,hg,hcl,_,b1⟩;have CL:Aside (∀W:World,Below w1.heap.size w1 W->g<W.heap.size/\∀j,j<n->W.cell? ⟨g,j*2,none⟩=some (.int .i64 (spotAt T j).1)/\W.cell? ⟨g,j*2+1,none⟩=some (.int .i64 (spotAt T j).2)):=hcl;have B1:Aside (Below w.heap.size w w1):=b1;obtain⟨Z,hZ⟩:∃Z,w1.heap.size=Z:=⟨_,rfl⟩;have HZ:Hid _:=hZ;clear hcl b1 sp hZ
 go_wp2_with fail
 go_loopg [3,9] n (fun kx s3 s9 wr=>∃(k m cap:Nat)(a:Option Addr),s9=.int .i64 k/\k<=n/\n-k<=kx/\Hid (m=k)/\s3=.slice a m cap/\Aside (OwnS wr Z (.slice a m cap) ((listsQ s T).take k))/\Aside (Below Z w1 wr))
 case atStart=>exact⟨0,0,0,none,rfl,by omega,by omega,(by show _=_;omega),rfl,OwnS.nil _ _,Below.refl _ _⟩
 case round=>
  obtain⟨k,m,cap,a,rfl,hk,hkx,HM,rfl,O,D⟩:=hrel;by_cases hlt:k<n
  ·have hz:(k:Int)<(n:Int):=by omega
   obtain⟨gl,cl⟩:=CL.out wr (by rw[HZ.out];exact D.out);obtain⟨cl0,cl1⟩:=cl k hlt;obtain⟨wp,wt⟩:=spot_wf T k h8;obtain⟨fa,fd,xa,ya,xd,yd,pt⟩:=part_any A (T:=T) (j:=k) (by rw[HN.out];exact hlt);have tb:=pt.tab;obtain⟨P,hP⟩:∃P,(spotAt T k).1=P:=⟨_,rfl⟩;obtain⟨Q,hQ⟩:∃P,(spotAt T k).2=P:=⟨_,rfl⟩;rw[hP] at cl0 wp tb;rw[hQ] at cl1 wt tb;obtain⟨R,hR⟩:∃R,wr.heap.size=R:=⟨_,rfl⟩;obtain⟨u,hu⟩:∃u,(wr.alloc (.cells #[.int .i64 P,.int .i64 Q] 191))=u:=⟨_,rfl⟩;have bu:Below wr.heap.size wr u:=by rw[<-hu];exact(Below.refl _ _).alloc (le_refl _) _
   have bz:Below w1.heap.size w1 wr:=by rw[HZ.out];exact D.out
   have bw:Below w.heap.size w wr:=B1.out.trans (bz.mono B1.out.size);have bwu:Below w.heap.size w u:=bw.trans (bu.mono bw.size);have us:u.heap[R]?=some (.cells #[.int .i64 P,.int .i64 Q] 191 (0,0)):=by rw[<-hu,<-hR];exact heap_alloc_new wr _
   obtain⟨x0,x1⟩:=ent0 us;have Ru:R<u.heap.size:=lt_of_block us;have eg:=pt.ea;have fA:=fieldA (.func (.func fa) xa ya) (.func (.func fd) xd yd)
   have CU:Aside (∀W,Below u.heap.size u W->W.cell? ⟨A.B,4,none⟩=some (.map (some A.M))/\A.B<W.heap.size/\W.cell? ⟨R,0,none⟩=some (.int .i64 P)/\W.cell? ⟨R,1,none⟩=some (.int .i64 Q)/\R<W.heap.size/\(Instr.lookup 138 (.map (some A.M)) (.agg #[.int .i64 P,.int .i64 Q]) false).run prog W=.ok (.agg #[.func (.func fa) xa ya,.func (.func fd) xd yd]) W/\Calls prog fa (xa++ya) W (Made W (spotL s T k))):=fun W hW=>by
    have b2:Below w.heap.size w W:=bwu.trans (hW.mono bwu.size);obtain⟨z1,z2⟩:=CB.out W (by rw[<-HS.out];exact b2);have us2:=(hW.block R Ru).trans us;have q2:=H.out.below b2;refine⟨z1,z2,(ent0 us2).1,(ent0 us2).2,lt_of_block us2,?_,pt.all W base K N s q2 OK.out hN hK⟩;obtain⟨ra,sa,q⟩:=q2;exact q.fix.tab.look wp wt tb
   have hb0:Below u.heap.size u u:=Below.refl _ _;have hb1:Below u.heap.size u u.drew:=hb0.drew;obtain⟨y1,y2,y3,y4,y5,y6,y7⟩:=CU.out u hb0;obtain⟨z1,z2,z3,z4,z5,z6,z7⟩:=CU.out u.drew hb1;have HU:Hid _:=hu;obtain⟨d,hd⟩:∃d,spotL s T k=d:=⟨_,rfl⟩;obtain⟨q,hq⟩:∃q,d.length=q:=⟨_,rfl⟩;have HQ:Hid _:=hq
   have MK:Aside (∀(W:World)(x:Option Addr)(y:Nat),Below u.heap.size u W->OwnE W Z (.slice x q y) d->∃r t w',(Builtin.append_ #[156,156] 156 #[.slice a m cap,.slice (some ⟨W.heap.size,0,none⟩) 1 1]).run prog (W.alloc (.cells #[.slice x q y] 157))=.ok (.slice r (m+1) t) w'/\OwnS w' Z (.slice r (m+1) t) ((listsQ s T).take (k+1))/\Below Z w1 w'/\w'.cell? ⟨A.B,4,none⟩=some (.map (some A.M))/\w'.cell? ⟨R,0,none⟩=some (.int .i64 P)/\w'.cell? ⟨R,1,none⟩=some (.int .i64 Q)):=by
    intro W x y hW ho;have bW:Below wr.heap.size wr W:=bu.trans (hW.mono bu.size);have bA:Below W.heap.size W (W.alloc (.cells #[.slice x q y] 157)):=(Below.refl _ _).alloc (le_refl _) _;have el:((listsQ s T).take k).length=m:=by rw[List.length_take,listsQ_len,HM.out];have:=HN.out;omega
    have sS:Z<=W.heap.size:=by have:=bW.size;have:=bz.size;have:=HZ.out;omega
    obtain⟨r,t,w',k1,k2,k3,k4⟩:=apps_run (w:=W.alloc (.cells #[.slice x q y] 157)) (base:=Z) (g:=W.heap.size) (v:=.slice a m cap) (ls:=(listsQ s T).take k) (p:=x) (q:=y) (d:=d) ((O.out.below bW).below bA) (by rw[hq];exact ho.below bA) (by rw[hq];exact cell_new W _ _ 0) (by rw[el];have:=HM.out;omega) (by have:=bA.size;omega) 156;rw[el] at k1 k2;obtain⟨vs,ov,_⟩:=(O.out.below bW).below bA;have bx:Below u.heap.size u (W.alloc (.cells #[.slice x q y] 157)):=hW.trans (bA.mono hW.size);have hR1:=(bx.block R Ru).trans us
    have qf:QFix (W.alloc (.cells #[.slice x q y] 157)) A T K:=by
     obtain⟨ra,sa,q⟩:=H.out.below (bwu.trans (bx.mono bwu.size));exact q.fix
    have hR2:=(k4.block R (lt_of_block hR1) (own_ne ov hR1 (by decide))).trans hR1;have hB2:=(k4.block A.B (lt_of_block qf.head) (own_ne ov qf.head (by decide))).trans qf.head;refine⟨r,t,w',k1,?_,k3 w1 ?_,(by rw[cell_of_row _ _ _ _ _ _ hB2];rfl),(ent0 hR2).1,(ent0 hR2).2⟩
    ·have:(listsQ s T).take (k+1)=(listsQ s T).take k++[d]:=by rw[List.take_add_one,listsQ_at s T (by rw[HN.out];exact hlt),hd];rfl
     rw[this];exact k2
    ·have b9:=bz.trans ((bW.trans (bA.mono bW.size)).mono bz.size);rw[HZ.out] at b9;exact b9
   rw[hd] at z7;have BU:Aside (Z<=u.heap.size):=by show _<=_;have:=bu.size;have:=bz.size;have:=HZ.out;omega
   clear hu bu bw bz pt tb wp wt hP hQ cl hq hd y7;have mx:=mixed
   go_wp2_with fail
   rw[HU.out]
   go_region_held3 (fun W=>W.cell? ⟨A.B,4,none⟩=some (.map (some A.M))/\W.cell? ⟨R,0,none⟩=some (.int .i64 P)/\W.cell? ⟨R,1,none⟩=some (.int .i64 Q)) (first|with_reducible exact⟨y1,y3,y4⟩|with_reducible exact⟨z1,z3,z4⟩|with_reducible exact⟨v1,v3,v4⟩|with_reducible exact⟨v1',v3',v4'⟩|with_reducible exact⟨i1,i2,i3⟩)
    ((first
     | refine step_app (w3.alloc (.cells #[.slice x q y] 157)) (by rfl) _ _ 156 156 (by rfl) (.slice a m cap) (.slice (some ⟨w3.heap.size,0,none⟩) 1 1) (by rfl) (by rfl) (.slice r5 (m+1) t5) w5 hr5 ?_
     | ((with_reducible refine Calls.mono z7 ?_);rintro r w3 ⟨x,y,rfl,o3,d3⟩;rw[HQ.out] at o3⊢;have hb3:Below u.heap.size u w3:=hb1.trans (d3.mono hb1.size);obtain⟨v1,v2,v3,v4,v5,_,_⟩:=CU.out w3 hb3;obtain⟨r5,t5,w5,hr5,o5,b5,i1,i2,i3⟩:=MK.out w3 x y hb3 (o3.low (by show Z<=u.heap.size;exact BU.out));obtain⟨v1',v2',v3',v4',v5',_,_⟩:=CU.out (w3.alloc (.cells #[.slice x q y] 157)) (hb3.alloc hb3.size _))))
   have O5:Aside (OwnS w5 Z (.slice r5 (m+1) t5) ((listsQ s T).take (k+1))):=o5;have D5:Aside (Below Z w1 w5):=b5;clear o5 b5 i1 i2 i3 o3 d3 hb3 v1 v2 v3 v4 v5 v1' v2' v3' v4' v5' y1 y2 y3 y4 y5 y6 z1 z2 z3 z4 z5 z6 z7
   go_wp2
   go_roundg (n-(k+1))
   case measure=>omega
   case rel=>exact⟨k+1,m+1,t5,r5,by go_num,by omega,le_refl _,(by show _=_;have:=HM.out;omega),rfl,O5,D5⟩
  ·have hz:¬(k:Int)<(n:Int):=by omega
   have e1:(listsQ s T).take k=listsQ s T:=List.take_of_length_le (by rw[listsQ_len];have:=HN.out;omega)
   have FIN:Aside (ListsIs w n (listsQ s T) (.returned (.slice a m cap)) wr):=by
    have o:=O.out;have d:=D.out;rw[e1] at o;rw[<-HZ.out] at o d;replace o:=o.low B1.out.size;replace d:=B1.out.trans (d.mono B1.out.size);have em:m=n:=by have:=HM.out;omega
    rw[em] at o⊢;exact⟨a,cap,rfl,o,d⟩
   clear e1
   go_wp2
   go_ret;exact FIN.out
def EntIs(w:World)(x:Ent)(f:Bool)(r:Ending)(w':World):Prop:=r=.returned (.tuple #[.agg #[.int .u64 x.1,.int .i64 x.2],.bool f])/\Below w.heap.size w w'
def leastQ(s:QSt)(T:Nat):Option (Nat×Ent):=leastL (listsQ s T) (2*T+1)
theorem below_box{w u:World}{S:Nat}(h:Below w.heap.size w u)(hS:w.heap.size<=S)(a b:Value):Below w.heap.size w ((u.setCell ⟨S,0,none⟩ a).setCell ⟨S,1,none⟩ b):=(h.setCell hS _).setCell hS _
theorem qleast_any(w:World)(base:Nat)(A:QAd)(T K N:Nat)(s:QSt)(h:Que w base A T K s)(ok:QOk K T N s)(hN:N<=1000)(hK:K<=16)(h1:1<=T)(h8:T<=8) :
  Calls prog 113 #[ptr A.B] w (EntIs w (unl (leastQ s T)) (unb (leastQ s T))):=by
 obtain⟨S,hS⟩:∃S,w.heap.size=S:=⟨_,rfl⟩;obtain⟨u,hu⟩:∃u,w.alloc (.cells #[.int .u64 0,.int .i64 0] 35)=u:=⟨_,rfl⟩;have bu:Below w.heap.size w u:=by rw[<-hu];exact(Below.refl _ _).alloc (le_refl _) _
 have us:u.heap[S]?=some (.cells #[.int .u64 0,.int .i64 0] 35 (0,0)):=by rw[<-hu,<-hS];exact heap_alloc_new w _
 have li:=lists_any u base A T K N s (h.below bu) ok hN hK h1 h8;have ln:=listsQ_len s T;have e0:leastL (listsQ s T) (listsQ s T).length=leastQ s T:=by unfold leastQ;rw[ln]
 have E0:Hid _:=e0;have LN:Hid _:=ln;obtain⟨n,hn⟩:∃n,2*T+1=n:=⟨_,rfl⟩;rw[hn] at li LN;obtain⟨x1,hx1⟩:∃x,(unl (leastQ s T)).1=x:=⟨_,rfl⟩;obtain⟨x2,hx2⟩:∃x,(unl (leastQ s T)).2=x:=⟨_,rfl⟩;obtain⟨f,hf⟩:∃x,unb (leastQ s T)=x:=⟨_,rfl⟩;obtain⟨j,hj⟩:∃x,unj (leastQ s T)=x:=⟨_,rfl⟩;have BU:Aside (Below w.heap.size w u):=bu;have US:Aside (u.heap[S]?=some (.cells #[.int .u64 0,.int .i64 0] 35 (0,0))):=us;have HU:Hid _:=hu;have X1:Hid _:=hx1;have X2:Hid _:=hx2;have XF:Hid _:=hf;have XJ:Hid _:=hj;have HS:Hid _:=hS;clear hu bu us h ok ln e0 hn hx1 hx2 hf hj;go_enter func113,ntmps113
 go_wp2_with fail
 rw[HU.out];refine li.mono ?_;rintro r w1 ⟨a,cap,rfl,o1,b1⟩;rw[<-LN.out] at o1;obtain⟨a',cap',e1,il⟩:=o1.isLL;injection e1 with e1 _ e3
 subst e1 e3;have le:=least_any a cap (listsQ s T) w1 il;rw[LN.out] at le;have B1:Aside (Below w.heap.size w w1):=BU.out.trans (b1.mono BU.out.size);have S1:Aside (w1.heap[S]?=some (.cells #[.int .u64 0,.int .i64 0] 35 (0,0))):=(b1.block S (lt_of_block US.out)).trans US.out;clear o1 b1 il li
 go_wp2_with fail
 refine le.mono ?_;rintro r w2 ⟨hr,b2⟩;rw[E0.out,X1.out,X2.out,XF.out,XJ.out] at hr;subst hr;have s2:=(b2.block S (lt_of_block S1.out)).trans S1.out;have B2:Aside (Below w.heap.size w w2):=B1.out.trans (b2.mono B1.out.size);have Sl:S<w2.heap.size:=lt_of_block s2;have nS:¬S=w2.heap.size:=by omega
 have y0:w2.cell? ⟨S,0,none⟩=some (.int .u64 0):=(ent0 s2).1;have y1:w2.cell? ⟨S,1,none⟩=some (.int .i64 0):=(ent0 s2).2;have z0:w2.frozen? ⟨S,0,none⟩=false:=by simp[World.frozen?,s2]
 have z1:w2.frozen? ⟨S,1,none⟩=false:=by simp[World.frozen?,s2]
 obtain⟨v0,v1⟩:=slBox s2 (.int .u64 x1) (.int .i64 x2);have FB:Aside (Below w.heap.size w ((w2.setCell ⟨S,0,none⟩ (.int .u64 x1)).setCell ⟨S,1,none⟩ (.int .i64 x2))):=below_box B2.out (by have:=HS.out;omega) _ _;have v0':=(cell_old ((w2.setCell ⟨S,0,none⟩ (.int .u64 x1)).setCell ⟨S,1,none⟩ (.int .i64 x2)) (.cells #[.int .u64 x1,.int .i64 x2] 35) 0 (b:=S) (by simp[World.setCell];omega)).trans v0;have v1':=(cell_old ((w2.setCell ⟨S,0,none⟩ (.int .u64 x1)).setCell ⟨S,1,none⟩ (.int .i64 x2)) (.cells #[.int .u64 x1,.int .i64 x2] 35) 1 (b:=S) (by simp[World.setCell];omega)).trans v1;clear s2 b2 le
 go_wp2_with fail
 refine bodyPost_ret (v:=.tuple #[.agg #[.int .u64 x1,.int .i64 x2],.bool f]) (by simp[results,results113,go_sem,v0',v1']) rfl ⟨by rw[X1.out,X2.out,XF.out],FB.out.alloc FB.out.size _⟩
theorem take_any(w:World)(base:Nat)(A:QAd)(T K N:Nat)(s:QSt)(id:Int)(h:Que w base A T K s)(ok:QOk K T N s)(hN:N<=1000)(hK:K<=16)(h1:1<=T)(h8:T<=8)(hbase:base<=w.heap.size) :
  Calls prog 150 #[ptr A.B,.int .i64 id] w fun r w'=>r=.returned (.bool (firstHit s T id).isSome)/\Que w' base A T K (takeQ s T id)/\Went base w w':=by
 have H:Aside (Que w base A T K s):=h;have OK:Aside (QOk K T N s):=ok;have fx:QFix w A T K:=by obtain⟨ra,sa,h⟩:=h;exact h.fix
 have sp:=spots_any w A T K fx h1 h8;obtain⟨n,hn⟩:∃n,2*T+1=n:=⟨_,rfl⟩;have HN:Hid _:=hn;have n17:n<=17:=by omega
 rw[hn] at sp;clear h ok fx hn;go_enter func150,ntmps150
 go_wp2_with fail
 refine sp.mono ?_;rintro r w1 ⟨g,cap0,rfl,hg,_,hcl,b1⟩;have CL:Aside (∀W:World,Kept MQ w1 W->g<W.heap.size/\∀j,j<n->W.cell? ⟨g,j*2,none⟩=some (.int .i64 (spotAt T j).1)/\W.cell? ⟨g,j*2+1,none⟩=some (.int .i64 (spotAt T j).2)):=hcl;have B1:Aside (Below w.heap.size w w1):=b1;have Q1:Aside (Que w1 base A T K s):=H.out.below b1;clear hcl b1 sp H
 go_wp2_with fail
 go_loopg [10] n (fun kx s10 wr=>∃(k:Nat),s10=.int .i64 k/\k<=n/\n-k<=kx/\Aside (Que wr base A T K s)/\Aside (Went base w1 wr)/\Aside (∀i,i<k->hitQ s T id i=false))
 case atStart=>exact⟨0,rfl,by omega,by omega,Q1,Went.refl _ _,(fun i hi=>absurd hi (by omega):∀i,i<0->hitQ s T id i=false)⟩
 case round=>
  obtain⟨k,rfl,hk,hkx,Q,D,NO⟩:=hrel;have W1:Aside (Went base w wr):=(Went.below B1.out hbase).trans D.out;by_cases hlt:k<n
  ·have hz:(k:Int)<(n:Int):=by omega
   obtain⟨gl,cl⟩:=CL.out wr D.out.kept;obtain⟨cl0,cl1⟩:=cl k hlt;obtain⟨wp,wt⟩:=spot_wf T k h8;obtain⟨fa,fd,xa,ya,xd,yd,pt⟩:=part_any A (T:=T) (j:=k) (by rw[HN.out];exact hlt);have tb:=pt.tab;obtain⟨P,hP⟩:∃P,(spotAt T k).1=P:=⟨_,rfl⟩;obtain⟨U,hU⟩:∃P,(spotAt T k).2=P:=⟨_,rfl⟩;rw[hP] at cl0 wp tb;rw[hU] at cl1 wt tb;obtain⟨R,hR⟩:∃R,wr.heap.size=R:=⟨_,rfl⟩;obtain⟨u,hu⟩:∃u,(wr.alloc (.cells #[.int .i64 P,.int .i64 U] 191))=u:=⟨_,rfl⟩;have bu:Below wr.heap.size wr u:=by rw[<-hu];exact(Below.refl _ _).alloc (le_refl _) _
   have us:u.heap[R]?=some (.cells #[.int .i64 P,.int .i64 U] 191 (0,0)):=by rw[<-hu,<-hR];exact heap_alloc_new wr _
   have qu:=Q.out.below bu;have hbr:base<=wr.heap.size:=Nat.le_trans hbase W1.out.size;have eg:=pt.ed;have fA:∀w,(Instr.field 194 (.agg #[.func (.func fa) xa ya,.func (.func fd) xd yd]) 1).run prog w=.ok (.func (.func fd) xd yd) w:=fun w=>fieldD _ _ w
   have CU:Aside (∀(W:World)(st:QSt),Que W base A T K st->W.heap[R]?=some (.cells #[.int .i64 P,.int .i64 U] 191 (0,0))->W.cell? ⟨A.B,4,none⟩=some (.map (some A.M))/\A.B<W.heap.size/\W.cell? ⟨R,0,none⟩=some (.int .i64 P)/\W.cell? ⟨R,1,none⟩=some (.int .i64 U)/\R<W.heap.size/\(Instr.lookup 138 (.map (some A.M)) (.agg #[.int .i64 P,.int .i64 U]) false).run prog W=.ok (.agg #[.func (.func fa) xa ya,.func (.func fd) xd yd]) W):=fun W st ⟨ra,sa,q⟩ hw=>
    ⟨q.fix.cells.2.2.2.2,q.fix.blt,(ent0 hw).1,(ent0 hw).2,lt_of_block hw,q.fix.tab.look wp wt tb⟩
   have hb1:Below u.heap.size u u.drew:=(Below.refl _ _).drew;have qd:=qu.below hb1;have usd:u.drew.heap[R]?=some (.cells #[.int .i64 P,.int .i64 U] 191 (0,0)):=us;obtain⟨b,hb⟩:∃b,hitQ s T id k=b:=⟨_,rfl⟩;have z7:=pt.drop u.drew base K N s id qd OK.out hN hK (Nat.le_trans hbr bu.size);rw[hb] at z7;obtain⟨y1,y2,y3,y4,y5,y6⟩:=CU.out u s qu us;obtain⟨z1,z2,z3,z4,z5,z6⟩:=CU.out u.drew s qd usd;have HB:Hid _:=hb;have WU:Aside (Went base w1 u.drew/\Went base w u.drew):=⟨D.out.trans (Went.below (bu.trans (hb1.mono bu.size)) hbr),W1.out.trans (Went.below (bu.trans (hb1.mono bu.size)) hbr)⟩;have USD:Aside (u.drew.heap[R]?=some (.cells #[.int .i64 P,.int .i64 U] 191 (0,0))):=usd;have HU:Hid _:=hu;clear hu bu pt tb wp wt hP hU cl us usd qu qd hb;have mx:=mixed
   go_wp2_with fail
   rw[HU.out]
   go_region_held3 (fun W=>W.cell? ⟨A.B,4,none⟩=some (.map (some A.M))/\W.cell? ⟨R,0,none⟩=some (.int .i64 P)/\W.cell? ⟨R,1,none⟩=some (.int .i64 U)) (first|with_reducible exact⟨y1,y3,y4⟩|with_reducible exact⟨z1,z3,z4⟩|with_reducible exact⟨v1,v3,v4⟩)
    (((with_reducible refine Calls.mono z7 ?_);rintro r w3 ⟨rfl,q3,b3⟩;have us3:=b3.block USD.out mq_spot;obtain⟨v1,v2,v3,v4,v5,_⟩:=CU.out w3 _ q3 us3))
   have Q3:Aside (Que w3 base A T K (dropQ s T id k)):=q3;have D3:Aside (Went base w1 w3/\Went base w w3):=⟨WU.out.1.trans b3,WU.out.2.trans b3⟩;clear q3 b3 us3 v1 v2 v3 v4 v5 y1 y2 y3 y4 y5 y6 z1 z2 z3 z4 z5 z6 z7
   cases b with
   | true=>
    have FIN:Aside (Value.bool true=Value.bool (firstHit s T id).isSome/\Que w3 base A T K (takeQ s T id)/\Went base w w3):=by
     have e:firstHit s T id=some k:=find_range (by rw[HN.out];exact hlt) HB.out NO.out;refine⟨by rw[e];rfl,?_,D3.out.2⟩;unfold takeQ;rw[e];exact Q3.out
    go_wp2
    go_ret;exact⟨by rw[<-FIN.out.1];rfl,FIN.out.2⟩
   | false=>
    have q4:=Q3.out;rw[dropQ_no HB.out] at q4;have Q4:Aside (Que w3 base A T K s):=q4
    have NO2:Aside (∀i,i<k+1->hitQ s T id i=false):=fun i hi=>by
     by_cases e:i=k
     ·rw[e];exact HB.out
     ·exact NO.out i (by omega)
    have D4:Aside (Went base w1 w3):=D3.out.1;clear q4
    go_wp2
    go_roundg (n-(k+1))
    case measure=>omega
    case rel=>exact⟨k+1,by go_num,by omega,le_refl _,Q4,D4,NO2⟩
  ·have hz:¬(k:Int)<(n:Int):=by omega
   have FIN:Aside (Value.bool false=Value.bool (firstHit s T id).isSome/\Que wr base A T K (takeQ s T id)/\Went base w wr):=by
    have e:firstHit s T id=none:=find_range_none fun i hi=>NO.out i (by have:=HN.out;omega);refine⟨by rw[e];rfl,?_,W1.out⟩;unfold takeQ;rw[e];exact Q.out
   go_wp2
   go_ret;exact⟨by rw[<-FIN.out.1];rfl,FIN.out.2⟩
def headO:List Ent->Ent×Bool
 | []=>((0,0),false)
 | x::_=>(x,true)
def furtherI(s:QSt)(T t:Nat):Option Nat:=(List.range T).find? (fun i=>decide (0<(s.ls ((t+1+i)%T)).flatten.length))
def furtherL(s:QSt)(T t:Nat):List Ent:=match furtherI s T t with
 | some i=>sortE (s.ls ((t+1+i)%T)).flatten
 | none=>sortE (slAll s.g T)
theorem sortE_nil:sortE []=[]:=sortE_id Srt.nil
theorem headO_min{F:Bool}{x:Ent}{d:List Ent}(h:(F=false/\d=[]/\x=(0,0))\/(F=true/\∃t,sortE d=x::t)):(x,F)=headO (sortE d):=by
 rcases h with⟨rfl,rfl,rfl⟩|⟨rfl,t,e⟩
 ·rw[sortE_nil];rfl
 ·rw[e];rfl
theorem lminO(w:World)(base:Nat)(A:QAd)(T K N:Nat)(s:QSt)(t:Nat)(h:Que w base A T K s)(ok:QOk K T N s)(hK:K<=16)(ht:t<T) :
  Calls prog 171 #[ptr (A.L t)] w (EntIs w (headO (sortE (s.ls t).flatten)).1 (headO (sortE (s.ls t).flatten)).2):=by
 obtain⟨ra,sa,h⟩:=h;refine(lmin_any (A.L t) base (s.ls t) w (h.own t ht).t (ok.fall t ht) (by have:=ok.count ht;omega)).mono ?_;rintro r w' ⟨F,x,rfl,hx,b⟩;rw[<-headO_min hx];exact⟨rfl,b⟩
theorem least_one(d:List Ent):(unl (leastL [d] 1),unb (leastL [d] 1))=headO d:=by
 cases d<;>rfl
theorem entf{w:World}{B:Nat}{cs:Array Value}{U:TypeId}(h:w.heap[B]?=some (.cells cs U (0,0)))(o:Nat):w.frozen? ⟨B,o,none⟩=false:=by simp[World.frozen?,h]
theorem entSet2{w:World}{B:Nat}{x y:Value}{U:TypeId}(h:w.heap[B]?=some (.cells #[x,y] U (0,0)))(a b:Value):((w.setCell ⟨B,0,none⟩ a).setCell ⟨B,1,none⟩ b).heap[B]?=some (.cells #[a,b] U (0,0)):=by
 have h1:(w.setCell ⟨B,0,none⟩ a).heap[B]?=some (.cells #[a,y] U (0,0)):=by simp[World.setCell,Array.getElem?_modify,h]
 generalize w.setCell ⟨B,0,none⟩ a=v at h1⊢;simp[World.setCell,Array.getElem?_modify,h1]
theorem isLL_one{w:World}{g n cap:Nat}{a:Option Addr}{d:List Ent}(hg:w.heap[g]?=some (.cells #[.slice a n cap] 157 (0,0)))(hn:d.length=n)(hd:IsL w a cap d):IsLL w (some ⟨g,0,none⟩) [d]:=by
 refine⟨by simp,fun i x hx=>?_⟩
 cases i with
 | zero=>
  simp at hx;subst hx;exact⟨g,0,a,cap,rfl,lt_of_block hg,by rw[hn,cell_of_row _ _ _ _ _ _ hg];rfl,hd⟩
 | succ i=>simp at hx
theorem further_any(w:World)(base:Nat)(A:QAd)(T K N:Nat)(s:QSt)(t:Nat)(h:Que w base A T K s)(ok:QOk K T N s)(hN:N<=1000)(hK:K<=16)(ht:t<T)(h8:T<=8) :
  Calls prog 173 #[ptr A.B,.int .i64 t] w (EntIs w (headO (furtherL s T t)).1 (headO (furtherL s T t)).2):=by
 obtain⟨S,hS⟩:∃S,w.heap.size=S:=⟨_,rfl⟩;obtain⟨u,hu⟩:∃u,w.alloc (.cells #[.int .u64 0,.int .i64 0] 35)=u:=⟨_,rfl⟩;have bu:Below w.heap.size w u:=by rw[<-hu];exact(Below.refl _ _).alloc (le_refl _) _
 have us:u.heap[S]?=some (.cells #[.int .u64 0,.int .i64 0] 35 (0,0)):=by rw[<-hu,<-hS];exact heap_alloc_new w _
 have H:Aside (Que u base A T K s):=h.below bu;have OK:Aside (QOk K T N s):=ok
 have KC:Aside (∀W,Below u.heap.size u W->W.cell? ⟨A.B,1,none⟩=some (ptr A.SB)/\W.cell? ⟨A.B,2,none⟩=some (.slice (some ⟨A.OR,0,none⟩) T A.oc)/\A.B<W.heap.size/\A.OR<W.heap.size/\∀i,i<T->W.cell? ⟨A.OR,i,none⟩=some (ptr (A.L i))):=fun W hW=>by
  obtain⟨ra,sa,q⟩:=H.out.below hW;exact⟨q.fix.cells.2.1,q.fix.cells.2.2.1,q.fix.blt,q.fix.olt,fun i hi=>q.fix.own hi⟩
 have BU:Aside (Below w.heap.size w u):=bu;have US:Aside (u.heap[S]?=some (.cells #[.int .u64 0,.int .i64 0] 35 (0,0))):=us;have HU:Hid _:=hu;have HS:Hid _:=hS
 obtain⟨c2,c3⟩:w.cell? ⟨A.B,2,none⟩=some (.slice (some ⟨A.OR,0,none⟩) T A.oc)/\A.B<w.heap.size:=by
  obtain⟨ra,sa,q⟩:=h;exact⟨q.fix.cells.2.2.1,q.fix.blt⟩
 have c3':A.B<S:=by omega
 have c3n:¬A.B=S:=by omega
 clear hu bu us h ok;go_enter func173,ntmps173
 go_wp2_with fail
 rw[HU.out]
 go_loopg [18] T (fun kx s18 wr=>∃(k:Nat),s18=.int .i64 k/\k<=T/\T-k<=kx/\Aside (Below u.heap.size u wr)/\Aside (∀i,i<k->decide (0<(s.ls ((t+1+i)%T)).flatten.length)=false))
 case atStart=>exact⟨0,rfl,by omega,by omega,Below.refl _ _,(fun i hi=>absurd hi (by omega):∀i,i<0->decide (0<(s.ls ((t+1+i)%T)).flatten.length)=false)⟩
 case round=>
  clear c2 c3 c3' c3n;obtain⟨k,rfl,hk,hkx,D,NO⟩:=hrel;obtain⟨c1,c2,c3,c4,c5⟩:=KC.out wr D.out;by_cases hlt:k<T
  ·have hz:(k:Int)<(T:Int):=by omega
   obtain⟨p,hp⟩:∃p,(t+1+k)%T=p:=⟨_,rfl⟩;have pT:p<T:=by rw[<-hp];exact Nat.mod_lt _ (by omega)
   have c6:=c5 p pT;have hp2:((t:Int)+1+(k:Int)).tmod (T:Int)=(p:Int):=by rw[show(t:Int)+1+(k:Int)=((t+1+k:Nat):Int) by omega,Int.tmod_eq_emod_of_nonneg (by omega),<-hp,Int.natCast_emod]
   have HP:Hid _:=hp;clear c5 hp
   go_wp2_with fail
   go_quiet (fail)
   obtain⟨x1,hx1⟩:∃x,(headO (sortE (s.ls p).flatten)).1.1=x:=⟨_,rfl⟩;obtain⟨x2,hx2⟩:∃x,(headO (sortE (s.ls p).flatten)).1.2=x:=⟨_,rfl⟩;obtain⟨f,hf⟩:∃x,(headO (sortE (s.ls p).flatten)).2=x:=⟨_,rfl⟩;have DD:Below u.heap.size u (wr.drewN nq):=⟨D.out.os,D.out.tape,D.out.output,D.out.size,D.out.block⟩;have mn:=lminO (wr.drewN nq) base A T K N s p (H.out.below DD) OK.out hK pT;unfold EntIs at mn;rw[hx1,hx2,hf] at mn;have X1:Hid _:=hx1;have X2:Hid _:=hx2;have XF:Hid _:=hf;have DR:Aside (Below u.heap.size u (wr.drewN nq)):=DD;clear hx1 hx2 hf DD hp2 c6
   go_wp2_with fail
   refine mn.mono ?_;rintro r w2 ⟨rfl,d2⟩;have D2:Aside (Below u.heap.size u w2):=DR.out.trans (d2.mono DR.out.size);have s2:=(D2.out.block S (lt_of_block US.out)).trans US.out;have W2:Aside (Below w.heap.size w w2):=BU.out.trans (D2.out.mono BU.out.size);have Sl:S<w2.heap.size:=lt_of_block s2;have nS:¬S=w2.heap.size:=by omega
   cases f with
   | true=>
    have y0:w2.cell? ⟨S,0,none⟩=some (.int .u64 0):=(ent0 s2).1;have y1:w2.cell? ⟨S,1,none⟩=some (.int .i64 0):=(ent0 s2).2;have z0:=entf s2 0;have z1:=entf s2 1;have s3:=entSet2 s2 (.int .u64 x1) (.int .i64 x2);have FB:Aside (Below w.heap.size w ((w2.setCell ⟨S,0,none⟩ (.int .u64 x1)).setCell ⟨S,1,none⟩ (.int .i64 x2))):=below_box W2.out (by have:=HS.out;omega) _ _;have v0':=(cell_old ((w2.setCell ⟨S,0,none⟩ (.int .u64 x1)).setCell ⟨S,1,none⟩ (.int .i64 x2)) (.cells #[.int .u64 x1,.int .i64 x2] 35) 0 (b:=S) (by simp[World.setCell];omega)).trans (ent0 s3).1;have v1':=(cell_old ((w2.setCell ⟨S,0,none⟩ (.int .u64 x1)).setCell ⟨S,1,none⟩ (.int .i64 x2)) (.cells #[.int .u64 x1,.int .i64 x2] 35) 1 (b:=S) (by simp[World.setCell];omega)).trans (ent0 s3).2
    have FE:Aside ((headO (furtherL s T t)).1.1=x1/\(headO (furtherL s T t)).1.2=x2/\(headO (furtherL s T t)).2=true):=by
     have hit:decide (0<(s.ls ((t+1+k)%T)).flatten.length)=true:=by
      rw[HP.out];have xf:=XF.out;have sl:=sortE_len (s.ls p).flatten
      cases e:sortE (s.ls p).flatten with
      | nil=>rw[e] at xf;cases xf
      | cons y d=>rw[e] at sl;simp only[List.length_cons] at sl;exact decide_eq_true (by omega)
     have e:furtherI s T t=some k:=find_range hlt hit NO.out;have e2:furtherL s T t=sortE (s.ls p).flatten:=by unfold furtherL;rw[e];show sortE (s.ls ((t+1+k)%T)).flatten=_;rw[HP.out]
     rw[e2];exact⟨X1.out,X2.out,XF.out⟩
    clear s2 s3 d2 mn c1 c2 c3 c4
    go_wp2_with fail
    refine bodyPost_ret (v:=.tuple #[.agg #[.int .u64 x1,.int .i64 x2],.bool true]) (by simp[results,results173,go_sem,v0',v1']) rfl ⟨by rw[FE.out.1,FE.out.2.1,FE.out.2.2],FB.out.alloc FB.out.size _⟩
   | false=>
    have NO2:Aside (∀i,i<k+1->decide (0<(s.ls ((t+1+i)%T)).flatten.length)=false):=fun i hi=>by
     by_cases e:i=k
     ·subst e;rw[HP.out];have xf:=XF.out;have sl:=sortE_len (s.ls p).flatten
      cases e:sortE (s.ls p).flatten with
      | nil=>rw[e] at sl;simp only[List.length_nil] at sl;exact decide_eq_false (by omega)
      | cons y d=>rw[e] at xf;cases xf
     ·exact NO.out i (by omega)
    have D3:Aside (Below u.heap.size u (w2.alloc (.cells #[.int .u64 x1,.int .i64 x2] 35))):=D2.out.alloc D2.out.size _;clear s2 d2 mn c1 c2 c3 c4
    go_wp2
    go_roundg (T-(k+1))
    case measure=>omega
    case rel=>exact⟨k+1,by go_num,by omega,le_refl _,D3,NO2⟩
  ·have hz:¬(k:Int)<(T:Int):=by omega
   have e2:furtherL s T t=sortE (slAll s.g T):=by
    have e:furtherI s T t=none:=find_range_none fun i hi=>NO.out i (by omega);unfold furtherL;rw[e]
   obtain⟨m,hm⟩:∃m,(slAll s.g T).length=m:=⟨_,rfl⟩;have m8:=slAll_len s.g T
   have al:Calls prog 212 #[ptr A.SB] wr (SlAllIs wr m (slAll s.g T)):=by
    obtain⟨ra,sa,q⟩:=H.out.below D.out;exact slAll_any wr A.SB A.SR T s.g m q.slt hm
   obtain⟨d,hd⟩:∃d,sortE (slAll s.g T)=d:=⟨_,rfl⟩;have hdl:d.length=m:=by rw[<-hd,sortE_len];exact hm
   have HM:Hid _:=hm;have HD:Hid _:=hd;have HDL:Hid _:=hdl;have E2:Hid _:=e2;obtain⟨x1,hx1⟩:∃x,(headO d).1.1=x:=⟨_,rfl⟩;obtain⟨x2,hx2⟩:∃x,(headO d).1.2=x:=⟨_,rfl⟩;obtain⟨f,hf⟩:∃x,(headO d).2=x:=⟨_,rfl⟩;have lo:=least_one d;have lo1:unl (leastL [d] 1)=(headO d).1:=congrArg Prod.fst lo;have lo2:unb (leastL [d] 1)=(headO d).2:=congrArg Prod.snd lo;obtain⟨j,hj⟩:∃j,unj (leastL [d] 1)=j:=⟨_,rfl⟩;have LO:Hid (unl (leastL [d] 1)=(x1,x2)/\unb (leastL [d] 1)=f/\unj (leastL [d] 1)=j):=⟨by rw[lo1,<-hx1,<-hx2],by rw[lo2];exact hf,hj⟩;have X1:Hid _:=hx1;have X2:Hid _:=hx2;have XF:Hid _:=hf;rw[hm] at m8;clear e2 hm hd hdl hx1 hx2 hf lo lo1 lo2 hj c2 c4 c5
   go_wp2_with fail
   refine al.mono ?_;rintro r w2 ⟨a,cap,rfl,o2,d2⟩;have il:IsL w2 a cap (slAll s.g T):=by rw[<-HM.out] at o2;exact o2.is
   have so:=sort_made a cap (slAll s.g T) w2 il (by have:=HM.out;omega);rw[HM.out,HD.out] at so;have D2:Aside (Below u.heap.size u w2):=D.out.trans (d2.mono D.out.size);clear o2 d2 al il
   go_wp2_with fail
   refine so.mono ?_;rintro r w3 ⟨a3,cap3,rfl,o3,d3⟩;rw[HDL.out] at o3⊢;have D3:Aside (Below u.heap.size u w3):=D2.out.trans (d3.mono D2.out.size);obtain⟨R3,hR3⟩:∃R,w3.heap.size=R:=⟨_,rfl⟩;obtain⟨u3,hu3⟩:∃u,w3.alloc (.cells #[.slice a3 m cap3] 157)=u:=⟨_,rfl⟩;have bu3:Below w3.heap.size w3 u3:=by rw[<-hu3];exact(Below.refl _ _).alloc (le_refl _) _
   have us3:u3.heap[R3]?=some (.cells #[.slice a3 m cap3] 157 (0,0)):=by rw[<-hu3,<-hR3];exact heap_alloc_new w3 _
   have il3:IsL u3 a3 cap3 d:=by rw[<-HDL.out] at o3;exact o3.is.below bu3
   have le:=least_any (some ⟨R3,0,none⟩) 1 [d] u3 (isLL_one us3 HDL.out il3);simp only[List.length_singleton] at le;have DU3:Aside (Below u.heap.size u u3):=D3.out.trans (bu3.mono D3.out.size);have HU3:Hid _:=hu3;clear o3 d3 so hu3 bu3 us3 il3
   go_wp2_with fail
   rw[HU3.out];refine le.mono ?_;rintro r w4 ⟨hr,d4⟩;simp only[List.length_singleton] at hr;rw[LO.out.1,LO.out.2.1,LO.out.2.2] at hr;subst hr;have D4:Aside (Below u.heap.size u w4):=DU3.out.trans (d4.mono DU3.out.size);have s2:=(D4.out.block S (lt_of_block US.out)).trans US.out;have W4:Aside (Below w.heap.size w w4):=BU.out.trans (D4.out.mono BU.out.size);have Sl:S<w4.heap.size:=lt_of_block s2;have nS:¬S=w4.heap.size:=by omega
   have y0:w4.cell? ⟨S,0,none⟩=some (.int .u64 0):=(ent0 s2).1;have y1:w4.cell? ⟨S,1,none⟩=some (.int .i64 0):=(ent0 s2).2;have z0:=entf s2 0;have z1:=entf s2 1;have s3:=entSet2 s2 (.int .u64 x1) (.int .i64 x2);have FB:Aside (Below w.heap.size w ((w4.setCell ⟨S,0,none⟩ (.int .u64 x1)).setCell ⟨S,1,none⟩ (.int .i64 x2))):=below_box W4.out (by have:=HS.out;omega) _ _;have v0':=(cell_old ((w4.setCell ⟨S,0,none⟩ (.int .u64 x1)).setCell ⟨S,1,none⟩ (.int .i64 x2)) (.cells #[.int .u64 x1,.int .i64 x2] 35) 0 (b:=S) (by simp[World.setCell];omega)).trans (ent0 s3).1;have v1':=(cell_old ((w4.setCell ⟨S,0,none⟩ (.int .u64 x1)).setCell ⟨S,1,none⟩ (.int .i64 x2)) (.cells #[.int .u64 x1,.int .i64 x2] 35) 1 (b:=S) (by simp[World.setCell];omega)).trans (ent0 s3).2
   have FE:Aside ((headO (furtherL s T t)).1.1=x1/\(headO (furtherL s T t)).1.2=x2/\(headO (furtherL s T t)).2=f):=by
    rw[E2.out,HD.out];exact⟨X1.out,X2.out,XF.out⟩
   clear s2 s3 d4 le c1 c3
   go_wp2_with fail
   refine bodyPost_ret (v:=.tuple #[.agg #[.int .u64 x1,.int .i64 x2],.bool f]) (by simp[results,results173,go_sem,v0',v1']) rfl ⟨by rw[FE.out.1,FE.out.2.1,FE.out.2.2],FB.out.alloc FB.out.size _⟩
end Go.Proofs.YtjpbngiddjkjiaaGreatDoor.Qu
