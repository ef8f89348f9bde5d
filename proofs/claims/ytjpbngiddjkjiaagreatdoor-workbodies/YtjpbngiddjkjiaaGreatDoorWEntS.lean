import Derived.Test.YtjpbngiddjkjiaaGreatDoorAnyF
import Derived.Test.YtjpbngiddjkjiaaGreatDoorWTmF
import Derived.Deep.LoopGhost
import Derived.Laws.CopyRow
import Derived.StillTail
import Derived.Laws.BitsAllLaws
open Go.Proofs.Tryz
open List(append_assoc getElem?_eq_getElem length_drop length_set length_take set_cons_succ take_append_of_le_length take_of_length_le take_take)
open Nat(add_zero le_refl)
namespace Go.Proofs.YtjpbngiddjkjiaaGreatDoor.Wl
set_option maxHeartbeats 8000000
set_option maxRecDepth 100000
set_option linter.unusedVariables false
section
open Go.Sort
def Srt(d:List Ent):Prop:=d.Pairwise (fun x y=>ltE y x=false)
theorem Srt.nil:Srt []:=List.Pairwise.nil
theorem Srt.get{d:List Ent}(h:Srt d){i j:Nat}(hij:i<j)(hj:j<d.length):ltE d[j] d[i]=false:=List.pairwise_iff_getElem.1 h i j (by omega) hj hij
theorem Srt.le{d:List Ent}(h:Srt d){i j:Nat}(hij:i<=j)(hj:j<d.length):ltE d[j] d[i]=false:=by
 by_cases e:i=j
 ·subst e;exact swoE.irrefl _
 ·exact h.get (by omega) hj
def insL:List Ent->Ent->List Ent
 | [],e=>[e]
 | x::r,e=>if ltE e x then e::x::r else x::insL r e
theorem insL_perm:∀(d:List Ent)(e:Ent),(insL d e).Perm (e::d)
 | [],e=>List.Perm.refl _
 | x::r,e=>by
  unfold insL
  split
  ·exact List.Perm.refl _
  ·exact((insL_perm r e).cons x).trans (List.Perm.swap e x r)
theorem insL_len(d:List Ent)(e:Ent):(insL d e).length=d.length+1:=(insL_perm d e).length_eq
theorem insL_srt:∀(d:List Ent)(e:Ent),Srt d->Srt (insL d e)
 | [],e,_=>by simp[insL,Srt]
 | x::r,e,h=>by
  obtain⟨h1,h2⟩:=List.pairwise_cons.1 h;unfold insL
  split
  ·next c=>
   refine List.pairwise_cons.2 ⟨fun z hz=>?_,h⟩;rcases List.mem_cons.1 hz with rfl|hz
   ·exact swoE.asymmA c
   ·exact swoE.ntrans _ _ _ (h1 z hz) (swoE.asymmA c)
  ·next c=>
   refine List.pairwise_cons.2 ⟨fun z hz=>?_,insL_srt r e h2⟩;rcases List.mem_cons.1 ((insL_perm r e).mem_iff.1 hz) with rfl|hz
   ·simpa using c
   ·exact h1 z hz
theorem insL_eq:∀(d:List Ent)(e:Ent)(k:Nat),k<=d.length->(∀i (hi:i<k) (h:i<d.length),ltE e d[i]=false)->(∀h:k<d.length,ltE e d[k]=true)->d.take k++e::d.drop k=insL d e
 | [],e,k,hk,_,_=>by simp[insL]
 | x::r,e,0,hk,h1,h2=>by
  have:=h2 (by simp);simp at this;simp[insL,this]
 | x::r,e,k+1,hk,h1,h2=>by
  have h0:=h1 0 (by omega) (by simp);simp at h0;have ih:=insL_eq r e k (by simpa using hk) (fun i hi h=>h1 (i+1) (by omega) (by simpa using h)) (fun h=>h2 (by simpa using h));simp[insL,h0,ih]
def smal(d:List Ent)(e:Ent):Nat:=d.countP (fun x=>ltE x e)
theorem smal_le(d:List Ent)(e:Ent):smal d e<=d.length:=List.countP_le_length
theorem smal_all{d:List Ent}{e:Ent}(h:∀x∈d,ltE x e=true):smal d e=d.length:=by
 unfold smal;rw[List.countP_eq_length];exact h
theorem smal_none{d:List Ent}{e:Ent}(h:∀x∈d,ltE x e=false):smal d e=0:=by
 unfold smal;rw[List.countP_eq_zero];intro x hx;rw[h x hx];simp
theorem smal_split(d:List Ent)(e:Ent)(k:Nat):smal d e=smal (d.take k) e+smal (d.drop k) e:=by
 conv=>lhs;rw[<-List.take_append_drop k d]
 unfold smal;exact List.countP_append
theorem smal_place{d:List Ent}(hs:Srt d)(e:Ent)(i:Nat)(hi:i<=d.length)(h1:i=0\/∃h:i-1<d.length,ltE d[i-1] e=true)(h2:i=d.length\/∃h:i<d.length,ltE d[i] e=false):smal d e=i:=by
 rw[smal_split d e i,smal_all (d:=d.take i),smal_none (d:=d.drop i)]
 ·simp;omega
 ·intro x hx;obtain⟨j,hj,rfl⟩:=List.getElem_of_mem hx;rw[length_drop] at hj;rw[List.getElem_drop];rcases h2 with h2|⟨h,h2⟩
  ·omega
  ·exact swoE.ntrans _ _ _ (hs.le (show i<=i+j by omega) (by omega)) h2
 ·intro x hx;obtain⟨j,hj,rfl⟩:=List.getElem_of_mem hx;rw[length_take] at hj;rw[List.getElem_take];rcases h1 with h1|⟨h,h1⟩
  ·omega
  ·cases c:ltE d[j] e with
   | true=>rfl
   | false=>
    have:=swoE.ntrans _ _ _ (hs.le (show j<=i-1 by omega) h) c;rw[this] at h1;cases h1
end
section
open Go.RowKit Go.Lib Go.Sort
theorem IsL.at{w:World}{a:Option Addr}{cap:Nat}{d:List Ent}(h:IsL w a cap d){i:Nat}(hi:i<d.length):∃b off,a=some ⟨b,off,none⟩/\∀W,Grown w W->∀n os,(grow (W.drewN n) os).cell? ⟨b,off+i*2,none⟩=some (.int .u64 d[i].1)/\(grow (W.drewN n) os).cell? ⟨b,off+i*2+1,none⟩=some (.int .i64 d[i].2):=by
 obtain⟨b,off,e,hb,h1,h2⟩:=h.elem i d[i] (getElem?_eq_getElem hi);refine⟨b,off,e,fun W hW n os=>?_⟩;have g:Grown w (grow (W.drewN n) os):=hW.trans ⟨n,os,rfl⟩;exact⟨(g.below.cell (p:=⟨b,off+i*2,none⟩) hb).trans h1,(g.below.cell (p:=⟨b,off+i*2+1,none⟩) hb).trans h2⟩
theorem cell_old(w:World){b:Nat}(o:Obj)(j:Nat)(hb:b<w.heap.size):(w.alloc o).cell? ⟨b,j,none⟩=w.cell? ⟨b,j,none⟩:=World.cell?_of_block (w:=w) (Below.heap_alloc _ _ _ hb)
def FirstIs(d:List Ent)(p:Ent->Bool)(z:Int):Prop:=(z = -1/\∀i (hi:i<d.length),p d[i]=false)\/∃k:Nat,∃hk:k<d.length,z=k/\p d[k]=true/\∀i (hi:i<k),p (d[i]'(by omega))=false
theorem indexFunc_any(a:Option Addr)(cap:Nat)(d:List Ent)(g:Nat)(cb:Array Value)(p:Ent->Bool)(w:World)(h:IsL w a cap d)
  (eg:∀args w,(callFunc g args).run prog w=.ok (.enter g args) w)
  (hg:∀(x:Ent)(W:World),Grown w W->Calls prog g (#[.agg #[.int .u64 x.1,.int .i64 x.2]]++cb) W fun e w'=>e=.returned (.bool (p x))/\Grown W w') :
  Calls prog 263 #[.slice a d.length cap,.func (.func g) #[] cb] w fun r w'=>∃z:Int,r=.returned (.int .i64 z)/\FirstIs d p z/\Grown w w':=by
 have hl:=h.len;have H:Aside (IsL w a cap d):=h;have HG:Aside (∀(x:Ent)(W:World),Grown w W->Calls prog g (#[.agg #[.int .u64 x.1,.int .i64 x.2]]++cb) W fun e w'=>e=.returned (.bool (p x))/\Grown W w'):=hg;clear h hg;go_enter func263,ntmps263
 go_wp2
 go_loopg [8] d.length (fun kx s8 wr=>∃k:Nat,s8=.int .i64 k/\k<=d.length/\d.length-k<=kx/\Aside (Grown w wr)/\Aside (∀i (hi:i<d.length),i<k->p d[i]=false))
 case atStart=>exact⟨0,rfl,by omega,by omega,Grown.refl w,(fun i _ h=>absurd h (by omega):∀i (hi:i<d.length),i<0->p d[i]=false)⟩
 case round=>
  obtain⟨k,rfl,hk,hkx,G,A⟩:=hrel;by_cases hlt:k<d.length
  ·have hz:(k:Int)<(d.length:Int):=by omega
   obtain⟨b,off,ha,hc⟩:=H.out.at hlt;subst ha;have c1:=(hc wr G.out 0 #[]).1;have c2:=(hc wr G.out 0 #[]).2;simp only[grow_empty,show wr.drewN 0=wr from rfl] at c1 c2;clear hc;obtain⟨x,hx⟩:∃x,d[k]=x:=⟨_,rfl⟩;rw[hx] at c1 c2;have HX:Hid _:=hx;clear hx;obtain⟨B,hB⟩:∃B,p x=B:=⟨_,rfl⟩;have HB:Hid _:=hB;have pc:=HG.out x wr G.out;rw[hB] at pc;clear hB
   go_wp2_with fail
   refine pc.mono ?_;rintro r w1 ⟨rfl,g1⟩;have G2:Aside (Grown w w1):=G.out.trans g1;clear g1 G c1 c2 pc
   cases B with
   | true=>
    go_wp2
    go_ret;refine⟨k,rfl,.inr ⟨k,hlt,rfl,?_,fun i hi=>A.out i (by omega) hi⟩,G2.out⟩;rw[HX.out];exact HB.out
   | false=>
    go_wp2
    go_roundg (d.length-(k+1))
    case measure=>omega
    case rel=>
     refine⟨k+1,by go_num,by omega,le_refl _,G2,(fun i hi hik=>?_:∀i (hi:i<d.length),i<k+1->p d[i]=false)⟩;by_cases e:i=k
     ·subst e;rw[HX.out];exact HB.out
     ·exact A.out i hi (by omega)
  ·have hz:¬(k:Int)<(d.length:Int):=by omega
   go_wp2
   go_ret;exact⟨-1,rfl,.inl ⟨rfl,fun i hi=>A.out i hi (by omega)⟩,G.out⟩
theorem wo1_any(S:Nat)(t x:Ent)(W:World)(hS:S<W.heap.size)(c0:W.cell? ⟨S,0,none⟩=some (.int .u64 t.1))(c1:W.cell? ⟨S,1,none⟩=some (.int .i64 t.2)) :
  Calls prog 252 #[.agg #[.int .u64 x.1,.int .i64 x.2],.pointer (some ⟨S,0,none⟩)] W fun e w'=>e=.returned (.bool (decide (x=t)))/\Grown W w':=by
 have e:decide (x=t)=(x.1==t.1&&x.2==t.2):=by
  obtain⟨x1,x2⟩:=x;obtain⟨t1,t2⟩:=t;simp only[Prod.mk.injEq];by_cases h1:x1=t1<;>by_cases h2:x2=t2<;>simp[h1,h2]
 rw[e];have d0:(W.alloc (.cells #[.int .u64 x.1,.int .i64 x.2] 282)).cell? ⟨S,0,none⟩=some (.int .u64 t.1):=(cell_old W _ 0 hS).trans c0;have d1:(W.alloc (.cells #[.int .u64 x.1,.int .i64 x.2] 282)).cell? ⟨S,1,none⟩=some (.int .i64 t.2):=(cell_old W _ 1 hS).trans c1;have hS2:¬S=W.heap.size:=by omega
 go_enter func252,ntmps252
 go_wp2
 all_goals go_ret
 all_goals refine⟨?_,(Grown.refl W).alloc _⟩
 all_goals simp_all
theorem flat_set(d:List Ent)(i:Nat)(x:Ent):flat (d.set i x)=((flat d).set (i*2) (.int .u64 x.1)).set (i*2+1) (.int .i64 x.2):=by
 induction d generalizing i with
 | nil=>simp
 | cons y d ih=>
  cases i with
  | zero=>rfl
  | succ i=>
   rw[set_cons_succ,flat_cons,ih,flat_cons,show(i+1)*2=i*2+1+1 by omega,set_cons_succ,set_cons_succ,set_cons_succ,set_cons_succ]
theorem RowF.set{w:World}{base g off cap:Nat}{d:List Ent}(h:RowF w base g off cap d)(i:Nat)(x:Ent) :
  RowF ((w.setCell ⟨g,off+i*2,none⟩ (.int .u64 x.1)).setCell ⟨g,off+i*2+1,none⟩ (.int .i64 x.2)) base g off cap (d.set i x)/\w.grownBy ((w.setCell ⟨g,off+i*2,none⟩ (.int .u64 x.1)).setCell ⟨g,off+i*2+1,none⟩ (.int .i64 x.2)) (some g):=by
 obtain⟨P,R,m1,m2,m3,m4⟩:=h.mem;have k1:=heap_setCell_same w g (off+i*2) _ 282 (.int .u64 x.1) m1;have k2:=heap_setCell_same _ g (off+i*2+1) _ 282 (.int .i64 x.2) k1;refine⟨⟨h.low,h.pos,by rw[length_set];exact h.le,h.big,P,(R.set (i*2) (.int .u64 x.1)).set (i*2+1) (.int .i64 x.2),?_,m2,by simpa using m3,?_⟩,rfl,rfl,rfl,by simp,fun k _ hk=>?_⟩
 ·rw[k2];congr 2;apply Array.ext';rw[Array.toList_setIfInBounds,Array.toList_setIfInBounds];show((P++R).set _ _).set _ _=_;rw[List.set_append_right _ _ (by omega),List.set_append_right _ _ (by omega),show off+i*2-P.length=i*2 by omega,show off+i*2+1-P.length=i*2+1 by omega]
 ·rw[length_set,flat_set,<-m4,List.take_set,List.take_set]
 ·rw[heap_setCell_other _ _ k _ (fun e=>hk (by rw[e])),heap_setCell_other _ _ k _ (fun e=>hk (by rw[e]))]
theorem run_clear2(w:World)(ty:TypeId)(g o c:Nat)(cur:Array Value)(hg:w.heap[g]?=some (.cells cur 282 (0,0)))(hfit:o+2<=cur.size) :
  (Builtin.clear_ #[94] ty #[.slice (some ⟨g,o,none⟩) 1 c]).run prog w=.ok (.tuple #[]) (w.setRow g (splice cur.toList o [.int .u64 0,.int .i64 0]).toArray):=by
 have hst:=run_storeCells_at prog g o 282 [.int .u64 0,.int .i64 0] 0 cur w hg (by simpa using hfit) (by intro v hv;simp at hv;rcases hv with rfl|rfl<;>rfl);have hz:∀w,(zeroValue 282).run prog w=.ok (.agg #[.int .u64 0,.int .i64 0]) w:=fun w=>by kernel_rfl
 have hc:(Builtin.zeroCells (Value.agg #[.int .u64 0,.int .i64 0]).cells 1).toList=[.int .u64 0,.int .i64 0]:=by first|kernel_rfl|simp[Builtin.zeroCells,Value.cells,Array.range]
 simp only[add_zero,append_assoc] at hst;simp[Builtin.clear_,run_underlying underlying94,hz,hc,hst,splice]
theorem RowF.clear{w:World}{base g off cap n:Nat}{d:List Ent}(h:RowF w base g off cap d)(hn:d.length=n+1)(ty:TypeId)(c:Nat) :
  ∃w',(Builtin.clear_ #[94] ty #[.slice (some ⟨g,off+n*2,none⟩) 1 c]).run prog w=.ok (.tuple #[]) w'/\RowF w' base g off cap (d.take n)/\w.grownBy w' (some g):=by
 obtain⟨P,R,m1,m2,m3,m4⟩:=h.mem;have hle:=h.le;refine⟨_,run_clear2 w ty g (off+n*2) c _ m1 (by simp;omega),⟨h.low,h.pos,by simp;omega,h.big,P,splice R (n*2) [.int .u64 0,.int .i64 0],?_,m2,?_,?_⟩,grown_set _ (grown_refl _ _) (.inl rfl)⟩
 ·rw[setRow_heap _ _ _ _ _ _ m1];show some (Obj.cells (splice (P++R) _ _).toArray _ _)=_;rw[<-m2,splice_pre]
 ·rw[length_splice _ _ _ (by simp;omega),m3]
 ·have e:(d.take n).length=n:=by simp;omega
  rw[e];unfold splice;rw[take_append_of_le_length (by simp;omega),take_take,Nat.min_self];have:flat d=flat (d.take n)++flat (d.drop n):=by rw[<-flat_append,List.take_append_drop]
  rw[this] at m4;have h2:=congrArg (List.take (n*2)) m4;rw[take_take,show min (n*2) (d.length*2)=n*2 by omega,take_append_of_le_length (by rw[flat_len,e];omega)] at h2;rw[h2,take_of_length_le (by rw[flat_len,e];omega)]
theorem delete_any(g off cap base K k:Nat)(d:List Ent)(t:Ent)(w:World)(h:RowF w base g off cap d)(hk:k<d.length)(hkt:d[k]=t)(hu:∀i (hi:i<d.length),d[i]=t->i=k)
  (hK:K<w.heap.size) (hne:K≠g) (c0:w.cell? ⟨K,0,none⟩=some (.int .u64 t.1)) (c1:w.cell? ⟨K,1,none⟩=some (.int .i64 t.2)) :
  Calls prog 251 #[.slice (some ⟨g,off,none⟩) d.length cap,.func (.func 252) #[] #[.pointer (some ⟨K,0,none⟩)]] w fun r w'=>r=.returned (.slice (some ⟨g,off,none⟩) (d.length-1) cap)/\RowF w' base g off cap (d.eraseIdx k)/\w.grownBy w' (some g):=by
 have eg:=enters_of func252 (by kernel_rfl) rfl
 have ix:=indexFunc_any (some ⟨g,off,none⟩) cap d 252 #[.pointer (some ⟨K,0,none⟩)] (fun x=>decide (x=t)) w h.isL eg
  (fun x W hW=>wo1_any K t x W (by have:=hW.below.size;omega) ((hW.below.cell (p:=⟨K,0,none⟩) hK).trans c0) ((hW.below.cell (p:=⟨K,1,none⟩) hK).trans c1))
 have H:Aside (RowF w base g off cap d):=h;have hle:=h.le;have hbig:=h.big;unfold maxLen at hbig;obtain⟨n,hn⟩:∃n,d.length=n+1:=⟨d.length-1,by omega⟩;have HKT:Aside (d[k]?=some t):=by show d[k]?=some t;rw[getElem?_eq_getElem hk,hkt]
 have HU:Aside (∀i (hi:i<d.length),d[i]=t->i=k):=hu;have C0:Aside (w.cell? ⟨K,0,none⟩=some (.int .u64 t.1)/\w.cell? ⟨K,1,none⟩=some (.int .i64 t.2)):=⟨c0,c1⟩;have wo:=fun(x:Ent)(W:World)(hW:K<W.heap.size)(a:W.cell? ⟨K,0,none⟩=some (.int .u64 t.1))(b:W.cell? ⟨K,1,none⟩=some (.int .i64 t.2))=>wo1_any K t x W hW a b;have WO:Aside (∀(x:Ent)(W:World),K<W.heap.size->W.cell? ⟨K,0,none⟩=some (.int .u64 t.1)->W.cell? ⟨K,1,none⟩=some (.int .i64 t.2)->Calls prog 252 #[.agg #[.int .u64 x.1,.int .i64 x.2],.pointer (some ⟨K,0,none⟩)] W fun e w'=>e=.returned (.bool (decide (x=t)))/\Grown W w'):=wo;have n0:((d.length:Nat):Int)=(n:Int)+1:=by omega
 have HN:Hid (d.length=n+1):=hn;have hkn:k<=n:=by omega
 clear h hkt hu c0 c1 wo hk;rw[hn] at ix⊢;have hcn:n+1<=cap:=by omega
 obtain⟨N,hN⟩:∃N,n+1=N:=⟨_,rfl⟩;have q1:(n:Int)<=(N:Int):=by omega
 have q3:N-n=1:=by omega
 have q4:¬cap=n:=by omega
 have q5:(N:Int)<=(cap:Int):=by omega
 have q6:(n:Int)<=(cap:Int):=by omega
 have q7:n<=cap:=by omega
 have HNn:Hid (n+1=N):=hN;rw[hN] at ix⊢;simp only[show N-1=n by omega];clear n0 hn hN hle hcn;go_enter func251,ntmps251
 go_wp2_with fail
 refine ix.mono ?_;rintro r w1 ⟨z,rfl,fi,g1⟩;have G1:Aside (w.grownBy w1 (some g)):=grown_of_grown _ g1
 have hz:z=(k:Int):=by
  rcases fi with⟨_,hno⟩|⟨k',hk',rfl,hyes,_⟩
  ·have hk2:k<d.length:=by have:=HN.out;omega
   have h1:=hno k hk2;have h2:=HKT.out;rw[getElem?_eq_getElem hk2] at h2;injection h2 with h2
   simp[h2] at h1
  ·rw[HU.out k' hk' (by simpa using hyes)]
 subst hz;have k0:¬(k:Int) = -1:=by omega
 have k1:((k:Int) == -1)=false:=by simp
 have R1:Aside (RowF w1 base g off cap d):=H.out.of_block (g1.below.block g H.out.lt);have kn2:(k:Int)+1<=(N:Int):=by have:=HNn.out;omega
 clear fi g1 ix
 go_wp2
 go_loopg [5,6,7] N (fun kx s5 s6 s7 wr=>∃(I J:Nat)(D:List Ent),s5=.int .i64 I/\s6=.int .i64 J/\k<=I/\J<=N/\Hid (J=I+1)/\N-J<=kx/\Aside (RowF wr base g off cap D)/\Aside (D.length=d.length/\D.take I=(d.eraseIdx k).take I/\D.drop J=d.drop J)/\Aside (w.grownBy wr (some g)))
 case atStart=>
  refine⟨k,k+1,d,rfl,by go_num,le_refl _,by omega,(show k+1=k+1 from rfl),by omega,R1,⟨rfl,?_,rfl⟩,G1⟩;rw[List.eraseIdx_eq_take_drop_succ,take_append_of_le_length (by simp;have:=HN.out;omega),take_take,Nat.min_self]
 case round=>
  obtain⟨I,J,D,rfl,rfl,hI,hJ,HJ,hkx,R,A,G⟩:=hrel;have hs:w.heap.size<=wr.heap.size:=G.out.size;by_cases hlt:J<N
  ·have hz:(J:Int)<(N:Int):=by omega
   have hJd:J<d.length:=by have:=HN.out;have:=HNn.out;omega
   have hJD:D[J]?=some d[J]:=by
    have h2:=congrArg (fun l=>l[0]?) A.out.2.2;simp only[List.getElem?_drop,add_zero] at h2;rw[h2,getElem?_eq_getElem hJd]
   obtain⟨y1,y2⟩:=R.out.at J _ hJD;obtain⟨x,hx⟩:∃x,d[J]=x:=⟨_,rfl⟩;rw[hx] at y1 y2
   have hxt:decide (x=t)=false:=by
    rw[<-hx];refine decide_eq_false fun e=>?_;have:=HU.out J hJd e;have:=HJ.out;omega
   have HX:Hid (d[J]=x):=hx;have hKr:K<wr.heap.size:=by omega
   have kc0:wr.cell? ⟨K,0,none⟩=some (.int .u64 t.1):=G.out.cell C0.out.1 (fun e=>by injection e with e;exact hne e);have kc1:wr.cell? ⟨K,1,none⟩=some (.int .i64 t.2):=G.out.cell C0.out.2 (fun e=>by injection e with e;exact hne e);have wc:=WO.out x (wr.alloc (.cells #[.int .u64 x.1,.int .i64 x.2] 282)) (by simp;omega) ((cell_old wr _ 0 hKr).trans kc0) ((cell_old wr _ 1 hKr).trans kc1);rw[hxt] at wc;clear hxt hx hJD
   go_wp2_with fail
   refine wc.mono ?_;rintro r w2 ⟨rfl,g2⟩;have G2:Grown wr w2:=((Grown.refl wr).alloc _).trans g2;have hb2:=G2.below;obtain⟨S,hS⟩:∃S,wr.heap.size=S:=⟨_,rfl⟩;have b0:w2.cell? ⟨S,0,none⟩=some (.int .u64 x.1):=(g2.cells S 0 (by simp[hS])).trans (by rw[<-hS];simp[go_sem]);have b1:w2.cell? ⟨S,1,none⟩=some (.int .i64 x.2):=(g2.cells S 1 (by simp[hS])).trans (by rw[<-hS];simp[go_sem]);have R2:RowF w2 base g off cap D:=R.out.of_block (hb2.block g R.out.lt);have hID:I<D.length:=by have:=HJ.out;have:=A.out.1;omega
   obtain⟨o1,o2⟩:=R2.at I _ (getElem?_eq_getElem hID);have f1:w2.frozen? ⟨g,off+I*2,none⟩=false:=R2.frozen _;have f2:w2.frozen? ⟨g,off+I*2+1,none⟩=false:=R2.frozen _;have hIN:(I:Int)<(N:Int):=by have:=HJ.out;omega
   obtain⟨R3,G3⟩:=R2.set I x;have R3':Aside _:=R3;have G4:Aside (w.grownBy ((w2.setCell ⟨g,off+I*2,none⟩ (.int .u64 x.1)).setCell ⟨g,off+I*2+1,none⟩ (.int .i64 x.2)) (some g)):=grown_trans (grown_trans G.out (grown_of_grown _ G2)) G3
   have A3:Aside ((D.set I x).length=d.length/\(D.set I x).take (I+1)=(d.eraseIdx k).take (I+1)/\(D.set I x).drop (J+1)=d.drop (J+1)):=by
    refine⟨by rw[length_set];exact A.out.1,?_,?_⟩
    ·have e1:(d.eraseIdx k)[I]?=some x:=by
      rw[List.getElem?_eraseIdx,if_neg (by omega)];have h3:=HJ.out;rw[<-h3,getElem?_eq_getElem hJd,HX.out]
     rw[List.take_add_one (l:=D.set I x),List.take_add_one (l:=d.eraseIdx k),List.getElem?_set_self (by omega),e1,List.take_set_of_le (le_refl _),A.out.2.1]
    ·rw[List.drop_set_of_lt (by have:=HJ.out;omega)];have h4:=congrArg (List.drop 1) A.out.2.2;rw[List.drop_drop,List.drop_drop] at h4;exact h4
   clear R2 R3 G3 hb2 g2 G2 y1 y2 R G kc0 kc1 wc
   go_wp2
   go_roundg (N-(J+1))
   case measure=>omega
   case rel=>exact⟨I+1,J+1,D.set I x,by go_num,by go_num,by omega,by omega,(show J+1=I+1+1 by have:=HJ.out;omega),le_refl _,R3',A3,G4⟩
  ·have hz:¬(J:Int)<(N:Int):=by omega
   obtain rfl:I=n:=by have:=HJ.out;have:=HNn.out;omega
   have AA:=A.out;have Dn:D.length=I+1:=by rw[AA.1];exact HN.out
   have TD:D.take I=d.eraseIdx k:=by
    rw[AA.2.1,take_of_length_le];rw[List.length_eraseIdx,if_pos (by have:=HN.out;omega),HN.out];omega
   obtain⟨w3,hr,R3,G3⟩:=R.out.clear Dn 0 (cap-I);rw[TD] at R3;have hr':∀ty,(Builtin.clear_ #[94] ty #[.slice (some ⟨g,off+I*2,none⟩) 1 (cap-I)]).run prog wr=.ok (.tuple #[]) w3:=fun ty=>hr;have F:Aside (RowF w3 base g off cap (d.eraseIdx k)/\w.grownBy w3 (some g)):=⟨R3,grown_trans G.out G3⟩;clear R3 G3 TD Dn AA A R G hr HJ
   go_wp2
   go_ret;exact⟨rfl,F.out⟩
theorem erase_idx:∀(d:List Ent)(k:Nat)(t:Ent),d[k]?=some t->(∀i,i<k->d[i]?≠some t)->d.eraseIdx k=d.erase t
 | [],k,t,h,_=>by simp at h
 | x::d,0,t,h,_=>by simp at h;subst h;simp
 | x::d,k+1,t,h,h2=>by
  have h0:=h2 0 (by omega);simp only[List.getElem?_cons_zero,ne_eq,Option.some.injEq] at h0;rw[List.eraseIdx_cons_succ,List.erase_cons_tail (by simpa using h0),erase_idx d k t (by simpa using h) (fun i hi=>by simpa using h2 (i+1) (by omega))]
theorem erase_at{d:List Ent}(hd:d.Nodup){t:Ent}(ht:t∈d):∃k,∃hk:k<d.length,d[k]=t/\(∀i (hi:i<d.length),d[i]=t->i=k)/\d.eraseIdx k=d.erase t:=by
 obtain⟨k,hk,rfl⟩:=List.getElem_of_mem ht
 have inj:∀i (hi:i<d.length),d[i]=d[k]->i=k:=fun i hi e=>by
  have hp:=List.pairwise_iff_getElem.1 hd;rcases Nat.lt_trichotomy i k with h|h|h
  ·exact absurd e (hp i k hi hk h)
  ·exact h
  ·exact absurd e.symm (hp k i hk hi h)
 refine⟨k,hk,rfl,inj,erase_idx d k _ (getElem?_eq_getElem hk) fun i hi e=>?_⟩;rw[getElem?_eq_getElem (by omega)] at e;injection e with e
 have:=inj i (by omega) e;omega
theorem without_any(v:Value)(base:Nat)(d:List Ent)(t:Ent)(w:World)(h:OwnF w base v d)(hd:d.Nodup)(ht:t∈d) :
  Calls prog 233 #[v,.agg #[.int .u64 t.1,.int .i64 t.2]] w fun r w'=>∃v',r=.returned v'/\OwnF w' base v' (d.erase t)/\rowB v'=rowB v/\w.grownBy w' (rowB v):=by
 obtain⟨k,hk,hkt,hu,he⟩:=erase_at hd ht;rcases h with⟨rfl,_⟩|⟨g,off,cap,rfl,hr⟩
 ·cases ht
 have hb:Below w.heap.size w (w.alloc (.cells #[.int .u64 t.1,.int .i64 t.2] 282)):=(Below.refl _ _).alloc (le_refl _) _;have del:=delete_any g off cap base w.heap.size k d t (w.alloc (.cells #[.int .u64 t.1,.int .i64 t.2] 282)) (hr.of_block (hb.block g hr.lt)) hk hkt hu (by simp) (by have:=hr.lt;omega) (by simp[go_sem]) (by simp[go_sem]);have HR:Aside (RowF w base g off cap d):=hr;have hl:(d.erase t).length=d.length-1:=List.length_erase_of_mem ht;rw[hr.rowB];have hmf:∀(fn:Fn)(first cap:Array Value)(w:World),(Instr.makeFunc fn first cap).run prog w=.ok (.func fn first cap) w:=fun _ _ _ _=>rfl;rw[he] at del;clear hr hk hkt hu he hd ht;go_enter func233,ntmps233
 go_wp2_with fail
 refine del.mono ?_;rintro r w1 ⟨rfl,R1,g1⟩
 have F:Aside (OwnF w1 base (.slice (some ⟨g,off,none⟩) (d.length-1) cap) (d.erase t)/\rowB (.slice (some ⟨g,off,none⟩) (d.length-1) cap)=some g/\w.grownBy w1 (some g)):=
  ⟨.inr ⟨g,off,cap,by rw[hl],R1⟩,R1.rowB _,grown_trans (grown_below _ hb) g1⟩
 clear R1 g1 del
 go_wp2
 go_ret;exact⟨_,rfl,F.out⟩
end
section
open Go.RowKit Go.Lib Go.Sort
theorem order_grown(x y:Ent)(w:World)(n:Nat)(os:Array Obj) :
  Calls prog 236 #[.agg #[.int .u64 x.1,.int .i64 x.2],.agg #[.int .u64 y.1,.int .i64 y.2]] (grow (w.drewN n) os) fun e w'=>e=.returned (.int .i64 (cfE x y))/\∃p:GrownBy,w'=grow (w.drewN p.n) p.os:=
 Calls.grown_of (order_any x y _)
theorem bsearch_any(a:Option Addr)(cap:Nat)(d:List Ent)(t:Ent)(w:World)(h:IsL w a cap d)(hs:Srt d)(hd:d.length<=100000) :
  Calls prog 235 #[.slice a d.length cap,.agg #[.int .u64 t.1,.int .i64 t.2],.func (.func 236) #[] #[]] w fun e w'=>(∃b,e=.returned (.tuple #[.int .i64 (smal d t:Nat),.bool b]))/\Grown w w':=by
 have eg:=enters_of func236 (by kernel_rfl) rfl;have H:Aside (IsL w a cap d):=h;have HS:Aside (Srt d):=hs;obtain⟨S,hS⟩:∃S,w.heap.size=S:=⟨_,rfl⟩;obtain⟨w0,hw0⟩:∃w0,w.alloc (.cells #[.int .u64 t.1,.int .i64 t.2] 282)=w0:=⟨_,rfl⟩;have HW:Hid _:=hw0;have g0:Aside (Grown w w0):=by show Grown w w0;rw[<-hw0];exact(Grown.refl w).alloc _
 have s0:S<w0.heap.size:=by rw[<-hw0,<-hS];simp
 have t0:w0.cell? ⟨S,0,none⟩=some (.int .u64 t.1)/\w0.cell? ⟨S,1,none⟩=some (.int .i64 t.2):=by rw[<-hw0,<-hS];exact⟨by simp[go_sem],by simp[go_sem]⟩
 have T0:Aside _:=t0;have mx:=mixed;obtain⟨sm,hsm⟩:∃k,smal d t=k:=⟨_,rfl⟩;rw[hsm];have HSM:Hid (smal d t=sm):=hsm;clear h hs hw0 t0 hsm;go_enter func235,ntmps235
 go_upto_region 1 with fail
 rw[HW.out]
 go_wp2
 go_loopg [9,10,11] d.length (fun kx s9 s10 s11 wr=>∃i j:Nat,s9=.int .i64 i/\s10=.int .i64 j/\i<=j/\j<=d.length/\j-i<=kx/\Aside (i=0\/∃m,i=m+1/\∃h:m<d.length,ltE d[m] t=true)/\Aside (j=d.length\/∃h:j<d.length,ltE d[j] t=false)/\Aside (Grown w0 wr))
 case atStart=>exact⟨0,d.length,rfl,rfl,by omega,by omega,by omega,.inl rfl,.inl rfl,Grown.refl w0⟩
 case round=>
  obtain⟨i,j,rfl,rfl,hij,hjn,hkx,A1,A2,G1⟩:=hrel;have c3:=fun n os=>((G1.out.trans ⟨n,os,rfl⟩:Grown w0 (grow (wr.drewN n) os)).cells S 0 s0).trans T0.out.1;have c4:=fun n os=>((G1.out.trans ⟨n,os,rfl⟩:Grown w0 (grow (wr.drewN n) os)).cells S 1 s0).trans T0.out.2;by_cases hlt:i<j
  ·obtain⟨m,hh⟩:∃h:Nat,((i:Int)+(j:Int))/2=(h:Int):=⟨(i+j)/2,by omega⟩;have l1:i<=m:=by omega
   have l2:m<j:=by omega
   have l3:(m:Int)<(d.length:Int):=by omega
   obtain⟨b,off,ha,hc⟩:=H.out.at (show m<d.length by omega);subst ha;have c1:=fun n os=>(hc wr (g0.out.trans G1.out) n os).1;have c2:=fun n os=>(hc wr (g0.out.trans G1.out) n os).2;obtain⟨x,hx⟩:∃x,d[m]=x:=⟨_,rfl⟩;rw[hx] at c1 c2;have HX:Hid (d[m]=x):=hx;have lg:=order_grown x t wr;have hcn:=ltOf_cfE x t;obtain⟨C,hC⟩:∃C,cfE x t=C:=⟨_,rfl⟩;rw[hC] at hcn;simp only[hC] at lg;clear hC hx hc
   cases hB:ltE x t with
   | true=>
    rw[hB] at hcn;have hq:C<0:=of_decide_eq_true hcn;have HB:Hid (ltE x t=true):=hB;clear hB hcn
    go_wp2_with fail
    go_quiet_grown (first|(go_at_call 236;exact lg _ _))
    have G2:Aside (Grown w0 (grow (wr.drewN nq) osq)):=G1.out.trans ⟨nq,osq,rfl⟩;clear c1 c2 c3 c4 lg hh;generalize grow (wr.drewN nq) osq=w2 at G2⊢
    go_wp2
    go_roundg (j-(m+1))
    case measure=>omega
    case rel=>exact⟨m+1,j,by go_num,rfl,by omega,hjn,le_refl _,.inr ⟨m,rfl,by omega,by rw[HX.out];exact HB.out⟩,A2,G2⟩
   | false=>
    rw[hB] at hcn;have hq:¬C<0:=of_decide_eq_false hcn;have HB:Hid (ltE x t=false):=hB;clear hB hcn
    go_wp2_with fail
    go_quiet_grown (first|(go_at_call 236;exact lg _ _))
    have G2:Aside (Grown w0 (grow (wr.drewN nq) osq)):=G1.out.trans ⟨nq,osq,rfl⟩;clear c1 c2 c3 c4 lg hh;generalize grow (wr.drewN nq) osq=w2 at G2⊢
    go_wp2
    go_roundg (m-i)
    case measure=>omega
    case rel=>exact⟨i,m,rfl,rfl,by omega,by omega,le_refl _,A1,.inr ⟨by omega,by rw[HX.out];exact HB.out⟩,G2⟩
  ·have hz:¬(i:Int)<(j:Int):=by omega
   obtain rfl:i=j:=by omega
   have hsm:smal d t=i:=smal_place HS.out t i hjn (by rcases A1.out with h|⟨m,rfl,h,e⟩;exact .inl h;exact .inr ⟨h,e⟩) A2.out;obtain rfl:i=sm:=hsm.symm.trans HSM.out;by_cases hn:i<d.length
   ·obtain⟨b,off,ha,hc⟩:=H.out.at hn;subst ha;have c1:=fun n os=>(hc wr (g0.out.trans G1.out) n os).1;have c2:=fun n os=>(hc wr (g0.out.trans G1.out) n os).2;obtain⟨x,hx⟩:∃x,d[i]=x:=⟨_,rfl⟩;rw[hx] at c1 c2;have lg:=order_grown x t wr;obtain⟨C,hC⟩:∃C,cfE x t=C:=⟨_,rfl⟩;simp only[hC] at lg;have hz2:(i:Int)<(d.length:Int):=by omega
    clear hC hx hc hsm
    go_wp2_with fail
    go_quiet_grown (first|(go_at_call 236;exact lg _ _))
    have G2:Aside (Grown w0 (grow (wr.drewN nq) osq)):=G1.out.trans ⟨nq,osq,rfl⟩;generalize grow (wr.drewN nq) osq=w2 at G2⊢
    go_wp2
    refine bodyPost_ret (v:=.tuple #[.int .i64 i,.bool (C==0)]) (by simp[results,results235,go_sem]) rfl ⟨⟨_,rfl⟩,g0.out.trans G2.out⟩
   ·have hz2:¬(i:Int)<(d.length:Int):=by omega
    have hd2:decide ((i:Int)<(d.length:Int))=false:=decide_eq_false hz2;clear hsm c3 c4
    go_wp2_with fail
    go_quiet (fail)
    go_wp2
    refine bodyPost_ret (v:=.tuple #[.int .i64 i,.bool false]) (by simp[results,results235,go_sem]) rfl ⟨⟨_,rfl⟩,g0.out.trans (G1.out.drewN _)⟩
end
section
open Go.RowKit Go.Lib Go.Sort
theorem wp_copy_run2(w:World){o:Oper}{a:Act}{K:Act->World->Prop}{Q:Exit->Act->World->Prop}(d s:Operand)(t t':TypeId)
  (ho:o.op=.call {callee:=.builtin .copy,args:=#[d,s],argTypes:=#[t,t']}) (v u:Value) (hd:a.eval d=v) (hs:a.eval s=u) {v':Value} {w':World}
  (hr:(Builtin.copy_ #[t,t'] o.type #[v,u]).run prog w=.ok v' w') (h:K (a.put o.dst v') w'):o.wp prog a w K Q:=by
 unfold Oper.wp execOp;simp only[ho,resolve,invoke,builtin,Sem.run_bind,Sem.run_pure,Result.andThen_ok,List.map_toArray,List.map_cons,List.map_nil,hd,hs,hr];exact h
theorem wpList_copy_run2(w:World){ops:Array Oper}{rest:List Oper}{o:Oper}{a:Act}{Q:Exit->Act->World->Prop}(hgd:o.guard=none)(d s:Operand)(t t':TypeId)
  (ho:o.op=.call {callee:=.builtin .copy,args:=#[d,s],argTypes:=#[t,t']}) (v u:Value) (hd:a.eval d=v) (hs:a.eval s=u) {v':Value} {w':World}
  (hr:(Builtin.copy_ #[t,t'] o.type #[v,u]).run prog w=.ok v' w') (h:wpList prog ops Q rest (a.put o.dst v') w'):wpList prog ops Q (o::rest) a w:=
 wpList_plain hgd fun _ hK=>wp_copy_run2 w d s t t' ho v u hd hs hr (hK _ _ h)
theorem step_copy_run2{ops:Array Oper}{o:Oper}{a:Act}{K:Act->World->Prop}{Q:Exit->Act->World->Prop}{E:Prop}(w:World)
  (hg:o.guard=none) (d x:Operand) (dT sT:TypeId) (hop:o.op=Op.call {callee:=Callee.builtin Builtin.copy,args:=#[d,x],argTypes:=#[dT,sT]})
  (v u:Value) (hd:a.eval d=v) (hx:a.eval x=u) {v':Value} {w':World} (hr:(Builtin.copy_ #[dT,sT] o.type #[v,u]).run prog w=.ok v' w') (hK:K (a.put o.dst v') w') :
  if Region.wanted o (yielded ops a.tmps)=true then Oper.wp prog o a w K Q else E:=by
 have hw:Region.wanted o (yielded ops a.tmps)=true:=by simp[Region.wanted,hg]
 rw[if_pos hw];exact wp_copy_run2 w d x dT sT hop v u hd hx hr hK
theorem run_copy2(w:World)(ty:TypeId)(g o dLen dCap:Nat)(a:Addr)(sLen sCap:Nat)(cur:Array Value)(cs:List Value)
  (hg:w.heap[g]?=some (.cells cur 282 (0,0))) (hn:cs.length=Nat.min sLen dLen*2)
  (hsrc:∀j v,cs[j]?=some v->w.cell? (a.add j)=some v) (hfit:o+cs.length<=cur.size) (h1:∀v∈cs,v.oneCell'=true) :
  (Builtin.copy_ #[94,94] ty #[.slice (some ⟨g,o,none⟩) dLen dCap,.slice (some a) sLen sCap]).run prog w =
   .ok (goInt (Nat.min sLen dLen)) (w.setRow g (splice cur.toList o cs).toArray):=by
 obtain⟨i,hi,_,hs,_⟩:=infoE;have hl:=run_loadCells_list (P:=prog) w a cs hsrc;have hst:=run_storeCells_at prog g o 282 cs 0 cur w hg (by simpa using hfit) h1;have e:Nat.min sLen dLen*i.size=cs.length:=by rw[hn,hs]
 simp only[add_zero,append_assoc] at hst;simp[Builtin.copy_,run_underlying underlying94,Builtin.lenOf,Builtin.firstCells,sizeOf,typeInfo,hi,e,hl,hst,splice]
def InsF(w:World)(base:Nat)(v:Value)(d:List Ent)(r:Ending)(w':World):Prop:=∃v',r=.returned v'/\OwnF w' base v' d/\w.grownBy w' (rowB v)/\∀k,rowB v'=some k->rowB v=some k\/w.heap.size<=k
theorem insert_end(v:Value)(base G:Nat)(d:List Ent)(x:Ent)(w:World)(h:OwnF w base v d)(c0:w.cell? ⟨G,0,none⟩=some (.int .u64 x.1))(c1:w.cell? ⟨G,1,none⟩=some (.int .i64 x.2))(hG:G<w.heap.size)(hN:d.length<=100000)(hbase:base<=w.heap.size) :
  Calls prog 237 #[v,.int .i64 d.length,.slice (some ⟨G,0,none⟩) 1 1] w (InsF w base v (d++[x])):=by
 have L:IsL w (some ⟨G,0,none⟩) 1 [x]:=⟨by simp,by unfold maxLen;omega,fun i y hy=>by
  cases i with
  | zero=>simp at hy;subst hy;exact⟨G,0,rfl,hG,by simpa using c0,by simpa using c1⟩
  | succ i=>simp at hy⟩
 obtain⟨v',w',hr,o,k1,k2⟩:=appF h L (by simp;omega) hbase 94;have F:Aside (OwnF w' base v' (d++[x])/\w.grownBy w' (rowB v)/\∀k,rowB v'=some k->rowB v=some k\/w.heap.size<=k):=⟨o,k1,k2⟩;obtain⟨a,cap,rfl,ha,hc1,hc2,_⟩:=h.isL;obtain⟨n,hn⟩:∃n,d.length=n:=⟨_,rfl⟩;rw[hn] at hc1 hr F hN⊢;simp only[List.length_singleton] at hr;unfold maxLen at hc2;have j1:(n:Int)<=(cap:Int):=by omega
 have j3:cap<=9223372036854775807:=by omega
 have mx:=mixed;clear o k1 k2 L c0 c1 h hn hG;rcases ha with⟨rfl,rfl⟩|⟨g,off,rfl⟩
 ·obtain rfl:n=0:=by omega
  go_enter func237,ntmps237
  go_wp2_with (at_builtin;refine Lib.wpList_append_run w rfl _ _ 94 94 rfl _ _ rfl rfl _ w' hr ?_)
  go_ret;exact⟨v',rfl,F.out⟩
 ·by_cases c:cap=n
  ·subst c;go_enter func237,ntmps237
   go_wp2_with (at_builtin;refine Lib.wpList_append_run w rfl _ _ 94 94 rfl _ _ rfl rfl _ w' hr ?_)
   go_ret;exact⟨v',rfl,F.out⟩
  ·go_enter func237,ntmps237
   go_wp2_with (at_builtin;refine Lib.wpList_append_run w rfl _ _ 94 94 rfl _ _ rfl rfl _ w' hr ?_)
   go_ret;exact⟨v',rfl,F.out⟩
theorem flat_take:∀(d:List Ent)(i:Nat),flat (d.take i)=(flat d).take (i*2)
 | d,0=>by simp
 | [],i+1=>by simp
 | x::d,i+1=>by rw[List.take_succ_cons,flat_cons,flat_cons,flat_take d i,show(i+1)*2=i*2+1+1 by omega,List.take_succ_cons,List.take_succ_cons]
theorem flat_drop:∀(d:List Ent)(i:Nat),flat (d.drop i)=(flat d).drop (i*2)
 | d,0=>by simp
 | [],i+1=>by simp
 | x::d,i+1=>by rw[List.drop_succ_cons,flat_cons,flat_drop d i,show(i+1)*2=i*2+1+1 by omega,List.drop_succ_cons,List.drop_succ_cons]
theorem insert_mid(g off cap i base G:Nat)(d:List Ent)(x:Ent)(w:World)(h:RowF w base g off cap d)(hi:i<d.length)(hroom:d.length<cap)
  (hG:w.heap[G]?=some (.cells #[.int .u64 x.1,.int .i64 x.2] 282 (0,0))) (hne:G≠g) :
  Calls prog 237 #[.slice (some ⟨g,off,none⟩) d.length cap,.int .i64 i,.slice (some ⟨G,0,none⟩) 1 1] w (InsF w base (.slice (some ⟨g,off,none⟩) d.length cap) (d.take i++x::d.drop i)):=by
 obtain⟨inf,hinf,_,hsz,_⟩:=infoE;obtain⟨P,R,hg,hP,hR,ht⟩:=h.mem;have hc:=h.big;unfold maxLen at hc;obtain⟨X1,hX1⟩:∃X,flat (d.drop i)=X:=⟨_,rfl⟩;obtain⟨Y,hY⟩:∃Y,flat [x]=Y:=⟨_,rfl⟩;have l1:X1.length=(d.length-i)*2:=by rw[<-hX1,flat_len,length_drop]
 have lY:Y.length=2:=by rw[<-hY];rfl
 have hcp1:∀ty dc sc,(Builtin.copy_ #[94,94] ty #[.slice (some ⟨g,off+(i+1)*2,none⟩) (d.length+1-(i+1)) dc,.slice (some ⟨g,off+i*2,none⟩) (d.length+1-i) sc]).run prog w.drew=.ok (goInt ((d.length-i:Nat):Int)) (w.drew.setRow g (P++splice R ((i+1)*2) X1).toArray):=fun ty dc sc=>by
  have e:Nat.min (d.length+1-i) (d.length+1-(i+1))=d.length-i:=by show min _ _=_;omega
  have:=run_copy2 w.drew ty g (off+(i+1)*2) (d.length+1-(i+1)) dc ⟨g,off+i*2,none⟩ (d.length+1-i) sc _ X1 hg (by rw[e,l1]) (fun j v hj=>by
   have hjl:=(List.getElem?_eq_some_iff.1 hj).1;rw[Addr.add_lit];show w.cell? _=_;rw[Nat.add_assoc,h.cell (i*2+j) (by omega),<-hj,<-hX1,flat_drop,List.getElem?_drop]) (by rw[l1];simp;omega) (by rw[<-hX1];exact flat_one _)
  rw[e,<-hP] at this;rw[<-hP,<-splice_pre];exact this
 have m1:(splice R ((i+1)*2) X1).length=cap*2:=by rw[length_splice _ _ _ (by rw[l1,hR];omega),hR]
 obtain⟨w1,hw1⟩:∃w1,w.drew.setRow g (P++splice R ((i+1)*2) X1).toArray=w1:=⟨_,rfl⟩;have gw1:w.grownBy w1 (some g):=by rw[<-hw1];exact grown_set _ (grown_below _ ((Below.refl _ _).drew)) (.inl rfl)
 have g1:w1.heap[g]?=some (.cells (P++splice R ((i+1)*2) X1).toArray 282 (0,0)):=by rw[<-hw1];exact setRow_heap w.drew _ _ _ _ _ hg
 have hG1:w1.heap[G]?=some (.cells #[.int .u64 x.1,.int .i64 x.2] 282 (0,0)):=by rw[<-hw1];exact(setRow_other w.drew g G _ hne).trans hG
 simp only[hw1] at hcp1
 have hcp2:∀ty dc,(Builtin.copy_ #[94,94] ty #[.slice (some ⟨g,off+i*2,none⟩) (d.length+1-i) dc,.slice (some ⟨G,0,none⟩) 1 1]).run prog w1=.ok (goInt 1) (w1.setRow g (P++splice (splice R ((i+1)*2) X1) (i*2) Y).toArray):=fun ty dc=>by
  have e:Nat.min 1 (d.length+1-i)=1:=by show min _ _=_;omega
  have:=run_copy2 w1 ty g (off+i*2) (d.length+1-i) dc ⟨G,0,none⟩ 1 1 _ Y g1 (by rw[e,lY]) (fun j v hj=>by
   have:j=0\/j=1:=by have:=(List.getElem?_eq_some_iff.1 hj).1;omega
   rw[Addr.add_lit,Nat.zero_add,cell_of_row _ _ _ _ _ _ hG1,<-hj,<-hY];rcases this with rfl|rfl<;>rfl) (by rw[lY];simp;omega) (by rw[<-hY];exact flat_one _)
  rw[e,<-hP] at this;rw[<-hP,<-splice_pre];exact this
 obtain⟨w2,hw2⟩:∃w2,w1.setRow g (P++splice (splice R ((i+1)*2) X1) (i*2) Y).toArray=w2:=⟨_,rfl⟩;have gw2:w.grownBy w2 (some g):=by rw[<-hw2];exact grown_set _ gw1 (.inl rfl)
 have g2:w2.heap[g]?=some (.cells (P++splice (splice R ((i+1)*2) X1) (i*2) Y).toArray 282 (0,0)):=by rw[<-hw2];exact setRow_heap w1 _ _ _ _ _ g1
 simp only[hw2] at hcp2
 have hfin:RowF w2 base g off cap (d.take i++x::d.drop i):=by
  have le:(d.take i++x::d.drop i).length=d.length+1:=by simp;omega
  refine⟨h.low,h.pos,by omega,h.big,P,_,g2,hP,by rw[length_splice _ _ _ (by rw[lY,m1];omega),m1],?_⟩;have e0:R.take (i*2)=flat (d.take i):=by rw[flat_take,<-ht,take_take];congr 1;omega
  have e1:flat (d.take i++x::d.drop i)=flat (d.take i)++(Y++X1):=by rw[<-hY,<-hX1,<-flat_append,<-flat_append];rfl
  rw[le,e1,<-e0];show List.take _ ((splice R ((i+1)*2) X1).take (i*2)++(Y++(splice R ((i+1)*2) X1).drop (i*2+Y.length)))=_
  have e2:(splice R ((i+1)*2) X1).take (i*2)=R.take (i*2):=by
   unfold splice;rw[take_append_of_le_length (by rw[length_take,hR];omega),take_take];congr 1;omega
  have e3:(splice R ((i+1)*2) X1).drop (i*2+Y.length)=X1++R.drop ((i+1)*2+X1.length):=by
   unfold splice;rw[lY,show i*2+2=(i+1)*2 by omega,List.drop_append,List.drop_eq_nil_of_le (by rw[length_take];omega),length_take,hR,show(i+1)*2-min ((i+1)*2) (cap*2)=0 by omega];simp
  rw[e2,e3,<-append_assoc,<-append_assoc,take_append_of_le_length (by simp[lY,l1,hR];omega),take_of_length_le (by simp[lY,l1,hR];omega),append_assoc]
 have hlen:(d.take i++x::d.drop i).length=d.length+1:=by simp;omega
 have F:Aside (InsF w base (.slice (some ⟨g,off,none⟩) d.length cap) (d.take i++x::d.drop i) (.returned (.slice (some ⟨g,off,none⟩) (d.length+1) cap)) w2):=
  ⟨_,rfl,.inr ⟨g,off,cap,by rw[hlen],hfin⟩,by rw[h.rowB];exact gw2,fun k hk=>.inl (by rw[h.rowB];rw[h.rowB] at hk;exact hk)⟩
 have hsa:w.shape? G=some (282,2):=by simp[World.shape?,hG]
 have hsb:w.shape? g=some (282,off+cap*2):=by simp[World.shape?,hg,hP,hR]
 have hfa:w.frozen? ⟨G,0,none⟩=false:=by simp[World.frozen?,hG]
 have hfe:w.frozen? ⟨G,2,none⟩=false:=by simp[World.frozen?,hG]
 have hov:∀lb cb,(callFunc 256 #[.slice (some ⟨G,0,none⟩) 1 1,.slice (some ⟨g,off+(i+1)*2,none⟩) lb cb]).run prog w=.ok (.value (.bool false)) w:=fun lb cb=>by
  rw[run_callFunc_extern func256 (by kernel_rfl) (by kernel_rfl) (by kernel_rfl) (e:=Extern.SlicesOverlaps.overlaps #[94,94] #[4]) (by kernel_rfl),
   Lib.run_overlaps_apart w 94 4 282 underlying94 2 (fun w=>by simp[sizeOf,typeInfo,hinf,hsz]) ⟨G,0,none⟩ ⟨g,off+(i+1)*2,none⟩ 1 1 lb cb hne _ _ _ _ hsa hsb (by omega) hfa hfe]
  rfl
 obtain⟨n,hn⟩:∃n,d.length=n:=⟨_,rfl⟩;rw[hn] at hcp1 hcp2 F hi hroom⊢;have mx:=mixed;have z1:¬((i:Int)=(n:Int)):=by omega
 have z2:((i:Int)==(n:Int))=false:=by simp;omega
 have z3:(i:Int)<=(n:Int):=by omega
 have z4:¬cap=i:=by omega
 have z5:¬cap=i+1:=by omega
 have z6:¬(cap:Int)<(n:Int)+1:=by omega
 have z7:(n:Int)+1<=(cap:Int):=by omega
 have z8:(i:Int)<=(n:Int)+1:=by omega
 have z9:((n:Int)+1).toNat=n+1:=by omega
 have z10:((i:Int)+1).toNat=i+1:=by omega
 have z11:(0:Int)<=(i:Int)+1:=by omega
 have z12:(0:Int)<=(n:Int)+1:=by omega
 have z13:IntKind.i64.wrap ((i:Int)+1)=(i:Int)+1:=by rw[IntKind.wrap_i64];omega
 clear h hg ht hG hX1 hY l1 lY g1 hG1 m1 hw1 g2 hw2 gw1 gw2 hfin hinf hsa hsb hfa hfe hn hlen hP hR;go_enter func237,ntmps237
 go_wp2_with (simp only[hov])
 go_region_law_o (refine step_copy_run2 w.drew rfl _ _ 94 94 rfl _ _ (by simp[Act.eval,Act.put];rfl) (by simp[Act.eval,Act.put];rfl) (hcp1 _ _ _) ?_)
 go_wp2_with (at_builtin;refine wpList_copy_run2 w1 rfl _ _ 94 94 rfl _ _ rfl rfl (hcp2 _ _) ?_)
 go_ret;exact F.out
end
section
open Go.RowKit Go.Lib Go.Sort
theorem insert_full(g off i base G:Nat)(d:List Ent)(x:Ent)(w:World)(h:RowF w base g off d.length d)(hi:i<d.length)(hN:d.length<=100000)
  (hG:w.heap[G]?=some (.cells #[.int .u64 x.1,.int .i64 x.2] 282 (0,0))) (hbase:base<=w.heap.size) :
  Calls prog 237 #[.slice (some ⟨g,off,none⟩) d.length d.length,.int .i64 i,.slice (some ⟨G,0,none⟩) 1 1] w (InsF w base (.slice (some ⟨g,off,none⟩) d.length d.length) (d.take i++x::d.drop i)):=by
 obtain⟨inf,hinf,hzr,hsz,hby⟩:=infoE;have hgl:=h.lt;have hGl:=lt_of_block hG;obtain⟨n,hn⟩:∃n,d.length=n:=⟨_,rfl⟩;obtain⟨S,hS⟩:∃S,w.heap.size=S:=⟨_,rfl⟩;obtain⟨X0,hX0⟩:∃X,flat (d.take i)=X:=⟨_,rfl⟩;obtain⟨X1,hX1⟩:∃X,flat (d.drop i)=X:=⟨_,rfl⟩;obtain⟨Y,hY⟩:∃Y,flat [x]=Y:=⟨_,rfl⟩;have l0:X0.length=i*2:=by rw[<-hX0,flat_len,length_take];omega
 have l1:X1.length=(n-i)*2:=by rw[<-hX1,flat_len,length_drop,hn]
 have lY:Y.length=2:=by rw[<-hY];rfl
 obtain⟨C,hC⟩:∃C,grownCap w (i+(n+1-i)) n 282=C:=⟨_,rfl⟩;have hC1:n+1<=C:=by rw[<-hC];have:=grownCap_ge w (i+(n+1-i)) n 282;omega
 have hC2:C<=maxLen:=by rw[<-hC];exact grownCap_le_maxLen w _ n _ (by unfold maxLen;omega)
 have hz2:(Value.agg #[.int .u64 0,.int .i64 0]).cells=#[.int .u64 0,.int .i64 0]:=rfl;obtain⟨cur1,hcur1⟩:∃c,X0.toArray++Builtin.zeroCells #[.int .u64 0,.int .i64 0] (n+1-i)++Builtin.zeroCells #[.int .u64 0,.int .i64 0] (C-(i+(n+1-i)))=c:=⟨_,rfl⟩
 have s1:cur1.size=C*2:=by
  rw[<-hcur1];simp only[Array.size_append,List.size_toArray,size_zeroCells,l0];show i*2+(n+1-i)*2+(C-(i+(n+1-i)))*2=C*2;omega
 have t1:cur1.toList.take (i*2)=X0:=by
  rw[<-hcur1];simp only[Array.toList_append,append_assoc];rw[<-l0];exact List.take_left
 obtain⟨w1,hw1⟩:∃W,w.drew.alloc (.cells cur1 282)=W:=⟨_,rfl⟩
 have hold:(Builtin.firstCells inf.size i (.slice (some ⟨g,off,none⟩) i n)).run prog w.drew=.ok X0.toArray w.drew:=by
  refine run_firstCells_some _ _ _ _ _ _ _ (by rw[l0,hsz]) (fun j v hj=>?_);have hjl:=(List.getElem?_eq_some_iff.1 hj).1;rw[Addr.add_lit];show w.cell? _=_;rw[h.cell j (by omega),<-hj,<-hX0,flat_take,List.getElem?_take_of_lt (by omega)]
 have hap:∀ty,(Builtin.append_ #[94,3] ty #[.slice (some ⟨g,off,none⟩) i n,.int .i64 ((n:Int)+1-(i:Int))]).run prog w=.ok (.slice (some ⟨S,0,none⟩) (n+1) C) w1:=fun ty=>by
  have:=Lib.run_append_grow_zeros (P:=prog) w 94 3 ty 282 inf _ .i64 .i64 underlying94 underlying3 hinf hzr (some ⟨g,off,none⟩) i n X0 hold (n+1-i) (by omega) (by omega) (by omega) (by omega) (by rw[hby];omega) (by rw[hby];exact growslice_fits (by omega) (by omega));rw[hz2,hC,hcur1,hS,show i+(n+1-i)=n+1 by omega,hw1] at this;rw[show(n:Int)+1-(i:Int)=((n+1-i:Nat):Int) by omega];exact this
 have b1:Below w.heap.size w w1:=by rw[<-hw1];exact((Below.refl _ _).drew).alloc (le_refl _) _
 have g1:w1.heap[S]?=some (.cells cur1 282 (0,0)):=by rw[<-hw1,<-hS];exact heap_alloc_new w.drew _
 have hG1:=(b1.block G hGl).trans hG;have R1:RowF w1 base g off d.length d:=h.of_block (b1.block g hgl);have hcs:cur1.toList.length=C*2:=by simpa using s1
 have hcp1:∀ty dc,(Builtin.copy_ #[94,94] ty #[.slice (some ⟨S,i*2,none⟩) (n+1-i) dc,.slice (some ⟨G,0,none⟩) 1 1]).run prog w1=.ok (goInt 1) (w1.setRow S (splice cur1.toList (i*2) Y).toArray):=fun ty dc=>by
  have e:Nat.min 1 (n+1-i)=1:=by show min _ _=_;omega
  have:=run_copy2 w1 ty S (i*2) (n+1-i) dc ⟨G,0,none⟩ 1 1 _ Y g1 (by rw[e,lY]) (fun j v hj=>by
   have:j=0\/j=1:=by have:=(List.getElem?_eq_some_iff.1 hj).1;omega
   rw[Addr.add_lit,Nat.zero_add,cell_of_row _ _ _ _ _ _ hG1,<-hj,<-hY];rcases this with rfl|rfl<;>rfl) (by rw[s1,lY];omega) (by rw[<-hY];exact flat_one _)
  rw[e] at this;exact this
 have hSg:g≠S:=by omega
 obtain⟨w2,hw2⟩:∃w2,w1.setRow S (splice cur1.toList (i*2) Y).toArray=w2:=⟨_,rfl⟩;have g2:w2.heap[S]?=some (.cells (splice cur1.toList (i*2) Y).toArray 282 (0,0)):=by rw[<-hw2];exact setRow_heap w1 _ _ _ _ _ g1
 have R2:RowF w2 base g off d.length d:=R1.of_block (by rw[<-hw2];exact setRow_other w1 S g _ hSg);have gw2:w.grownBy w2 none:=by rw[<-hw2];exact grown_set _ (grown_below _ b1) (.inr (by omega))
 simp only[hw2] at hcp1;have m1:(splice cur1.toList (i*2) Y).length=C*2:=by rw[length_splice _ _ _ (by rw[lY,hcs];omega),hcs]
 have hcp2:∀ty dc sc,(Builtin.copy_ #[94,94] ty #[.slice (some ⟨S,(i+1)*2,none⟩) (n+1-(i+1)) dc,.slice (some ⟨g,off+i*2,none⟩) (n-i) sc]).run prog w2.drew=.ok (goInt ((n-i:Nat):Int)) (w2.drew.setRow S (splice (splice cur1.toList (i*2) Y) ((i+1)*2) X1).toArray):=fun ty dc sc=>by
  have e:Nat.min (n-i) (n+1-(i+1))=n-i:=by show min _ _=_;omega
  have:=run_copy2 w2.drew ty S ((i+1)*2) (n+1-(i+1)) dc ⟨g,off+i*2,none⟩ (n-i) sc _ X1 g2 (by rw[e,l1]) (fun j v hj=>by
   have hjl:=(List.getElem?_eq_some_iff.1 hj).1;rw[Addr.add_lit];show w2.cell? _=_;rw[Nat.add_assoc,R2.cell (i*2+j) (by omega),<-hj,<-hX1,flat_drop,List.getElem?_drop]) (by simp only[List.size_toArray];rw[m1,l1];omega) (by rw[<-hX1];exact flat_one _)
  rw[e] at this;exact this
 obtain⟨w3,hw3⟩:∃w3,w2.drew.setRow S (splice (splice cur1.toList (i*2) Y) ((i+1)*2) X1).toArray=w3:=⟨_,rfl⟩;have g3:w3.heap[S]?=some (.cells (splice (splice cur1.toList (i*2) Y) ((i+1)*2) X1).toArray 282 (0,0)):=by rw[<-hw3];exact setRow_heap w2.drew _ _ _ _ _ g2
 have gw3:w.grownBy w3 none:=by rw[<-hw3];exact grown_set _ (grown_trans gw2 (grown_below _ ((Below.refl _ _).drew))) (.inr (by omega))
 simp only[hw3] at hcp2;have le:(d.take i++x::d.drop i).length=n+1:=by simp;omega
 have hfin:RowF w3 base S 0 C (d.take i++x::d.drop i):=by
  refine⟨by omega,by omega,by omega,hC2,[],splice (splice cur1.toList (i*2) Y) ((i+1)*2) X1,g3,rfl,by rw[length_splice _ _ _ (by rw[l1,m1];omega),m1],?_⟩;have e1:flat (d.take i++x::d.drop i)=X0++(Y++X1):=by rw[<-hX0,<-hY,<-hX1,<-flat_append,<-flat_append];rfl
  rw[le,e1,<-t1];show List.take _ ((splice cur1.toList (i*2) Y).take ((i+1)*2)++(X1++(splice cur1.toList (i*2) Y).drop ((i+1)*2+X1.length)))=_
  have e2:(splice cur1.toList (i*2) Y).take ((i+1)*2)=cur1.toList.take (i*2)++Y:=by
   unfold splice;rw[<-append_assoc,take_append_of_le_length (by rw[List.length_append,length_take,hcs,lY];omega),take_of_length_le (by rw[List.length_append,length_take,hcs,lY];omega)]
  rw[e2,<-append_assoc,take_append_of_le_length (by simp[lY,l1,s1];omega),take_of_length_le (by simp[lY,l1,s1];omega),append_assoc]
 have F:Aside (InsF w base (.slice (some ⟨g,off,none⟩) n n) (d.take i++x::d.drop i) (.returned (.slice (some ⟨S,0,none⟩) (n+1) C)) w3):=
  ⟨_,rfl,.inr ⟨S,0,C,by rw[le],hfin⟩,⟨gw3.os,gw3.tape,gw3.output,gw3.size,fun k hk _=>gw3.block k hk (by simp)⟩,fun k hk=>.inr (by rw[hfin.rowB] at hk;injection hk with hk;omega)⟩
 have mx:=mixed;rw[hn] at hi hN⊢;have z1:¬((i:Int)=(n:Int)):=by omega
 have z2:((i:Int)==(n:Int))=false:=by simp;omega
 have z3:(i:Int)<=(n:Int):=by omega
 have z4:¬n=i:=by omega
 have z5:¬C=i:=by omega
 have z6:(n:Int)<(n:Int)+1:=by omega
 have z7:¬C=i+1:=by omega
 have z8:(i:Int)<=(n:Int)+1:=by omega
 have z9:(i:Int)+1<=(n:Int)+1:=by omega
 have z10:((i:Int)+1).toNat=i+1:=by omega
 have z11:(0:Int)<=(i:Int)+1:=by omega
 have z13:IntKind.i64.wrap ((i:Int)+1)=(i:Int)+1:=by rw[IntKind.wrap_i64];omega
 have z14:IntKind.i64.wrap ((n:Int)+1)=(n:Int)+1:=by rw[IntKind.wrap_i64];omega
 have z15:IntKind.i64.wrap ((n:Int)+1-(i:Int))=(n:Int)+1-(i:Int):=by rw[IntKind.wrap_i64];omega
 have hC3:(C:Int)<=9223372036854775807:=by unfold maxLen at hC2;omega
 clear h hG hcs hX1 hX0 hY l1 l0 lY b1 g1 hG1 m1 hw1 g2 hw2 hfin hinf hn g3 hw3 s1 t1 hcur1 hC hC2 hzr R1 R2 gw2 gw3 le hold;go_enter func237,ntmps237
 go_wp2_with (first
  | (at_builtin;refine Lib.wpList_append_run w rfl _ _ 94 3 rfl _ _ rfl rfl _ _ (hap _) ?_)
  | (at_builtin;refine wpList_copy_run2 w1 rfl _ _ 94 94 rfl _ _ rfl rfl (hcp1 _ _) ?_))
 go_region_law_o (refine step_copy_run2 w2.drew rfl _ _ 94 94 rfl _ _ (by simp[Act.eval,Act.put];rfl) (by simp[Act.eval,Act.put];rfl) (hcp2 _ _ _) ?_)
 go_wp2
 go_ret;exact F.out
theorem insert_any(v:Value)(base i G:Nat)(d:List Ent)(x:Ent)(w:World)(h:OwnF w base v d)(hi:i<=d.length)(hN:d.length<=100000)
  (hG:w.heap[G]?=some (.cells #[.int .u64 x.1,.int .i64 x.2] 282 (0,0))) (hne:rowB v≠some G) (hbase:base<=w.heap.size) :
  Calls prog 237 #[v,.int .i64 i,.slice (some ⟨G,0,none⟩) 1 1] w (InsF w base v (d.take i++x::d.drop i)):=by
 by_cases c:i=d.length
 ·subst c;rw[take_of_length_le (le_refl _),List.drop_eq_nil_of_le (le_refl _)];exact insert_end v base G d x w h (by rw[cell_of_row _ _ _ _ _ _ hG];rfl) (by rw[cell_of_row _ _ _ _ _ _ hG];rfl) (lt_of_block hG) hN hbase
 ·rcases h with⟨rfl,_⟩|⟨g,off,cap,rfl,hr⟩
  ·simp at hi c;omega
  ·have hle:=hr.le;by_cases hroom:d.length<cap
   ·exact insert_mid g off cap i base G d x w hr (by omega) hroom hG (fun e=>hne (by rw[hr.rowB,e]))
   ·obtain rfl:cap=d.length:=by omega
    exact insert_full g off i base G d x w hr (by omega) hN hG hbase
end
section
section
variable {P:Program}{ops:Array Oper}{Q:Exit->Act->World->Prop}{md:Region.Mode}{S:World->Prop}{L:Nat}
theorem anyE_t{i:Nat}{oi:Oper}{v:Value}{f:Nat}{lst:Array Bool}{a:Act}{w:World}(hi:ops[i]?=some oi)(hh:(Region.noSelect ops&&Region.waitsFor md ops L i&&Region.free md ops lst i&&(Region.ready md ops lst).contains i)=true)
  (hQ:∀c a w,Q (.panic c) (a.put oi.dst v) w->Q (.panic c) a w) (hy:YieldsIf P ops S oi v a) (hS:S w) (h:wpAnyE P md ops Q S L f (lst.setIfInBounds i true) (a.put oi.dst v) w):wpAnyE P md ops Q S L (f+1) lst a w:=by
 simp only[Bool.and_eq_true] at hh;exact anyE_take hi hh.1.1.1 hh.1.1.2 hh.1.2 hh.2 hQ hy hS h
end
end
section
section
variable {P:Program}{ops:Array Oper}{Q:Exit->Act->World->Prop}{md:Region.Mode}{S:World->Prop}{L:Nat}
end
end
section
open Go.Lib
def clr(u m:Nat):Nat:=u &&& (18446744073709551615-m)
theorem clr_lt(u m:Nat)(hu:u<B64):clr u m<B64:=Nat.lt_of_le_of_lt Nat.and_le_left hu
theorem clr_bit(u m i:Nat)(hm:m<B64)(hi:i<64):(clr u m).testBit i=(u.testBit i&&!m.testBit i):=by
 unfold clr;rw[Nat.testBit_and,show 18446744073709551615-m=2^64-(m+1) by omega,Nat.testBit_two_pow_sub_succ hm];simp[hi]
theorem or_lt'(u s:Nat)(hu:u<B64)(hs:s<64):u ||| 2^s<B64:=Nat.or_lt_two_pow (n:=64) hu (Nat.pow_lt_pow_right (by omega) hs)
theorem or_bit(u s i:Nat):(u ||| 2^s).testBit i=(u.testBit i||decide (s=i)):=by
 rw[Nat.testBit_or,Nat.testBit_two_pow]
end
end Go.Proofs.YtjpbngiddjkjiaaGreatDoor.Wl
