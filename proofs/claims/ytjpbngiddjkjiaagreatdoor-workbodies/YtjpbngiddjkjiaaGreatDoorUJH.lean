import Derived.Test.YtjpbngiddjkjiaaGreatDoorUJD
import Derived.Defers
import Derived.Recover
import Derived.Laws.CopyOwn
import Derived.Deep.RegionLaw
import Derived.Lib.Overlaps
import Derived.Laws.Externs
open Go.Proofs.Tryz
open List(append_assoc drop_eq_nil_of_le length_append length_drop length_take size_toArray take_append_of_le_length take_of_length_le take_take)
open Nat(le_refl zero_add)
namespace Go.Proofs.YtjpbngiddjkjiaaGreatDoor.Qu
set_option maxHeartbeats 8000000
set_option maxRecDepth 100000
set_option linter.unusedVariables false
open Go.RowKit Go.Lib Go.Sort
theorem catch_idle(w:World):CallsD prog 221 #[] .returning w fun e u' w'=>e=.returned (.tuple #[])/\u'=.returning/\w'=w:=by
 refine callsD_of_wpS func221 rfl fun c₀ cs hu=>?_;apply wpS_region
 cases c₀
 simp_all[wpOpsS,go_sem,recoverD,bodyPostS,results,results221]
theorem says_any(g:Nat)(cb:Array Value)(id:Int)(B:Bool)(w:World)(eg:∀args w,(callFunc g args).run prog w=.ok (.enter g args) w)
  (hg:Calls prog g (#[.int .i64 id]++cb) w fun e w'=>e=.returned (.bool B)/\Below w.heap.size w w') :
  Calls prog 185 #[.func (.func g) #[] cb,.int .i64 id] w fun e w'=>e=.returned (.bool B)/\Below w.heap.size w w':=by
 go_enter_defers func185,ntmps185
 go_wp2_with fail
 refine hg.mono ?_;rintro e w1 ⟨rfl,d1⟩
 go_wp2
 refine leaves_cons (f:=221) (args:=#[]) (by simp) (by simp[go_sem]) ?_;refine(catch_idle _).mono ?_;rintro e u' w'' ⟨rfl,rfl,rfl⟩;exact⟨_,results_tmp rfl _ _ _,rfl,d1⟩
def keepL(p:Int->Bool)(d:List Ent):List Ent:=d.filter (fun x=>!p x.2)
theorem keep_take(p:Int->Bool){d:List Ent}{k:Nat}(h:k<d.length):keepL p (d.take (k+1))=keepL p (d.take k)++(if p d[k].2 then [] else [d[k]]):=by
 unfold keepL;rw[List.take_succ_eq_append_getElem h,List.filter_append]
 cases e:p d[k].2<;>simp[e]
theorem keep_len(p:Int->Bool)(d:List Ent):(keepL p d).length<=d.length:=List.length_filter_le _ _
theorem shrink_any(i:Int)(a:Option Addr)(cap:Nat)(d:List Ent)(g:Nat)(cb:Array Value)(p:Int->Bool)(w:World)(h:IsL w a cap d)(hd:d.length<=100000)(eg:∀args w,(callFunc g args).run prog w=.ok (.enter g args) w)
  (hg:∀id W,Below w.heap.size w W->Calls prog g (#[.int .i64 id]++cb) W fun e w'=>e=.returned (.bool (p id))/\Below W.heap.size W w') :
  Calls prog 129 #[.agg #[.int .i64 i,.slice a d.length cap],.func (.func g) #[] cb] w (MadeB w (sortE (keepL p d))):=by
 obtain⟨S,hS⟩:∃S,w.heap.size=S:=⟨_,rfl⟩;have HS:Hid _:=hS;obtain⟨N,hN⟩:∃N,d.length=N:=⟨_,rfl⟩;have HN:Hid _:=hN;obtain⟨u,hu⟩:∃u,(w.alloc (.cells #[.int .i64 i,.slice a N cap] 223)).alloc (.cells #[.int .i64 0,.slice none 0 0] 223)=u:=⟨_,rfl⟩;have HU:Hid _:=hu;have b0:Below S w u:=by rw[<-hu,<-hS];exact((Below.refl _ _).alloc (le_refl _) _).alloc (by simp) _
 have su:u.heap.size=S+2:=by rw[<-hu,<-hS];simp
 have x1:Box2 (S+1) (.int .i64 0) (.slice none 0 0) u:=by
  have:=Box2.new (w.alloc (.cells #[.int .i64 i,.slice a N cap] 223)) (.int .i64 0) (.slice none 0 0) 223;rw[hu] at this;simpa [hS] using this
 have LU:Aside (IsL u a cap d):=h.below (by rw[hS];exact b0);have B0:Aside (Below S w u):=b0;have X1:Aside (Box2 (S+1) (.int .i64 0) (.slice none 0 0) u):=x1;have SU:Hid _:=su;have HG:Aside (∀id W,Below w.heap.size w W->Calls prog g (#[.int .i64 id]++cb) W fun e w'=>e=.returned (.bool (p id))/\Below W.heap.size W w'):=hg;rw[hN] at hd⊢;have hnil:∀w:World,(binOp BinOp.eql 58 (.func (.func g) #[] cb) .nilFunc).run prog w=.ok (.bool false) w:=fun _=>by first|rfl|(simp[go_sem];done)|kernel_rfl
 clear hg hN hu b0 su x1 h;go_enter func129,ntmps129
 go_wp2_with fail
 rw[HU.out]
 go_loopg [5,16] N (fun kx s5 s16 wr=>∃(k n:Nat)(r:Option Addr)(t:Nat),s16=.int .i64 k/\s5=.slice r n t/\Hid ((keepL p (d.take k)).length=n)/\k<=N/\N-k<=kx/\Aside (OwnE wr (S+2) (.slice r n t) (keepL p (d.take k)))/\Aside (Below (S+2) u wr))
 case atStart=>exact⟨0,0,none,0,rfl,rfl,rfl,by omega,by omega,OwnE.nil _ _,Below.refl _ _⟩
 case round=>
  obtain⟨k,z,r,t,rfl,rfl,HZ,hk,hkx,O,B⟩:=hrel;have zle:z<=N:=by have h1:=HZ.out;have h2:=keep_len p (d.take k);rw[length_take,HN.out] at h2;omega
  have sz:S+2<=wr.heap.size:=by have:=B.out.size;have:=SU.out;omega
  have BW:Aside (Below S w wr):=B0.out.trans (B.out.mono (by omega));by_cases hlt:k<N
  ·have hz:(k:Int)<(N:Int):=by omega
   have hlt':k<d.length:=by rw[HN.out];exact hlt
   obtain⟨b,off,rfl,hb,c0,c1⟩:=(LU.out.below (by rw[SU.out];exact B.out)).elem k d[k] (List.getElem?_eq_getElem hlt');have e1:=keep_take p hlt';obtain⟨x,hx⟩:∃x,d[k]=x:=⟨_,rfl⟩;rw[hx] at e1 c0 c1;obtain⟨R,hR⟩:∃R,wr.heap.size=R:=⟨_,rfl⟩;obtain⟨v,hv⟩:∃v,wr.alloc (.cells #[.int .u64 x.1,.int .i64 x.2] 35)=v:=⟨_,rfl⟩;have HV:Hid _:=hv;have bv:Below wr.heap.size wr v:=by rw[<-hv];exact(Below.refl _ _).alloc (le_refl _) _
   have v0:v.cell? ⟨R,0,none⟩=some (.int .u64 x.1):=by rw[<-hv,<-hR];exact cell_new wr _ _ 0
   have v1:v.cell? ⟨R,1,none⟩=some (.int .i64 x.2):=by rw[<-hv,<-hR];exact cell_new wr _ _ 1
   have vs:R<v.heap.size:=by rw[<-hv,<-hR];simp
   have sy:=says_any g cb x.2 (p x.2) v eg (HG.out x.2 v (by rw[HS.out];exact BW.out.trans (bv.mono (by omega))));have hbR:b<R:=by omega
   have E1:Aside (keepL p (d.take (k+1))=keepL p (d.take k)++(if p x.2 then [] else [x])):=e1;have BV:Aside (Below (S+2) u v):=B.out.trans (bv.mono (by omega));have OV:Aside (OwnE v (S+2) (.slice r z t) (keepL p (d.take k))):=O.out.below bv;clear e1 hx hv bv O B hb
   cases hB:p x.2 with
   | true=>
    rw[hB] at sy E1;have E2:Hid (keepL p (d.take (k+1))=keepL p (d.take k)):=by show _=_;have:=E1.out;simpa using this
    clear E1
    go_wp2_with fail
    rw[HV.out];refine sy.mono ?_;rintro e w1 ⟨rfl,b1⟩;have B1:Aside (Below (S+2) u w1):=BV.out.trans (b1.mono (by omega));have O1:Aside (OwnE w1 (S+2) (.slice r z t) (keepL p (d.take (k+1)))):=by rw[E2.out];exact OV.out.below b1
    clear b1 sy v0 v1 c0 c1 OV BV
    go_wp2
    go_roundg (N-(k+1))
    case measure=>omega
    case rel=>exact⟨k+1,z,r,t,by go_num,rfl,by rw[E2.out];exact HZ,by omega,le_refl _,O1,B1⟩
   | false=>
    rw[hB] at sy E1;have E2:Hid (keepL p (d.take (k+1))=keepL p (d.take k)++[x]):=by show _=_;have:=E1.out;simpa using this
    clear E1
    go_wp2_with fail
    rw[HV.out];refine sy.mono ?_;rintro e w1 ⟨rfl,b1⟩;have B1:Aside (Below (S+2) u w1):=BV.out.trans (b1.mono (by omega));have y0:w1.cell? ⟨R,0,none⟩=some (.int .u64 x.1):=(b1.cell (p:=⟨R,0,none⟩) vs).trans v0;have y1:w1.cell? ⟨R,1,none⟩=some (.int .i64 x.2):=(b1.cell (p:=⟨R,1,none⟩) vs).trans v1;have ws:R<w1.heap.size:=by have:=b1.size;omega
    obtain⟨r',t',w2,hr,o2,b2⟩:=app_one x (OV.out.below b1) HZ.out (by omega) (by omega);have B2:Aside (Below (S+2) u w2):=B1.out.trans b2;have O2:Aside (OwnE w2 (S+2) (.slice r' (z+1) t') (keepL p (d.take (k+1)))):=by rw[E2.out];exact o2
    have HZ2:Hid ((keepL p (d.take (k+1))).length=z+1):=by show _=_;rw[E2.out,length_append,HZ.out];rfl
    clear b1 sy v0 v1 c0 c1 OV BV o2 b2
    go_wp2_with (at_builtin;refine Lib.wpList_append_run (World.alloc w1 _) rfl _ _ 157 157 rfl _ _ rfl rfl _ w2 hr ?_)
    go_roundg (N-(k+1))
    case measure=>omega
    case rel=>exact⟨k+1,z+1,r',t',by go_num,rfl,HZ2,by omega,le_refl _,O2,B2⟩
  ·have hz:¬(k:Int)<(N:Int):=by omega
   have e:d.take k=d:=take_of_length_le (by rw[HN.out];omega);rw[e] at HZ O;have ofa:=of_any r t (keepL p d) wr O.out.is (by have:=HZ.out;omega);rw[HZ.out] at ofa;obtain⟨m,hm⟩:∃m,lvl z=m:=⟨_,rfl⟩;have HM:Hid _:=hm;have SL:Hid ((sortE (keepL p d)).length=z):=by show _=_;rw[sortE_len,HZ.out]
   clear e O hm
   go_wp2_with fail
   refine ofa.mono ?_;rintro e w2 ⟨r2,t2,rfl,o2,b2⟩;rw[SL.out,HM.out];have x2:=X1.out.below (B.out.trans (b2.mono sz)) (by omega);have q0:=x2.c0;have q1:=x2.c1;have q2:=x2.f0;have q3:=x2.f1
   have B3:Aside (Below S w ((w2.setCell ⟨S+1,0,none⟩ (.int .i64 m)).setCell ⟨S+1,1,none⟩ (.slice r2 z t2))):=
    ((BW.out.trans (b2.mono (by omega))).setCell (by show S<=S+1;omega) _).setCell (by show S<=S+1;omega) _
   have X3:Aside (Box2 (S+1) (.int .i64 m) (.slice r2 z t2) ((w2.setCell ⟨S+1,0,none⟩ (.int .i64 m)).setCell ⟨S+1,1,none⟩ (.slice r2 z t2))):=x2.set _ _
   have O3:Aside (OwnE ((w2.setCell ⟨S+1,0,none⟩ (.int .i64 m)).setCell ⟨S+1,1,none⟩ (.slice r2 z t2)) S (.slice r2 (sortE (keepL p d)).length t2) (sortE (keepL p d))):=
    ((o2.set (by show S+1<_;omega) _).set (by show S+1<_;omega) _).low (by omega)
   clear x2 o2 b2 ofa X1 B0 B BW LU
   go_wp2
   generalize World.setCell _ _ _=w3 at B3 X3 O3⊢;have y0:=X3.out.c0;have y1:=X3.out.c1;refine bodyPost_ret (v:=.agg #[.int .i64 m,.slice r2 z t2]) (by simp[results,results129,go_sem,y0,y1]) rfl ⟨r2,t2,?_,by rw[HS.out];exact O3.out,by rw[HS.out];exact B3.out⟩;rw[SL.out,HM.out]
structure Kept(S:TypeId->Prop)(w w':World):Prop where
 size:w.heap.size<=w'.heap.size
 block:∀(k:Nat)(cs:Array Value)(T:TypeId)(fr:Nat×Nat),w.heap[k]?=some (Obj.cells cs T fr)->¬S T->w'.heap[k]?=w.heap[k]?
theorem Kept.refl(S:TypeId->Prop)(w:World):Kept S w w:=⟨le_refl _,fun _ _ _ _ _ _=>rfl⟩
theorem Kept.trans{S:TypeId->Prop}{u v w:World}(h:Kept S u v)(g:Kept S v w):Kept S u w:=
 ⟨Nat.le_trans h.size g.size,fun k cs T fr hk hT=>(g.block k cs T fr ((h.block k cs T fr hk hT).trans hk) hT).trans (h.block k cs T fr hk hT)⟩
theorem Kept.of_below{S:TypeId->Prop}{w w':World}(h:Below w.heap.size w w'):Kept S w w':=
 ⟨h.size,fun k cs T fr hk _=>h.block k (lt_of_block hk)⟩
theorem Kept.step{S:TypeId->Prop}{u v w:World}(h:Kept S u v)(g:Below v.heap.size v w):Kept S u w:=h.trans (Kept.of_below g)
theorem Kept.own{S:TypeId->Prop}{w w':World}{base n k:Nat}{T:TypeId}{v:Value}{vs:List Value}(h:Kept S w w')(hT:¬S T)(o:w.ownsRow base T k v n vs):w'.ownsRow base T k v n vs:=by
 obtain⟨h1,h2⟩:=o;refine⟨h1,?_⟩;rcases h2 with h2|⟨g,cap,cur,r1,r2,r3,r4⟩
 ·exact .inl h2
 ·exact .inr ⟨g,cap,cur,r1,r2,(h.block g _ _ _ r3 hT).trans r3,r4⟩
theorem Kept.set{S:TypeId->Prop}{w:World}{b:Nat}{cs:Array Value}{T:TypeId}{fr:Nat×Nat}(hb:w.heap[b]?=some (.cells cs T fr))(hT:S T){o:Nat}{sp}(u:Value):Kept S w (w.setCell ⟨b,o,sp⟩ u):=by
 refine⟨by simp[World.setCell],fun k ds U fr' hk hU=>?_⟩
 have:k≠b:=by
  rintro rfl;rw[hb] at hk;simp only[Option.some.injEq,Obj.cells.injEq] at hk;rw[<-hk.2.1] at hU;exact hU hT
 have:=Below.heap_setCell w ⟨b,o,sp⟩ u k;exact this ‹_›
structure Bk where
 d:List Ent
 p:Option Addr
 q:Nat
def encB(b:Bk):List Value:=[.int .i64 (lv b.d),.slice b.p b.d.length b.q]
def flatB(bs:List Bk):List Value:=bs.flatMap encB
@[simp] theorem flatB_nil:flatB []=[]:=rfl
theorem flatB_cons(b:Bk)(bs:List Bk):flatB (b::bs)=.int .i64 (lv b.d)::.slice b.p b.d.length b.q::flatB bs:=rfl
theorem flatB_append(cs bs:List Bk):flatB (cs++bs)=flatB cs++flatB bs:=by simp[flatB]
theorem flatB_len:∀(bs:List Bk),(flatB bs).length=bs.length*2
 | []=>rfl
 | b::bs=>by simp only[flatB_cons,List.length_cons,flatB_len bs];omega
theorem flatB_one(bs:List Bk):∀u∈flatB bs,u.oneCell'=true:=by
 intro u hu;obtain⟨x,_,h⟩:=List.mem_flatMap.1 hu;simp[encB] at h;rcases h with rfl|rfl<;>rfl
theorem flatB_at:∀(bs:List Bk)(i:Nat)(b:Bk),bs[i]?=some b->(flatB bs)[i*2]?=some (.int .i64 (lv b.d))/\(flatB bs)[i*2+1]?=some (.slice b.p b.d.length b.q)
 | [],i,b,h=>by simp at h
 | x::bs,0,b,h=>by simp at h;subst h;exact⟨rfl,rfl⟩
 | x::bs,i+1,b,h=>by
  obtain⟨h1,h2⟩:=flatB_at bs i b (by simpa using h);rw[show(i+1)*2=i*2+1+1 by omega,flatB_cons];exact⟨by simpa using h1,by simpa using h2⟩
theorem flatB_take(bs:List Bk)(k:Nat):(flatB bs).take (k*2)=flatB (bs.take k):=by
 by_cases h:k<=bs.length
 ·conv=>lhs;rw[<-List.take_append_drop k bs,flatB_append]
  rw[take_append_of_le_length (by rw[flatB_len,length_take];omega),take_of_length_le (by rw[flatB_len,length_take];omega)]
 ·rw[take_of_length_le (by rw[flatB_len];omega),take_of_length_le (by omega)]
theorem flatB_drop(bs:List Bk)(k:Nat):(flatB bs).drop (k*2)=flatB (bs.drop k):=by
 by_cases h:k<=bs.length
 ·conv=>lhs;rw[<-List.take_append_drop k bs,flatB_append]
  have:(flatB (bs.take k)).length=k*2:=by rw[flatB_len,length_take];omega
  rw[List.drop_append,drop_eq_nil_of_le (by omega),this];simp
 ·rw[drop_eq_nil_of_le (by rw[flatB_len];omega),drop_eq_nil_of_le (by omega)]
  rfl
structure RowB(T:TypeId)(w:World)(base:Nat)(v:Value)(bs:List Bk):Prop where
 row:w.ownsRow base T 2 v bs.length (flatB bs)
 own:∀b∈bs,OwnE w base (.slice b.p b.d.length b.q) b.d
theorem RowB.nil(T:TypeId)(w:World)(base:Nat):RowB T w base (.slice none 0 0) []:=⟨World.ownsRow_nil w base _ _,fun b h=>by simp at h⟩
theorem own_below{w w':World}{base n k:Nat}{T:TypeId}{v:Value}{vs:List Value}(h:w.ownsRow base T k v n vs)(hw:Below w.heap.size w w'):w'.ownsRow base T k v n vs:=
 (Kept.of_below (S:=fun _=>False) hw).own (fun h=>h) h
theorem RowB.below{T:TypeId}{w w':World}{base:Nat}{v:Value}{bs:List Bk}(h:RowB T w base v bs)(hw:Below w.heap.size w w'):RowB T w' base v bs:=
 ⟨own_below h.row hw,fun b hb=>(h.own b hb).below hw⟩
theorem RowB.kept{S:TypeId->Prop}{T:TypeId}{w w':World}{base:Nat}{v:Value}{bs:List Bk}(h:RowB T w base v bs)(hw:Kept S w w')(h1:¬S T)(h2:¬S 35):RowB T w' base v bs:=
 ⟨hw.own h1 h.row,fun b hb=>hw.own h2 (h.own b hb)⟩
theorem RowB.slice{T:TypeId}{w:World}{base:Nat}{v:Value}{bs:List Bk}(h:RowB T w base v bs):∃a cap,v=.slice a bs.length cap/\bs.length<=cap/\cap<=maxLen:=by
 rcases h.row.2 with⟨h1,h0⟩|⟨g,cap,cur,h1,_,_,hn,hc,_⟩
 ·exact⟨none,0,by rw[h1,h0],by omega,by simp[maxLen]⟩
 ·exact⟨some ⟨g,0,none⟩,cap,h1,hn,hc⟩
theorem RowB.at{T:TypeId}{w:World}{base n cap:Nat}{a:Option Addr}{bs:List Bk}(h:RowB T w base (.slice a n cap) bs){i:Nat}(hi:i<bs.length) :
  ∃g,a=some ⟨g,0,none⟩/\base<=g/\g<w.heap.size/\w.cell? ⟨g,i*2,none⟩=some (.int .i64 (lv bs[i].d))/\w.cell? ⟨g,i*2+1,none⟩=some (.slice bs[i].p bs[i].d.length bs[i].q):=by
 rcases h.row.2 with⟨h1,h0⟩|⟨g,cap',cur,h1,hb,hg,hn,hc,hs,ht⟩
 ·omega
 ·injection h1 with e1 e2 e3
  subst e1 e2 e3;obtain⟨f1,f2⟩:=flatB_at bs i bs[i] (List.getElem?_eq_getElem hi);exact⟨g,rfl,hb,lt_of_block hg,by rw[World.ownsRow.cellAt h.row (i*2) (by omega),f1],by rw[World.ownsRow.cellAt h.row (i*2+1) (by omega),f2]⟩
theorem RowB.isBs{T:TypeId}{w:World}{base n cap:Nat}{a:Option Addr}{bs:List Bk}(h:RowB T w base (.slice a n cap) bs):IsBs w a (bs.map Bk.d):=by
 obtain⟨a',cap',e,h1,h2⟩:=h.slice;unfold maxLen at h2;refine⟨by rw[List.length_map];omega,fun i d hd=>?_⟩;rw[List.getElem?_map] at hd;obtain⟨b,hb,rfl⟩:=Option.map_eq_some_iff.1 hd;obtain⟨hi,hb'⟩:=List.getElem?_eq_some_iff.1 hb;obtain⟨g,e1,_,hg,c0,c1⟩:=h.at hi;rw[hb'] at c0 c1;exact⟨g,0,b.p,b.q,lv b.d,e1,hg,by rw[zero_add];exact c0,by rw[zero_add];exact c1,(h.own b (List.mem_of_getElem? hb)).is⟩
def LsmT(TL TB:TypeId)(w:World)(base b:Nat)(ls:List (List Ent)):Prop:=
 ∃(a:Option Addr)(cap:Nat)(bs:List Bk),bs.map Bk.d=ls/\base<=b/\w.heap[b]?=some (.cells #[.slice a bs.length cap] TL (0,0))/\RowB TB w base (.slice a bs.length cap) bs
theorem LsmT.below{TL TB:TypeId}{w w':World}{base b:Nat}{ls:List (List Ent)}(h:LsmT TL TB w base b ls)(hw:Below w.heap.size w w'):LsmT TL TB w' base b ls:=by
 obtain⟨a,cap,bs,h1,h2,h3,h4⟩:=h;exact⟨a,cap,bs,h1,h2,(hw.block b (lt_of_block h3)).trans h3,h4.below hw⟩
theorem LsmT.lt{TL TB:TypeId}{w:World}{base b:Nat}{ls:List (List Ent)}(h:LsmT TL TB w base b ls):base<=b/\b<w.heap.size:=by
 obtain⟨a,cap,bs,h1,h2,h3,h4⟩:=h;exact⟨h2,lt_of_block h3⟩
theorem LsmT.open{TL TB:TypeId}{w:World}{base b:Nat}{ls:List (List Ent)}(h:LsmT TL TB w base b ls) :
  ∃(a:Option Addr)(cap:Nat),w.cell? ⟨b,0,none⟩=some (.slice a ls.length cap)/\ls.length<=cap/\cap<=maxLen/\b<w.heap.size/\base<=b/\IsBs w a ls/\
   ∃bs:List Bk,bs.map Bk.d=ls/\RowB TB w base (.slice a ls.length cap) bs:=by
 obtain⟨a,cap,bs,rfl,h2,h3,h4⟩:=h;obtain⟨a',cap',e,k1,k2⟩:=h4.slice;injection e with e1 e2 e3
 subst e3;rw[List.length_map];exact⟨a,cap,by rw[cell_of_row _ _ _ _ _ _ h3];rfl,k1,k2,lt_of_block h3,h2,h4.isBs,bs,rfl,h4⟩
theorem setCell_row{w:World}{b:Nat}{cs:Array Value}{T:TypeId}{fr:Nat×Nat}(h:w.heap[b]?=some (.cells cs T fr))(u:Value):(w.setCell ⟨b,0,none⟩ u).heap[b]?=some (.cells (cs.setIfInBounds 0 u) T fr):=by
 rw[setCell_eq_setRow w b 0 cs T fr u h];exact setRow_heap w b cs _ T fr h
theorem RowB.setCell{T:TypeId}{w:World}{base b:Nat}{v:Value}{bs:List Bk}(h:RowB T w base v bs){cs:Array Value}{TL:TypeId}{fr:Nat×Nat}(hb:w.heap[b]?=some (.cells cs TL fr))(h1:T≠TL)(h2:35≠TL)(u:Value):RowB T (w.setCell ⟨b,0,none⟩ u) base v bs:=
 h.kept (S:=fun X=>X=TL) (Kept.set (S:=fun X=>X=TL) hb rfl u) h1 h2
def Moved(w:World)(a a':Option Addr):Prop:=a'=a\/∀x:Addr,a'=some x->w.heap.size<=x.block
theorem Moved.refl(w:World)(a:Option Addr):Moved w a a:=.inl rfl
theorem Moved.none(w:World)(a:Option Addr):Moved w a none:=.inr fun x h=>by cases h
theorem Moved.mono{w v:World}{a b:Option Addr}(h:Moved v a b)(hs:w.heap.size<=v.heap.size):Moved w a b:=by
 rcases h with h|h
 ·exact .inl h
 ·exact .inr fun x hx=>Nat.le_trans hs (h x hx)
def Only(B:Nat)(a:Option Addr)(w w':World):Prop:=∀k,k<w.heap.size->k≠B->a≠some ⟨k,0,none⟩->w'.heap[k]?=w.heap[k]?
theorem Only.trans{B:Nat}{a:Option Addr}{u v w:World}(h:Only B a u v)(g:Only B a v w)(hs:u.heap.size<=v.heap.size):Only B a u w:=
 fun k hk h1 h2=>(g k (by omega) h1 h2).trans (h k hk h1 h2)
theorem Only.below{B:Nat}{a:Option Addr}{w w':World}(h:Below w.heap.size w w'):Only B a w w':=fun k hk _ _=>h.block k hk
theorem Only.step{B:Nat}{a:Option Addr}{u v w:World}(h:Only B a u v)(g:Below v.heap.size v w)(hs:u.heap.size<=v.heap.size):Only B a u w:=h.trans (Only.below g) hs
theorem Only.set{B:Nat}{a:Option Addr}{u v:World}(h:Only B a u v)(o:Nat)(x:Value):Only B a u (v.setCell ⟨B,o,none⟩ x):=
 fun k hk h1 h2=>(Below.heap_setCell v ⟨B,o,none⟩ x k h1).trans (h k hk h1 h2)
theorem Only.setNew{B:Nat}{a:Option Addr}{u v:World}(h:Only B a u v){S:Nat}(hS:u.heap.size<=S)(o:Nat)(x:Value):Only B a u (v.setCell ⟨S,o,none⟩ x):=
 fun k hk h1 h2=>(Below.heap_setCell v ⟨S,o,none⟩ x k (by show k≠S;omega)).trans (h k hk h1 h2)
theorem info62:∃i,prog.info? 223=some i/\i.zero=some (.agg #[.int .i64 0,.slice none 0 0])/\i.size=2/\i.bytes=32:=by
 have h:(prog.info? 223).map (fun i=>(i.zero,i.size,i.bytes))=some (some (.agg #[.int .i64 0,.slice none 0 0]),2,32):=by kernel_rfl
 obtain⟨i,h1,h2⟩:=Option.map_eq_some_iff.1 h;simp at h2;exact⟨i,h1,h2.1,h2.2.1,h2.2.2⟩
theorem setRow_ends{S:TypeId->Prop}{w:World}{base g:Nat}{cur cur':Array Value}(hg:w.heap[g]?=some (.cells cur 223 (0,0)))(hb:base<=g)(hS:S 223) :
  Below base w (w.setRow g cur')/\Kept S w (w.setRow g cur')/\(w.setRow g cur').heap[g]?=some (.cells cur' 223 (0,0)):=by
 refine⟨below_setRow (Below.refl _ _) hb _,⟨by simp[World.setRow],fun k ds U fr' hk hU=>?_⟩,setRow_heap w g _ _ _ _ hg⟩;refine setRow_other w g k _ ?_;rintro rfl;rw[hg] at hk;simp only[Option.some.injEq,Obj.cells.injEq] at hk;rw[<-hk.2.1] at hU;exact hU hS
theorem run_copy2(w:World)(ty:TypeId)(g o dLen dCap:Nat)(a:Addr)(sLen sCap:Nat)(cur:Array Value)(cs:List Value)
  (hg:w.heap[g]?=some (.cells cur 223 (0,0))) (hn:cs.length=Nat.min sLen dLen*2)
  (hsrc:∀j v,cs[j]?=some v->w.cell? (a.add j)=some v) (hfit:o+cs.length<=cur.size) (h1:∀v∈cs,v.oneCell'=true) :
  (Builtin.copy_ #[186,186] ty #[.slice (some ⟨g,o,none⟩) dLen dCap,.slice (some a) sLen sCap]).run prog w =
   .ok (goInt (Nat.min sLen dLen)) (w.setRow g (splice cur.toList o cs).toArray):=by
 obtain⟨i,hi,_,hs,_⟩:=info62;have hl:=run_loadCells_list (P:=prog) w a cs hsrc;have hst:=run_storeCells_at prog g o 223 cs 0 cur w hg (by simpa using hfit) h1;have e:Nat.min sLen dLen*i.size=cs.length:=by rw[hn,hs]
 simp only[Nat.add_zero,append_assoc] at hst;simp[Builtin.copy_,run_underlying underlying186,Builtin.lenOf,Builtin.firstCells,sizeOf,typeInfo,hi,e,hl,hst,splice]
theorem run_clear2(w:World)(ty:TypeId)(g o c:Nat)(cur:Array Value)(hg:w.heap[g]?=some (.cells cur 223 (0,0)))(hfit:o+2<=cur.size) :
  (Builtin.clear_ #[186] ty #[.slice (some ⟨g,o,none⟩) 1 c]).run prog w=.ok (.tuple #[]) (w.setRow g (splice cur.toList o [.int .i64 0,.slice none 0 0]).toArray):=by
 have hst:=run_storeCells_at prog g o 223 [.int .i64 0,.slice none 0 0] 0 cur w hg (by simpa using hfit) (by intro v hv;simp at hv;rcases hv with rfl|rfl<;>rfl);have hz:∀w,(zeroValue 223).run prog w=.ok (.agg #[.int .i64 0,.slice none 0 0]) w:=fun w=>by kernel_rfl
 have hc:(Builtin.zeroCells (Value.agg #[.int .i64 0,.slice none 0 0]).cells 1).toList=[.int .i64 0,.slice none 0 0]:=by first|kernel_rfl|simp[Builtin.zeroCells,Value.cells,Array.range]
 simp only[Nat.add_zero,append_assoc] at hst;simp[Builtin.clear_,run_underlying underlying186,hz,hc,hst,splice]
def LB(T:TypeId):Prop:=T=190\/T=223
theorem lb_ent:¬LB 35:=by unfold LB;decide
theorem kept_grown{S:TypeId->Prop}{w w':World}{base n:Nat}{v:Value}{T:TypeId}{vs:List Value}(hS:S T)(o:w.ownsRow base T 2 v n vs)(hg:w.grownBy w' v.ownBlock):Kept S w w':=by
 refine⟨hg.size,fun k cs U fr hk hU=>hg.block k (lt_of_block hk) ?_⟩;intro e;rcases o.2 with⟨rfl,_⟩|⟨g,cap,cur,rfl,_,h,_⟩
 ·simp[Value.ownBlock] at e
 ·simp only[Value.ownBlock,Option.some.injEq] at e;subst e;rw[h] at hk;simp only[Option.some.injEq,Obj.cells.injEq] at hk;rw[<-hk.2.1] at hU;exact hU hS
def TurnsB(w:World)(base:Nat)(v0 v:Value)(bs:List Bk)(w':World):Prop:=RowB 223 w' base v bs/\w.grownBy w' v0.ownBlock
theorem TurnsB.ends{w w':World}{base n:Nat}{v0 v:Value}{vs:List Value}{bs:List Bk}(h:TurnsB w base v0 v bs w')(o:w.ownsRow base 223 2 v0 n vs)(hb:base<=w.heap.size):Below base w w'/\Kept LB w w':=
 ⟨(Below.refl _ _).grown h.2 hb (fun k hk=>(World.ownsRow.lt o k hk).1),kept_grown (.inr rfl) o h.2⟩
theorem grown_row{w:World}{g:Nat}(cur:Array Value):w.grownBy (w.drew.setRow g cur) (some g):=⟨rfl,rfl,rfl,by simp[World.setRow],fun k hk hne=>setRow_other w.drew g k _ (fun e=>hne (by rw[e]))⟩
theorem grown_row2{w w1:World}{g:Nat}(cur:Array Value)(h:w.grownBy w1 (some g)):w.grownBy (w1.setRow g cur) (some g):=
 ⟨h.os,h.tape,h.output,by simpa [World.setRow] using h.size,fun k hk hne=>(setRow_other w1 g k _ (fun e=>hne (by rw[e]))).trans (h.block k hk hne)⟩
theorem erase_eq(bs:List Bk)(i:Nat):flatB (bs.eraseIdx i)=flatB (bs.take i)++flatB (bs.drop (i+1)):=by rw[List.eraseIdx_eq_take_drop_succ,flatB_append]
theorem delete_any(a:Option Addr)(n cap i:Nat)(base:Nat)(bs:List Bk)(w:World)(h:RowB 223 w base (.slice a n cap) bs)(hn:bs.length=n)(hi:i<n) :
  Calls prog 132 #[.slice a n cap,.int .i64 i,.int .i64 ((i:Int)+1)] w fun r w'=>r=.returned (.slice a (n-1) cap)/\TurnsB w base (.slice a n cap) (.slice a (n-1) cap) (bs.eraseIdx i) w':=by
 obtain⟨inf,hinf,_,hsz,_⟩:=info62;rcases h.row.2 with⟨h1,h0⟩|⟨g,cap',cur,h1,hb,hg,hnc,hc,hs,ht⟩
 ·omega
 injection h1 with e1 e2 e3
 subst e1 e2 e3;unfold maxLen at hc;obtain⟨news,hnews⟩:∃news,news=flatB (bs.drop (i+1)):=⟨_,rfl⟩;have hlen:news.length=(bs.length-(i+1))*2:=by rw[hnews,flatB_len,length_drop]
 obtain⟨A,hA,hsrc⟩:∃A:Addr,(if cap=i+1 then some (⟨g,0,none⟩:Addr) else some ⟨g,(i+1)*2,none⟩)=some A/\Hid (∀t u,news[t]?=some u->w.drew.cell? (A.add t)=some u):=by
  by_cases c:cap=i+1
  ·refine⟨⟨g,0,none⟩,by simp[c],fun t u hu=>?_⟩;have h0:news.length=0:=by rw[hlen];omega
   rw[List.length_eq_zero_iff.1 h0] at hu;simp at hu
  ·refine⟨⟨g,(i+1)*2,none⟩,by simp[c],fun t u hu=>?_⟩;have ht2:=(List.getElem?_eq_some_iff.1 hu).1;rw[Addr.add_lit];show w.cell? _=_;rw[World.ownsRow.cellAt h.row ((i+1)*2+t) (by omega),<-hu,hnews,<-flatB_drop,List.getElem?_drop]
 have hr:(Builtin.append_ #[186,186] 186 #[.slice (some ⟨g,0,none⟩) i cap,.slice (some A) (bs.length-(i+1)) (cap-(i+1))]).run prog w.drew=.ok (.slice (some ⟨g,0,none⟩) (bs.length-1) cap) (w.drew.setRow g (splice cur.toList (i*2) news).toArray):=by
  have:=run_append_room (P:=prog) w.drew 186 186 223 inf underlying186 hinf g i cap cur hg A (bs.length-(i+1)) (cap-(i+1)) news (by rw[hlen,hsz]) hsrc.out (by rw[hnews];exact flatB_one _) (by omega) (by rw[hsz,hlen,hs];omega);rw[this,hsz,show i+(bs.length-(i+1))=bs.length-1 by omega,append_assoc]
  rfl
 obtain⟨b1,k1,g1⟩:=setRow_ends (S:=fun T=>T=223) (w:=w.drew) (cur':=(splice cur.toList (i*2) news).toArray) hg hb rfl;have l1:(splice cur.toList (i*2) news).length=cap*2:=by rw[length_splice _ _ _ (by rw[hlen];simp[hs];omega)];simpa using hs
 obtain⟨w1,hw1⟩:∃w1,w.drew.setRow g (splice cur.toList (i*2) news).toArray=w1:=⟨_,rfl⟩;rw[hw1] at hr b1 k1 g1
 have hcl:∀ty,(Builtin.clear_ #[186] ty #[.slice (some ⟨g,(bs.length-1)*2,none⟩) 1 (cap-(bs.length-1))]).run prog w1=.ok (.tuple #[]) (w1.setRow g (splice (splice cur.toList (i*2) news) ((bs.length-1)*2) [.int .i64 0,.slice none 0 0]).toArray):=
  fun ty=>run_clear2 w1 ty g _ _ _ g1 (by simp;omega)
 obtain⟨b2,k2,g2⟩:=setRow_ends (S:=fun T=>T=223) (w:=w1) (cur':=(splice (splice cur.toList (i*2) news) ((bs.length-1)*2) [.int .i64 0,.slice none 0 0]).toArray) g1 hb rfl;obtain⟨w2,hw2⟩:∃w2,w1.setRow g (splice (splice cur.toList (i*2) news) ((bs.length-1)*2) [.int .i64 0,.slice none 0 0]).toArray=w2:=⟨_,rfl⟩;simp only[hw2] at hcl;rw[hw2] at b2 k2 g2;have bw:Below base w w2:=Below.trans (Below.trans ((Below.refl _ _).drew) b1) b2;have gw:w.grownBy w2 (some g):=by rw[<-hw2];exact grown_row2 _ (by rw[<-hw1];exact grown_row _)
 have kw:Kept (fun T=>T=223) w w2:=Kept.trans (Kept.trans (Kept.of_below ((Below.refl _ _).drew)) k1) k2
 have hfin:TurnsB w base (.slice (some ⟨g,0,none⟩) bs.length cap) (.slice (some ⟨g,0,none⟩) (bs.length-1) cap) (bs.eraseIdx i) w2:=by
  refine⟨⟨?_,fun b hb'=>kw.own (by decide) (h.own b (List.mem_of_mem_eraseIdx hb'))⟩,gw⟩;have le:(bs.eraseIdx i).length=bs.length-1:=by rw[List.length_eraseIdx,if_pos hi]
  rw[le];refine⟨by rw[flatB_len,le],.inr ⟨g,cap,_,rfl,hb,g2,by omega,by unfold maxLen;omega,?_,?_⟩⟩
  ·simp only[size_toArray];rw[length_splice _ _ _ (by simp;omega),l1]
  ·have e1:(splice cur.toList (i*2) news).take ((bs.length-1)*2)=flatB (bs.eraseIdx i):=by
    have e2:(cur.toList.take (i*2))=flatB (bs.take i):=by
     rw[<-flatB_take,<-ht,take_take];congr 1;omega
    unfold splice;rw[<-append_assoc,take_append_of_le_length (by simp[hlen,hs];omega),take_of_length_le (by simp[hlen,hs];omega),e2,erase_eq,hnews]
   obtain⟨X,hX⟩:∃X,splice cur.toList (i*2) news=X:=⟨_,rfl⟩;rw[hX] at e1 l1⊢;show List.take _ (X.take ((bs.length-1)*2)++_)=_;rw[take_append_of_le_length (by rw[length_take,l1];omega),take_take,Nat.min_self];exact e1
 have F:Aside (TurnsB w base (.slice (some ⟨g,0,none⟩) bs.length cap) (.slice (some ⟨g,0,none⟩) (bs.length-1) cap) (bs.eraseIdx i) w2):=hfin;obtain⟨M,hn⟩:∃M,bs.length=M+1:=⟨bs.length-1,by omega⟩;have mx:=mixed;rw[hn] at hr hcl F hi hnc⊢;simp only[Nat.add_sub_cancel] at hr hcl F⊢;obtain⟨n,hM⟩:∃n,M+1=n:=⟨_,rfl⟩;have HM:Hid _:=hM;have q1:((M:Nat):Int)<=(n:Int):=by omega
 have q2:¬cap=M:=by omega
 have q3:n-M=1:=by omega
 have q4:(n:Int)<=(cap:Int):=by omega
 rw[hM] at hr hi hnc F⊢;have j1:(i:Int)<=(n:Int):=by omega
 have j2:(i:Int)+1<=(n:Int):=by omega
 have j3:(0:Int)<=(i:Int)+1:=by omega
 have j4:((i:Int)+1).toNat=i+1:=by omega
 have j5:((i:Int)==(i:Int)+1)=false:=by simp;omega
 have j6:¬(i:Int)=(i:Int)+1:=by omega
 have j7:(i:Int)<=(cap:Int):=by omega
 have j8:(i:Int)+1<=(cap:Int):=by omega
 clear h hg hs ht hnews hlen hsrc b1 k1 g1 l1 hw1 b2 k2 g2 hw2 bw kw gw hfin hinf hM hn;go_enter func132,ntmps132
 go_wp2_with fail
 go_region_law_o (refine step_app w.drew rfl _ _ 186 186 rfl _ _ (by simp[Act.eval,Act.put]) (by simp[Act.eval,Act.put]) _ w1 hr ?_)
 go_wp2
 go_ret;exact⟨rfl,F.out⟩
theorem wp_copy_run2(w:World){o:Oper}{a:Act}{K:Act->World->Prop}{Q:Exit->Act->World->Prop}(d s:Operand)(t t':TypeId)
  (ho:o.op=.call {callee:=.builtin .copy,args:=#[d,s],argTypes:=#[t,t']}) (v u:Value) (hd:a.eval d=v) (hs:a.eval s=u) {v':Value} {w':World}
  (hr:(Builtin.copy_ #[t,t'] o.type #[v,u]).run prog w=.ok v' w') (h:K (a.put o.dst v') w'):o.wp prog a w K Q:=by
 unfold Oper.wp execOp;simp only[ho,resolve,invoke,builtin,Sem.run_bind,Sem.run_pure,Result.andThen_ok,List.map_toArray,List.map_cons,List.map_nil,hd,hs,hr];exact h
theorem wpList_copy_run2(w:World){ops:Array Oper}{rest:List Oper}{o:Oper}{a:Act}{Q:Exit->Act->World->Prop}(hgd:o.guard=none)(d s:Operand)(t t':TypeId)
  (ho:o.op=.call {callee:=.builtin .copy,args:=#[d,s],argTypes:=#[t,t']}) (v u:Value) (hd:a.eval d=v) (hs:a.eval s=u) {v':Value} {w':World}
  (hr:(Builtin.copy_ #[t,t'] o.type #[v,u]).run prog w=.ok v' w') (h:wpList prog ops Q rest (a.put o.dst v') w'):wpList prog ops Q (o::rest) a w:=
 wpList_plain hgd fun _ hK=>wp_copy_run2 w d s t t' ho v u hd hs hr (hK _ _ h)
theorem step_copy_run2{ops:Array Oper}{o:Oper}{a:Act}{K:Act->World->Prop}{Q:Exit->Act->World->Prop}{E:Prop}(w:World)
  (hg:o.guard=none) (d x:Operand) (dT sT:TypeId) (hop:o.op=Op.call {callee:=Callee.builtin Builtin.copy,args:=#[d,x],argTypes:=#[dT,sT]})
  (v u:Value) (hd:a.eval d=v) (hx:a.eval x=u) {v':Value} {w':World} (hr:(Builtin.copy_ #[dT,sT] o.type #[v,u]).run prog w=.ok v' w') (hK:K (a.put o.dst v') w') :
  if Region.wanted o (yielded ops a.tmps)=true then Oper.wp prog o a w K Q else E:=by
 have hw:Region.wanted o (yielded ops a.tmps)=true:=by simp[Region.wanted,hg]
 rw[if_pos hw];exact wp_copy_run2 w d x dT sT hop v u hd hx hr hK
theorem app_block{w:World}{base G n:Nat}{v:Value}{bs:List Bk}{b:Bk}{TB TS:TypeId}(i:TypeInfo)(hu:prog.underlying TS=some (.slice TB))(hi:prog.info? TB=some i)(hz:i.zero=some (.agg #[.int .i64 0,.slice none 0 0]))(hs:i.size=2)(hby:i.bytes=32)
  (hT:TB≠35) (h:RowB TB w base v bs) (hn:bs.length=n) (hb:OwnE w base (.slice b.p b.d.length b.q) b.d) (c0:w.cell? ⟨G,0,none⟩=some (.int .i64 (lv b.d))) (c1:w.cell? ⟨G,1,none⟩=some (.slice b.p b.d.length b.q)) (hN:n<=100000) (hbase:base<=w.heap.size) (ty:TypeId) :
  ∃r t w',(Builtin.append_ #[TS,TS] ty #[v,.slice (some ⟨G,0,none⟩) 1 1]).run prog w=.ok (.slice r (n+1) t) w'/\RowB TB w' base (.slice r (n+1) t) (bs++[b])/\w.grownBy w' v.ownBlock:=by
 subst hn
 obtain⟨v',w',k1,k2,k3,k4⟩:=run_append_own (P:=prog) w base TS ty TB i _ 2 32 hu hi hz hs hby rfl (by omega) v bs.length (flatB bs) h.row ⟨G,0,none⟩ 1 1 (flatB [b]) rfl
  (fun j u hj=>by
   have:j=0\/j=1:=by have:=(List.getElem?_eq_some_iff.1 hj).1;simp[flatB,encB] at this;omega
   rcases this with rfl|rfl
   ·simp[flatB,encB] at hj;subst hj;exact c0
   ·simp[flatB,encB] at hj;subst hj;exact c1) (flatB_one _) (by unfold maxLen;omega) (by omega) hbase
 have kp:=kept_grown (S:=fun T=>T=TB) rfl h.row k3
 have own:RowB TB w' base v' (bs++[b]):=by
  refine⟨by rw[flatB_append,length_append];exact k2,fun x hx=>?_⟩;rcases List.mem_append.1 hx with hx|hx
  ·exact kp.own (fun e=>hT e.symm) (h.own x hx)
  ·simp at hx;subst hx;exact kp.own (fun e=>hT e.symm) hb
 obtain⟨r,t,e,_⟩:=own.slice;rw[length_append] at e;simp only[List.length_singleton] at e;subst e;exact⟨r,t,w',k1,own,k3⟩
theorem app_where{w w':World}{base G n m t cap0:Nat}{a r:Option Addr}{bs:List Bk}{b:Bk}{TB TS:TypeId}(i:TypeInfo)(hu:prog.underlying TS=some (.slice TB))(hi:prog.info? TB=some i)(hz:i.zero=some (.agg #[.int .i64 0,.slice none 0 0]))(hs:i.size=2)(hby:i.bytes=32)
  (h:RowB TB w base (.slice a n cap0) bs) (hn:bs.length=n) (c0:w.cell? ⟨G,0,none⟩=some (.int .i64 (lv b.d))) (c1:w.cell? ⟨G,1,none⟩=some (.slice b.p b.d.length b.q)) (hN:n<=100000) (ty:TypeId)
  (k1:(Builtin.append_ #[TS,TS] ty #[.slice a n cap0,.slice (some ⟨G,0,none⟩) 1 1]).run prog w=.ok (.slice r m t) w'):Moved w a r:=by
 subst hn
 have news:∀j u,(flatB [b])[j]?=some u->w.cell? ((⟨G,0,none⟩:Addr).add j)=some u:=fun j u hj=>by
   have:j=0\/j=1:=by have:=(List.getElem?_eq_some_iff.1 hj).1;simp[flatB,encB] at this;omega
   rcases this with rfl|rfl
   ·simp[flatB,encB] at hj;subst hj;exact c0
   ·simp[flatB,encB] at hj;subst hj;exact c1
 rcases h.row.2 with⟨h1,h0⟩|⟨g,cap,cur,h1,hbg,hg,hnc,hcm,hcs,htake⟩
 ·rw[h1] at k1;have hr:=run_append_nil (P:=prog) w TS ty TB i _ hu hi hz ⟨G,0,none⟩ 1 1 (flatB [b]) (by rw[hs];rfl) news (by omega) (by omega) (by rw[hby];omega);rw[k1] at hr;injection hr with e1 e2
  injection e1 with e1 e3 e4
  exact .inr fun x hx=>by rw[e1] at hx;injection hx with hx;rw[<-hx];exact le_refl _
 ·have h1':=h1;injection h1' with ea en ec
  subst ea ec;by_cases hroom:bs.length+1<=cap0
  ·have hr:=run_append_room (P:=prog) w TS ty TB i hu hi g bs.length cap0 cur hg ⟨G,0,none⟩ 1 1 (flatB [b]) (by rw[hs];rfl) news (flatB_one _) hroom (by rw[hs,hcs];show bs.length*2+2<=cap0*2;omega);rw[k1] at hr;injection hr with e1 e2
   injection e1 with e1 e3 e4
   exact .inl e1
  ·refine .inr fun x hx=>?_;have hr:=run_append_grow (P:=prog) w TS ty TB i _ hu hi hz ⟨g,0,none⟩ bs.length cap0 (flatB bs) (by rw[hs];exact h.row.1) (World.ownsRow.cells h.row (g:=g) rfl) ⟨G,0,none⟩ 1 1 (flatB [b]) (by rw[hs];rfl) news (by omega) (by omega) (growslice_fits (by omega) (by rw[hby];omega));rw[k1] at hr;injection hr with e1 e2
   injection e1 with e1 e3 e4
   rw[e1] at hx;injection hx with hx;rw[<-hx];exact le_refl _
theorem insert_endF(a:Option Addr)(n cap base G:Nat)(bs:List Bk)(b:Bk)(w:World)(h:RowB 223 w base (.slice a n cap) bs)(hn:bs.length=n)(hb:OwnE w base (.slice b.p b.d.length b.q) b.d)
  (c0:w.cell? ⟨G,0,none⟩=some (.int .i64 (lv b.d))) (c1:w.cell? ⟨G,1,none⟩=some (.slice b.p b.d.length b.q)) (hN:n<=100000) (hbase:base<=w.heap.size) :
  Calls prog 192 #[.slice a n cap,.int .i64 n,.slice (some ⟨G,0,none⟩) 1 1] w fun r w'=>∃a' cap',r=.returned (.slice a' (n+1) cap')/\TurnsB w base (.slice a n cap) (.slice a' (n+1) cap') (bs++[b]) w'/\Moved w a a':=by
 obtain⟨inf,hi,hz,hs,hby⟩:=info62;obtain⟨r,t,w',hr,o,k1⟩:=app_block inf underlying186 hi hz hs hby (by decide) h hn hb c0 c1 hN hbase 186;have F:Aside (TurnsB w base (.slice a n cap) (.slice r (n+1) t) (bs++[b]) w'/\Moved w a r):=⟨⟨o,k1⟩,app_where inf underlying186 hi hz hs hby h hn c0 c1 hN 186 hr⟩
 have hcc:n<=cap/\cap<=maxLen:=by
  obtain⟨a',c',e,hc1,hc2⟩:=h.slice;injection e with _ _ e3
  rw[e3,<-hn];exact⟨hc1,hc2⟩
 obtain⟨hc1,hc2⟩:=hcc;unfold maxLen at hc2;have j1:(n:Int)<=(cap:Int):=by omega
 have j2:n<=cap:=by omega
 have j3:cap<=9223372036854775807:=by omega
 have mx:=mixed;clear o k1 hb c0 c1 hi;rcases h.row.2 with⟨h1,h0⟩|⟨g,cap',cur,h1,hbg,hg,hnc,hc,hs,ht⟩
 ·injection h1 with e1 e2 e3
  subst e1;have en:n=0:=e2;have ec:cap=0:=e3;clear h e2 e3 h0 hn hc1 hc2;subst en ec;go_enter func192,ntmps192
  go_wp2_with (at_builtin;refine Lib.wpList_append_run w rfl _ _ 186 186 rfl _ _ rfl rfl _ w' hr ?_)
  go_ret;exact⟨r,t,rfl,F.out⟩
 ·injection h1 with e1 e2 e3
  subst e1 e3;clear h hs ht hg e2 hnc hn hc1 hc;by_cases c:cap=n
  ·go_enter func192,ntmps192
   go_wp2_with (at_builtin;refine Lib.wpList_append_run w rfl _ _ 186 186 rfl _ _ rfl rfl _ w' hr ?_)
   go_ret;exact⟨r,t,rfl,F.out⟩
  ·go_enter func192,ntmps192
   go_wp2_with (at_builtin;refine Lib.wpList_append_run w rfl _ _ 186 186 rfl _ _ rfl rfl _ w' hr ?_)
   go_ret;exact⟨r,t,rfl,F.out⟩
theorem insert_mid(a:Option Addr)(n cap i base G:Nat)(bs:List Bk)(b:Bk)(w:World)(h:RowB 223 w base (.slice a n cap) bs)(hn:bs.length=n)(hi:i<n)(hroom:n<cap)(hb:OwnE w base (.slice b.p b.d.length b.q) b.d)
  (hG:w.heap[G]?=some (.cells #[.int .i64 (lv b.d),.slice b.p b.d.length b.q] 223 (0,0))) (hGa:a≠some ⟨G,0,none⟩) :
  Calls prog 192 #[.slice a n cap,.int .i64 i,.slice (some ⟨G,0,none⟩) 1 1] w fun r w'=>r=.returned (.slice a (n+1) cap)/\TurnsB w base (.slice a n cap) (.slice a (n+1) cap) (bs.take i++b::bs.drop i) w':=by
 obtain⟨inf,hinf,_,hsz,_⟩:=info62;rcases h.row.2 with⟨h1,h0⟩|⟨g,cap',cur,h1,hbg,hg,hnc,hc,hs,ht⟩
 ·omega
 injection h1 with e1 e2 e3
 subst e1 e2 e3;unfold maxLen at hc;have hne:G≠g:=fun e=>hGa (by rw[e]);have hcs:cur.toList.length=cap*2:=by simpa using hs
 obtain⟨X1,hX1⟩:∃X,flatB (bs.drop i)=X:=⟨_,rfl⟩;obtain⟨Y,hY⟩:∃Y,flatB [b]=Y:=⟨_,rfl⟩;have l1:X1.length=(bs.length-i)*2:=by rw[<-hX1,flatB_len,length_drop]
 have lY:Y.length=2:=by rw[<-hY];rfl
 have hcp1:∀ty dc sc,(Builtin.copy_ #[186,186] ty #[.slice (some ⟨g,(i+1)*2,none⟩) (bs.length+1-(i+1)) dc,.slice (some ⟨g,i*2,none⟩) (bs.length+1-i) sc]).run prog w.drew=.ok (goInt ((bs.length-i:Nat):Int)) (w.drew.setRow g (splice cur.toList ((i+1)*2) X1).toArray):=fun ty dc sc=>by
  have e:Nat.min (bs.length+1-i) (bs.length+1-(i+1))=bs.length-i:=by show min _ _=_;omega
  have:=run_copy2 w.drew ty g ((i+1)*2) (bs.length+1-(i+1)) dc ⟨g,i*2,none⟩ (bs.length+1-i) sc cur X1 hg (by rw[e,l1]) (fun j v hj=>by
   have hjl:=(List.getElem?_eq_some_iff.1 hj).1;rw[Addr.add_lit];show w.cell? _=_;rw[World.ownsRow.cellAt h.row (i*2+j) (by omega),<-hj,<-hX1,<-flatB_drop,List.getElem?_drop]) (by rw[l1,hs];omega) (by rw[<-hX1];exact flatB_one _)
  rw[e] at this;exact this
 obtain⟨b1,k1,g1⟩:=setRow_ends (S:=fun T=>T=223) (w:=w.drew) (cur':=(splice cur.toList ((i+1)*2) X1).toArray) hg hbg rfl;have hG1:(w.drew.setRow g (splice cur.toList ((i+1)*2) X1).toArray).heap[G]?=some (.cells #[.int .i64 (lv b.d),.slice b.p b.d.length b.q] 223 (0,0)):=(setRow_other w.drew g G _ hne).trans hG;have m1:(splice cur.toList ((i+1)*2) X1).length=cap*2:=by rw[length_splice _ _ _ (by rw[l1,hcs];omega),hcs]
 obtain⟨w1,hw1⟩:∃w1,w.drew.setRow g (splice cur.toList ((i+1)*2) X1).toArray=w1:=⟨_,rfl⟩;simp only[hw1] at hcp1;rw[hw1] at b1 k1 g1 hG1
 have hcp2:∀ty dc,(Builtin.copy_ #[186,186] ty #[.slice (some ⟨g,i*2,none⟩) (bs.length+1-i) dc,.slice (some ⟨G,0,none⟩) 1 1]).run prog w1=.ok (goInt 1) (w1.setRow g (splice (splice cur.toList ((i+1)*2) X1) (i*2) Y).toArray):=fun ty dc=>by
  have e:Nat.min 1 (bs.length+1-i)=1:=by show min _ _=_;omega
  have:=run_copy2 w1 ty g (i*2) (bs.length+1-i) dc ⟨G,0,none⟩ 1 1 _ Y g1 (by rw[e,lY]) (fun j v hj=>by
   have:j=0\/j=1:=by have:=(List.getElem?_eq_some_iff.1 hj).1;omega
   rw[Addr.add_lit,zero_add,cell_of_row _ _ _ _ _ _ hG1,<-hj,<-hY];rcases this with rfl|rfl<;>rfl) (by simp only[size_toArray];rw[m1,lY];omega) (by rw[<-hY];exact flatB_one _)
  rw[e] at this;exact this
 obtain⟨b2,k2,g2⟩:=setRow_ends (S:=fun T=>T=223) (w:=w1) (cur':=(splice (splice cur.toList ((i+1)*2) X1) (i*2) Y).toArray) g1 hbg rfl;obtain⟨w2,hw2⟩:∃w2,w1.setRow g (splice (splice cur.toList ((i+1)*2) X1) (i*2) Y).toArray=w2:=⟨_,rfl⟩;simp only[hw2] at hcp2;rw[hw2] at b2 k2 g2;have bw:Below base w w2:=Below.trans (Below.trans ((Below.refl _ _).drew) b1) b2;have gw:w.grownBy w2 (some g):=by rw[<-hw2];exact grown_row2 _ (by rw[<-hw1];exact grown_row _)
 have kw:Kept (fun T=>T=223) w w2:=Kept.trans (Kept.trans (Kept.of_below ((Below.refl _ _).drew)) k1) k2
 have hfin:TurnsB w base (.slice (some ⟨g,0,none⟩) bs.length cap) (.slice (some ⟨g,0,none⟩) (bs.length+1) cap) (bs.take i++b::bs.drop i) w2:=by
  refine⟨⟨?_,fun x hx=>?_⟩,gw⟩
  ·have le:(bs.take i++b::bs.drop i).length=bs.length+1:=by simp;omega
   rw[le];refine⟨by rw[flatB_len,le],.inr ⟨g,cap,_,rfl,hbg,g2,by omega,by unfold maxLen;omega,?_,?_⟩⟩
   ·simp only[size_toArray];rw[length_splice _ _ _ (by rw[lY,m1];omega),m1]
   ·have e0:cur.toList.take (i*2)=flatB (bs.take i):=by rw[<-flatB_take,<-ht,take_take];congr 1;omega
    have e1:flatB (bs.take i++b::bs.drop i)=flatB (bs.take i)++(Y++X1):=by rw[<-hY,<-hX1,<-flatB_append,<-flatB_append];rfl
    rw[e1,<-e0];show List.take _ ((splice cur.toList ((i+1)*2) X1).take (i*2)++(Y++(splice cur.toList ((i+1)*2) X1).drop (i*2+Y.length)))=_
    have e2:(splice cur.toList ((i+1)*2) X1).take (i*2)=cur.toList.take (i*2):=by
     unfold splice;rw[take_append_of_le_length (by rw[length_take,hcs];omega),take_take];congr 1;omega
    have e3:(splice cur.toList ((i+1)*2) X1).drop (i*2+Y.length)=X1++cur.toList.drop ((i+1)*2+X1.length):=by
     unfold splice;rw[lY,show i*2+2=(i+1)*2 by omega,List.drop_append,drop_eq_nil_of_le (by rw[length_take];omega),length_take,hcs,show(i+1)*2-min ((i+1)*2) (cap*2)=0 by omega];simp
    rw[e2,e3,<-append_assoc,<-append_assoc,take_append_of_le_length (by simp[lY,l1,hs];omega),take_of_length_le (by simp[lY,l1,hs];omega),append_assoc]
  ·rcases List.mem_append.1 hx with hx|hx
   ·exact kw.own (by decide) (h.own x (List.mem_of_mem_take hx))
   ·rcases List.mem_cons.1 hx with rfl|hx
    ·exact kw.own (by decide) hb
    ·exact kw.own (by decide) (h.own x (List.mem_of_mem_drop hx))
 have F:Aside (TurnsB w base (.slice (some ⟨g,0,none⟩) bs.length cap) (.slice (some ⟨g,0,none⟩) (bs.length+1) cap) (bs.take i++b::bs.drop i) w2):=hfin;have hsa:w.shape? G=some (223,2):=by simp[World.shape?,hG]
 have hsb:w.shape? g=some (223,cap*2):=by simp[World.shape?,hg,hs]
 have hfa:w.frozen? ⟨G,0,none⟩=false:=by simp[World.frozen?,hG]
 have hfe:w.frozen? ⟨G,2,none⟩=false:=by simp[World.frozen?,hG]
 have hov:∀lb cb,(callFunc 228 #[.slice (some ⟨G,0,none⟩) 1 1,.slice (some ⟨g,(i+1)*2,none⟩) lb cb]).run prog w=.ok (.value (.bool false)) w:=fun lb cb=>by
  rw[run_callFunc_extern func228 (by kernel_rfl) (by kernel_rfl) (by kernel_rfl) (e:=Extern.SlicesOverlaps.overlaps #[186,186] #[4]) (by kernel_rfl),
   Lib.run_overlaps_apart w 186 4 223 underlying186 2 (fun w=>by simp[sizeOf,typeInfo,hinf,hsz]) ⟨G,0,none⟩ ⟨g,(i+1)*2,none⟩ 1 1 lb cb hne _ _ _ _ hsa hsb (by omega) hfa hfe]
  rfl
 obtain⟨n,hn⟩:∃n,bs.length=n:=⟨_,rfl⟩;rw[hn] at hcp1 hcp2 F hi hroom hnc⊢;have mx:=mixed;have z1:¬((i:Int)=(n:Int)):=by omega
 have z2:((i:Int)==(n:Int))=false:=by simp;omega
 have z3:(i:Int)<=(n:Int):=by omega
 have z4:¬cap=i:=by omega
 have z5:¬cap=i+1:=by omega
 have z6:¬(cap:Int)<(n:Int)+1:=by omega
 have z7:(n:Int)+1<=(cap:Int):=by omega
 have z8:(i:Int)<=(n:Int)+1:=by omega
 have z9:((n:Int)+1).toNat=n+1:=by omega
 have z10:((i:Int)+1).toNat=i+1:=by omega
 have z11:(0:Int)<=(i:Int)+1:=by omega
 have z12:(0:Int)<=(n:Int)+1:=by omega
 have z13:IntKind.i64.wrap ((i:Int)+1)=(i:Int)+1:=by rw[IntKind.wrap_i64];omega
 clear h hg hs ht hG hGa hcs hX1 hY l1 lY b1 k1 g1 hG1 m1 hw1 b2 k2 g2 hw2 bw kw gw hfin hinf hsa hsb hfa hfe hn hb;go_enter func192,ntmps192
 go_wp2_with (simp only[hov])
 go_region_law_o (refine step_copy_run2 w.drew rfl _ _ 186 186 rfl _ _ (by simp[Act.eval,Act.put];rfl) (by simp[Act.eval,Act.put];rfl) (hcp1 _ _ _) ?_)
 go_wp2_with (at_builtin;refine wpList_copy_run2 w1 rfl _ _ 186 186 rfl _ _ rfl rfl (hcp2 _ _) ?_)
 go_ret;exact⟨rfl,F.out⟩
theorem insB_F(a:Option Addr)(n cap i base G:Nat)(bs:List Bk)(b:Bk)(w:World)(h:RowB 223 w base (.slice a n cap) bs)(hn:bs.length=n)(hi:i<=n)(hroom:i=n\/n<cap)(hb:OwnE w base (.slice b.p b.d.length b.q) b.d)
  (hG:w.heap[G]?=some (.cells #[.int .i64 (lv b.d),.slice b.p b.d.length b.q] 223 (0,0))) (hGa:a≠some ⟨G,0,none⟩) (hN:n<=100000) (hbase:base<=w.heap.size) :
  Calls prog 192 #[.slice a n cap,.int .i64 i,.slice (some ⟨G,0,none⟩) 1 1] w fun r w'=>∃a' cap',r=.returned (.slice a' (n+1) cap')/\TurnsB w base (.slice a n cap) (.slice a' (n+1) cap') (bs.take i++b::bs.drop i) w'/\Moved w a a':=by
 by_cases c:i=n
 ·subst c;have:=insert_endF a i cap base G bs b w h hn hb (by rw[cell_of_row _ _ _ _ _ _ hG];rfl) (by rw[cell_of_row _ _ _ _ _ _ hG];rfl) hN hbase;rw[take_of_length_le (by omega),drop_eq_nil_of_le (by omega)];exact this
 ·exact(insert_mid a n cap i base G bs b w h hn (by omega) (by omega) hb hG hGa).mono fun r w' ⟨h1,h2⟩=>⟨a,cap,h1,h2,.inl rfl⟩
theorem insB_any(a:Option Addr)(n cap i base G:Nat)(bs:List Bk)(b:Bk)(w:World)(h:RowB 223 w base (.slice a n cap) bs)(hn:bs.length=n)(hi:i<=n)(hroom:i=n\/n<cap)(hb:OwnE w base (.slice b.p b.d.length b.q) b.d)
  (hG:w.heap[G]?=some (.cells #[.int .i64 (lv b.d),.slice b.p b.d.length b.q] 223 (0,0))) (hGa:a≠some ⟨G,0,none⟩) (hN:n<=100000) (hbase:base<=w.heap.size) :
  Calls prog 192 #[.slice a n cap,.int .i64 i,.slice (some ⟨G,0,none⟩) 1 1] w fun r w'=>∃a' cap',r=.returned (.slice a' (n+1) cap')/\TurnsB w base (.slice a n cap) (.slice a' (n+1) cap') (bs.take i++b::bs.drop i) w':=
 (insB_F a n cap i base G bs b w h hn hi hroom hb hG hGa hN hbase).mono fun r w' ⟨a',c',h1,h2,_⟩=>⟨a',c',h1,h2⟩
theorem run_append_grow_zeros{P:Program}(w:World)(t tn ty e:TypeId)(i:TypeInfo)(z:Value)(k kn:IntKind)(ht:P.underlying t=some (.slice e))(htn:P.underlying tn=some (.int kn))(hi:P.info? e=some i)(hz:i.zero=some z)
  (b:Addr) (sLen sCap:Nat) (olds:List Value) (hlo:olds.length=sLen*i.size) (holds:∀j v,olds[j]?=some v->w.cell? (b.add j)=some v)
  (n:Nat) (h0:0<n) (hs:0<i.size) (hg:sCap<sLen+n) (h63:((sLen+n:Nat):Int)<=9223372036854775807) (h48:n*i.bytes<=281474976710656) (hfit:Builtin.nextslicecap (sLen+n) sCap*i.bytes<=281474976710656) :
  (Builtin.append_ #[t,tn] ty #[.slice (some b) sLen sCap,.int k n]).run P w =
   .ok (.slice (some ⟨w.heap.size,0,none⟩) (sLen+n) (grownCap w (sLen+n) sCap e))
    (w.drew.alloc (.cells (olds.toArray++Builtin.zeroCells z.cells n++Builtin.zeroCells z.cells (grownCap w (sLen+n) sCap e-(sLen+n))) e)):=by
 have hn:n≠0:=by omega
 have hnn:¬(sLen+n<=sCap):=by omega
 have hw:IntKind.i64.wrap (n:Int)=n:=by rw[IntKind.wrap_i64];omega
 have h63':¬(9223372036854775807<((sLen:Int)+(n:Int))):=by omega
 have h48':¬(281474976710656<Builtin.nextslicecap (sLen+n) sCap*i.bytes):=by omega
 have h48i:¬(281474976710656<(n:Int)*(i.bytes:Int)):=by
  rw[<-Int.natCast_mul];omega
 have hneg:¬((n:Int)<0):=by omega
 have hns:¬(n*i.size=0):=Nat.mul_ne_zero hn (by omega);have hfo:=run_firstCells_some (P:=P) w.drew i.size sLen b sLen sCap olds hlo (by simpa using holds);simp[Builtin.append_,run_underlying ht,run_underlying htn,sizeOf,typeInfo,zeroValue,hi,hz,asInt,asIntOf,hw,hnn,hneg,hns,h63',h48',h48i,Question.forced,hfo,newRow,grownCap]
theorem insert_full(a:Option Addr)(n i base G:Nat)(bs:List Bk)(b:Bk)(w:World)(h:RowB 223 w base (.slice a n n) bs)(hn:bs.length=n)(hi:i<n)(hN:n<=100000)(hb:OwnE w base (.slice b.p b.d.length b.q) b.d)
  (hG:w.heap[G]?=some (.cells #[.int .i64 (lv b.d),.slice b.p b.d.length b.q] 223 (0,0))) (hbase:base<=w.heap.size) :
  Calls prog 192 #[.slice a n n,.int .i64 i,.slice (some ⟨G,0,none⟩) 1 1] w fun r w'=>∃a' cap',r=.returned (.slice a' (n+1) cap')/\TurnsB w base (.slice a n n) (.slice a' (n+1) cap') (bs.take i++b::bs.drop i) w':=by
 obtain⟨inf,hinf,hzr,hsz,hby⟩:=info62;have hrow:w.ownsRow base 223 2 (.slice a n n) n (flatB bs):=by have:=h.row;rw[hn] at this;exact this
 rcases hrow.2 with⟨h1,h0⟩|⟨g,cap',cur,h1,hbg,hg,hnc,hc,hs,ht⟩
 ·omega
 injection h1 with e1 e2 e3
 clear e2;subst e1 e3;have hgl:=lt_of_block hg;have hGl:=lt_of_block hG;obtain⟨S,hS⟩:∃S,w.heap.size=S:=⟨_,rfl⟩;obtain⟨X0,hX0⟩:∃X,flatB (bs.take i)=X:=⟨_,rfl⟩;obtain⟨X1,hX1⟩:∃X,flatB (bs.drop i)=X:=⟨_,rfl⟩;obtain⟨Y,hY⟩:∃Y,flatB [b]=Y:=⟨_,rfl⟩;have l0:X0.length=i*2:=by rw[<-hX0,flatB_len,length_take];omega
 have l1:X1.length=(n-i)*2:=by rw[<-hX1,flatB_len,length_drop,hn]
 have lY:Y.length=2:=by rw[<-hY];rfl
 obtain⟨C,hC⟩:∃C,grownCap w (i+(n+1-i)) n 223=C:=⟨_,rfl⟩;have hC1:n+1<=C:=by rw[<-hC];have:=grownCap_ge w (i+(n+1-i)) n 223;omega
 have hC2:C<=maxLen:=by rw[<-hC];exact grownCap_le_maxLen w _ n _ (by unfold maxLen;omega)
 have hz2:(Value.agg #[.int .i64 0,.slice none 0 0]).cells=#[.int .i64 0,.slice none 0 0]:=rfl;obtain⟨cur1,hcur1⟩:∃c,X0.toArray++Builtin.zeroCells #[.int .i64 0,.slice none 0 0] (n+1-i)++Builtin.zeroCells #[.int .i64 0,.slice none 0 0] (C-(i+(n+1-i)))=c:=⟨_,rfl⟩
 have s1:cur1.size=C*2:=by
  rw[<-hcur1];simp only[Array.size_append,size_toArray,size_zeroCells,l0];show i*2+(n+1-i)*2+(C-(i+(n+1-i)))*2=C*2;omega
 have t1:cur1.toList.take (i*2)=X0:=by
  rw[<-hcur1];simp only[Array.toList_append,append_assoc];rw[<-l0];exact List.take_left
 obtain⟨w1,hw1⟩:∃W,w.drew.alloc (.cells cur1 223)=W:=⟨_,rfl⟩
 have hap:∀ty,(Builtin.append_ #[186,3] ty #[.slice (some ⟨g,0,none⟩) i n,.int .i64 ((n:Int)+1-(i:Int))]).run prog w=.ok (.slice (some ⟨S,0,none⟩) (n+1) C) w1:=fun ty=>by
  have:=run_append_grow_zeros (P:=prog) w 186 3 ty 223 inf _ .i64 .i64 underlying186 underlying3 hinf hzr ⟨g,0,none⟩ i n X0 (by rw[l0,hsz]) (fun j v hj=>by
   have hjl:=(List.getElem?_eq_some_iff.1 hj).1;rw[Addr.add_lit,zero_add,World.ownsRow.cellAt hrow j (by omega),<-hj,<-hX0,<-flatB_take,List.getElem?_take,if_pos (by omega)]) (n+1-i) (by omega) (by omega) (by omega) (by omega) (by rw[hby];omega) (by rw[hby];exact growslice_fits (by omega) (by omega))
  rw[hz2,hC,hcur1,hS,show i+(n+1-i)=n+1 by omega,hw1] at this;rw[show(n:Int)+1-(i:Int)=((n+1-i:Nat):Int) by omega];exact this
 have b1:Below w.heap.size w w1:=by rw[<-hw1];exact((Below.refl _ _).drew).alloc (le_refl _) _
 have g1:w1.heap[S]?=some (.cells cur1 223 (0,0)):=by rw[<-hw1,<-hS];exact heap_alloc_new w.drew _
 have hG1:=(b1.block G hGl).trans hG;have hg1:=(b1.block g hgl).trans hg;have hcs:cur1.toList.length=C*2:=by simpa using s1
 have hcp1:∀ty dc,(Builtin.copy_ #[186,186] ty #[.slice (some ⟨S,i*2,none⟩) (n+1-i) dc,.slice (some ⟨G,0,none⟩) 1 1]).run prog w1=.ok (goInt 1) (w1.setRow S (splice cur1.toList (i*2) Y).toArray):=fun ty dc=>by
  have e:Nat.min 1 (n+1-i)=1:=by show min _ _=_;omega
  have:=run_copy2 w1 ty S (i*2) (n+1-i) dc ⟨G,0,none⟩ 1 1 _ Y g1 (by rw[e,lY]) (fun j v hj=>by
   have:j=0\/j=1:=by have:=(List.getElem?_eq_some_iff.1 hj).1;omega
   rw[Addr.add_lit,zero_add,cell_of_row _ _ _ _ _ _ hG1,<-hj,<-hY];rcases this with rfl|rfl<;>rfl) (by rw[s1,lY];omega) (by rw[<-hY];exact flatB_one _)
  rw[e] at this;exact this
 obtain⟨b2,k2,g2⟩:=setRow_ends (S:=fun T=>T=223) (w:=w1) (base:=S) (cur':=(splice cur1.toList (i*2) Y).toArray) g1 (le_refl _) rfl;obtain⟨w2,hw2⟩:∃w2,w1.setRow S (splice cur1.toList (i*2) Y).toArray=w2:=⟨_,rfl⟩;simp only[hw2] at hcp1;rw[hw2] at b2 k2 g2;have m1:(splice cur1.toList (i*2) Y).length=C*2:=by rw[length_splice _ _ _ (by rw[lY,hcs];omega),hcs]
 have hg2:w2.drew.heap[g]?=some (.cells cur 223 (0,0)):=(b2.block g (by omega)).trans hg1
 have hcp2:∀ty dc sc,(Builtin.copy_ #[186,186] ty #[.slice (some ⟨S,(i+1)*2,none⟩) (n+1-(i+1)) dc,.slice (some ⟨g,i*2,none⟩) (n-i) sc]).run prog w2.drew=.ok (goInt ((n-i:Nat):Int)) (w2.drew.setRow S (splice (splice cur1.toList (i*2) Y) ((i+1)*2) X1).toArray):=fun ty dc sc=>by
  have e:Nat.min (n-i) (n+1-(i+1))=n-i:=by show min _ _=_;omega
  have:=run_copy2 w2.drew ty S ((i+1)*2) (n+1-(i+1)) dc ⟨g,i*2,none⟩ (n-i) sc _ X1 g2 (by rw[e,l1]) (fun j v hj=>by
   have hjl:=(List.getElem?_eq_some_iff.1 hj).1;rw[Addr.add_lit,cell_of_row _ _ _ _ _ _ hg2,<-cell_of_row w g _ _ _ _ hg];rw[World.ownsRow.cellAt hrow (i*2+j) (by omega),<-hj,<-hX1,<-flatB_drop,List.getElem?_drop]) (by simp only[size_toArray];rw[m1,l1];omega) (by rw[<-hX1];exact flatB_one _)
  rw[e] at this;exact this
 obtain⟨b3,k3,g3⟩:=setRow_ends (S:=fun T=>T=223) (w:=w2.drew) (base:=S) (cur':=(splice (splice cur1.toList (i*2) Y) ((i+1)*2) X1).toArray) g2 (le_refl _) rfl;obtain⟨w3,hw3⟩:∃w3,w2.drew.setRow S (splice (splice cur1.toList (i*2) Y) ((i+1)*2) X1).toArray=w3:=⟨_,rfl⟩;simp only[hw3] at hcp2;rw[hw3] at b3 k3 g3;have bw:Below w.heap.size w w3:=(b1.trans (by rw[hS];exact b2)).trans (Below.trans ((Below.refl _ _).drew) (by rw[hS];exact b3))
 have hfin:TurnsB w base (.slice (some ⟨g,0,none⟩) n n) (.slice (some ⟨S,0,none⟩) (n+1) C) (bs.take i++b::bs.drop i) w3:=by
  refine⟨⟨?_,fun x hx=>?_⟩,⟨bw.os,bw.tape,bw.output,bw.size,fun k hk _=>bw.block k hk⟩⟩
  ·have le:(bs.take i++b::bs.drop i).length=n+1:=by simp;omega
   rw[le];refine⟨by rw[flatB_len,le],.inr ⟨S,C,_,rfl,by omega,g3,hC1,hC2,?_,?_⟩⟩
   ·simp only[size_toArray];rw[length_splice _ _ _ (by rw[l1,m1];omega),m1]
   ·have e1:flatB (bs.take i++b::bs.drop i)=X0++(Y++X1):=by rw[<-hX0,<-hY,<-hX1,<-flatB_append,<-flatB_append];rfl
    rw[e1,<-t1];show List.take _ ((splice cur1.toList (i*2) Y).take ((i+1)*2)++(X1++(splice cur1.toList (i*2) Y).drop ((i+1)*2+X1.length)))=_
    have e2:(splice cur1.toList (i*2) Y).take ((i+1)*2)=cur1.toList.take (i*2)++Y:=by
     unfold splice;rw[<-append_assoc,take_append_of_le_length (by rw[length_append,length_take,hcs,lY];omega),take_of_length_le (by rw[length_append,length_take,hcs,lY];omega)]
    rw[e2,<-append_assoc,take_append_of_le_length (by simp[lY,l1,s1];omega),take_of_length_le (by simp[lY,l1,s1];omega),append_assoc]
  ·rcases List.mem_append.1 hx with hx|hx
   ·exact(h.own x (List.mem_of_mem_take hx)).below bw
   ·rcases List.mem_cons.1 hx with rfl|hx
    ·exact hb.below bw
    ·exact(h.own x (List.mem_of_mem_drop hx)).below bw
 have F:Aside (TurnsB w base (.slice (some ⟨g,0,none⟩) n n) (.slice (some ⟨S,0,none⟩) (n+1) C) (bs.take i++b::bs.drop i) w3):=hfin;have mx:=mixed;have z1:¬((i:Int)=(n:Int)):=by omega
 have z2:((i:Int)==(n:Int))=false:=by simp;omega
 have z3:(i:Int)<=(n:Int):=by omega
 have z4:¬n=i:=by omega
 have z5:¬C=i:=by omega
 have z6:(n:Int)<(n:Int)+1:=by omega
 have z7:¬C=i+1:=by omega
 have z8:(i:Int)<=(n:Int)+1:=by omega
 have z9:(i:Int)+1<=(n:Int)+1:=by omega
 have z10:((i:Int)+1).toNat=i+1:=by omega
 have z11:(0:Int)<=(i:Int)+1:=by omega
 have z13:IntKind.i64.wrap ((i:Int)+1)=(i:Int)+1:=by rw[IntKind.wrap_i64];omega
 have z14:IntKind.i64.wrap ((n:Int)+1)=(n:Int)+1:=by rw[IntKind.wrap_i64];omega
 have z15:IntKind.i64.wrap ((n:Int)+1-(i:Int))=(n:Int)+1-(i:Int):=by rw[IntKind.wrap_i64];omega
 have hC3:(C:Int)<=9223372036854775807:=by unfold maxLen at hC2;omega
 clear h hrow hg hs ht hG hcs hX1 hX0 hY l1 l0 lY b1 g1 hG1 m1 hw1 b2 k2 g2 hw2 bw hfin hinf hn hb b3 k3 g3 hw3 hg1 hg2 s1 t1 hcur1 hC hC2 hzr;go_enter func192,ntmps192
 go_wp2_with (first
  | (at_builtin;refine Lib.wpList_append_run w rfl _ _ 186 3 rfl _ _ rfl rfl _ _ (hap _) ?_)
  | (at_builtin;refine wpList_copy_run2 w1 rfl _ _ 186 186 rfl _ _ rfl rfl (hcp1 _ _) ?_))
 go_region_law_o (refine step_copy_run2 w2.drew rfl _ _ 186 186 rfl _ _ (by simp[Act.eval,Act.put];rfl) (by simp[Act.eval,Act.put];rfl) (hcp2 _ _ _) ?_)
 go_wp2
 go_ret;exact⟨_,_,rfl,F.out⟩
theorem insS_any(a:Option Addr)(n cap i base G:Nat)(bs:List Bk)(b:Bk)(w:World)(h:RowB 223 w base (.slice a n cap) bs)(hn:bs.length=n)(hi:i<=n)(hb:OwnE w base (.slice b.p b.d.length b.q) b.d)
  (hG:w.heap[G]?=some (.cells #[.int .i64 (lv b.d),.slice b.p b.d.length b.q] 223 (0,0))) (hGa:a≠some ⟨G,0,none⟩) (hN:n<=100000) (hbase:base<=w.heap.size) :
  Calls prog 192 #[.slice a n cap,.int .i64 i,.slice (some ⟨G,0,none⟩) 1 1] w fun r w'=>∃a' cap',r=.returned (.slice a' (n+1) cap')/\TurnsB w base (.slice a n cap) (.slice a' (n+1) cap') (bs.take i++b::bs.drop i) w':=by
 by_cases c:i=n\/n<cap
 ·exact insB_any a n cap i base G bs b w h hn hi c hb hG hGa hN hbase
 ·obtain⟨a',cap',e,h1,h2⟩:=h.slice;injection e with _ _ e3
  obtain rfl:cap=n:=by omega
  exact insert_full a cap i base G bs b w h hn (by omega) hN hb hG hbase
end Go.Proofs.YtjpbngiddjkjiaaGreatDoor.Qu
