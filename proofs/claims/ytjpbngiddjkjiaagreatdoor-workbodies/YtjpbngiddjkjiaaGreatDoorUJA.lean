import Derived.Sort.LotA
open List(append_assoc append_nil flatten_append flatten_cons getElem?_eq_getElem getElem_mem length_append length_eraseIdx perm_append_comm)
open Nat(le_refl mul_assoc mul_comm)
open Option(getD_some)
namespace Go.Proofs.YtjpbngiddjkjiaaGreatDoor.Qu
set_option maxRecDepth 100000
set_option linter.unusedVariables false
open Go.Sort
section
abbrev Ent:=Int×Int
def ltE(x y:Ent):Bool:=if x.1=y.1 then decide (x.2<y.2) else decide (x.1<y.1)
theorem ltE_iff(x y:Ent):ltE x y=true↔(x.1<y.1\/x.1=y.1/\x.2<y.2):=by
 unfold ltE;split<;>simp<;>omega
theorem ltE_not(x y:Ent):ltE x y=false↔(y.1<x.1\/x.1=y.1/\y.2<=x.2):=by
 unfold ltE;split<;>simp<;>omega
theorem swoE:SWO ltE where
 irrefl x:=by rw[ltE_not];omega
 trans x y z h1 h2:=by rw[ltE_iff] at *;omega
 ntrans x y z h1 h2:=by rw[ltE_not] at *;omega
theorem totE(x y:Ent)(h1:ltE x y=false)(h2:ltE y x=false):x=y:=by
 rw[ltE_not] at *;exact Prod.ext (by omega) (by omega)
section
variable {α:Type}
def swR(g:Nat->α)(a b n t:Nat):α:=if a<=t/\t<a+n then g (t-a+b) else if b<=t/\t<b+n then g (t-b+a) else g t
def rotF(g:Nat->α)(a m b t:Nat):α:=if a<=t/\t<a+(b-m) then g (t+(m-a)) else if a+(b-m)<=t/\t<b then g (t-(b-m)) else g t
theorem swR_zero(g:Nat->α)(a b t:Nat):swR g a b 0 t=g t:=by
 unfold swR;rw[if_neg (by omega),if_neg (by omega)]
theorem swR_succ(g:Nat->α)(a b n t:Nat)(h:a+n<b):swR g a b (n+1) t=if t=b+n then g (a+n) else if t=a+n then g (b+n) else swR g a b n t:=by
 unfold swR;by_cases h1:t=b+n
 ·subst h1;rw[if_neg (by omega),if_pos (by omega),if_pos rfl];congr 1;omega
 ·rw[if_neg h1];by_cases h2:t=a+n
  ·subst h2;rw[if_pos (by omega),if_pos rfl];congr 1;omega
  ·rw[if_neg h2];by_cases h3:a<=t/\t<a+n
   ·rw[if_pos (by omega),if_pos h3]
   ·rw[if_neg (by omega),if_neg h3];by_cases h4:b<=t/\t<b+n
    ·rw[if_pos (by omega),if_pos h4]
    ·rw[if_neg (by omega),if_neg h4]
theorem rot_gt(g:Nat->α)(m i j t:Nat)(h:j<i)(hm:i<=m):rotF (swR g (m-i) m j) (m-(i-j)) m (m+j) t=rotF g (m-i) m (m+j) t:=by
 unfold rotF swR
 repeat' split
 all_goals first|omega|(congr 1<;>omega)
theorem rot_lt(g:Nat->α)(m i j t:Nat)(h:i<j)(hm:i<=m):rotF (swR g (m-i) (m+j-i) i) (m-i) m (m+(j-i)) t=rotF g (m-i) m (m+j) t:=by
 unfold rotF swR
 repeat' split
 all_goals first|omega|(congr 1<;>omega)
theorem rot_eq(g:Nat->α)(m i t:Nat)(hm:i<=m):swR g (m-i) m i t=rotF g (m-i) m (m+i) t:=by
 unfold rotF swR
 repeat' split
 all_goals first|omega|(congr 1<;>omega)
theorem rot_left(g:Nat->α)(m b t:Nat):rotF g m m b t=g t:=by
 unfold rotF
 repeat' split
 all_goals first|rfl|omega|(congr 1<;>omega)
theorem rot_right(g:Nat->α)(a m t:Nat):rotF g a m m t=g t:=by
 unfold rotF
 repeat' split
 all_goals first|rfl|omega|(congr 1<;>omega)
theorem rotF_congr{g h:Nat->α}(e:∀t,g t=h t)(a m b t:Nat):rotF g a m b t=rotF h a m b t:=by
 unfold rotF;simp only[e]
variable [Inhabited α] {lt:α->α->Bool}
theorem srt_le(h:SWO lt){a b:Nat}{d:Array α}(hs:SortedIn lt a b d){i j:Nat}(hi:a<=i)(hij:i<=j)(hj:j<b):lt d[j]! d[i]! = false:=by
 by_cases e:i=j
 ·subst e;exact h.irrefl _
 ·exact hs i j hi (by omega) hj
theorem ins_left(h:SWO lt){a i b:Nat}{d d':Array α}(hs:SortedIn lt (a+1) b d)(hi:a+1<=i)(hb:i<=b)
  (h1:i=a+1\/lt d[i-1]! d[a]! = true) (h2:i=b\/lt d[i]! d[a]! = false)
  (hd:∀t,d'[t]! = if a<=t/\t<i-1 then d[t+1]! else if t=i-1 then d[a]! else d[t]!):SortedIn lt a b d':=by
 intro p q hp hpq hq
 have low:∀t,a+1<=t->t<i->lt d[a]! d[t]! = false:=fun t t1 t2=>by
  rcases h1 with h1|h1
  ·omega
  ·exact h.ntrans _ _ _ (h.asymmA h1) (srt_le h hs t1 (show t<=i-1 by omega) (by omega))
 have up:∀t,i<=t->t<b->lt d[t]! d[a]! = false:=fun t t1 t2=>by
  rcases h2 with h2|h2
  ·omega
  ·exact h.ntrans _ _ _ (srt_le h hs hi t1 t2) h2
 rw[hd p,hd q];by_cases c1:q<i-1
 ·rw[if_pos (by omega),if_pos (by omega)];exact hs _ _ (by omega) (by omega) (by omega)
 ·rw[if_neg (show ¬(a<=q/\q<i-1) by omega)];by_cases c2:q=i-1
  ·rw[if_pos c2,if_pos (by omega)];exact low _ (by omega) (by omega)
  ·rw[if_neg c2];by_cases c3:p<i-1
   ·rw[if_pos (by omega)];exact hs _ _ (by omega) (by omega) (by omega)
   ·rw[if_neg (by omega)];by_cases c4:p=i-1
    ·rw[if_pos c4];exact up _ (by omega) (by omega)
    ·rw[if_neg c4];exact hs _ _ (by omega) (by omega) (by omega)
theorem ins_right(h:SWO lt){a i m:Nat}{d d':Array α}(hs:SortedIn lt a m d)(hi:a<=i)(hm:i<=m)
  (h1:i=a\/lt d[m]! d[i-1]! = false) (h2:i=m\/lt d[m]! d[i]! = true)
  (hd:∀t,d'[t]! = if i<t/\t<=m then d[t-1]! else if t=i then d[m]! else d[t]!):SortedIn lt a (m+1) d':=by
 intro p q hp hpq hq
 have low:∀t,a<=t->t<i->lt d[m]! d[t]! = false:=fun t t1 t2=>by
  rcases h1 with h1|h1
  ·omega
  ·exact h.ntrans _ _ _ h1 (srt_le h hs t1 (show t<=i-1 by omega) (by omega))
 have up:∀t,i<=t->t<m->lt d[t]! d[m]! = false:=fun t t1 t2=>by
  rcases h2 with h2|h2
  ·omega
  ·exact h.ntrans _ _ _ (srt_le h hs hi t1 t2) (h.asymmA h2)
 rw[hd p,hd q];by_cases c1:i<p
 ·rw[if_pos (by omega),if_pos (by omega)];exact hs _ _ (by omega) (by omega) (by omega)
 ·rw[if_neg (show ¬(i<p/\p<=m) by omega)];by_cases c2:p=i
  ·rw[if_pos c2,if_pos (by omega)];exact up _ (by omega) (by omega)
  ·rw[if_neg c2];by_cases c3:i<q
   ·rw[if_pos (by omega)];exact hs _ _ (by omega) (by omega) (by omega)
   ·rw[if_neg (by omega)];by_cases c4:q=i
    ·rw[if_pos c4];exact low _ (by omega) (by omega)
    ·rw[if_neg c4];exact hs _ _ (by omega) (by omega) (by omega)
structure Halves(lt:α->α->Bool)(a s mid e b:Nat)(d:Array α):Prop where
 r1:SortedIn lt a s d
 r2:SortedIn lt s mid d
 r3:SortedIn lt mid e d
 r4:SortedIn lt e b d
 cross:∀x y,a<=x->x<mid->mid<=y->y<b->lt d[y]! d[x]! = false
theorem halves(h:SWO lt){a m b mid s lo hi:Nat}{d d':Array α}(hL:SortedIn lt a m d)(hR:SortedIn lt m b d)
  (hlo:lo=a\/lo+b=mid+m) (hhi:hi=mid\/hi=m) (las:a<=s) (lsm:s<=m) (lsd:s<=mid) (lam:a<=mid) (lmb:mid<=b) (leb:mid+m-s<=b) (lm:m<=b)
  (h1:s=lo\/lt d[mid+m-s]! d[s-1]! = false) (h2:s=hi\/lt d[mid+m-s-1]! d[s]! = true)
  (hd:∀t,d'[t]! = rotF (fun t=>d[t]!) s m (mid+m-s) t):Halves lt a s mid (mid+m-s) b d':=by
 obtain⟨e,he⟩:∃e,mid+m-s=e:=⟨_,rfl⟩;rw[he] at h1 h2 hd leb;rw[he];have v1:∀t,t<s->d'[t]! = d[t]!:=fun t ht=>by rw[hd];unfold rotF;rw[if_neg (by omega),if_neg (by omega)]
 have v2:∀t,s<=t->t<mid->d'[t]! = d[t+(m-s)]!:=fun t t1 t2=>by rw[hd];unfold rotF;rw[if_pos (by omega)]
 have v3:∀t,mid<=t->t<e->d'[t]! = d[t-(e-m)]!:=fun t t1 t2=>by rw[hd];unfold rotF;rw[if_neg (by omega),if_pos (by omega)]
 have v4:∀t,e<=t->d'[t]! = d[t]!:=fun t ht=>by rw[hd];unfold rotF;rw[if_neg (by omega),if_neg (by omega)]
 have uv:∀u v,a<=u->u<s->e<=v->v<b->lt d[v]! d[u]! = false:=fun u v u1 u2 w1 w2=>by
  rcases h1 with h1|h1
  ·omega
  ·exact h.ntrans _ _ _ (h.ntrans _ _ _ (srt_le h hR (show m<=e by omega) w1 w2) h1) (srt_le h hL u1 (show u<=s-1 by omega) (by omega))
 have vu:∀v u,m<=v->v<e->s<=u->u<m->lt d[u]! d[v]! = false:=fun v u w1 w2 u1 u2=>by
  rcases h2 with h2|h2
  ·omega
  ·exact h.ntrans _ _ _ (h.ntrans _ _ _ (srt_le h hL las u1 u2) (h.asymmA h2)) (srt_le h hR w1 (show v<=e-1 by omega) (by omega))
 refine⟨fun p q hp hpq hq=>?_,fun p q hp hpq hq=>?_,fun p q hp hpq hq=>?_,fun p q hp hpq hq=>?_,fun x y x1 x2 y1 y2=>?_⟩
 ·rw[v1 p (by omega),v1 q (by omega)];exact hL _ _ hp hpq (by omega)
 ·rw[v2 p (by omega) (by omega),v2 q (by omega) (by omega)];exact hR _ _ (by omega) (by omega) (by omega)
 ·rw[v3 p (by omega) (by omega),v3 q (by omega) (by omega)];exact hL _ _ (by omega) (by omega) (by omega)
 ·rw[v4 p (by omega),v4 q (by omega)];exact hR _ _ (by omega) hpq (by omega)
 ·by_cases cx:x<s
  ·rw[v1 x cx];by_cases cy:y<e
   ·rw[v3 y y1 cy];exact srt_le h hL x1 (by omega) (by omega)
   ·rw[v4 y (by omega)];exact uv _ _ x1 cx (by omega) y2
  ·rw[v2 x (by omega) x2];by_cases cy:y<e
   ·rw[v3 y y1 cy];exact vu _ _ (by omega) (by omega) (by omega) (by omega)
   ·rw[v4 y (by omega)];exact srt_le h hR (by omega) (by omega) y2
theorem halves_end(h:SWO lt){a s mid e b:Nat}{d1 d2 d3:Array α}(H:Halves lt a s mid e b d1)(ham:a<=mid)(hmb:mid<=b)(hb:b<=d1.size)
  (p2:PermIn a mid d1 d2) (s2:SortedIn lt a mid d2) (p3:PermIn mid b d2 d3) (s3:SortedIn lt mid b d3):PermIn a b d1 d3/\SortedIn lt a b d3:=by
 have z2:d2.size=d1.size:=p2.1;refine⟨permIn_trans _ _ _ _ _ (permIn_mono _ _ _ _ _ _ (le_refl _) hmb hb p2) (permIn_mono _ _ _ _ _ _ ham (le_refl _) (by omega) p3),fun p q hp hpq hq=>?_⟩;by_cases c:q<mid
 ·rw[p3.2.1 p (by omega),p3.2.1 q (by omega)];exact s2 _ _ hp hpq c
 ·by_cases c':mid<=p
  ·exact s3 _ _ c' hpq hq
  ·rw[p3.2.1 p (by omega)];refine permIn_all d2 d3 mid b (fun y=>lt y d2[p]! = false) (by omega) p3 (fun y y1 y2=>?_) q (by omega) hq;rw[p2.2.1 y (by omega)];exact permIn_all d1 d2 a mid (fun x=>lt d1[y]! x=false) (by omega) p2 (fun x x1 x2=>H.cross x y x1 x2 y1 y2) p hp (by omega)
variable {a s mid e b bs n q0:Nat}{d:Array α}
theorem Halves.left(H:Halves lt a s mid e b d)(c:¬(a<s/\s<mid))(has:a<=s)(hsm:s<=mid):SortedIn lt a mid d:=by
 by_cases x:a=s
 ·subst x;exact H.r2
 ·obtain rfl:s=mid:=by omega
  exact H.r1
theorem Halves.right(H:Halves lt a s mid e b d){d2:Array α}(p2:PermIn a mid d d2):SortedIn lt mid e d2/\SortedIn lt e b d2\/e<mid:=by
 by_cases x:e<mid
 ·exact .inr x
 ·refine .inl ⟨fun p q hp hpq hq=>?_,fun p q hp hpq hq=>?_⟩
  ·rw[p2.2.1 p (by omega),p2.2.1 q (by omega)];exact H.r3 _ _ hp hpq hq
  ·rw[p2.2.1 p (by omega),p2.2.1 q (by omega)];exact H.r4 _ _ hp hpq hq
def Blk(lt:α->α->Bool)(bs n:Nat)(d:Array α):Prop:=∀q i j,q*bs<=i->i<j->j<q*bs+bs->j<n->lt d[j]! d[i]! = false
theorem Blk.at(h:Blk lt bs n d)(q:Nat)(lo hi:Nat)(h1:q*bs<=lo)(h2:hi<=q*bs+bs)(h3:hi<=n):SortedIn lt lo hi d:=
 fun i j hi hij hj=>h q i j (by omega) hij (by omega) (by omega)
theorem Blk.all(h:Blk lt bs n d)(hn:n<=bs):SortedIn lt 0 n d:=h.at 0 0 n (by omega) (by omega) (le_refl _)
def BlkTo(lt:α->α->Bool)(bs n q0:Nat)(d:Array α):Prop:=∀q i j,q<q0->q*bs<=i->i<j->j<q*bs+bs->j<n->lt d[j]! d[i]! = false
theorem BlkTo.zero(bs n:Nat)(d:Array α):BlkTo lt bs n 0 d:=fun q i j h=>by omega
theorem mul_lt_block{q q0 bs:Nat}(h:q<q0):q*bs+bs<=q0*bs:=by
 have:=Nat.mul_le_mul_right bs (show q+1<=q0 from h)
 rwa [Nat.add_mul,Nat.one_mul] at this
theorem BlkTo.next(h:BlkTo lt bs n q0 d){hi:Nat}{d':Array α}(p:PermIn (q0*bs) hi d d')(s:SortedIn lt (q0*bs) hi d')(hh:q0*bs+bs<=hi\/n<=hi):BlkTo lt bs n (q0+1) d':=by
 intro q i j hq h1 h2 h3 h4;by_cases e:q=q0
 ·subst e;exact s i j h1 h2 (by omega)
 ·have:=mul_lt_block (bs:=bs) (show q<q0 by omega);rw[p.2.1 i (by omega),p.2.1 j (by omega)];exact h q i j (by omega) h1 h2 h3 h4
theorem BlkTo.done(h:BlkTo lt bs n q0 d)(hn:n<=q0*bs):Blk lt bs n d:=by
 intro q i j h1 h2 h3 h4;by_cases c:q<q0
 ·exact h q i j c h1 h2 h3 h4
 ·have:=Nat.mul_le_mul_right bs (show q0<=q by omega);omega
theorem BlkTo.last(h:BlkTo lt (2*bs) n q0 d)(d0:Array α)(B:Blk lt bs n d0)(e:∀t,q0*(2*bs)<=t->d[t]! = d0[t]!)(hn:n<=q0*(2*bs)+bs):Blk lt (2*bs) n d:=by
 intro q i j h1 h2 h3 h4;by_cases c:q<q0
 ·exact h q i j c h1 h2 h3 h4
 ·have:=Nat.mul_le_mul_right (2*bs) (show q0<=q by omega);rw[e i (by omega),e j (by omega)];have e2:q0*(2*bs)=(2*q0)*bs:=by rw[mul_comm 2 q0,mul_assoc]
  exact B (2*q0) i j (by omega) h2 (by omega) h4
theorem Blk.run1{d0:Array α}(B:Blk lt bs n d0){A q:Nat}(hA:A=q*(2*bs))(e:∀t,A<=t->d[t]! = d0[t]!)(h:A+bs<=n):SortedIn lt A (A+bs) d:=by
 intro i j hi hij hj;have e2:q*(2*bs)=(2*q)*bs:=by rw[mul_comm 2 q,mul_assoc]
 rw[e i hi,e j (by omega)];exact B (2*q) i j (by omega) hij (by omega) (by omega)
theorem Blk.run2{d0:Array α}(B:Blk lt bs n d0){A q hi:Nat}(hA:A=q*(2*bs))(e:∀t,A<=t->d[t]! = d0[t]!)(h1:hi<=A+2*bs)(h2:hi<=n):SortedIn lt (A+bs) hi d:=by
 intro i j hi hij hj;have e2:q*(2*bs)=(2*q)*bs:=by rw[mul_comm 2 q,mul_assoc]
 have e3:(2*q+1)*bs=(2*q)*bs+bs:=by rw[Nat.add_mul,Nat.one_mul]
 rw[e i (by omega),e j (by omega)];exact B (2*q+1) i j (by omega) hij (by omega) (by omega)
end
end
def Srt(d:List Ent):Prop:=d.Pairwise (fun x y=>ltE y x=false)
theorem Srt.uniq{c d:List Ent}(hc:Srt c)(hd:Srt d)(hp:c.Perm d):c=d:=
 List.Perm.eq_of_pairwise (le:=fun x y=>ltE y x=false) (fun a b _ _ h1 h2=>totE a b h2 h1) hc hd hp
theorem Srt.nil:Srt []:=List.Pairwise.nil
theorem Srt.get{d:List Ent}(h:Srt d){i j:Nat}(hij:i<j)(hj:j<d.length):ltE d[j] d[i]=false:=List.pairwise_iff_getElem.1 h i j (by omega) hj hij
theorem Srt.le{d:List Ent}(h:Srt d){i j:Nat}(hij:i<=j)(hj:j<d.length):ltE d[j] d[i]=false:=by
 by_cases e:i=j
 ·subst e;exact swoE.irrefl _
 ·exact h.get (by omega) hj
def sortE(d:List Ent):List Ent:=d.mergeSort (fun x y=>!ltE y x)
theorem sortE_perm(d:List Ent):(sortE d).Perm d:=List.mergeSort_perm _ _
theorem sortE_len(d:List Ent):(sortE d).length=d.length:=(sortE_perm d).length_eq
theorem sortE_srt(d:List Ent):Srt (sortE d):=by
 have h:=List.pairwise_mergeSort (le:=fun x y=>!ltE y x) (fun a b c h1 h2=>by
   simp only[Bool.not_eq_true'] at h1 h2⊢;exact swoE.ntrans c b a h2 h1) (fun a b=>by
   cases h:ltE b a with
   | false=>simp
   | true=>simp[swoE.asymmA h]) d
 exact h.imp (fun h=>by simpa using h)
theorem sortE_of{c d:List Ent}(h:Srt c)(p:c.Perm d):c=sortE d:=h.uniq (sortE_srt d) (p.trans (sortE_perm d).symm)
theorem sortE_id{d:List Ent}(h:Srt d):sortE d=d:=(sortE_of h (List.Perm.refl _)).symm
def srtB:List Ent->Bool
 | x::y::r=>!ltE y x&&srtB (y::r)
 | _=>true
theorem srtB_iff:∀d,srtB d=true↔Srt d
 | []=>by simp[srtB,Srt]
 | [x]=>by simp[srtB,Srt]
 | x::y::r=>by
  have ih:=srtB_iff (y::r);simp only[srtB,Bool.and_eq_true,Bool.not_eq_true',ih];unfold Srt;rw[List.pairwise_cons (a:=x)];constructor
  ·rintro⟨h1,h2⟩;refine⟨fun z hz=>?_,h2⟩;rcases List.mem_cons.1 hz with rfl|hz
   ·exact h1
   ·exact swoE.ntrans _ _ _ ((List.pairwise_cons.1 h2).1 z hz) h1
  ·rintro⟨h1,h2⟩;exact⟨h1 y (by simp),h2⟩
theorem srtB_true{d:List Ent}(h:∀i (hi:i+1<d.length),ltE d[i+1] (d[i]'(by omega))=false):srtB d=true:=by
 induction d with
 | nil=>rfl
 | cons x d ih=>
  cases d with
  | nil=>rfl
  | cons y r=>
   simp only[srtB,Bool.and_eq_true,Bool.not_eq_true'];exact⟨h 0 (by simp),ih fun i hi=>h (i+1) (by simpa using hi)⟩
theorem srtB_false{d:List Ent}(i:Nat)(hi:i+1<d.length)(h:ltE d[i+1] (d[i]'(by omega))=true):srtB d=false:=by
 cases e:srtB d with
 | false=>rfl
 | true=>rw[((srtB_iff d).1 e).get (Nat.lt_succ_self i) hi] at h;cases h
def smal(d:List Ent)(e:Ent):Nat:=d.countP (fun x=>ltE x e)
theorem smal_le(d:List Ent)(e:Ent):smal d e<=d.length:=List.countP_le_length
theorem smal_perm{c d:List Ent}(h:c.Perm d)(e:Ent):smal c e=smal d e:=h.countP_eq _
theorem smal_none{d:List Ent}{e:Ent}(h:∀x∈d,ltE x e=false):smal d e=0:=by
 unfold smal;rw[List.countP_eq_zero];intro x hx;rw[h x hx];simp
theorem smal_split(d:List Ent)(e:Ent)(k:Nat):smal d e=smal (d.take k) e+smal (d.drop k) e:=by
 conv=>lhs;rw[<-List.take_append_drop k d]
 unfold smal;exact List.countP_append
def hasL:List Ent->Int->Bool
 | [],_=>false
 | x::r,id=>decide (x.2=id)||hasL r id
theorem hasL_false{d:List Ent}{id:Int}:hasL d id=false↔∀x∈d,x.2≠id:=by
 induction d with
 | nil=>simp[hasL]
 | cons x r ih=>simp[hasL,ih]
theorem hasL_none{d:List Ent}{id:Int}(h:∀i (hi:i<d.length),d[i].2≠id):hasL d id=false:=
 hasL_false.2 fun x hx=>by obtain⟨j,hj,rfl⟩:=List.getElem_of_mem hx;exact h j hj
theorem hasL_at{d:List Ent}{id:Int}(i:Nat)(hi:i<d.length)(h:d[i].2=id):hasL d id=true:=by
 cases c:hasL d id with
 | true=>rfl
 | false=>exact absurd h (hasL_false.1 c _ (getElem_mem hi))
theorem hasL_perm{c d:List Ent}(h:c.Perm d)(id:Int):hasL c id=hasL d id:=by
 cases e:hasL d id with
 | false=>exact hasL_false.2 fun x hx=>hasL_false.1 e x (h.mem_iff.1 hx)
 | true=>
  cases e2:hasL c id with
  | true=>rfl
  | false=>
   have:hasL d id=false:=hasL_false.2 fun x hx=>hasL_false.1 e2 x (h.mem_iff.2 hx);rw[e] at this;cases this
def least1(st:Option (Nat×Ent))(k:Nat)(d:List Ent):Option (Nat×Ent):=
 match st,d with
 | none,x::_=>some (k,x)
 | some (j,y),x::_=>if ltE x y then some (k,x) else some (j,y)
 | st,[]=>st
def leastL(ls:List (List Ent)):Nat->Option (Nat×Ent)
 | 0=>none
 | k+1=>least1 (leastL ls k) k (ls.getD k [])
def lvl(n:Nat):Nat:=if n<=1 then 0 else(n-1).log2+1
theorem lvl_room(n:Nat):n<=2^lvl n:=by
 unfold lvl
 split
 ·simpa using ‹n<=1›
 ·have:=@Nat.lt_log2_self (n-1);omega
theorem lvl_least{n k:Nat}(h:k<lvl n):2^k<n:=by
 unfold lvl at h
 split at h
 ·omega
 ·have h1:=Nat.log2_self_le (n:=n-1) (by omega);have h2:2^k<=2^(n-1).log2:=Nat.pow_le_pow_right (by omega) (by omega);omega
theorem lvl_not{n k:Nat}(h:¬k<lvl n):¬2^k<n:=by
 have h1:=lvl_room n;have h2:2^lvl n<=2^k:=Nat.pow_le_pow_right (by omega) (by omega);omega
theorem lvl_uniq{n k:Nat}(h1:n<=2^k)(h2:k=0\/2^(k-1)<n):lvl n=k:=by
 have h3:=lvl_room n;by_cases c:k<lvl n
 ·have:=lvl_least c;omega
 ·by_cases c2:lvl n<k
  ·rcases h2 with h2|h2
   ·omega
   ·have:2^lvl n<=2^(k-1):=Nat.pow_le_pow_right (by omega) (by omega);omega
  ·omega
theorem lvl_le{n:Nat}(h:n<=1000000):lvl n<=20:=by
 by_cases c:20<lvl n
 ·have:=lvl_least c;have e:(2:Nat)^20=1048576:=by decide
  omega
 ·omega
theorem lvl_zero{n:Nat}(h:n<=1):lvl n=0:=by unfold lvl;rw[if_pos h]
theorem Srt.filter{d:List Ent}(h:Srt d)(p:Ent->Bool):Srt (d.filter p):=List.Pairwise.sublist List.filter_sublist h
theorem sortE_congr{c d:List Ent}(h:c.Perm d):sortE c=sortE d:=sortE_of (sortE_srt c) ((sortE_perm c).trans h)
theorem snocInd{α:Type}{p:List α->Prop}(nil:p [])(snoc:∀l x,p l->p (l++[x]))(l:List α):p l:=by
 have h:∀r:List α,p r.reverse:=by
  intro r
  induction r with
  | nil=>exact nil
  | cons x r ih=>rw[List.reverse_cons];exact snoc _ x ih
 have:=h l.reverse
 rwa [List.reverse_reverse] at this
def lv(d:List Ent):Nat:=lvl d.length
theorem lvl_mono{a b:Nat}(h:a<=b):lvl a<=lvl b:=by
 by_cases c:lvl b<lvl a
 ·have h1:=lvl_least c;have h2:=lvl_room b;omega
 ·omega
def layR:List (List Ent)->List Ent->List (List Ent)
 | [],b=>[b]
 | x::r,b=>if lv b<lv x then b::x::r else if lv x=lv b then layR r (sortE (x++b)) else x::layR r b
def layL(ls:List (List Ent))(b:List Ent):List (List Ent):=(layR ls.reverse b).reverse
theorem layL_nil(b:List Ent):layL [] b=[b]:=rfl
theorem layL_snoc(ls:List (List Ent))(x b:List Ent):layL (ls++[x]) b=if lv b<lv x then ls++[x,b] else if lv x=lv b then layL ls (sortE (x++b)) else layL ls b++[x]:=by
 unfold layL;rw[List.reverse_append,List.reverse_singleton,List.singleton_append];rw[layR]
 split
 ·simp
 ·split
  ·rfl
  ·simp
theorem layL_gt{ls:List (List Ent)}{x b:List Ent}(h:lv b<lv x):layL (ls++[x]) b=ls++[x]++[b]:=by rw[layL_snoc,if_pos h];simp
theorem layL_eq{ls:List (List Ent)}{x b:List Ent}(h:lv x=lv b):layL (ls++[x]) b=layL ls (sortE (x++b)):=by rw[layL_snoc,if_neg (by omega),if_pos h]
theorem layL_lt{ls:List (List Ent)}{x b:List Ent}(h:lv x<lv b):layL (ls++[x]) b=layL ls b++[x]:=by rw[layL_snoc,if_neg (by omega),if_neg (by omega)]
structure Fall(ls:List (List Ent)):Prop where
 fall:ls.Pairwise (fun x y=>lv y<lv x)
 pos:∀d∈ls,0<d.length
 srt:∀d∈ls,Srt d
theorem Fall.nil:Fall []:=⟨List.Pairwise.nil,fun d h=>by simp at h,fun d h=>by simp at h⟩
theorem Fall.sub{ls ks:List (List Ent)}(h:Fall ls)(hs:ks.Sublist ls):Fall ks:=⟨h.fall.sublist hs,fun d hd=>h.pos d (hs.subset hd),fun d hd=>h.srt d (hs.subset hd)⟩
theorem layL_mem{ls:List (List Ent)}{b:List Ent}:∀d∈layL ls b,d∈ls\/lv b<=lv d:=by
 induction ls using snocInd generalizing b with
 | nil=>intro d hd;simp[layL_nil] at hd;subst hd;exact .inr (le_refl _)
 | snoc l x ih=>
  intro d hd;rw[layL_snoc] at hd
  split at hd
  ·simp at hd;rcases hd with h|h|h
   ·exact .inl (by simp[h])
   ·exact .inl (by simp[h])
   ·subst h;exact .inr (le_refl _)
  ·split at hd
   ·rcases ih d hd with h|h
    ·exact .inl (by simp[h])
    ·refine .inr (Nat.le_trans ?_ h);unfold lv;rw[sortE_len,length_append];exact lvl_mono (by omega)
   ·rcases List.mem_append.1 hd with h|h
    ·rcases ih d h with h|h
     ·exact .inl (by simp[h])
     ·exact .inr h
    ·exact .inl (by simp at h;simp[h])
theorem layL_fall{ls:List (List Ent)}{b:List Ent}(h:Fall ls)(hb:0<b.length)(hs:Srt b):Fall (layL ls b):=by
 induction ls using snocInd generalizing b with
 | nil=>exact⟨by simp[layL_nil],fun d hd=>by simp[layL_nil] at hd;subst hd;exact hb,fun d hd=>by simp[layL_nil] at hd;subst hd;exact hs⟩
 | snoc l x ih=>
  have hl:Fall l:=h.sub (List.sublist_append_left _ _);have hx:0<x.length:=h.pos x (by simp);have hf:=List.pairwise_append.1 h.fall;rw[layL_snoc]
  split
  ·next c=>
   refine⟨?_,fun d hd=>?_,fun d hd=>?_⟩
   ·rw[show l++[x,b]=(l++[x])++[b] by simp];refine List.pairwise_append.2 ⟨h.fall,by simp,fun y hy z hz=>?_⟩;simp at hz;subst hz;rcases List.mem_append.1 hy with hy|hy
    ·have:=hf.2.2 y hy x (by simp);omega
    ·simp at hy;subst hy;exact c
   ·simp at hd;rcases hd with hd|hd|hd
    ·exact h.pos d (by simp[hd])
    ·subst hd;exact hx
    ·subst hd;exact hb
   ·simp at hd;rcases hd with hd|hd|hd
    ·exact h.srt d (by simp[hd])
    ·subst hd;exact h.srt d (by simp)
    ·subst hd;exact hs
  ·split
   ·exact ih hl (by rw[sortE_len,length_append];omega) (sortE_srt _)
   ·next c1 c2=>
    have g:=ih hl hb hs;refine⟨List.pairwise_append.2 ⟨g.fall,by simp,fun y hy z hz=>?_⟩,fun d hd=>?_,fun d hd=>?_⟩
    ·simp at hz;subst hz;rcases layL_mem y hy with hy|hy
     ·exact hf.2.2 y hy z (by simp)
     ·omega
    ·rcases List.mem_append.1 hd with hd|hd
     ·exact g.pos d hd
     ·simp at hd;subst hd;exact hx
    ·rcases List.mem_append.1 hd with hd|hd
     ·exact g.srt d hd
     ·simp at hd;subst hd;exact h.srt d (by simp)
theorem layL_perm(ls:List (List Ent))(b:List Ent):(layL ls b).flatten.Perm (ls.flatten++b):=by
 induction ls using snocInd generalizing b with
 | nil=>simp[layL_nil]
 | snoc l x ih=>
  rw[layL_snoc]
  split
  ·simp
  ·split
   ·refine(ih _).trans ?_;simp only[flatten_append,flatten_cons,List.flatten_nil,append_nil,append_assoc];exact List.Perm.append_left _ (sortE_perm _)
   ·simp only[flatten_append,flatten_cons,List.flatten_nil,append_nil,append_assoc];refine((ih b).append_right x).trans ?_;rw[append_assoc];exact List.Perm.append_left _ perm_append_comm
theorem flat_count:∀{ls:List (List Ent)},(∀d∈ls,0<d.length)->ls.length<=ls.flatten.length
 | [],_=>by simp
 | d::ls,h=>by
  have h1:=h d (by simp);have h2:=flat_count (ls:=ls) (fun x hx=>h x (by simp[hx]));simp only[flatten_cons,length_append,List.length_cons];omega
theorem Fall.count{ls:List (List Ent)}(h:Fall ls):ls.length<=ls.flatten.length:=flat_count h.pos
def putL(ls:List (List Ent))(e:Ent):List (List Ent):=layL ls [e]
theorem putL_fall{ls:List (List Ent)}(h:Fall ls)(e:Ent):Fall (putL ls e):=layL_fall h (by simp) (by simp[Srt])
theorem putL_perm(ls:List (List Ent))(e:Ent):(putL ls e).flatten.Perm (ls.flatten++[e]):=layL_perm ls [e]
def outL(id:Int)(d:List Ent):List Ent:=d.filter (fun x=>!decide (x.2=id))
theorem outL_len(id:Int)(d:List Ent):(outL id d).length<=d.length:=List.length_filter_le _ _
def dropB(ls:List (List Ent))(id:Int)(k:Nat):List (List Ent):=
 if (outL id (ls[k]?.getD [])).length=0 then ls.eraseIdx k else layL (ls.eraseIdx k) (outL id (ls[k]?.getD []))
def firstB:List (List Ent)->Int->Nat
 | [],_=>0
 | d::r,id=>if hasL d id then 0 else firstB r id+1
theorem firstB_none{ls:List (List Ent)}{id:Int}(h:∀d∈ls,hasL d id=false):firstB ls id=ls.length:=by
 induction ls with
 | nil=>rfl
 | cons d r ih=>unfold firstB;rw[if_neg (by rw[h d (by simp)];simp),ih fun x hx=>h x (by simp[hx])];rfl
theorem firstB_at:∀{ls:List (List Ent)} {id:Int} {k:Nat} (hk:k<ls.length),hasL ls[k] id=true->(∀i (hi:i<k),hasL (ls[i]'(by omega)) id=false)->firstB ls id=k
 | d::r,id,0,hk,h1,h2=>by simp at h1;unfold firstB;rw[if_pos h1]
 | d::r,id,k+1,hk,h1,h2=>by
  have h0:=h2 0 (by omega);simp at h0;have:=firstB_at (ls:=r) (id:=id) (k:=k) (by simpa using hk) (by simpa using h1) (fun i hi=>by simpa using h2 (i+1) (by omega));unfold firstB;rw[if_neg (by rw[h0];simp),this]
theorem dropB_fall{ls:List (List Ent)}(h:Fall ls)(id:Int)(k:Nat):Fall (dropB ls id k):=by
 unfold dropB;have he:=h.sub (List.eraseIdx_sublist ls k)
 split
 ·exact he
 ·next c=>
  refine layL_fall he (by omega) ?_;unfold outL;by_cases hk:k<ls.length
  ·rw[getElem?_eq_getElem hk,getD_some];exact(h.srt _ (getElem_mem hk)).filter _
  ·rw[List.getElem?_eq_none (by omega),Option.getD_none];exact Srt.nil
theorem flat_split{ls:List (List Ent)}{k:Nat}(hk:k<ls.length):ls.flatten.Perm ((ls.eraseIdx k).flatten++ls[k]):=by
 conv=>lhs;rw[<-List.take_append_drop k ls,List.drop_eq_getElem_cons hk]
 rw[List.eraseIdx_eq_take_drop_succ];simp only[flatten_append,flatten_cons,append_assoc];exact List.Perm.append_left _ perm_append_comm
theorem dropB_perm{ls:List (List Ent)}(id:Int){k:Nat}(hk:k<ls.length):(dropB ls id k).flatten.Perm ((ls.eraseIdx k).flatten++outL id ls[k]):=by
 unfold dropB;rw[getElem?_eq_getElem hk,getD_some]
 split
 ·next c=>rw[List.length_eq_zero_iff.1 c,append_nil]
 ·exact layL_perm _ _
theorem dropB_len{ls:List (List Ent)}(id:Int){k:Nat}(hk:k<ls.length):(dropB ls id k).flatten.length<=ls.flatten.length:=by
 rw[(dropB_perm id hk).length_eq,(flat_split hk).length_eq,length_append,length_append];have:=outL_len id ls[k];omega
theorem dropB_out{ls:List (List Ent)}{id:Int}{k:Nat}(hk:k<ls.length)(hd:(ls.flatten.map Prod.snd).Nodup)(hh:hasL ls[k] id=true):(dropB ls id k).flatten.Perm (outL id ls.flatten):=by
 refine(dropB_perm id hk).trans ?_;have p:=flat_split hk;have hd2:(((ls.eraseIdx k).flatten++ls[k]).map Prod.snd).Nodup:=(p.map Prod.snd).nodup_iff.1 hd;refine List.Perm.trans ?_ (p.filter _).symm;unfold outL;rw[List.filter_append];refine List.Perm.append_right _ ?_;rw[List.filter_eq_self.2];intro x hx;simp only[Bool.not_eq_true',decide_eq_false_iff_not];intro e;rw[List.map_append] at hd2;have:=(List.nodup_append.1 hd2).2.2 x.2 (List.mem_map.2 ⟨x,hx,rfl⟩)
 have c:∃y∈ls[k],y.2=id:=by
  by_cases c:∃y∈ls[k],y.2=id
  ·exact c
  ·have:hasL ls[k] id=false:=hasL_false.2 fun y hy e=>c ⟨y,hy,e⟩;rw[hh] at this;cases this
 obtain⟨y,hy,ey⟩:=c;exact this y.2 (List.mem_map.2 ⟨y,hy,rfl⟩) (by rw[e,ey])
theorem firstB_has{ls:List (List Ent)}{id:Int}:(firstB ls id<ls.length)↔hasL ls.flatten id=true:=by
 induction ls with
 | nil=>simp[firstB,hasL]
 | cons d r ih=>
  have ha:hasL (d::r).flatten id=(hasL d id||hasL r.flatten id):=by
   rw[flatten_cons]
   induction d with
   | nil=>simp[hasL]
   | cons x d ih=>simp[hasL,ih,Bool.or_assoc]
  rw[ha];unfold firstB
  cases c:hasL d id with
  | true=>simp
  | false=>simpa using ih
theorem firstB_hasL:∀{ls:List (List Ent)} {id:Int} (hk:firstB ls id<ls.length),hasL ls[firstB ls id] id=true
 | [],_,hk=>by simp at hk
 | d::r,id,hk=>by
  cases c:hasL d id with
  | true=>simp[firstB,c]
  | false=>
   have e:firstB (d::r) id=firstB r id+1:=by rw[firstB,if_neg (by rw[c];simp)]
   have:=firstB_hasL (ls:=r) (id:=id) (by rw[e] at hk;simpa using hk);simp[e,this]
def ofLv(m:Nat)(x:List Ent):Bool:=decide (lv x=m)
def belowLv(m:Nat)(x:List Ent):Bool:=decide (lv x<m)
def putIn(ls:List (List Ent))(b:List Ent):List (List Ent):=ls.take (ls.findIdx (belowLv (lv b)))++b::ls.drop (ls.findIdx (belowLv (lv b)))
def laidF:Nat->List (List Ent)->List Ent->List (List Ent)
 | 0,ls,b=>putIn ls b
 | n+1,ls,b=>if ls.findIdx (ofLv (lv b))<ls.length then laidF n (ls.eraseIdx (ls.findIdx (ofLv (lv b)))) (sortE (ls[ls.findIdx (ofLv (lv b))]?.getD []++b)) else putIn ls b
def laidS(ls:List (List Ent))(b:List Ent):List (List Ent):=laidF ls.length ls b
theorem laidS_step{ls:List (List Ent)}{b:List Ent}{k:Nat}(hk:k<ls.length)(e:ls.findIdx (ofLv (lv b))=k):laidS ls b=laidS (ls.eraseIdx k) (sortE (ls[k]++b)):=by
 unfold laidS;obtain⟨n,hn⟩:∃n,ls.length=n+1:=⟨ls.length-1,by omega⟩;have h2:(ls.eraseIdx k).length=n:=by rw[length_eraseIdx,if_pos hk];omega
 rw[h2,hn,laidF,e,if_pos (by omega),getElem?_eq_getElem hk,getD_some]
theorem laidS_end{ls:List (List Ent)}{b:List Ent}(e:ls.findIdx (ofLv (lv b))=ls.length):laidS ls b=putIn ls b:=by
 unfold laidS
 cases hn:ls.length with
 | zero=>rfl
 | succ n=>rw[laidF,e,if_neg (by omega)]
theorem putIn_perm(ls:List (List Ent))(b:List Ent):(putIn ls b).Perm (b::ls):=by
 unfold putIn;generalize ls.findIdx _=k;refine List.perm_middle.trans ?_;rw[List.take_append_drop]
theorem putIn_mem{ls:List (List Ent)}{b d:List Ent}:d∈putIn ls b↔d=b\/d∈ls:=by
 rw[(putIn_perm ls b).mem_iff];simp
theorem laid_ind{P:List (List Ent)->List Ent->Prop}(step:∀ls b k (hk:k<ls.length),ls.findIdx (ofLv (lv b))=k->P (ls.eraseIdx k) (sortE (ls[k]++b))->P ls b)(done:∀ls b,ls.findIdx (ofLv (lv b))=ls.length->P ls b):∀ls b,P ls b:=by
 have h:∀n ls b,ls.length=n->P ls b:=by
  intro n
  induction n with
  | zero=>intro ls b hn;exact done ls b (by have:=List.findIdx_le_length (xs:=ls) (p:=ofLv (lv b));omega)
  | succ n ih=>
   intro ls b hn;by_cases c:ls.findIdx (ofLv (lv b))<ls.length
   ·exact step ls b _ c rfl (ih _ _ (by rw[length_eraseIdx,if_pos c];omega))
   ·exact done ls b (by have:=List.findIdx_le_length (xs:=ls) (p:=ofLv (lv b));omega)
 exact fun ls b=>h _ ls b rfl
theorem laidS_perm:∀(ls:List (List Ent))(b:List Ent),(laidS ls b).flatten.Perm (ls.flatten++b):=by
 refine laid_ind (fun ls b k hk e ih=>?_) (fun ls b e=>?_)
 ·rw[laidS_step hk e];refine ih.trans ?_;refine(List.Perm.append_left _ (sortE_perm _)).trans ?_;rw[<-append_assoc];exact(flat_split hk).symm.append_right b
 ·rw[laidS_end e];refine(putIn_perm ls b).flatten.trans ?_;rw[flatten_cons];exact perm_append_comm
theorem laidS_len(ls:List (List Ent))(b:List Ent):(laidS ls b).flatten.length=ls.flatten.length+b.length:=by rw[(laidS_perm ls b).length_eq,length_append]
theorem laidS_count:∀(ls:List (List Ent))(b:List Ent),(laidS ls b).length<=ls.length+1:=by
 refine laid_ind (fun ls b k hk e ih=>?_) (fun ls b e=>?_)
 ·rw[laidS_step hk e];rw[length_eraseIdx,if_pos hk] at ih;omega
 ·rw[laidS_end e,(putIn_perm ls b).length_eq];simp
theorem laidS_srt:∀(ls:List (List Ent))(b:List Ent),(∀d∈ls,Srt d)->Srt b->∀d∈laidS ls b,Srt d:=by
 refine laid_ind (fun ls b k hk e ih h1 h2=>?_) (fun ls b e h1 h2=>?_)
 ·rw[laidS_step hk e];exact ih (fun d hd=>h1 d (List.mem_of_mem_eraseIdx hd)) (sortE_srt _)
 ·rw[laidS_end e];intro d hd;rcases putIn_mem.1 hd with rfl|h
  ·exact h2
  ·exact h1 d h
def addS(ls:List (List Ent))(l:List Ent):List (List Ent):=if l.length=0 then ls else laidS ls (sortE l)
theorem addS_perm(ls:List (List Ent))(l:List Ent):(addS ls l).flatten.Perm (ls.flatten++l):=by
 unfold addS
 split
 ·next c=>rw[List.length_eq_zero_iff.1 c,append_nil]
 ·exact(laidS_perm _ _).trans (List.Perm.append_left _ (sortE_perm _))
theorem addS_len(ls:List (List Ent))(l:List Ent):(addS ls l).flatten.length=ls.flatten.length+l.length:=by rw[(addS_perm ls l).length_eq,length_append]
theorem addS_srt{ls:List (List Ent)}(l:List Ent)(h:∀d∈ls,Srt d):∀d∈addS ls l,Srt d:=by
 unfold addS
 split
 ·exact h
 ·exact laidS_srt _ _ h (sortE_srt _)
theorem addS_count(ls:List (List Ent))(l:List Ent):(addS ls l).length<=ls.length+1:=by
 unfold addS
 split
 ·omega
 ·exact laidS_count _ _
theorem firstB_findIdx(id:Int):∀(ls:List (List Ent)),firstB ls id=ls.findIdx (fun d=>hasL d id)
 | []=>rfl
 | d::r=>by
  rw[firstB,List.findIdx_cons,firstB_findIdx id r]
  cases hasL d id<;>rfl
def cutB(ls:List (List Ent))(id:Int)(k:Nat):List (List Ent):=
 if (outL id (ls[k]?.getD [])).length=0 then ls.eraseIdx k else ls.set k (outL id (ls[k]?.getD []))
def dropS(ls:List (List Ent))(id:Int):List (List Ent):=if firstB ls id<ls.length then cutB ls id (firstB ls id) else ls
theorem set_split{ls:List (List Ent)}{k:Nat}(hk:k<ls.length)(d:List Ent):(ls.set k d).flatten.Perm ((ls.eraseIdx k).flatten++d):=by
 rw[List.set_eq_take_append_cons_drop,if_pos hk,List.eraseIdx_eq_take_drop_succ];simp only[flatten_append,flatten_cons,append_assoc];exact List.Perm.append_left _ perm_append_comm
theorem cutB_perm{ls:List (List Ent)}(id:Int){k:Nat}(hk:k<ls.length):(cutB ls id k).flatten.Perm ((ls.eraseIdx k).flatten++outL id ls[k]):=by
 unfold cutB;rw[getElem?_eq_getElem hk,getD_some]
 split
 ·next c=>rw[List.length_eq_zero_iff.1 c,append_nil]
 ·exact set_split hk _
theorem cutB_len{ls:List (List Ent)}(id:Int){k:Nat}(hk:k<ls.length):(cutB ls id k).flatten.length<=ls.flatten.length:=by
 rw[(cutB_perm id hk).length_eq,(flat_split hk).length_eq,length_append,length_append];have:=outL_len id ls[k];omega
theorem dropS_len(ls:List (List Ent))(id:Int):(dropS ls id).flatten.length<=ls.flatten.length:=by
 unfold dropS
 split
 ·exact cutB_len id ‹_›
 ·exact le_refl _
theorem dropS_count(ls:List (List Ent))(id:Int):(dropS ls id).length<=ls.length:=by
 unfold dropS cutB
 split
 ·split
  ·rw[length_eraseIdx];split<;>omega
  ·rw[List.length_set];exact le_refl _
 ·exact le_refl _
theorem dropS_srt{ls:List (List Ent)}(id:Int)(h:∀d∈ls,Srt d):∀d∈dropS ls id,Srt d:=by
 unfold dropS
 split
 ·next hk=>
  unfold cutB;rw[getElem?_eq_getElem hk,getD_some]
  split
  ·exact fun d hd=>h d (List.mem_of_mem_eraseIdx hd)
  ·intro d hd;rcases List.mem_or_eq_of_mem_set hd with hd|rfl
   ·exact h d hd
   ·exact(h _ (getElem_mem hk)).filter _
 ·exact h
theorem cutB_out{ls:List (List Ent)}{id:Int}{k:Nat}(hk:k<ls.length)(hd:(ls.flatten.map Prod.snd).Nodup)(hh:hasL ls[k] id=true):(cutB ls id k).flatten.Perm (outL id ls.flatten):=
 (cutB_perm id hk).trans ((dropB_perm id hk).symm.trans (dropB_out hk hd hh))
theorem dropS_perm{ls:List (List Ent)}{id:Int}(hd:(ls.flatten.map Prod.snd).Nodup):(dropS ls id).flatten.Perm (outL id ls.flatten):=by
 unfold dropS
 split
 ·next c=>exact cutB_out c hd (firstB_hasL c)
 ·next c=>
  have:hasL ls.flatten id=false:=by
   cases e:hasL ls.flatten id with
   | false=>rfl
   | true=>exact absurd (firstB_has.2 e) c
  unfold outL;rw[List.filter_eq_self.2];intro x hx;have:=hasL_false.1 this x hx;simp[this]
end Go.Proofs.YtjpbngiddjkjiaaGreatDoor.Qu
