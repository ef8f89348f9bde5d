import Derived.Test.YthpgfmmpjoodkaaGreatDoorWTmF
import Derived.Shelf.Strconv.Itoa0
import Derived.Deep.LoopGhost
open List(getElem?_eq_getElem length_set set_cons_succ take_take)
open Nat(le_refl)
namespace Go.Proofs.YthpgfmmpjoodkaaGreatDoor.Wl
set_option maxHeartbeats 8000000
set_option maxRecDepth 100000
set_option linter.unusedVariables false
section
open Go.Sort
def Srt(d:List Ent):Prop:=d.Pairwise (fun x y=>ltE y x=false)
theorem Srt.uniq{c d:List Ent}(hc:Srt c)(hd:Srt d)(hp:c.Perm d):c=d:=
 List.Perm.eq_of_pairwise (le:=fun x y=>ltE y x=false) (fun a b _ _ h1 h2=>totE a b h2 h1) hc hd hp
theorem Srt.nil:Srt []:=List.Pairwise.nil
theorem Srt.drop{d:List Ent}(h:Srt d)(k:Nat):Srt (d.drop k):=List.Pairwise.sublist (List.drop_sublist k d) h
theorem Srt.get{d:List Ent}(h:Srt d){i j:Nat}(hij:i<j)(hj:j<d.length):ltE d[j] d[i]=false:=List.pairwise_iff_getElem.1 h i j (by omega) hj hij
theorem Srt.le{d:List Ent}(h:Srt d){i j:Nat}(hij:i<=j)(hj:j<d.length):ltE d[j] d[i]=false:=by
 by_cases e:i=j
 ·subst e;exact swoE.irrefl _
 ·exact h.get (by omega) hj
def sortE(d:List Ent):List Ent:=d.mergeSort (fun x y=>!ltE y x)
theorem sortE_perm(d:List Ent):(sortE d).Perm d:=List.mergeSort_perm _ _
theorem sortE_len(d:List Ent):(sortE d).length=d.length:=(sortE_perm d).length_eq
theorem sortE_srt(d:List Ent):Srt (sortE d):=by
 have h:=List.pairwise_mergeSort (le:=fun x y=>!ltE y x) (fun a b c h1 h2=>by
   simp only[Bool.not_eq_true'] at h1 h2⊢;exact swoE.ntrans c b a h2 h1) (fun a b=>by
   cases h:ltE b a with
   | false=>simp
   | true=>simp[swoE.asymmA h]) d
 exact h.imp (fun h=>by simpa using h)
theorem sortE_of{c d:List Ent}(h:Srt c)(p:c.Perm d):c=sortE d:=h.uniq (sortE_srt d) (p.trans (sortE_perm d).symm)
theorem sortE_id{d:List Ent}(h:Srt d):sortE d=d:=(sortE_of h (List.Perm.refl _)).symm
def insL:List Ent->Ent->List Ent
 | [],e=>[e]
 | x::r,e=>if ltE e x then e::x::r else x::insL r e
theorem insL_perm:∀(d:List Ent)(e:Ent),(insL d e).Perm (e::d)
 | [],e=>List.Perm.refl _
 | x::r,e=>by
  unfold insL
  split
  ·exact List.Perm.refl _
  ·exact((insL_perm r e).cons x).trans (List.Perm.swap e x r)
theorem insL_len(d:List Ent)(e:Ent):(insL d e).length=d.length+1:=(insL_perm d e).length_eq
theorem insL_srt:∀(d:List Ent)(e:Ent),Srt d->Srt (insL d e)
 | [],e,_=>by simp[insL,Srt]
 | x::r,e,h=>by
  obtain⟨h1,h2⟩:=List.pairwise_cons.1 h;unfold insL
  split
  ·next c=>
   refine List.pairwise_cons.2 ⟨fun z hz=>?_,h⟩;rcases List.mem_cons.1 hz with rfl|hz
   ·exact swoE.asymmA c
   ·exact swoE.ntrans _ _ _ (h1 z hz) (swoE.asymmA c)
  ·next c=>
   refine List.pairwise_cons.2 ⟨fun z hz=>?_,insL_srt r e h2⟩;rcases List.mem_cons.1 ((insL_perm r e).mem_iff.1 hz) with rfl|hz
   ·simpa using c
   ·exact h1 z hz
theorem insL_eq:∀(d:List Ent)(e:Ent)(k:Nat),k<=d.length->(∀i (hi:i<k) (h:i<d.length),ltE e d[i]=false)->(∀h:k<d.length,ltE e d[k]=true)->d.take k++e::d.drop k=insL d e
 | [],e,k,hk,_,_=>by simp[insL]
 | x::r,e,0,hk,h1,h2=>by
  have:=h2 (by simp);simp at this;simp[insL,this]
 | x::r,e,k+1,hk,h1,h2=>by
  have h0:=h1 0 (by omega) (by simp);simp at h0;have ih:=insL_eq r e k (by simpa using hk) (fun i hi h=>h1 (i+1) (by omega) (by simpa using h)) (fun h=>h2 (by simpa using h));simp[insL,h0,ih]
def smal(d:List Ent)(e:Ent):Nat:=d.countP (fun x=>ltE x e)
theorem smal_le(d:List Ent)(e:Ent):smal d e<=d.length:=List.countP_le_length
theorem smal_all{d:List Ent}{e:Ent}(h:∀x∈d,ltE x e=true):smal d e=d.length:=by
 unfold smal;rw[List.countP_eq_length];exact h
theorem smal_none{d:List Ent}{e:Ent}(h:∀x∈d,ltE x e=false):smal d e=0:=by
 unfold smal;rw[List.countP_eq_zero];intro x hx;rw[h x hx];simp
theorem smal_split(d:List Ent)(e:Ent)(k:Nat):smal d e=smal (d.take k) e+smal (d.drop k) e:=by
 conv=>lhs;rw[<-List.take_append_drop k d]
 unfold smal;exact List.countP_append
theorem smal_place{d:List Ent}(hs:Srt d)(e:Ent)(i:Nat)(hi:i<=d.length)(h1:i=0\/∃h:i-1<d.length,ltE d[i-1] e=true)(h2:i=d.length\/∃h:i<d.length,ltE d[i] e=false):smal d e=i:=by
 rw[smal_split d e i,smal_all (d:=d.take i),smal_none (d:=d.drop i)]
 ·simp;omega
 ·intro x hx;obtain⟨j,hj,rfl⟩:=List.getElem_of_mem hx;rw[List.length_drop] at hj;rw[List.getElem_drop];rcases h2 with h2|⟨h,h2⟩
  ·omega
  ·exact swoE.ntrans _ _ _ (hs.le (show i<=i+j by omega) (by omega)) h2
 ·intro x hx;obtain⟨j,hj,rfl⟩:=List.getElem_of_mem hx;rw[List.length_take] at hj;rw[List.getElem_take];rcases h1 with h1|⟨h,h1⟩
  ·omega
  ·cases c:ltE d[j] e with
   | true=>rfl
   | false=>
    have:=swoE.ntrans _ _ _ (hs.le (show j<=i-1 by omega) h) c;rw[this] at h1;cases h1
end
section
open Go.RowKit Go.Lib Go.Sort Go.Shelf
theorem RowF.of_cells{w:World}{base g off cap:Nat}{d:List Ent}{cur:Array Value}(hb:base<=g)(hp:0<cap)(hl:d.length<=cap)(hm:cap<=maxLen)(hg:w.heap[g]?=some (.cells cur 131 (0,0)))(hs:cur.size=off+cap*2)(hc:∀j,j<d.length*2->cur[off+j]?=(flat d)[j]?) :
  RowF w base g off cap d:=by
 refine⟨hb,hp,hl,hm,cur.toList.take off,cur.toList.drop off,by rw[List.take_append_drop];exact hg,by simp;omega,by simp;omega,?_⟩;apply List.ext_getElem?;intro j;by_cases hj:j<d.length*2
 ·rw[List.getElem?_take_of_lt hj,List.getElem?_drop,<-hc j hj];simp
 ·rw[List.getElem?_eq_none (by simp;omega),List.getElem?_eq_none (by rw[flat_len];omega)]
theorem RowF.row{w:World}{base g off cap:Nat}{d:List Ent}(h:RowF w base g off cap d):RE w g off d.toArray:=by
 refine⟨encE_len,encE_one,?_,h.lt⟩;intro j hj;have hj':j<d.length*2:=by simpa using hj
 rw[get_flatK _ _ _ _ (by simpa using hj')];have hx:d[j/2]?=some (d[j/2]'(by omega)):=getElem?_eq_getElem (by omega);have e1:d.toArray[j/2]! = d[j/2]'(by omega):=by rw[getElem!_pos d.toArray (j/2) (by simpa using (by omega:j/2<d.length))];rfl
 obtain⟨g1,g2⟩:=flat_at d _ _ hx;constructor
 ·rw[h.cell j hj',e1];by_cases e:j=j/2*2
  ·have:j%2=0:=by omega
   rw[<-e] at g1;rw[g1,this];rfl
  ·have e':j/2*2+1=j:=by omega
   have:j%2=1:=by omega
   rw[e'] at g2;rw[g2,this];rfl
 ·exact h.frozen _
theorem RowF.sorted{w:World}{base g off cap n:Nat}{d c:List Ent}{os:Array Obj}(h:RowF w base g off cap d)(hl:c.length=d.length) :
  RowF (sortWorldK encE 2 w g off n c.toArray os) base g off cap c/\w.grownBy (sortWorldK encE 2 w g off n c.toArray os) (some g):=by
 have R:=h.row;have S:SE w g off c.toArray (sortWorldK encE 2 w g off n c.toArray os):=⟨n,os,rfl⟩;obtain⟨P,Q,m1,m2,m3,m4⟩:=h.mem
 have hW:(sortWorldK encE 2 w g off n c.toArray os).heap[g]?=some (.cells (putCells id off (flatK encE 2 c.toArray) (P++Q).toArray) 131 (0,0)):=by
  unfold sortWorldK;rw[heap_grow_old _ _ (by rw[size_putRowK];exact R.hblk)];show(w.heap.modify g _)[g]?=_;rw[Array.getElem?_modify,if_pos rfl,m1]
  rfl
 have hsz:c.toArray.size=d.toArray.size:=by simpa using hl
 refine⟨RowF.of_cells h.low h.pos (by rw[hl];exact h.le) h.big hW (by simp[putCells];omega) (fun j hj=>?_),⟨rfl,rfl,rfl,SWK.le S,fun k hk hne=>?_⟩⟩
 ·rw[<-cell_of_row _ g _ _ _ _ hW];have hu:(flat c)[j]?=some ((flat c)[j]'(by rw[flat_len];exact hj)):=getElem?_eq_getElem _;refine(flat_get c (fun j=>(sortWorldK encE 2 w g off n c.toArray os).cell? ⟨g,off+j,none⟩) (fun i x hx=>?_) j _ hu).trans hu.symm;have hi:i<c.toArray.size:=by simpa using (List.getElem?_eq_some_iff.1 hx).1
  have e:c.toArray[i]! = x:=by
   rw[getElem!_pos c.toArray i hi];have:=(List.getElem?_eq_some_iff.1 hx).2;simpa using this
  have h0:=se_c0 S R hsz hi;have h1:=se_c1 S R hsz hi;rw[e] at h0 h1;exact⟨h0,h1⟩
 ·unfold sortWorldK;rw[heap_grow_old _ _ (by rw[size_putRowK];exact hk)];show(w.heap.modify g _)[k]?=_;rw[Array.getElem?_modify,if_neg (fun e=>hne (by rw[e]))]
theorem ltOf_eq:ltOf cfE=ltE:=funext fun x=>funext fun y=>ltOf_cfE x y
theorem aggT:∀w,(isAgg 131).run Tryz.prog w=.ok true w:=Tryz.isAgg131
theorem sizeT:∀w,(Go.sizeOf 131).run Tryz.prog w=.ok 2 w:=Tryz.sizeOf131
theorem sort_any(v:Value)(base:Nat)(d:List Ent)(w:World)(h:OwnF w base v d)(hdl:d.length<=1000000) :
  Calls Tryz.prog 107 #[v,.func (.func 108) #[] #[]] w fun e w'=>e=.returned (.tuple #[])/\OwnF w' base v (sortE d)/\w.grownBy w' (rowB v):=by
 have eg:=enters_of Tryz.func108 (by kernel_rfl) rfl
 have none:∀(p:Option Addr)(cap:Nat),d=[]->v=.slice p 0 cap->Calls Tryz.prog 107 #[v,.func (.func 108) #[] #[]] w fun e w'=>e=.returned (.tuple #[])/\OwnF w' base v (sortE d)/\w.grownBy w' (rowB v):=fun p cap hd hv=>by
  have hc:=AnyF.slices_SortFunc_none sortT p cap (.func (.func 108) #[] #[]) w
  change Calls Tryz.prog 107 _ _ _ at hc
  rw[hv];refine hc.mono ?_;rintro e w' ⟨rfl,rfl⟩;rw[<-hv];refine⟨rfl,?_,grown_refl _ _⟩;rw[hd] at h⊢;rw[sortE_id Srt.nil];exact h
 by_cases hd:d=[]
 ·obtain⟨a,cap,hv,_⟩:=h.isL;rw[hd] at hv;exact none a cap hd hv
 ·rcases h with⟨h0,_⟩|⟨g,off,cap,rfl,hr⟩
  ·exact absurd h0 hd
  have hlen:=hr.isL.len;have R:=hr.row;have hsz:d.toArray.size<4611686018427387904:=by simp;omega
  have hc:=AnyQ.slices_SortFunc_total sortT 2 aggT sizeT encE encE_len encE_one cfE (by rw[ltOf_eq];exact swoE) 108 #[] g off cap d.toArray w eg (fun _ _ _ _ x y=>order_any x y _) R.hH R.hblk hsz (by rw[ltOf_eq];exact totE)
  change Calls Tryz.prog 107 _ _ _ at hc
  rw[ltOf_eq] at hc;rw[hr.rowB];have e1:d.toArray.size=d.length:=by simp
  rw[e1] at hc;refine hc.mono ?_;rintro e w' ⟨rfl,n,os,rfl⟩;obtain⟨r1,r2⟩:=hr.sorted (n:=n) (os:=os) (sortE_len d);exact⟨rfl,.inr ⟨g,off,cap,by rw[sortE_len],r1⟩,r2⟩
theorem len64_any(x:Nat)(hx:x<18446744073709551616)(w:World):Calls Tryz.prog 176 #[.int .u64 x] w fun e w'=>e=.returned (.int .i64 (Go.Lib.bitLen x:Nat))/\w'=w:=by
 have L:=SlLaysF0.n15.bits (P:=Tryz.prog) (ρ:=sortT_ren) {sortT with};have hc:=Any.bits_Len64 (P:=Tryz.prog) {L with} (x:Int) w (by omega) (by omega);rw[Int.toNat_natCast] at hc;exact hc
end
section
open Go.RowKit Go.Lib Go.Sort
theorem lev_le10(a b:Nat)(ha:a<B64)(hb:b<B64):lev a b<=10:=by
 refine(lev_le ha hb).2 ?_;unfold same;rw[Nat.div_eq_of_lt (Nat.lt_of_lt_of_le ha (by decide)),Nat.div_eq_of_lt (Nat.lt_of_lt_of_le hb (by decide))]
theorem levelOf_any(a b:Nat)(ha:a<B64)(hb:b<B64)(w:World) :
  Calls Tryz.prog 240 #[.int .u64 a,.int .u64 b] w fun e w'=>e=.returned (.int .i64 (lev a b:Nat))/\w'=w:=by
 have hB:B64=18446744073709551616:=rfl;have hx:a ^^^ b<2^64:=Nat.xor_lt_two_pow (show a<2^64 from ha) (show b<2^64 from hb);have hy:(a ^^^ b) ||| 1<2^64:=(or_one_lt _ _ (by omega)).2 hx
 have e1:=bits_xor_u64_nat a b (by omega) (by omega);have e2:bits BinOp.or IntKind.u64 ((a ^^^ b:Nat):Int) 1=(((a ^^^ b) ||| 1:Nat):Int):=bits_or_u64_nat _ 1 (by omega) (by omega);have hl:=bitLen_pos _ hy (or_one_ne _);have hl2:=(bitLen_iff _ 64 hy (or_one_ne _)).2 hy;have hlev:lev a b=(Go.Lib.bitLen ((a ^^^ b) ||| 1)-1)/6:=rfl;obtain⟨X,hX⟩:∃X,(a ^^^ b) ||| 1=X:=⟨_,rfl⟩
 obtain⟨Z,hZ⟩:∃X,a ^^^ b=X:=⟨_,rfl⟩;rw[hX] at hy hl hl2 hlev;have len:=fun w=>len64_any X (by omega) w;rw[hZ] at e1;rw[hX,hZ] at e2;obtain⟨L,hL⟩:∃L,Go.Lib.bitLen X=L:=⟨_,rfl⟩;simp only[hL] at len hl hl2 hlev;have HV:Hid _:=hlev;clear hX hZ hx hL hlev;go_enter Tryz.func240,Tryz.ntmps240
 go_wp2_with (go_at_call 176;refine(len _).mono ?_;rintro e w' ⟨rfl,rfl⟩)
 go_ret;refine⟨ret_i64 ?_,rfl⟩;rw[HV.out];omega
def Hd(w:World)(B:Nat)(hd:Nat->Value):Prop:=∃cs:Array Value,w.heap[B]?=some (.cells cs 176 (0,0))/\cs.size=263/\∀k,k<263->cs[k]?=some (hd k)
theorem Hd.cell{w:World}{B:Nat}{hd:Nat->Value}(h:Hd w B hd){k:Nat}(hk:k<263):w.cell? ⟨B,k,none⟩=some (hd k):=by
 obtain⟨cs,h1,h2,h3⟩:=h;rw[cell_of_row _ _ _ _ _ _ h1,h3 k hk]
theorem Hd.frozen{w:World}{B:Nat}{hd:Nat->Value}(h:Hd w B hd)(k:Nat):w.frozen? ⟨B,k,none⟩=false:=by
 obtain⟨cs,h1,h2,h3⟩:=h;simp[World.frozen?,h1]
theorem Hd.lt{w:World}{B:Nat}{hd:Nat->Value}(h:Hd w B hd):B<w.heap.size:=by
 obtain⟨cs,h1,h2,h3⟩:=h;exact lt_of_block h1
theorem Hd.of_block{w w':World}{B:Nat}{hd:Nat->Value}(h:Hd w B hd)(e:w'.heap[B]?=w.heap[B]?):Hd w' B hd:=by
 obtain⟨cs,h1,h2,h3⟩:=h;exact⟨cs,e.trans h1,h2,h3⟩
def hset(hd:Nat->Value)(k:Nat)(v:Value):Nat->Value:=fun j=>if j=k then v else hd j
theorem hset_same(hd:Nat->Value)(k:Nat)(v:Value):hset hd k v k=v:=if_pos rfl
theorem hset_ne(hd:Nat->Value){k j:Nat}(v:Value)(h:j≠k):hset hd k v j=hd j:=if_neg h
theorem Hd.set{w:World}{B:Nat}{hd:Nat->Value}(h:Hd w B hd)(k:Nat)(v:Value):Hd (w.setCell ⟨B,k,none⟩ v) B (hset hd k v):=by
 obtain⟨cs,h1,h2,h3⟩:=h;refine⟨_,heap_setCell_same _ _ _ _ _ _ h1,by simpa using h2,fun j hj=>?_⟩;rw[Array.getElem?_setIfInBounds];by_cases e:k=j
 ·subst e;rw[if_pos rfl,if_pos (by omega),hset_same]
 ·rw[if_neg e,hset_ne _ _ (fun e'=>e e'.symm),h3 j hj]
theorem Hd.typ{w:World}{B:Nat}{hd:Nat->Value}(h:Hd w B hd):∃cs,w.heap[B]?=some (.cells cs 176 (0,0)):=by
 obtain⟨cs,h1,_⟩:=h;exact⟨cs,h1⟩
theorem place_any(B now due:Nat)(hn:now<B64)(hd:due<B64)(w:World)(hc:w.cell? ⟨B,0,none⟩=some (.int .u64 now)) :
  Calls Tryz.prog 180 #[.pointer (some ⟨B,0,none⟩),.int .u64 due] w fun e w'=>e=.returned (.tuple #[.int .i64 ((plc now due).1:Nat),.int .i64 ((plc now due).2:Nat)])/\w'=w:=by
 obtain⟨A,hA⟩:∃A,max due now=A:=⟨_,rfl⟩;have hAb:A<B64:=by omega
 have e1:(plc now due).1=lev now A:=by unfold plc;rw[hA]
 have e2:(plc now due).2=slt A (lev now A):=by unfold plc;rw[hA]
 rw[e1,e2];have hl:=lev_le10 now A hn hAb;have lv:=fun w=>levelOf_any now A hn hAb w;obtain⟨L,hL⟩:∃L,lev now A=L:=⟨_,rfl⟩;simp only[hL] at lv hl⊢;have sl:=fun w=>slotOf_any A L hAb hl w;obtain⟨Z,hZ⟩:∃Z,slt A L=Z:=⟨_,rfl⟩;simp only[hZ] at sl⊢;clear hn hd hAb;have hm:max (due:Int) (now:Int)=(A:Int):=by omega
 clear hA e1 e2 hL hZ;go_enter Tryz.func180,Tryz.ntmps180
 go_wp2_with (first|(go_at_call 240;refine(lv _).mono ?_;rintro e w' ⟨rfl,rfl⟩)|(go_at_call 241;refine(sl _).mono ?_;rintro e w' ⟨rfl,rfl⟩))
 refine bodyPost_ret (v:=.tuple #[.int .i64 L,.int .i64 Z]) (by simp[results,Tryz.results180,go_sem]) rfl ⟨rfl,rfl⟩
def msk(now thn l:Nat):Nat:=if l<lev now thn then 18446744073709551615 else if l=lev now thn then 2^(slt thn l+1)-1 else 0
theorem msk_bit(now thn l s:Nat)(hs:s<64):(msk now thn l).testBit s=pass now thn l s:=by
 unfold msk pass;by_cases h1:l<lev now thn
 ·rw[if_pos h1,show(18446744073709551615:Nat)=2^64-1 from rfl,Nat.testBit_two_pow_sub_one];simp[h1,hs]
 ·rw[if_neg h1];by_cases h2:l=lev now thn
  ·rw[if_pos h2,Nat.testBit_two_pow_sub_one];simp[h2];omega
  ·rw[if_neg h2];simp[h1,h2]
theorem msk_lt(now thn l:Nat):msk now thn l<B64:=by
 unfold msk
 split
 ·decide
 ·split
  ·have:2^(slt thn l+1)<=2^64:=Nat.pow_le_pow_right (by omega) (by have:=slt_lt thn l;omega);have:B64=2^64:=rfl;omega
  ·decide
def mskF(now thn k l:Nat):Value:=.int .u64 ((if l<k then msk now thn l else 0:Nat):Int)
theorem passed_any(now thn:Nat)(hn:now<B64)(ht:thn<B64)(w:World) :
  Calls Tryz.prog 177 #[.int .u64 now,.int .u64 thn] w fun e w'=>e=.returned (.agg #[.int .u64 (msk now thn 0:Nat),.int .u64 (msk now thn 1:Nat),.int .u64 (msk now thn 2:Nat),.int .u64 (msk now thn 3:Nat)])/\Below w.heap.size w w':=by
 have lv:=fun w=>levelOf_any now thn hn ht w;have hl:=lev_le10 now thn hn ht;obtain⟨S,hS⟩:∃S,w.heap.size=S:=⟨_,rfl⟩;obtain⟨L,hL⟩:∃L,lev now thn=L:=⟨_,rfl⟩;have HL:Hid (lev now thn=L):=hL;simp only[hL] at lv hl;have sl:Aside (∀(l:Nat) w,l<=10->Calls Tryz.prog 241 #[.int .u64 thn,.int .i64 l] w fun e w'=>e=.returned (.int .i64 (slt thn l:Nat))/\w'=w):=fun l w hl=>slotOf_any thn l ht hl w;clear hL hn ht;obtain⟨M0,hM0⟩:∃M,msk now thn 0=M:=⟨_,rfl⟩;obtain⟨M1,hM1⟩:∃M,msk now thn 1=M:=⟨_,rfl⟩;obtain⟨M2,hM2⟩:∃M,msk now thn 2=M:=⟨_,rfl⟩;obtain⟨M3,hM3⟩:∃M,msk now thn 3=M:=⟨_,rfl⟩;rw[hM0,hM1,hM2,hM3];have HM:Aside (msk now thn 0=M0/\msk now thn 1=M1/\msk now thn 2=M2/\msk now thn 3=M3):=⟨hM0,hM1,hM2,hM3⟩;obtain⟨w0,hw0⟩:∃w0,(w.alloc (.cells #[.int .u64 0,.int .u64 0,.int .u64 0,.int .u64 0] 272)).alloc (.cells #[.int .u64 0,.int .u64 0,.int .u64 0,.int .u64 0] 272)=w0:=⟨_,rfl⟩;have HW:Hid _:=hw0
 have I0:Aside (w0.heap[S]?=some (.cells #[.int .u64 0,.int .u64 0,.int .u64 0,.int .u64 0] 272 (0,0))/\w0.heap[S+1]?=some (.cells #[mskF now thn 0 0,mskF now thn 0 1,mskF now thn 0 2,mskF now thn 0 3] 272 (0,0))/\Below S w w0):=by
  refine⟨?_,?_,?_⟩
  ·rw[<-hw0,<-hS,heap_alloc_old _ _ (by simp)];exact heap_alloc_new w _
  ·rw[<-hw0,<-hS];have:=heap_alloc_new (w.alloc (.cells #[.int .u64 0,.int .u64 0,.int .u64 0,.int .u64 0] 272)) (.cells #[.int .u64 0,.int .u64 0,.int .u64 0,.int .u64 0] 272);simpa [mskF] using this
  ·rw[<-hw0,<-hS];exact((Below.refl _ _).alloc (le_refl _) _).alloc (by simp) _
 clear hw0 hM0 hM1 hM2 hM3;go_enter Tryz.func177,Tryz.ntmps177
 go_upto_region 2 with fail
 rw[HW.out]
 go_wp2_with (go_at_call 240;refine(lv _).mono ?_;rintro e w' ⟨rfl,rfl⟩)
 go_loopg [7,11,14,20] 4 (fun kx s7 s11 s14 s20 wr=>∃k:Nat,s11=.int .i64 k/\k<=4/\4-k<=kx/\Aside (wr.heap[S]?=some (.cells #[.int .u64 0,.int .u64 0,.int .u64 0,.int .u64 0] 272 (0,0))/\wr.heap[S+1]?=some (.cells #[mskF now thn k 0,mskF now thn k 1,mskF now thn k 2,mskF now thn k 3] 272 (0,0))/\Below S w wr))
 case atStart=>exact⟨0,rfl,by omega,by omega,I0⟩
 case round=>
  obtain⟨k,rfl,hk,hkx,I⟩:=hrel;have hSr:S+1<wr.heap.size:=lt_of_block I.out.2.1;by_cases hlt:k<4
  ·have hz:(k:Int)<4:=by omega
   have c0:wr.cell? ⟨S+1,k,none⟩=some (.int .u64 0):=by
    rw[cell_of_row _ _ _ _ _ _ I.out.2.1];have:k=0\/k=1\/k=2\/k=3:=by omega
    rcases this with rfl|rfl|rfl|rfl<;>simp[mskF]
   have f0:wr.frozen? ⟨S+1,k,none⟩=false:=by simp[World.frozen?,I.out.2.1]
   have nx:Aside (∀V:Nat,V=msk now thn k->(wr.setCell ⟨S+1,k,none⟩ (.int .u64 V)).heap[S]?=some (.cells #[.int .u64 0,.int .u64 0,.int .u64 0,.int .u64 0] 272 (0,0))/\(wr.setCell ⟨S+1,k,none⟩ (.int .u64 V)).heap[S+1]?=some (.cells #[mskF now thn (k+1) 0,mskF now thn (k+1) 1,mskF now thn (k+1) 2,mskF now thn (k+1) 3] 272 (0,0))/\Below S w (wr.setCell ⟨S+1,k,none⟩ (.int .u64 V))):=fun V hV=>by
    refine⟨?_,?_,I.out.2.2.setCell (by simp) _⟩
    ·rw[heap_setCell_other _ _ _ _ (by simp)];exact I.out.1
    ·rw[heap_setCell_same _ _ _ _ _ _ I.out.2.1,hV];have:k=0\/k=1\/k=2\/k=3:=by omega
     rcases this with rfl|rfl|rfl|rfl<;>simp[mskF]
   by_cases c1:k<L
   ·have q1:(k:Int)<(L:Int):=by omega
    have hv:18446744073709551615=msk now thn k:=by unfold msk;rw[HL.out,if_pos c1]
    have N1:=nx.out _ hv;have N2:Aside _:=N1;clear nx I N1 hv
    go_wp2
    go_roundg (4-(k+1))
    case measure=>omega
    case rel=>exact⟨k+1,by go_num,by omega,le_refl _,N2⟩
   ·have q1:¬(k:Int)<(L:Int):=by omega
    by_cases c2:k=L
    ·subst c2;have s1:=fun w=>sl.out k w (by omega);have hsl:=slt_lt thn k;obtain⟨Z,hZ⟩:∃Z,slt thn k=Z:=⟨_,rfl⟩;simp only[hZ] at s1 hsl;obtain⟨V,hV⟩:∃V:Nat,V=2^(Z+1)-1:=⟨_,rfl⟩;have hv:V=msk now thn k:=by unfold msk;rw[HL.out,if_neg c1,if_pos rfl,hZ,hV]
     have N2:Aside _:=nx.out _ hv;have hp:2^(Z+1)<=2^64:=Nat.pow_le_pow_right (by omega) (by omega);have hp0:0<2^(Z+1):=Nat.two_pow_pos _
     have hW:IntKind.u64.wrap (IntKind.u64.wrap (2*2^Z)-1)=(V:Int):=by
      have e:(2*2^Z:Int)=((2^(Z+1):Nat):Int):=by rw[Nat.pow_succ];push_cast;rw[Int.mul_comm]
      rw[e,IntKind.wrap_u64,IntKind.wrap_u64,hV];omega
     have HW2:Hid _:=hW;clear nx I hv hZ hW
     go_wp2_with (go_at_call 241;refine(s1 _).mono ?_;rintro e w' ⟨rfl,rfl⟩)
     rw[HW2.out]
     go_roundg (4-(k+1))
     case measure=>omega
     case rel=>exact⟨k+1,by go_num,by omega,le_refl _,N2⟩
    ·have q2:¬(k:Int)=(L:Int):=by omega
     have q3:((k:Int)==(L:Int))=false:=by simp;omega
     have hv:0=msk now thn k:=by unfold msk;rw[HL.out,if_neg c1,if_neg c2]
     have I2:Aside (wr.heap[S]?=some (.cells #[.int .u64 0,.int .u64 0,.int .u64 0,.int .u64 0] 272 (0,0))/\wr.heap[S+1]?=some (.cells #[mskF now thn (k+1) 0,mskF now thn (k+1) 1,mskF now thn (k+1) 2,mskF now thn (k+1) 3] 272 (0,0))/\Below S w wr):=by
      refine⟨I.out.1,?_,I.out.2.2⟩;rw[I.out.2.1];have:k=0\/k=1\/k=2\/k=3:=by omega
      rcases this with rfl|rfl|rfl|rfl<;>simp[mskF,<-hv]
     clear nx I hv
     go_wp2
     go_roundg (4-(k+1))
     case measure=>omega
     case rel=>exact⟨k+1,by go_num,by omega,le_refl _,I2⟩
  ·obtain rfl:k=4:=by omega
   have i1:=I.out.2.1;simp only[mskF,show(0:Nat)<4 by omega,show(1:Nat)<4 by omega,show(2:Nat)<4 by omega,show(3:Nat)<4 by omega,if_true,HM.out.1,HM.out.2.1,HM.out.2.2.1,HM.out.2.2.2] at i1;have e0:wr.cell? ⟨S+1,0,none⟩=some (.int .u64 M0):=by rw[cell_of_row _ _ _ _ _ _ i1];rfl
   have e1:wr.cell? ⟨S+1,1,none⟩=some (.int .u64 M1):=by rw[cell_of_row _ _ _ _ _ _ i1];rfl
   have e2:wr.cell? ⟨S+1,2,none⟩=some (.int .u64 M2):=by rw[cell_of_row _ _ _ _ _ _ i1];rfl
   have e3:wr.cell? ⟨S+1,3,none⟩=some (.int .u64 M3):=by rw[cell_of_row _ _ _ _ _ _ i1];rfl
   have z:∀j,j<4->wr.cell? ⟨S,j,none⟩=some (.int .u64 0)/\wr.frozen? ⟨S,j,none⟩=false:=fun j hj=>by
    refine⟨?_,by simp[World.frozen?,I.out.1]⟩;rw[cell_of_row _ _ _ _ _ _ I.out.1];have:j=0\/j=1\/j=2\/j=3:=by omega
    rcases this with rfl|rfl|rfl|rfl<;>rfl
   obtain⟨z0,y0⟩:=z 0 (by omega);obtain⟨z1,y1⟩:=z 1 (by omega);obtain⟨z2,y2⟩:=z 2 (by omega);obtain⟨z3,y3⟩:=z 3 (by omega);have BB:Aside (Below S w ((((wr.setCell ⟨S,0,none⟩ (.int .u64 M0)).setCell ⟨S,1,none⟩ (.int .u64 M1)).setCell ⟨S,2,none⟩ (.int .u64 M2)).setCell ⟨S,3,none⟩ (.int .u64 M3))):=(((I.out.2.2.setCell (by simp) _).setCell (by simp) _).setCell (by simp) _).setCell (by simp) _;clear I i1 z
   go_wp2
   refine bodyPost_ret (v:=.agg #[.int .u64 M0,.int .u64 M1,.int .u64 M2,.int .u64 M3]) (by simp[results,Tryz.results177,go_sem,z0,z1,z2,z3]) rfl ⟨rfl,by first|exact BB.out|(rw[hS];exact BB.out)⟩
end
section
open Go.RowKit Go.Lib Go.Sort
theorem IsL.at{w:World}{a:Option Addr}{cap:Nat}{d:List Ent}(h:IsL w a cap d){i:Nat}(hi:i<d.length):∃b off,a=some ⟨b,off,none⟩/\∀W,Grown w W->∀n os,(grow (W.drewN n) os).cell? ⟨b,off+i*2,none⟩=some (.int .u64 d[i].1)/\(grow (W.drewN n) os).cell? ⟨b,off+i*2+1,none⟩=some (.int .i64 d[i].2):=by
 obtain⟨b,off,e,hb,h1,h2⟩:=h.elem i d[i] (getElem?_eq_getElem hi);refine⟨b,off,e,fun W hW n os=>?_⟩;have g:Grown w (grow (W.drewN n) os):=hW.trans ⟨n,os,rfl⟩;exact⟨(g.below.cell (p:=⟨b,off+i*2,none⟩) hb).trans h1,(g.below.cell (p:=⟨b,off+i*2+1,none⟩) hb).trans h2⟩
theorem cell_old(w:World){b:Nat}(o:Obj)(j:Nat)(hb:b<w.heap.size):(w.alloc o).cell? ⟨b,j,none⟩=w.cell? ⟨b,j,none⟩:=World.cell?_of_block (w:=w) (Below.heap_alloc _ _ _ hb)
def FirstIs(d:List Ent)(p:Ent->Bool)(z:Int):Prop:=(z = -1/\∀i (hi:i<d.length),p d[i]=false)\/∃k:Nat,∃hk:k<d.length,z=k/\p d[k]=true/\∀i (hi:i<k),p (d[i]'(by omega))=false
theorem indexFunc_any(a:Option Addr)(cap:Nat)(d:List Ent)(g:Nat)(cb:Array Value)(p:Ent->Bool)(w:World)(h:IsL w a cap d)
  (eg:∀args w,(callFunc g args).run Tryz.prog w=.ok (.enter g args) w)
  (hg:∀(x:Ent)(W:World),Grown w W->Calls Tryz.prog g (#[.agg #[.int .u64 x.1,.int .i64 x.2]]++cb) W fun e w'=>e=.returned (.bool (p x))/\Grown W w') :
  Calls Tryz.prog 318 #[.slice a d.length cap,.func (.func g) #[] cb] w fun r w'=>∃z:Int,r=.returned (.int .i64 z)/\FirstIs d p z/\Grown w w':=by
 have hl:=h.len;have H:Aside (IsL w a cap d):=h;have HG:Aside (∀(x:Ent)(W:World),Grown w W->Calls Tryz.prog g (#[.agg #[.int .u64 x.1,.int .i64 x.2]]++cb) W fun e w'=>e=.returned (.bool (p x))/\Grown W w'):=hg;clear h hg;go_enter Tryz.func318,Tryz.ntmps318
 go_wp2
 go_loopg [8] d.length (fun kx s8 wr=>∃k:Nat,s8=.int .i64 k/\k<=d.length/\d.length-k<=kx/\Aside (Grown w wr)/\Aside (∀i (hi:i<d.length),i<k->p d[i]=false))
 case atStart=>exact⟨0,rfl,by omega,by omega,Grown.refl w,(fun i _ h=>absurd h (by omega):∀i (hi:i<d.length),i<0->p d[i]=false)⟩
 case round=>
  obtain⟨k,rfl,hk,hkx,G,A⟩:=hrel;by_cases hlt:k<d.length
  ·have hz:(k:Int)<(d.length:Int):=by omega
   obtain⟨b,off,ha,hc⟩:=H.out.at hlt;subst ha;have c1:=(hc wr G.out 0 #[]).1;have c2:=(hc wr G.out 0 #[]).2;simp only[grow_empty,show wr.drewN 0=wr from rfl] at c1 c2;clear hc;obtain⟨x,hx⟩:∃x,d[k]=x:=⟨_,rfl⟩;rw[hx] at c1 c2;have HX:Hid _:=hx;clear hx;obtain⟨B,hB⟩:∃B,p x=B:=⟨_,rfl⟩;have HB:Hid _:=hB;have pc:=HG.out x wr G.out;rw[hB] at pc;clear hB
   go_wp2_with fail
   refine pc.mono ?_;rintro r w1 ⟨rfl,g1⟩;have G2:Aside (Grown w w1):=G.out.trans g1;clear g1 G c1 c2 pc
   cases B with
   | true=>
    go_wp2
    go_ret;refine⟨k,rfl,.inr ⟨k,hlt,rfl,?_,fun i hi=>A.out i (by omega) hi⟩,G2.out⟩;rw[HX.out];exact HB.out
   | false=>
    go_wp2
    go_roundg (d.length-(k+1))
    case measure=>omega
    case rel=>
     refine⟨k+1,by go_num,by omega,le_refl _,G2,(fun i hi hik=>?_:∀i (hi:i<d.length),i<k+1->p d[i]=false)⟩;by_cases e:i=k
     ·subst e;rw[HX.out];exact HB.out
     ·exact A.out i hi (by omega)
  ·have hz:¬(k:Int)<(d.length:Int):=by omega
   go_wp2
   go_ret;exact⟨-1,rfl,.inl ⟨rfl,fun i hi=>A.out i hi (by omega)⟩,G.out⟩
theorem wo1_any(S:Nat)(t x:Ent)(W:World)(hS:S<W.heap.size)(c0:W.cell? ⟨S,0,none⟩=some (.int .u64 t.1))(c1:W.cell? ⟨S,1,none⟩=some (.int .i64 t.2)) :
  Calls Tryz.prog 314 #[.agg #[.int .u64 x.1,.int .i64 x.2],.pointer (some ⟨S,0,none⟩)] W fun e w'=>e=.returned (.bool (decide (x=t)))/\Grown W w':=by
 have e:decide (x=t)=(x.1==t.1&&x.2==t.2):=by
  obtain⟨x1,x2⟩:=x;obtain⟨t1,t2⟩:=t;simp only[Prod.mk.injEq];by_cases h1:x1=t1<;>by_cases h2:x2=t2<;>simp[h1,h2]
 rw[e];have d0:(W.alloc (.cells #[.int .u64 x.1,.int .i64 x.2] 131)).cell? ⟨S,0,none⟩=some (.int .u64 t.1):=(cell_old W _ 0 hS).trans c0;have d1:(W.alloc (.cells #[.int .u64 x.1,.int .i64 x.2] 131)).cell? ⟨S,1,none⟩=some (.int .i64 t.2):=(cell_old W _ 1 hS).trans c1;have hS2:¬S=W.heap.size:=by omega
 go_enter Tryz.func314,Tryz.ntmps314
 go_wp2
 all_goals go_ret
 all_goals refine⟨?_,(Grown.refl W).alloc _⟩
 all_goals simp_all
theorem flat_set(d:List Ent)(i:Nat)(x:Ent):flat (d.set i x)=((flat d).set (i*2) (.int .u64 x.1)).set (i*2+1) (.int .i64 x.2):=by
 induction d generalizing i with
 | nil=>simp
 | cons y d ih=>
  cases i with
  | zero=>rfl
  | succ i=>
   rw[set_cons_succ,flat_cons,ih,flat_cons,show(i+1)*2=i*2+1+1 by omega,set_cons_succ,set_cons_succ,set_cons_succ,set_cons_succ]
theorem RowF.set{w:World}{base g off cap:Nat}{d:List Ent}(h:RowF w base g off cap d)(i:Nat)(x:Ent) :
  RowF ((w.setCell ⟨g,off+i*2,none⟩ (.int .u64 x.1)).setCell ⟨g,off+i*2+1,none⟩ (.int .i64 x.2)) base g off cap (d.set i x)/\w.grownBy ((w.setCell ⟨g,off+i*2,none⟩ (.int .u64 x.1)).setCell ⟨g,off+i*2+1,none⟩ (.int .i64 x.2)) (some g):=by
 obtain⟨P,R,m1,m2,m3,m4⟩:=h.mem;have k1:=heap_setCell_same w g (off+i*2) _ 131 (.int .u64 x.1) m1;have k2:=heap_setCell_same _ g (off+i*2+1) _ 131 (.int .i64 x.2) k1;refine⟨⟨h.low,h.pos,by rw[length_set];exact h.le,h.big,P,(R.set (i*2) (.int .u64 x.1)).set (i*2+1) (.int .i64 x.2),?_,m2,by simpa using m3,?_⟩,rfl,rfl,rfl,by simp,fun k _ hk=>?_⟩
 ·rw[k2];congr 2;apply Array.ext';rw[Array.toList_setIfInBounds,Array.toList_setIfInBounds];show((P++R).set _ _).set _ _=_;rw[List.set_append_right _ _ (by omega),List.set_append_right _ _ (by omega),show off+i*2-P.length=i*2 by omega,show off+i*2+1-P.length=i*2+1 by omega]
 ·rw[length_set,flat_set,<-m4,List.take_set,List.take_set]
 ·rw[heap_setCell_other _ _ k _ (fun e=>hk (by rw[e])),heap_setCell_other _ _ k _ (fun e=>hk (by rw[e]))]
theorem run_clear2(w:World)(ty:TypeId)(g o c:Nat)(cur:Array Value)(hg:w.heap[g]?=some (.cells cur 131 (0,0)))(hfit:o+2<=cur.size) :
  (Builtin.clear_ #[39] ty #[.slice (some ⟨g,o,none⟩) 1 c]).run Tryz.prog w=.ok (.tuple #[]) (w.setRow g (splice cur.toList o [.int .u64 0,.int .i64 0]).toArray):=by
 have hst:=run_storeCells_at Tryz.prog g o 131 [.int .u64 0,.int .i64 0] 0 cur w hg (by simpa using hfit) (by intro v hv;simp at hv;rcases hv with rfl|rfl<;>rfl);have hz:∀w,(zeroValue 131).run Tryz.prog w=.ok (.agg #[.int .u64 0,.int .i64 0]) w:=fun w=>by kernel_rfl
 have hc:(Builtin.zeroCells (Value.agg #[.int .u64 0,.int .i64 0]).cells 1).toList=[.int .u64 0,.int .i64 0]:=by first|kernel_rfl|simp[Builtin.zeroCells,Value.cells,Array.range]
 simp only[Nat.add_zero,List.append_assoc] at hst;simp[Builtin.clear_,run_underlying Tryz.underlying39,hz,hc,hst,splice]
theorem RowF.clear{w:World}{base g off cap n:Nat}{d:List Ent}(h:RowF w base g off cap d)(hn:d.length=n+1)(ty:TypeId)(c:Nat) :
  ∃w',(Builtin.clear_ #[39] ty #[.slice (some ⟨g,off+n*2,none⟩) 1 c]).run Tryz.prog w=.ok (.tuple #[]) w'/\RowF w' base g off cap (d.take n)/\w.grownBy w' (some g):=by
 obtain⟨P,R,m1,m2,m3,m4⟩:=h.mem;have hle:=h.le;refine⟨_,run_clear2 w ty g (off+n*2) c _ m1 (by simp;omega),⟨h.low,h.pos,by simp;omega,h.big,P,splice R (n*2) [.int .u64 0,.int .i64 0],?_,m2,?_,?_⟩,grown_set _ (grown_refl _ _) (.inl rfl)⟩
 ·rw[setRow_heap _ _ _ _ _ _ m1];show some (Obj.cells (splice (P++R) _ _).toArray _ _)=_;rw[<-m2,splice_pre]
 ·rw[length_splice _ _ _ (by simp;omega),m3]
 ·have e:(d.take n).length=n:=by simp;omega
  rw[e];unfold splice;rw[List.take_append_of_le_length (by simp;omega),take_take,Nat.min_self];have:flat d=flat (d.take n)++flat (d.drop n):=by rw[<-flat_append,List.take_append_drop]
  rw[this] at m4;have h2:=congrArg (List.take (n*2)) m4;rw[take_take,show min (n*2) (d.length*2)=n*2 by omega,List.take_append_of_le_length (by rw[flat_len,e];omega)] at h2;rw[h2,List.take_of_length_le (by rw[flat_len,e];omega)]
theorem delete_any(g off cap base K k:Nat)(d:List Ent)(t:Ent)(w:World)(h:RowF w base g off cap d)(hk:k<d.length)(hkt:d[k]=t)(hu:∀i (hi:i<d.length),d[i]=t->i=k)
  (hK:K<w.heap.size) (hne:K≠g) (c0:w.cell? ⟨K,0,none⟩=some (.int .u64 t.1)) (c1:w.cell? ⟨K,1,none⟩=some (.int .i64 t.2)) :
  Calls Tryz.prog 313 #[.slice (some ⟨g,off,none⟩) d.length cap,.func (.func 314) #[] #[.pointer (some ⟨K,0,none⟩)]] w fun r w'=>r=.returned (.slice (some ⟨g,off,none⟩) (d.length-1) cap)/\RowF w' base g off cap (d.eraseIdx k)/\w.grownBy w' (some g):=by
 have eg:=enters_of Tryz.func314 (by kernel_rfl) rfl
 have ix:=indexFunc_any (some ⟨g,off,none⟩) cap d 314 #[.pointer (some ⟨K,0,none⟩)] (fun x=>decide (x=t)) w h.isL eg
  (fun x W hW=>wo1_any K t x W (by have:=hW.below.size;omega) ((hW.below.cell (p:=⟨K,0,none⟩) hK).trans c0) ((hW.below.cell (p:=⟨K,1,none⟩) hK).trans c1))
 have H:Aside (RowF w base g off cap d):=h;have hle:=h.le;have hbig:=h.big;unfold maxLen at hbig;obtain⟨n,hn⟩:∃n,d.length=n+1:=⟨d.length-1,by omega⟩;have HKT:Aside (d[k]?=some t):=by show d[k]?=some t;rw[getElem?_eq_getElem hk,hkt]
 have HU:Aside (∀i (hi:i<d.length),d[i]=t->i=k):=hu;have C0:Aside (w.cell? ⟨K,0,none⟩=some (.int .u64 t.1)/\w.cell? ⟨K,1,none⟩=some (.int .i64 t.2)):=⟨c0,c1⟩;have wo:=fun(x:Ent)(W:World)(hW:K<W.heap.size)(a:W.cell? ⟨K,0,none⟩=some (.int .u64 t.1))(b:W.cell? ⟨K,1,none⟩=some (.int .i64 t.2))=>wo1_any K t x W hW a b;have WO:Aside (∀(x:Ent)(W:World),K<W.heap.size->W.cell? ⟨K,0,none⟩=some (.int .u64 t.1)->W.cell? ⟨K,1,none⟩=some (.int .i64 t.2)->Calls Tryz.prog 314 #[.agg #[.int .u64 x.1,.int .i64 x.2],.pointer (some ⟨K,0,none⟩)] W fun e w'=>e=.returned (.bool (decide (x=t)))/\Grown W w'):=wo;have n0:((d.length:Nat):Int)=(n:Int)+1:=by omega
 have HN:Hid (d.length=n+1):=hn;have hkn:k<=n:=by omega
 clear h hkt hu c0 c1 wo hk;rw[hn] at ix⊢;have hcn:n+1<=cap:=by omega
 obtain⟨N,hN⟩:∃N,n+1=N:=⟨_,rfl⟩;have q1:(n:Int)<=(N:Int):=by omega
 have q3:N-n=1:=by omega
 have q4:¬cap=n:=by omega
 have q5:(N:Int)<=(cap:Int):=by omega
 have q6:(n:Int)<=(cap:Int):=by omega
 have q7:n<=cap:=by omega
 have HNn:Hid (n+1=N):=hN;rw[hN] at ix⊢;simp only[show N-1=n by omega];clear n0 hn hN hle hcn;go_enter Tryz.func313,Tryz.ntmps313
 go_wp2_with fail
 refine ix.mono ?_;rintro r w1 ⟨z,rfl,fi,g1⟩;have G1:Aside (w.grownBy w1 (some g)):=grown_of_grown _ g1
 have hz:z=(k:Int):=by
  rcases fi with⟨_,hno⟩|⟨k',hk',rfl,hyes,_⟩
  ·have hk2:k<d.length:=by have:=HN.out;omega
   have h1:=hno k hk2;have h2:=HKT.out;rw[getElem?_eq_getElem hk2] at h2;injection h2 with h2
   simp[h2] at h1
  ·rw[HU.out k' hk' (by simpa using hyes)]
 subst hz;have k0:¬(k:Int) = -1:=by omega
 have k1:((k:Int) == -1)=false:=by simp
 have R1:Aside (RowF w1 base g off cap d):=H.out.of_block (g1.below.block g H.out.lt);have kn2:(k:Int)+1<=(N:Int):=by have:=HNn.out;omega
 clear fi g1 ix
 go_wp2
 go_loopg [5,6,7] N (fun kx s5 s6 s7 wr=>∃(I J:Nat)(D:List Ent),s5=.int .i64 I/\s6=.int .i64 J/\k<=I/\J<=N/\Hid (J=I+1)/\N-J<=kx/\Aside (RowF wr base g off cap D)/\Aside (D.length=d.length/\D.take I=(d.eraseIdx k).take I/\D.drop J=d.drop J)/\Aside (w.grownBy wr (some g)))
 case atStart=>
  refine⟨k,k+1,d,rfl,by go_num,le_refl _,by omega,(show k+1=k+1 from rfl),by omega,R1,⟨rfl,?_,rfl⟩,G1⟩;rw[List.eraseIdx_eq_take_drop_succ,List.take_append_of_le_length (by simp;have:=HN.out;omega),take_take,Nat.min_self]
 case round=>
  obtain⟨I,J,D,rfl,rfl,hI,hJ,HJ,hkx,R,A,G⟩:=hrel;have hs:w.heap.size<=wr.heap.size:=G.out.size;by_cases hlt:J<N
  ·have hz:(J:Int)<(N:Int):=by omega
   have hJd:J<d.length:=by have:=HN.out;have:=HNn.out;omega
   have hJD:D[J]?=some d[J]:=by
    have h2:=congrArg (fun l=>l[0]?) A.out.2.2;simp only[List.getElem?_drop,Nat.add_zero] at h2;rw[h2,getElem?_eq_getElem hJd]
   obtain⟨y1,y2⟩:=R.out.at J _ hJD;obtain⟨x,hx⟩:∃x,d[J]=x:=⟨_,rfl⟩;rw[hx] at y1 y2
   have hxt:decide (x=t)=false:=by
    rw[<-hx];refine decide_eq_false fun e=>?_;have:=HU.out J hJd e;have:=HJ.out;omega
   have HX:Hid (d[J]=x):=hx;have hKr:K<wr.heap.size:=by omega
   have kc0:wr.cell? ⟨K,0,none⟩=some (.int .u64 t.1):=G.out.cell C0.out.1 (fun e=>by injection e with e;exact hne e);have kc1:wr.cell? ⟨K,1,none⟩=some (.int .i64 t.2):=G.out.cell C0.out.2 (fun e=>by injection e with e;exact hne e);have wc:=WO.out x (wr.alloc (.cells #[.int .u64 x.1,.int .i64 x.2] 131)) (by simp;omega) ((cell_old wr _ 0 hKr).trans kc0) ((cell_old wr _ 1 hKr).trans kc1);rw[hxt] at wc;clear hxt hx hJD
   go_wp2_with fail
   refine wc.mono ?_;rintro r w2 ⟨rfl,g2⟩;have G2:Grown wr w2:=((Grown.refl wr).alloc _).trans g2;have hb2:=G2.below;obtain⟨S,hS⟩:∃S,wr.heap.size=S:=⟨_,rfl⟩;have b0:w2.cell? ⟨S,0,none⟩=some (.int .u64 x.1):=(g2.cells S 0 (by simp[hS])).trans (by rw[<-hS];simp[go_sem]);have b1:w2.cell? ⟨S,1,none⟩=some (.int .i64 x.2):=(g2.cells S 1 (by simp[hS])).trans (by rw[<-hS];simp[go_sem]);have R2:RowF w2 base g off cap D:=R.out.of_block (hb2.block g R.out.lt);have hID:I<D.length:=by have:=HJ.out;have:=A.out.1;omega
   obtain⟨o1,o2⟩:=R2.at I _ (getElem?_eq_getElem hID);have f1:w2.frozen? ⟨g,off+I*2,none⟩=false:=R2.frozen _;have f2:w2.frozen? ⟨g,off+I*2+1,none⟩=false:=R2.frozen _;have hIN:(I:Int)<(N:Int):=by have:=HJ.out;omega
   obtain⟨R3,G3⟩:=R2.set I x;have R3':Aside _:=R3;have G4:Aside (w.grownBy ((w2.setCell ⟨g,off+I*2,none⟩ (.int .u64 x.1)).setCell ⟨g,off+I*2+1,none⟩ (.int .i64 x.2)) (some g)):=grown_trans (grown_trans G.out (grown_of_grown _ G2)) G3
   have A3:Aside ((D.set I x).length=d.length/\(D.set I x).take (I+1)=(d.eraseIdx k).take (I+1)/\(D.set I x).drop (J+1)=d.drop (J+1)):=by
    refine⟨by rw[length_set];exact A.out.1,?_,?_⟩
    ·have e1:(d.eraseIdx k)[I]?=some x:=by
      rw[List.getElem?_eraseIdx,if_neg (by omega)];have h3:=HJ.out;rw[<-h3,getElem?_eq_getElem hJd,HX.out]
     rw[List.take_add_one (l:=D.set I x),List.take_add_one (l:=d.eraseIdx k),List.getElem?_set_self (by omega),e1,List.take_set_of_le (le_refl _),A.out.2.1]
    ·rw[List.drop_set_of_lt (by have:=HJ.out;omega)];have h4:=congrArg (List.drop 1) A.out.2.2;rw[List.drop_drop,List.drop_drop] at h4;exact h4
   clear R2 R3 G3 hb2 g2 G2 y1 y2 R G kc0 kc1 wc
   go_wp2
   go_roundg (N-(J+1))
   case measure=>omega
   case rel=>exact⟨I+1,J+1,D.set I x,by go_num,by go_num,by omega,by omega,(show J+1=I+1+1 by have:=HJ.out;omega),le_refl _,R3',A3,G4⟩
  ·have hz:¬(J:Int)<(N:Int):=by omega
   obtain rfl:I=n:=by have:=HJ.out;have:=HNn.out;omega
   have AA:=A.out;have Dn:D.length=I+1:=by rw[AA.1];exact HN.out
   have TD:D.take I=d.eraseIdx k:=by
    rw[AA.2.1,List.take_of_length_le];rw[List.length_eraseIdx,if_pos (by have:=HN.out;omega),HN.out];omega
   obtain⟨w3,hr,R3,G3⟩:=R.out.clear Dn 0 (cap-I);rw[TD] at R3;have hr':∀ty,(Builtin.clear_ #[39] ty #[.slice (some ⟨g,off+I*2,none⟩) 1 (cap-I)]).run Tryz.prog wr=.ok (.tuple #[]) w3:=fun ty=>hr;have F:Aside (RowF w3 base g off cap (d.eraseIdx k)/\w.grownBy w3 (some g)):=⟨R3,grown_trans G.out G3⟩;clear R3 G3 TD Dn AA A R G hr HJ
   go_wp2
   go_ret;exact⟨rfl,F.out⟩
theorem erase_idx:∀(d:List Ent)(k:Nat)(t:Ent),d[k]?=some t->(∀i,i<k->d[i]?≠some t)->d.eraseIdx k=d.erase t
 | [],k,t,h,_=>by simp at h
 | x::d,0,t,h,_=>by simp at h;subst h;simp
 | x::d,k+1,t,h,h2=>by
  have h0:=h2 0 (by omega);simp only[List.getElem?_cons_zero,ne_eq,Option.some.injEq] at h0;rw[List.eraseIdx_cons_succ,List.erase_cons_tail (by simpa using h0),erase_idx d k t (by simpa using h) (fun i hi=>by simpa using h2 (i+1) (by omega))]
theorem erase_at{d:List Ent}(hd:d.Nodup){t:Ent}(ht:t∈d):∃k,∃hk:k<d.length,d[k]=t/\(∀i (hi:i<d.length),d[i]=t->i=k)/\d.eraseIdx k=d.erase t:=by
 obtain⟨k,hk,rfl⟩:=List.getElem_of_mem ht
 have inj:∀i (hi:i<d.length),d[i]=d[k]->i=k:=fun i hi e=>by
  have hp:=List.pairwise_iff_getElem.1 hd;rcases Nat.lt_trichotomy i k with h|h|h
  ·exact absurd e (hp i k hi hk h)
  ·exact h
  ·exact absurd e.symm (hp k i hk hi h)
 refine⟨k,hk,rfl,inj,erase_idx d k _ (getElem?_eq_getElem hk) fun i hi e=>?_⟩;rw[getElem?_eq_getElem (by omega)] at e;injection e with e
 have:=inj i (by omega) e;omega
theorem without_any(v:Value)(base:Nat)(d:List Ent)(t:Ent)(w:World)(h:OwnF w base v d)(hd:d.Nodup)(ht:t∈d) :
  Calls Tryz.prog 307 #[v,.agg #[.int .u64 t.1,.int .i64 t.2]] w fun r w'=>∃v',r=.returned v'/\OwnF w' base v' (d.erase t)/\rowB v'=rowB v/\w.grownBy w' (rowB v):=by
 obtain⟨k,hk,hkt,hu,he⟩:=erase_at hd ht;rcases h with⟨rfl,_⟩|⟨g,off,cap,rfl,hr⟩
 ·cases ht
 have hb:Below w.heap.size w (w.alloc (.cells #[.int .u64 t.1,.int .i64 t.2] 131)):=(Below.refl _ _).alloc (le_refl _) _;have del:=delete_any g off cap base w.heap.size k d t (w.alloc (.cells #[.int .u64 t.1,.int .i64 t.2] 131)) (hr.of_block (hb.block g hr.lt)) hk hkt hu (by simp) (by have:=hr.lt;omega) (by simp[go_sem]) (by simp[go_sem]);have HR:Aside (RowF w base g off cap d):=hr;have hl:(d.erase t).length=d.length-1:=List.length_erase_of_mem ht;rw[hr.rowB];have hmf:∀(fn:Fn)(first cap:Array Value)(w:World),(Instr.makeFunc fn first cap).run Tryz.prog w=.ok (.func fn first cap) w:=fun _ _ _ _=>rfl;rw[he] at del;clear hr hk hkt hu he hd ht;go_enter Tryz.func307,Tryz.ntmps307
 go_wp2_with fail
 refine del.mono ?_;rintro r w1 ⟨rfl,R1,g1⟩
 have F:Aside (OwnF w1 base (.slice (some ⟨g,off,none⟩) (d.length-1) cap) (d.erase t)/\rowB (.slice (some ⟨g,off,none⟩) (d.length-1) cap)=some g/\w.grownBy w1 (some g)):=
  ⟨.inr ⟨g,off,cap,by rw[hl],R1⟩,R1.rowB _,grown_trans (grown_below _ hb) g1⟩
 clear R1 g1 del
 go_wp2
 go_ret;exact⟨_,rfl,F.out⟩
end
section
open Go.RowKit Go.Lib Go.Sort
theorem order_grown(x y:Ent)(w:World)(n:Nat)(os:Array Obj) :
  Calls Tryz.prog 108 #[.agg #[.int .u64 x.1,.int .i64 x.2],.agg #[.int .u64 y.1,.int .i64 y.2]] (grow (w.drewN n) os) fun e w'=>e=.returned (.int .i64 (cfE x y))/\∃p:GrownBy,w'=grow (w.drewN p.n) p.os:=
 Calls.grown_of (order_any x y _)
theorem bsearch_any(a:Option Addr)(cap:Nat)(d:List Ent)(t:Ent)(w:World)(h:IsL w a cap d)(hs:Srt d)(hd:d.length<=100000) :
  Calls Tryz.prog 182 #[.slice a d.length cap,.agg #[.int .u64 t.1,.int .i64 t.2],.func (.func 108) #[] #[]] w fun e w'=>(∃b,e=.returned (.tuple #[.int .i64 (smal d t:Nat),.bool b]))/\Grown w w':=by
 have eg:=enters_of Tryz.func108 (by kernel_rfl) rfl;have H:Aside (IsL w a cap d):=h;have HS:Aside (Srt d):=hs;obtain⟨S,hS⟩:∃S,w.heap.size=S:=⟨_,rfl⟩;obtain⟨w0,hw0⟩:∃w0,w.alloc (.cells #[.int .u64 t.1,.int .i64 t.2] 131)=w0:=⟨_,rfl⟩;have HW:Hid _:=hw0;have g0:Aside (Grown w w0):=by show Grown w w0;rw[<-hw0];exact(Grown.refl w).alloc _
 have s0:S<w0.heap.size:=by rw[<-hw0,<-hS];simp
 have t0:w0.cell? ⟨S,0,none⟩=some (.int .u64 t.1)/\w0.cell? ⟨S,1,none⟩=some (.int .i64 t.2):=by rw[<-hw0,<-hS];exact⟨by simp[go_sem],by simp[go_sem]⟩
 have T0:Aside _:=t0;have mx:=mixed;obtain⟨sm,hsm⟩:∃k,smal d t=k:=⟨_,rfl⟩;rw[hsm];have HSM:Hid (smal d t=sm):=hsm;clear h hs hw0 t0 hsm;go_enter Tryz.func182,Tryz.ntmps182
 go_upto_region 1 with fail
 rw[HW.out]
 go_wp2
 go_loopg [9,10,11] d.length (fun kx s9 s10 s11 wr=>∃i j:Nat,s9=.int .i64 i/\s10=.int .i64 j/\i<=j/\j<=d.length/\j-i<=kx/\Aside (i=0\/∃m,i=m+1/\∃h:m<d.length,ltE d[m] t=true)/\Aside (j=d.length\/∃h:j<d.length,ltE d[j] t=false)/\Aside (Grown w0 wr))
 case atStart=>exact⟨0,d.length,rfl,rfl,by omega,by omega,by omega,.inl rfl,.inl rfl,Grown.refl w0⟩
 case round=>
  obtain⟨i,j,rfl,rfl,hij,hjn,hkx,A1,A2,G1⟩:=hrel;have c3:=fun n os=>((G1.out.trans ⟨n,os,rfl⟩:Grown w0 (grow (wr.drewN n) os)).cells S 0 s0).trans T0.out.1;have c4:=fun n os=>((G1.out.trans ⟨n,os,rfl⟩:Grown w0 (grow (wr.drewN n) os)).cells S 1 s0).trans T0.out.2;by_cases hlt:i<j
  ·obtain⟨m,hh⟩:∃h:Nat,((i:Int)+(j:Int))/2=(h:Int):=⟨(i+j)/2,by omega⟩;have l1:i<=m:=by omega
   have l2:m<j:=by omega
   have l3:(m:Int)<(d.length:Int):=by omega
   obtain⟨b,off,ha,hc⟩:=H.out.at (show m<d.length by omega);subst ha;have c1:=fun n os=>(hc wr (g0.out.trans G1.out) n os).1;have c2:=fun n os=>(hc wr (g0.out.trans G1.out) n os).2;obtain⟨x,hx⟩:∃x,d[m]=x:=⟨_,rfl⟩;rw[hx] at c1 c2;have HX:Hid (d[m]=x):=hx;have lg:=order_grown x t wr;have hcn:=ltOf_cfE x t;obtain⟨C,hC⟩:∃C,cfE x t=C:=⟨_,rfl⟩;rw[hC] at hcn;simp only[hC] at lg;clear hC hx hc
   cases hB:ltE x t with
   | true=>
    rw[hB] at hcn;have hq:C<0:=of_decide_eq_true hcn;have HB:Hid (ltE x t=true):=hB;clear hB hcn
    go_wp2_with fail
    go_quiet_grown (first|(go_at_call 108;exact lg _ _))
    have G2:Aside (Grown w0 (grow (wr.drewN nq) osq)):=G1.out.trans ⟨nq,osq,rfl⟩;clear c1 c2 c3 c4 lg hh;generalize grow (wr.drewN nq) osq=w2 at G2⊢
    go_wp2
    go_roundg (j-(m+1))
    case measure=>omega
    case rel=>exact⟨m+1,j,by go_num,rfl,by omega,hjn,le_refl _,.inr ⟨m,rfl,by omega,by rw[HX.out];exact HB.out⟩,A2,G2⟩
   | false=>
    rw[hB] at hcn;have hq:¬C<0:=of_decide_eq_false hcn;have HB:Hid (ltE x t=false):=hB;clear hB hcn
    go_wp2_with fail
    go_quiet_grown (first|(go_at_call 108;exact lg _ _))
    have G2:Aside (Grown w0 (grow (wr.drewN nq) osq)):=G1.out.trans ⟨nq,osq,rfl⟩;clear c1 c2 c3 c4 lg hh;generalize grow (wr.drewN nq) osq=w2 at G2⊢
    go_wp2
    go_roundg (m-i)
    case measure=>omega
    case rel=>exact⟨i,m,rfl,rfl,by omega,by omega,le_refl _,A1,.inr ⟨by omega,by rw[HX.out];exact HB.out⟩,G2⟩
  ·have hz:¬(i:Int)<(j:Int):=by omega
   obtain rfl:i=j:=by omega
   have hsm:smal d t=i:=smal_place HS.out t i hjn (by rcases A1.out with h|⟨m,rfl,h,e⟩;exact .inl h;exact .inr ⟨h,e⟩) A2.out;obtain rfl:i=sm:=hsm.symm.trans HSM.out;by_cases hn:i<d.length
   ·obtain⟨b,off,ha,hc⟩:=H.out.at hn;subst ha;have c1:=fun n os=>(hc wr (g0.out.trans G1.out) n os).1;have c2:=fun n os=>(hc wr (g0.out.trans G1.out) n os).2;obtain⟨x,hx⟩:∃x,d[i]=x:=⟨_,rfl⟩;rw[hx] at c1 c2;have lg:=order_grown x t wr;obtain⟨C,hC⟩:∃C,cfE x t=C:=⟨_,rfl⟩;simp only[hC] at lg;have hz2:(i:Int)<(d.length:Int):=by omega
    clear hC hx hc hsm
    go_wp2_with fail
    go_quiet_grown (first|(go_at_call 108;exact lg _ _))
    have G2:Aside (Grown w0 (grow (wr.drewN nq) osq)):=G1.out.trans ⟨nq,osq,rfl⟩;generalize grow (wr.drewN nq) osq=w2 at G2⊢
    go_wp2
    refine bodyPost_ret (v:=.tuple #[.int .i64 i,.bool (C==0)]) (by simp[results,Tryz.results182,go_sem]) rfl ⟨⟨_,rfl⟩,g0.out.trans G2.out⟩
   ·have hz2:¬(i:Int)<(d.length:Int):=by omega
    have hd2:decide ((i:Int)<(d.length:Int))=false:=decide_eq_false hz2;clear hsm c3 c4
    go_wp2_with fail
    go_quiet (fail)
    go_wp2
    refine bodyPost_ret (v:=.tuple #[.int .i64 i,.bool false]) (by simp[results,Tryz.results182,go_sem]) rfl ⟨⟨_,rfl⟩,g0.out.trans (G1.out.drewN _)⟩
end
end Go.Proofs.YthpgfmmpjoodkaaGreatDoor.Wl
