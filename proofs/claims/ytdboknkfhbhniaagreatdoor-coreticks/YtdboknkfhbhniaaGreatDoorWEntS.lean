import Derived.Test.YtdboknkfhbhniaaGreatDoorWTmF
import Derived.Shelf.Strconv.Itoa0
import Derived.Deep.LoopGhost
import Derived.Laws.CopyRow
open List(append_assoc length_drop length_take take_of_length_le)
open Nat(le_refl)
namespace Go.Proofs.YtdboknkfhbhniaaGreatDoor.Wl
set_option maxHeartbeats 8000000
set_option maxRecDepth 100000
set_option linter.unusedVariables false
section
open Go.Sort
def Srt(d:List Ent):Prop:=d.Pairwise (fun x y=>ltE y x=false)
theorem Srt.uniq{c d:List Ent}(hc:Srt c)(hd:Srt d)(hp:c.Perm d):c=d:=
 List.Perm.eq_of_pairwise (le:=fun x y=>ltE y x=false) (fun a b _ _ h1 h2=>totE a b h2 h1) hc hd hp
theorem Srt.nil:Srt []:=List.Pairwise.nil
theorem Srt.drop{d:List Ent}(h:Srt d)(k:Nat):Srt (d.drop k):=List.Pairwise.sublist (List.drop_sublist k d) h
theorem Srt.get{d:List Ent}(h:Srt d){i j:Nat}(hij:i<j)(hj:j<d.length):ltE d[j] d[i]=false:=List.pairwise_iff_getElem.1 h i j (by omega) hj hij
theorem Srt.le{d:List Ent}(h:Srt d){i j:Nat}(hij:i≤j)(hj:j<d.length):ltE d[j] d[i]=false:=by
 by_cases e:i=j
 ·subst e;exact swoE.irrefl _
 ·exact h.get (by omega) hj
def sortE(d:List Ent):List Ent:=d.mergeSort (fun x y=>!ltE y x)
theorem sortE_perm(d:List Ent):(sortE d).Perm d:=List.mergeSort_perm _ _
theorem sortE_len(d:List Ent):(sortE d).length=d.length:=(sortE_perm d).length_eq
theorem sortE_srt(d:List Ent):Srt (sortE d):=by
 have h:=List.pairwise_mergeSort (le:=fun x y=>!ltE y x) (fun a b c h1 h2=>by
   simp only[Bool.not_eq_true'] at h1 h2⊢
   exact swoE.ntrans c b a h2 h1) (fun a b=>by
   cases h:ltE b a with
   | false=>simp
   | true=>simp[swoE.asymmA h]) d
 exact h.imp (fun h=>by simpa using h)
theorem sortE_of{c d:List Ent}(h:Srt c)(p:c.Perm d):c=sortE d:=h.uniq (sortE_srt d) (p.trans (sortE_perm d).symm)
theorem sortE_id{d:List Ent}(h:Srt d):sortE d=d:=(sortE_of h (List.Perm.refl _)).symm
def insL:List Ent→Ent→List Ent
 | [],e=>[e]
 | x::r,e=>if ltE e x then e::x::r else x::insL r e
theorem insL_perm:∀(d:List Ent)(e:Ent),(insL d e).Perm (e::d)
 | [],e=>List.Perm.refl _
 | x::r,e=>by
  unfold insL
  split
  ·exact List.Perm.refl _
  ·exact((insL_perm r e).cons x).trans (List.Perm.swap e x r)
theorem insL_len(d:List Ent)(e:Ent):(insL d e).length=d.length+1:=(insL_perm d e).length_eq
theorem insL_srt:∀(d:List Ent)(e:Ent),Srt d→Srt (insL d e)
 | [],e,_=>by simp[insL,Srt]
 | x::r,e,h=>by
  obtain⟨h1,h2⟩:=List.pairwise_cons.1 h
  unfold insL
  split
  ·next c=>
   refine List.pairwise_cons.2 ⟨fun z hz=>?_,h⟩
   rcases List.mem_cons.1 hz with rfl|hz
   ·exact swoE.asymmA c
   ·exact swoE.ntrans _ _ _ (h1 z hz) (swoE.asymmA c)
  ·next c=>
   refine List.pairwise_cons.2 ⟨fun z hz=>?_,insL_srt r e h2⟩
   rcases List.mem_cons.1 ((insL_perm r e).mem_iff.1 hz) with rfl|hz
   ·simpa using c
   ·exact h1 z hz
theorem insL_eq:∀(d:List Ent)(e:Ent)(k:Nat),k≤d.length→(∀i (hi:i<k) (h:i<d.length),ltE e d[i]=false)→(∀h:k<d.length,ltE e d[k]=true)→d.take k++e::d.drop k=insL d e
 | [],e,k,hk,_,_=>by simp[insL]
 | x::r,e,0,hk,h1,h2=>by
  have:=h2 (by simp)
  simp at this
  simp[insL,this]
 | x::r,e,k+1,hk,h1,h2=>by
  have h0:=h1 0 (by omega) (by simp)
  simp at h0
  have ih:=insL_eq r e k (by simpa using hk) (fun i hi h=>h1 (i+1) (by omega) (by simpa using h)) (fun h=>h2 (by simpa using h))
  simp[insL,h0,ih]
def smal(d:List Ent)(e:Ent):Nat:=d.countP (fun x=>ltE x e)
theorem smal_le(d:List Ent)(e:Ent):smal d e≤d.length:=List.countP_le_length
theorem smal_all{d:List Ent}{e:Ent}(h:∀x∈d,ltE x e=true):smal d e=d.length:=by
 unfold smal
 rw[List.countP_eq_length]
 exact h
theorem smal_none{d:List Ent}{e:Ent}(h:∀x∈d,ltE x e=false):smal d e=0:=by
 unfold smal
 rw[List.countP_eq_zero]
 intro x hx
 rw[h x hx]
 simp
theorem smal_split(d:List Ent)(e:Ent)(k:Nat):smal d e=smal (d.take k) e+smal (d.drop k) e:=by
 conv=>lhs;rw[←List.take_append_drop k d]
 unfold smal
 exact List.countP_append
theorem smal_place{d:List Ent}(hs:Srt d)(e:Ent)(i:Nat)(hi:i≤d.length)(h1:i=0∨∃h:i-1<d.length,ltE d[i-1] e=true)(h2:i=d.length∨∃h:i<d.length,ltE d[i] e=false):smal d e=i:=by
 rw[smal_split d e i,smal_all (d:=d.take i),smal_none (d:=d.drop i)]
 ·simp;omega
 ·intro x hx
  obtain⟨j,hj,rfl⟩:=List.getElem_of_mem hx
  rw[length_drop] at hj
  rw[List.getElem_drop]
  rcases h2 with h2|⟨h,h2⟩
  ·omega
  ·exact swoE.ntrans _ _ _ (hs.le (show i≤i+j by omega) (by omega)) h2
 ·intro x hx
  obtain⟨j,hj,rfl⟩:=List.getElem_of_mem hx
  rw[length_take] at hj
  rw[List.getElem_take]
  rcases h1 with h1|⟨h,h1⟩
  ·omega
  ·cases c:ltE d[j] e with
   | true=>rfl
   | false=>
    have:=swoE.ntrans _ _ _ (hs.le (show j≤i-1 by omega) h) c
    rw[this] at h1;cases h1
end
section
open Go.RowKit Go.Lib Go.Sort Go.Shelf
theorem RowF.of_cells{w:World}{base g off cap:Nat}{d:List Ent}{cur:Array Value}(hb:base≤g)(hp:0<cap)(hl:d.length≤cap)(hm:cap≤maxLen)(hg:w.heap[g]?=some (.cells cur 108 (0,0)))(hs:cur.size=off+cap*2)(hc:∀j,j<d.length*2→cur[off+j]?=(flat d)[j]?) :
  RowF w base g off cap d:=by
 refine⟨hb,hp,hl,hm,cur.toList.take off,cur.toList.drop off,by rw[List.take_append_drop];exact hg,by simp;omega,by simp;omega,?_⟩
 apply List.ext_getElem?
 intro j
 by_cases hj:j<d.length*2
 ·rw[List.getElem?_take_of_lt hj,List.getElem?_drop,←hc j hj]
  simp
 ·rw[List.getElem?_eq_none (by simp;omega),List.getElem?_eq_none (by rw[flat_len];omega)]
theorem RowF.row{w:World}{base g off cap:Nat}{d:List Ent}(h:RowF w base g off cap d):RE w g off d.toArray:=by
 refine⟨encE_len,encE_one,?_,h.lt⟩
 intro j hj
 have hj':j<d.length*2:=by simpa using hj
 rw[get_flatK _ _ _ _ (by simpa using hj')]
 have hx:d[j/2]?=some (d[j/2]'(by omega)):=List.getElem?_eq_getElem (by omega)
 have e1:d.toArray[j/2]! = d[j/2]'(by omega):=by rw[getElem!_pos d.toArray (j/2) (by simpa using (by omega:j/2<d.length))];rfl
 obtain⟨g1,g2⟩:=flat_at d _ _ hx
 constructor
 ·rw[h.cell j hj',e1]
  by_cases e:j=j/2*2
  ·have:j%2=0:=by omega
   rw[←e] at g1
   rw[g1,this];rfl
  ·have e':j/2*2+1=j:=by omega
   have:j%2=1:=by omega
   rw[e'] at g2
   rw[g2,this];rfl
 ·exact h.frozen _
theorem RowF.sorted{w:World}{base g off cap n:Nat}{d c:List Ent}{os:Array Obj}(h:RowF w base g off cap d)(hl:c.length=d.length) :
  RowF (sortWorldK encE 2 w g off n c.toArray os) base g off cap c∧w.grownBy (sortWorldK encE 2 w g off n c.toArray os) (some g):=by
 have R:=h.row
 have S:SE w g off c.toArray (sortWorldK encE 2 w g off n c.toArray os):=⟨n,os,rfl⟩
 obtain⟨P,Q,m1,m2,m3,m4⟩:=h.mem
 have hW:(sortWorldK encE 2 w g off n c.toArray os).heap[g]?=some (.cells (putCells id off (flatK encE 2 c.toArray) (P++Q).toArray) 108 (0,0)):=by
  unfold sortWorldK
  rw[heap_grow_old _ _ (by rw[size_putRowK];exact R.hblk)]
  show(w.heap.modify g _)[g]?=_
  rw[Array.getElem?_modify,if_pos rfl,m1]
  rfl
 have hsz:c.toArray.size=d.toArray.size:=by simpa using hl
 refine⟨RowF.of_cells h.low h.pos (by rw[hl];exact h.le) h.big hW (by simp[putCells];omega) (fun j hj=>?_),⟨rfl,rfl,rfl,SWK.le S,fun k hk hne=>?_⟩⟩
 ·rw[←cell_of_row _ g _ _ _ _ hW]
  have hu:(flat c)[j]?=some ((flat c)[j]'(by rw[flat_len];exact hj)):=List.getElem?_eq_getElem _
  refine(flat_get c (fun j=>(sortWorldK encE 2 w g off n c.toArray os).cell? ⟨g,off+j,none⟩) (fun i x hx=>?_) j _ hu).trans hu.symm
  have hi:i<c.toArray.size:=by simpa using (List.getElem?_eq_some_iff.1 hx).1
  have e:c.toArray[i]! = x:=by
   rw[getElem!_pos c.toArray i hi]
   have:=(List.getElem?_eq_some_iff.1 hx).2
   simpa using this
  have h0:=se_c0 S R hsz hi
  have h1:=se_c1 S R hsz hi
  rw[e] at h0 h1
  exact⟨h0,h1⟩
 ·unfold sortWorldK
  rw[heap_grow_old _ _ (by rw[size_putRowK];exact hk)]
  show(w.heap.modify g _)[k]?=_
  rw[Array.getElem?_modify,if_neg (fun e=>hne (by rw[e]))]
theorem ltOf_eq:ltOf cfE=ltE:=funext fun x=>funext fun y=>ltOf_cfE x y
theorem aggT:∀w,(isAgg 108).run Tryz.prog w=.ok true w:=Tryz.isAgg108
theorem sizeT:∀w,(Go.sizeOf 108).run Tryz.prog w=.ok 2 w:=Tryz.sizeOf108
theorem sort_any(v:Value)(base:Nat)(d:List Ent)(w:World)(h:OwnF w base v d)(hdl:d.length≤1000000) :
  Calls Tryz.prog 87 #[v,.func (.func 88) #[] #[]] w fun e w'=>e=.returned (.tuple #[])∧OwnF w' base v (sortE d)∧w.grownBy w' (rowB v):=by
 have eg:=enters_of Tryz.func88 (by kernel_rfl) rfl
 have none:∀(p:Option Addr)(cap:Nat),d=[]→v=.slice p 0 cap→Calls Tryz.prog 87 #[v,.func (.func 88) #[] #[]] w fun e w'=>e=.returned (.tuple #[])∧OwnF w' base v (sortE d)∧w.grownBy w' (rowB v):=fun p cap hd hv=>by
  have hc:=AnyF.slices_SortFunc_none sortT p cap (.func (.func 88) #[] #[]) w
  change Calls Tryz.prog 87 _ _ _ at hc
  rw[hv]
  refine hc.mono ?_
  rintro e w' ⟨rfl,rfl⟩
  rw[←hv]
  refine⟨rfl,?_,grown_refl _ _⟩
  rw[hd] at h⊢
  rw[sortE_id Srt.nil]
  exact h
 by_cases hd:d=[]
 ·obtain⟨a,cap,hv,_⟩:=h.isL
  rw[hd] at hv
  exact none a cap hd hv
 ·rcases h with⟨h0,_⟩|⟨g,off,cap,rfl,hr⟩
  ·exact absurd h0 hd
  have hlen:=hr.isL.len
  have R:=hr.row
  have hsz:d.toArray.size<4611686018427387904:=by simp;omega
  have hc:=AnyQ.slices_SortFunc_total sortT 2 aggT sizeT encE encE_len encE_one cfE (by rw[ltOf_eq];exact swoE) 88 #[] g off cap d.toArray w eg (fun _ _ _ _ x y=>order_any x y _) R.hH R.hblk hsz (by rw[ltOf_eq];exact totE)
  change Calls Tryz.prog 87 _ _ _ at hc
  rw[ltOf_eq] at hc
  rw[hr.rowB]
  have e1:d.toArray.size=d.length:=by simp
  rw[e1] at hc
  refine hc.mono ?_
  rintro e w' ⟨rfl,n,os,rfl⟩
  obtain⟨r1,r2⟩:=hr.sorted (n:=n) (os:=os) (sortE_len d)
  exact⟨rfl,.inr ⟨g,off,cap,by rw[sortE_len],r1⟩,r2⟩
theorem len64_any(x:Nat)(hx:x<18446744073709551616)(w:World):Calls Tryz.prog 203 #[.int .u64 x] w fun e w'=>e=.returned (.int .i64 (Go.Lib.bitLen x:Nat))∧w'=w:=by
 have L:=SlLaysF0.n15.bits (P:=Tryz.prog) (ρ:=sortT_ren) {sortT with}
 have hc:=Any.bits_Len64 (P:=Tryz.prog) {L with} (x:Int) w (by omega) (by omega)
 rw[Int.toNat_natCast] at hc
 exact hc
end
section
open Go.RowKit Go.Lib Go.Sort
theorem lev_le10(a b:Nat)(ha:a<B64)(hb:b<B64):lev a b≤10:=by
 refine(lev_le ha hb).2 ?_
 unfold same
 rw[Nat.div_eq_of_lt (Nat.lt_of_lt_of_le ha (by decide)),Nat.div_eq_of_lt (Nat.lt_of_lt_of_le hb (by decide))]
theorem levelOf_any(a b:Nat)(ha:a<B64)(hb:b<B64)(w:World) :
  Calls Tryz.prog 189 #[.int .u64 a,.int .u64 b] w fun e w'=>e=.returned (.int .i64 (lev a b:Nat))∧w'=w:=by
 have hB:B64=18446744073709551616:=rfl
 have hx:a ^^^ b<2^64:=Nat.xor_lt_two_pow (show a<2^64 from ha) (show b<2^64 from hb)
 have hy:(a ^^^ b) ||| 1<2^64:=(or_one_lt _ _ (by omega)).2 hx
 have e1:=bits_xor_u64_nat a b (by omega) (by omega)
 have e2:bits BinOp.or IntKind.u64 ((a ^^^ b:Nat):Int) 1=(((a ^^^ b) ||| 1:Nat):Int):=bits_or_u64_nat _ 1 (by omega) (by omega)
 have hl:=bitLen_pos _ hy (or_one_ne _)
 have hl2:=(bitLen_iff _ 64 hy (or_one_ne _)).2 hy
 have hlev:lev a b=(Go.Lib.bitLen ((a ^^^ b) ||| 1)-1)/6:=rfl
 obtain⟨X,hX⟩:∃X,(a ^^^ b) ||| 1=X:=⟨_,rfl⟩
 obtain⟨Z,hZ⟩:∃X,a ^^^ b=X:=⟨_,rfl⟩
 rw[hX] at hy hl hl2 hlev
 have len:=fun w=>len64_any X (by omega) w
 rw[hZ] at e1
 rw[hX,hZ] at e2
 obtain⟨L,hL⟩:∃L,Go.Lib.bitLen X=L:=⟨_,rfl⟩
 simp only[hL] at len hl hl2 hlev
 have HV:Hid _:=hlev
 clear hX hZ hx hL hlev
 go_enter Tryz.func189,Tryz.ntmps189
 go_wp2_with (go_at_call 203;refine(len _).mono ?_;rintro e w' ⟨rfl,rfl⟩)
 go_ret
 refine⟨ret_i64 ?_,rfl⟩
 rw[HV.out]
 omega
def Hd(w:World)(B:Nat)(hd:Nat→Value):Prop:=∃cs:Array Value,w.heap[B]?=some (.cells cs 175 (0,0))∧cs.size=263∧∀k,k<263→cs[k]?=some (hd k)
theorem Hd.cell{w:World}{B:Nat}{hd:Nat→Value}(h:Hd w B hd){k:Nat}(hk:k<263):w.cell? ⟨B,k,none⟩=some (hd k):=by
 obtain⟨cs,h1,h2,h3⟩:=h
 rw[cell_of_row _ _ _ _ _ _ h1,h3 k hk]
theorem Hd.frozen{w:World}{B:Nat}{hd:Nat→Value}(h:Hd w B hd)(k:Nat):w.frozen? ⟨B,k,none⟩=false:=by
 obtain⟨cs,h1,h2,h3⟩:=h
 simp[World.frozen?,h1]
theorem Hd.lt{w:World}{B:Nat}{hd:Nat→Value}(h:Hd w B hd):B<w.heap.size:=by
 obtain⟨cs,h1,h2,h3⟩:=h
 exact lt_of_block h1
theorem Hd.of_block{w w':World}{B:Nat}{hd:Nat→Value}(h:Hd w B hd)(e:w'.heap[B]?=w.heap[B]?):Hd w' B hd:=by
 obtain⟨cs,h1,h2,h3⟩:=h
 exact⟨cs,e.trans h1,h2,h3⟩
def hset(hd:Nat→Value)(k:Nat)(v:Value):Nat→Value:=fun j=>if j=k then v else hd j
theorem hset_same(hd:Nat→Value)(k:Nat)(v:Value):hset hd k v k=v:=if_pos rfl
theorem hset_ne(hd:Nat→Value){k j:Nat}(v:Value)(h:j≠k):hset hd k v j=hd j:=if_neg h
theorem Hd.set{w:World}{B:Nat}{hd:Nat→Value}(h:Hd w B hd)(k:Nat)(v:Value):Hd (w.setCell ⟨B,k,none⟩ v) B (hset hd k v):=by
 obtain⟨cs,h1,h2,h3⟩:=h
 refine⟨_,heap_setCell_same _ _ _ _ _ _ h1,by simpa using h2,fun j hj=>?_⟩
 rw[Array.getElem?_setIfInBounds]
 by_cases e:k=j
 ·subst e
  rw[if_pos rfl,if_pos (by omega),hset_same]
 ·rw[if_neg e,hset_ne _ _ (fun e'=>e e'.symm),h3 j hj]
theorem Hd.typ{w:World}{B:Nat}{hd:Nat→Value}(h:Hd w B hd):∃cs,w.heap[B]?=some (.cells cs 175 (0,0)):=by
 obtain⟨cs,h1,_⟩:=h
 exact⟨cs,h1⟩
theorem place_any(B now due:Nat)(hn:now<B64)(hd:due<B64)(w:World)(hc:w.cell? ⟨B,0,none⟩=some (.int .u64 now)) :
  Calls Tryz.prog 133 #[.pointer (some ⟨B,0,none⟩),.int .u64 due] w fun e w'=>e=.returned (.tuple #[.int .i64 ((plc now due).1:Nat),.int .i64 ((plc now due).2:Nat)])∧w'=w:=by
 obtain⟨A,hA⟩:∃A,max due now=A:=⟨_,rfl⟩
 have hAb:A<B64:=by omega
 have e1:(plc now due).1=lev now A:=by unfold plc;rw[hA]
 have e2:(plc now due).2=slt A (lev now A):=by unfold plc;rw[hA]
 rw[e1,e2]
 have hl:=lev_le10 now A hn hAb
 have lv:=fun w=>levelOf_any now A hn hAb w
 obtain⟨L,hL⟩:∃L,lev now A=L:=⟨_,rfl⟩
 simp only[hL] at lv hl⊢
 have sl:=fun w=>slotOf_any A L hAb hl w
 obtain⟨Z,hZ⟩:∃Z,slt A L=Z:=⟨_,rfl⟩
 simp only[hZ] at sl⊢
 clear hn hd hAb
 have hm:max (due:Int) (now:Int)=(A:Int):=by omega
 clear hA e1 e2 hL hZ
 go_enter Tryz.func133,Tryz.ntmps133
 go_wp2_with (first|(go_at_call 189;refine(lv _).mono ?_;rintro e w' ⟨rfl,rfl⟩)|(go_at_call 190;refine(sl _).mono ?_;rintro e w' ⟨rfl,rfl⟩))
 refine bodyPost_ret (v:=.tuple #[.int .i64 L,.int .i64 Z]) (by simp[results,Tryz.results133,go_sem]) rfl ⟨rfl,rfl⟩
def msk(now thn l:Nat):Nat:=if l<lev now thn then 18446744073709551615 else if l=lev now thn then 2^(slt thn l+1)-1 else 0
theorem msk_bit(now thn l s:Nat)(hs:s<64):(msk now thn l).testBit s=pass now thn l s:=by
 unfold msk pass
 by_cases h1:l<lev now thn
 ·rw[if_pos h1,show(18446744073709551615:Nat)=2^64-1 from rfl,Nat.testBit_two_pow_sub_one]
  simp[h1,hs]
 ·rw[if_neg h1]
  by_cases h2:l=lev now thn
  ·rw[if_pos h2,Nat.testBit_two_pow_sub_one]
   simp[h2]
   omega
  ·rw[if_neg h2];simp[h1,h2]
theorem msk_lt(now thn l:Nat):msk now thn l<B64:=by
 unfold msk
 split
 ·decide
 ·split
  ·have:2^(slt thn l+1)≤2^64:=Nat.pow_le_pow_right (by omega) (by have:=slt_lt thn l;omega)
   have:B64=2^64:=rfl
   omega
  ·decide
def mskF(now thn k l:Nat):Value:=.int .u64 ((if l<k then msk now thn l else 0:Nat):Int)
theorem passed_any(now thn:Nat)(hn:now<B64)(ht:thn<B64)(w:World) :
  Calls Tryz.prog 130 #[.int .u64 now,.int .u64 thn] w fun e w'=>e=.returned (.agg #[.int .u64 (msk now thn 0:Nat),.int .u64 (msk now thn 1:Nat),.int .u64 (msk now thn 2:Nat),.int .u64 (msk now thn 3:Nat)])∧Below w.heap.size w w':=by
 have lv:=fun w=>levelOf_any now thn hn ht w
 have hl:=lev_le10 now thn hn ht
 obtain⟨S,hS⟩:∃S,w.heap.size=S:=⟨_,rfl⟩
 obtain⟨L,hL⟩:∃L,lev now thn=L:=⟨_,rfl⟩
 have HL:Hid (lev now thn=L):=hL
 simp only[hL] at lv hl
 have sl:Aside (∀(l:Nat) w,l≤10→Calls Tryz.prog 190 #[.int .u64 thn,.int .i64 l] w fun e w'=>e=.returned (.int .i64 (slt thn l:Nat))∧w'=w):=fun l w hl=>slotOf_any thn l ht hl w
 clear hL hn ht
 obtain⟨M0,hM0⟩:∃M,msk now thn 0=M:=⟨_,rfl⟩
 obtain⟨M1,hM1⟩:∃M,msk now thn 1=M:=⟨_,rfl⟩
 obtain⟨M2,hM2⟩:∃M,msk now thn 2=M:=⟨_,rfl⟩
 obtain⟨M3,hM3⟩:∃M,msk now thn 3=M:=⟨_,rfl⟩
 rw[hM0,hM1,hM2,hM3]
 have HM:Aside (msk now thn 0=M0∧msk now thn 1=M1∧msk now thn 2=M2∧msk now thn 3=M3):=⟨hM0,hM1,hM2,hM3⟩
 obtain⟨w0,hw0⟩:∃w0,(w.alloc (.cells #[.int .u64 0,.int .u64 0,.int .u64 0,.int .u64 0] 239)).alloc (.cells #[.int .u64 0,.int .u64 0,.int .u64 0,.int .u64 0] 239)=w0:=⟨_,rfl⟩
 have HW:Hid _:=hw0
 have I0:Aside (w0.heap[S]?=some (.cells #[.int .u64 0,.int .u64 0,.int .u64 0,.int .u64 0] 239 (0,0))∧w0.heap[S+1]?=some (.cells #[mskF now thn 0 0,mskF now thn 0 1,mskF now thn 0 2,mskF now thn 0 3] 239 (0,0))∧Below S w w0):=by
  refine⟨?_,?_,?_⟩
  ·rw[←hw0,←hS,heap_alloc_old _ _ (by simp)];exact heap_alloc_new w _
  ·rw[←hw0,←hS];have:=heap_alloc_new (w.alloc (.cells #[.int .u64 0,.int .u64 0,.int .u64 0,.int .u64 0] 239)) (.cells #[.int .u64 0,.int .u64 0,.int .u64 0,.int .u64 0] 239);simpa [mskF] using this
  ·rw[←hw0,←hS];exact((Below.refl _ _).alloc (le_refl _) _).alloc (by simp) _
 clear hw0 hM0 hM1 hM2 hM3
 go_enter Tryz.func130,Tryz.ntmps130
 go_upto_region 2 with fail
 rw[HW.out]
 go_wp2_with (go_at_call 189;refine(lv _).mono ?_;rintro e w' ⟨rfl,rfl⟩)
 go_loopg [7,11,14,20] 4 (fun kx s7 s11 s14 s20 wr=>∃k:Nat,s11=.int .i64 k∧k≤4∧4-k≤kx∧Aside (wr.heap[S]?=some (.cells #[.int .u64 0,.int .u64 0,.int .u64 0,.int .u64 0] 239 (0,0))∧wr.heap[S+1]?=some (.cells #[mskF now thn k 0,mskF now thn k 1,mskF now thn k 2,mskF now thn k 3] 239 (0,0))∧Below S w wr))
 case atStart=>exact⟨0,rfl,by omega,by omega,I0⟩
 case round=>
  obtain⟨k,rfl,hk,hkx,I⟩:=hrel
  have hSr:S+1<wr.heap.size:=lt_of_block I.out.2.1
  by_cases hlt:k<4
  ·have hz:(k:Int)<4:=by omega
   have c0:wr.cell? ⟨S+1,k,none⟩=some (.int .u64 0):=by
    rw[cell_of_row _ _ _ _ _ _ I.out.2.1]
    have:k=0∨k=1∨k=2∨k=3:=by omega
    rcases this with rfl|rfl|rfl|rfl<;>simp[mskF]
   have f0:wr.frozen? ⟨S+1,k,none⟩=false:=by simp[World.frozen?,I.out.2.1]
   have nx:Aside (∀V:Nat,V=msk now thn k→(wr.setCell ⟨S+1,k,none⟩ (.int .u64 V)).heap[S]?=some (.cells #[.int .u64 0,.int .u64 0,.int .u64 0,.int .u64 0] 239 (0,0))∧(wr.setCell ⟨S+1,k,none⟩ (.int .u64 V)).heap[S+1]?=some (.cells #[mskF now thn (k+1) 0,mskF now thn (k+1) 1,mskF now thn (k+1) 2,mskF now thn (k+1) 3] 239 (0,0))∧Below S w (wr.setCell ⟨S+1,k,none⟩ (.int .u64 V))):=fun V hV=>by
    refine⟨?_,?_,I.out.2.2.setCell (by simp) _⟩
    ·rw[heap_setCell_other _ _ _ _ (by simp)];exact I.out.1
    ·rw[heap_setCell_same _ _ _ _ _ _ I.out.2.1,hV]
     have:k=0∨k=1∨k=2∨k=3:=by omega
     rcases this with rfl|rfl|rfl|rfl<;>simp[mskF]
   by_cases c1:k<L
   ·have q1:(k:Int)<(L:Int):=by omega
    have hv:18446744073709551615=msk now thn k:=by unfold msk;rw[HL.out,if_pos c1]
    have N1:=nx.out _ hv
    have N2:Aside _:=N1
    clear nx I N1 hv
    go_wp2
    go_roundg (4-(k+1))
    case measure=>omega
    case rel=>exact⟨k+1,by go_num,by omega,le_refl _,N2⟩
   ·have q1:¬(k:Int)<(L:Int):=by omega
    by_cases c2:k=L
    ·subst c2
     have s1:=fun w=>sl.out k w (by omega)
     have hsl:=slt_lt thn k
     obtain⟨Z,hZ⟩:∃Z,slt thn k=Z:=⟨_,rfl⟩
     simp only[hZ] at s1 hsl
     obtain⟨V,hV⟩:∃V:Nat,V=2^(Z+1)-1:=⟨_,rfl⟩
     have hv:V=msk now thn k:=by unfold msk;rw[HL.out,if_neg c1,if_pos rfl,hZ,hV]
     have N2:Aside _:=nx.out _ hv
     have hp:2^(Z+1)≤2^64:=Nat.pow_le_pow_right (by omega) (by omega)
     have hp0:0<2^(Z+1):=Nat.two_pow_pos _
     have hW:IntKind.u64.wrap (IntKind.u64.wrap (2*2^Z)-1)=(V:Int):=by
      have e:(2*2^Z:Int)=((2^(Z+1):Nat):Int):=by rw[Nat.pow_succ];push_cast;rw[Int.mul_comm]
      rw[e,IntKind.wrap_u64,IntKind.wrap_u64,hV]
      omega
     have HW2:Hid _:=hW
     clear nx I hv hZ hW
     go_wp2_with (go_at_call 190;refine(s1 _).mono ?_;rintro e w' ⟨rfl,rfl⟩)
     rw[HW2.out]
     go_roundg (4-(k+1))
     case measure=>omega
     case rel=>exact⟨k+1,by go_num,by omega,le_refl _,N2⟩
    ·have q2:¬(k:Int)=(L:Int):=by omega
     have q3:((k:Int)==(L:Int))=false:=by simp;omega
     have hv:0=msk now thn k:=by unfold msk;rw[HL.out,if_neg c1,if_neg c2]
     have I2:Aside (wr.heap[S]?=some (.cells #[.int .u64 0,.int .u64 0,.int .u64 0,.int .u64 0] 239 (0,0))∧wr.heap[S+1]?=some (.cells #[mskF now thn (k+1) 0,mskF now thn (k+1) 1,mskF now thn (k+1) 2,mskF now thn (k+1) 3] 239 (0,0))∧Below S w wr):=by
      refine⟨I.out.1,?_,I.out.2.2⟩
      rw[I.out.2.1]
      have:k=0∨k=1∨k=2∨k=3:=by omega
      rcases this with rfl|rfl|rfl|rfl<;>simp[mskF,←hv]
     clear nx I hv
     go_wp2
     go_roundg (4-(k+1))
     case measure=>omega
     case rel=>exact⟨k+1,by go_num,by omega,le_refl _,I2⟩
  ·obtain rfl:k=4:=by omega
   have i1:=I.out.2.1
   simp only[mskF,show(0:Nat)<4 by omega,show(1:Nat)<4 by omega,show(2:Nat)<4 by omega,show(3:Nat)<4 by omega,if_true,HM.out.1,HM.out.2.1,HM.out.2.2.1,HM.out.2.2.2] at i1
   have e0:wr.cell? ⟨S+1,0,none⟩=some (.int .u64 M0):=by rw[cell_of_row _ _ _ _ _ _ i1];rfl
   have e1:wr.cell? ⟨S+1,1,none⟩=some (.int .u64 M1):=by rw[cell_of_row _ _ _ _ _ _ i1];rfl
   have e2:wr.cell? ⟨S+1,2,none⟩=some (.int .u64 M2):=by rw[cell_of_row _ _ _ _ _ _ i1];rfl
   have e3:wr.cell? ⟨S+1,3,none⟩=some (.int .u64 M3):=by rw[cell_of_row _ _ _ _ _ _ i1];rfl
   have z:∀j,j<4→wr.cell? ⟨S,j,none⟩=some (.int .u64 0)∧wr.frozen? ⟨S,j,none⟩=false:=fun j hj=>by
    refine⟨?_,by simp[World.frozen?,I.out.1]⟩
    rw[cell_of_row _ _ _ _ _ _ I.out.1]
    have:j=0∨j=1∨j=2∨j=3:=by omega
    rcases this with rfl|rfl|rfl|rfl<;>rfl
   obtain⟨z0,y0⟩:=z 0 (by omega)
   obtain⟨z1,y1⟩:=z 1 (by omega)
   obtain⟨z2,y2⟩:=z 2 (by omega)
   obtain⟨z3,y3⟩:=z 3 (by omega)
   have BB:Aside (Below S w ((((wr.setCell ⟨S,0,none⟩ (.int .u64 M0)).setCell ⟨S,1,none⟩ (.int .u64 M1)).setCell ⟨S,2,none⟩ (.int .u64 M2)).setCell ⟨S,3,none⟩ (.int .u64 M3))):=(((I.out.2.2.setCell (by simp) _).setCell (by simp) _).setCell (by simp) _).setCell (by simp) _
   clear I i1 z
   go_wp2
   refine bodyPost_ret (v:=.agg #[.int .u64 M0,.int .u64 M1,.int .u64 M2,.int .u64 M3]) (by simp[results,Tryz.results130,go_sem,z0,z1,z2,z3]) rfl ⟨rfl,by first|exact BB.out|(rw[hS];exact BB.out)⟩
end
section
open Go.RowKit Go.Lib Go.Sort
theorem IsL.at{w:World}{a:Option Addr}{cap:Nat}{d:List Ent}(h:IsL w a cap d){i:Nat}(hi:i<d.length):∃b off,a=some ⟨b,off,none⟩∧∀W,Grown w W→∀n os,(grow (W.drewN n) os).cell? ⟨b,off+i*2,none⟩=some (.int .u64 d[i].1)∧(grow (W.drewN n) os).cell? ⟨b,off+i*2+1,none⟩=some (.int .i64 d[i].2):=by
 obtain⟨b,off,e,hb,h1,h2⟩:=h.elem i d[i] (List.getElem?_eq_getElem hi)
 refine⟨b,off,e,fun W hW n os=>?_⟩
 have g:Grown w (grow (W.drewN n) os):=hW.trans ⟨n,os,rfl⟩
 exact⟨(g.below.cell (p:=⟨b,off+i*2,none⟩) hb).trans h1,(g.below.cell (p:=⟨b,off+i*2+1,none⟩) hb).trans h2⟩
end
section
open Go.RowKit Go.Lib Go.Sort
theorem order_grown(x y:Ent)(w:World)(n:Nat)(os:Array Obj) :
  Calls Tryz.prog 88 #[.agg #[.int .u64 x.1,.int .i64 x.2],.agg #[.int .u64 y.1,.int .i64 y.2]] (grow (w.drewN n) os) fun e w'=>e=.returned (.int .i64 (cfE x y))∧∃p:GrownBy,w'=grow (w.drewN p.n) p.os:=
 Calls.grown_of (order_any x y _)
theorem bsearch_any(a:Option Addr)(cap:Nat)(d:List Ent)(t:Ent)(w:World)(h:IsL w a cap d)(hs:Srt d)(hd:d.length≤100000) :
  Calls Tryz.prog 135 #[.slice a d.length cap,.agg #[.int .u64 t.1,.int .i64 t.2],.func (.func 88) #[] #[]] w fun e w'=>(∃b,e=.returned (.tuple #[.int .i64 (smal d t:Nat),.bool b]))∧Grown w w':=by
 have eg:=enters_of Tryz.func88 (by kernel_rfl) rfl
 have H:Aside (IsL w a cap d):=h
 have HS:Aside (Srt d):=hs
 obtain⟨S,hS⟩:∃S,w.heap.size=S:=⟨_,rfl⟩
 obtain⟨w0,hw0⟩:∃w0,w.alloc (.cells #[.int .u64 t.1,.int .i64 t.2] 108)=w0:=⟨_,rfl⟩
 have HW:Hid _:=hw0
 have g0:Aside (Grown w w0):=by show Grown w w0;rw[←hw0];exact(Grown.refl w).alloc _
 have s0:S<w0.heap.size:=by rw[←hw0,←hS];simp
 have t0:w0.cell? ⟨S,0,none⟩=some (.int .u64 t.1)∧w0.cell? ⟨S,1,none⟩=some (.int .i64 t.2):=by rw[←hw0,←hS];exact⟨by simp[go_sem],by simp[go_sem]⟩
 have T0:Aside _:=t0
 have mx:=mixed
 obtain⟨sm,hsm⟩:∃k,smal d t=k:=⟨_,rfl⟩
 rw[hsm]
 have HSM:Hid (smal d t=sm):=hsm
 clear h hs hw0 t0 hsm
 go_enter Tryz.func135,Tryz.ntmps135
 go_upto_region 1 with fail
 rw[HW.out]
 go_wp2
 go_loopg [9,10,11] d.length (fun kx s9 s10 s11 wr=>∃i j:Nat,s9=.int .i64 i∧s10=.int .i64 j∧i≤j∧j≤d.length∧j-i≤kx∧Aside (i=0∨∃m,i=m+1∧∃h:m<d.length,ltE d[m] t=true)∧Aside (j=d.length∨∃h:j<d.length,ltE d[j] t=false)∧Aside (Grown w0 wr))
 case atStart=>exact⟨0,d.length,rfl,rfl,by omega,by omega,by omega,.inl rfl,.inl rfl,Grown.refl w0⟩
 case round=>
  obtain⟨i,j,rfl,rfl,hij,hjn,hkx,A1,A2,G1⟩:=hrel
  have c3:=fun n os=>((G1.out.trans ⟨n,os,rfl⟩:Grown w0 (grow (wr.drewN n) os)).cells S 0 s0).trans T0.out.1
  have c4:=fun n os=>((G1.out.trans ⟨n,os,rfl⟩:Grown w0 (grow (wr.drewN n) os)).cells S 1 s0).trans T0.out.2
  by_cases hlt:i<j
  ·obtain⟨m,hh⟩:∃h:Nat,((i:Int)+(j:Int))/2=(h:Int):=⟨(i+j)/2,by omega⟩
   have l1:i≤m:=by omega
   have l2:m<j:=by omega
   have l3:(m:Int)<(d.length:Int):=by omega
   obtain⟨b,off,ha,hc⟩:=H.out.at (show m<d.length by omega)
   subst ha
   have c1:=fun n os=>(hc wr (g0.out.trans G1.out) n os).1
   have c2:=fun n os=>(hc wr (g0.out.trans G1.out) n os).2
   obtain⟨x,hx⟩:∃x,d[m]=x:=⟨_,rfl⟩
   rw[hx] at c1 c2
   have HX:Hid (d[m]=x):=hx
   have lg:=order_grown x t wr
   have hcn:=ltOf_cfE x t
   obtain⟨C,hC⟩:∃C,cfE x t=C:=⟨_,rfl⟩
   rw[hC] at hcn
   simp only[hC] at lg
   clear hC hx hc
   cases hB:ltE x t with
   | true=>
    rw[hB] at hcn
    have hq:C<0:=of_decide_eq_true hcn
    have HB:Hid (ltE x t=true):=hB
    clear hB hcn
    go_wp2_with fail
    go_quiet_grown (first|(go_at_call 88;exact lg _ _))
    have G2:Aside (Grown w0 (grow (wr.drewN nq) osq)):=G1.out.trans ⟨nq,osq,rfl⟩
    clear c1 c2 c3 c4 lg hh
    generalize grow (wr.drewN nq) osq=w2 at G2⊢
    go_wp2
    go_roundg (j-(m+1))
    case measure=>omega
    case rel=>exact⟨m+1,j,by go_num,rfl,by omega,hjn,le_refl _,.inr ⟨m,rfl,by omega,by rw[HX.out];exact HB.out⟩,A2,G2⟩
   | false=>
    rw[hB] at hcn
    have hq:¬C<0:=of_decide_eq_false hcn
    have HB:Hid (ltE x t=false):=hB
    clear hB hcn
    go_wp2_with fail
    go_quiet_grown (first|(go_at_call 88;exact lg _ _))
    have G2:Aside (Grown w0 (grow (wr.drewN nq) osq)):=G1.out.trans ⟨nq,osq,rfl⟩
    clear c1 c2 c3 c4 lg hh
    generalize grow (wr.drewN nq) osq=w2 at G2⊢
    go_wp2
    go_roundg (m-i)
    case measure=>omega
    case rel=>exact⟨i,m,rfl,rfl,by omega,by omega,le_refl _,A1,.inr ⟨by omega,by rw[HX.out];exact HB.out⟩,G2⟩
  ·have hz:¬(i:Int)<(j:Int):=by omega
   obtain rfl:i=j:=by omega
   have hsm:smal d t=i:=smal_place HS.out t i hjn (by rcases A1.out with h|⟨m,rfl,h,e⟩;exact .inl h;exact .inr ⟨h,e⟩) A2.out
   obtain rfl:i=sm:=hsm.symm.trans HSM.out
   by_cases hn:i<d.length
   ·obtain⟨b,off,ha,hc⟩:=H.out.at hn
    subst ha
    have c1:=fun n os=>(hc wr (g0.out.trans G1.out) n os).1
    have c2:=fun n os=>(hc wr (g0.out.trans G1.out) n os).2
    obtain⟨x,hx⟩:∃x,d[i]=x:=⟨_,rfl⟩
    rw[hx] at c1 c2
    have lg:=order_grown x t wr
    obtain⟨C,hC⟩:∃C,cfE x t=C:=⟨_,rfl⟩
    simp only[hC] at lg
    have hz2:(i:Int)<(d.length:Int):=by omega
    clear hC hx hc hsm
    go_wp2_with fail
    go_quiet_grown (first|(go_at_call 88;exact lg _ _))
    have G2:Aside (Grown w0 (grow (wr.drewN nq) osq)):=G1.out.trans ⟨nq,osq,rfl⟩
    generalize grow (wr.drewN nq) osq=w2 at G2⊢
    go_wp2
    refine bodyPost_ret (v:=.tuple #[.int .i64 i,.bool (C==0)]) (by simp[results,Tryz.results135,go_sem]) rfl ⟨⟨_,rfl⟩,g0.out.trans G2.out⟩
   ·have hz2:¬(i:Int)<(d.length:Int):=by omega
    have hd2:decide ((i:Int)<(d.length:Int))=false:=decide_eq_false hz2
    clear hsm c3 c4
    go_wp2_with fail
    go_quiet (fail)
    go_wp2
    refine bodyPost_ret (v:=.tuple #[.int .i64 i,.bool false]) (by simp[results,Tryz.results135,go_sem]) rfl ⟨⟨_,rfl⟩,g0.out.trans (G1.out.drewN _)⟩
end
section
open Go.RowKit Go.Lib Go.Sort
theorem wp_copy_run2(w:World){o:Oper}{a:Act}{K:Act→World→Prop}{Q:Exit→Act→World→Prop}(d s:Operand)(t t':TypeId)
  (ho:o.op=.call {callee:=.builtin .copy,args:=#[d,s],argTypes:=#[t,t']}) (v u:Value) (hd:a.eval d=v) (hs:a.eval s=u) {v':Value} {w':World}
  (hr:(Builtin.copy_ #[t,t'] o.type #[v,u]).run Tryz.prog w=.ok v' w') (h:K (a.put o.dst v') w'):o.wp Tryz.prog a w K Q:=by
 unfold Oper.wp execOp
 simp only[ho,resolve,invoke,builtin,Sem.run_bind,Sem.run_pure,Result.andThen_ok,List.map_toArray,List.map_cons,List.map_nil,hd,hs,hr]
 exact h
theorem wpList_copy_run2(w:World){ops:Array Oper}{rest:List Oper}{o:Oper}{a:Act}{Q:Exit→Act→World→Prop}(hgd:o.guard=none)(d s:Operand)(t t':TypeId)
  (ho:o.op=.call {callee:=.builtin .copy,args:=#[d,s],argTypes:=#[t,t']}) (v u:Value) (hd:a.eval d=v) (hs:a.eval s=u) {v':Value} {w':World}
  (hr:(Builtin.copy_ #[t,t'] o.type #[v,u]).run Tryz.prog w=.ok v' w') (h:wpList Tryz.prog ops Q rest (a.put o.dst v') w'):wpList Tryz.prog ops Q (o::rest) a w:=
 wpList_plain hgd fun _ hK=>wp_copy_run2 w d s t t' ho v u hd hs hr (hK _ _ h)
theorem step_copy_run2{ops:Array Oper}{o:Oper}{a:Act}{K:Act→World→Prop}{Q:Exit→Act→World→Prop}{E:Prop}(w:World)
  (hg:o.guard=none) (d x:Operand) (dT sT:TypeId) (hop:o.op=Op.call {callee:=Callee.builtin Builtin.copy,args:=#[d,x],argTypes:=#[dT,sT]})
  (v u:Value) (hd:a.eval d=v) (hx:a.eval x=u) {v':Value} {w':World} (hr:(Builtin.copy_ #[dT,sT] o.type #[v,u]).run Tryz.prog w=.ok v' w') (hK:K (a.put o.dst v') w') :
  if Region.wanted o (yielded ops a.tmps)=true then Oper.wp Tryz.prog o a w K Q else E:=by
 have hw:Region.wanted o (yielded ops a.tmps)=true:=by simp[Region.wanted,hg]
 rw[if_pos hw]
 exact wp_copy_run2 w d x dT sT hop v u hd hx hr hK
theorem run_copy2(w:World)(ty:TypeId)(g o dLen dCap:Nat)(a:Addr)(sLen sCap:Nat)(cur:Array Value)(cs:List Value)
  (hg:w.heap[g]?=some (.cells cur 108 (0,0))) (hn:cs.length=Nat.min sLen dLen*2)
  (hsrc:∀j v,cs[j]?=some v→w.cell? (a.add j)=some v) (hfit:o+cs.length≤cur.size) (h1:∀v∈cs,v.oneCell'=true) :
  (Builtin.copy_ #[36,36] ty #[.slice (some ⟨g,o,none⟩) dLen dCap,.slice (some a) sLen sCap]).run Tryz.prog w =
   .ok (goInt (Nat.min sLen dLen)) (w.setRow g (splice cur.toList o cs).toArray):=by
 obtain⟨i,hi,_,hs,_⟩:=infoE
 have hl:=run_loadCells_list (P:=Tryz.prog) w a cs hsrc
 have hst:=run_storeCells_at Tryz.prog g o 108 cs 0 cur w hg (by simpa using hfit) h1
 have e:Nat.min sLen dLen*i.size=cs.length:=by rw[hn,hs]
 simp only[Nat.add_zero,append_assoc] at hst
 simp[Builtin.copy_,run_underlying Tryz.underlying36,Builtin.lenOf,Builtin.firstCells,sizeOf,typeInfo,hi,e,hl,hst,splice]
def InsF(w:World)(base:Nat)(v:Value)(d:List Ent)(r:Ending)(w':World):Prop:=∃v',r=.returned v'∧OwnF w' base v' d∧w.grownBy w' (rowB v)∧∀k,rowB v'=some k→rowB v=some k∨w.heap.size≤k
theorem insert_end(v:Value)(base G:Nat)(d:List Ent)(x:Ent)(w:World)(h:OwnF w base v d)(c0:w.cell? ⟨G,0,none⟩=some (.int .u64 x.1))(c1:w.cell? ⟨G,1,none⟩=some (.int .i64 x.2))(hG:G<w.heap.size)(hN:d.length≤100000)(hbase:base≤w.heap.size) :
  Calls Tryz.prog 136 #[v,.int .i64 d.length,.slice (some ⟨G,0,none⟩) 1 1] w (InsF w base v (d++[x])):=by
 have L:IsL w (some ⟨G,0,none⟩) 1 [x]:=⟨by simp,by unfold maxLen;omega,fun i y hy=>by
  cases i with
  | zero=>simp at hy;subst hy;exact⟨G,0,rfl,hG,by simpa using c0,by simpa using c1⟩
  | succ i=>simp at hy⟩
 obtain⟨v',w',hr,o,k1,k2⟩:=appF h L (by simp;omega) hbase 36
 have F:Aside (OwnF w' base v' (d++[x])∧w.grownBy w' (rowB v)∧∀k,rowB v'=some k→rowB v=some k∨w.heap.size≤k):=⟨o,k1,k2⟩
 obtain⟨a,cap,rfl,ha,hc1,hc2,_⟩:=h.isL
 obtain⟨n,hn⟩:∃n,d.length=n:=⟨_,rfl⟩
 rw[hn] at hc1 hr F hN⊢
 simp only[List.length_singleton] at hr
 unfold maxLen at hc2
 have j1:(n:Int)≤(cap:Int):=by omega
 have j3:cap≤9223372036854775807:=by omega
 have mx:=mixed
 clear o k1 k2 L c0 c1 h hn hG
 rcases ha with⟨rfl,rfl⟩|⟨g,off,rfl⟩
 ·obtain rfl:n=0:=by omega
  go_enter Tryz.func136,Tryz.ntmps136
  go_wp2_with (at_builtin;refine Lib.wpList_append_run w rfl _ _ 36 36 rfl _ _ rfl rfl _ w' hr ?_)
  go_ret
  exact⟨v',rfl,F.out⟩
 ·by_cases c:cap=n
  ·subst c
   go_enter Tryz.func136,Tryz.ntmps136
   go_wp2_with (at_builtin;refine Lib.wpList_append_run w rfl _ _ 36 36 rfl _ _ rfl rfl _ w' hr ?_)
   go_ret
   exact⟨v',rfl,F.out⟩
  ·go_enter Tryz.func136,Tryz.ntmps136
   go_wp2_with (at_builtin;refine Lib.wpList_append_run w rfl _ _ 36 36 rfl _ _ rfl rfl _ w' hr ?_)
   go_ret
   exact⟨v',rfl,F.out⟩
theorem flat_take:∀(d:List Ent)(i:Nat),flat (d.take i)=(flat d).take (i*2)
 | d,0=>by simp
 | [],i+1=>by simp
 | x::d,i+1=>by rw[List.take_succ_cons,flat_cons,flat_cons,flat_take d i,show(i+1)*2=i*2+1+1 by omega,List.take_succ_cons,List.take_succ_cons]
theorem flat_drop:∀(d:List Ent)(i:Nat),flat (d.drop i)=(flat d).drop (i*2)
 | d,0=>by simp
 | [],i+1=>by simp
 | x::d,i+1=>by rw[List.drop_succ_cons,flat_cons,flat_drop d i,show(i+1)*2=i*2+1+1 by omega,List.drop_succ_cons,List.drop_succ_cons]
theorem insert_mid(g off cap i base G:Nat)(d:List Ent)(x:Ent)(w:World)(h:RowF w base g off cap d)(hi:i<d.length)(hroom:d.length<cap)
  (hG:w.heap[G]?=some (.cells #[.int .u64 x.1,.int .i64 x.2] 108 (0,0))) (hne:G≠g) :
  Calls Tryz.prog 136 #[.slice (some ⟨g,off,none⟩) d.length cap,.int .i64 i,.slice (some ⟨G,0,none⟩) 1 1] w (InsF w base (.slice (some ⟨g,off,none⟩) d.length cap) (d.take i++x::d.drop i)):=by
 obtain⟨inf,hinf,_,hsz,_⟩:=infoE
 obtain⟨P,R,hg,hP,hR,ht⟩:=h.mem
 have hc:=h.big
 unfold maxLen at hc
 obtain⟨X1,hX1⟩:∃X,flat (d.drop i)=X:=⟨_,rfl⟩
 obtain⟨Y,hY⟩:∃Y,flat [x]=Y:=⟨_,rfl⟩
 have l1:X1.length=(d.length-i)*2:=by rw[←hX1,flat_len,length_drop]
 have lY:Y.length=2:=by rw[←hY];rfl
 have hcp1:∀ty dc sc,(Builtin.copy_ #[36,36] ty #[.slice (some ⟨g,off+(i+1)*2,none⟩) (d.length+1-(i+1)) dc,.slice (some ⟨g,off+i*2,none⟩) (d.length+1-i) sc]).run Tryz.prog w.drew=.ok (goInt ((d.length-i:Nat):Int)) (w.drew.setRow g (P++splice R ((i+1)*2) X1).toArray):=fun ty dc sc=>by
  have e:Nat.min (d.length+1-i) (d.length+1-(i+1))=d.length-i:=by show min _ _=_;omega
  have:=run_copy2 w.drew ty g (off+(i+1)*2) (d.length+1-(i+1)) dc ⟨g,off+i*2,none⟩ (d.length+1-i) sc _ X1 hg (by rw[e,l1]) (fun j v hj=>by
   have hjl:=(List.getElem?_eq_some_iff.1 hj).1
   rw[Addr.add_lit]
   show w.cell? _=_
   rw[Nat.add_assoc,h.cell (i*2+j) (by omega),←hj,←hX1,flat_drop,List.getElem?_drop]) (by rw[l1];simp;omega) (by rw[←hX1];exact flat_one _)
  rw[e,←hP] at this
  rw[←hP,←splice_pre]
  exact this
 have m1:(splice R ((i+1)*2) X1).length=cap*2:=by rw[length_splice _ _ _ (by rw[l1,hR];omega),hR]
 obtain⟨w1,hw1⟩:∃w1,w.drew.setRow g (P++splice R ((i+1)*2) X1).toArray=w1:=⟨_,rfl⟩
 have gw1:w.grownBy w1 (some g):=by rw[←hw1];exact grown_set _ (grown_below _ ((Below.refl _ _).drew)) (.inl rfl)
 have g1:w1.heap[g]?=some (.cells (P++splice R ((i+1)*2) X1).toArray 108 (0,0)):=by rw[←hw1];exact setRow_heap w.drew _ _ _ _ _ hg
 have hG1:w1.heap[G]?=some (.cells #[.int .u64 x.1,.int .i64 x.2] 108 (0,0)):=by rw[←hw1];exact(setRow_other w.drew g G _ hne).trans hG
 simp only[hw1] at hcp1
 have hcp2:∀ty dc,(Builtin.copy_ #[36,36] ty #[.slice (some ⟨g,off+i*2,none⟩) (d.length+1-i) dc,.slice (some ⟨G,0,none⟩) 1 1]).run Tryz.prog w1=.ok (goInt 1) (w1.setRow g (P++splice (splice R ((i+1)*2) X1) (i*2) Y).toArray):=fun ty dc=>by
  have e:Nat.min 1 (d.length+1-i)=1:=by show min _ _=_;omega
  have:=run_copy2 w1 ty g (off+i*2) (d.length+1-i) dc ⟨G,0,none⟩ 1 1 _ Y g1 (by rw[e,lY]) (fun j v hj=>by
   have:j=0∨j=1:=by have:=(List.getElem?_eq_some_iff.1 hj).1;omega
   rw[Addr.add_lit,Nat.zero_add,cell_of_row _ _ _ _ _ _ hG1,←hj,←hY]
   rcases this with rfl|rfl<;>rfl) (by rw[lY];simp;omega) (by rw[←hY];exact flat_one _)
  rw[e,←hP] at this
  rw[←hP,←splice_pre]
  exact this
 obtain⟨w2,hw2⟩:∃w2,w1.setRow g (P++splice (splice R ((i+1)*2) X1) (i*2) Y).toArray=w2:=⟨_,rfl⟩
 have gw2:w.grownBy w2 (some g):=by rw[←hw2];exact grown_set _ gw1 (.inl rfl)
 have g2:w2.heap[g]?=some (.cells (P++splice (splice R ((i+1)*2) X1) (i*2) Y).toArray 108 (0,0)):=by rw[←hw2];exact setRow_heap w1 _ _ _ _ _ g1
 simp only[hw2] at hcp2
 have hfin:RowF w2 base g off cap (d.take i++x::d.drop i):=by
  have le:(d.take i++x::d.drop i).length=d.length+1:=by simp;omega
  refine⟨h.low,h.pos,by omega,h.big,P,_,g2,hP,by rw[length_splice _ _ _ (by rw[lY,m1];omega),m1],?_⟩
  have e0:R.take (i*2)=flat (d.take i):=by rw[flat_take,←ht,List.take_take];congr 1;omega
  have e1:flat (d.take i++x::d.drop i)=flat (d.take i)++(Y++X1):=by rw[←hY,←hX1,←flat_append,←flat_append];rfl
  rw[le,e1,←e0]
  show List.take _ ((splice R ((i+1)*2) X1).take (i*2)++(Y++(splice R ((i+1)*2) X1).drop (i*2+Y.length)))=_
  have e2:(splice R ((i+1)*2) X1).take (i*2)=R.take (i*2):=by
   unfold splice
   rw[List.take_append_of_le_length (by rw[length_take,hR];omega),List.take_take]
   congr 1;omega
  have e3:(splice R ((i+1)*2) X1).drop (i*2+Y.length)=X1++R.drop ((i+1)*2+X1.length):=by
   unfold splice
   rw[lY,show i*2+2=(i+1)*2 by omega,List.drop_append,List.drop_eq_nil_of_le (by rw[length_take];omega),length_take,hR,show(i+1)*2-min ((i+1)*2) (cap*2)=0 by omega]
   simp
  rw[e2,e3,←append_assoc,←append_assoc,List.take_append_of_le_length (by simp[lY,l1,hR];omega),take_of_length_le (by simp[lY,l1,hR];omega),append_assoc]
 have hlen:(d.take i++x::d.drop i).length=d.length+1:=by simp;omega
 have F:Aside (InsF w base (.slice (some ⟨g,off,none⟩) d.length cap) (d.take i++x::d.drop i) (.returned (.slice (some ⟨g,off,none⟩) (d.length+1) cap)) w2):=
  ⟨_,rfl,.inr ⟨g,off,cap,by rw[hlen],hfin⟩,by rw[h.rowB];exact gw2,fun k hk=>.inl (by rw[h.rowB];rw[h.rowB] at hk;exact hk)⟩
 have hsa:w.shape? G=some (108,2):=by simp[World.shape?,hG]
 have hsb:w.shape? g=some (108,off+cap*2):=by simp[World.shape?,hg,hP,hR]
 have hfa:w.frozen? ⟨G,0,none⟩=false:=by simp[World.frozen?,hG]
 have hfe:w.frozen? ⟨G,2,none⟩=false:=by simp[World.frozen?,hG]
 have hov:∀lb cb,(callFunc 192 #[.slice (some ⟨G,0,none⟩) 1 1,.slice (some ⟨g,off+(i+1)*2,none⟩) lb cb]).run Tryz.prog w=.ok (.value (.bool false)) w:=fun lb cb=>by
  rw[run_callFunc_extern Tryz.func192 (by kernel_rfl) (by kernel_rfl) (by kernel_rfl) (e:=Extern.SlicesOverlaps.overlaps #[36,36] #[4]) (by kernel_rfl),
   Lib.run_overlaps_apart w 36 4 108 Tryz.underlying36 2 (fun w=>by simp[sizeOf,typeInfo,hinf,hsz]) ⟨G,0,none⟩ ⟨g,off+(i+1)*2,none⟩ 1 1 lb cb hne _ _ _ _ hsa hsb (by omega) hfa hfe]
  rfl
 obtain⟨n,hn⟩:∃n,d.length=n:=⟨_,rfl⟩
 rw[hn] at hcp1 hcp2 F hi hroom⊢
 have mx:=mixed
 have z1:¬((i:Int)=(n:Int)):=by omega
 have z2:((i:Int)==(n:Int))=false:=by simp;omega
 have z3:(i:Int)≤(n:Int):=by omega
 have z4:¬cap=i:=by omega
 have z5:¬cap=i+1:=by omega
 have z6:¬(cap:Int)<(n:Int)+1:=by omega
 have z7:(n:Int)+1≤(cap:Int):=by omega
 have z8:(i:Int)≤(n:Int)+1:=by omega
 have z9:((n:Int)+1).toNat=n+1:=by omega
 have z10:((i:Int)+1).toNat=i+1:=by omega
 have z11:(0:Int)≤(i:Int)+1:=by omega
 have z12:(0:Int)≤(n:Int)+1:=by omega
 have z13:IntKind.i64.wrap ((i:Int)+1)=(i:Int)+1:=by rw[IntKind.wrap_i64];omega
 clear h hg ht hG hX1 hY l1 lY g1 hG1 m1 hw1 g2 hw2 gw1 gw2 hfin hinf hsa hsb hfa hfe hn hlen hP hR
 go_enter Tryz.func136,Tryz.ntmps136
 go_wp2_with (simp only[hov])
 go_region_law_o (refine step_copy_run2 w.drew rfl _ _ 36 36 rfl _ _ (by simp[Act.eval,Act.put];rfl) (by simp[Act.eval,Act.put];rfl) (hcp1 _ _ _) ?_)
 go_wp2_with (at_builtin;refine wpList_copy_run2 w1 rfl _ _ 36 36 rfl _ _ rfl rfl (hcp2 _ _) ?_)
 go_ret
 exact F.out
end
section
open Go.RowKit Go.Lib Go.Sort
theorem insert_full(g off i base G:Nat)(d:List Ent)(x:Ent)(w:World)(h:RowF w base g off d.length d)(hi:i<d.length)(hN:d.length≤100000)
  (hG:w.heap[G]?=some (.cells #[.int .u64 x.1,.int .i64 x.2] 108 (0,0))) (hbase:base≤w.heap.size) :
  Calls Tryz.prog 136 #[.slice (some ⟨g,off,none⟩) d.length d.length,.int .i64 i,.slice (some ⟨G,0,none⟩) 1 1] w (InsF w base (.slice (some ⟨g,off,none⟩) d.length d.length) (d.take i++x::d.drop i)):=by
 obtain⟨inf,hinf,hzr,hsz,hby⟩:=infoE
 have hgl:=h.lt
 have hGl:=lt_of_block hG
 obtain⟨n,hn⟩:∃n,d.length=n:=⟨_,rfl⟩
 obtain⟨S,hS⟩:∃S,w.heap.size=S:=⟨_,rfl⟩
 obtain⟨X0,hX0⟩:∃X,flat (d.take i)=X:=⟨_,rfl⟩
 obtain⟨X1,hX1⟩:∃X,flat (d.drop i)=X:=⟨_,rfl⟩
 obtain⟨Y,hY⟩:∃Y,flat [x]=Y:=⟨_,rfl⟩
 have l0:X0.length=i*2:=by rw[←hX0,flat_len,length_take];omega
 have l1:X1.length=(n-i)*2:=by rw[←hX1,flat_len,length_drop,hn]
 have lY:Y.length=2:=by rw[←hY];rfl
 obtain⟨C,hC⟩:∃C,grownCap w (i+(n+1-i)) n 108=C:=⟨_,rfl⟩
 have hC1:n+1≤C:=by rw[←hC];have:=grownCap_ge w (i+(n+1-i)) n 108;omega
 have hC2:C≤maxLen:=by rw[←hC];exact grownCap_le_maxLen w _ n _ (by unfold maxLen;omega)
 have hz2:(Value.agg #[.int .u64 0,.int .i64 0]).cells=#[.int .u64 0,.int .i64 0]:=rfl
 obtain⟨cur1,hcur1⟩:∃c,X0.toArray++Builtin.zeroCells #[.int .u64 0,.int .i64 0] (n+1-i)++Builtin.zeroCells #[.int .u64 0,.int .i64 0] (C-(i+(n+1-i)))=c:=⟨_,rfl⟩
 have s1:cur1.size=C*2:=by
  rw[←hcur1]
  simp only[Array.size_append,List.size_toArray,size_zeroCells,l0]
  show i*2+(n+1-i)*2+(C-(i+(n+1-i)))*2=C*2
  omega
 have t1:cur1.toList.take (i*2)=X0:=by
  rw[←hcur1]
  simp only[Array.toList_append,append_assoc]
  rw[←l0]
  exact List.take_left
 obtain⟨w1,hw1⟩:∃W,w.drew.alloc (.cells cur1 108)=W:=⟨_,rfl⟩
 have hold:(Builtin.firstCells inf.size i (.slice (some ⟨g,off,none⟩) i n)).run Tryz.prog w.drew=.ok X0.toArray w.drew:=by
  refine run_firstCells_some _ _ _ _ _ _ _ (by rw[l0,hsz]) (fun j v hj=>?_)
  have hjl:=(List.getElem?_eq_some_iff.1 hj).1
  rw[Addr.add_lit]
  show w.cell? _=_
  rw[h.cell j (by omega),←hj,←hX0,flat_take,List.getElem?_take_of_lt (by omega)]
 have hap:∀ty,(Builtin.append_ #[36,3] ty #[.slice (some ⟨g,off,none⟩) i n,.int .i64 ((n:Int)+1-(i:Int))]).run Tryz.prog w=.ok (.slice (some ⟨S,0,none⟩) (n+1) C) w1:=fun ty=>by
  have:=Lib.run_append_grow_zeros (P:=Tryz.prog) w 36 3 ty 108 inf _ .i64 .i64 Tryz.underlying36 Tryz.underlying3 hinf hzr (some ⟨g,off,none⟩) i n X0 hold (n+1-i) (by omega) (by omega) (by omega) (by omega) (by rw[hby];omega) (by rw[hby];exact growslice_fits (by omega) (by omega))
  rw[hz2,hC,hcur1,hS,show i+(n+1-i)=n+1 by omega,hw1] at this
  rw[show(n:Int)+1-(i:Int)=((n+1-i:Nat):Int) by omega]
  exact this
 have b1:Below w.heap.size w w1:=by rw[←hw1];exact((Below.refl _ _).drew).alloc (le_refl _) _
 have g1:w1.heap[S]?=some (.cells cur1 108 (0,0)):=by rw[←hw1,←hS];exact heap_alloc_new w.drew _
 have hG1:=(b1.block G hGl).trans hG
 have R1:RowF w1 base g off d.length d:=h.of_block (b1.block g hgl)
 have hcs:cur1.toList.length=C*2:=by simpa using s1
 have hcp1:∀ty dc,(Builtin.copy_ #[36,36] ty #[.slice (some ⟨S,i*2,none⟩) (n+1-i) dc,.slice (some ⟨G,0,none⟩) 1 1]).run Tryz.prog w1=.ok (goInt 1) (w1.setRow S (splice cur1.toList (i*2) Y).toArray):=fun ty dc=>by
  have e:Nat.min 1 (n+1-i)=1:=by show min _ _=_;omega
  have:=run_copy2 w1 ty S (i*2) (n+1-i) dc ⟨G,0,none⟩ 1 1 _ Y g1 (by rw[e,lY]) (fun j v hj=>by
   have:j=0∨j=1:=by have:=(List.getElem?_eq_some_iff.1 hj).1;omega
   rw[Addr.add_lit,Nat.zero_add,cell_of_row _ _ _ _ _ _ hG1,←hj,←hY]
   rcases this with rfl|rfl<;>rfl) (by rw[s1,lY];omega) (by rw[←hY];exact flat_one _)
  rw[e] at this
  exact this
 have hSg:g≠S:=by omega
 obtain⟨w2,hw2⟩:∃w2,w1.setRow S (splice cur1.toList (i*2) Y).toArray=w2:=⟨_,rfl⟩
 have g2:w2.heap[S]?=some (.cells (splice cur1.toList (i*2) Y).toArray 108 (0,0)):=by rw[←hw2];exact setRow_heap w1 _ _ _ _ _ g1
 have R2:RowF w2 base g off d.length d:=R1.of_block (by rw[←hw2];exact setRow_other w1 S g _ hSg)
 have gw2:w.grownBy w2 none:=by rw[←hw2];exact grown_set _ (grown_below _ b1) (.inr (by omega))
 simp only[hw2] at hcp1
 have m1:(splice cur1.toList (i*2) Y).length=C*2:=by rw[length_splice _ _ _ (by rw[lY,hcs];omega),hcs]
 have hcp2:∀ty dc sc,(Builtin.copy_ #[36,36] ty #[.slice (some ⟨S,(i+1)*2,none⟩) (n+1-(i+1)) dc,.slice (some ⟨g,off+i*2,none⟩) (n-i) sc]).run Tryz.prog w2.drew=.ok (goInt ((n-i:Nat):Int)) (w2.drew.setRow S (splice (splice cur1.toList (i*2) Y) ((i+1)*2) X1).toArray):=fun ty dc sc=>by
  have e:Nat.min (n-i) (n+1-(i+1))=n-i:=by show min _ _=_;omega
  have:=run_copy2 w2.drew ty S ((i+1)*2) (n+1-(i+1)) dc ⟨g,off+i*2,none⟩ (n-i) sc _ X1 g2 (by rw[e,l1]) (fun j v hj=>by
   have hjl:=(List.getElem?_eq_some_iff.1 hj).1
   rw[Addr.add_lit]
   show w2.cell? _=_
   rw[Nat.add_assoc,R2.cell (i*2+j) (by omega),←hj,←hX1,flat_drop,List.getElem?_drop]) (by simp only[List.size_toArray];rw[m1,l1];omega) (by rw[←hX1];exact flat_one _)
  rw[e] at this
  exact this
 obtain⟨w3,hw3⟩:∃w3,w2.drew.setRow S (splice (splice cur1.toList (i*2) Y) ((i+1)*2) X1).toArray=w3:=⟨_,rfl⟩
 have g3:w3.heap[S]?=some (.cells (splice (splice cur1.toList (i*2) Y) ((i+1)*2) X1).toArray 108 (0,0)):=by rw[←hw3];exact setRow_heap w2.drew _ _ _ _ _ g2
 have gw3:w.grownBy w3 none:=by rw[←hw3];exact grown_set _ (grown_trans gw2 (grown_below _ ((Below.refl _ _).drew))) (.inr (by omega))
 simp only[hw3] at hcp2
 have le:(d.take i++x::d.drop i).length=n+1:=by simp;omega
 have hfin:RowF w3 base S 0 C (d.take i++x::d.drop i):=by
  refine⟨by omega,by omega,by omega,hC2,[],splice (splice cur1.toList (i*2) Y) ((i+1)*2) X1,g3,rfl,by rw[length_splice _ _ _ (by rw[l1,m1];omega),m1],?_⟩
  have e1:flat (d.take i++x::d.drop i)=X0++(Y++X1):=by rw[←hX0,←hY,←hX1,←flat_append,←flat_append];rfl
  rw[le,e1,←t1]
  show List.take _ ((splice cur1.toList (i*2) Y).take ((i+1)*2)++(X1++(splice cur1.toList (i*2) Y).drop ((i+1)*2+X1.length)))=_
  have e2:(splice cur1.toList (i*2) Y).take ((i+1)*2)=cur1.toList.take (i*2)++Y:=by
   unfold splice
   rw[←append_assoc,List.take_append_of_le_length (by rw[List.length_append,length_take,hcs,lY];omega),take_of_length_le (by rw[List.length_append,length_take,hcs,lY];omega)]
  rw[e2,←append_assoc,List.take_append_of_le_length (by simp[lY,l1,s1];omega),take_of_length_le (by simp[lY,l1,s1];omega),append_assoc]
 have F:Aside (InsF w base (.slice (some ⟨g,off,none⟩) n n) (d.take i++x::d.drop i) (.returned (.slice (some ⟨S,0,none⟩) (n+1) C)) w3):=
  ⟨_,rfl,.inr ⟨S,0,C,by rw[le],hfin⟩,⟨gw3.os,gw3.tape,gw3.output,gw3.size,fun k hk _=>gw3.block k hk (by simp)⟩,fun k hk=>.inr (by rw[hfin.rowB] at hk;injection hk with hk;omega)⟩
 have mx:=mixed
 rw[hn] at hi hN⊢
 have z1:¬((i:Int)=(n:Int)):=by omega
 have z2:((i:Int)==(n:Int))=false:=by simp;omega
 have z3:(i:Int)≤(n:Int):=by omega
 have z4:¬n=i:=by omega
 have z5:¬C=i:=by omega
 have z6:(n:Int)<(n:Int)+1:=by omega
 have z7:¬C=i+1:=by omega
 have z8:(i:Int)≤(n:Int)+1:=by omega
 have z9:(i:Int)+1≤(n:Int)+1:=by omega
 have z10:((i:Int)+1).toNat=i+1:=by omega
 have z11:(0:Int)≤(i:Int)+1:=by omega
 have z13:IntKind.i64.wrap ((i:Int)+1)=(i:Int)+1:=by rw[IntKind.wrap_i64];omega
 have z14:IntKind.i64.wrap ((n:Int)+1)=(n:Int)+1:=by rw[IntKind.wrap_i64];omega
 have z15:IntKind.i64.wrap ((n:Int)+1-(i:Int))=(n:Int)+1-(i:Int):=by rw[IntKind.wrap_i64];omega
 have hC3:(C:Int)≤9223372036854775807:=by unfold maxLen at hC2;omega
 clear h hG hcs hX1 hX0 hY l1 l0 lY b1 g1 hG1 m1 hw1 g2 hw2 hfin hinf hn g3 hw3 s1 t1 hcur1 hC hC2 hzr R1 R2 gw2 gw3 le hold
 go_enter Tryz.func136,Tryz.ntmps136
 go_wp2_with (first
  | (at_builtin;refine Lib.wpList_append_run w rfl _ _ 36 3 rfl _ _ rfl rfl _ _ (hap _) ?_)
  | (at_builtin;refine wpList_copy_run2 w1 rfl _ _ 36 36 rfl _ _ rfl rfl (hcp1 _ _) ?_))
 go_region_law_o (refine step_copy_run2 w2.drew rfl _ _ 36 36 rfl _ _ (by simp[Act.eval,Act.put];rfl) (by simp[Act.eval,Act.put];rfl) (hcp2 _ _ _) ?_)
 go_wp2
 go_ret
 exact F.out
theorem insert_any(v:Value)(base i G:Nat)(d:List Ent)(x:Ent)(w:World)(h:OwnF w base v d)(hi:i≤d.length)(hN:d.length≤100000)
  (hG:w.heap[G]?=some (.cells #[.int .u64 x.1,.int .i64 x.2] 108 (0,0))) (hne:rowB v≠some G) (hbase:base≤w.heap.size) :
  Calls Tryz.prog 136 #[v,.int .i64 i,.slice (some ⟨G,0,none⟩) 1 1] w (InsF w base v (d.take i++x::d.drop i)):=by
 by_cases c:i=d.length
 ·subst c
  rw[take_of_length_le (le_refl _),List.drop_eq_nil_of_le (le_refl _)]
  exact insert_end v base G d x w h (by rw[cell_of_row _ _ _ _ _ _ hG];rfl) (by rw[cell_of_row _ _ _ _ _ _ hG];rfl) (lt_of_block hG) hN hbase
 ·rcases h with⟨rfl,_⟩|⟨g,off,cap,rfl,hr⟩
  ·simp at hi c;omega
  ·have hle:=hr.le
   by_cases hroom:d.length<cap
   ·exact insert_mid g off cap i base G d x w hr (by omega) hroom hG (fun e=>hne (by rw[hr.rowB,e]))
   ·obtain rfl:cap=d.length:=by omega
    exact insert_full g off i base G d x w hr (by omega) hN hG hbase
theorem clone_any(v:Value)(base:Nat)(d:List Ent)(w:World)(h:OwnF w base v d)(hd:d.length≤100000) :
  Calls Tryz.prog 95 #[v] w fun r w'=>∃v',r=.returned v'∧OwnF w' w.heap.size v' d∧Below w.heap.size w w'∧∀k,rowB v'=some k→w.heap.size≤k:=by
 have q22:∀(w:World)(a:Option Addr)(n c n' c':Nat),(binOp .eql 36 (.slice a n c) (.slice none n' c')).run Tryz.prog w=.ok (.bool a.isNone) w:=fun w a n c n' c'=>Lib.run_eql_slice_nil w _ _ a n c n' c' Tryz.underlying36
 obtain⟨a,cap,rfl,ha,hc1,hc2,hL⟩:=h.isL
 rcases ha with⟨rfl,rfl⟩|⟨g,off,rfl⟩
 ·obtain rfl:d=[]:=List.length_eq_zero_iff.1 (by omega)
  go_enter Tryz.func95,Tryz.ntmps95
  go_wp2
  go_ret
  exact⟨_,rfl,OwnF.nil _ _,Below.refl _ _,fun k hk=>by cases hk⟩
 ·obtain⟨v',w',hr,o,k1,k2⟩:=appF (d:=[]) (c:=d) (OwnF.zero (w.alloc (.cells #[] 108)) w.heap.size w.heap.size 0) (hL.below ((Below.refl _ _).alloc (le_refl _) _)) (by simp;omega) (by simp) 36
  have F:Aside (OwnF w' w.heap.size v' d∧Below w.heap.size w w'∧∀k,rowB v'=some k→w.heap.size≤k):=by
   refine⟨o,((Below.refl _ _).alloc (le_refl _) _).trans ⟨k1.os,k1.tape,k1.output,k1.size,fun k hk=>k1.block k (by simp;omega) (fun e=>by cases e)⟩,fun k hk=>?_⟩
   rcases k2 k hk with h|h
   ·cases h
   ·simp at h;omega
  clear o k1 k2 h hL
  go_enter Tryz.func95,Tryz.ntmps95
  go_wp2_with (at_builtin;refine Lib.wpList_append_run _ rfl _ _ 36 36 rfl _ _ rfl rfl v' w' hr ?_)
  go_ret
  exact⟨_,rfl,F.out⟩
end
end Go.Proofs.YtdboknkfhbhniaaGreatDoor.Wl
