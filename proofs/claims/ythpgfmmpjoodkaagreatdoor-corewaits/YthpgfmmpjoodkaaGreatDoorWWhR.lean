import Derived.Test.YthpgfmmpjoodkaaGreatDoorWWhD
import Derived.Maps.OwnOps
import Derived.Deep.MidRow
open Array(getElem?_setIfInBounds)
open Nat(le_refl)
namespace Go.Proofs.YthpgfmmpjoodkaaGreatDoor.Wl
set_option maxHeartbeats 8000000
set_option maxRecDepth 100000
set_option linter.unusedVariables false
open Go.RowKit Go.Lib Go.Sort Go.WideMaps Go.Maps
section
structure TOk(T:List Ent):Prop where
 srt:Srt T
 ids:(T.map Prod.snd).Nodup
 wf:∀x∈T,wfI x.2
 len:T.length≤1000
def Whl(w:World)(F:Nat→Prop)(B base now:Nat)(T:List Ent):Prop:=
 ∃M hd u c far f,WhA w B M base hd now u c far f T.length∧WhL now u c far (fun x=>x∈T)∧(∀i v,f i=some v↔(v,i)∈T)∧TOk T∧∀k,F k↔foot B M hd k
def WIs(w:World)(F:Nat→Prop)(B base now:Nat)(T:List Ent)(w':World):Prop:=∃F',Whl w' F' B base now T∧Fr F w w'∧∀k,F' k→F k∨w.heap.size≤k
variable {w w':World}{F:Nat→Prop}{B base now:Nat}{T:List Ent}
theorem Whl.low(h:Whl w F B base now T):∀k,F k→base≤k∧k<w.heap.size:=fun k hk=>by
 obtain⟨M,hd,u,c,far,f,h1,h2,h3,h4,h5⟩:=h
 exact h1.footLt ((h5 k).1 hk)
theorem Whl.fr(h:Whl w F B base now T){X:Nat→Prop}(hf:Fr X w w')(hx:∀k,F k→¬X k):Whl w' F B base now T:=by
 obtain⟨M,hd,u,c,far,f,h1,h2,h3,h4,h5⟩:=h
 exact⟨M,hd,u,c,far,f,h1.fr hf (fun k hk=>hx k ((h5 k).2 hk)),h2,h3,h4,h5⟩
theorem Whl.below(h:Whl w F B base now T)(hw:Below w.heap.size w w'):Whl w' F B base now T:=h.fr (Fr.below (X:=fun _=>False) hw) (fun _ _=>id)
theorem WIs.same(h:Whl w F B base now T):WIs w F B base now T w:=⟨F,h,Fr.refl _ _,fun k hk=>.inl hk⟩
theorem len_le{d:List Ent}(hd:d.Nodup)(hs:∀x∈d,x∈T)(hT:T.length≤1000):d.length≤1000:=Nat.le_trans (List.Nodup.length_le_of_subset hd hs) hT
def dueOf:List Ent→Int→Option Int
 | [],_=>none
 | x::T,i=>if x.2=i then some x.1 else dueOf T i
theorem dueOf_some:∀{T:List Ent} {i v:Int},dueOf T i=some v→(v,i)∈T
 | [],i,v,h=>by cases h
 | x::T,i,v,h=>by
  unfold dueOf at h
  split at h
  ·next e=>injection h with h;subst h;subst e;exact List.mem_cons_self
  ·exact List.mem_cons_of_mem _ (dueOf_some h)
theorem dueOf_none:∀{T:List Ent} {i:Int},dueOf T i=none→∀v,(v,i)∉T
 | [],i,h,v=>by simp
 | x::T,i,h,v=>by
  unfold dueOf at h
  split at h
  ·cases h
  ·next e=>
   intro hx
   rcases List.mem_cons.1 hx with hx|hx
   ·exact e (by rw[←hx])
   ·exact dueOf_none h v hx
theorem map_dueOf{f:Int→Option Int}(hm:∀i v,f i=some v↔(v,i)∈T)(h:(T.map Prod.snd).Nodup)(i:Int):f i=dueOf T i:=by
 cases e:dueOf T i with
 | none=>
  cases e2:f i with
  | none=>rfl
  | some v=>exact absurd ((hm i v).1 e2) (dueOf_none e v)
 | some v=>exact(hm i v).2 (dueOf_some e)
def isNil:Option Value→Bool
 | some (.slice none 0 0)=>true
 | _=>false
def isZero:Option Value→Bool
 | some (.int .u64 0)=>true
 | _=>false
theorem isNil_eq{v:Option Value}(h:isNil v=true):v=some (.slice none 0 0):=by
 unfold isNil at h
 split at h
 ·rfl
 ·cases h
theorem isZero_eq{v:Option Value}(h:isZero v=true):v=some (.int .u64 0):=by
 unfold isZero at h
 split at h
 ·rfl
 ·cases h
theorem zc_size:Tryz.zeroCells176.size=263:=by kernel_rfl
theorem zc_used:(List.range 4).all (fun l=>isZero Tryz.zeroCells176[2+l*65]?)=true:=by kernel_rfl
theorem zc_slot:(List.range 4).all (fun l=>(List.range 64).all (fun s=>isNil Tryz.zeroCells176[2+l*65+1+s]?))=true:=by kernel_rfl
theorem zc_far:isNil Tryz.zeroCells176[262]?=true:=by kernel_rfl
theorem new_any(now:Nat)(hn:now<B64)(w:World) :
  Calls Tryz.prog 38 #[.int .u64 now] w fun e w'=>e=.returned (.pointer (some ⟨w.heap.size+1,0,none⟩))∧Below w.heap.size w w'∧∃F,Whl w' F (w.heap.size+1) w.heap.size now []∧∀k,F k→w.heap.size≤k:=by
 have hmm:=@run_makeMap Tryz.prog
 obtain⟨S,hS⟩:∃S,w.heap.size=S:=⟨_,rfl⟩
 obtain⟨cs,hcs⟩:∃cs,(Tryz.zeroCells176.setIfInBounds 0 (.int .u64 now)).setIfInBounds 1 (.map (some S))=cs:=⟨_,rfl⟩
 obtain⟨w2,hw2⟩:∃w2,(w.alloc (.map #[] 0)).alloc (.cells cs 176)=w2:=⟨_,rfl⟩
 have b1:Below w.heap.size w (w.alloc (.map #[] 0)):=(Below.refl _ _).alloc (le_refl _) _
 have b2:Below w.heap.size w w2:=by rw[←hw2];exact b1.alloc b1.size _
 have hsz:cs.size=263:=by rw[←hcs,Array.size_setIfInBounds,Array.size_setIfInBounds];exact zc_size
 have cell:∀k,2≤k→cs[k]?=Tryz.zeroCells176[k]?:=fun k hk=>by
  rw[←hcs,getElem?_setIfInBounds,if_neg (by omega),getElem?_setIfInBounds,if_neg (by omega)]
 have c0:cs[0]?=some (.int .u64 now):=by
  rw[←hcs,getElem?_setIfInBounds,if_neg (by omega),getElem?_setIfInBounds,if_pos rfl,if_pos (by rw[zc_size];omega)]
 have c1:cs[1]?=some (.map (some S)):=by
  rw[←hcs,getElem?_setIfInBounds,if_pos rfl,if_pos (by rw[Array.size_setIfInBounds,zc_size];omega)]
 have cu:∀l,l<4→cs[2+l*65]?=some (.int .u64 0):=fun l hl=>by
  rw[cell _ (by omega)];exact isZero_eq (List.all_eq_true.1 zc_used l (List.mem_range.2 hl))
 have cl:∀l s,l<4→s<64→cs[2+l*65+1+s]?=some (.slice none 0 0):=fun l s hl hs=>by
  rw[cell _ (by omega)];exact isNil_eq (List.all_eq_true.1 (List.all_eq_true.1 zc_slot l (List.mem_range.2 hl)) s (List.mem_range.2 hs))
 have cf:cs[262]?=some (.slice none 0 0):=by rw[cell _ (by omega)];exact isNil_eq zc_far
 have hB:w2.heap[S+1]?=some (.cells cs 176 (0,0)):=by
  rw[←hw2,←hS];have:=heap_alloc_new (w.alloc (.map #[] 0)) (.cells cs 176);simpa using this
 have hM:w2.heap[S]?=(w.alloc (.map #[] 0)).heap[S]?:=by rw[←hw2];exact heap_alloc_old _ _ (by rw[←hS];simp)
 have dm:DuM w2 S (fun _=>none) 0:=by
  have:=DuM.made w
  rw[hS] at this
  exact this.of_block hM
 have wa:WhA w2 (S+1) S S (fun k=>(cs[k]?).getD undef) now (fun _=>0) (fun _ _=>[]) [] (fun _=>none) 0:=by
  have rb:∀i,i<263→rowB ((cs[i]?).getD undef)=none:=fun i hi=>by
   rcases cellCase i hi with rfl|rfl|⟨l,hl,rfl⟩|⟨l,s,hl,hs,rfl⟩|rfl
   ·rw[c0];rfl
   ·rw[c1];rfl
   ·rw[cu l hl];rfl
   ·rw[cl l s hl hs];rfl
   ·rw[cf];rfl
  refine⟨⟨cs,hB,hsz,fun k hk=>(by show cs[k]?=some ((cs[k]?).getD undef);rw[Array.getElem?_eq_getElem (by omega)];rfl)⟩,by rw[c0];rfl,by rw[c1];rfl,fun l hl=>(by rw[cu l hl];rfl),fun l s hl hs=>(by rw[cl l s hl hs];exact OwnF.nil _ _),by rw[cf];exact OwnF.nil _ _,dm,fun i j hi hj _ k hk=>(by rw[rb i hi] at hk;cases hk),fun l hl=>(by decide),hn,by omega,le_refl _⟩
 have wl:WhL now (fun _=>0) (fun _ _=>[]) [] (fun x=>x∈([]:List Ent)):=
  ⟨fun x hx=>(by cases hx),fun l s _ _ x=>(by simp),fun _ _ _ _=>(by simp),fun x=>(by simp),Srt.nil,by simp,fun l s _ _=>(by simp)⟩
 have FIN:Aside (Below w.heap.size w w2∧∃F,Whl w2 F (S+1) S now []∧∀k,F k→S≤k):=
  ⟨b2,foot (S+1) S (fun k=>(cs[k]?).getD undef),⟨S,_,_,_,_,_,wa,wl,fun i v=>(by simp),⟨Srt.nil,by simp,fun x hx=>(by cases hx),by simp⟩,fun k=>Iff.rfl⟩,fun k hk=>(wa.footLt hk).1⟩
 have HW2:Hid _:=hw2
 have HCS:Hid _:=hcs
 clear b1 b2 hsz cell c0 c1 cu cl cf hB hM dm wa wl hw2 hcs hn
 rw[hS]
 go_enter Tryz.func38,Tryz.ntmps38
 go_wp2
 rw[HCS.out,HW2.out]
 go_ret
 refine⟨rfl,by rw[←hS];exact FIN.out.1,FIN.out.2⟩
theorem now_any(h:Whl w F B base now T):Calls Tryz.prog 50 #[.pointer (some ⟨B,0,none⟩)] w fun e w'=>e=.returned (.int .u64 now)∧w'=w:=by
 obtain⟨M,hd,u,c,far,f,h1,h2,h3,h4,h5⟩:=h
 have c0:=h1.head.cell (k:=0) (by omega)
 rw[h1.h0] at c0
 clear h1 h2 h3 h4 h5
 go_enter Tryz.func50,Tryz.ntmps50
 go_wp2
 go_ret
 exact⟨rfl,rfl⟩
end
section
theorem TOk.erase{T:List Ent}(h:TOk T)(t:Ent):TOk (T.erase t):=
 ⟨h.srt.erase t,List.Pairwise.sublist (List.erase_sublist.map Prod.snd) h.ids,fun x hx=>h.wf x (List.mem_of_mem_erase hx),Nat.le_trans (List.length_erase_le) h.len⟩
variable {w w':World}{F:Nat→Prop}{B base now:Nat}{T:List Ent}
def canT(T:List Ent)(i:Int):List Ent:=match dueOf T i with|some v=>T.erase (v,i)|none=>T
set_option maxRecDepth 10000 in
theorem cancel_any(h:Whl w F B base now T){i:Int}(wi:wfI i)(hbase:base≤w.heap.size) :
  Calls Tryz.prog 267 #[.pointer (some ⟨B,0,none⟩),.int .i64 i] w fun e w'=>e=.returned (.bool (dueOf T i).isSome)∧WIs w F B base now (canT T i) w':=by
 have SAME:Aside (WIs w F B base now T w):=WIs.same h
 obtain⟨M,hd,u,c,far,f,h1,h2,h3,h4,h5⟩:=h
 have c1:=h1.head.cell (k:=1) (by omega)
 rw[h1.h1] at c1
 have hf:=map_dueOf h3 h4.ids i
 unfold canT
 cases hdu:dueOf T i with
 | none=>
  rw[hdu] at hf
  have lk:=h1.map.look_no wi hf
  clear h1 h2 h3 h4 h5 hf hdu
  go_enter Tryz.func267,Tryz.ntmps267
  go_wp2
  go_ret
  exact⟨rfl,SAME.out⟩
 | some v=>
  rw[hdu] at hf
  have lk:=h1.map.look wi hf
  have ht:(v,i)∈T:=dueOf_some hdu
  obtain⟨D,hvD,hD⟩:=h2.rng _ ht
  simp only at hvD
  subst hvD
  have hlen:0<T.length:=List.length_pos_of_mem ht
  have hn1:T.length=T.length-1+1:=by omega
  have hm1:=h1.map
  rw[hn1] at hm1
  obtain⟨w1,hst0,hm,hg⟩:=hm1.drop wi hf 0
  have hst:∀ty,(Builtin.delete_ #[170,3] ty #[.map (some M),.int .i64 i]).run Tryz.prog w=.ok (.tuple #[]) w1:=fun ty=>hst0
  have a1:=h1.mapSet hm hg
  obtain⟨p1,p2⟩:=h2.at (t:=((D:Int),i)) rfl ht
  have pt:=drop_any w1 B M base now (T.length-1) D hd u c far (fdel f i) ((D:Int),i) a1 rfl hD p1 p2
  have PT:Aside (Calls Tryz.prog 297 #[.pointer (some ⟨B,0,none⟩),.agg #[.int .u64 (D:Int),.int .i64 i]] w1 fun e w'=>e=.returned (.tuple #[])∧WIs w F B base now (T.erase ((D:Int),i)) w'):=by
   refine Calls.mono pt ?_
   rintro e w' ⟨rfl,hd',u',c',far',q1,q2,q3,q4⟩
   have fF:Fr F w w':=by
    have x1:Fr F w w1:=(Fr.of_grown hg).mono (fun j hj=>by injection hj with hj;exact(h5 j).2 (.inr (.inl hj.symm)))
    exact x1.trans q3 (fun j hj=>.inl ((h5 j).2 hj))
   have hnd:=nodup_of_ids h4.ids
   refine⟨rfl,foot B M hd',⟨M,hd',u',c',far',_,by rw[List.length_erase_of_mem ht];exact q1,(h2.drop q2 rfl ht).congr (fun x=>by rw[hnd.mem_erase_iff];exact And.comm),fun a v=>?_,h4.erase _,fun k=>Iff.rfl⟩,fF,fun k hk=>?_⟩
   ·rw[hnd.mem_erase_iff]
    unfold fdel
    by_cases ea:a=i
    ·subst ea
     rw[if_pos rfl]
     constructor
     ·intro e;cases e
     ·rintro⟨e1,e2⟩
      have:=ids_inj h4.ids e2 ht rfl
      exact absurd this e1
    ·rw[if_neg ea,h3]
     constructor
     ·intro e;exact⟨fun e'=>ea (by injection e'),e⟩
     ·rintro⟨_,e⟩;exact e
   ·rcases q4 k hk with x|x
    ·exact .inl ((h5 k).2 x)
    ·right;have:=hg.size;omega
  clear h1 h2 h3 h4 h5 hf hdu hm hg a1 pt p1 p2 hm1 hn1 hst0
  go_enter Tryz.func267,Tryz.ntmps267
  go_wp2_with (go_at_call 297;refine PT.out.mono ?_;rintro e w' ⟨rfl,G1⟩)
  go_ret
  exact⟨rfl,G1⟩
end
section
section
variable {now:Nat}{u:Nat→Nat}{c:Nat→Nat→List Ent}{far:List Ent}{T:List Ent}
theorem plc_slot(now e:Nat):(plc now e).2<64:=by
 unfold plc slt
 exact Nat.mod_lt _ (by decide)
end
end
section
def accL(c:Nat→Nat→List Ent)(far:List Ent):Nat→List Ent
 | 0=>far
 | m+1=>accL c far m++c (m/64) (m%64)
section
variable {now:Nat}{u:Nat→Nat}{c:Nat→Nat→List Ent}{far:List Ent}{T:List Ent}
theorem accL_mem(c:Nat→Nat→List Ent)(far:List Ent)(x:Ent):∀m,x∈accL c far m↔x∈far∨∃i,i<m∧x∈c (i/64) (i%64)
 | 0=>by simp[accL]
 | m+1=>by
  rw[accL,List.mem_append,accL_mem c far x m]
  constructor
  ·rintro((h|⟨i,h1,h2⟩)|h)
   ·exact .inl h
   ·exact .inr ⟨i,by omega,h2⟩
   ·exact .inr ⟨m,by omega,h⟩
  ·rintro(h|⟨i,h1,h2⟩)
   ·exact .inl (.inl h)
   ·by_cases e:i=m
    ·subst e;exact .inr h2
    ·exact .inl (.inr ⟨i,by omega,h2⟩)
theorem WhL.accN(h:WhL now u c far (fun x=>x∈T)):∀m,m≤256→(accL c far m).Nodup∧∀x∈accL c far m,x∈T
 | 0,_=>⟨h.farN,fun x hx=>((h.farM x).1 hx).1⟩
 | m+1,hm=>by
  obtain⟨h1,h2⟩:=h.accN m (by omega)
  have hl:m/64<4:=by omega
  have hs:m%64<64:=by omega
  rw[accL]
  refine⟨List.nodup_append.2 ⟨h1,h.slotN _ _ hl hs,fun a ha b hb e=>?_⟩,fun x hx=>?_⟩
  ·subst e
   obtain⟨_,p1⟩:=(h.slotM _ _ hl hs a).1 hb
   rcases (accL_mem c far a m).1 ha with q|⟨i,q1,q2⟩
   ·have:=((h.farM a).1 q).2
    rw[p1] at this
    simp only at this
    omega
   ·obtain⟨_,p2⟩:=(h.slotM _ _ (by omega) (by omega) a).1 q2
    rw[p1] at p2
    injection p2 with e1 e2
    omega
  ·rcases List.mem_append.1 hx with q|q
   ·exact h2 x q
   ·exact((h.slotM _ _ hl hs x).1 q).1
theorem WhL.accAll(h:WhL now u c far (fun x=>x∈T))(hT:TOk T):sortE (accL c far 256)=T:=by
 obtain⟨h1,h2⟩:=h.accN 256 (le_refl _)
 refine(sortE_of hT.srt (perm_of_mem (nodup_of_ids hT.ids) h1 (fun x=>⟨fun hx=>?_,h2 x⟩))).symm
 rw[accL_mem]
 by_cases hc:(plc now x.1.toNat).1<4
 ·right
  have hs:=plc_slot now x.1.toNat
  refine⟨(plc now x.1.toNat).1*64+(plc now x.1.toNat).2,by omega,?_⟩
  rw[show((plc now x.1.toNat).1*64+(plc now x.1.toNat).2)/64=(plc now x.1.toNat).1 by omega,show((plc now x.1.toNat).1*64+(plc now x.1.toNat).2)%64=(plc now x.1.toNat).2 by omega]
  exact(h.slotM _ _ hc hs x).2 ⟨hx,rfl⟩
 ·left
  exact(h.farM x).2 ⟨hx,by omega⟩
end
def slotsV(hd:Nat→Value)(l:Nat):List Value:=(List.range 64).map (fun s=>hd (2+l*65+1+s))
theorem slotsV_at(hd:Nat→Value)(l:Nat){s:Nat}(hs:s<64):(slotsV hd l)[s]?=some (hd (2+l*65+1+s)):=by
 unfold slotsV
 rw[List.getElem?_map,List.getElem?_range hs]
 rfl
theorem idx_any(hd:Nat→Value)(l:Nat){s:Nat}(hs:s<64){a:Option Addr}{n cap:Nat}(e:hd (2+l*65+1+s)=.slice a n cap)(w:World):(Instr.index 171 (.agg (slotsV hd l).toArray) (.int .i64 (s:Int))).run Tryz.prog w=.ok (.slice a n cap) w:=by
 have hn:(0:Int)≤(s:Int)∧(s:Int)<64:=by omega
 have hg:=slotsV_at hd l hs
 rw[e] at hg
 simp[Instr.index,run_underlying Tryz.underlying171,asIntOf,hn,hg,go_sem]
 intro h;omega
end
theorem slots_range{hd:Nat→Value}{w:World}{B l:Nat}(h:Hd w B hd)(hl:l<4):w.rangeAt B (2+l*65+1) (slotsV hd l):=fun j v hj=>by
 have hj64:j<64:=by
  have:=(List.getElem?_eq_some_iff.1 hj).1
  simpa [slotsV] using this
 rw[slotsV_at hd l hj64] at hj
 rw[←hj]
 exact h.cell (k:=2+l*65+1+j) (by omega)
theorem all_any{w:World}{F:Nat→Prop}{B base now:Nat}{T:List Ent}(h:Whl w F B base now T) :
  Calls Tryz.prog 56 #[.pointer (some ⟨B,0,none⟩)] w fun e w'=>∃v,e=.returned v∧OwnF w' w.heap.size v T∧Below w.heap.size w w':=by
 obtain⟨M,hd,u,c,far,f,h1,h2,h3,h4,h5⟩:=h
 have cF:=h1.head.cell (k:=262) (by omega)
 obtain⟨fa,fc,ef,-,-,-,fL⟩:=h1.far.isL
 rw[ef] at cF
 have fl:far.length≤1000:=len_le h2.farN (fun x hx=>((h2.farM x).1 hx).1) h4.len
 have CL:Aside (Calls Tryz.prog 106 #[.slice fa far.length fc] w fun r w'=>∃a n cap,r=.returned (.slice a n cap)∧OwnF w' w.heap.size (.slice a n cap) (accL c far 0)∧Below w.heap.size w w'):=by
  refine Calls.mono (clone_any (.slice fa far.length fc) base far w (by rw[←ef];exact h1.far) (by omega)) ?_
  rintro e w' ⟨v',rfl,q1,q2,q3⟩
  obtain⟨a,cap,rfl,-⟩:=q1.isL
  exact⟨a,_,cap,rfl,q1,q2⟩
 have W:Aside (WhA w B M base hd now u c far f T.length∧WhL now u c far (fun x=>x∈T)∧TOk T):=⟨h1,h2,h4⟩
 clear h1 h2 h3 h4 h5 fl fL ef
 go_enter Tryz.func56,Tryz.ntmps56
 go_wp2_with fail
 refine CL.out.mono ?_
 rintro e w1 ⟨a1,n1,c1,rfl,o1,b1⟩
 have O1:Aside (OwnF w1 w.heap.size (.slice a1 n1 c1) (accL c far 0)∧Below w.heap.size w w1):=⟨o1,b1⟩
 clear o1 b1 CL
 go_wp2_with fail
 go_loopg [3,4,6,12] 4 (fun kx s3 s4 s6 s12 wr=>∃(l:Nat)(a:Option Addr)(n cap:Nat),s12=.int .i64 l∧s3=.slice a n cap∧l≤4∧4-l≤kx∧Aside (OwnF wr w.heap.size (.slice a n cap) (accL c far (l*64))∧Below w.heap.size w wr))
 case atStart=>exact⟨0,a1,n1,c1,rfl,rfl,by omega,by omega,O1⟩
 case round=>
  clear O1
  obtain⟨l,a2,n2,c2,rfl,rfl,hl,hkx,O⟩:=hrel
  by_cases hlt:l<4
  ·have hz:(l:Int)<4:=by omega
   have rg:wr.rangeAt B (2+l*65+1) (slotsV hd l):=slots_range (W.out.1.head.of_block (O.out.2.block B W.out.1.head.lt)) hlt
   have O1:Aside (OwnF wr w.heap.size (.slice a2 n2 c2) (accL c far (l*64+0))∧Below w.heap.size w wr):=O.out
   clear O
   go_upto_region 5 with fail
   refine wp_region_lit ?_
   iterate 6
    refine wpList_plain rfl (fun K hK=>?_)
    go_simp
    refine hK _ _ ?_
    clear hK K
    try simp only[Act.put,sA,sB,sC]
   refine wpList_load_mid rfl 171 _ rfl B (2+l*65+1) rfl (slotsV hd l) _ rg Tryz.underlying171 rfl (by kernel_rfl) ?_
   try simp only[Act.put,sA,sB,sC]
   obtain⟨SV,hSV⟩:∃SV,(slotsV hd l).toArray=SV:=⟨_,rfl⟩
   rw[hSV]
   refine wpList_plain rfl (fun K hK=>?_)
   go_simp
   refine hK _ _ ?_
   clear hK K
   try simp only[Act.put,sA,sB,sC]
   refine wpList_nil ?_
   have IX:Aside (∀(s:Nat),s<64→∃a n cap,(∀W,(Instr.index 171 (.agg SV) (.int .i64 (s:Int))).run Tryz.prog W=.ok (.slice a n cap) W)∧n=(c l s).length∧IsL w a cap (c l s)):=fun s hs=>by
    obtain⟨a,cap,e,-,-,-,il⟩:=(W.out.1.slot l s hlt hs).isL
    exact⟨a,_,cap,fun W=>by rw[←hSV];exact idx_any hd l hs e W,rfl,il⟩
   clear hSV rg
   go_wp2_with fail
   go_loopg [3,6,22] 64 (fun ky s3 s6 s22 wr=>∃(s:Nat)(a:Option Addr)(n cap:Nat),s22=.int .i64 s∧s3=.slice a n cap∧s≤64∧64-s≤ky∧Aside (OwnF wr w.heap.size (.slice a n cap) (accL c far (l*64+s))∧Below w.heap.size w wr))
   case atStart=>exact⟨0,a2,n2,c2,rfl,rfl,by omega,by omega,O1⟩
   case round=>
    clear O1
    obtain⟨s,a3,n3,c3,rfl,rfl,hs,hky,O⟩:=hrel
    by_cases hst:s<64
    ·have hzs:(s:Int)<64:=by omega
     obtain⟨xa,xn,xc,ix,hxn,il⟩:=IX.out s hst
     have ixw:=ix wr
     obtain⟨nd,sub⟩:=W.out.2.1.accN (l*64+s) (by omega)
     have hal:(accL c far (l*64+s)).length≤1000:=len_le nd sub W.out.2.2.len
     have hcl:(c l s).length≤1000:=len_le (W.out.2.1.slotN l s hlt hst) (fun x hx=>((W.out.2.1.slotM l s hlt hst x).1 hx).1) W.out.2.2.len
     obtain⟨v',w',hr,o',g',-⟩:=appF O.out.1 (il.below O.out.2) (by omega) O.out.2.size 39
     rw[←hxn] at hr
     have ea:accL c far (l*64+s)++c l s=accL c far (l*64+(s+1)):=by
      show _=accL c far (l*64+s)++c ((l*64+s)/64) ((l*64+s)%64)
      rw[show(l*64+s)/64=l by omega,show(l*64+s)%64=s by omega]
     rw[ea] at o'
     have bl:Below w.heap.size w w':=O.out.2.trans ((Fr.of_grown g').toBelow (fun k hk=>(O.out.1.rowLt hk).1) O.out.2.size)
     obtain⟨pa,pc,e',-⟩:=o'.isL
     obtain⟨pn,hpn⟩:∃pn,(accL c far (l*64+(s+1))).length=pn:=⟨_,rfl⟩
     rw[hpn] at e'
     subst e'
     have O2:Aside (OwnF w' w.heap.size (.slice pa pn pc) (accL c far (l*64+(s+1)))∧Below w.heap.size w w'):=⟨o',bl⟩
     clear ix hxn il nd sub hal hcl o' g' ea bl hpn O
     go_wp2_with (at_builtin;refine Lib.wpList_append_run wr rfl _ _ 39 39 rfl _ _ rfl rfl _ w' hr ?_)
     go_roundg (64-(s+1))
     case measure=>omega
     case rel=>exact⟨s+1,pa,pn,pc,by go_num,rfl,by omega,le_refl _,O2⟩
    ·have e0:s=64:=by omega
     subst e0
     have O2:Aside (OwnF wr w.heap.size (.slice a3 n3 c3) (accL c far ((l+1)*64))∧Below w.heap.size w wr):=by
      have:=O.out
      rw[show l*64+64=(l+1)*64 by omega] at this
      exact this
     clear O IX
     go_wp2_with fail
     go_roundg (4-(l+1))
     case measure=>omega
     case rel=>exact⟨l+1,a3,n3,c3,by go_num,rfl,by omega,le_refl _,O2⟩
  ·have e0:l=4:=by omega
   subst e0
   obtain⟨nd,sub⟩:=W.out.2.1.accN 256 (le_refl _)
   have hal:(accL c far 256).length≤1000:=len_le nd sub W.out.2.2.len
   have ST:Aside (Calls Tryz.prog 107 #[.slice a2 n2 c2,.func (.func 108) #[] #[]] wr fun e w'=>e=.returned (.tuple #[])∧OwnF w' w.heap.size (.slice a2 n2 c2) T∧Below w.heap.size w w'):=by
    refine Calls.mono (sort_any (.slice a2 n2 c2) w.heap.size (accL c far 256) wr O.out.1 (by omega)) ?_
    rintro e w' ⟨rfl,q1,q2⟩
    rw[W.out.2.1.accAll W.out.2.2] at q1
    exact⟨rfl,q1,O.out.2.trans ((Fr.of_grown q2).toBelow (fun k hk=>(O.out.1.rowLt hk).1) O.out.2.size)⟩
   clear nd sub hal O
   go_wp2_with fail
   refine ST.out.mono ?_
   rintro e w3 ⟨rfl,q1,q2⟩
   clear ST
   go_wp2_with fail
   go_ret
   exact⟨_,rfl,q1,q2⟩
end Go.Proofs.YthpgfmmpjoodkaaGreatDoor.Wl
