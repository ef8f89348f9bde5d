import Derived.Test.YtjpmepfbpfkmoaaGreatDoorRWWhG
import Derived.Deep.MidRow
namespace Go.Proofs.YtjpmepfbpfkmoaaGreatDoorR.Wl
set_option maxHeartbeats 8000000
set_option maxRecDepth 100000
set_option linter.unusedVariables false
open Go.RowKit Go.Lib Go.Sort Go.WideMaps Go.Maps
section
def accL(c:Nat→Nat→List Ent)(far:List Ent):Nat→List Ent
 | 0=>far
 | m+1=>accL c far m++c (m/64) (m%64)
section
variable {now:Nat}{u:Nat→Nat}{c:Nat→Nat→List Ent}{far:List Ent}{T:List Ent}
theorem accL_mem(c:Nat→Nat→List Ent)(far:List Ent)(x:Ent):∀m,x∈accL c far m↔x∈far∨∃i,i<m∧x∈c (i/64) (i%64)
 | 0=>by simp[accL]
 | m+1=>by
  rw[accL,List.mem_append,accL_mem c far x m]
  constructor
  ·rintro((h|⟨i,h1,h2⟩)|h)
   ·exact .inl h
   ·exact .inr ⟨i,by omega,h2⟩
   ·exact .inr ⟨m,by omega,h⟩
  ·rintro(h|⟨i,h1,h2⟩)
   ·exact .inl (.inl h)
   ·by_cases e:i=m
    ·subst e;exact .inr h2
    ·exact .inl (.inr ⟨i,by omega,h2⟩)
theorem WhL.accN(h:WhL now u c far (fun x=>x∈T)):∀m,m≤256→(accL c far m).Nodup∧∀x∈accL c far m,x∈T
 | 0,_=>⟨h.farN,fun x hx=>((h.farM x).1 hx).1⟩
 | m+1,hm=>by
  obtain⟨h1,h2⟩:=h.accN m (by omega)
  have hl:m/64<4:=by omega
  have hs:m%64<64:=by omega
  rw[accL]
  refine⟨List.nodup_append.2 ⟨h1,h.slotN _ _ hl hs,fun a ha b hb e=>?_⟩,fun x hx=>?_⟩
  ·subst e
   obtain⟨_,p1⟩:=(h.slotM _ _ hl hs a).1 hb
   rcases (accL_mem c far a m).1 ha with q|⟨i,q1,q2⟩
   ·have:=((h.farM a).1 q).2
    rw[p1] at this
    simp only at this
    omega
   ·obtain⟨_,p2⟩:=(h.slotM _ _ (by omega) (by omega) a).1 q2
    rw[p1] at p2
    injection p2 with e1 e2
    omega
  ·rcases List.mem_append.1 hx with q|q
   ·exact h2 x q
   ·exact((h.slotM _ _ hl hs x).1 q).1
theorem WhL.accAll(h:WhL now u c far (fun x=>x∈T))(hT:TOk T):sortE (accL c far 256)=T:=by
 obtain⟨h1,h2⟩:=h.accN 256 (Nat.le_refl _)
 refine(sortE_of hT.srt (perm_of_mem (nodup_of_ids hT.ids) h1 (fun x=>⟨fun hx=>?_,h2 x⟩))).symm
 rw[accL_mem]
 by_cases hc:(plc now x.1.toNat).1<4
 ·right
  have hs:=plc_slot now x.1.toNat
  refine⟨(plc now x.1.toNat).1*64+(plc now x.1.toNat).2,by omega,?_⟩
  rw[show((plc now x.1.toNat).1*64+(plc now x.1.toNat).2)/64=(plc now x.1.toNat).1 by omega,show((plc now x.1.toNat).1*64+(plc now x.1.toNat).2)%64=(plc now x.1.toNat).2 by omega]
  exact(h.slotM _ _ hc hs x).2 ⟨hx,rfl⟩
 ·left
  exact(h.farM x).2 ⟨hx,by omega⟩
end
def slotsV(hd:Nat→Value)(l:Nat):List Value:=(List.range 64).map (fun s=>hd (2+l*65+1+s))
theorem slotsV_at(hd:Nat→Value)(l:Nat){s:Nat}(hs:s<64):(slotsV hd l)[s]?=some (hd (2+l*65+1+s)):=by
 unfold slotsV
 rw[List.getElem?_map,List.getElem?_range hs]
 rfl
theorem idx_any(hd:Nat→Value)(l:Nat){s:Nat}(hs:s<64){a:Option Addr}{n cap:Nat}(e:hd (2+l*65+1+s)=.slice a n cap)(w:World):(Instr.index 158 (.agg (slotsV hd l).toArray) (.int .i64 (s:Int))).run Tryz.prog w=.ok (.slice a n cap) w:=by
 have hn:(0:Int)≤(s:Int)∧(s:Int)<64:=by omega
 have hg:=slotsV_at hd l hs
 rw[e] at hg
 simp[Instr.index,run_underlying Tryz.underlying158,asIntOf,hn,hg,go_sem]
 intro h;omega
end
theorem slots_range{hd:Nat→Value}{w:World}{B l:Nat}(h:Hd w B hd)(hl:l<4):w.rangeAt B (2+l*65+1) (slotsV hd l):=fun j v hj=>by
 have hj64:j<64:=by
  have:=(List.getElem?_eq_some_iff.1 hj).1
  simpa [slotsV] using this
 rw[slotsV_at hd l hj64] at hj
 rw[←hj]
 exact h.cell (k:=2+l*65+1+j) (by omega)
theorem all_any{w:World}{F:Nat→Prop}{B base now:Nat}{T:List Ent}(h:Whl w F B base now T) :
  Calls Tryz.prog 48 #[.pointer (some ⟨B,0,none⟩)] w fun e w'=>∃v,e=.returned v∧OwnF w' w.heap.size v T∧Below w.heap.size w w':=by
 obtain⟨M,hd,u,c,far,f,h1,h2,h3,h4,h5⟩:=h
 have cF:=h1.head.cell (k:=262) (by omega)
 obtain⟨fa,fc,ef,-,-,-,fL⟩:=h1.far.isL
 rw[ef] at cF
 have fl:far.length≤1000:=len_le h2.farN (fun x hx=>((h2.farM x).1 hx).1) h4.len
 have CL:Aside (Calls Tryz.prog 92 #[.slice fa far.length fc] w fun r w'=>∃a n cap,r=.returned (.slice a n cap)∧OwnF w' w.heap.size (.slice a n cap) (accL c far 0)∧Below w.heap.size w w'):=by
  refine Calls.mono (clone_any (.slice fa far.length fc) base far w (by rw[←ef];exact h1.far) (by omega)) ?_
  rintro e w' ⟨v',rfl,q1,q2,q3⟩
  obtain⟨a,cap,rfl,-⟩:=q1.isL
  exact⟨a,_,cap,rfl,q1,q2⟩
 have W:Aside (WhA w B M base hd now u c far f T.length∧WhL now u c far (fun x=>x∈T)∧TOk T):=⟨h1,h2,h4⟩
 clear h1 h2 h3 h4 h5 fl fL ef
 go_enter Tryz.func48,Tryz.ntmps48
 go_wp2_with fail
 refine CL.out.mono ?_
 rintro e w1 ⟨a1,n1,c1,rfl,o1,b1⟩
 have O1:Aside (OwnF w1 w.heap.size (.slice a1 n1 c1) (accL c far 0)∧Below w.heap.size w w1):=⟨o1,b1⟩
 clear o1 b1 CL
 go_wp2_with fail
 go_loopg [3,4,6,12] 4 (fun kx s3 s4 s6 s12 wr=>∃(l:Nat)(a:Option Addr)(n cap:Nat),s12=.int .i64 l∧s3=.slice a n cap∧l≤4∧4-l≤kx∧Aside (OwnF wr w.heap.size (.slice a n cap) (accL c far (l*64))∧Below w.heap.size w wr))
 case atStart=>exact⟨0,a1,n1,c1,rfl,rfl,by omega,by omega,O1⟩
 case round=>
  clear O1
  obtain⟨l,a2,n2,c2,rfl,rfl,hl,hkx,O⟩:=hrel
  by_cases hlt:l<4
  ·have hz:(l:Int)<4:=by omega
   have rg:wr.rangeAt B (2+l*65+1) (slotsV hd l):=slots_range (W.out.1.head.of_block (O.out.2.block B W.out.1.head.lt)) hlt
   have O1:Aside (OwnF wr w.heap.size (.slice a2 n2 c2) (accL c far (l*64+0))∧Below w.heap.size w wr):=O.out
   clear O
   go_upto_region 5 with fail
   refine wp_region_lit ?_
   iterate 6
    refine wpList_plain rfl (fun K hK=>?_)
    go_simp
    refine hK _ _ ?_
    clear hK K
    try simp only[Act.put,sA,sB,sC]
   refine wpList_load_mid rfl 158 _ rfl B (2+l*65+1) rfl (slotsV hd l) _ rg Tryz.underlying158 rfl (by kernel_rfl) ?_
   try simp only[Act.put,sA,sB,sC]
   obtain⟨SV,hSV⟩:∃SV,(slotsV hd l).toArray=SV:=⟨_,rfl⟩
   rw[hSV]
   refine wpList_plain rfl (fun K hK=>?_)
   go_simp
   refine hK _ _ ?_
   clear hK K
   try simp only[Act.put,sA,sB,sC]
   refine wpList_nil ?_
   have IX:Aside (∀(s:Nat),s<64→∃a n cap,(∀W,(Instr.index 158 (.agg SV) (.int .i64 (s:Int))).run Tryz.prog W=.ok (.slice a n cap) W)∧n=(c l s).length∧IsL w a cap (c l s)):=fun s hs=>by
    obtain⟨a,cap,e,-,-,-,il⟩:=(W.out.1.slot l s hlt hs).isL
    exact⟨a,_,cap,fun W=>by rw[←hSV];exact idx_any hd l hs e W,rfl,il⟩
   clear hSV rg
   go_wp2_with fail
   go_loopg [3,6,22] 64 (fun ky s3 s6 s22 wr=>∃(s:Nat)(a:Option Addr)(n cap:Nat),s22=.int .i64 s∧s3=.slice a n cap∧s≤64∧64-s≤ky∧Aside (OwnF wr w.heap.size (.slice a n cap) (accL c far (l*64+s))∧Below w.heap.size w wr))
   case atStart=>exact⟨0,a2,n2,c2,rfl,rfl,by omega,by omega,O1⟩
   case round=>
    clear O1
    obtain⟨s,a3,n3,c3,rfl,rfl,hs,hky,O⟩:=hrel
    by_cases hst:s<64
    ·have hzs:(s:Int)<64:=by omega
     obtain⟨xa,xn,xc,ix,hxn,il⟩:=IX.out s hst
     have ixw:=ix wr
     obtain⟨nd,sub⟩:=W.out.2.1.accN (l*64+s) (by omega)
     have hal:(accL c far (l*64+s)).length≤1000:=len_le nd sub W.out.2.2.len
     have hcl:(c l s).length≤1000:=len_le (W.out.2.1.slotN l s hlt hst) (fun x hx=>((W.out.2.1.slotM l s hlt hst x).1 hx).1) W.out.2.2.len
     obtain⟨v',w',hr,o',g',-⟩:=appF O.out.1 (il.below O.out.2) (by omega) O.out.2.size 36
     rw[←hxn] at hr
     have ea:accL c far (l*64+s)++c l s=accL c far (l*64+(s+1)):=by
      show _=accL c far (l*64+s)++c ((l*64+s)/64) ((l*64+s)%64)
      rw[show(l*64+s)/64=l by omega,show(l*64+s)%64=s by omega]
     rw[ea] at o'
     have bl:Below w.heap.size w w':=O.out.2.trans ((Fr.of_grown g').toBelow (fun k hk=>(O.out.1.rowLt hk).1) O.out.2.size)
     obtain⟨pa,pc,e',-⟩:=o'.isL
     obtain⟨pn,hpn⟩:∃pn,(accL c far (l*64+(s+1))).length=pn:=⟨_,rfl⟩
     rw[hpn] at e'
     subst e'
     have O2:Aside (OwnF w' w.heap.size (.slice pa pn pc) (accL c far (l*64+(s+1)))∧Below w.heap.size w w'):=⟨o',bl⟩
     clear ix hxn il nd sub hal hcl o' g' ea bl hpn O
     go_wp2_with (at_builtin;refine Lib.wpList_append_run wr rfl _ _ 36 36 rfl _ _ rfl rfl _ w' hr ?_)
     go_roundg (64-(s+1))
     case measure=>omega
     case rel=>exact⟨s+1,pa,pn,pc,by go_num,rfl,by omega,Nat.le_refl _,O2⟩
    ·have e0:s=64:=by omega
     subst e0
     have O2:Aside (OwnF wr w.heap.size (.slice a3 n3 c3) (accL c far ((l+1)*64))∧Below w.heap.size w wr):=by
      have:=O.out
      rw[show l*64+64=(l+1)*64 by omega] at this
      exact this
     clear O IX
     go_wp2_with fail
     go_roundg (4-(l+1))
     case measure=>omega
     case rel=>exact⟨l+1,a3,n3,c3,by go_num,rfl,by omega,Nat.le_refl _,O2⟩
  ·have e0:l=4:=by omega
   subst e0
   obtain⟨nd,sub⟩:=W.out.2.1.accN 256 (Nat.le_refl _)
   have hal:(accL c far 256).length≤1000:=len_le nd sub W.out.2.2.len
   have ST:Aside (Calls Tryz.prog 93 #[.slice a2 n2 c2,.func (.func 94) #[] #[]] wr fun e w'=>e=.returned (.tuple #[])∧OwnF w' w.heap.size (.slice a2 n2 c2) T∧Below w.heap.size w w'):=by
    refine Calls.mono (sort_any (.slice a2 n2 c2) w.heap.size (accL c far 256) wr O.out.1 (by omega)) ?_
    rintro e w' ⟨rfl,q1,q2⟩
    rw[W.out.2.1.accAll W.out.2.2] at q1
    exact⟨rfl,q1,O.out.2.trans ((Fr.of_grown q2).toBelow (fun k hk=>(O.out.1.rowLt hk).1) O.out.2.size)⟩
   clear nd sub hal O
   go_wp2_with fail
   refine ST.out.mono ?_
   rintro e w3 ⟨rfl,q1,q2⟩
   clear ST
   go_wp2_with fail
   go_ret
   exact⟨_,rfl,q1,q2⟩
end Go.Proofs.YtjpmepfbpfkmoaaGreatDoorR.Wl
