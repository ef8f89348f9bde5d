import Derived.Test.YtjpbngiddjkjiaaGreatDoorLitV
open Go.Proofs.Tryz
namespace Go.Proofs.YtjpbngiddjkjiaaGreatDoor.Wk
set_option maxHeartbeats 8000000
set_option maxRecDepth 100000
set_option linter.unusedVariables false
open Go.RowKit Go.WideMaps Go.Maps
theorem laidOutC:laidOutB prog=true:=by kernel_rfl
theorem rowCh:(78:TypeId)<prog.types.size:=of_decide_eq_true (by kernel_rfl)
theorem wideCh:(match prog.underlying 78 with|some (.array _ _)|some (.struct _)=>true|_=>false)=true:=by kernel_rfl
theorem lawCh:Keyed prog 78:=Keyed.of_law (deep_law_laid laidOutC (m:=2) (by omega) rowCh (by kernel_rfl) wideCh)
theorem cellsCh:prog.cellsOf 78=2:=by kernel_rfl
theorem arrCh:ArrKey prog 78 3 2:=⟨underlying78,by kernel_rfl,by kernel_rfl,cellsCh⟩
abbrev chKey(a b:Int):Lit:=.string (keyBytes [.int .i64 a,.int .i64 b])
theorem key_ch{a b:Int}(wa:(Lit.int .i64 a).wf=true)(wb:(Lit.int .i64 b).wf=true):keyOf prog 78 (.agg #[.int .i64 a,.int .i64 b])=some (chKey a b):=
 keyOf_pair arrCh underlying3 ⟨_,rfl⟩ wa wb
theorem ch_inj{x y a b:Int}(wx:(Lit.int .i64 x).wf=true)(wy:(Lit.int .i64 y).wf=true)(wa:(Lit.int .i64 a).wf=true)(wb:(Lit.int .i64 b).wf=true)(h:chKey x y=chKey a b):x=a/\y=b:=by
 have h1:=key_ch wx wy;rw[h] at h1;have h2:=lawCh.inj h1 (key_ch wa wb);simpa using h2
theorem undCh:prog.underlying 76=some (.map 78 74):=underlying76
def heldC(v:Value):Option (DataW Value×List MemPlace):=some (.held v,[])
theorem zeroFn(w:World):(zeroValue 74).run prog w=.ok (.agg #[.int .i64 0,.int .i64 0]) w:=by kernel_rfl
def chAt:Nat->Int×Int
 | 3=>(0,0)|6=>(0,2)|9=>(0,1)|12=>(1,0)|15=>(1,1)|18=>(2,1)|_=>(2,0)
def fnAt:Nat->Int×Int
 | 3=>(0,0)|6=>(1,0)|9=>(2,1)|12=>(4,0)|15=>(3,2)|18=>(5,2)|_=>(6,0)
def placesC:List Nat:=[3,6,9,12,15,18,21]
def vAt(j:Nat):Value:=.agg #[.int .i64 (fnAt j).1,.int .i64 (fnAt j).2]
def listedCA:Array Bool:=#[true,true,true,false,true,true,false,true,true,false,true,true,false,true,true,false,true,true,false,true,true,false,false,false]
def listedCB:Array Bool:=#[true,true,true,true,true,true,true,true,true,true,true,true,true,true,true,true,true,true,true,true,true,true,false,false]
theorem getD_outC{L:Array Bool}{j:Nat}(h:L.size<=j):L.getD j true=true:=by
 simp[Nat.not_lt.2 h]
theorem chAt_wf:∀j∈placesC,(Lit.int .i64 (chAt j).1).wf=true/\(Lit.int .i64 (chAt j).2).wf=true:=by decide
theorem chAt_inj:∀i∈placesC,∀j∈placesC,chAt i=chAt j->i=j:=by decide
def Stp(w:World)(M:Nat):Prop:=∃D,w.ownsMap prog 78 heldC M 7 D/\(∀kl,Maps.has D kl=true↔∃j∈placesC,chKey (chAt j).1 (chAt j).2=kl)/\∀j∈placesC,∀z,D.atKey (chKey (chAt j).1 (chAt j).2) z=.held (vAt j)
theorem leads_any(w:World):Calls prog 27 #[] w fun e w'=>e=.returned (.map (some w.heap.size))/\Below w.heap.size w w'/\Stp w' w.heap.size:=by
 have hmm:=@run_makeMap prog;go_enter func27,ntmps27
 go_wp2
 refine wp_region_any (by kernel_rfl) ?_;refine wpAny_take (i:=1) (v:=.agg #[.int .i64 0,.int .i64 0]) rfl (by kernel_rfl) (by kernel_rfl) (by kernel_rfl) (fun _ _ _ h=>h) (Or.inl ⟨by rfl,fun _=>by kernel_rfl⟩) ?_;refine wpAny_take (i:=2) (v:=.agg #[.int .i64 0,.int .i64 0]) rfl (by kernel_rfl) (by kernel_rfl) (by kernel_rfl) (fun _ _ _ h=>h) (Or.inl ⟨by rfl,fun _=>by kernel_rfl⟩) ?_;refine wpAny_take (i:=4) (v:=.agg #[.int .i64 0,.int .i64 2]) rfl (by kernel_rfl) (by kernel_rfl) (by kernel_rfl) (fun _ _ _ h=>h) (Or.inl ⟨by rfl,fun _=>by kernel_rfl⟩) ?_;refine wpAny_take (i:=5) (v:=.agg #[.int .i64 1,.int .i64 0]) rfl (by kernel_rfl) (by kernel_rfl) (by kernel_rfl) (fun _ _ _ h=>h) (Or.inl ⟨by rfl,fun _=>by kernel_rfl⟩) ?_;refine wpAny_take (i:=7) (v:=.agg #[.int .i64 0,.int .i64 1]) rfl (by kernel_rfl) (by kernel_rfl) (by kernel_rfl) (fun _ _ _ h=>h) (Or.inl ⟨by rfl,fun _=>by kernel_rfl⟩) ?_;refine wpAny_take (i:=8) (v:=.agg #[.int .i64 2,.int .i64 1]) rfl (by kernel_rfl) (by kernel_rfl) (by kernel_rfl) (fun _ _ _ h=>h) (Or.inl ⟨by rfl,fun _=>by kernel_rfl⟩) ?_;refine wpAny_take (i:=10) (v:=.agg #[.int .i64 1,.int .i64 0]) rfl (by kernel_rfl) (by kernel_rfl) (by kernel_rfl) (fun _ _ _ h=>h) (Or.inl ⟨by rfl,fun _=>by kernel_rfl⟩) ?_;refine wpAny_take (i:=11) (v:=.agg #[.int .i64 4,.int .i64 0]) rfl (by kernel_rfl) (by kernel_rfl) (by kernel_rfl) (fun _ _ _ h=>h) (Or.inl ⟨by rfl,fun _=>by kernel_rfl⟩) ?_;refine wpAny_take (i:=13) (v:=.agg #[.int .i64 1,.int .i64 1]) rfl (by kernel_rfl) (by kernel_rfl) (by kernel_rfl) (fun _ _ _ h=>h) (Or.inl ⟨by rfl,fun _=>by kernel_rfl⟩) ?_;refine wpAny_take (i:=14) (v:=.agg #[.int .i64 3,.int .i64 2]) rfl (by kernel_rfl) (by kernel_rfl) (by kernel_rfl) (fun _ _ _ h=>h) (Or.inl ⟨by rfl,fun _=>by kernel_rfl⟩) ?_;refine wpAny_take (i:=16) (v:=.agg #[.int .i64 2,.int .i64 1]) rfl (by kernel_rfl) (by kernel_rfl) (by kernel_rfl) (fun _ _ _ h=>h) (Or.inl ⟨by rfl,fun _=>by kernel_rfl⟩) ?_;refine wpAny_take (i:=17) (v:=.agg #[.int .i64 5,.int .i64 2]) rfl (by kernel_rfl) (by kernel_rfl) (by kernel_rfl) (fun _ _ _ h=>h) (Or.inl ⟨by rfl,fun _=>by kernel_rfl⟩) ?_;refine wpAny_take (i:=19) (v:=.agg #[.int .i64 2,.int .i64 0]) rfl (by kernel_rfl) (by kernel_rfl) (by kernel_rfl) (fun _ _ _ h=>h) (Or.inl ⟨by rfl,fun _=>by kernel_rfl⟩) ?_;refine wpAny_take (i:=20) (v:=.agg #[.int .i64 6,.int .i64 0]) rfl (by kernel_rfl) (by kernel_rfl) (by kernel_rfl) (fun _ _ _ h=>h) (Or.inl ⟨by rfl,fun _=>by kernel_rfl⟩) ?_;refine wpAny_all (rs:=[0]) (by kernel_rfl) (by simp) (fun i hi=>?_);obtain rfl:i=0:=by simpa using hi
 refine wpOp_step rfl (fun K hK=>?_);go_simp
 refine hK _ _ ?_;clear hK K;show wpAny prog .any _ _ (2+7) listedCA _ _;refine wpAny_fillV (H:=Value) (t:=76) (K:=78) (E:=74) lawCh underlying76 (R:=heldC) (B:=w.heap.size) (J:=placesC) (m:=22) (by kernel_rfl) (fun j=>chKey (chAt j).1 (chAt j).2) (fun j=>.held (vAt j)) ?hop ?hinj 2 7 placesC _ _ 0 (.map []) rfl (fun _ h=>h) (by decide) rfl ?hl (World.ownsMap_made _ _ _ _) (by decide) ?fin
 case hop=>
  intro j hj;simp only[placesC,List.mem_cons,List.not_mem_nil,or_false] at hj;rcases hj with rfl|rfl|rfl|rfl|rfl|rfl|rfl
  all_goals exact⟨_,_,_,_,_,rfl,rfl,rfl,key_ch (by decide) (by decide),rfl⟩
 case hinj=>
  intro i hi j hj h;obtain⟨a1,a2⟩:=chAt_wf i hi;obtain⟨b1,b2⟩:=chAt_wf j hj;obtain⟨e1,e2⟩:=ch_inj a1 a2 b1 b2 h;rw[chAt_inj i hi j hj (Prod.ext e1 e2)]
 case hl=>
  intro j;by_cases hj:j<24
  ·have h:∀j,j<24->(listedCA.getD j true=false↔(j∈placesC\/(22<=j/\j<24))):=by decide +kernel
   exact h j hj
  ·constructor
   ·intro h;exact absurd h (by rw[getD_outC (by exact Nat.le_of_not_lt hj)];simp)
   ·rintro(h|h)
    ·simp only[placesC,List.mem_cons,List.not_mem_nil,or_false] at h;omega
    ·exact absurd h.2 hj
 case fin=>
  intro L w' D hL1 hL2 hown hhas hat hatN hgr;have hb:Below w.heap.size w w':=(((Below.refl w.heap.size w).alloc (Nat.le_refl _) (.map #[] 0)).drew).grown hgr (by simp) (fun j hj=>by cases hj;exact Nat.le_refl _)
  obtain rfl:L=listedCB:=listed_eqV hL1 (fun j=>by
   rw[hL2 j];by_cases hj:j<24
   ·have h:∀j,j<24->((22<=j/\j<24)↔listedCB.getD j true=false):=by decide +kernel
    exact h j hj
   ·constructor
    ·intro h;exact absurd h.2 hj
    ·intro h;exact absurd h (by rw[getD_outC (by exact Nat.le_of_not_lt hj)];simp))
  clear hL1 hL2 hgr hmm;refine wpAny_take (i:=22) (v:=.map (some w.heap.size)) rfl (by kernel_rfl) (by kernel_rfl) (by kernel_rfl) (fun _ _ _ h=>h) (Or.inl ⟨by rfl,fun _=>rfl⟩) ?_;refine wpAny_take (i:=23) (v:=.map (some w.heap.size)) rfl (by kernel_rfl) (by kernel_rfl) (by kernel_rfl) (fun _ _ _ h=>h) (Or.inl ⟨by rfl,fun _=>rfl⟩) ?_;refine wpAny_done (by kernel_rfl) ?_ _
  go_wp2
  go_ret;exact⟨rfl,hb,D,hown,fun kl=>by rw[hhas kl];simp[Maps.has],hat⟩
theorem Stp.look{w:World}{M:Nat}(h:Stp w M){j:Nat}(hj:j∈placesC):(Instr.lookup 76 (.map (some M)) (.agg #[.int .i64 (chAt j).1,.int .i64 (chAt j).2]) true).run prog w=.ok (.tuple #[vAt j,.bool true]) w:=by
 obtain⟨D,h1,h2,h3⟩:=h;obtain⟨a1,a2⟩:=chAt_wf j hj;obtain⟨v',ps,hr,hv'⟩:=h1.look_ok lawCh undCh (zeroFn w) (zd:=.held (.agg #[.int .i64 0,.int .i64 0])) (zp:=[]) rfl (key_ch a1 a2);rw[h3 j hj] at hv';rw[(h2 _).2 ⟨j,hj,rfl⟩] at hr;unfold heldC at hv';simp only[Option.some.injEq,Prod.mk.injEq,DataW.held.injEq] at hv';rw[<-hv'.1];exact hr
end Go.Proofs.YtjpbngiddjkjiaaGreatDoor.Wk
