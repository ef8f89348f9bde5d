import Derived.Maps.OwnSet
import Derived.Maps.AppendAt
import Derived.Orders
import Derived.Test.YthpgfmmpjoodkaaGreatDoorProg
import Derived.WalkKit
import Derived.WalkLawsBesides
import Derived.WalkSpells
import Derived.WideKeyPair
import Derived.DeepKeys4
import Derived.Outline
import Derived.BigQuiet
import Derived.Deep.QuietTactic
import Derived.Deep.RegionHeld3
import Derived.Laws.EntriesVeiled
import Derived.Laws.BitsAllLaws
import Derived.Laws.Bits64
namespace Go.Proofs.YthpgfmmpjoodkaaGreatDoor
set_option maxHeartbeats 8000000
set_option maxRecDepth 100000
set_option linter.unusedVariables false
section
open Go.Maps (Keyed)
section
variable {P:Program}{ops:Array Oper}{Q:Exit->Act->World->Prop}{H:Type}
def litOkV(ops:Array Oper)(J:List Nat)(m:Nat):Bool:=
 decide (m<=ops.size)&&(J.all fun j=>decide (j<m)&&match ops[j]? with
  | some o=>o.guard.isNone&&o.dst.isNone&&o.after.toList.all (fun e=>decide (e.on<m)&&!J.contains e.on)
  | none=>false) &&
 (List.range ops.size).all fun j=>decide (j<m)||match ops[j]? with
  | some o=>J.all fun r=>o.after.toList.any fun e=>Region.binds .any e&&(e.on==r||decide (m<=e.on))
  | none=>false
theorem has_put_iffV{D:DataW H}(hD:Maps.IsMap D){k:Lit}(hk:WideAt.IsKeyLit k)(d:DataW H)(kl:Lit) :
  Maps.has (D.put k d) kl=true↔Maps.has D kl=true\/k=kl:=by
 by_cases h:kl=k
 ·subst h;simp[Maps.has_put_same hD hk d]
 ·rw[Maps.has_put_other h d];constructor
  ·exact Or.inl
  ·rintro(h1|h1)
   ·exact h1
   ·exact absurd h1.symm h
theorem getD_falseV{l:Array Bool}{j:Nat}(h:l.getD j false=true):l.getD j true=true/\j<l.size:=by
 by_cases hj:j<l.size
 ·simp[hj] at h⊢;exact h
 ·simp[hj] at h
theorem listed_eqV{L M:Array Bool}(hs:L.size=M.size)(h:∀j,L.getD j true=false↔M.getD j true=false):L=M:=by
 refine Array.ext hs fun i h1 h2=>?_;have:=h i;simp[h1,h2] at this
 cases hL:L[i]<;>cases hM:M[i]<;>simp[hL,hM] at this⊢
theorem wpAny_fillV{t K E:TypeId}(law:Keyed P K)(ht:P.underlying t=some (.map K E)){R:Value->Option (DataW H×List MemPlace)}{B:Nat}{a:Act}{J:List Nat}{m:Nat}(hok:litOkV ops J m=true)
  (key:Nat->Lit) (dv:Nat->DataW H)
  (hop:∀j∈J,∃o x kx vx ps,ops[j]?=some o/\o.op=Op.insert t x kx vx/\a.eval x=.map (some B)/\keyOf P K (a.eval kx)=some (key j)/\R (a.eval vx)=some (dv j,ps))
  (hinj:∀i∈J,∀j∈J,key i=key j->dv i=dv j)
  (fuelEnd:Nat) :
  ∀(n:Nat)(rem:List Nat)(listed:Array Bool)(w:World)(c:Nat)(D:DataW H),rem.length=n->(∀j∈rem,j∈J)->rem.Nodup->listed.size=ops.size->
   (∀j,listed.getD j true=false↔(j∈rem\/(m<=j/\j<ops.size)))->w.ownsMap P K R B c D->c+n<maxLen->
   (∀(L:Array Bool)(w':World)(D':DataW H),L.size=ops.size->(∀j,L.getD j true=false↔(m<=j/\j<ops.size))->w'.ownsMap P K R B (c+n) D'->
    (∀kl,Maps.has D' kl=true↔Maps.has D kl=true\/∃j∈rem,key j=kl)->(∀j∈rem,∀z,D'.atKey (key j) z=dv j)->(∀kl,(∀j∈rem,key j≠kl)->∀z,D'.atKey kl z=D.atKey kl z)->w.grownBy w' (some B)->wpAny P .any ops Q fuelEnd L a w')->
   wpAny P .any ops Q (fuelEnd+n) listed a w:=by
 simp only[litOkV,Bool.and_eq_true,decide_eq_true_eq,List.all_eq_true,List.mem_range,Bool.or_eq_true] at hok;obtain⟨⟨hm,hJ⟩,hend⟩:=hok;intro n
 induction n with
 | zero=>
  intro rem listed w c D hn hsub hnd hsz hl hown hc hfin;have hr:rem=[]:=List.length_eq_zero_iff.1 hn;subst hr;exact hfin listed w D hsz (fun j=>by rw[hl j];simp) hown (fun kl=>by simp) (fun j hj=>by cases hj) (fun kl _ z=>rfl) (World.grownBy.refl _ _)
 | succ n ih=>
  intro rem listed w c D hn hsub hnd hsz hl hown hc hfin
  have inRem:∀i∈Region.ready .any ops listed,i∈rem:=by
   intro i hi;obtain⟨h0,o,ho,hall⟩:=mem_ready.1 hi;rcases (hl i).1 h0 with h|⟨h1,h2⟩
   ·exact h
   ·exfalso
    have h3:=hend i h2;rcases h3 with h3|h3
    ·omega
    ·rw[ho] at h3
     obtain⟨r,hr⟩:∃r,r∈rem:=by
      cases rem with
      | nil=>simp at hn
      | cons r _=>exact⟨r,List.mem_cons_self⟩
     simp only[List.all_eq_true] at h3;have h4:=h3 r (hsub r hr);simp only[List.any_eq_true,Bool.and_eq_true,Bool.or_eq_true,beq_iff_eq,decide_eq_true_eq] at h4;obtain⟨e,he,hb,h5⟩:=h4;have h6:=getD_falseV (hall e (Array.mem_toList_iff.1 he) hb)
     have h7:listed.getD e.on true=false:=(hl e.on).2 (by
      rcases h5 with h5|h5
      ·rw[h5];exact Or.inl hr
      ·exact Or.inr ⟨h5,by rw[<-hsz];exact h6.2⟩)
     rw[h7] at h6
     cases h6.1
  refine⟨fun hnil=>?_,fun i hi=>?_⟩
  ·exfalso
   obtain⟨r,hr⟩:∃r,r∈rem:=by
    cases rem with
    | nil=>simp at hn
    | cons r _=>exact⟨r,List.mem_cons_self⟩
   obtain⟨hrm,hro⟩:=hJ r (hsub r hr);obtain⟨o,x,kx,vx,ps,ho,_⟩:=hop r (hsub r hr);rw[ho] at hro;simp only[Bool.and_eq_true,List.all_eq_true,decide_eq_true_eq,Bool.not_eq_true',<-Bool.not_eq_true,List.contains_iff_mem] at hro
   have:r∈Region.ready .any ops listed:=mem_ready.2 ⟨(hl r).2 (Or.inl hr),o,ho,fun e he _=>by
    obtain⟨h1,h2⟩:=hro.2 e (Array.mem_toList_iff.2 he)
    have h3:¬listed.getD e.on true=false:=fun hh=>by
     rcases (hl e.on).1 hh with h|h
     ·exact h2 (hsub _ h)
     ·omega
    have h4:e.on<listed.size:=by rw[hsz];omega
    simp[h4] at h3⊢;exact h3⟩
   rw[hnil] at this
   cases this
  ·have hir:=inRem i hi;obtain⟨o,x,kx,vx,ps,ho,hoi,hx,hk,hv⟩:=hop i (hsub i hir);obtain⟨hrm,hro⟩:=hJ i (hsub i hir);rw[ho] at hro;simp only[Bool.and_eq_true,Option.isNone_iff_eq_none] at hro;obtain⟨⟨hg,hd⟩,_⟩:=hro;obtain⟨w1,hrun,hown1,hturn⟩:=hown.store law ht (by omega) hk hv;unfold wpOp;simp only[ho];rw[if_pos (by simp[Region.wanted,hg])];refine Or.inl ?_;unfold Oper.wp;simp[execOp,hoi,hx,hrun,Result.andThen];rw[Oper.upon_skip,hd];show wpAny P .any ops Q (fuelEnd+n) (listed.setIfInBounds i true) a w1;have hlen:(rem.erase i).length=n:=by rw[List.length_erase_of_mem hir,hn];rfl
   refine ih (rem.erase i) _ w1 (c+1) (D.put (key i) (dv i)) hlen (fun j hj=>hsub j (List.mem_of_mem_erase hj)) (hnd.erase i) (by simp[hsz]) ?_ hown1 (by omega) ?_
   ·intro j;by_cases hji:i=j
    ·subst hji;have hlt:i<listed.size:=by rw[hsz];omega
     simp[hlt,hnd.mem_erase_iff];omega
    ·rw[getD_set_ne true hji,hl j,hnd.mem_erase_iff];constructor
     ·rintro(h|h)
      ·exact Or.inl ⟨fun e=>hji e.symm,h⟩
      ·exact Or.inr h
     ·rintro(h|h)
      ·exact Or.inl h.2
      ·exact Or.inr h
   ·intro L w' D' hL1 hL2 hown' hhas hatA hatB hgr;refine hfin L w' D' hL1 hL2 (by rw[show c+(n+1)=c+1+n by omega];exact hown') (fun kl=>?_) (fun j hj z=>?_) (fun kl hkl z=>?_) (hturn.grown.trans hgr);rw[hhas kl,has_put_iffV hown.isMap (law.key hk) (dv i) kl];constructor
    ·rintro((h|h)|⟨j,hj,h⟩)
     ·exact Or.inl h
     ·exact Or.inr ⟨i,hir,h⟩
     ·exact Or.inr ⟨j,List.mem_of_mem_erase hj,h⟩
    ·rintro(h|⟨j,hj,h⟩)
     ·exact Or.inl (Or.inl h)
     ·by_cases hji:j=i
      ·subst hji;exact Or.inl (Or.inr h)
      ·exact Or.inr ⟨j,(hnd.mem_erase_iff).2 ⟨hji,hj⟩,h⟩
    ·by_cases hji:j=i
     ·subst hji;by_cases hc:∃r∈rem.erase j,key r=key j
      ·obtain⟨r,hr,e⟩:=hc;rw[<-e,hatA r hr z];exact hinj r (hsub r (List.mem_of_mem_erase hr)) j (hsub j hj) e
      ·rw[hatB (key j) (fun r hr e=>hc ⟨r,hr,e⟩) z];exact Maps.atKey_put_same hown.isMap (law.key hk) (dv j) z
     ·exact hatA j ((hnd.mem_erase_iff).2 ⟨hji,hj⟩) z
    ·rw[hatB kl (fun r hr e=>hkl r (List.mem_of_mem_erase hr) e) z];exact Maps.atKey_put_other (fun e=>hkl i hir e.symm) (dv i) z
end
end
section
open Go.RowKit Go.WideMaps Go.Maps
theorem laidOutC:laidOutB Tryz.prog=true:=by kernel_rfl
theorem rowCh:(184:TypeId)<Tryz.prog.types.size:=of_decide_eq_true (by kernel_rfl)
theorem wideCh:(match Tryz.prog.underlying 184 with|some (.array _ _)|some (.struct _)=>true|_=>false)=true:=by kernel_rfl
theorem lawCh:Keyed Tryz.prog 184:=Keyed.of_law (deep_law_laid laidOutC (m:=2) (by omega) rowCh (by kernel_rfl) wideCh)
theorem cellsCh:Tryz.prog.cellsOf 184=2:=by kernel_rfl
theorem arrCh:ArrKey Tryz.prog 184 3 2:=⟨Tryz.underlying184,by kernel_rfl,by kernel_rfl,cellsCh⟩
abbrev chKey(a b:Int):Lit:=.string (keyBytes [.int .i64 a,.int .i64 b])
theorem key_ch{a b:Int}(wa:(Lit.int .i64 a).wf=true)(wb:(Lit.int .i64 b).wf=true):keyOf Tryz.prog 184 (.agg #[.int .i64 a,.int .i64 b])=some (chKey a b):=
 keyOf_pair arrCh Tryz.underlying3 ⟨_,rfl⟩ wa wb
theorem ch_inj{x y a b:Int}(wx:(Lit.int .i64 x).wf=true)(wy:(Lit.int .i64 y).wf=true)(wa:(Lit.int .i64 a).wf=true)(wb:(Lit.int .i64 b).wf=true)(h:chKey x y=chKey a b):x=a/\y=b:=by
 have h1:=key_ch wx wy;rw[h] at h1;have h2:=lawCh.inj h1 (key_ch wa wb);simpa using h2
theorem undCh:Tryz.prog.underlying 243=some (.map 184 189):=Tryz.underlying243
def heldC(v:Value):Option (DataW Value×List MemPlace):=some (.held v,[])
theorem zeroFn(w:World):(zeroValue 189).run Tryz.prog w=.ok .nilFunc w:=by kernel_rfl
def chAt:Nat->Int×Int
 | 4=>(0,2)|8=>(0,6)|12=>(1,2)|16=>(1,6)|20=>(2,3)|24=>(2,6)|28=>(3,1)|32=>(3,4)|_=>(3,5)
def fnAt:Nat->Nat
 | 4=>210|8=>211|12=>210|16=>212|20=>213|24=>214|28=>215|32=>216|_=>217
def placesC:List Nat:=[4,8,12,16,20,24,28,32,36]
def vAt(B:Nat)(j:Nat):Value:=.func (.func (fnAt j)) #[.pointer (some ⟨B,0,none⟩)] #[]
def listedCA:Array Bool:=#[true,true,true,true,false,true,true,true,false,true,true,true,false,true,true,true,false,true,true,true,false,true,true,true,false,true,true,true,false,true,true,true,false,true,true,true,false,false,false]
def listedCB:Array Bool:=#[true,true,true,true,true,true,true,true,true,true,true,true,true,true,true,true,true,true,true,true,true,true,true,true,true,true,true,true,true,true,true,true,true,true,true,true,true,false,false]
theorem getD_outC{L:Array Bool}{j:Nat}(h:L.size<=j):L.getD j true=true:=by
 simp[Nat.not_lt.2 h]
theorem chAt_wf:∀j∈placesC,(Lit.int .i64 (chAt j).1).wf=true/\(Lit.int .i64 (chAt j).2).wf=true:=by decide
theorem chAt_inj:∀i∈placesC,∀j∈placesC,chAt i=chAt j->i=j:=by decide
def Stp(w:World)(B M:Nat):Prop:=∃D,w.ownsMap Tryz.prog 184 heldC M 9 D/\(∀kl,Maps.has D kl=true↔∃j∈placesC,chKey (chAt j).1 (chAt j).2=kl)/\∀j∈placesC,∀z,D.atKey (chKey (chAt j).1 (chAt j).2) z=.held (vAt B j)
theorem stepsC_any(B:Nat)(w:World):Calls Tryz.prog 143 #[.pointer (some ⟨B,0,none⟩)] w fun e w'=>e=.returned (.map (some w.heap.size))/\Below w.heap.size w w'/\Stp w' B w.heap.size:=by
 have hmm:=@run_makeMap Tryz.prog;go_enter Tryz.func143,Tryz.ntmps143
 go_wp2
 refine wp_region_any (by kernel_rfl) ?_;refine wpAny_take (i:=1) (v:=.agg #[.int .i64 0,.int .i64 2]) rfl (by kernel_rfl) (by kernel_rfl) (by kernel_rfl) (fun _ _ _ h=>h) (Or.inl ⟨by rfl,fun _=>by kernel_rfl⟩) ?_;refine wpAny_take (i:=2) (v:=.pointer (some ⟨B,0,none⟩)) rfl (by kernel_rfl) (by kernel_rfl) (by kernel_rfl) (fun _ _ _ h=>h) (Or.inl ⟨by rfl,fun _=>by go_simp⟩) ?_;refine wpAny_take (i:=3) (v:=vAt B 4) rfl (by kernel_rfl) (by kernel_rfl) (by kernel_rfl) (fun _ _ _ h=>h) (Or.inl ⟨by rfl,fun _=>by go_simp;rfl⟩) ?_;refine wpAny_take (i:=5) (v:=.agg #[.int .i64 0,.int .i64 6]) rfl (by kernel_rfl) (by kernel_rfl) (by kernel_rfl) (fun _ _ _ h=>h) (Or.inl ⟨by rfl,fun _=>by kernel_rfl⟩) ?_;refine wpAny_take (i:=6) (v:=.pointer (some ⟨B,0,none⟩)) rfl (by kernel_rfl) (by kernel_rfl) (by kernel_rfl) (fun _ _ _ h=>h) (Or.inl ⟨by rfl,fun _=>by go_simp⟩) ?_;refine wpAny_take (i:=7) (v:=vAt B 8) rfl (by kernel_rfl) (by kernel_rfl) (by kernel_rfl) (fun _ _ _ h=>h) (Or.inl ⟨by rfl,fun _=>by go_simp;rfl⟩) ?_;refine wpAny_take (i:=9) (v:=.agg #[.int .i64 1,.int .i64 2]) rfl (by kernel_rfl) (by kernel_rfl) (by kernel_rfl) (fun _ _ _ h=>h) (Or.inl ⟨by rfl,fun _=>by kernel_rfl⟩) ?_;refine wpAny_take (i:=10) (v:=.pointer (some ⟨B,0,none⟩)) rfl (by kernel_rfl) (by kernel_rfl) (by kernel_rfl) (fun _ _ _ h=>h) (Or.inl ⟨by rfl,fun _=>by go_simp⟩) ?_;refine wpAny_take (i:=11) (v:=vAt B 12) rfl (by kernel_rfl) (by kernel_rfl) (by kernel_rfl) (fun _ _ _ h=>h) (Or.inl ⟨by rfl,fun _=>by go_simp;rfl⟩) ?_;refine wpAny_take (i:=13) (v:=.agg #[.int .i64 1,.int .i64 6]) rfl (by kernel_rfl) (by kernel_rfl) (by kernel_rfl) (fun _ _ _ h=>h) (Or.inl ⟨by rfl,fun _=>by kernel_rfl⟩) ?_;refine wpAny_take (i:=14) (v:=.pointer (some ⟨B,0,none⟩)) rfl (by kernel_rfl) (by kernel_rfl) (by kernel_rfl) (fun _ _ _ h=>h) (Or.inl ⟨by rfl,fun _=>by go_simp⟩) ?_;refine wpAny_take (i:=15) (v:=vAt B 16) rfl (by kernel_rfl) (by kernel_rfl) (by kernel_rfl) (fun _ _ _ h=>h) (Or.inl ⟨by rfl,fun _=>by go_simp;rfl⟩) ?_;refine wpAny_take (i:=17) (v:=.agg #[.int .i64 2,.int .i64 3]) rfl (by kernel_rfl) (by kernel_rfl) (by kernel_rfl) (fun _ _ _ h=>h) (Or.inl ⟨by rfl,fun _=>by kernel_rfl⟩) ?_;refine wpAny_take (i:=18) (v:=.pointer (some ⟨B,0,none⟩)) rfl (by kernel_rfl) (by kernel_rfl) (by kernel_rfl) (fun _ _ _ h=>h) (Or.inl ⟨by rfl,fun _=>by go_simp⟩) ?_;refine wpAny_take (i:=19) (v:=vAt B 20) rfl (by kernel_rfl) (by kernel_rfl) (by kernel_rfl) (fun _ _ _ h=>h) (Or.inl ⟨by rfl,fun _=>by go_simp;rfl⟩) ?_;refine wpAny_take (i:=21) (v:=.agg #[.int .i64 2,.int .i64 6]) rfl (by kernel_rfl) (by kernel_rfl) (by kernel_rfl) (fun _ _ _ h=>h) (Or.inl ⟨by rfl,fun _=>by kernel_rfl⟩) ?_;refine wpAny_take (i:=22) (v:=.pointer (some ⟨B,0,none⟩)) rfl (by kernel_rfl) (by kernel_rfl) (by kernel_rfl) (fun _ _ _ h=>h) (Or.inl ⟨by rfl,fun _=>by go_simp⟩) ?_;refine wpAny_take (i:=23) (v:=vAt B 24) rfl (by kernel_rfl) (by kernel_rfl) (by kernel_rfl) (fun _ _ _ h=>h) (Or.inl ⟨by rfl,fun _=>by go_simp;rfl⟩) ?_;refine wpAny_take (i:=25) (v:=.agg #[.int .i64 3,.int .i64 1]) rfl (by kernel_rfl) (by kernel_rfl) (by kernel_rfl) (fun _ _ _ h=>h) (Or.inl ⟨by rfl,fun _=>by kernel_rfl⟩) ?_;refine wpAny_take (i:=26) (v:=.pointer (some ⟨B,0,none⟩)) rfl (by kernel_rfl) (by kernel_rfl) (by kernel_rfl) (fun _ _ _ h=>h) (Or.inl ⟨by rfl,fun _=>by go_simp⟩) ?_;refine wpAny_take (i:=27) (v:=vAt B 28) rfl (by kernel_rfl) (by kernel_rfl) (by kernel_rfl) (fun _ _ _ h=>h) (Or.inl ⟨by rfl,fun _=>by go_simp;rfl⟩) ?_;refine wpAny_take (i:=29) (v:=.agg #[.int .i64 3,.int .i64 4]) rfl (by kernel_rfl) (by kernel_rfl) (by kernel_rfl) (fun _ _ _ h=>h) (Or.inl ⟨by rfl,fun _=>by kernel_rfl⟩) ?_;refine wpAny_take (i:=30) (v:=.pointer (some ⟨B,0,none⟩)) rfl (by kernel_rfl) (by kernel_rfl) (by kernel_rfl) (fun _ _ _ h=>h) (Or.inl ⟨by rfl,fun _=>by go_simp⟩) ?_;refine wpAny_take (i:=31) (v:=vAt B 32) rfl (by kernel_rfl) (by kernel_rfl) (by kernel_rfl) (fun _ _ _ h=>h) (Or.inl ⟨by rfl,fun _=>by go_simp;rfl⟩) ?_;refine wpAny_take (i:=33) (v:=.agg #[.int .i64 3,.int .i64 5]) rfl (by kernel_rfl) (by kernel_rfl) (by kernel_rfl) (fun _ _ _ h=>h) (Or.inl ⟨by rfl,fun _=>by kernel_rfl⟩) ?_;refine wpAny_take (i:=34) (v:=.pointer (some ⟨B,0,none⟩)) rfl (by kernel_rfl) (by kernel_rfl) (by kernel_rfl) (fun _ _ _ h=>h) (Or.inl ⟨by rfl,fun _=>by go_simp⟩) ?_;refine wpAny_take (i:=35) (v:=vAt B 36) rfl (by kernel_rfl) (by kernel_rfl) (by kernel_rfl) (fun _ _ _ h=>h) (Or.inl ⟨by rfl,fun _=>by go_simp;rfl⟩) ?_;refine wpAny_all (rs:=[0]) (by kernel_rfl) (by simp) (fun i hi=>?_);obtain rfl:i=0:=by simpa using hi
 refine wpOp_step rfl (fun K hK=>?_);go_simp
 refine hK _ _ ?_;clear hK K;show wpAny Tryz.prog .any _ _ (2+9) listedCA _ _;refine wpAny_fillV (H:=Value) (t:=243) (K:=184) (E:=189) lawCh Tryz.underlying243 (R:=heldC) (B:=w.heap.size) (J:=placesC) (m:=37) (by kernel_rfl) (fun j=>chKey (chAt j).1 (chAt j).2) (fun j=>.held (vAt B j)) ?hop ?hinj 2 9 placesC _ _ 0 (.map []) rfl (fun _ h=>h) (by decide) rfl ?hl (World.ownsMap_made _ _ _ _) (by decide) ?fin
 case hop=>
  intro j hj;simp only[placesC,List.mem_cons,List.not_mem_nil,or_false] at hj;rcases hj with rfl|rfl|rfl|rfl|rfl|rfl|rfl|rfl|rfl
  all_goals exact⟨_,_,_,_,_,rfl,rfl,rfl,key_ch (by decide) (by decide),rfl⟩
 case hinj=>
  intro i hi j hj h;obtain⟨a1,a2⟩:=chAt_wf i hi;obtain⟨b1,b2⟩:=chAt_wf j hj;obtain⟨e1,e2⟩:=ch_inj a1 a2 b1 b2 h;rw[chAt_inj i hi j hj (Prod.ext e1 e2)]
 case hl=>
  intro j;by_cases hj:j<39
  ·have h:∀j,j<39->(listedCA.getD j true=false↔(j∈placesC\/(37<=j/\j<39))):=by decide +kernel
   exact h j hj
  ·constructor
   ·intro h;exact absurd h (by rw[getD_outC (by exact Nat.le_of_not_lt hj)];simp)
   ·rintro(h|h)
    ·simp only[placesC,List.mem_cons,List.not_mem_nil,or_false] at h;omega
    ·exact absurd h.2 hj
 case fin=>
  intro L w' D hL1 hL2 hown hhas hat hatN hgr;have hb:Below w.heap.size w w':=(((Below.refl w.heap.size w).alloc (Nat.le_refl _) (.map #[] 0)).drew).grown hgr (by simp) (fun j hj=>by cases hj;exact Nat.le_refl _)
  obtain rfl:L=listedCB:=listed_eqV hL1 (fun j=>by
   rw[hL2 j];by_cases hj:j<39
   ·have h:∀j,j<39->((37<=j/\j<39)↔listedCB.getD j true=false):=by decide +kernel
    exact h j hj
   ·constructor
    ·intro h;exact absurd h.2 hj
    ·intro h;exact absurd h (by rw[getD_outC (by exact Nat.le_of_not_lt hj)];simp))
  clear hL1 hL2 hgr hmm;refine wpAny_take (i:=37) (v:=.map (some w.heap.size)) rfl (by kernel_rfl) (by kernel_rfl) (by kernel_rfl) (fun _ _ _ h=>h) (Or.inl ⟨by rfl,fun _=>rfl⟩) ?_;refine wpAny_take (i:=38) (v:=.map (some w.heap.size)) rfl (by kernel_rfl) (by kernel_rfl) (by kernel_rfl) (fun _ _ _ h=>h) (Or.inl ⟨by rfl,fun _=>rfl⟩) ?_;refine wpAny_done (by kernel_rfl) ?_ _
  go_wp2
  go_ret;exact⟨rfl,hb,D,hown,fun kl=>by rw[hhas kl];simp[Maps.has],hat⟩
theorem Stp.look{w:World}{B M:Nat}(h:Stp w B M){j:Nat}(hj:j∈placesC):(Instr.lookup 243 (.map (some M)) (.agg #[.int .i64 (chAt j).1,.int .i64 (chAt j).2]) true).run Tryz.prog w=.ok (.tuple #[vAt B j,.bool true]) w:=by
 obtain⟨D,h1,h2,h3⟩:=h;obtain⟨a1,a2⟩:=chAt_wf j hj;obtain⟨v',ps,hr,hv'⟩:=h1.look_ok lawCh undCh (zeroFn w) (zd:=.held .nilFunc) (zp:=[]) rfl (key_ch a1 a2);rw[h3 j hj] at hv';rw[(h2 _).2 ⟨j,hj,rfl⟩] at hr;unfold heldC at hv';simp only[Option.some.injEq,Prod.mk.injEq,DataW.held.injEq] at hv';rw[<-hv'.1];exact hr
end
section
open Go.RowKit
def IsRow(k:IntKind)(w:World)(a:Option Addr)(len cap:Nat)(zs:List Int):Prop:=
 (a=none/\len=0/\cap=0/\zs=[])\/
 ∃x,a=some x/\len<=cap/\cap<=maxLen/\zs.length=cap/\(∀i,i<zs.length->w.cell? (x.add i)=some (.int k (zs.getD i 0)))/\∀n∈zs,(Lit.int k n).wf=true
end
section
open Go
theorem and7_u64(n:Int)(h0:0<=n)(h1:n<18446744073709551616):bits .and .u64 n 7=n%8:=by
 rw[u64_and n 7 h0 h1 (by decide) (by decide)];show((n.toNat &&& 7:Nat):Int)=_;rw[nat_mask3];omega
def packI(s v:Int):Int:=v%2305843009213693952*8+s%8
theorem pack_or(s v:Int) :
  bits .or .u64 (IntKind.u64.wrap (v*8)) (bits .and .u64 (IntKind.u64.wrap s) 7)=packI s v:=by
 rw[IntKind.wrap_u64,IntKind.wrap_u64,and7_u64 _ (by omega) (by omega),u64_or _ _ (by omega) (by omega) (by omega) (by omega)];rw[nat_join 3 _ _ (by show _%8=0;omega) (by show _<8;omega)];unfold packI;omega
theorem packI_bound(s v:Int):0<=packI s v/\packI s v<18446744073709551616:=by
 unfold packI;omega
theorem packI_state(s v:Int):packI s v%8=s%8:=by unfold packI;omega
end
section
open Go.RowKit
theorem IsRow.len_le{k:IntKind}{w:World}{a:Option Addr}{len cap:Nat}{zs:List Int}(h:IsRow k w a len cap zs):len<=9223372036854775807:=by
 rcases h with⟨rfl,rfl,rfl,rfl⟩|⟨x,rfl,hl,hm,_⟩
 ·omega
 ·unfold maxLen at hm;omega
theorem IsRow.at{k:IntKind}{w:World}{a:Option Addr}{len cap:Nat}{zs:List Int}(h:IsRow k w a len cap zs){j:Nat}(hj:j<len) :
  ∃b off,a=some ⟨b,off,none⟩/\b<w.heap.size/\w.cell? ⟨b,off+j,none⟩=some (.int k (zs.getD j 0))/\(Lit.int k (zs.getD j 0)).wf=true:=by
 rcases h with⟨rfl,rfl,rfl,rfl⟩|⟨x,rfl,hl,hm,hz,hcell,hwz⟩
 ·omega
 ·obtain⟨b,off,spot⟩:=x;have hc:=hcell j (by omega);have hspot:spot=none:=by simpa [Addr.add] using World.cell?_spot (hcell 0 (by omega))
  subst hspot;rw[Addr.add_lit] at hc;refine⟨b,off,rfl,World.block_lt_of_cell? w _ hc,hc,hwz _ ?_⟩;rw[List.getD,List.getElem?_eq_getElem (show j<zs.length by omega)];exact List.getElem_mem _
end
section
open Go
theorem mask_i64(n:Int)(k:Nat)(m K:Int)(hk:k<=32)(hm:m=2^k-1)(hK:K=2^k):bits .and .i64 n m=n%K:=by
 subst hm hK;show IntKind.i64.wrap ((BitVec.ofInt 64 n &&& BitVec.ofInt 64 ((2:Int)^k-1)).toNat:Int)=n%2^k;have hp:(2:Nat)^k<=2^32:=Nat.pow_le_pow_right (by decide) hk;have h1:0<(2:Nat)^k:=Nat.two_pow_pos k;have hc:((2:Nat)^k:Nat)=((2:Int)^k):=by simp
 have hd:(2:Nat)^k∣2^64:=Nat.pow_dvd_pow 2 (by omega);obtain⟨c,hcd⟩:=hd;rw[BitVec.toNat_and,BitVec.toNat_ofInt,BitVec.toNat_ofInt]
 have e:(((2:Int)^k-1)%(2^64:Nat)).toNat=2^k-1:=by
  rw[<-hc];generalize (2:Nat)^k=p at *;omega
 rw[e,Nat.and_two_pow_sub_one_eq_mod]
 have e2:(((n%(2^64:Nat)).toNat%2^k:Nat):Int)=n%2^k:=by
  rw[Int.natCast_emod,Int.toNat_of_nonneg (Int.emod_nonneg _ (by decide)),hc,<-hc];exact Int.emod_emod_of_dvd n ⟨c,by exact_mod_cast hcd⟩
 rw[e2];have b0:0<=n%2^k:=Int.emod_nonneg _ (by omega);have b1:n%2^k<2^k:=Int.emod_lt_of_pos _ (by omega);simp only[IntKind.wrap,IntKind.bits,IntKind.signed];simp;generalize n%2^k=q at *;rw[<-hc] at b1;generalize (2:Nat)^k=p at *;omega
end
end Go.Proofs.YthpgfmmpjoodkaaGreatDoor
