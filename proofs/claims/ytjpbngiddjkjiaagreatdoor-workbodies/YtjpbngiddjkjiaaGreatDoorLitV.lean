import Derived.Maps.OwnSet
import Derived.Maps.AppendAt
import Derived.Orders
import Derived.Test.YtjpbngiddjkjiaaGreatDoorProg
import Derived.WalkKit
import Derived.WalkLawsBesides
import Derived.WalkSpells
import Derived.WideKeyPair
import Derived.DeepKeys4
import Derived.Outline
import Derived.BigQuiet
import Derived.Deep.QuietTactic
import Derived.Deep.RegionHeld3
import Derived.Laws.EntriesVeiled
import Derived.Deep.Slices
import Derived.Deep.Fields
import Derived.ChangeArms
import Derived.ProofKit
open Go.Proofs.Tryz
namespace Go.Proofs.YtjpbngiddjkjiaaGreatDoor
set_option maxHeartbeats 8000000
set_option maxRecDepth 100000
set_option linter.unusedVariables false
section
open Go.Maps (Keyed)
section
variable {P:Program}{ops:Array Oper}{Q:Exit->Act->World->Prop}{H:Type}
def litOkV(ops:Array Oper)(J:List Nat)(m:Nat):Bool:=
 decide (m<=ops.size)&&(J.all fun j=>decide (j<m)&&match ops[j]? with
  | some o=>o.guard.isNone&&o.dst.isNone&&o.after.toList.all (fun e=>decide (e.on<m)&&!J.contains e.on)
  | none=>false) &&
 (List.range ops.size).all fun j=>decide (j<m)||match ops[j]? with
  | some o=>J.all fun r=>o.after.toList.any fun e=>Region.binds .any e&&(e.on==r||decide (m<=e.on))
  | none=>false
theorem has_put_iffV{D:DataW H}(hD:Maps.IsMap D){k:Lit}(hk:WideAt.IsKeyLit k)(d:DataW H)(kl:Lit) :
  Maps.has (D.put k d) kl=true↔Maps.has D kl=true\/k=kl:=by
 by_cases h:kl=k
 ·subst h;simp[Maps.has_put_same hD hk d]
 ·rw[Maps.has_put_other h d];constructor
  ·exact Or.inl
  ·rintro(h1|h1)
   ·exact h1
   ·exact absurd h1.symm h
theorem getD_falseV{l:Array Bool}{j:Nat}(h:l.getD j false=true):l.getD j true=true/\j<l.size:=by
 by_cases hj:j<l.size
 ·simp[hj] at h⊢;exact h
 ·simp[hj] at h
theorem listed_eqV{L M:Array Bool}(hs:L.size=M.size)(h:∀j,L.getD j true=false↔M.getD j true=false):L=M:=by
 refine Array.ext hs fun i h1 h2=>?_;have:=h i;simp[h1,h2] at this
 cases hL:L[i]<;>cases hM:M[i]<;>simp[hL,hM] at this⊢
theorem wpAny_fillV{t K E:TypeId}(law:Keyed P K)(ht:P.underlying t=some (.map K E)){R:Value->Option (DataW H×List MemPlace)}{B:Nat}{a:Act}{J:List Nat}{m:Nat}(hok:litOkV ops J m=true)
  (key:Nat->Lit) (dv:Nat->DataW H)
  (hop:∀j∈J,∃o x kx vx ps,ops[j]?=some o/\o.op=Op.insert t x kx vx/\a.eval x=.map (some B)/\keyOf P K (a.eval kx)=some (key j)/\R (a.eval vx)=some (dv j,ps))
  (hinj:∀i∈J,∀j∈J,key i=key j->dv i=dv j)
  (fuelEnd:Nat) :
  ∀(n:Nat)(rem:List Nat)(listed:Array Bool)(w:World)(c:Nat)(D:DataW H),rem.length=n->(∀j∈rem,j∈J)->rem.Nodup->listed.size=ops.size->
   (∀j,listed.getD j true=false↔(j∈rem\/(m<=j/\j<ops.size)))->w.ownsMap P K R B c D->c+n<maxLen->
   (∀(L:Array Bool)(w':World)(D':DataW H),L.size=ops.size->(∀j,L.getD j true=false↔(m<=j/\j<ops.size))->w'.ownsMap P K R B (c+n) D'->
    (∀kl,Maps.has D' kl=true↔Maps.has D kl=true\/∃j∈rem,key j=kl)->(∀j∈rem,∀z,D'.atKey (key j) z=dv j)->(∀kl,(∀j∈rem,key j≠kl)->∀z,D'.atKey kl z=D.atKey kl z)->w.grownBy w' (some B)->wpAny P .any ops Q fuelEnd L a w')->
   wpAny P .any ops Q (fuelEnd+n) listed a w:=by
 simp only[litOkV,Bool.and_eq_true,decide_eq_true_eq,List.all_eq_true,List.mem_range,Bool.or_eq_true] at hok;obtain⟨⟨hm,hJ⟩,hend⟩:=hok;intro n
 induction n with
 | zero=>
  intro rem listed w c D hn hsub hnd hsz hl hown hc hfin;have hr:rem=[]:=List.length_eq_zero_iff.1 hn;subst hr;exact hfin listed w D hsz (fun j=>by rw[hl j];simp) hown (fun kl=>by simp) (fun j hj=>by cases hj) (fun kl _ z=>rfl) (World.grownBy.refl _ _)
 | succ n ih=>
  intro rem listed w c D hn hsub hnd hsz hl hown hc hfin
  have inRem:∀i∈Region.ready .any ops listed,i∈rem:=by
   intro i hi;obtain⟨h0,o,ho,hall⟩:=mem_ready.1 hi;rcases (hl i).1 h0 with h|⟨h1,h2⟩
   ·exact h
   ·exfalso
    have h3:=hend i h2;rcases h3 with h3|h3
    ·omega
    ·rw[ho] at h3
     obtain⟨r,hr⟩:∃r,r∈rem:=by
      cases rem with
      | nil=>simp at hn
      | cons r _=>exact⟨r,List.mem_cons_self⟩
     simp only[List.all_eq_true] at h3;have h4:=h3 r (hsub r hr);simp only[List.any_eq_true,Bool.and_eq_true,Bool.or_eq_true,beq_iff_eq,decide_eq_true_eq] at h4;obtain⟨e,he,hb,h5⟩:=h4;have h6:=getD_falseV (hall e (Array.mem_toList_iff.1 he) hb)
     have h7:listed.getD e.on true=false:=(hl e.on).2 (by
      rcases h5 with h5|h5
      ·rw[h5];exact Or.inl hr
      ·exact Or.inr ⟨h5,by rw[<-hsz];exact h6.2⟩)
     rw[h7] at h6
     cases h6.1
  refine⟨fun hnil=>?_,fun i hi=>?_⟩
  ·exfalso
   obtain⟨r,hr⟩:∃r,r∈rem:=by
    cases rem with
    | nil=>simp at hn
    | cons r _=>exact⟨r,List.mem_cons_self⟩
   obtain⟨hrm,hro⟩:=hJ r (hsub r hr);obtain⟨o,x,kx,vx,ps,ho,_⟩:=hop r (hsub r hr);rw[ho] at hro;simp only[Bool.and_eq_true,List.all_eq_true,decide_eq_true_eq,Bool.not_eq_true',<-Bool.not_eq_true,List.contains_iff_mem] at hro
   have:r∈Region.ready .any ops listed:=mem_ready.2 ⟨(hl r).2 (Or.inl hr),o,ho,fun e he _=>by
    obtain⟨h1,h2⟩:=hro.2 e (Array.mem_toList_iff.2 he)
    have h3:¬listed.getD e.on true=false:=fun hh=>by
     rcases (hl e.on).1 hh with h|h
     ·exact h2 (hsub _ h)
     ·omega
    have h4:e.on<listed.size:=by rw[hsz];omega
    simp[h4] at h3⊢;exact h3⟩
   rw[hnil] at this
   cases this
  ·have hir:=inRem i hi;obtain⟨o,x,kx,vx,ps,ho,hoi,hx,hk,hv⟩:=hop i (hsub i hir);obtain⟨hrm,hro⟩:=hJ i (hsub i hir);rw[ho] at hro;simp only[Bool.and_eq_true,Option.isNone_iff_eq_none] at hro;obtain⟨⟨hg,hd⟩,_⟩:=hro;obtain⟨w1,hrun,hown1,hturn⟩:=hown.store law ht (by omega) hk hv;unfold wpOp;simp only[ho];rw[if_pos (by simp[Region.wanted,hg])];refine Or.inl ?_;unfold Oper.wp;simp[execOp,hoi,hx,hrun,Result.andThen];rw[Oper.upon_skip,hd];show wpAny P .any ops Q (fuelEnd+n) (listed.setIfInBounds i true) a w1;have hlen:(rem.erase i).length=n:=by rw[List.length_erase_of_mem hir,hn];rfl
   refine ih (rem.erase i) _ w1 (c+1) (D.put (key i) (dv i)) hlen (fun j hj=>hsub j (List.mem_of_mem_erase hj)) (hnd.erase i) (by simp[hsz]) ?_ hown1 (by omega) ?_
   ·intro j;by_cases hji:i=j
    ·subst hji;have hlt:i<listed.size:=by rw[hsz];omega
     simp[hlt,hnd.mem_erase_iff];omega
    ·rw[getD_set_ne true hji,hl j,hnd.mem_erase_iff];constructor
     ·rintro(h|h)
      ·exact Or.inl ⟨fun e=>hji e.symm,h⟩
      ·exact Or.inr h
     ·rintro(h|h)
      ·exact Or.inl h.2
      ·exact Or.inr h
   ·intro L w' D' hL1 hL2 hown' hhas hatA hatB hgr;refine hfin L w' D' hL1 hL2 (by rw[show c+(n+1)=c+1+n by omega];exact hown') (fun kl=>?_) (fun j hj z=>?_) (fun kl hkl z=>?_) (hturn.grown.trans hgr);rw[hhas kl,has_put_iffV hown.isMap (law.key hk) (dv i) kl];constructor
    ·rintro((h|h)|⟨j,hj,h⟩)
     ·exact Or.inl h
     ·exact Or.inr ⟨i,hir,h⟩
     ·exact Or.inr ⟨j,List.mem_of_mem_erase hj,h⟩
    ·rintro(h|⟨j,hj,h⟩)
     ·exact Or.inl (Or.inl h)
     ·by_cases hji:j=i
      ·subst hji;exact Or.inl (Or.inr h)
      ·exact Or.inr ⟨j,(hnd.mem_erase_iff).2 ⟨hji,hj⟩,h⟩
    ·by_cases hji:j=i
     ·subst hji;by_cases hc:∃r∈rem.erase j,key r=key j
      ·obtain⟨r,hr,e⟩:=hc;rw[<-e,hatA r hr z];exact hinj r (hsub r (List.mem_of_mem_erase hr)) j (hsub j hj) e
      ·rw[hatB (key j) (fun r hr e=>hc ⟨r,hr,e⟩) z];exact Maps.atKey_put_same hown.isMap (law.key hk) (dv j) z
     ·exact hatA j ((hnd.mem_erase_iff).2 ⟨hji,hj⟩) z
    ·rw[hatB kl (fun r hr e=>hkl r (List.mem_of_mem_erase hr) e) z];exact Maps.atKey_put_other (fun e=>hkl i hir e.symm) (dv i) z
end
end
section
open Go.RowKit Go.WideMaps Go.Maps
theorem laidOutC:laidOutB prog=true:=by kernel_rfl
theorem rowCh:(108:TypeId)<prog.types.size:=of_decide_eq_true (by kernel_rfl)
theorem wideCh:(match prog.underlying 108 with|some (.array _ _)|some (.struct _)=>true|_=>false)=true:=by kernel_rfl
theorem lawCh:Keyed prog 108:=Keyed.of_law (deep_law_laid laidOutC (m:=2) (by omega) rowCh (by kernel_rfl) wideCh)
theorem cellsCh:prog.cellsOf 108=2:=by kernel_rfl
theorem arrCh:ArrKey prog 108 3 2:=⟨underlying108,by kernel_rfl,by kernel_rfl,cellsCh⟩
abbrev chKey(a b:Int):Lit:=.string (keyBytes [.int .i64 a,.int .i64 b])
theorem key_ch{a b:Int}(wa:(Lit.int .i64 a).wf=true)(wb:(Lit.int .i64 b).wf=true):keyOf prog 108 (.agg #[.int .i64 a,.int .i64 b])=some (chKey a b):=
 keyOf_pair arrCh underlying3 ⟨_,rfl⟩ wa wb
theorem ch_inj{x y a b:Int}(wx:(Lit.int .i64 x).wf=true)(wy:(Lit.int .i64 y).wf=true)(wa:(Lit.int .i64 a).wf=true)(wb:(Lit.int .i64 b).wf=true)(h:chKey x y=chKey a b):x=a/\y=b:=by
 have h1:=key_ch wx wy;rw[h] at h1;have h2:=lawCh.inj h1 (key_ch wa wb);simpa using h2
theorem undCh:prog.underlying 169=some (.map 108 120):=underlying169
def heldC(v:Value):Option (DataW Value×List MemPlace):=some (.held v,[])
theorem zeroFn(w:World):(zeroValue 120).run prog w=.ok .nilFunc w:=by kernel_rfl
def chAt:Nat->Int×Int
 | 4=>(0,2)|8=>(0,6)|12=>(1,2)|16=>(1,6)|20=>(2,3)|24=>(2,6)|28=>(3,1)|32=>(3,4)|_=>(3,5)
def fnAt:Nat->Nat
 | 4=>100|8=>101|12=>100|16=>102|20=>103|24=>104|28=>105|32=>106|_=>107
def placesC:List Nat:=[4,8,12,16,20,24,28,32,36]
def vAt(B:Nat)(j:Nat):Value:=.func (.func (fnAt j)) #[.pointer (some ⟨B,0,none⟩)] #[]
def listedCA:Array Bool:=#[true,true,true,true,false,true,true,true,false,true,true,true,false,true,true,true,false,true,true,true,false,true,true,true,false,true,true,true,false,true,true,true,false,true,true,true,false,false,false]
def listedCB:Array Bool:=#[true,true,true,true,true,true,true,true,true,true,true,true,true,true,true,true,true,true,true,true,true,true,true,true,true,true,true,true,true,true,true,true,true,true,true,true,true,false,false]
theorem getD_outC{L:Array Bool}{j:Nat}(h:L.size<=j):L.getD j true=true:=by
 simp[Nat.not_lt.2 h]
theorem chAt_wf:∀j∈placesC,(Lit.int .i64 (chAt j).1).wf=true/\(Lit.int .i64 (chAt j).2).wf=true:=by decide
theorem chAt_inj:∀i∈placesC,∀j∈placesC,chAt i=chAt j->i=j:=by decide
def Stp(w:World)(B M:Nat):Prop:=∃D,w.ownsMap prog 108 heldC M 9 D/\(∀kl,Maps.has D kl=true↔∃j∈placesC,chKey (chAt j).1 (chAt j).2=kl)/\∀j∈placesC,∀z,D.atKey (chKey (chAt j).1 (chAt j).2) z=.held (vAt B j)
theorem stepsC_any(B:Nat)(w:World):Calls prog 74 #[.pointer (some ⟨B,0,none⟩)] w fun e w'=>e=.returned (.map (some w.heap.size))/\Below w.heap.size w w'/\Stp w' B w.heap.size:=by
 have hmm:=@run_makeMap prog;go_enter func74,ntmps74
 go_wp2
 refine wp_region_any (by kernel_rfl) ?_;refine wpAny_take (i:=1) (v:=.agg #[.int .i64 0,.int .i64 2]) rfl (by kernel_rfl) (by kernel_rfl) (by kernel_rfl) (fun _ _ _ h=>h) (Or.inl ⟨by rfl,fun _=>by kernel_rfl⟩) ?_;refine wpAny_take (i:=2) (v:=.pointer (some ⟨B,0,none⟩)) rfl (by kernel_rfl) (by kernel_rfl) (by kernel_rfl) (fun _ _ _ h=>h) (Or.inl ⟨by rfl,fun _=>by go_simp⟩) ?_;refine wpAny_take (i:=3) (v:=vAt B 4) rfl (by kernel_rfl) (by kernel_rfl) (by kernel_rfl) (fun _ _ _ h=>h) (Or.inl ⟨by rfl,fun _=>by go_simp;rfl⟩) ?_;refine wpAny_take (i:=5) (v:=.agg #[.int .i64 0,.int .i64 6]) rfl (by kernel_rfl) (by kernel_rfl) (by kernel_rfl) (fun _ _ _ h=>h) (Or.inl ⟨by rfl,fun _=>by kernel_rfl⟩) ?_;refine wpAny_take (i:=6) (v:=.pointer (some ⟨B,0,none⟩)) rfl (by kernel_rfl) (by kernel_rfl) (by kernel_rfl) (fun _ _ _ h=>h) (Or.inl ⟨by rfl,fun _=>by go_simp⟩) ?_;refine wpAny_take (i:=7) (v:=vAt B 8) rfl (by kernel_rfl) (by kernel_rfl) (by kernel_rfl) (fun _ _ _ h=>h) (Or.inl ⟨by rfl,fun _=>by go_simp;rfl⟩) ?_;refine wpAny_take (i:=9) (v:=.agg #[.int .i64 1,.int .i64 2]) rfl (by kernel_rfl) (by kernel_rfl) (by kernel_rfl) (fun _ _ _ h=>h) (Or.inl ⟨by rfl,fun _=>by kernel_rfl⟩) ?_;refine wpAny_take (i:=10) (v:=.pointer (some ⟨B,0,none⟩)) rfl (by kernel_rfl) (by kernel_rfl) (by kernel_rfl) (fun _ _ _ h=>h) (Or.inl ⟨by rfl,fun _=>by go_simp⟩) ?_;refine wpAny_take (i:=11) (v:=vAt B 12) rfl (by kernel_rfl) (by kernel_rfl) (by kernel_rfl) (fun _ _ _ h=>h) (Or.inl ⟨by rfl,fun _=>by go_simp;rfl⟩) ?_;refine wpAny_take (i:=13) (v:=.agg #[.int .i64 1,.int .i64 6]) rfl (by kernel_rfl) (by kernel_rfl) (by kernel_rfl) (fun _ _ _ h=>h) (Or.inl ⟨by rfl,fun _=>by kernel_rfl⟩) ?_;refine wpAny_take (i:=14) (v:=.pointer (some ⟨B,0,none⟩)) rfl (by kernel_rfl) (by kernel_rfl) (by kernel_rfl) (fun _ _ _ h=>h) (Or.inl ⟨by rfl,fun _=>by go_simp⟩) ?_;refine wpAny_take (i:=15) (v:=vAt B 16) rfl (by kernel_rfl) (by kernel_rfl) (by kernel_rfl) (fun _ _ _ h=>h) (Or.inl ⟨by rfl,fun _=>by go_simp;rfl⟩) ?_;refine wpAny_take (i:=17) (v:=.agg #[.int .i64 2,.int .i64 3]) rfl (by kernel_rfl) (by kernel_rfl) (by kernel_rfl) (fun _ _ _ h=>h) (Or.inl ⟨by rfl,fun _=>by kernel_rfl⟩) ?_;refine wpAny_take (i:=18) (v:=.pointer (some ⟨B,0,none⟩)) rfl (by kernel_rfl) (by kernel_rfl) (by kernel_rfl) (fun _ _ _ h=>h) (Or.inl ⟨by rfl,fun _=>by go_simp⟩) ?_;refine wpAny_take (i:=19) (v:=vAt B 20) rfl (by kernel_rfl) (by kernel_rfl) (by kernel_rfl) (fun _ _ _ h=>h) (Or.inl ⟨by rfl,fun _=>by go_simp;rfl⟩) ?_;refine wpAny_take (i:=21) (v:=.agg #[.int .i64 2,.int .i64 6]) rfl (by kernel_rfl) (by kernel_rfl) (by kernel_rfl) (fun _ _ _ h=>h) (Or.inl ⟨by rfl,fun _=>by kernel_rfl⟩) ?_;refine wpAny_take (i:=22) (v:=.pointer (some ⟨B,0,none⟩)) rfl (by kernel_rfl) (by kernel_rfl) (by kernel_rfl) (fun _ _ _ h=>h) (Or.inl ⟨by rfl,fun _=>by go_simp⟩) ?_;refine wpAny_take (i:=23) (v:=vAt B 24) rfl (by kernel_rfl) (by kernel_rfl) (by kernel_rfl) (fun _ _ _ h=>h) (Or.inl ⟨by rfl,fun _=>by go_simp;rfl⟩) ?_;refine wpAny_take (i:=25) (v:=.agg #[.int .i64 3,.int .i64 1]) rfl (by kernel_rfl) (by kernel_rfl) (by kernel_rfl) (fun _ _ _ h=>h) (Or.inl ⟨by rfl,fun _=>by kernel_rfl⟩) ?_;refine wpAny_take (i:=26) (v:=.pointer (some ⟨B,0,none⟩)) rfl (by kernel_rfl) (by kernel_rfl) (by kernel_rfl) (fun _ _ _ h=>h) (Or.inl ⟨by rfl,fun _=>by go_simp⟩) ?_;refine wpAny_take (i:=27) (v:=vAt B 28) rfl (by kernel_rfl) (by kernel_rfl) (by kernel_rfl) (fun _ _ _ h=>h) (Or.inl ⟨by rfl,fun _=>by go_simp;rfl⟩) ?_;refine wpAny_take (i:=29) (v:=.agg #[.int .i64 3,.int .i64 4]) rfl (by kernel_rfl) (by kernel_rfl) (by kernel_rfl) (fun _ _ _ h=>h) (Or.inl ⟨by rfl,fun _=>by kernel_rfl⟩) ?_;refine wpAny_take (i:=30) (v:=.pointer (some ⟨B,0,none⟩)) rfl (by kernel_rfl) (by kernel_rfl) (by kernel_rfl) (fun _ _ _ h=>h) (Or.inl ⟨by rfl,fun _=>by go_simp⟩) ?_;refine wpAny_take (i:=31) (v:=vAt B 32) rfl (by kernel_rfl) (by kernel_rfl) (by kernel_rfl) (fun _ _ _ h=>h) (Or.inl ⟨by rfl,fun _=>by go_simp;rfl⟩) ?_;refine wpAny_take (i:=33) (v:=.agg #[.int .i64 3,.int .i64 5]) rfl (by kernel_rfl) (by kernel_rfl) (by kernel_rfl) (fun _ _ _ h=>h) (Or.inl ⟨by rfl,fun _=>by kernel_rfl⟩) ?_;refine wpAny_take (i:=34) (v:=.pointer (some ⟨B,0,none⟩)) rfl (by kernel_rfl) (by kernel_rfl) (by kernel_rfl) (fun _ _ _ h=>h) (Or.inl ⟨by rfl,fun _=>by go_simp⟩) ?_;refine wpAny_take (i:=35) (v:=vAt B 36) rfl (by kernel_rfl) (by kernel_rfl) (by kernel_rfl) (fun _ _ _ h=>h) (Or.inl ⟨by rfl,fun _=>by go_simp;rfl⟩) ?_;refine wpAny_all (rs:=[0]) (by kernel_rfl) (by simp) (fun i hi=>?_);obtain rfl:i=0:=by simpa using hi
 refine wpOp_step rfl (fun K hK=>?_);go_simp
 refine hK _ _ ?_;clear hK K;show wpAny prog .any _ _ (2+9) listedCA _ _;refine wpAny_fillV (H:=Value) (t:=169) (K:=108) (E:=120) lawCh underlying169 (R:=heldC) (B:=w.heap.size) (J:=placesC) (m:=37) (by kernel_rfl) (fun j=>chKey (chAt j).1 (chAt j).2) (fun j=>.held (vAt B j)) ?hop ?hinj 2 9 placesC _ _ 0 (.map []) rfl (fun _ h=>h) (by decide) rfl ?hl (World.ownsMap_made _ _ _ _) (by decide) ?fin
 case hop=>
  intro j hj;simp only[placesC,List.mem_cons,List.not_mem_nil,or_false] at hj;rcases hj with rfl|rfl|rfl|rfl|rfl|rfl|rfl|rfl|rfl
  all_goals exact⟨_,_,_,_,_,rfl,rfl,rfl,key_ch (by decide) (by decide),rfl⟩
 case hinj=>
  intro i hi j hj h;obtain⟨a1,a2⟩:=chAt_wf i hi;obtain⟨b1,b2⟩:=chAt_wf j hj;obtain⟨e1,e2⟩:=ch_inj a1 a2 b1 b2 h;rw[chAt_inj i hi j hj (Prod.ext e1 e2)]
 case hl=>
  intro j;by_cases hj:j<39
  ·have h:∀j,j<39->(listedCA.getD j true=false↔(j∈placesC\/(37<=j/\j<39))):=by decide +kernel
   exact h j hj
  ·constructor
   ·intro h;exact absurd h (by rw[getD_outC (by exact Nat.le_of_not_lt hj)];simp)
   ·rintro(h|h)
    ·simp only[placesC,List.mem_cons,List.not_mem_nil,or_false] at h;omega
    ·exact absurd h.2 hj
 case fin=>
  intro L w' D hL1 hL2 hown hhas hat hatN hgr;have hb:Below w.heap.size w w':=(((Below.refl w.heap.size w).alloc (Nat.le_refl _) (.map #[] 0)).drew).grown hgr (by simp) (fun j hj=>by cases hj;exact Nat.le_refl _)
  obtain rfl:L=listedCB:=listed_eqV hL1 (fun j=>by
   rw[hL2 j];by_cases hj:j<39
   ·have h:∀j,j<39->((37<=j/\j<39)↔listedCB.getD j true=false):=by decide +kernel
    exact h j hj
   ·constructor
    ·intro h;exact absurd h.2 hj
    ·intro h;exact absurd h (by rw[getD_outC (by exact Nat.le_of_not_lt hj)];simp))
  clear hL1 hL2 hgr hmm;refine wpAny_take (i:=37) (v:=.map (some w.heap.size)) rfl (by kernel_rfl) (by kernel_rfl) (by kernel_rfl) (fun _ _ _ h=>h) (Or.inl ⟨by rfl,fun _=>rfl⟩) ?_;refine wpAny_take (i:=38) (v:=.map (some w.heap.size)) rfl (by kernel_rfl) (by kernel_rfl) (by kernel_rfl) (fun _ _ _ h=>h) (Or.inl ⟨by rfl,fun _=>rfl⟩) ?_;refine wpAny_done (by kernel_rfl) ?_ _
  go_wp2
  go_ret;exact⟨rfl,hb,D,hown,fun kl=>by rw[hhas kl];simp[Maps.has],hat⟩
theorem Stp.look{w:World}{B M:Nat}(h:Stp w B M){j:Nat}(hj:j∈placesC):(Instr.lookup 169 (.map (some M)) (.agg #[.int .i64 (chAt j).1,.int .i64 (chAt j).2]) true).run prog w=.ok (.tuple #[vAt B j,.bool true]) w:=by
 obtain⟨D,h1,h2,h3⟩:=h;obtain⟨a1,a2⟩:=chAt_wf j hj;obtain⟨v',ps,hr,hv'⟩:=h1.look_ok lawCh undCh (zeroFn w) (zd:=.held .nilFunc) (zp:=[]) rfl (key_ch a1 a2);rw[h3 j hj] at hv';rw[(h2 _).2 ⟨j,hj,rfl⟩] at hr;unfold heldC at hv';simp only[Option.some.injEq,Prod.mk.injEq,DataW.held.injEq] at hv';rw[<-hv'.1];exact hr
theorem Stp.look_no{w:World}{B M:Nat}(h:Stp w B M){a b:Int}(wa:(Lit.int .i64 a).wf=true)(wb:(Lit.int .i64 b).wf=true)(hn:∀j∈placesC,chAt j≠(a,b)):(Instr.lookup 169 (.map (some M)) (.agg #[.int .i64 a,.int .i64 b]) true).run prog w=.ok (.tuple #[.nilFunc,.bool false]) w:=by
 obtain⟨D,h1,h2,h3⟩:=h;obtain⟨v',ps,hr,hv'⟩:=h1.look_ok lawCh undCh (zeroFn w) (zd:=.held .nilFunc) (zp:=[]) rfl (key_ch wa wb)
 have hh:Maps.has D (chKey a b)=false:=by
  cases hc:Maps.has D (chKey a b) with
  | false=>rfl
  | true=>
   obtain⟨j,hj,e⟩:=(h2 _).1 hc;obtain⟨b1,b2⟩:=chAt_wf j hj;obtain⟨e1,e2⟩:=ch_inj b1 b2 wa wb e;exact absurd (Prod.ext e1 e2) (hn j hj)
 rw[Maps.atKey_of_not_has hh] at hv';rw[hh] at hr;unfold heldC at hv';simp only[Option.some.injEq,Prod.mk.injEq,DataW.held.injEq] at hv';rw[<-hv'.1];exact hr
end
section
open Go.RowKit Go.Deep
structure IsRecs(ks:List IntKind)(w:World)(a:Option Addr)(len:Nat)(Z:Nat->Nat->Int):Prop where
 len_le:len<=9223372036854775807
 elem:∀i,i<len->∃b off,a=some ⟨b,off,none⟩/\b<w.heap.size/\∀j k,ks[j]?=some k->w.cell? ⟨b,off+i*ks.length+j,none⟩=some (.int k (Z i j))/\(Lit.int k (Z i j)).wf=true
def recFields(P:Program)(fs:Array Field)(ks:List IntKind):Bool:=
 ks.length==fs.size&&(List.range fs.size).all fun j=>match fs[j]?,ks[j]? with
  | some f,some k=>f.offset==j&&P.cellsOf f.type==1&&(match P.underlying f.type with|some (.int k')=>decide (k'=k)|_=>false)
  | _,_=>false
theorem recFields_at{P:Program}{fs:Array Field}{ks:List IntKind}(h:recFields P fs ks=true){j:Nat}{k:IntKind}(hk:ks[j]?=some k) :
  ks.length=fs.size/\∃f,fs[j]?=some f/\f.offset=j/\P.cellsOf f.type=1/\P.underlying f.type=some (.int k):=by
 simp only[recFields,Bool.and_eq_true,beq_iff_eq] at h;obtain⟨h1,h2⟩:=h
 have hj:j<fs.size:=by
  have:=(List.getElem?_eq_some_iff.1 hk).1;omega
 have h3:=List.all_eq_true.1 h2 j (List.mem_range.2 hj);rw[hk,Array.getElem?_eq_getElem hj] at h3;simp only[Bool.and_eq_true,beq_iff_eq] at h3;obtain⟨⟨h4,h5⟩,h6⟩:=h3;refine⟨h1,fs[j],Array.getElem?_eq_getElem hj,h4,h5,?_⟩
 split at h6
 ·rename_i k' e
  rw[e,of_decide_eq_true h6]
 ·cases h6
section
variable {H:Type}{enc:TypeId×Value->H}{P:Program}{w:World}{spare:Nat->Bool}{held:Bool}
theorem open_recs{t e:TypeId}{fs:Array Field}{fuel:Nat}{a:Option Addr}{len cap:Nat}{x:DataW H×List MemPlace}(ks:List IntKind)(ht:P.underlying t=some (.slice e))(he:P.underlying e=some (.struct fs))
  (hC:P.cellsOf e=fs.size) (hr:recFields P fs ks=true) (hpos:0<ks.length)
  (h:DataW.trod enc P w 0 spare held fuel t [.slice a len cap]=some x):∃Z,IsRecs ks w a len Z:=by
 rcases open_slice ht h with⟨h0,_⟩|⟨a,len,cap,m,n,D,Pl,h0,hb,hl,hm,hmm,_,hx⟩
 ·simp at h0;obtain⟨rfl,rfl,rfl⟩:=h0;exact⟨fun _ _=>0,by omega,fun i hi=>by omega⟩
 ·simp at h0;obtain⟨rfl,rfl,rfl⟩:=h0;unfold maxLen at hm;have hlm:len<=m:=by rw[hmm];split<;>omega
  have each:∀i,i<len->∃z:Nat->Int,∃b off,a=⟨b,off,none⟩/\b<w.heap.size/\∀j k,ks[j]?=some k->w.cell? ⟨b,off+i*ks.length+j,none⟩=some (.int k (z j))/\(Lit.int k (z j)).wf=true:=by
   intro i hi;obtain⟨cs',h1,h2⟩:=hx i (by omega);obtain⟨_,hlen,hcell⟩:=World.cells?_some h1;obtain⟨xs,q,_,_,_,hxl,hf⟩:=DataW.trod_struct he h2;obtain⟨k0,hk0⟩:∃k,ks[0]?=some k:=⟨_,List.getElem?_eq_getElem hpos⟩;have hks:=(recFields_at hr hk0).1;rw[hC] at hlen hcell h1;obtain⟨b,off,spot⟩:=a;obtain⟨cs0,g1,g2⟩:=hx 0 (by omega);obtain⟨_,glen,gcell⟩:=World.cells?_some g1;rw[hC] at glen gcell;have gc:=gcell 0 (by omega);rw[List.getElem?_eq_getElem (show 0<cs0.length by omega)] at gc;have hspot:spot=none:=by simpa [Addr.add] using World.cell?_spot gc
   subst hspot
   have eachj:∀j,j<ks.length->∃v:Int,∀k,ks[j]?=some k->w.cell? ⟨b,off+i*ks.length+j,none⟩=some (.int k v)/\(Lit.int k v).wf=true:=by
    intro j hj;obtain⟨k,hk⟩:∃k,ks[j]?=some k:=⟨_,List.getElem?_eq_getElem hj⟩;obtain⟨_,f,hfj,ho,hc,hu⟩:=recFields_at hr hk;have g:=hf j f hfj;rw[ho,hc,take1_drop cs' j undef (by omega),List.getElem?_eq_getElem (by omega)] at g;obtain⟨v,hv,_,hw⟩:=DataW.trod_int hu g;refine⟨v,fun k' hk'=>?_⟩;obtain rfl:k=k':=Option.some.inj (hk.symm.trans hk');have hc2:=hcell j (by omega);rw[List.getElem?_eq_getElem (show j<cs'.length by omega),Addr.add_lit,Addr.add_lit] at hc2
    have hv2:cs'[j]'(by omega)=.int k v:=by
     have:cs'.getD j undef=.int k v:=by simpa using hv
     simpa [List.getD,List.getElem?_eq_getElem (show j<cs'.length by omega)] using this
    rw[hv2] at hc2;rw[hks];exact⟨hc2,hw⟩
   obtain⟨z,hz⟩:=choose_lt eachj;have hb0:=World.block_lt_of_cell? w _ ((hz 0 hpos k0 hk0).1);exact⟨z,b,off,rfl,hb0,fun j k hk=>hz j (List.getElem?_eq_some_iff.1 hk).1 k hk⟩
  obtain⟨Z,hZ⟩:=choose_lt each;refine⟨Z,by omega,fun i hi=>?_⟩;obtain⟨b,off,e,r⟩:=hZ i hi;exact⟨b,off,by rw[e],r⟩
end
end
end Go.Proofs.YtjpbngiddjkjiaaGreatDoor
