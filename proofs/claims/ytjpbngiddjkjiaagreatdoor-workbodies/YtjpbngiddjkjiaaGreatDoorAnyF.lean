import Derived.OrdersHeld
import Derived.Deep.RegionHeld3
import Derived.StillTail
namespace Go.Proofs.YtjpbngiddjkjiaaGreatDoor
set_option linter.unusedVariables false
section
variable {P:Program}{ops:Array Oper}{Q:Exit->Act->World->Prop}{md:Region.Mode}{S:World->Prop}{L:Nat}
def wpAnyE(P:Program)(md:Region.Mode)(ops:Array Oper)(Q:Exit->Act->World->Prop)(S:World->Prop)(L:Nat):Nat->Array Bool->Act->World->Prop
 | 0,lst,a,w=>Region.ready md ops lst=[]/\Q .normal a w
 | f+1,lst,a,w=>(Region.ready md ops lst=[]->Q .normal a w)/\
   ∀i∈Region.ready md ops lst,wpOp P ops Q i (fun b u=>(i≠L->S u)/\wpAnyE P md ops Q S L f (lst.setIfInBounds i true) b u) a w
theorem anyE_any:∀(f:Nat)(lst:Array Bool)(a:Act)(w:World),wpAnyE P md ops Q S L f lst a w->wpAny P md ops Q f lst a w
 | 0,_,_,_,h=>h
 | f+1,_,_,_,h=>⟨h.1,fun i hi=>wpOp_mono (fun b u g=>anyE_any f _ b u g.2) (h.2 i hi)⟩
theorem anyE_start{id:Nat}{a:Act}{w:World}(hm:P.follows .mixedOrders=true)(h:wpAnyE P .any ops Q S L ops.size (Array.replicate ops.size false) a w.drew):(Code.region id ops true).wp P Q a w:=
 wp_region_any hm (anyE_any _ _ _ _ h)
theorem anyE_first{i:Nat}{oi:Oper}{v:Value}(hi:ops[i]?=some oi)(hsel:Region.noSelect ops=true)(hL:Region.waitsFor md ops L i=true)(hQ:∀c a w,Q (.panic c) (a.put oi.dst v) w->Q (.panic c) a w) :
  ∀(f:Nat)(lst:Array Bool)(a:Act)(w:World),(∀j oj,ops[j]?=some oj->j≠i->lst.getD j true=false->(∀e∈oj.after,Region.binds md e=true->e.on≠i)->oi.apart ops oj=true)->
   i∈Region.ready md ops lst->YieldsIf P ops S oi v a->S w->wpAnyE P md ops Q S L f (lst.setIfInBounds i true) (a.put oi.dst v) w->wpAnyE P md ops Q S L (f+1) lst a w:=by
 intro f
 induction f with
 | zero=>
  intro lst a w _ hr hy hS H;refine⟨fun h=>(by rw[h] at hr;cases hr),fun j hj=>?_⟩;by_cases e:j=i
  ·subst e;exact hy.wpOp hi hS ⟨fun _=>hS,H⟩
  ·have:=ready_mono hj e;rw[H.1] at this
   cases this
 | succ f ih=>
  intro lst a w hfree hr hy hS H;refine⟨fun h=>(by rw[h] at hr;cases hr),fun j hj=>?_⟩;by_cases e:j=i
  ·subst e;exact hy.wpOp hi hS ⟨fun _=>hS,H⟩
  ·obtain⟨hjun,oj,hoj,hall⟩:=mem_ready.1 hj;have hr0:=(mem_ready.1 hr).1
   have hnot:∀x∈oj.after,Region.binds md x=true->x.on≠i:=fun x hx hb he=>by
    have h1:=hall x hx hb;rw[he] at h1;rcases Nat.lt_or_ge i lst.size with c|c
    ·simp[c] at hr0 h1;rw[hr0] at h1;cases h1
    ·simp[Array.getElem?_eq_none c] at h1
   have ns:=Region.noSelect_spec hsel;have step:=wpOp_putIf hoj (hfree j oj hoj e hjun hnot) (fun cs b=>ns i oi cs b hi) (fun cs b=>ns j oj cs b hoj) hQ hy (H.2 j (ready_mono hj e));have hri:=ready_mono hr (Ne.symm e)
   have hfree':∀k ok,ops[k]?=some ok->k≠i->(lst.setIfInBounds j true).getD k true=false->(∀x∈ok.after,Region.binds md x=true->x.on≠i)->oi.apart ops ok=true:=fun k ok hk hki hun hno=>by
    refine hfree k ok hk hki ?_ hno;by_cases c:j=k
    ·subst c;exact hjun
    ·rw[getD_set_ne true c] at hun;exact hun
   refine wpOp_mono (fun b u g=>?_) step
   have jL:j≠L:=by
    rintro rfl;obtain⟨o',ho',x,hx,hb,he⟩:=Region.waitsFor_spec hL;rw[hoj] at ho';injection ho' with ho'
    subst ho';exact hnot x hx hb he
   have hS':=g.2.1 jL;refine⟨fun _=>hS',ih (lst.setIfInBounds j true) b u hfree' hri g.1 hS' ?_⟩;rw[Array.setIfInBounds_comm _ _ e];exact g.2.2
theorem anyE_take{i:Nat}{oi:Oper}{v:Value}{f:Nat}{lst:Array Bool}{a:Act}{w:World}(hi:ops[i]?=some oi)(hs:Region.noSelect ops=true)(hL:Region.waitsFor md ops L i=true)(hf:Region.free md ops lst i=true)(hr:(Region.ready md ops lst).contains i=true)
  (hQ:∀c a w,Q (.panic c) (a.put oi.dst v) w->Q (.panic c) a w) (hy:YieldsIf P ops S oi v a) (hS:S w) (h:wpAnyE P md ops Q S L f (lst.setIfInBounds i true) (a.put oi.dst v) w):wpAnyE P md ops Q S L (f+1) lst a w:=
 anyE_first hi hs hL hQ f lst a w (Region.free_spec hi hf) (by simpa using hr) hy hS h
def AllE(P:Program)(md:Region.Mode)(ops:Array Oper)(Q:Exit->Act->World->Prop)(S:World->Prop)(L f:Nat)(lst:Array Bool)(a:Act)(w:World)(rs:List Nat):Prop:=
 ∀i∈rs,wpOp P ops Q i (fun b u=>(i≠L->S u)/\wpAnyE P md ops Q S L f (lst.setIfInBounds i true) b u) a w
theorem anyE_ready{rs:List Nat}{f:Nat}{lst:Array Bool}{a:Act}{w:World}(hr:Region.ready md ops lst=rs)(hne:rs≠[])(h:AllE P md ops Q S L f lst a w rs):wpAnyE P md ops Q S L (f+1) lst a w:=
 ⟨fun c=>absurd (hr.symm.trans c) hne,fun i hi=>h i (by rw[<-hr];exact hi)⟩
theorem AllE.nil{f:Nat}{lst:Array Bool}{a:Act}{w:World}:AllE P md ops Q S L f lst a w []:=fun _ h=>by cases h
theorem AllE.cons{f:Nat}{lst:Array Bool}{a:Act}{w:World}{i:Nat}{o:Oper}{rs:List Nat}(ho:ops[i]?=some o)
  (h:∀K:Act->World->Prop,Shut (∀a w,(i≠L->S w)->wpAnyE P md ops Q S L f (lst.setIfInBounds i true) a w->K a w)->if Region.wanted o (yielded ops a.tmps)=true then Oper.wp P o a w K Q else K (a.put o.dst undef) w)
  (hs:AllE P md ops Q S L f lst a w rs):AllE P md ops Q S L f lst a w (i::rs):=fun j hj=>by
 rcases List.mem_cons.1 hj with rfl|hj
 ·exact wpOp_step ho (fun K hK=>h K (fun a w h1 h2=>hK a w ⟨h1,h2⟩))
 ·exact hs j hj
theorem anyE_done{lst:Array Bool}{a:Act}{w:World}(hr:Region.ready md ops lst=[])(h:Q .normal a w):∀f,wpAnyE P md ops Q S L f lst a w
 | 0=>⟨hr,h⟩
 | _+1=>⟨fun _=>h,by rw[hr];simp⟩
end
end Go.Proofs.YtjpbngiddjkjiaaGreatDoor
namespace Go.Proofs.YtjpbngiddjkjiaaGreatDoor
set_option linter.unusedVariables false
section
variable {P:Program}{ops:Array Oper}{Q:Exit->Act->World->Prop}{md:Region.Mode}{S:World->Prop}{L:Nat}
def chainOk(md:Region.Mode)(ops:Array Oper):Nat->List Nat->Nat->Bool
 | i,[],L=>Region.waitsFor md ops L i
 | i,m::ms,L=>Region.waitsFor md ops m i&&chainOk md ops m ms L
theorem not_ready{lst:Array Bool}{a b:Nat}(hw:Region.waitsFor md ops a b=true)(hb:lst.getD b true=false):a∉Region.ready md ops lst:=fun h=>by
 obtain⟨_,oj,hoj,hall⟩:=mem_ready.1 h;obtain⟨o',ho',x,hx,hbd,he⟩:=Region.waitsFor_spec hw;rw[hoj] at ho';injection ho' with ho'
 subst ho';have h1:=hall x hx hbd;rw[he] at h1;rcases Nat.lt_or_ge b lst.size with c|c
 ·simp[c] at hb h1;rw[hb] at h1;cases h1
 ·simp[Array.getElem?_eq_none c] at h1
theorem chain_not{lst:Array Bool}{j:Nat}(hj:j∈Region.ready md ops lst):∀(ms:List Nat)(i:Nat),chainOk md ops i ms L=true->lst.getD i true=false->(∀m∈ms,lst.getD m true=false)->j∉ms/\j≠L
 | [],i,h,hi,_=>⟨by simp,fun e=>not_ready h hi (e▸hj)⟩
 | m::ms,i,h,hi,hu=>by
  simp only[chainOk,Bool.and_eq_true] at h;obtain⟨h1,h2⟩:=chain_not hj ms m h.2 (hu m (by simp)) (fun x hx=>hu x (by simp[hx]));refine⟨fun hx=>?_,h2⟩;rcases List.mem_cons.1 hx with e|hx
  ·exact not_ready h.1 hi (e▸hj)
  ·exact h1 hx
theorem anyF_first{i:Nat}{oi:Oper}{v:Value}(ms:List Nat)(hi:ops[i]?=some oi)(hsel:Region.noSelect ops=true)(hL:chainOk md ops i ms L=true)(hQ:∀c a w,Q (.panic c) (a.put oi.dst v) w->Q (.panic c) a w) :
  ∀(f:Nat)(lst:Array Bool)(a:Act)(w:World),(∀m∈ms,lst.getD m true=false)->(∀j oj,ops[j]?=some oj->j≠i->lst.getD j true=false->(∀e∈oj.after,Region.binds md e=true->e.on≠i)->oi.apart ops oj=true)->
   i∈Region.ready md ops lst->YieldsIf P ops S oi v a->S w->wpAnyE P md ops Q S L f (lst.setIfInBounds i true) (a.put oi.dst v) w->wpAnyE P md ops Q S L (f+1) lst a w:=by
 intro f
 induction f with
 | zero=>
  intro lst a w _ _ hr hy hS H;refine⟨fun h=>(by rw[h] at hr;cases hr),fun j hj=>?_⟩;by_cases e:j=i
  ·subst e;exact hy.wpOp hi hS ⟨fun _=>hS,H⟩
  ·have:=ready_mono hj e;rw[H.1] at this
   cases this
 | succ f ih=>
  intro lst a w hu hfree hr hy hS H;refine⟨fun h=>(by rw[h] at hr;cases hr),fun j hj=>?_⟩;by_cases e:j=i
  ·subst e;exact hy.wpOp hi hS ⟨fun _=>hS,H⟩
  ·obtain⟨hjun,oj,hoj,hall⟩:=mem_ready.1 hj;have hr0:=(mem_ready.1 hr).1
   have hnot:∀x∈oj.after,Region.binds md x=true->x.on≠i:=fun x hx hb he=>by
    have h1:=hall x hx hb;rw[he] at h1;rcases Nat.lt_or_ge i lst.size with c|c
    ·simp[c] at hr0 h1;rw[hr0] at h1;cases h1
    ·simp[Array.getElem?_eq_none c] at h1
   have ns:=Region.noSelect_spec hsel;have step:=wpOp_putIf hoj (hfree j oj hoj e hjun hnot) (fun cs b=>ns i oi cs b hi) (fun cs b=>ns j oj cs b hoj) hQ hy (H.2 j (ready_mono hj e));have hri:=ready_mono hr (Ne.symm e)
   have hfree':∀k ok,ops[k]?=some ok->k≠i->(lst.setIfInBounds j true).getD k true=false->(∀x∈ok.after,Region.binds md x=true->x.on≠i)->oi.apart ops ok=true:=fun k ok hk hki hun hno=>by
    refine hfree k ok hk hki ?_ hno;by_cases c:j=k
    ·subst c;exact hjun
    ·rw[getD_set_ne true c] at hun;exact hun
   refine wpOp_mono (fun b u g=>?_) step;obtain⟨jm,jL⟩:=chain_not (L:=L) hj ms i hL hr0 hu;have hS':=g.2.1 jL
   have hu':∀m∈ms,(lst.setIfInBounds j true).getD m true=false:=fun m hm=>by
    have hc:j≠m:=fun c=>jm (by rw[c];exact hm);rw[getD_set_ne true hc];exact hu m hm
   refine⟨fun _=>hS',ih (lst.setIfInBounds j true) b u hu' hfree' hri g.1 hS' ?_⟩;rw[Array.setIfInBounds_comm _ _ e];exact g.2.2
theorem anyF_take(ms:List Nat){i:Nat}{oi:Oper}{v:Value}{f:Nat}{lst:Array Bool}{a:Act}{w:World}(hi:ops[i]?=some oi)(hs:Region.noSelect ops=true)(hL:chainOk md ops i ms L=true)(hu:(ms.all fun m=>!lst.getD m true)=true)(hf:Region.free md ops lst i=true)(hr:(Region.ready md ops lst).contains i=true)
  (hQ:∀c a w,Q (.panic c) (a.put oi.dst v) w->Q (.panic c) a w) (hy:YieldsIf P ops S oi v a) (hS:S w) (h:wpAnyE P md ops Q S L f (lst.setIfInBounds i true) (a.put oi.dst v) w):wpAnyE P md ops Q S L (f+1) lst a w:=
 anyF_first ms hi hs hL hQ f lst a w (fun m hm=>by simpa using List.all_eq_true.1 hu m hm) (Region.free_spec hi hf) (by simpa using hr) hy hS h
theorem wanted_n{o:Oper}(h:o.guard.isNone=true)(g:Nat->Option Bool):Region.wanted o g=true:=by
 unfold Region.wanted
 cases c:o.guard with
 | none=>rfl
 | some x=>rw[c] at h;cases h
theorem anyE_u{i:Nat}{oi:Oper}{v:Value}{f:Nat}{lst:Array Bool}{a:Act}{w:World}(hS:S w)(hi:ops[i]?=some oi)(hh:(oi.guard.isNone&&Region.noSelect ops&&Region.waitsFor md ops L i&&Region.free md ops lst i&&(Region.ready md ops lst).contains i)=true)(hy:∀w,S w->(execOp a.eval oi).run P w=.ok (.value v) w)(hQ:∀c a w,Q (.panic c) (a.put oi.dst v) w->Q (.panic c) a w)(h:wpAnyE P md ops Q S L f (lst.setIfInBounds i true) (a.put oi.dst v) w):wpAnyE P md ops Q S L (f+1) lst a w:=by
 simp only[Bool.and_eq_true] at hh;exact anyE_take hi hh.1.1.1.2 hh.1.1.2 hh.1.2 hh.2 hQ (Or.inl ⟨wanted_n hh.1.1.1.1 _,hy⟩) hS h
theorem anyF_u(ms:List Nat){i:Nat}{oi:Oper}{v:Value}{f:Nat}{lst:Array Bool}{a:Act}{w:World}(hS:S w)(hi:ops[i]?=some oi)(hh:(oi.guard.isNone&&Region.noSelect ops&&chainOk md ops i ms L&&(ms.all fun m=>!lst.getD m true)&&Region.free md ops lst i&&(Region.ready md ops lst).contains i)=true)(hy:∀w,S w->(execOp a.eval oi).run P w=.ok (.value v) w)(hQ:∀c a w,Q (.panic c) (a.put oi.dst v) w->Q (.panic c) a w)(h:wpAnyE P md ops Q S L f (lst.setIfInBounds i true) (a.put oi.dst v) w):wpAnyE P md ops Q S L (f+1) lst a w:=by
 simp only[Bool.and_eq_true] at hh;exact anyF_take ms hi hh.1.1.1.1.2 hh.1.1.1.2 hh.1.1.2 hh.1.2 hh.2 hQ (Or.inl ⟨wanted_n hh.1.1.1.1.1 _,hy⟩) hS h
theorem anyH_u{i:Nat}{oi:Oper}{v:Value}{f:Nat}{lst:Array Bool}{a:Act}{w:World}(hS:S w)(hi:ops[i]?=some oi)(hh:(oi.guard.isNone&&Region.noSelect ops&&Region.free md ops lst i&&(Region.ready md ops lst).contains i)=true)(hy:∀w,S w->(execOp a.eval oi).run P w=.ok (.value v) w)(hQ:∀c a w,Q (.panic c) (a.put oi.dst v) w->Q (.panic c) a w)(h:wpAnyH P md ops Q S f (lst.setIfInBounds i true) (a.put oi.dst v) w):wpAnyH P md ops Q S (f+1) lst a w:=by
 simp only[Bool.and_eq_true] at hh;exact wpAnyH_take hi hh.1.1.2 hh.1.2 hh.2 hQ (Or.inl ⟨wanted_n hh.1.1.1 _,hy⟩) hS h
end
end Go.Proofs.YtjpbngiddjkjiaaGreatDoor
