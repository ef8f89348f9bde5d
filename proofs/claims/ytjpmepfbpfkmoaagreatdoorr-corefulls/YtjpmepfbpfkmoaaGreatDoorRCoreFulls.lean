/- The card of 'CoreFulls'. -/
import Derived.Test.YtjpmepfbpfkmoaaGreatDoorRCoreFullsD
import Derived.Test.YtjpmepfbpfkmoaaGreatDoorRCards
import Derived.Test.YtjpmepfbpfkmoaaGreatDoorRTie
import Derived.SevenTiedAt
import Derived.ProofKit
namespace Go.Proofs.YtjpmepfbpfkmoaaGreatDoorR
open Go
theorem coreFulls_proved:Rows.CoreFullsCardSaid:=
 Claim7.holds_tied_plain_at .later [] [.data] true (true,"bdf528471bfdda2661d1d52622fa937b2a75dfb56b264d05e2efb6a12fd21aa8") false
  coreFulls.over (fun _ h=>by cases h) (by kernel_rfl) (fun _ h=>by cases h) coreFulls_row_tie rfl ⟨rfl,rfl⟩ (by kernel_rfl) rfl
  (fun f fn hf hfn=>by
   obtain rfl:f=3:=Option.some.inj (coreFullsFn.symm.trans hf) |>.symm
   obtain rfl:fn=Tryz.f3:=(Option.some.inj (Tryz.func3.symm.trans hfn)).symm
   exact⟨fLooks,fun j t ht=>by
    rw[Tryz.params3] at ht
    have hm:t∈[3,3,3]:=by simpa using Array.mem_of_getElem? ht
    have hall:([3,3,3].all fun u=>!Tryz.prog.wantsStandIn u)=true:=by kernel_rfl
    exact(show Tryz.prog.wantsStandIn t=false by simpa using List.all_eq_true.1 hall t hm)⟩)
  coreFullsGoes
#print axioms coreFulls_proved
end Go.Proofs.YtjpmepfbpfkmoaaGreatDoorR
