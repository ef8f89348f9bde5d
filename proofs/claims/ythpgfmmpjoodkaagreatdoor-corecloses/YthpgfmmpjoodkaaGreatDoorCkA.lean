import Derived.Test.YthpgfmmpjoodkaaGreatDoorRows
import Derived.Test.YthpgfmmpjoodkaaGreatDoorLitV
import Derived.Test.YthpgfmmpjoodkaaGreatDoorWWhA
import Derived.ProofKit
import Derived.LaidMore
import Derived.OpenShut
import Derived.Stop.Joined
import Derived.SevenTiedAt
namespace Go.Proofs.YthpgfmmpjoodkaaGreatDoor
open Go.ChangeShapes Go.WideShapes Go.ChangeAt Go.WideMaps Go.WideElems Go.RowKit
theorem laidOut:laidOutB Tryz.prog=true:=laidOutC
theorem own:ownKnob Tryz.prog.godebug=none:=by kernel_rfl
theorem gTab:Tryz.prog.globalNamed "math/bits.deBruijn64tab"=some 1:=by kernel_rfl
theorem tTab:(Tryz.prog.globals[1]?).map (·.type)=some 353:=by kernel_rfl
theorem cellsU8:Tryz.prog.cellsOf 5=1:=by kernel_rfl
def laidAll:List (String×DataW Unit):=[("math/bits.deBruijn64tab",Rows.laid_math_bits_deBruijn64tab),("verger/body.shapes",Rows.laid_verger_body_shapes)]
theorem door_met(os:Os)(args:Array Value):laidMetH Tryz.prog laidAll ((World.doorLaid Tryz.prog 400 os).forCall (fun _ _=>0) ⟨#[],args,[]⟩).memory:=
 laidMetH_of_parts3 (fuel:=8) (laidMet_of_run' 8 (by kernel_rfl) (by kernel_rfl)) (by kernel_rfl) (by kernel_rfl)
theorem tab_eq:(Rows.laid_math_bits_deBruijn64tab:DataW Unit)=.agg (Lib.deBruijn64tab.map fun n:Nat=>.lit (.int .u8 (n:Int))):=by kernel_rfl
set_option maxRecDepth 10000 in
theorem of_laid{W:World}(h:laidMetH Tryz.prog laidAll W):Wl.TabW W/\1<W.heap.size:=by
 rw[MakeChecks.laidMetH_plain _ _ _ (by kernel_rfl)] at h;obtain⟨ps,⟨g0,t0,cs0,f0,p0,q0,hg0,ht0,hv0,hd0,_,_⟩,_,_⟩:=h;obtain rfl:=Option.some.inj (gTab.symm.trans hg0);obtain rfl:=Option.some.inj (tTab.symm.trans ht0);obtain⟨xs,m1,rfl,hx1,hlen,hn,hel⟩:=DataW.trod_array Tryz.underlying353 hd0;simp only[Prod.mk.injEq] at hx1;have hc:∀k:Nat,W.cell? ⟨1,k,none⟩=cs0[k]?:=fun k=>World.var?_cell hg0 hv0 k
 have h3:xs.map (·.1)=Lib.deBruijn64tab.map fun n:Nat=>DataW.lit (.int .u8 (n:Int)):=by
  exact(DataW.agg.inj (tab_eq.symm.trans hx1.1)).symm
 have hN:Wl.TabW W:=by
  intro k hk;have hk64:k<64:=hk;have hxk:k<xs.length:=by omega
  have h1:=hel k hk64;rw[cellsU8,List.getElem?_eq_getElem hxk] at h1;obtain⟨n,e1,e2,_⟩:=DataW.trod_int Tryz.underlying5 h1;have h2:(xs.map (·.1))[k]?=some (.lit (.int .u8 n)):=by simp[List.getElem?_eq_getElem hxk,e2]
  rw[h3,List.getElem?_map,List.getElem?_eq_getElem hk] at h2
  have hs:n=(Lib.deBruijn64tab.getD k 0:Nat):=by
   rw[List.getD,List.getElem?_eq_getElem hk];simp at h2;exact h2.symm
  have h4:cs0[k]?=some (.int .u8 n):=by
   have:=congrArg (fun l=>l[0]?) e1;simpa [List.getElem?_take,List.getElem?_drop] using this
  rw[hc k,h4,hs]
 exact⟨hN,World.block_lt_of_cell? W _ (hN 0 (by decide))⟩
end Go.Proofs.YthpgfmmpjoodkaaGreatDoor
/- Facts of the whole program, each alone. -/
namespace Go.Proofs.YthpgfmmpjoodkaaGreatDoor
open Go.ChangeShapes Go.WideShapes Go.ChangeAt Go.WideMaps Go.WideElems Go.RowKit
theorem fRowed : mapsRowed Tryz.prog = true := by kernel_rfl
theorem fHeard : Tryz.prog.stopsHeard = true := by kernel_rfl
theorem fLifts : Tryz.prog.liftsFinal = false := by kernel_rfl
theorem fMake : Tryz.prog.make = some Rows.coreClosesRow.make := by kernel_rfl
theorem fMay : Tryz.prog.mayEnter = true := by kernel_rfl
theorem fLooks : false = Tryz.prog.looks [] := by kernel_rfl
end Go.Proofs.YthpgfmmpjoodkaaGreatDoor
