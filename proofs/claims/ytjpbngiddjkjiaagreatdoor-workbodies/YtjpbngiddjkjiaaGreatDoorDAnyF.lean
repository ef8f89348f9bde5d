import Derived.Test.YtjpbngiddjkjiaaGreatDoorAnyF
import Derived.Test.YtjpbngiddjkjiaaGreatDoorDgShelf
namespace Go.Proofs.YtjpbngiddjkjiaaGreatDoor.Da
set_option maxRecDepth 100000
set_option linter.unusedVariables false
section
section
variable {P:Program}{ops:Array Oper}{Q:Exit->Act->World->Prop}{md:Region.Mode}{S:World->Prop}{L:Nat}
end
end
section
open Go.RowKit Go.Lib Go.WideMaps Go.Maps
variable {w w':World}{B M0 N N':Nat}{M:Bool->Nat}{fp gp:Int×Int->Option Value}{f:Bool->Int->Option Value}{l:Bool->Int->List Int}
theorem DgA.drew(h:DgA w B M0 M fp f l N):DgA w.drew B M0 M fp f l N:=h.below ((Below.refl _ _).drew)
end
end Go.Proofs.YtjpbngiddjkjiaaGreatDoor.Da
