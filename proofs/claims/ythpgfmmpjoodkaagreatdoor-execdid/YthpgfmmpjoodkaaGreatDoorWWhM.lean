import Derived.Lib.BitFns
import Derived.Lib.ItoaNum
import Derived.Lib.TrailingZeros
namespace Go.Proofs.YthpgfmmpjoodkaaGreatDoor.Wl
set_option maxRecDepth 100000
set_option linter.unusedVariables false
open Go.Lib
def lev(a b:Nat):Nat:=(bitLen ((a ^^^ b) ||| 1)-1)/6
abbrev B64:Nat:=18446744073709551616
def slt(t l:Nat):Nat:=t/64^l%64
theorem slt_lt(t l:Nat):slt t l<64:=Nat.mod_lt _ (by omega)
def plc(now due:Nat):Nat×Nat:=(lev now (max due now),slt (max due now) (lev now (max due now)))
end Go.Proofs.YthpgfmmpjoodkaaGreatDoor.Wl
