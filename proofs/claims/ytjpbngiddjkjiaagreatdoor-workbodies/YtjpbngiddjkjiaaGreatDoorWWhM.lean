import Derived.Lib.BitFns
import Derived.Lib.ItoaNum
import Derived.Lib.TrailingZeros
namespace Go.Proofs.YtjpbngiddjkjiaaGreatDoor.Wl
set_option maxRecDepth 100000
set_option linter.unusedVariables false
open Go.Lib
def same(l a b:Nat):Prop:=a/64^l=b/64^l
def lev(a b:Nat):Nat:=(bitLen ((a ^^^ b) ||| 1)-1)/6
theorem xor_lt_iff(a b k:Nat):a ^^^ b<2^k↔a/2^k=b/2^k:=by
 rw[<-Nat.shiftRight_eq_div_pow,<-Nat.shiftRight_eq_div_pow];constructor
 ·intro h;apply Nat.eq_of_testBit_eq;intro i;have:=Nat.testBit_lt_two_pow (x:=a ^^^ b) (i:=k+i) (Nat.lt_of_lt_of_le h (Nat.pow_le_pow_right (by omega) (by omega)));rw[Nat.testBit_xor] at this;rw[Nat.testBit_shiftRight,Nat.testBit_shiftRight]
  revert this
  cases a.testBit (k+i)<;>cases b.testBit (k+i)<;>simp
 ·intro h;refine Nat.lt_pow_two_of_testBit _ fun i hi=>?_;rw[Nat.testBit_xor];have e:=congrArg (fun x=>x.testBit (i-k)) h;simp only[Nat.testBit_shiftRight] at e;rw[show k+(i-k)=i by omega] at e;rw[e];simp
theorem or_one_lt(x k:Nat)(hk:0<k):(x ||| 1)<2^k↔x<2^k:=by
 constructor
 ·intro h;exact Nat.lt_of_le_of_lt Nat.left_le_or h
 ·intro h;exact Nat.or_lt_two_pow h (Nat.one_lt_two_pow (by omega))
theorem or_one_ne(x:Nat):(x ||| 1)≠0:=fun h=>by
 have:1<=x ||| 1:=Nat.right_le_or
 omega
theorem bitLen_iff(x k:Nat)(hx:x<2^64)(h0:x≠0):bitLen x<=k↔x<2^k:=by
 obtain⟨h1,h2,h3⟩:=bitLenAux_bounds 64 x hx h0;show bitLenAux 64 x<=k↔_;constructor
 ·intro h;exact Nat.lt_of_lt_of_le h3 (Nat.pow_le_pow_right (by omega) h)
 ·intro h;have:2^(bitLenAux 64 x-1)<2^k:=Nat.lt_of_le_of_lt h2 h;have:=(Nat.pow_lt_pow_iff_right (by omega)).1 this;omega
theorem bitLen_pos(x:Nat)(hx:x<2^64)(h0:x≠0):1<=bitLen x:=(bitLenAux_bounds 64 x hx h0).1
abbrev B64:Nat:=18446744073709551616
theorem lev_le{a b l:Nat}(ha:a<B64)(hb:b<B64):lev a b<=l↔same (l+1) a b:=by
 have hx:(a ^^^ b) ||| 1<2^64:=(or_one_lt _ _ (by omega)).2 (Nat.xor_lt_two_pow (show a<2^64 from ha) (show b<2^64 from hb))
 have h0:=or_one_ne (a ^^^ b);have h1:=bitLen_pos _ hx h0;have h2:=bitLen_iff _ (6*(l+1)) hx h0;rw[or_one_lt _ _ (by omega),xor_lt_iff] at h2;unfold lev same;have e:(64:Nat)^(l+1)=2^(6*(l+1)):=by rw[Nat.pow_mul]
 rw[e,<-h2];omega
def slt(t l:Nat):Nat:=t/64^l%64
theorem slt_lt(t l:Nat):slt t l<64:=Nat.mod_lt _ (by omega)
def plc(now due:Nat):Nat×Nat:=(lev now (max due now),slt (max due now) (lev now (max due now)))
def pass(now thn l s:Nat):Bool:=decide (l<lev now thn)||(decide (l=lev now thn)&&decide (s<=slt thn l))
end Go.Proofs.YtjpbngiddjkjiaaGreatDoor.Wl
