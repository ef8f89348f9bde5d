import Derived.Lib.BitFns
import Derived.Lib.ItoaNum
import Derived.Lib.TrailingZeros
namespace Go.Proofs.YthpgfmmpjoodkaaGreatDoor.Wl
set_option maxRecDepth 100000
set_option linter.unusedVariables false
open Go.Lib
def same(l a b:Nat):Prop:=a/64^l=b/64^l
theorem same_up{l m a b:Nat}(h:same l a b)(hl:l<=m):same m a b:=by
 unfold same at *;obtain⟨k,rfl⟩:=Nat.exists_eq_add_of_le hl;rw[Nat.pow_add,<-Nat.div_div_eq_div_mul,<-Nat.div_div_eq_div_mul,h]
theorem same.trans{l a b c:Nat}(h:same l a b)(k:same l b c):same l a c:=Eq.trans h k
def lev(a b:Nat):Nat:=(bitLen ((a ^^^ b) ||| 1)-1)/6
theorem xor_lt_iff(a b k:Nat):a ^^^ b<2^k↔a/2^k=b/2^k:=by
 rw[<-Nat.shiftRight_eq_div_pow,<-Nat.shiftRight_eq_div_pow];constructor
 ·intro h;apply Nat.eq_of_testBit_eq;intro i;have:=Nat.testBit_lt_two_pow (x:=a ^^^ b) (i:=k+i) (Nat.lt_of_lt_of_le h (Nat.pow_le_pow_right (by omega) (by omega)));rw[Nat.testBit_xor] at this;rw[Nat.testBit_shiftRight,Nat.testBit_shiftRight]
  revert this
  cases a.testBit (k+i)<;>cases b.testBit (k+i)<;>simp
 ·intro h;refine Nat.lt_pow_two_of_testBit _ fun i hi=>?_;rw[Nat.testBit_xor];have e:=congrArg (fun x=>x.testBit (i-k)) h;simp only[Nat.testBit_shiftRight] at e;rw[show k+(i-k)=i by omega] at e;rw[e];simp
theorem or_one_lt(x k:Nat)(hk:0<k):(x ||| 1)<2^k↔x<2^k:=by
 constructor
 ·intro h;exact Nat.lt_of_le_of_lt Nat.left_le_or h
 ·intro h;exact Nat.or_lt_two_pow h (Nat.one_lt_two_pow (by omega))
theorem or_one_ne(x:Nat):(x ||| 1)≠0:=fun h=>by
 have:1<=x ||| 1:=Nat.right_le_or
 omega
theorem bitLen_iff(x k:Nat)(hx:x<2^64)(h0:x≠0):bitLen x<=k↔x<2^k:=by
 obtain⟨h1,h2,h3⟩:=bitLenAux_bounds 64 x hx h0;show bitLenAux 64 x<=k↔_;constructor
 ·intro h;exact Nat.lt_of_lt_of_le h3 (Nat.pow_le_pow_right (by omega) h)
 ·intro h;have:2^(bitLenAux 64 x-1)<2^k:=Nat.lt_of_le_of_lt h2 h;have:=(Nat.pow_lt_pow_iff_right (by omega)).1 this;omega
theorem bitLen_pos(x:Nat)(hx:x<2^64)(h0:x≠0):1<=bitLen x:=(bitLenAux_bounds 64 x hx h0).1
abbrev B64:Nat:=18446744073709551616
theorem lev_le{a b l:Nat}(ha:a<B64)(hb:b<B64):lev a b<=l↔same (l+1) a b:=by
 have hx:(a ^^^ b) ||| 1<2^64:=(or_one_lt _ _ (by omega)).2 (Nat.xor_lt_two_pow (show a<2^64 from ha) (show b<2^64 from hb))
 have h0:=or_one_ne (a ^^^ b);have h1:=bitLen_pos _ hx h0;have h2:=bitLen_iff _ (6*(l+1)) hx h0;rw[or_one_lt _ _ (by omega),xor_lt_iff] at h2;unfold lev same;have e:(64:Nat)^(l+1)=2^(6*(l+1)):=by rw[Nat.pow_mul]
 rw[e,<-h2];omega
theorem lev_eq{a b l:Nat}(ha:a<B64)(hb:b<B64):lev a b=l↔same (l+1) a b/\(l=0\/¬same l a b):=by
 have h1:=lev_le (l:=l) ha hb;constructor
 ·rintro e;refine⟨h1.1 (by omega),?_⟩;by_cases h:l=0
  ·exact .inl h
  ·refine .inr fun hs=>?_;have h2:=lev_le (l:=l-1) ha hb;rw[show l-1+1=l by omega] at h2;have:=h2.2 hs;omega
 ·rintro⟨h,h'⟩;have:=h1.2 h;rcases h' with h'|h'
  ·omega
  ·by_cases e:lev a b=l
   ·exact e
   ·exfalso
    have h2:=(lev_le (l:=l-1) ha hb).1 (by omega);by_cases e0:l=0
    ·omega
    ·rw[show l-1+1=l by omega] at h2;exact h' h2
def slt(t l:Nat):Nat:=t/64^l%64
theorem slt_lt(t l:Nat):slt t l<64:=Nat.mod_lt _ (by omega)
theorem same_succ(l a b:Nat):same (l+1) a b↔a/64^l/64=b/64^l/64:=by
 unfold same;rw[Nat.pow_succ,<-Nat.div_div_eq_div_mul,<-Nat.div_div_eq_div_mul]
theorem div_lt_of{a b m:Nat}(h:a/m<b/m):a<b:=by
 by_cases c:a<b
 ·exact c
 ·have:=Nat.div_le_div_right (c:=m) (show b<=a by omega);omega
def plc(now due:Nat):Nat×Nat:=(lev now (max due now),slt (max due now) (lev now (max due now)))
def pass(now thn l s:Nat):Bool:=decide (l<lev now thn)||(decide (l=lev now thn)&&decide (s<=slt thn l))
theorem plc_stay{now thn due:Nat}(hn:now<=thn)(ht:thn<B64)(hd:due<B64)
  (h:pass now thn (plc now due).1 (plc now due).2=false):thn<due/\plc thn due=plc now due:=by
 obtain⟨a,ha⟩:∃a,max due now=a:=⟨_,rfl⟩;unfold plc at h⊢;rw[ha] at h⊢;have hna:now<=a:=by omega
 have hab:a<B64:=by omega
 have hnb:now<B64:=by omega
 obtain⟨l,hl⟩:∃l,lev now a=l:=⟨_,rfl⟩;obtain⟨top,htop⟩:∃l,lev now thn=l:=⟨_,rfl⟩;unfold pass at h;simp only[hl,htop,Bool.or_eq_false_iff,decide_eq_false_iff_not,Bool.and_eq_false_iff] at h⊢;obtain⟨s1,s2⟩:=(lev_eq hnb hab).1 hl;obtain⟨t1,t2⟩:=(lev_eq hnb ht).1 htop;obtain⟨h1,h2⟩:=h
 have key:thn<a/\lev thn a=l:=by
  by_cases e:l=top
  ·subst e;have h2:¬slt a l<=slt thn l:=by rcases h2 with h2|h2;exact absurd rfl h2;exact h2
   have q1:=(same_succ l now a).1 s1;have q2:=(same_succ l now thn).1 t1;unfold slt at h2;have q3:thn/64^l<a/64^l:=by omega
   refine⟨div_lt_of q3,(lev_eq ht hab).2 ⟨(same_succ l thn a).2 (by omega),.inr fun hs=>?_⟩⟩;unfold same at hs;omega
  ·have c:top+1<=l:=by omega
   have q1:same l now thn:=same_up t1 c;have q2:¬same l now a:=by rcases s2 with s2|s2;omega;exact s2
   have q3:now/64^l<=a/64^l:=Nat.div_le_div_right hna;unfold same at q1 q2;refine⟨div_lt_of (m:=64^l) (by omega),(lev_eq ht hab).2 ⟨(same_up (show same l thn now from q1.symm) (by omega)).trans s1,.inr fun hs=>?_⟩⟩;unfold same at hs;omega
 have hm:max due thn=a:=by omega
 rw[hm,key.2];exact⟨by omega,rfl⟩
theorem span_or(x:Nat):x ||| 16777215=x/16777216*16777216+16777215:=by
 have e1:x=x/16777216*2^24+x%16777216:=by omega
 apply Nat.eq_of_testBit_eq;intro i;rw[Nat.testBit_or,show(16777215:Nat)=2^24-1 from rfl,Nat.testBit_two_pow_sub_one,show(x/16777216*16777216+(2^24-1))=2^24*(x/16777216)+(2^24-1) by omega,Nat.testBit_two_pow_mul_add _ (by omega)];by_cases h:i<24
 ·rw[if_pos h,Nat.testBit_two_pow_sub_one];simp[h]
 ·rw[if_neg h];simp only[h,decide_false,Bool.or_false];rw[show(16777216:Nat)=2^24 from rfl,<-Nat.shiftRight_eq_div_pow,Nat.testBit_shiftRight,show 24+(i-24)=i by omega]
theorem span_far{now due:Nat}(hn:now<B64)(hd:due<B64):(now ||| 16777215)<due↔4<=(plc now due).1:=by
 obtain⟨a,ha⟩:∃a,max due now=a:=⟨_,rfl⟩;unfold plc;rw[ha,span_or];have h:=lev_le (a:=now) (b:=a) (l:=3) hn (by omega);unfold same at h;have e:(64:Nat)^(3+1)=16777216:=rfl;rw[e] at h;show _↔4<=lev now a;omega
theorem far_stay{now thn due:Nat}(hn:now<=thn)(ht:thn<B64)(hd:due<B64)(h:(thn ||| 16777215)<due):thn<due:=by
 have:thn<=thn ||| 16777215:=Nat.left_le_or
 omega
end Go.Proofs.YthpgfmmpjoodkaaGreatDoor.Wl
