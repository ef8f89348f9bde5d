import Derived.Test.YtjpbngiddjkjiaaGreatDoorProg
import Derived.Test.YtjpbngiddjkjiaaGreatDoorUJA
import Derived.WalkKit
import Derived.Below
open Go.Proofs.Tryz
namespace Go.Proofs.YtjpbngiddjkjiaaGreatDoor.Qu
set_option maxHeartbeats 8000000
set_option maxRecDepth 100000
set_option linter.unusedVariables false
open Go.RowKit
theorem pow_u64(k P:Nat)(hk:k<=62)(hP:2^k=P):IntKind.u64.wrap ((2:Int)^k)=(P:Int):=by
 have h1:P<=2^62:=by rw[<-hP];exact Nat.pow_le_pow_right (by omega) hk
 have h2:(2:Nat)^62=4611686018427387904:=by decide
 have e:((2:Int)^k)=(P:Int):=by rw[<-hP];norm_cast
 rw[e,IntKind.wrap_u64,Int.emod_eq_of_lt (by omega) (by omega)]
theorem room_any(k P:Nat)(hk:k<=62)(hP:2^k=P)(w:World) :
  Calls prog 244 #[.int .i64 k] w fun e w'=>e=.returned (.int .u64 (P:Int))/\w'=w:=by
 have hs:=pow_u64 k P hk hP;clear hP;go_enter func244,ntmps244
 go_wp2
 go_ret;exact⟨rfl,rfl⟩
theorem level_any(n:Nat)(hn:n<=1000000)(w:World) :
  Calls prog 220 #[.int .i64 n] w fun e w'=>e=.returned (.int .i64 (lvl n))/\w'=w:=by
 have hl:=lvl_le hn;obtain⟨m,hm⟩:∃m,lvl n=m:=⟨_,rfl⟩;have M:Hid _:=hm;rw[hm] at hl⊢;clear hm;have wn:IntKind.u64.wrap (n:Int)=(n:Int):=by rw[IntKind.wrap_u64,Int.emod_eq_of_lt (by omega) (by omega)]
 go_enter func220,ntmps220
 go_wp2
 go_loop [3] (fun s3=>∃k:Nat,s3=.int .i64 k/\k<=m) (fun s3=>m-(intOf s3).toNat)
 case atStart=>exact⟨0,rfl,by omega⟩
 case round=>
  obtain⟨k,rfl,hk⟩:=hrel;obtain⟨P,hP⟩:∃P,2^k=P:=⟨_,rfl⟩;have rm:=room_any k P (by omega) hP;by_cases hlt:k<m
  ·have h1:P<n:=by rw[<-hP];exact lvl_least (by rw[M.out];exact hlt)
   have h2:(P:Int)<(n:Int):=by omega
   clear hP
   go_wp2_with fail
   refine(rm _).mono ?_;rintro e w1 ⟨rfl,rfl⟩
   go_wp2
   go_round
   case rel=>exact⟨k+1,by go_num,by omega⟩
   case measure=>simp[intOf];omega
  ·have h1:¬P<n:=by rw[<-hP];exact lvl_not (by rw[M.out];exact hlt)
   have h2:¬(P:Int)<(n:Int):=by omega
   obtain rfl:k=m:=by omega
   clear hP
   go_wp2_with fail
   refine(rm _).mono ?_;rintro e w1 ⟨rfl,rfl⟩
   go_wp2
   go_ret;exact⟨rfl,rfl⟩
def wth(n:Int)(l:Nat):Nat:=min n.toNat l
theorem wth_le(n:Int)(l:Nat):wth n l<=l:=Nat.min_le_right _ _
theorem within_any(n:Int)(l:Nat)(hl:l<=9223372036854775807)(w:World) :
  Calls prog 189 #[.int .i64 n,.int .i64 l] w fun e w'=>e=.returned (.int .i64 (wth n l))/\w'=w:=by
 obtain⟨m,hm,h1,h2,h3⟩:∃m:Nat,wth n l=m/\(n<0->m=0)/\(0<=n->n<=l->(m:Int)=n)/\(l<n->m=l):=⟨_,rfl,by unfold wth;omega,by unfold wth;omega,by unfold wth;omega⟩;rw[hm];clear hm;by_cases c1:n<0
 ·obtain rfl:=h1 c1;clear h1 h2 h3;go_enter func189,ntmps189
  go_wp2
  go_ret;exact⟨rfl,rfl⟩
 ·by_cases c2:n<=l
  ·have h:=h2 (by omega) c2;subst h;clear h1 h2 h3;go_enter func189,ntmps189
   go_wp2
   go_ret;exact⟨rfl,rfl⟩
  ·obtain rfl:=h3 (by omega);clear h1 h2 h3;go_enter func189,ntmps189
   go_wp2
   go_ret;exact⟨rfl,rfl⟩
end Go.Proofs.YtjpbngiddjkjiaaGreatDoor.Qu
