import GoSem.Claim
/- Three laws on lists, by short names. -/
namespace Go.Proofs.YtjpbngiddjkjiaaGreatDoor
theorem sA{α:Type _}(l:List α)(i:Nat)(a:α):l.toArray.setIfInBounds i a=(l.set i a).toArray:=by simp
theorem sB{α:Type _}(a b:α)(l:List α):(a::l).set 0 b=b::l:=List.set_cons_zero
theorem sC{α:Type _}(a b:α)(l:List α)(n:Nat):(a::l).set (n+1) b=a::l.set n b:=List.set_cons_succ
end Go.Proofs.YtjpbngiddjkjiaaGreatDoor
