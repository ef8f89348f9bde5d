import Derived.Test.YtjpbngiddjkjiaaGreatDoorBTbA
import Derived.Laws.Externs
import Derived.Laws.CopyOwn
open Go.Proofs.Tryz
namespace Go.Proofs.YtjpbngiddjkjiaaGreatDoor.Ta.Tk
set_option maxRecDepth 100000
set_option linter.unusedVariables false
open Go.RowKit
theorem ret_bool{a b:Bool}(h:a=b):Ending.returned (.bool a)=.returned (.bool b):=by rw[h]
theorem add64(x y:Int)(hx:IsT x)(hy:IsT y)(w:World):(callFunc 216 #[.int .u64 x,.int .u64 y,.int .u64 0]).run prog w =
  .ok (.value (.tuple #[.int .u64 ((x+y)%18446744073709551616),.int .u64 ((x+y)/18446744073709551616)])) w:=by
 obtain⟨hx,_⟩:=hx;obtain⟨hy,_⟩:=hy;rw[run_callFunc_extern func216 (by kernel_rfl) (by kernel_rfl) (by kernel_rfl) (e:=add64Entry) (by kernel_rfl),run_add64 x y 0 hx hy (by omega) (by omega)];simp only[Result.andThen,Int.add_zero]
theorem add_any(a b:Int)(w:World)(ha:IsT a)(hb:IsT b) :
  Calls prog 178 #[.int .u64 a,.int .u64 b] w fun e w'=>e=.returned (.int .u64 (addT a b))/\w'=w:=by
 have hc:=add64 a b ha hb;obtain⟨a0,a1⟩:=ha;obtain⟨b0,b1⟩:=hb;by_cases h:a+b<18446744073709551616
 ·have e1:(a+b)/18446744073709551616=0:=by omega
  have e2:(a+b)%18446744073709551616=a+b:=by omega
  have e3:addT a b=a+b:=by unfold addT;rw[if_pos h]
  rw[e1,e2] at hc;rw[e3];clear a0 a1 b0 b1 h;go_enter func178,ntmps178
  go_wp2_with (simp only[hc])
  go_ret;exact⟨rfl,rfl⟩
 ·have e1:(a+b)/18446744073709551616=1:=by omega
  have e3:addT a b=18446744073709551615:=by unfold addT;rw[if_neg h]
  rw[e1] at hc;rw[e3];clear a0 a1 b0 b1 h;go_enter func178,ntmps178
  go_wp2_with (simp only[hc])
  go_ret;exact⟨rfl,rfl⟩
def JBox(w:World)(B:Nat)(f p d r m:Int):Prop:=w.heap[B]?=some (.cells #[.int .u64 f,.int .u64 p,.int .u64 d,.int .u64 r,.int .u64 m] 61 (0,0))
section
variable {w w':World}{B:Nat}{f p d r m:Int}
theorem JBox.below(h:JBox w B f p d r m)(hw:Below w.heap.size w w'):JBox w' B f p d r m:=(hw.block B (lt_of_block h)).trans h
theorem JBox.cell(h:JBox w B f p d r m):w.cell? ⟨B,0,none⟩=some (.int .u64 f)/\w.cell? ⟨B,1,none⟩=some (.int .u64 p)/\w.cell? ⟨B,2,none⟩=some (.int .u64 d)/\w.cell? ⟨B,3,none⟩=some (.int .u64 r)/\w.cell? ⟨B,4,none⟩=some (.int .u64 m):=by
 unfold JBox at h;exact⟨by rw[cell_of_row _ _ _ _ _ _ h];rfl,by rw[cell_of_row _ _ _ _ _ _ h];rfl,by rw[cell_of_row _ _ _ _ _ _ h];rfl,by rw[cell_of_row _ _ _ _ _ _ h];rfl,by rw[cell_of_row _ _ _ _ _ _ h];rfl⟩
theorem JBox.fz(h:JBox w B f p d r m):(∀o,w.frozen? ⟨B,o,none⟩=false)/\B<w.heap.size:=by
 unfold JBox at h;exact⟨fun o=>by simp[World.frozen?,h],lt_of_block h⟩
theorem JBox.new(w:World)(f p d r m:Int):JBox (w.alloc (.cells #[.int .u64 f,.int .u64 p,.int .u64 d,.int .u64 r,.int .u64 m] 61)) w.heap.size f p d r m:=heap_alloc_new w _
theorem JBox.set3(h:JBox w B f p d r m)(x:Int):JBox (w.setCell ⟨B,3,none⟩ (.int .u64 x)) B f p d x m:=by
 unfold JBox at *;have e1:=setRow_heap w B _ (#[.int .u64 f,.int .u64 p,.int .u64 d,.int .u64 r,.int .u64 m].setIfInBounds 3 (.int .u64 x)) 61 (0,0) h;rw[<-setCell_eq_setRow w B 3 _ _ (0,0) _ h] at e1;exact e1
end
def okJ(f p d:Int):Bool:=decide (p>0)&&(decide (d>=f)&&decide ((d-f)%p=0))
section
variable {f p d:Int}
theorem ok_any(f p d r m:Int)(w:World)(hf:IsT f)(hp:IsT p)(hd:IsT d) :
  Calls prog 70 #[.agg #[.int .u64 f,.int .u64 p,.int .u64 d,.int .u64 r,.int .u64 m]] w fun e w'=>e=.returned (.bool (okJ f p d))/\w'=w.alloc (.cells #[.int .u64 f,.int .u64 p,.int .u64 d,.int .u64 r,.int .u64 m] 61):=by
 obtain⟨f0,f1⟩:=hf;obtain⟨p0,p1⟩:=hp;obtain⟨d0,d1⟩:=hd;by_cases hp:p>0
 ·by_cases hd:d>=f
  ·have e:okJ f p d=decide ((d-f)%p=0):=by simp[okJ,hp,hd]
   rw[e];go_enter func70,ntmps70
   go_wp2
   go_ret;exact⟨ret_bool (by rw[Bool.eq_iff_iff];simp),rfl⟩
  ·have e:okJ f p d=false:=by simp[okJ,hd]
   rw[e];go_enter func70,ntmps70
   go_wp2
   go_ret;exact⟨rfl,rfl⟩
 ·have e:okJ f p d=false:=by simp[okJ,hp]
  rw[e];obtain rfl:p=0:=by omega
  go_enter func70,ntmps70
  go_wp2
  go_ret;exact⟨rfl,rfl⟩
end
end Go.Proofs.YtjpbngiddjkjiaaGreatDoor.Ta.Tk
