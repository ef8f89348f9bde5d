import Derived.Test.YthpgfmmpjoodkaaGreatDoorBTbA
import Derived.Laws.Externs
import Derived.Laws.CopyOwn
namespace Go.Proofs.YthpgfmmpjoodkaaGreatDoor.Ta.Tk
set_option maxRecDepth 100000
set_option linter.unusedVariables false
open Go.RowKit
theorem ret_bool{a b:Bool}(h:a=b):Ending.returned (.bool a)=.returned (.bool b):=by rw[h]
def JBox(w:World)(B:Nat)(f p d r m:Int):Prop:=w.heap[B]?=some (.cells #[.int .u64 f,.int .u64 p,.int .u64 d,.int .u64 r,.int .u64 m] 106 (0,0))
section
variable {w w':World}{B:Nat}{f p d r m:Int}
theorem JBox.below(h:JBox w B f p d r m)(hw:Below w.heap.size w w'):JBox w' B f p d r m:=(hw.block B (lt_of_block h)).trans h
theorem JBox.cell(h:JBox w B f p d r m):w.cell? ⟨B,0,none⟩=some (.int .u64 f)/\w.cell? ⟨B,1,none⟩=some (.int .u64 p)/\w.cell? ⟨B,2,none⟩=some (.int .u64 d)/\w.cell? ⟨B,3,none⟩=some (.int .u64 r)/\w.cell? ⟨B,4,none⟩=some (.int .u64 m):=by
 unfold JBox at h;exact⟨by rw[cell_of_row _ _ _ _ _ _ h];rfl,by rw[cell_of_row _ _ _ _ _ _ h];rfl,by rw[cell_of_row _ _ _ _ _ _ h];rfl,by rw[cell_of_row _ _ _ _ _ _ h];rfl,by rw[cell_of_row _ _ _ _ _ _ h];rfl⟩
theorem JBox.fz(h:JBox w B f p d r m):(∀o,w.frozen? ⟨B,o,none⟩=false)/\B<w.heap.size:=by
 unfold JBox at h;exact⟨fun o=>by simp[World.frozen?,h],lt_of_block h⟩
theorem JBox.new(w:World)(f p d r m:Int):JBox (w.alloc (.cells #[.int .u64 f,.int .u64 p,.int .u64 d,.int .u64 r,.int .u64 m] 106)) w.heap.size f p d r m:=heap_alloc_new w _
theorem JBox.set3(h:JBox w B f p d r m)(x:Int):JBox (w.setCell ⟨B,3,none⟩ (.int .u64 x)) B f p d x m:=by
 unfold JBox at *;have e1:=setRow_heap w B _ (#[.int .u64 f,.int .u64 p,.int .u64 d,.int .u64 r,.int .u64 m].setIfInBounds 3 (.int .u64 x)) 106 (0,0) h;rw[<-setCell_eq_setRow w B 3 _ _ (0,0) _ h] at e1;exact e1
end
def okJ(f p d:Int):Bool:=decide (p>0)&&(decide (d>=f)&&decide ((d-f)%p=0))
section
variable {f p d:Int}
theorem ok_any(f p d r m:Int)(w:World)(hf:IsT f)(hp:IsT p)(hd:IsT d) :
  Calls Tryz.prog 140 #[.agg #[.int .u64 f,.int .u64 p,.int .u64 d,.int .u64 r,.int .u64 m]] w fun e w'=>e=.returned (.bool (okJ f p d))/\w'=w.alloc (.cells #[.int .u64 f,.int .u64 p,.int .u64 d,.int .u64 r,.int .u64 m] 106):=by
 obtain⟨f0,f1⟩:=hf;obtain⟨p0,p1⟩:=hp;obtain⟨d0,d1⟩:=hd;by_cases hp:p>0
 ·by_cases hd:d>=f
  ·have e:okJ f p d=decide ((d-f)%p=0):=by simp[okJ,hp,hd]
   rw[e];go_enter Tryz.func140,Tryz.ntmps140
   go_wp2
   go_ret;exact⟨ret_bool (by rw[Bool.eq_iff_iff];simp),rfl⟩
  ·have e:okJ f p d=false:=by simp[okJ,hd]
   rw[e];go_enter Tryz.func140,Tryz.ntmps140
   go_wp2
   go_ret;exact⟨rfl,rfl⟩
 ·have e:okJ f p d=false:=by simp[okJ,hp]
  rw[e];obtain rfl:p=0:=by omega
  go_enter Tryz.func140,Tryz.ntmps140
  go_wp2
  go_ret;exact⟨rfl,rfl⟩
end
end Go.Proofs.YthpgfmmpjoodkaaGreatDoor.Ta.Tk
