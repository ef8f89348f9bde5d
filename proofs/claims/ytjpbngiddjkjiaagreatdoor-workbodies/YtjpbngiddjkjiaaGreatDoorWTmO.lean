import Derived.Test.YtjpbngiddjkjiaaGreatDoorWWhA
import Derived.Deep.RegionHeld3
import Derived.Deep.CutBlock
import Derived.Deep.DeepCutAuto
open Go.Proofs.Tryz
namespace Go.Proofs.YtjpbngiddjkjiaaGreatDoor.Wl
set_option maxHeartbeats 8000000
set_option maxRecDepth 100000
set_option linter.unusedVariables false
open Go.RowKit Go.Lib Go.Sort
def sgI(x y:Int):Int:=if x<y then -1 else if y<x then 1 else 0
theorem nanU_any(x:Int)(w:World):Calls prog 264 #[.int .u64 x] w fun e w'=>e=.returned (.bool false)/\w'=w:=by
 go_enter func264,ntmps264
 go_wp2
 go_ret;exact⟨rfl,rfl⟩
theorem nanI_any(x:Int)(w:World):Calls prog 208 #[.int .i64 x] w fun e w'=>e=.returned (.bool false)/\w'=w:=by
 go_enter func208,ntmps208
 go_wp2
 go_ret;exact⟨rfl,rfl⟩
theorem cmpU_any(x y:Int)(w:World):Calls prog 254 #[.int .u64 x,.int .u64 y] w fun e w'=>e=.returned (.int .i64 (sgI x y))/\w'=w:=by
 by_cases c:x<y
 ·rw[show sgI x y = -1 from if_pos c];go_enter func254,ntmps254
  go_wp2_with (go_at_call 264;refine(nanU_any _ _).mono ?_;rintro e w' ⟨rfl,rfl⟩)
  go_ret;exact⟨rfl,rfl⟩
 ·by_cases c2:y<x
  ·rw[show sgI x y=1 by unfold sgI;rw[if_neg c,if_pos c2]];go_enter func254,ntmps254
   go_wp2_with (go_at_call 264;refine(nanU_any _ _).mono ?_;rintro e w' ⟨rfl,rfl⟩)
   go_ret;exact⟨rfl,rfl⟩
  ·rw[show sgI x y=0 by unfold sgI;rw[if_neg c,if_neg c2]];go_enter func254,ntmps254
   go_wp2_with (go_at_call 264;refine(nanU_any _ _).mono ?_;rintro e w' ⟨rfl,rfl⟩)
   go_ret;exact⟨rfl,rfl⟩
theorem cmpI_any(x y:Int)(w:World):Calls prog 255 #[.int .i64 x,.int .i64 y] w fun e w'=>e=.returned (.int .i64 (sgI x y))/\w'=w:=by
 by_cases c:x<y
 ·rw[show sgI x y = -1 from if_pos c];go_enter func255,ntmps255
  go_wp2_with (go_at_call 208;refine(nanI_any _ _).mono ?_;rintro e w' ⟨rfl,rfl⟩)
  go_ret;exact⟨rfl,rfl⟩
 ·by_cases c2:y<x
  ·rw[show sgI x y=1 by unfold sgI;rw[if_neg c,if_pos c2]];go_enter func255,ntmps255
   go_wp2_with (go_at_call 208;refine(nanI_any _ _).mono ?_;rintro e w' ⟨rfl,rfl⟩)
   go_ret;exact⟨rfl,rfl⟩
  ·rw[show sgI x y=0 by unfold sgI;rw[if_neg c,if_neg c2]];go_enter func255,ntmps255
   go_wp2_with (go_at_call 208;refine(nanI_any _ _).mono ?_;rintro e w' ⟨rfl,rfl⟩)
   go_ret;exact⟨rfl,rfl⟩
def orI(x y:Int):Int:=if x=0 then y else x
theorem or_any(x y:Int)(g:Nat)(w:World)(h0:w.cell? ⟨g,0,none⟩=some (.int .i64 x))(h1:w.cell? ⟨g,1,none⟩=some (.int .i64 y)) :
  Calls prog 253 #[.slice (some ⟨g,0,none⟩) 2 2] w fun e w'=>e=.returned (.int .i64 (orI x y))/\w'=w:=by
 obtain⟨r,hr⟩:∃r,orI x y=r:=⟨_,rfl⟩;rw[hr];unfold orI at hr;by_cases c:x=0
 ·rw[if_pos c] at hr;subst hr;have hx:(x != 0)=false:=by simp[c]
  clear c;by_cases c2:y=0
  ·have hy:(y != 0)=false:=by simp[c2]
   have HY:Hid (y=0):=c2;clear c2;go_enter func253,ntmps253
   go_wp2
   refine wp_loop_rounds 3 ?_;rw[rounds_succ]
   go_wp2
   rw[rounds_succ]
   go_wp2
   rw[rounds_succ]
   go_wp2
   go_ret;rw[HY.out];exact⟨rfl,rfl⟩
  ·have hy:(y != 0)=true:=by simp[c2]
   clear c2;go_enter func253,ntmps253
   go_wp2
   refine wp_loop_rounds 3 ?_;rw[rounds_succ]
   go_wp2
   rw[rounds_succ]
   go_wp2
   go_ret;exact⟨rfl,rfl⟩
 ·rw[if_neg c] at hr;subst hr;have hx:(x != 0)=true:=by simp[c]
  clear c;go_enter func253,ntmps253
  go_wp2
  refine wp_loop_rounds 3 ?_;rw[rounds_succ]
  go_wp2
  go_ret;exact⟨rfl,rfl⟩
theorem cfE_sg(x y:Ent):orI (sgI x.1 y.1) (sgI x.2 y.2)=cfE x y:=by
 unfold orI cfE sgI ltE
 repeat' split
 all_goals first|rfl|omega|(simp at *;omega)
theorem order_any(x y:Ent)(w:World) :
  Calls prog 236 #[.agg #[.int .u64 x.1,.int .i64 x.2],.agg #[.int .u64 y.1,.int .i64 y.2]] w fun e w'=>e=.returned (.int .i64 (cfE x y))/\Grown w w':=by
 have hc:=cfE_sg x y;obtain⟨p,hp⟩:∃p,sgI x.1 y.1=p:=⟨_,rfl⟩;obtain⟨q,hq⟩:∃p,sgI x.2 y.2=p:=⟨_,rfl⟩;have c1:=fun w=>cmpU_any x.1 y.1 w;have c2:=fun w=>cmpI_any x.2 y.2 w;rw[hp] at c1 hc;rw[hq] at c2 hc;rw[<-hc];clear hc;obtain⟨S,hS⟩:∃S,w.heap.size=S:=⟨_,rfl⟩;obtain⟨v,hv⟩:∃v,(w.alloc (.cells #[.int .u64 x.1,.int .i64 x.2] 282)).alloc (.cells #[.int .u64 y.1,.int .i64 y.2] 282)=v:=⟨_,rfl⟩;have G:Aside (Grown w v):=by show Grown w v;rw[<-hv];exact((Grown.refl w).alloc _).alloc _
 have z1:v.cell? ⟨S,0,none⟩=some (.int .u64 x.1)/\v.cell? ⟨S,1,none⟩=some (.int .i64 x.2)/\v.cell? ⟨S+1,0,none⟩=some (.int .u64 y.1)/\v.cell? ⟨S+1,1,none⟩=some (.int .i64 y.2):=by
  rw[<-hv,<-hS];refine⟨?_,?_,?_,?_⟩<;>simp[go_sem]
 have hvs:S+2<=v.heap.size:=by rw[<-hv,<-hS];simp
 have HV:Hid _:=hv
 have KC:Aside (∀W:World,Grown v W->W.cell? ⟨S,0,none⟩=some (.int .u64 x.1)/\W.cell? ⟨S,1,none⟩=some (.int .i64 x.2)/\W.cell? ⟨S+1,0,none⟩=some (.int .u64 y.1)/\W.cell? ⟨S+1,1,none⟩=some (.int .i64 y.2)):=fun W hW=>
  ⟨(hW.cells _ _ (by omega)).trans z1.1,(hW.cells _ _ (by omega)).trans z1.2.1,(hW.cells _ _ (by omega)).trans z1.2.2.1,(hW.cells _ _ (by omega)).trans z1.2.2.2⟩
 have g0:Grown v v.drew:=(Grown.refl v).drew;have g1:Grown v v.drew.drew:=g0.drew;clear hv;go_enter func236,ntmps236
 go_upto_region 1 with fail
 rw[HV.out]
 go_region_held3 (fun W=>W.cell? ⟨S,0,none⟩=some (.int .u64 x.1)/\W.cell? ⟨S,1,none⟩=some (.int .i64 x.2)/\W.cell? ⟨S+1,0,none⟩=some (.int .u64 y.1)/\W.cell? ⟨S+1,1,none⟩=some (.int .i64 y.2)) (first|with_reducible exact KC.out _ g0|with_reducible exact KC.out _ ((g0.alloc _).drew)|with_reducible exact KC.out _ (g0.alloc _)|go_keep) (first|(go_at_call 254;refine(c1 _).mono ?_;rintro e v ⟨rfl,rfl⟩)|(go_at_call 255;refine(c2 _).mono ?_;rintro e v ⟨rfl,rfl⟩)|(go_at_call 253;refine(or_any p q _ _ (by simp[go_sem]) (by simp[go_sem])).mono ?_;rintro e v ⟨rfl,rfl⟩))
 go_wp2
 go_ret;exact⟨rfl,(G.out.alloc _).drew⟩
end Go.Proofs.YtjpbngiddjkjiaaGreatDoor.Wl
