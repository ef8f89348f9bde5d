import Derived.Test.YthpgfmmpjoodkaaGreatDoorCoL
namespace Go.Proofs.YthpgfmmpjoodkaaGreatDoor.Ta
open Go.RowKit Go.Lib Go.WideMaps Go.Maps
set_option maxRecDepth 100000
set_option linter.unusedVariables false
variable {α:Type}{R:RowT α}{w w':World}{a:Option Addr}{cap base:Nat}{d c:List α}{v:Value}
theorem appG(h:OwnG R w base v d)(hc:IsG R w a cap c)(hb:d.length+c.length≤1000000)(hbase:base≤w.heap.size)(ty:TypeId) :
  ∃v' w',(Builtin.append_ #[R.st,R.st] ty #[v,.slice a c.length cap]).run Tryz.prog w=.ok v' w'∧OwnG R w' base v' (d++c)∧w.grownBy w' v.ownBlock∧∀k,v'.ownBlock=some k→v.ownBlock=some k∨w.heap.size≤k:=by
 obtain⟨i,hi,hz,hs,hby⟩:=R.info
 by_cases e:a=none
 ·subst e
  obtain rfl:c=[]:=by
   cases c with
   | nil=>rfl
   | cons x c=>obtain⟨b,off,h1,_⟩:=hc.at (i:=0) (x:=x) rfl;cases h1
  refine⟨v,w,?_,by rw[List.append_nil];exact h,⟨rfl,rfl,rfl,Nat.le_refl _,fun _ _ _=>rfl⟩,fun k hk=>.inl hk⟩
  rcases h.2 with⟨rfl,h0⟩|⟨g,cap',cur,rfl,_,_,hnc,_⟩
  ·simp[Builtin.append_,run_underlying R.und,sizeOf,typeInfo,hi,Builtin.lenOf,Builtin.firstCells]
  ·simp[Builtin.append_,run_underlying R.und,sizeOf,typeInfo,hi,Builtin.lenOf,Builtin.firstCells,hnc,storeCells]
 ·obtain⟨ad,rfl⟩:=Option.ne_none_iff_exists'.1 e
  have sz:(d.length+c.length)*R.nb≤1000000*1000:=Nat.mul_le_mul (by omega) R.small
  obtain⟨v',w',h1,h2,h3,h4,h5⟩:=run_append_own_at (P:=Tryz.prog) w base R.st ty R.et i _ R.k R.nb R.und hi hz hs hby R.zs R.kpos v d.length (R.flat d) h ad c.length cap (R.flat c) (by rw[flat_len])
   (fun j u hj=>by
    obtain⟨b,off,e,_,h1⟩:=hc.elem j u hj
    cases e
    rw[←h1,Addr.add_lit]) (flat_one c) (by unfold maxLen;omega) (by omega) hbase
  refine⟨v',w',h1,?_,h3,?_⟩
  ·unfold OwnG
   rw[List.length_append,flat_append]
   exact h2
  ·intro k hk
   rcases h5 with h5|h5
   ·exact .inl (by rw[←h5];exact hk)
   ·rw[h5] at hk
    injection hk with hk
    exact .inr (by omega)
theorem OwnG.zero(R:RowT α)(w:World)(hb:base≤w.heap.size):OwnG R (w.alloc (.cells #[] R.et)) base (.slice (some ⟨w.heap.size,0,none⟩) 0 0) []:=
 World.ownsRow_lit w #[] 0 hb (by unfold maxLen;omega) (by simp)
end Go.Proofs.YthpgfmmpjoodkaaGreatDoor.Ta
namespace Go.Proofs.YthpgfmmpjoodkaaGreatDoor
open Go.RowKit Go.Lib Go.WideMaps Go.Maps
set_option maxRecDepth 100000
set_option linter.unusedVariables false
variable {w w' u:World}{L i:Nat}{D:CAd}{F F':Nat→Nat→Prop}{g v:Value}{σ:CS}{x:Ta.TR}
theorem cloneE(v:Value)(base:Nat)(d:List EvR)(w:World)(h:Ta.OwnG rE w base v d)(hd:d.length≤100000) :
  Calls Tryz.prog 115 #[v] w fun r w'=>∃a cap,r=.returned (.slice a d.length cap)∧Ta.OwnG rE w' w.heap.size (.slice a d.length cap) d∧Below w.heap.size w w':=by
 have q22:∀(w:World)(a:Option Addr)(n c n' c':Nat),(binOp .eql 96 (.slice a n c) (.slice none n' c')).run Tryz.prog w=.ok (.bool a.isNone) w:=fun w a n c n' c'=>Lib.run_eql_slice_nil w _ _ a n c n' c' Tryz.underlying96
 obtain⟨a,cap,rfl,hL⟩:=h.isG
 cases a with
 | none=>
  obtain rfl:d=[]:=by
   cases d with
   | nil=>rfl
   | cons x d=>obtain⟨b,off,h1,_⟩:=hL.at (i:=0) (x:=x) rfl;cases h1
  go_enter Tryz.func115,Tryz.ntmps115
  go_wp2
  go_ret
  exact⟨none,0,rfl,Ta.OwnG.nil _ _ _,Below.refl _ _⟩
 | some ad=>
  obtain⟨v',w',hr,o,k1,k2⟩:=Ta.appG (R:=rE) (d:=[]) (c:=d) (Ta.OwnG.zero rE w (Nat.le_refl _)) (hL.below (belA _ _)) (by simp;omega) (by simp) 96
  obtain⟨a2,c2,e2,_⟩:=o.isG
  have FIN:Aside (∃a cap,Ending.returned v'=.returned (.slice a d.length cap)∧Ta.OwnG rE w' w.heap.size (.slice a d.length cap) d∧Below w.heap.size w w'):=by
   rw[List.nil_append] at o e2
   subst e2
   refine⟨a2,c2,rfl,o,(belA w _).trans ⟨k1.os,k1.tape,k1.output,k1.size,fun k hk=>k1.block k (by simp;omega) (fun e=>?_)⟩⟩
   simp[Value.ownBlock] at e
   omega
  clear o k1 k2 h hL e2
  go_enter Tryz.func115,Tryz.ntmps115
  go_wp2_with (at_builtin;refine Lib.wpList_append_run _ rfl _ _ 96 96 rfl _ _ rfl rfl v' w' hr ?_)
  go_ret
  exact FIN.out
theorem eventsC(C:Co w L D F g v σ)(hl:σ.ev.length≤100000) :
  Calls Tryz.prog 64 #[pt D.B] w fun e w'=>∃a cap,e=.returned (.slice a σ.ev.length cap)∧Ta.OwnG rE w' w.heap.size (.slice a σ.ev.length cap) σ.ev∧Below w.heap.size w w':=by
 have c11:=C.c11
 have P:=cloneE v L σ.ev w C.evs hl
 obtain⟨a0,cap0,rfl,_⟩:=C.evs.isG
 clear C hl
 go_enter Tryz.func64,Tryz.ntmps64
 go_wp2_with fail
 refine P.mono ?_
 rintro e w1 ⟨a,cap,rfl,o,b⟩
 have FIN:Aside _:=And.intro o b
 clear P o b c11
 go_wp2_with fail
 go_ret
 exact⟨a,cap,rfl,FIN.out⟩
end Go.Proofs.YthpgfmmpjoodkaaGreatDoor
