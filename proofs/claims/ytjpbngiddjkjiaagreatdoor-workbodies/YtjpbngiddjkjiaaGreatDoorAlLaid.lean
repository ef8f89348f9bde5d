import Derived.Test.YtjpbngiddjkjiaaGreatDoorRows
import Derived.Test.YtjpbngiddjkjiaaGreatDoorLitV
import Derived.Test.YtjpbngiddjkjiaaGreatDoorBTbA
import Derived.LaidMore
import Derived.OpenShut
import Derived.Stop.Joined
open Go.Proofs.Tryz
namespace Go.Proofs.YtjpbngiddjkjiaaGreatDoor
set_option maxRecDepth 10000
set_option linter.unusedVariables false
open Go.ChangeShapes Go.WideShapes Go.ChangeAt Go.WideMaps Go.WideElems Go.RowKit
theorem laidOut:laidOutB prog=true:=laidOutC
theorem own:ownKnob prog.godebug=none:=by kernel_rfl
def laidAll:List (String×DataW Unit):=[("verger/body.shapes",Rows.laid_verger_body_shapes)]
theorem door_met(os:Os)(args:Array Value):laidMetH prog laidAll ((World.doorLaid prog 400 os).forCall (fun _ _=>0) ⟨#[],args,[]⟩).memory:=
 laidMetH_of_parts3 (fuel:=8) (laidMet_of_run' 8 (by kernel_rfl) (by kernel_rfl)) (by kernel_rfl) (by kernel_rfl)
def sV(l:List UInt8):Value:=.string ⟨l.toArray⟩
theorem sV_of(s:ByteArray):Value.string s=sV s.data.toList:=by
 unfold sV;simp
theorem len2{α:Type}{cs:List α}(h:cs.length=2):∃a b,cs=[a,b]:=by
 match cs,h with
 | [a,b],_=>exact⟨a,b,rfl⟩
theorem len4{α:Type}{cs:List α}(h:cs.length=4):∃a b c d,cs=[a,b,c,d]:=by
 match cs,h with
 | [a,b,c,d],_=>exact⟨a,b,c,d,rfl⟩
theorem len6{α:Type}{cs:List α}(h:cs.length=6):∃a b c d e f,cs=[a,b,c,d,e,f]:=by
 match cs,h with
 | [a,b,c,d,e,f],_=>exact⟨a,b,c,d,e,f,rfl⟩
section
variable {H:Type}{enc:TypeId×Value->H}{w:World}{base:Nat}{sp:Nat->Bool}{held:Bool}{fuel:Nat}{cs:List Value}{q:List MemPlace}
theorem two_of{a b:Int}(h:DataW.trod enc prog w base sp held fuel 78 cs=some (.agg [.lit (.int .i64 a),.lit (.int .i64 b)],q)):cs=[.int .i64 a,.int .i64 b]:=by
 obtain⟨xs,m,_,hx,hlen,hn,hel⟩:=DataW.trod_array underlying78 h;have c1:prog.cellsOf 3=1:=by kernel_rfl
 have c2:prog.cellsOf 78=2:=by kernel_rfl
 rw[c2] at hlen;have hm:xs.map (·.1)=[.lit (.int .i64 a),.lit (.int .i64 b)]:=(DataW.agg.inj (Prod.mk.inj hx).1).symm
 have one:∀(i:Nat)(z:Int),i<2->(xs.map (·.1))[i]?=some (.lit (.int .i64 z))->cs[i]?=some (.int .i64 z):=fun i z hi he=>by
  have hE:=hel i hi;rw[c1,Nat.mul_one,List.getElem?_eq_getElem (by omega)] at hE;obtain⟨z',e1,e2,_⟩:=DataW.trod_int underlying3 hE;rw[List.getElem?_map,List.getElem?_eq_getElem (by omega),Option.map_some,e2] at he;simp at he;subst he;have:=congrArg (fun l=>l[0]?) e1;simpa [List.getElem?_take,List.getElem?_drop] using this
 have h0:=one 0 a (by omega) (by rw[hm];rfl);have h1:=one 1 b (by omega) (by rw[hm];rfl);obtain⟨x,y,rfl⟩:=len2 hlen;simp at h0 h1;rw[h0,h1]
theorem shape_of{s:List UInt8}{t a b c d:Int}(h:DataW.trod enc prog w base sp held fuel 201 cs=some (.agg [.lit (.string s),.lit (.int .i64 t),.agg [.lit (.int .i64 a),.lit (.int .i64 b)],.agg [.lit (.int .i64 c),.lit (.int .i64 d)]],q)) :
  cs=[sV s,.int .i64 t,.int .i64 a,.int .i64 b,.int .i64 c,.int .i64 d]:=by
 obtain⟨xs,m,_,hx,hlen,hn,hel⟩:=DataW.trod_struct underlying201 h;have c1:prog.cellsOf 3=1:=by kernel_rfl
 have c2:prog.cellsOf 78=2:=by kernel_rfl
 have c3:prog.cellsOf 9=1:=by kernel_rfl
 have c4:prog.cellsOf 201=6:=by kernel_rfl
 rw[c4] at hlen;have hm:xs.map (·.1)=[.lit (.string s),.lit (.int .i64 t),.agg [.lit (.int .i64 a),.lit (.int .i64 b)],.agg [.lit (.int .i64 c),.lit (.int .i64 d)]]:=(DataW.agg.inj (Prod.mk.inj hx).1).symm;have hxs:xs.length=4:=hn;have e0:DataW.trod enc prog w base sp held m 9 ((cs.drop 0).take (prog.cellsOf 9))=xs[0]?:=hel 0 _ rfl;have e1:DataW.trod enc prog w base sp held m 3 ((cs.drop 1).take (prog.cellsOf 3))=xs[1]?:=hel 1 _ rfl;have e2:DataW.trod enc prog w base sp held m 78 ((cs.drop 2).take (prog.cellsOf 78))=xs[2]?:=hel 2 _ rfl;have e3:DataW.trod enc prog w base sp held m 78 ((cs.drop 4).take (prog.cellsOf 78))=xs[3]?:=hel 3 _ rfl;rw[c3] at e0;rw[c1] at e1;rw[c2] at e2 e3;obtain⟨⟨x0a,x0b⟩,⟨x1a,x1b⟩,⟨x2a,x2b⟩,⟨x3a,x3b⟩,rfl⟩:=len4 hxs;simp only[List.map_cons,List.map_nil,List.cons.injEq,and_true] at hm;obtain⟨m0,m1,m2,m3⟩:=hm;subst m0 m1 m2 m3;obtain⟨s',f0,g0,_⟩:=DataW.trod_string underlying9 e0;obtain⟨t',f1,g1,_⟩:=DataW.trod_int underlying3 e1;have f2:=two_of e2;have f3:=two_of e3;simp at g0 g1;obtain⟨rfl,_⟩:=g0;obtain⟨rfl,_⟩:=g1;obtain⟨y0,y1,y2,y3,y4,y5,rfl⟩:=len6 hlen;simp at f0 f1 f2 f3;rw[f0,f1,f2.1,f2.2,f3.1,f3.2,sV_of]
end
def shD{H:Type}(k:Nat):DataW H:=.agg [.lit (.string (Ta.shW.getD k [])),.lit (.int .i64 (Ta.shT.getD k 0:Nat)),.agg [.lit (.int .i64 (Ta.shL.getD k 0)),.lit (.int .i64 0)],.agg [.lit (.int .i64 (Ta.shA.getD k 0)),.lit (.int .i64 (Ta.shB.getD k 0))]]
theorem shapes_eq:(Rows.laid_verger_body_shapes:DataW Unit)=.agg ((List.range 6).map shD):=by kernel_rfl
theorem of_laid{W:World}(h:laidMetH prog laidAll W):Ta.ShW W:=by
 rw[MakeChecks.laidMetH_plain _ _ _ (by kernel_rfl)] at h;obtain⟨ps,⟨g4,t4,cs4,f4,p4,q4,hg4,ht4,hv4,hd4,_,_⟩,_,_⟩:=h;have G4:prog.globalNamed "verger/body.shapes"=some 0:=by kernel_rfl
 have T4:(prog.globals[0]?).map (·.type)=some 202:=by kernel_rfl
 obtain rfl:=Option.some.inj (G4.symm.trans hg4);obtain rfl:=Option.some.inj (T4.symm.trans ht4)
 have hS:∀k:Nat,k<6->∀j y,[sV (Ta.shW.getD k []),.int .i64 (Ta.shT.getD k 0:Nat),.int .i64 (Ta.shL.getD k 0),.int .i64 0,.int .i64 (Ta.shA.getD k 0),.int .i64 (Ta.shB.getD k 0)][j]?=some y->W.cell? ⟨0,k*6+j,none⟩=some y:=by
  intro k hk j y hy;obtain⟨xs,m1,_,hx1,hlen,hn,hel⟩:=DataW.trod_array underlying202 hd4;have c4:prog.cellsOf 201=6:=by kernel_rfl
  have hE:=hel k hk;rw[c4,List.getElem?_eq_getElem (by omega)] at hE;have hm:xs.map (·.1)=(List.range 6).map shD:=(DataW.agg.inj (shapes_eq.symm.trans (Prod.mk.inj hx1).1)).symm;have he:(xs.map (·.1))[k]?=some (shD k):=by rw[hm,List.getElem?_map,List.getElem?_range hk];rfl
  rw[List.getElem?_map,List.getElem?_eq_getElem (by omega),Option.map_some] at he;have hxk:xs[k]=(shD k,xs[k].2):=Prod.ext (Option.some.inj he) rfl;rw[hxk] at hE;have hc:=shape_of hE;rw[World.var?_cell hg4 hv4 (k*6+j)];have hj:j<6:=by have:=(List.getElem?_eq_some_iff.1 hy).1;simpa using this
  have:=congrArg (fun l=>l[j]?) hc;rw[List.getElem?_take_of_lt hj,List.getElem?_drop] at this;rw[<-Array.getElem?_toList,this,hy]
 exact⟨fun k hk=>⟨trivial,trivial,hS k hk 2 _ rfl,hS k hk 3 _ rfl,hS k hk 4 _ rfl,hS k hk 5 _ rfl⟩,World.block_lt_of_cell? W _ (hS 0 (by decide) 2 _ rfl)⟩
end Go.Proofs.YtjpbngiddjkjiaaGreatDoor
