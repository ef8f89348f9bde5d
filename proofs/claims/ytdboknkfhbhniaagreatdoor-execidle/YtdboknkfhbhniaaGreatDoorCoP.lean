import Derived.Test.YtdboknkfhbhniaaGreatDoorCoN
open Array(getElem?_setIfInBounds_ne)
open Nat(le_of_eq le_trans)
namespace Go.Proofs.YtdboknkfhbhniaaGreatDoor
set_option maxHeartbeats 8000000
set_option linter.unusedVariables false
set_option maxRecDepth 100000
section
open Go.RowKit Go.Lib
def Rdy(T:List Ta.TR)(e:Qu.Ent):Prop:=∃(k:Nat)(x:Ta.TR),T[k]?=some x∧x.s=2∧e=(x.key,(k:Int)+1)
def QI(σ:CS):Prop:=∃sl ow sh,Qu.View σ.th σ.q sl ow sh∧(Qu.ids (Qu.allV σ.th sl ow sh)).Nodup∧∀e,e∈Qu.allV σ.th sl ow sh↔Rdy σ.T e
variable {σ σ':CS}{t:Nat}{e0:Qu.Ent}{x y:Ta.TR}{i:Nat}
theorem QI.new(th k n:Nat):QI (newS th k n):=by
 refine⟨_,_,_,Qu.View.new th,?_,fun e=>?_⟩
 ·simp[Qu.allV,Qu.ids,Qu.flatN_nil]
 ·constructor
  ·intro h;simp[Qu.allV] at h
  ·rintro⟨k,x,h,_⟩;simp[newS] at h
theorem QI.put(h:QI σ)(ht:t<σ.th)(hq:σ'.q=Qu.putQ σ.k σ.q t e0)(hth:σ'.th=σ.th)(hR:∀e,Rdy σ'.T e↔e=e0∨Rdy σ.T e)(hf:∀e,Rdy σ.T e→e.2≠e0.2):QI σ':=by
 obtain⟨sl,ow,sh,V,nd,al⟩:=h
 obtain⟨sl',ow',sh',V',P⟩:=V.putAny (K:=σ.k) ht e0
 refine⟨sl',ow',sh',by rw[hq,hth];exact V',?_,fun e=>?_⟩
 ·rw[hth]
  refine((P.map Prod.snd).nodup_iff).2 (List.nodup_cons.2 ⟨fun hm=>?_,nd⟩)
  obtain⟨e,he,h2⟩:=List.mem_map.1 hm
  exact hf e ((al e).1 he) h2
 ·rw[hth,P.mem_iff,hR e,List.mem_cons,al e]
theorem mem_out{d:List Qu.Ent}{id:Int}{e:Qu.Ent}:e∈Qu.outL id d↔e∈d∧e.2≠id:=by
 unfold Qu.outL
 rw[List.mem_filter]
 simp
theorem QI.take(h:QI σ){id:Int}(hq:σ'.q=Qu.takeQ σ.q σ.th id)(hth:σ'.th=σ.th)(hR:∀e,Rdy σ'.T e↔Rdy σ.T e∧e.2≠id):QI σ':=by
 obtain⟨sl,ow,sh,V,nd,al⟩:=h
 obtain⟨_,sl',ow',sh',V',P⟩:=V.takeAny nd id
 refine⟨sl',ow',sh',by rw[hq,hth];exact V',?_,fun e=>?_⟩
 ·rw[hth,P]
  exact nd.sublist ((List.filter_sublist ..).map Prod.snd)
 ·rw[hth,P,hR e,mem_out,al e]
theorem QI.same(h:QI σ)(hq:σ'.q=σ.q)(hth:σ'.th=σ.th)(hR:∀e,Rdy σ'.T e↔Rdy σ.T e):QI σ':=by
 obtain⟨sl,ow,sh,V,nd,al⟩:=h
 exact⟨sl,ow,sh,by rw[hq,hth];exact V,by rw[hth];exact nd,fun e=>by rw[hth,hR e];exact al e⟩
theorem QI.look(h:QI σ){N:Nat}(ok:Qu.QOk σ.k σ.th N σ.q)(ht:t<σ.th)(dr:Nat)(hne:∃e,Rdy σ.T e)(tk:Int):∃x y z,Qu.relaxQ σ.q σ.th σ.k t dr=(x,true)∧Qu.unl (Qu.leastQ σ.q σ.th)=y∧(z=if y.1≤tk then y else x)∧Rdy σ.T z:=by
 obtain⟨sl,ow,sh,V,nd,al⟩:=h
 obtain⟨e,he⟩:=hne
 have hm:=(al e).2 he
 have hn:Qu.allV σ.th sl ow sh≠[]:=fun h=>by rw[h] at hm;simp at hm
 rcases V.relaxed ok ht dr with⟨h,_⟩|⟨_,h2,h3,_⟩
 ·exact absurd h hn
 ·rcases V.least with⟨_,h⟩|⟨j,y,h4,h5⟩
  ·exact absurd h hn
  ·refine⟨_,y,_,Prod.ext rfl h2,by rw[h4];rfl,rfl,?_⟩
   split
   ·exact(al y).1 h5.1
   ·exact(al _).1 h3
theorem rdy_push{T:List Ta.TR}(hx:x.s=2)(e:Qu.Ent):Rdy (T++[x]) e↔e=(x.key,(T.length:Int)+1)∨Rdy T e:=by
 constructor
 ·rintro⟨k,y,h,hs,rfl⟩
  by_cases c:k<T.length
  ·rw[List.getElem?_append_left c] at h
   exact .inr ⟨k,y,h,hs,rfl⟩
  ·have:=(List.getElem?_eq_some_iff.1 h).1
   simp at this
   obtain rfl:k=T.length:=by omega
   rw[List.getElem?_append_right (Nat.le_refl _)] at h
   simp at h
   subst h
   exact .inl rfl
 ·rintro(rfl|⟨k,y,h,hs,rfl⟩)
  ·exact⟨T.length,x,by simp,hx,rfl⟩
  ·have:=(List.getElem?_eq_some_iff.1 h).1
   exact⟨k,y,by rw[List.getElem?_append_left this];exact h,hs,rfl⟩
theorem rdy_id{T:List Ta.TR}{e:Qu.Ent}(h:Rdy T e):1≤e.2∧e.2≤T.length:=by
 obtain⟨k,y,h,hs,rfl⟩:=h
 have:=(List.getElem?_eq_some_iff.1 h).1
 show 1≤(k:Int)+1∧(k:Int)+1≤T.length
 omega
theorem rdy_out{T:List Ta.TR}(hi:T[i]?=some x)(hy:y.s≠2)(e:Qu.Ent):Rdy (T.set i y) e↔Rdy T e∧e.2≠(i:Int)+1:=by
 have hl:=(List.getElem?_eq_some_iff.1 hi).1
 constructor
 ·rintro⟨k,z,h,hs,rfl⟩
  by_cases c:i=k
  ·subst c
   rw[List.getElem?_set_self hl] at h
   injection h with h
   subst h
   exact absurd hs hy
  ·rw[List.getElem?_set_ne c] at h
   exact⟨⟨k,z,h,hs,rfl⟩,by show(k:Int)+1≠(i:Int)+1;omega⟩
 ·rintro⟨⟨k,z,h,hs,rfl⟩,hne⟩
  have c:i≠k:=fun e=>hne (by rw[e])
  exact⟨k,z,by rw[List.getElem?_set_ne c];exact h,hs,rfl⟩
theorem rdy_set{T:List Ta.TR}(hi:T[i]?=some x)(hx:x.s≠2)(hy:y.s≠2)(e:Qu.Ent):Rdy (T.set i y) e↔Rdy T e:=by
 rw[rdy_out hi hy]
 constructor
 ·exact fun h=>h.1
 ·rintro⟨k,z,h,hs,rfl⟩
  refine⟨⟨k,z,h,hs,rfl⟩,fun e=>?_⟩
  have e:(k:Int)+1=(i:Int)+1:=e
  obtain rfl:k=i:=by omega
  rw[hi] at h
  injection h with h
  exact hx (by rw[h];exact hs)
theorem sub_T(σ:CS)(t:Nat)(prio:Int):(subS σ t prio).T=σ.T++[{Ta.mkT prio 0 0 0 0 0 2 with key:=keyS σ (Ta.mkT prio 0 0 0 0 0 2)}]:=by
 show(σ.T++[_]).set σ.T.length _=_
 rw[List.set_append_right _ _ (Nat.le_refl _)]
 simp
 rfl
theorem QI.sub(h:QI σ)(ht:t<σ.th)(prio:Int):QI (subS σ t prio):=by
 refine h.put (t:=t) (e0:=(keyS σ (Ta.mkT prio 0 0 0 0 0 2),(σ.T.length:Int)+1)) ht rfl rfl (fun e=>?_) (fun e he=>?_)
 ·rw[sub_T,rdy_push rfl]
 ·have:=rdy_id he
  show e.2≠(σ.T.length:Int)+1
  omega
theorem QI.hand(h:QI σ)(hi:σ.T[i]?=some x)(t:Nat):QI (handS (turnS σ i x 3) t i (turnX x 3)):=
 h.take (id:=(i:Int)+1) rfl rfl (fun e=>rdy_out hi (by rw[(turnX_key x 3).2.2.1];decide) e)
theorem done_nil{d:List Int}{id:Int}(h:DoneL (fun _ _=>False) id d):d=[]:=by
 cases d with
 | nil=>rfl
 | cons j d=>exact((h.2 j).1 (by simp)).1.elim
end
section
open Go.RowKit Go.Lib Go.WideMaps Go.Maps
theorem wf_of{a:Int}(h1 : -9223372036854775808≤a)(h2:a≤9223372036854775807):Da.wfI a:=Da.wfI_of h1 h2
end
section
open Go.RowKit Go.Lib Go.WideMaps Go.Maps
variable {w w' u:World}{L i:Nat}{D:CAd}{F F':Nat→Nat→Prop}{g v:Value}{σ:CS}{x:Ta.TR}
def rowK(i:Nat)(x:Ta.TR):List Value:=[.int .i64 ((i:Int)+1),.int .i64 x.prio,.int .i64 x.s,.int .u64 x.due,.int .u64 x.key,.int .u64 x.r,.int .u64 x.m]
def Fil(cs:Array Value)(T:List Ta.TR)(k:Nat):Prop:=∀i,i<k→∀x,T[i]?=some x→∀j,j<7→cs[i*7+j]?=(rowK i x)[j]?
def set7(cs:Array Value)(O:Nat)(a0 a1 a2 a3 a4 a5 a6:Value):Array Value:=(((((((cs.setIfInBounds O a0).setIfInBounds (O+1) a1).setIfInBounds (O+2) a2).setIfInBounds (O+3) a3).setIfInBounds (O+4) a4).setIfInBounds (O+5) a5).setIfInBounds (O+6) a6)
theorem set7_size(cs:Array Value)(O:Nat)(a0 a1 a2 a3 a4 a5 a6:Value):(set7 cs O a0 a1 a2 a3 a4 a5 a6).size=cs.size:=by simp[set7]
theorem set7_old(cs:Array Value){O p:Nat}(a0 a1 a2 a3 a4 a5 a6:Value)(hp:p<O∨O+7≤p):(set7 cs O a0 a1 a2 a3 a4 a5 a6)[p]?=cs[p]?:=by
 unfold set7
 rw[getElem?_setIfInBounds_ne (by omega),getElem?_setIfInBounds_ne (by omega),getElem?_setIfInBounds_ne (by omega),getElem?_setIfInBounds_ne (by omega),getElem?_setIfInBounds_ne (by omega),getElem?_setIfInBounds_ne (by omega),getElem?_setIfInBounds_ne (by omega)]
theorem set7_new(cs:Array Value){O:Nat}(a0 a1 a2 a3 a4 a5 a6:Value)(hO:O+7≤cs.size)(j:Nat)(hj:j<7):(set7 cs O a0 a1 a2 a3 a4 a5 a6)[O+j]?=([a0,a1,a2,a3,a4,a5,a6]:List Value)[j]?:=by
 unfold set7
 have:j=0∨j=1∨j=2∨j=3∨j=4∨j=5∨j=6:=by omega
 rcases this with rfl|rfl|rfl|rfl|rfl|rfl|rfl
 ·show(Array.setIfInBounds _ (O+6) a6)[O]?=some a0
  rw[getElem?_setIfInBounds_ne (by omega),getElem?_setIfInBounds_ne (by omega),getElem?_setIfInBounds_ne (by omega),getElem?_setIfInBounds_ne (by omega),getElem?_setIfInBounds_ne (by omega),getElem?_setIfInBounds_ne (by omega)]
  exact Array.getElem?_setIfInBounds_self_of_lt (by omega)
 all_goals (repeat (first|rw[Array.getElem?_setIfInBounds_self_of_lt (by simp only[Array.size_setIfInBounds];omega)]|rw[getElem?_setIfInBounds_ne (by omega)]))
 all_goals rfl
theorem Fil.up{cs:Array Value}{T:List Ta.TR}{k:Nat}(h:Fil cs T k)(hx:T[k]?=some x)(hO:k*7+7≤cs.size):Fil (set7 cs (k*7) (.int .i64 ((k:Int)+1)) (.int .i64 x.prio) (.int .i64 x.s) (.int .u64 x.due) (.int .u64 x.key) (.int .u64 x.r) (.int .u64 x.m)) T (k+1):=by
 intro i hi y hy j hj
 by_cases c:i=k
 ·subst c
  obtain rfl:x=y:=Option.some.inj (hx.symm.trans hy)
  exact set7_new _ _ _ _ _ _ _ _ hO j hj
 ·rw[set7_old _ _ _ _ _ _ _ _ (by omega)]
  exact h i (by omega) y hy j hj
theorem infoTk:∃i,Tryz.prog.info? 50=some i∧i.zero=some (.agg #[.int .i64 0,.int .i64 0,.int .i64 0,.int .u64 0,.int .u64 0,.int .u64 0,.int .u64 0])∧i.size=7∧i.bytes=56:=by
 have h:(Tryz.prog.info? 50).map (fun i=>(i.zero,i.size,i.bytes))=some (some (.agg #[.int .i64 0,.int .i64 0,.int .i64 0,.int .u64 0,.int .u64 0,.int .u64 0,.int .u64 0]),7,56):=by kernel_rfl
 obtain⟨i,h1,h2⟩:=Option.map_eq_some_iff.1 h
 simp at h2
 exact⟨i,h1,h2.1,h2.2.1,h2.2.2⟩
theorem makeTk(w:World)(n:Nat)(hn:n≤200) :
  ∃cs:Array Value,(Instr.makeSlice 33 (.int .i64 (n:Int)) (.int .i64 (n:Int))).run Tryz.prog w=.ok (.slice (some ⟨w.heap.size,0,none⟩) n n) (w.alloc (.cells cs 50))∧cs.size=n*7:=by
 obtain⟨i,hi,hz,hs,hby⟩:=infoTk
 have hm:=run_make (P:=Tryz.prog) w 33 50 i _ Tryz.underlying33 hi hz .i64 .i64 n n (by omega) (Int.le_refl _) (by rw[hby];omega) (by omega)
 simp only[Int.toNat_natCast,hs] at hm
 exact⟨_,hm,by simp[madeCells]⟩
def AllIs(w:World)(X:Nat→Prop)(B:Nat)(T:List Ta.TR)(e:Ending)(w':World):Prop:=∃K cs,e=.returned (.slice (some ⟨K,0,none⟩) T.length T.length)∧w.heap.size≤K∧w'.heap[K]?=some (.cells cs 50 (0,0))∧Fil cs T T.length∧Ta.Tb w' X B 200 T∧Ta.Fr X w w'
theorem allT{X:Nat→Prop}{B:Nat}{T:List Ta.TR}(h:Ta.Tb w X B 200 T):Calls Tryz.prog 46 #[pt B] w (AllIs w X B T):=by
 have hl:=h.ok.2.1
 have P:=Ta.lenT h
 obtain⟨n,hn⟩:∃n,T.length=n:=⟨_,rfl⟩
 rw[hn] at P hl
 obtain⟨cs0,hmk,hcs⟩:=makeTk w n hl
 obtain⟨u,hu⟩:∃z,w.alloc (.cells cs0 50)=z:=⟨_,rfl⟩
 rw[hu] at hmk
 obtain⟨K,hK⟩:∃K,w.heap.size=K:=⟨_,rfl⟩
 have b0:Below w.heap.size w u:=by rw[←hu];exact belA _ _
 have hB:u.heap[K]?=some (.cells cs0 50 (0,0)):=by rw[←hu,←hK];exact heap_alloc_new w _
 have HH:Aside (T.length=n∧n≤200∧w.heap.size=K∧(∀k,X k→k<K)):=⟨hn,hl,hK,fun k hk=>by have:=h.lt hk;omega⟩
 have ST:Aside (Ta.Tb u X B 200 T∧Ta.Fr X w u∧u.heap[K]?=some (.cells cs0 50 (0,0))∧cs0.size=n*7):=⟨h.below b0,Ta.Fr.below b0,hB,hcs⟩
 rw[hK] at hmk
 clear h hn hu b0 hB hcs hK
 go_enter Tryz.func46,Tryz.ntmps46
 go_wp2_with fail
 refine P.mono ?_
 rintro e w1 ⟨rfl,rfl⟩
 clear P
 go_wp2_with fail
 go_loopg [4,10] n (fun kx s4 s10 wr=>∃(k:Nat),s10=.int .i64 k∧k≤n∧n-k≤kx∧Aside (Ta.Tb wr X B 200 T∧Ta.Fr X w1 wr∧∃cs,wr.heap[K]?=some (.cells cs 50 (0,0))∧cs.size=n*7∧Fil cs T k))
 case atStart=>exact⟨0,rfl,by omega,by omega,ST.out.1,ST.out.2.1,cs0,ST.out.2.2.1,ST.out.2.2.2,fun i hi=>by omega⟩
 case round=>
  obtain⟨k,rfl,hk,hkx,S1⟩:=hrel
  by_cases c:k<n
  ·have hlt:(k:Int)<(n:Int):=by omega
   have hkd:k<T.length:=by rw[HH.out.1];exact c
   obtain⟨x,hx⟩:∃x,T[k]?=some x:=⟨_,List.getElem?_eq_getElem hkd⟩
   have P:=Ta.getG S1.out.1 hx
   obtain⟨I1,hI1⟩:∃I1,(k:Int)+1=I1:=⟨_,rfl⟩
   have hwr:IntKind.i64.wrap ((k:Int)+1)=I1:=by rw[IntKind.wrap_i64];omega
   rw[hI1] at P
   have HX:Aside (T[k]?=some x∧(k:Int)+1=I1):=⟨hx,hI1⟩
   clear hx hkd hI1
   go_wp2_with fail
   refine P.mono ?_
   rintro e w2 ⟨rfl,T2,s2⟩
   clear P
   obtain⟨_,f1,cs,hcs,hsz,hfil⟩:=S1.out
   have hK2:w2.heap[K]?=some (.cells cs 50 (0,0)):=(s2.fr.block K (lt_of_block hcs) (fun e=>by have:=HH.out.2.2.2 K e;omega)).trans hcs
   obtain⟨O,hO⟩:∃O,k*7=O:=⟨_,rfl⟩
   have hOs:O+7≤cs.size:=by omega
   have cl:∀j,j<7→∃z,w2.cell? ⟨K,O+j,none⟩=some z:=fun j hj=>⟨cs[O+j]'(by omega),by rw[cell_of_row _ _ _ _ _ _ hK2,Array.getElem?_eq_getElem (by omega)]⟩
   obtain⟨z0,m0⟩:=cl 0 (by omega)
   rw[Nat.add_zero] at m0
   obtain⟨z1,m1⟩:=cl 1 (by omega)
   obtain⟨z2,m2⟩:=cl 2 (by omega)
   obtain⟨z3,m3⟩:=cl 3 (by omega)
   obtain⟨z4,m4⟩:=cl 4 (by omega)
   obtain⟨z5,m5⟩:=cl 5 (by omega)
   obtain⟨z6,m6⟩:=cl 6 (by omega)
   have mlt:=lt_of_block hK2
   have mfz:∀o,w2.frozen? ⟨K,o,none⟩=false:=(fun o=>by simp[World.frozen?,hK2])
   have E:Aside ((((((((w2.setCell ⟨K,O,none⟩ (.int .i64 I1)).setCell ⟨K,O+1,none⟩ (.int .i64 x.prio)).setCell ⟨K,O+2,none⟩ (.int .i64 x.s)).setCell ⟨K,O+3,none⟩ (.int .u64 x.due)).setCell ⟨K,O+4,none⟩ (.int .u64 x.key)).setCell ⟨K,O+5,none⟩ (.int .u64 x.r)).setCell ⟨K,O+6,none⟩ (.int .u64 x.m)).heap[K]?=some (.cells (set7 cs O (.int .i64 I1) (.int .i64 x.prio) (.int .i64 x.s) (.int .u64 x.due) (.int .u64 x.key) (.int .u64 x.r) (.int .u64 x.m)) 50 (0,0))):=set_at (set_at (set_at (set_at (set_at (set_at (set_at hK2 _) _) _) _) _) _) _
   have sK:∀(u0:World)(j:Nat)(z:Value),Ta.Fr (fun k=>k=K) u0 (u0.setCell ⟨K,j,none⟩ z):=fun u0 j z=>Ta.Fr.setCell (fun k=>k=K) u0 K j z rfl
   have FK:Ta.Fr (fun k=>k=K) w2 (((((((w2.setCell ⟨K,O,none⟩ (.int .i64 I1)).setCell ⟨K,O+1,none⟩ (.int .i64 x.prio)).setCell ⟨K,O+2,none⟩ (.int .i64 x.s)).setCell ⟨K,O+3,none⟩ (.int .u64 x.due)).setCell ⟨K,O+4,none⟩ (.int .u64 x.key)).setCell ⟨K,O+5,none⟩ (.int .u64 x.r)).setCell ⟨K,O+6,none⟩ (.int .u64 x.m)):=
    ((((((sK w2 O _).trans (sK _ (O+1) _) (fun j hj=>.inl hj)).trans (sK _ (O+2) _) (fun j hj=>.inl hj)).trans (sK _ (O+3) _) (fun j hj=>.inl hj)).trans (sK _ (O+4) _) (fun j hj=>.inl hj)).trans (sK _ (O+5) _) (fun j hj=>.inl hj)).trans (sK _ (O+6) _) (fun j hj=>.inl hj)
   have FIN:Aside (Ta.Tb (((((((w2.setCell ⟨K,O,none⟩ (.int .i64 I1)).setCell ⟨K,O+1,none⟩ (.int .i64 x.prio)).setCell ⟨K,O+2,none⟩ (.int .i64 x.s)).setCell ⟨K,O+3,none⟩ (.int .u64 x.due)).setCell ⟨K,O+4,none⟩ (.int .u64 x.key)).setCell ⟨K,O+5,none⟩ (.int .u64 x.r)).setCell ⟨K,O+6,none⟩ (.int .u64 x.m)) X B 200 T∧Ta.Fr X w1 (((((((w2.setCell ⟨K,O,none⟩ (.int .i64 I1)).setCell ⟨K,O+1,none⟩ (.int .i64 x.prio)).setCell ⟨K,O+2,none⟩ (.int .i64 x.s)).setCell ⟨K,O+3,none⟩ (.int .u64 x.due)).setCell ⟨K,O+4,none⟩ (.int .u64 x.key)).setCell ⟨K,O+5,none⟩ (.int .u64 x.r)).setCell ⟨K,O+6,none⟩ (.int .u64 x.m))∧∃cs,(((((((w2.setCell ⟨K,O,none⟩ (.int .i64 I1)).setCell ⟨K,O+1,none⟩ (.int .i64 x.prio)).setCell ⟨K,O+2,none⟩ (.int .i64 x.s)).setCell ⟨K,O+3,none⟩ (.int .u64 x.due)).setCell ⟨K,O+4,none⟩ (.int .u64 x.key)).setCell ⟨K,O+5,none⟩ (.int .u64 x.r)).setCell ⟨K,O+6,none⟩ (.int .u64 x.m)).heap[K]?=some (.cells cs 50 (0,0))∧cs.size=n*7∧Fil cs T (k+1)):=by
    refine⟨T2.fr FK (fun k hk e=>by have:=HH.out.2.2.2 k hk;omega),(f1.trans s2.fr (fun j hj=>.inl hj)).trans FK (fun j hj=>.inr (by rw[HH.out.2.2.1];exact le_of_eq hj.symm)),_,E.out,by rw[set7_size];exact hsz,?_⟩
    have:=(show Fil cs T k from hfil).up HX.out.1 (by omega)
    rw[hO,HX.out.2] at this
    exact this
   clear T2 s2 f1 hcs hsz hfil hK2 cl FK sK E S1 hOs
   go_wp2_with fail
   go_roundg (n-(k+1))
   case measure=>omega
   case rel=>exact⟨k+1,congrArg (Value.int .i64) (by have:=HX.out.2;omega),by omega,Nat.le_refl _,FIN⟩
  ·obtain rfl:k=n:=by omega
   have hnl:¬(k:Int)<(k:Int):=by omega
   have FIN:Aside (AllIs w1 X B T (.returned (.slice (some ⟨K,0,none⟩) k k)) wr):=by
    obtain⟨t1,f1,cs,hcs,hsz,hfil⟩:=S1.out
    exact⟨K,cs,by rw[HH.out.1],by rw[HH.out.2.2.1];exact Nat.le_refl _,hcs,by rw[HH.out.1];exact hfil,t1,f1⟩
   go_wp2_with fail
   go_ret
   exact FIN.out
end
section
open Go.RowKit Go.Lib Go.WideMaps Go.Maps
variable {w w' u:World}{L i:Nat}{D:CAd}{F F':Nat→Nat→Prop}{g v:Value}{σ:CS}{x:Ta.TR}
theorem infoEs:∃i,Tryz.prog.info? 34=some i∧i.zero=some (.slice none 0 0)∧i.size=1∧i.bytes=24:=by
 have h:(Tryz.prog.info? 34).map (fun i=>(i.zero,i.size,i.bytes))=some (some (.slice none 0 0),1,24):=by kernel_rfl
 obtain⟨i,h1,h2⟩:=Option.map_eq_some_iff.1 h
 simp at h2
 exact⟨i,h1,h2.1,h2.2.1,h2.2.2⟩
theorem makeEs(w:World)(n:Nat)(hn:n≤8) :
  ∃cs:Array Value,(Instr.makeSlice 35 (.int .i64 (n:Int)) (.int .i64 (n:Int))).run Tryz.prog w=.ok (.slice (some ⟨w.heap.size,0,none⟩) n n) (w.alloc (.cells cs 34))∧cs.size=n:=by
 obtain⟨i,hi,hz,hs,hby⟩:=infoEs
 have hm:=run_make (P:=Tryz.prog) w 35 34 i _ Tryz.underlying35 hi hz .i64 .i64 n n (by omega) (Int.le_refl _) (by rw[hby];omega) (by omega)
 simp only[Int.toNat_natCast,hs] at hm
 exact⟨_,hm,by simp[madeCells]⟩
theorem Co.hd6(C:Co w L D F g v σ):w.cell? ⟨D.B,3,none⟩=some (pt D.Bt)∧w.cell? ⟨D.B,4,none⟩=some (pt D.A.B)∧w.cell? ⟨D.B,5,none⟩=some (pt D.Bw)∧w.cell? ⟨D.B,7,none⟩=some (pt D.ca)∧w.cell? ⟨D.B,8,none⟩=some (.int .u64 σ.tk)∧w.cell? ⟨D.B,9,none⟩=some (.bool σ.cl):=⟨C.c3,C.c4,C.c5,C.c7,C.c8,C.c9⟩
theorem Co.fr1{K:Nat}{cs:Array Value}{U:TypeId}(C:Co w L D F g v σ)(hB:Bx w F K cs U)(hU:¬QT U)(f:Ta.Fr (fun k=>k=K) w w'):Co w' L D F g v σ:=by
 have KK:K8 (fun q=>False) w' L D F g v σ:=C.keep (fun q=>False) f (fun q _ k hk hy=>by subst hy;exact hB.2 q hk) (fun _ k hk=>by subst hk;exact nq_of hB.1 hU)
 exact⟨KK.head (by simp),KK.tab (by simp),KK.que (by simp),KK.whl (by simp),KK.dag (by simp),KK.cre (by simp),KK.evs (by simp),KK.gon (by simp),C.f0,C.f2,C.f5,C.f6,C.f7,C.f8,C.fp.grow f.size,le_trans C.lw f.size,le_trans C.wb f.size,C.qok,C.th1,C.th8,C.k16⟩
theorem Gc.own{w0:World}{F0:Nat→Nat→Prop}{K:Nat}(G:Gc L F0 w0 F w)(hK:w0.heap.size≤K)(hL:L≤w0.heap.size)(f:Ta.Fr (fun k=>k=K) w w'):Gc L F0 w0 F w':=
 ⟨G.low.trans (f.toBelow (fun k hk=>by subst hk;exact le_trans hL hK) (le_trans hL G.size)),fun k hk hF hU=>(f.block k (Nat.lt_of_lt_of_le hk G.size) (fun e=>by subst e;omega)).trans (G.block k hk hF hU),G.new⟩
theorem mq_st:¬Qu.MQ 38:=by unfold Qu.MQ;decide
theorem qt_st:¬QT 38:=by unfold QT;decide
theorem Co.freeC(C:Co w L D F g v σ):Calls Tryz.prog 45 #[pt D.ca] w fun e w'=>e=.returned (.int .i64 ((σ.n:Int)-σ.o))∧Cox L D F w σ w':=by
 refine(Ca.free_any w C.cre).mono ?_
 rintro e w' ⟨rfl,h,s⟩
 obtain⟨C',G'⟩:=C.setCre h s
 exact⟨rfl,_,_,_,C',G'⟩
theorem Co.allC(C:Co w L D F g v σ):Calls Tryz.prog 46 #[pt D.Bt] w fun e w'=>∃K cs,e=.returned (.slice (some ⟨K,0,none⟩) σ.T.length σ.T.length)∧∃F',(∃g' v',Co w' L D F' g' v' σ)∧Gc L F w F' w'∧Bx w' F' K cs 50∧Fil cs σ.T σ.T.length:=by
 refine(allT C.tab).mono ?_
 rintro e w' ⟨K,cs,rfl,lK,hK,fil,T',f⟩
 obtain⟨C',G'⟩:=C.setTab T' ⟨f,fun k hk=>.inl hk⟩
 rw[fset_id] at C' G'
 exact⟨K,cs,rfl,F,⟨_,_,C'⟩,G',⟨hK,fun p hp=>by have:=C.fp.lt p K hp;omega⟩,fil⟩
theorem Co.wallC(C:Co w L D F g v σ):Calls Tryz.prog 50 #[pt D.Bw] w fun e w'=>∃a cap,e=.returned (.slice a σ.tm.length cap)∧Wl.OwnF w' w.heap.size (.slice a σ.tm.length cap) σ.tm∧Below w.heap.size w w':=by
 refine Calls.mono (Wl.all_any C.whl) ?_
 rintro e w' ⟨v,rfl,o,b⟩
 rcases o with⟨hd,hv|⟨gg,off,hv⟩⟩|⟨gg,off,cap,hv,r⟩
 ·refine⟨none,0,?_,.inl ⟨hd,.inl ?_⟩,b⟩
  ·rw[hv,hd];rfl
  ·rw[hd];rfl
 ·refine⟨some ⟨gg,off,none⟩,0,?_,.inl ⟨hd,.inr ⟨gg,off,?_⟩⟩,b⟩
  ·rw[hv,hd];rfl
  ·rw[hd];rfl
 ·exact⟨some ⟨gg,off,none⟩,cap,by rw[hv],.inr ⟨gg,off,cap,rfl,r⟩,b⟩
def z9:Array Value:=#[.int .u64 0,.int .u64 0,.bool false,.int .i64 0,.slice none 0 0,.slice none 0 0,.slice none 0 0,.slice none 0 0,.slice none 0 0]
def set9(w:World)(K:Nat)(a0 a1 a2 a3 a4 a5 a6 a7 a8:Value):World:=((((((((w.setCell ⟨K,0,none⟩ a0).setCell ⟨K,1,none⟩ a1).setCell ⟨K,2,none⟩ a2).setCell ⟨K,3,none⟩ a3).setCell ⟨K,4,none⟩ a4).setCell ⟨K,5,none⟩ a5).setCell ⟨K,6,none⟩ a6).setCell ⟨K,7,none⟩ a7).setCell ⟨K,8,none⟩ a8
theorem set9_fr(w:World)(K:Nat)(a0 a1 a2 a3 a4 a5 a6 a7 a8:Value):Ta.Fr (fun k=>k=K) w (set9 w K a0 a1 a2 a3 a4 a5 a6 a7 a8):=by
 have sK:∀(u0:World)(j:Nat)(z:Value),Ta.Fr (fun k=>k=K) u0 (u0.setCell ⟨K,j,none⟩ z):=fun u0 j z=>Ta.Fr.setCell (fun k=>k=K) u0 K j z rfl
 exact((((((((sK w 0 _).trans (sK _ 1 _) (fun j hj=>.inl hj)).trans (sK _ 2 _) (fun j hj=>.inl hj)).trans (sK _ 3 _) (fun j hj=>.inl hj)).trans (sK _ 4 _) (fun j hj=>.inl hj)).trans (sK _ 5 _) (fun j hj=>.inl hj)).trans (sK _ 6 _) (fun j hj=>.inl hj)).trans (sK _ 7 _) (fun j hj=>.inl hj)).trans (sK _ 8 _) (fun j hj=>.inl hj)
theorem set9_at{w:World}{K:Nat}(h:w.heap[K]?=some (.cells z9 38 (0,0)))(a0 a1 a2 a3 a4 a5 a6 a7 a8:Value):(set9 w K a0 a1 a2 a3 a4 a5 a6 a7 a8).heap[K]?=some (.cells #[a0,a1,a2,a3,a4,a5,a6,a7,a8] 38 (0,0)):=by
 unfold set9
 rw[set_at (set_at (set_at (set_at (set_at (set_at (set_at (set_at (set_at h a0) a1) a2) a3) a4) a5) a6) a7) a8]
 simp[z9]
end
section
open Go.RowKit Go.Lib Go.WideMaps Go.Maps
variable {w w' u:World}{L i:Nat}{D:CAd}{F F':Nat→Nat→Prop}{g v:Value}{σ:CS}{x:Ta.TR}
def OwL(w:World)(base:Nat)(a:Option Addr)(n cap:Nat)(d:List Qu.Ent):Prop:=d.length=n∧Qu.OwnE w base (.slice a n cap) d
theorem OwL.below{base n cap:Nat}{a:Option Addr}{d:List Qu.Ent}(h:OwL w base a n cap d)(b:Below w.heap.size w w'):OwL w' base a n cap d:=⟨h.1,h.2.below b⟩
theorem OwL.set{base n cap:Nat}{a:Option Addr}{d:List Qu.Ent}(h:OwL w base a n cap d){p:Addr}(hp:p.block<base)(u:Value):OwL (w.setCell p u) base a n cap d:=⟨h.1,h.2.set hp u⟩
theorem OwL.is{base n cap:Nat}{a:Option Addr}{d:List Qu.Ent}(h:OwL w base a n cap d):Qu.IsL w a cap d:=h.2.is
def OwLL(w:World)(base K:Nat)(ls:List (List Qu.Ent)):Prop:=base≤K∧∃cs:Array Value,w.heap[K]?=some (.cells cs 34 (0,0))∧∀(i:Nat)(d:List Qu.Ent),ls[i]?=some d→∃p k,cs[i]?=some (Value.slice p d.length k)∧OwL w base p d.length k d
theorem OwLL.below{base K:Nat}{ls:List (List Qu.Ent)}(h:OwLL w base K ls)(b:Below w.heap.size w w'):OwLL w' base K ls:=by
 obtain⟨h0,cs,h1,h2⟩:=h
 exact⟨h0,cs,(b.block K (lt_of_block h1)).trans h1,fun i d hd=>by
  obtain⟨p,k,q1,q2⟩:=h2 i d hd
  exact⟨p,k,q1,q2.below b⟩⟩
theorem OwLL.set{base K:Nat}{ls:List (List Qu.Ent)}(h:OwLL w base K ls){p:Addr}(hp:p.block<base)(u:Value):OwLL (w.setCell p u) base K ls:=by
 obtain⟨h0,cs,h1,h2⟩:=h
 exact⟨h0,cs,(heap_setCell_other _ _ K _ (by omega)).trans h1,fun i d hd=>by
  obtain⟨p,k,q1,q2⟩:=h2 i d hd
  exact⟨p,k,q1,q2.set hp u⟩⟩
theorem OwLL.is{base K:Nat}{ls:List (List Qu.Ent)}(h:OwLL w base K ls)(hl:ls.length≤8):Qu.IsLL w (some ⟨K,0,none⟩) ls:=by
 obtain⟨h0,cs,h1,h2⟩:=h
 refine⟨by omega,fun i d hd=>?_⟩
 obtain⟨p,k,q1,q2⟩:=h2 i d hd
 exact⟨K,0,p,k,rfl,lt_of_block h1,by rw[Nat.zero_add,cell_of_row _ _ _ _ _ _ h1,q1],q2.is⟩
def locL(σ:CS):List (List Qu.Ent):=(List.range σ.th).map fun t=>Qu.sortE (σ.q.ls t).flatten
theorem locL_len(σ:CS):(locL σ).length=σ.th:=by simp[locL]
theorem locL_at(σ:CS){k:Nat}(hk:k<σ.th):(locL σ)[k]?=some (Qu.sortE (σ.q.ls k).flatten):=by simp[locL,hk]
theorem localsQ(C:Co w L D F g v σ):Calls Tryz.prog 48 #[pt D.B] w fun e w'=>∃K,e=.returned (.slice (some ⟨K,0,none⟩) σ.th σ.th)∧OwLL w' w.heap.size K (locL σ)∧Below w.heap.size w w':=by
 have c0:=C.c0
 obtain⟨n,hn⟩:∃n,σ.th=n:=⟨_,rfl⟩
 obtain⟨cs0,hmk,hcs⟩:=makeEs w n (by have:=C.th8;omega)
 obtain⟨u,hu⟩:∃z,w.alloc (.cells cs0 34)=z:=⟨_,rfl⟩
 rw[hu] at hmk
 obtain⟨K,hK⟩:∃K,w.heap.size=K:=⟨_,rfl⟩
 have b0:Below w.heap.size w u:=by rw[←hu];exact belA _ _
 have hB:u.heap[K]?=some (.cells cs0 34 (0,0)):=by rw[←hu,←hK];exact heap_alloc_new w _
 have HC:Aside (Co w L D F g v σ∧σ.th=n∧w.heap.size=K):=⟨C,hn,hK⟩
 have ST:Aside (Below w.heap.size w u∧u.heap[K]?=some (.cells cs0 34 (0,0))∧cs0.size=n):=⟨b0,hB,hcs⟩
 have hn8:n≤8:=by have:=C.th8;omega
 rw[hK] at hmk
 rw[hn] at c0
 rw[hn]
 clear C hu b0 hB hcs hn
 go_enter Tryz.func48,Tryz.ntmps48
 go_wp2_with fail
 go_loopg [4,13] n (fun kx s4 s13 wr=>∃(k:Nat),s13=.int .i64 k∧k≤n∧n-k≤kx∧Aside (Below w.heap.size w wr∧∃cs:Array Value,wr.heap[K]?=some (.cells cs 34 (0,0))∧cs.size=n∧∀i d,i<k→(locL σ)[i]?=some d→∃p q,cs[i]?=some (.slice p d.length q)∧OwL wr (K+1) p d.length q d))
 case atStart=>exact⟨0,rfl,by omega,by omega,ST.out.1,cs0,ST.out.2.1,ST.out.2.2,fun i d hi=>absurd hi (by omega)⟩
 case round=>
  obtain⟨k,rfl,hk,hkx,S1⟩:=hrel
  by_cases c:k<n
  ·have hlt:(k:Int)<(n:Int):=by omega
   have C1:=HC.out.1.below S1.out.1
   have c4:=C1.c4
   obtain⟨m,hm⟩:∃m,(σ.q.ls k).flatten.length=m:=⟨_,rfl⟩
   have P:=Qu.qlocal_in wr L D.A σ.th σ.k σ.qn σ.q k m C1.que C1.qok C1.k16 (by rw[HC.out.2.1];exact c) C1.th8 hm
   have HM:Aside ((σ.q.ls k).flatten.length=m):=hm
   clear C1 hm
   go_wp2_with fail
   refine Calls.mono P ?_
   rintro e w2 ⟨a2,cap2,rfl,o2,b2⟩
   clear P c4
   obtain⟨b1,cs,hcs,hsz,hall⟩:=S1.out
   have hK2:w2.heap[K]?=some (.cells cs 34 (0,0)):=(b2.block K (lt_of_block hcs)).trans hcs
   have m0:w2.cell? ⟨K,k,none⟩=some (cs[k]'(by omega)):=by rw[cell_of_row _ _ _ _ _ _ hK2,Array.getElem?_eq_getElem (by omega)]
   obtain⟨z0,hz0⟩:∃z,cs[k]'(by omega)=z:=⟨_,rfl⟩
   rw[hz0] at m0
   have mlt:=lt_of_block hK2
   have mfz:∀o,w2.frozen? ⟨K,o,none⟩=false:=(fun o=>by simp[World.frozen?,hK2])
   have FIN:Aside (Below w.heap.size w (w2.setCell ⟨K,k,none⟩ (.slice a2 m cap2))∧∃cs:Array Value,(w2.setCell ⟨K,k,none⟩ (.slice a2 m cap2)).heap[K]?=some (.cells cs 34 (0,0))∧cs.size=n∧∀i d,i<k+1→(locL σ)[i]?=some d→∃p q,cs[i]?=some (.slice p d.length q)∧OwL (w2.setCell ⟨K,k,none⟩ (.slice a2 m cap2)) (K+1) p d.length q d):=by
    refine⟨(belT b1 b2).setCell (by rw[HC.out.2.2];exact Nat.le_refl _) _,_,set_at hK2 _,by simp;exact hsz,fun i d hi hd=>?_⟩
    by_cases e:i=k
    ·subst e
     rw[locL_at σ (by rw[HC.out.2.1];exact c)] at hd
     injection hd with hd
     subst hd
     have e1:(Qu.sortE (σ.q.ls i).flatten).length=m:=by rw[Qu.sortE_len];exact HM.out
     have h1:=b1.size
     have h2:=HC.out.2.2
     refine⟨a2,cap2,?_,rfl,?_⟩
     ·rw[e1,Array.getElem?_setIfInBounds_self_of_lt (by omega)]
     ·rw[e1];exact(o2.low (b':=K+1) (by have:=lt_of_block hcs;omega)).set (Nat.lt_succ_self _) _
    ·obtain⟨p,q,q1,q2⟩:=hall i d (by omega) hd
     exact⟨p,q,by rw[getElem?_setIfInBounds_ne (fun h=>e h.symm)];exact q1,(q2.below b2).set (Nat.lt_succ_self _) _⟩
   clear b1 b2 hcs hsz hall hK2 S1 hz0 o2
   go_wp2_with fail
   go_roundg (n-(k+1))
   case measure=>omega
   case rel=>exact⟨k+1,by go_num,by omega,Nat.le_refl _,FIN⟩
  ·have hnl:¬(k:Int)<(n:Int):=by omega
   have hkn:k=n:=by omega
   have FIN:Aside (Below w.heap.size w wr∧OwLL wr K K (locL σ)):=by
    obtain⟨b1,cs,hcs,hsz,hall⟩:=S1.out
    refine⟨b1,Nat.le_refl _,cs,hcs,fun i d hd=>?_⟩
    have hi:=(List.getElem?_eq_some_iff.1 hd).1
    rw[locL_len,HC.out.2.1] at hi
    obtain⟨p,q,q1,q2⟩:=hall i d (by omega) hd
    exact⟨p,q,q1,q2.1,q2.2.low (Nat.le_succ _)⟩
   clear S1 hkn
   go_wp2_with fail
   go_ret
   exact⟨K,rfl,by first|exact FIN.out.2|(rw[HC.out.2.2];exact FIN.out.2),by first|exact FIN.out.1|(rw[←HC.out.2.2];exact FIN.out.1)⟩
def StQ(L:Nat)(D:CAd)(F:Nat→Nat→Prop)(w:World)(σ:CS)(e:Ending)(w':World):Prop:=∃K cs s1 n1 c1 K2 s3 n3 c3 s4 c4 F' g' v',e=.returned (.agg #[.int .u64 σ.now,.int .u64 σ.tk,.bool σ.cl,.int .i64 ((σ.n:Int)-σ.o),.slice (some ⟨K,0,none⟩) σ.T.length σ.T.length,.slice s1 n1 c1,.slice (some ⟨K2,0,none⟩) σ.th σ.th,.slice s3 n3 c3,.slice s4 σ.tm.length c4])∧Co w' L D F' g' v' σ∧Gc L F w F' w'∧Bx w' F' K cs 50∧Fil cs σ.T σ.T.length∧OwL w' (w.heap.size+1) s1 n1 c1 (Qu.slAll σ.q.g σ.th)∧OwLL w' (w.heap.size+1) K2 (locL σ)∧OwL w' (w.heap.size+1) s3 n3 c3 (Qu.sortE σ.q.hs.flatten)
theorem Co.slotsQ(C:Co w L D F g v σ):Calls Tryz.prog 47 #[pt D.A.B] w fun e w'=>∃a n cap,e=.returned (.slice a n cap)∧OwL w' w.heap.size a n cap (Qu.slAll σ.q.g σ.th)∧Below w.heap.size w w':=by
 refine Calls.mono (Qu.qslots_any w L D.A σ.th σ.k σ.q _ C.que rfl) ?_
 rintro e w' ⟨a,cap,rfl,o,b⟩
 exact⟨a,_,cap,rfl,⟨rfl,o⟩,b⟩
theorem Co.sharedQ(C:Co w L D F g v σ)(hn:σ.qn≤1000):Calls Tryz.prog 49 #[pt D.A.B] w fun e w'=>∃a n cap,e=.returned (.slice a n cap)∧OwL w' w.heap.size a n cap (Qu.sortE σ.q.hs.flatten)∧Below w.heap.size w w':=by
 refine Calls.mono (Qu.qshared_any w L D.A σ.th σ.k σ.qn σ.q _ C.que C.qok hn rfl) ?_
 rintro e w' ⟨a,cap,rfl,o,b⟩
 exact⟨a,_,cap,rfl,⟨Qu.sortE_len _,o⟩,b⟩
theorem OwL.low{base b' n cap:Nat}{a:Option Addr}{d:List Qu.Ent}(h:OwL w base a n cap d)(hb:b'≤base):OwL w b' a n cap d:=⟨h.1,h.2.low hb⟩
theorem OwLL.low{base b' K:Nat}{ls:List (List Qu.Ent)}(h:OwLL w base K ls)(hb:b'≤base):OwLL w b' K ls:=by
 obtain⟨h0,cs,h1,h2⟩:=h
 exact⟨le_trans hb h0,cs,h1,fun i d hd=>by
  obtain⟨p,k,q1,q2⟩:=h2 i d hd
  exact⟨p,k,q1,q2.low hb⟩⟩
theorem OwL.set9{base n cap K:Nat}{a:Option Addr}{d:List Qu.Ent}(h:OwL w base a n cap d)(hp:K<base)(a0 a1 a2 a3 a4 a5 a6 a7 a8:Value):OwL (set9 w K a0 a1 a2 a3 a4 a5 a6 a7 a8) base a n cap d:=by
 unfold Go.Proofs.YtdboknkfhbhniaaGreatDoor.set9
 exact((((((((h.set hp _).set hp _).set hp _).set hp _).set hp _).set hp _).set hp _).set hp _).set hp _
theorem OwLL.set9{base K K2:Nat}{ls:List (List Qu.Ent)}(h:OwLL w base K2 ls)(hp:K<base)(a0 a1 a2 a3 a4 a5 a6 a7 a8:Value):OwLL (set9 w K a0 a1 a2 a3 a4 a5 a6 a7 a8) base K2 ls:=by
 unfold Go.Proofs.YtdboknkfhbhniaaGreatDoor.set9
 exact((((((((h.set hp _).set hp _).set hp _).set hp _).set hp _).set hp _).set hp _).set hp _).set hp _
theorem stateQ(C:Co w L D F g v σ)(hn:σ.qn≤1000):Calls Tryz.prog 11 #[pt D.B] w (StQ L D F w σ):=by
 obtain⟨K,hK⟩:∃J,w.heap.size=J:=⟨_,rfl⟩
 obtain⟨u,hu⟩:∃z,w.alloc (.cells z9 38)=z:=⟨_,rfl⟩
 have b0:Below w.heap.size w u.drew:=by rw[←hu];exact(belA _ _).drew
 have BK:Bx u.drew F K z9 38:=by rw[←hu,←hK];exact Bx.new C _ _
 have C0:=C.below b0
 have HC:Aside (Co u.drew L D F g v σ∧Gc L F w F u.drew∧Bx u.drew F K z9 38∧σ.qn≤1000∧L≤w.heap.size∧w.heap.size=K):=⟨C0,Gc.below F C.lw b0,BK,hn,C.lw,hK⟩
 have h0:=C0.hd6
 have NW:Aside (Calls Tryz.prog 39 #[pt D.Bw] u.drew fun e w'=>e=.returned (.int .u64 σ.now)∧w'=u.drew):=Wl.now_any C0.whl
 have PF:Aside (Calls Tryz.prog 45 #[pt D.ca] u.drew fun e w'=>e=.returned (.int .i64 ((σ.n:Int)-σ.o))∧Cox L D F u.drew σ w'):=C0.freeC
 obtain⟨fr,hfr⟩:∃fr,(σ.n:Int)-σ.o=fr:=⟨_,rfl⟩
 rw[hfr] at PF
 obtain⟨nT,hnT⟩:∃nT,σ.T.length=nT:=⟨_,rfl⟩
 obtain⟨nM,hnM⟩:∃nT,σ.tm.length=nT:=⟨_,rfl⟩
 obtain⟨nH,hnH⟩:∃nT,σ.th=nT:=⟨_,rfl⟩
 have HL:Aside ((σ.n:Int)-σ.o=fr∧σ.T.length=nT∧σ.tm.length=nM∧σ.th=nH):=⟨hfr,hnT,hnM,hnH⟩
 have HU:Aside (w.alloc (.cells #[.int .u64 0,.int .u64 0,.bool false,.int .i64 0,.slice none 0 0,.slice none 0 0,.slice none 0 0,.slice none 0 0,.slice none 0 0] 38)=u):=hu
 have HK:Aside _:=hK
 clear C C0 hu hK b0 BK hn hfr hnT hnM hnH
 go_enter Tryz.func11,Tryz.ntmps11
 go_upto_region 1 with fail
 rw[HU.out]
 try simp only[HK.out]
 go_region_held3 (fun W=>W.cell? ⟨D.B,3,none⟩=some (pt D.Bt)∧W.cell? ⟨D.B,4,none⟩=some (pt D.A.B)∧W.cell? ⟨D.B,5,none⟩=some (pt D.Bw)∧W.cell? ⟨D.B,7,none⟩=some (pt D.ca)∧W.cell? ⟨D.B,8,none⟩=some (.int .u64 σ.tk)∧W.cell? ⟨D.B,9,none⟩=some (.bool σ.cl)) (first|with_reducible exact h0|with_reducible exact h1|with_reducible exact h2|with_reducible exact h3|with_reducible exact h4|with_reducible exact h5|with_reducible exact h6|exact K9.out _ _ _ _ _ _ _ _ _)
  ((first
   | (go_at_call 50;(with_reducible refine Calls.mono PW.out ?_);rintro e w6 ⟨s4,c4,rfl,b6⟩;have C6:Aside (Co w6 L D F2 g2 v2 σ):=C5.out.below b6;have h6:=C6.out.hd6;have B6:Aside (Bx w6 F2 K z9 38∧Bx w6 F2 KT cs 50):=⟨B5.out.1.below b6,B5.out.2.below b6⟩;have K9:Aside (∀a0 a1 a2 a3 a4 a5 a6 a7 a8,(set9 w6 K a0 a1 a2 a3 a4 a5 a6 a7 a8).cell? ⟨D.B,3,none⟩=some (pt D.Bt)∧(set9 w6 K a0 a1 a2 a3 a4 a5 a6 a7 a8).cell? ⟨D.B,4,none⟩=some (pt D.A.B)∧(set9 w6 K a0 a1 a2 a3 a4 a5 a6 a7 a8).cell? ⟨D.B,5,none⟩=some (pt D.Bw)∧(set9 w6 K a0 a1 a2 a3 a4 a5 a6 a7 a8).cell? ⟨D.B,7,none⟩=some (pt D.ca)∧(set9 w6 K a0 a1 a2 a3 a4 a5 a6 a7 a8).cell? ⟨D.B,8,none⟩=some (.int .u64 σ.tk)∧(set9 w6 K a0 a1 a2 a3 a4 a5 a6 a7 a8).cell? ⟨D.B,9,none⟩=some (.bool σ.cl)):=(fun a0 a1 a2 a3 a4 a5 a6 a7 a8=>(C6.out.fr1 B6.out.1 qt_st (set9_fr w6 K a0 a1 a2 a3 a4 a5 a6 a7 a8)).hd6);have m0:w6.cell? ⟨K,0,none⟩=some (.int .u64 0):=(B6.out.1.cell 0);have m1:w6.cell? ⟨K,1,none⟩=some (.int .u64 0):=(B6.out.1.cell 1);have m2:w6.cell? ⟨K,2,none⟩=some (.bool false):=(B6.out.1.cell 2);have m3:w6.cell? ⟨K,3,none⟩=some (.int .i64 0):=(B6.out.1.cell 3);have m4:w6.cell? ⟨K,4,none⟩=some (.slice none 0 0):=(B6.out.1.cell 4);have m5:w6.cell? ⟨K,5,none⟩=some (.slice none 0 0):=(B6.out.1.cell 5);have m6:w6.cell? ⟨K,6,none⟩=some (.slice none 0 0):=(B6.out.1.cell 6);have m7:w6.cell? ⟨K,7,none⟩=some (.slice none 0 0):=(B6.out.1.cell 7);have m8:w6.cell? ⟨K,8,none⟩=some (.slice none 0 0):=(B6.out.1.cell 8);have mlt:=lt_of_block B6.out.1.1;have mfz:∀o,w6.frozen? ⟨K,o,none⟩=false:=(fun o=>by simp[World.frozen?,B6.out.1.1]))
   | (go_at_call 49;(with_reducible refine Calls.mono PH.out ?_);rintro e w5 ⟨s3,n3,c3,rfl,o3,b5⟩;have O3:Aside (OwL w5 (K+1) s1 n1 c1 (Qu.slAll σ.q.g σ.th)∧OwLL w5 (K+1) K4 (locL σ)∧OwL w5 (K+1) s3 n3 c3 (Qu.sortE σ.q.hs.flatten)):=⟨O2.out.1.below b5,O2.out.2.below b5,o3.low (lt_of_block B4.out.1.1)⟩;clear o3;have C5:Aside (Co w5 L D F2 g2 v2 σ):=C4.out.below b5;have h5:=C5.out.hd6;have B5:Aside (Bx w5 F2 K z9 38∧Bx w5 F2 KT cs 50):=⟨B4.out.1.below b5,B4.out.2.below b5⟩;have PW:Aside (Calls Tryz.prog 50 #[pt D.Bw] w5 fun e w'=>∃a cap,e=.returned (.slice a nM cap)∧Below w5.heap.size w5 w'):=(by have:=C5.out.wallC;rw[HL.out.2.2.1] at this;exact this.mono (fun e w' ⟨a,cap,h1,_,h2⟩=>⟨a,cap,h1,h2⟩)))
   | (go_at_call 48;(with_reducible refine Calls.mono PL.out ?_);rintro e w4 ⟨K4,rfl,o2,b4⟩;have O2:Aside (OwL w4 (K+1) s1 n1 c1 (Qu.slAll σ.q.g σ.th)∧OwLL w4 (K+1) K4 (locL σ)):=⟨O1.out.below b4,o2.low (lt_of_block B3.out.1.1)⟩;clear o2;have C4:Aside (Co w4 L D F2 g2 v2 σ):=C3.out.below b4;have h4:=C4.out.hd6;have B4:Aside (Bx w4 F2 K z9 38∧Bx w4 F2 KT cs 50):=⟨B3.out.1.below b4,B3.out.2.below b4⟩;have PH:Aside (Calls Tryz.prog 49 #[pt D.A.B] w4 fun e w'=>∃a n cap,e=.returned (.slice a n cap)∧OwL w' w4.heap.size a n cap (Qu.sortE σ.q.hs.flatten)∧Below w4.heap.size w4 w'):=C4.out.sharedQ HC.out.2.2.2.1)
   | (go_at_call 47;(with_reducible refine Calls.mono PS.out ?_);rintro e w3 ⟨s1,n1,c1,rfl,o1,b3⟩;have O1:Aside (OwL w3 (K+1) s1 n1 c1 (Qu.slAll σ.q.g σ.th)):=o1.low (lt_of_block B2.out.1.1);clear o1;have C3:Aside (Co w3 L D F2 g2 v2 σ):=C2.out.below b3;have h3:=C3.out.hd6;have B3:Aside (Bx w3 F2 K z9 38∧Bx w3 F2 KT cs 50):=⟨B2.out.1.below b3,B2.out.2.below b3⟩;have PL:Aside (Calls Tryz.prog 48 #[pt D.B] w3 fun e w'=>∃K,e=.returned (.slice (some ⟨K,0,none⟩) nH nH)∧OwLL w' w3.heap.size K (locL σ)∧Below w3.heap.size w3 w'):=(by have:=localsQ C3.out;rw[HL.out.2.2.2] at this;exact this))
   | (go_at_call 46;(with_reducible refine Calls.mono PT.out ?_);rintro e w2 ⟨KT,cs,rfl,F2,⟨g2,v2,C2'⟩,G2,BT,fil⟩;have C2:Aside (Co w2 L D F2 g2 v2 σ):=C2';have h2:=C2'.hd6;have B2:Aside (Bx w2 F2 K z9 38∧Bx w2 F2 KT cs 50):=⟨B1.out.gc mq_st G2,BT⟩;have X2:Aside (Gc L F w F2 w2):=X1.out.trans G2;have FIL:Aside _:=fil;have PS:Aside (Calls Tryz.prog 47 #[pt D.A.B] w2 fun e w'=>∃a n cap,e=.returned (.slice a n cap)∧OwL w' w2.heap.size a n cap (Qu.slAll σ.q.g σ.th)∧Below w2.heap.size w2 w'):=C2'.slotsQ;clear C2' G2 BT fil)
   | (go_at_call 45;(with_reducible refine Calls.mono PF.out ?_);rintro e w1 ⟨rfl,F1,g1,v1,C1,G1⟩;have h1:=C1.hd6;have B1:Aside (Bx w1 F1 K z9 38):=HC.out.2.2.1.gc mq_st G1;have X1:Aside (Gc L F w F1 w1):=HC.out.2.1.trans G1;have PT:Aside (Calls Tryz.prog 46 #[pt D.Bt] w1 fun e w'=>∃K cs,e=.returned (.slice (some ⟨K,0,none⟩) nT nT)∧∃F',(∃g' v',Co w' L D F' g' v' σ)∧Gc L F1 w1 F' w'∧Bx w' F' K cs 50∧Fil cs σ.T nT):=(by have:=C1.allC;rw[HL.out.2.1] at this;exact this);clear C1 G1)
   | (go_at_call 39;(with_reducible refine Calls.mono NW.out ?_);rintro e v2 ⟨rfl,rfl⟩)))
 have E:Aside ((set9 w6 K (.int .u64 σ.now) (.int .u64 σ.tk) (.bool σ.cl) (.int .i64 fr) (.slice (some ⟨KT,0,none⟩) nT nT) (.slice s1 n1 c1) (.slice (some ⟨K4,0,none⟩) nH nH) (.slice s3 n3 c3) (.slice s4 nM c4)).heap[K]?=some (.cells #[.int .u64 σ.now,.int .u64 σ.tk,.bool σ.cl,.int .i64 fr,.slice (some ⟨KT,0,none⟩) nT nT,.slice s1 n1 c1,.slice (some ⟨K4,0,none⟩) nH nH,.slice s3 n3 c3,.slice s4 nM c4] 38 (0,0))):=set9_at B6.out.1.1 _ _ _ _ _ _ _ _ _
 have FIN:Aside (StQ L D F w σ (.returned (.agg #[.int .u64 σ.now,.int .u64 σ.tk,.bool σ.cl,.int .i64 fr,.slice (some ⟨KT,0,none⟩) nT nT,.slice s1 n1 c1,.slice (some ⟨K4,0,none⟩) nH nH,.slice s3 n3 c3,.slice s4 nM c4])) (set9 w6 K (.int .u64 σ.now) (.int .u64 σ.tk) (.bool σ.cl) (.int .i64 fr) (.slice (some ⟨KT,0,none⟩) nT nT) (.slice s1 n1 c1) (.slice (some ⟨K4,0,none⟩) nH nH) (.slice s3 n3 c3) (.slice s4 nM c4))):=by
  have f:=set9_fr w6 K (.int .u64 σ.now) (.int .u64 σ.tk) (.bool σ.cl) (.int .i64 fr) (.slice (some ⟨KT,0,none⟩) nT nT) (.slice s1 n1 c1) (.slice (some ⟨K4,0,none⟩) nH nH) (.slice s3 n3 c3) (.slice s4 nM c4)
  have G6:Gc L F w F2 w6:=X2.out.trans (Gc.below F2 C2.out.lw (belT b3 (belT b4 (belT b5 b6))))
  have KT6:=B6.out.2
  have hne:KT≠K:=fun e=>by
   have h1:=KT6.1
   have h2:=B6.out.1.1
   rw[e,h2] at h1
   simp only[Option.some.injEq,Obj.cells.injEq] at h1
   exact absurd h1.2.1 (by decide)
  have O6:OwL w6 (K+1) s1 n1 c1 (Qu.slAll σ.q.g σ.th)∧OwLL w6 (K+1) K4 (locL σ)∧OwL w6 (K+1) s3 n3 c3 (Qu.sortE σ.q.hs.flatten):=⟨O3.out.1.below b6,O3.out.2.1.below b6,O3.out.2.2.below b6⟩
  rw[←HC.out.2.2.2.2.2] at O6
  have lk:K<w.heap.size+1:=by have:=HC.out.2.2.2.2.2;omega
  refine⟨KT,cs,s1,n1,c1,K4,s3,n3,c3,s4,c4,F2,g2,v2,?_,C6.out.fr1 B6.out.1 qt_st f,G6.own (le_of_eq HC.out.2.2.2.2.2) HC.out.2.2.2.2.1 f,⟨(f.block KT (lt_of_block KT6.1) hne).trans KT6.1,KT6.2⟩,?_,O6.1.set9 lk _ _ _ _ _ _ _ _ _,O6.2.1.set9 lk _ _ _ _ _ _ _ _ _,O6.2.2.set9 lk _ _ _ _ _ _ _ _ _⟩
  ·rw[HL.out.1,HL.out.2.1,HL.out.2.2.1,HL.out.2.2.2]
  ·rw[HL.out.2.1];exact FIL.out
 clear h0 h1 h2 h3 h4 h5 h6 b3 b4 b5 b6 m0 m1 m2 m3 m4 m5 m6 m7 m8 mlt mfz
 have eb:=fun j=>cell_of_row _ _ j _ _ _ E.out
 unfold set9 at eb FIN
 go_wp2_with fail
 have q0:=eb 0
 have q1:=eb 1
 have q2:=eb 2
 have q3:=eb 3
 have q4:=eb 4
 have q5:=eb 5
 have q6:=eb 6
 have q7:=eb 7
 have q8:=eb 8
 refine bodyPost_ret (v:=.agg #[.int .u64 σ.now,.int .u64 σ.tk,.bool σ.cl,.int .i64 fr,.slice (some ⟨KT,0,none⟩) nT nT,.slice s1 n1 c1,.slice (some ⟨K4,0,none⟩) nH nH,.slice s3 n3 c3,.slice s4 nM c4]) (by simp[results,Tryz.results11,go_sem,q0,q1,q2,q3,q4,q5,q6,q7,q8]) rfl ?_
 exact FIN.out
end
section
open Go.RowKit Go.Lib Go.WideMaps Go.Maps
variable {w w' u:World}{L i:Nat}{D:CAd}{F F':Nat→Nat→Prop}{g v:Value}{σ:CS}{x:Ta.TR}
def setS(σ:CS)(t:Nat):CS:={σ with q:=Qu.settleQ σ.k σ.q t,qn:=σ.qn+1}
theorem settleC(C:Co w L D F g v σ){t:Nat}(ht:t<σ.th)(hn:σ.qn≤1000) :
  Calls Tryz.prog 165 #[pt D.B,.int .i64 t] w fun e w'=>e=.returned (.bool (σ.q.g t).f)∧Cox L D F w (setS σ t) w':=by
 have c4:=C.c4
 have P:Calls Tryz.prog 224 #[pt D.A.B,.int .i64 t] w fun e w'=>e=.returned (.bool (σ.q.g t).f)∧Cox L D F w (setS σ t) w':=by
  refine(Qu.settle_in w L D.A σ.th σ.k σ.qn σ.q t (σ.q.g t).f C.que C.qok hn C.k16 ht rfl C.lw).mono ?_
  rintro e w' ⟨rfl,h,s⟩
  obtain⟨C',G'⟩:=C.setQue h s (Qu.settle_ok C.qok ht C.k16)
  exact⟨rfl,_,_,_,C',G'⟩
 obtain⟨B,hB⟩:∃B,(σ.q.g t).f=B:=⟨_,rfl⟩
 rw[hB] at P⊢
 clear C ht hn hB
 go_enter Tryz.func165,Tryz.ntmps165
 go_wp2_with fail
 refine P.mono ?_
 rintro e w1 ⟨rfl,X⟩
 have FIN:Aside _:=X
 clear P X c4
 go_wp2_with fail
 go_ret
 exact⟨rfl,FIN.out⟩
theorem QI.settle(h:QI σ){t:Nat}(ht:t<σ.th):QI (setS σ t):=by
 obtain⟨sl,ow,sh,V,nd,al⟩:=h
 obtain⟨sl',ow',sh',V',_,P⟩:=V.settle (K:=σ.k) ht
 exact⟨sl',ow',sh',V',((P.map Prod.snd).nodup_iff).2 nd,fun e=>by rw[show(setS σ t).th=σ.th from rfl,P.mem_iff];exact al e⟩
theorem QI.none(h:QI σ){N:Nat}(ok:Qu.QOk σ.k σ.th N σ.q){t:Nat}(ht:t<σ.th)(dr:Nat)(hne:∀e,¬Rdy σ.T e):(Qu.relaxQ σ.q σ.th σ.k t dr).2=false:=by
 obtain⟨sl,ow,sh,V,nd,al⟩:=h
 rcases V.relaxed ok ht dr with⟨_,h⟩|⟨h,_⟩
 ·exact h
 ·obtain⟨e,l,he⟩:=List.exists_cons_of_ne_nil h
  exact absurd ((al e).1 (by rw[he];simp)) (hne e)
theorem lookN(C:Co w L D F g v σ){t dr:Nat}(ht:t<σ.th)(hdr:dr<18446744073709551616)(hn:σ.qn≤1000)(hx:(Qu.relaxQ σ.q σ.th σ.k t dr).2=false) :
  Calls Tryz.prog 52 #[pt D.B,.int .i64 t,.int .u64 dr] w fun e w'=>e=.returned (.tuple #[.agg #[.int .u64 0,.int .i64 0],.bool false])∧Cox L D F w σ w':=by
 obtain⟨K,hK⟩:∃J,w.heap.size=J:=⟨_,rfl⟩
 obtain⟨u,hu⟩:∃q,w.alloc (.cells #[.int .u64 0,.int .i64 0] 47)=q:=⟨_,rfl⟩
 have b0:Below w.heap.size w u:=by rw[←hu];exact belA _ _
 have hB:u.heap[K]?=some (.cells #[.int .u64 0,.int .i64 0] 47 (0,0)):=by rw[←hu,←hK];exact heap_alloc_new w _
 have C0:=C.below b0
 have c4:=C0.c4
 have P:=Qu.relaxed_in u L D.A σ.th σ.k σ.qn σ.q t dr C0.que C0.qok hn C0.k16 ht C0.th8 hdr
 obtain⟨⟨x1,x2⟩,hx1⟩:∃x,(Qu.relaxQ σ.q σ.th σ.k t dr).1=x:=⟨_,rfl⟩
 have hxx:Qu.relaxQ σ.q σ.th σ.k t dr=((x1,x2),false):=Prod.ext hx1 hx
 rw[hxx] at P
 have HC:Aside (Co w L D F g v σ∧w.heap.size=K∧Below w.heap.size w u):=⟨C,hK,b0⟩
 have X0:Aside (u.heap[K]?=some (.cells #[.int .u64 0,.int .i64 0] 47 (0,0))):=hB
 have HU:Aside _:=hu
 clear C C0 hx hx1 hxx hu hB b0 hn
 go_enter Tryz.func52,Tryz.ntmps52
 go_upto_region 1 with fail
 rw[HU.out]
 go_wp2_with fail
 refine Calls.mono P ?_
 rintro e w1 ⟨rfl,b1⟩
 clear P c4
 obtain⟨u1,hu1⟩:∃q,w1.alloc (.cells #[.int .u64 x1,.int .i64 x2] 47)=q:=⟨_,rfl⟩
 have b2:Below u.heap.size u u1:=by rw[←hu1];exact belT b1 (belA _ _)
 have hk:u1.heap[K]?=some (.cells #[.int .u64 0,.int .i64 0] 47 (0,0)):=(b2.block K (lt_of_block X0.out)).trans X0.out
 have klt:=lt_of_block hk
 have kfz:∀o,u1.frozen? ⟨K,o,none⟩=false:=(fun o=>by simp[World.frozen?,hk])
 obtain⟨k0,k1⟩:=bx2 hk
 have E:Aside (((u1.setCell ⟨K,0,none⟩ (.int .u64 0)).setCell ⟨K,1,none⟩ (.int .i64 0)).heap[K]?=some (.cells #[.int .u64 0,.int .i64 0] 47 (0,0))):=set_at (set_at hk _) _
 have FIN:Aside (Below w.heap.size w ((u1.setCell ⟨K,0,none⟩ (.int .u64 0)).setCell ⟨K,1,none⟩ (.int .i64 0))):=((belT HC.out.2.2 b2).setCell (le_of_eq HC.out.2.1) _).setCell (le_of_eq HC.out.2.1) _
 have HU1:Aside _:=hu1
 clear hu1 b1 b2 hk
 go_upto_region 3 with fail
 rw[HU1.out]
 go_wp2_with fail
 have eb:=fun j=>cell_of_row _ _ j _ _ _ E.out
 have q0:=eb 0
 have q1:=eb 1
 refine bodyPost_ret (v:=.tuple #[.agg #[.int .u64 0,.int .i64 0],.bool false]) (by simp[results,Tryz.results52,go_sem,q0,q1]) rfl ⟨rfl,?_⟩
 exact HC.out.1.xb FIN.out
end
section
open Go.RowKit Go.Lib Go.WideMaps Go.Maps
variable {w w' u w0:World}{L i:Nat}{D:CAd}{F F' F0:Nat→Nat→Prop}{g v:Value}{σ:CS}{x:Ta.TR}
structure WR where
 ph:Int
 key:Int
 id:Int
 pc:Int
 bad:Bool
abbrev wkA(x:WR):Array Value:=#[.int .i64 x.ph,.int .u64 x.key,.int .i64 x.id,.int .i64 x.pc,.bool x.bad]
abbrev wkV(x:WR):Value:=.agg #[.int .i64 x.ph,.int .u64 x.key,.int .i64 x.id,.int .i64 x.pc,.bool x.bad]
def wk0:WR:=⟨0,0,0,0,false⟩
theorem mq_wk:¬Qu.MQ 59:=by unfold Qu.MQ;decide
theorem qt_wk:¬QT 59:=by unfold QT;decide
def set5(w:World)(K:Nat)(a0 a1 a2 a3 a4:Value):World:=((((w.setCell ⟨K,0,none⟩ a0).setCell ⟨K,1,none⟩ a1).setCell ⟨K,2,none⟩ a2).setCell ⟨K,3,none⟩ a3).setCell ⟨K,4,none⟩ a4
theorem set5_fr(w:World)(K:Nat)(a0 a1 a2 a3 a4:Value):Ta.Fr (fun k=>k=K) w (set5 w K a0 a1 a2 a3 a4):=by
 have q:∀(v:World)(j:Nat)(a:Value),Ta.Fr (fun k=>k=K) v (v.setCell ⟨K,j,none⟩ a):=fun v j a=>Ta.Fr.setCell (fun k=>k=K) v K j a rfl
 exact(((((q w 0 a0).trans (q _ 1 a1) (fun j hj=>.inl hj)).trans (q _ 2 a2) (fun j hj=>.inl hj)).trans (q _ 3 a3) (fun j hj=>.inl hj)).trans (q _ 4 a4) (fun j hj=>.inl hj))
theorem set5_at{w:World}{K:Nat}{b0 b1 b2 b3 b4:Value}{U:TypeId}(h:w.heap[K]?=some (.cells #[b0,b1,b2,b3,b4] U (0,0)))(a0 a1 a2 a3 a4:Value):(set5 w K a0 a1 a2 a3 a4).heap[K]?=some (.cells #[a0,a1,a2,a3,a4] U (0,0)):=by
 unfold set5
 rw[set_at (set_at (set_at (set_at (set_at h a0) a1) a2) a3) a4]
 rfl
theorem bx5{w:World}{K:Nat}{a0 a1 a2 a3 a4:Value}{U:TypeId}(h:w.heap[K]?=some (.cells #[a0,a1,a2,a3,a4] U (0,0))):w.cell? ⟨K,0,none⟩=some a0∧w.cell? ⟨K,1,none⟩=some a1∧w.cell? ⟨K,2,none⟩=some a2∧w.cell? ⟨K,3,none⟩=some a3∧w.cell? ⟨K,4,none⟩=some a4:=
 ⟨by rw[cell_of_row _ _ _ _ _ _ h];rfl,by rw[cell_of_row _ _ _ _ _ _ h];rfl,by rw[cell_of_row _ _ _ _ _ _ h];rfl,by rw[cell_of_row _ _ _ _ _ _ h];rfl,by rw[cell_of_row _ _ _ _ _ _ h];rfl⟩
theorem Co.own(C:Co w L D F g v σ){X:Nat→Prop}(G:Gc L F0 w0 F w)(hX:∀k,X k→w0.heap.size≤k∧(∀p,¬F p k)∧NQ w k)(hL:L≤w0.heap.size)(f:Ta.Fr X w w'):Cox L D F0 w0 σ w':=
 ⟨F,g,v,C.frX f (fun k hk=>(hX k hk).2),G.ownX (fun k hk=>(hX k hk).1) hL f⟩
theorem fldConf(a b c:Int)(w:World):(Instr.field 28 (.agg #[.int .i64 a,.int .i64 b,.int .i64 c]) 0).run Tryz.prog w=.ok (.int .i64 a) w:=by
 simp[Instr.field,asAgg,part,isAgg,run_underlying Tryz.underlying28,run_underlying Tryz.underlying3,go_sem]
theorem confC(C:Co w L D F g v σ) :
  Calls Tryz.prog 115 #[pt D.B] w fun e w'=>e=.returned (.agg #[.int .i64 σ.th,.int .i64 σ.k,.int .i64 σ.n])∧Below w.heap.size w w':=by
 obtain⟨K,hK⟩:∃J,w.heap.size=J:=⟨_,rfl⟩
 obtain⟨u,hu⟩:∃q,w.alloc (.cells #[.int .i64 0,.int .i64 0,.int .i64 0] 28)=q:=⟨_,rfl⟩
 have b0:Below w.heap.size w u:=by rw[←hu];exact belA _ _
 have hk:u.heap[K]?=some (.cells #[.int .i64 0,.int .i64 0,.int .i64 0] 28 (0,0)):=by rw[←hu,←hK];exact heap_alloc_new w _
 have C0:=C.below b0
 have c0:=C0.c0
 have c1:=C0.c1
 have c2:=C0.c2
 have klt:=lt_of_block hk
 have blt:=lt_of_block C0.head
 have kfz:∀o,u.frozen? ⟨K,o,none⟩=false:=(fun o=>by simp[World.frozen?,hk])
 have k0:u.cell? ⟨K,0,none⟩=some (.int .i64 0):=by rw[cell_of_row _ _ _ _ _ _ hk];rfl
 have k1:u.cell? ⟨K,1,none⟩=some (.int .i64 0):=by rw[cell_of_row _ _ _ _ _ _ hk];rfl
 have k2:u.cell? ⟨K,2,none⟩=some (.int .i64 0):=by rw[cell_of_row _ _ _ _ _ _ hk];rfl
 have E:Aside ((((u.setCell ⟨K,0,none⟩ (.int .i64 σ.th)).setCell ⟨K,1,none⟩ (.int .i64 σ.k)).setCell ⟨K,2,none⟩ (.int .i64 σ.n)).heap[K]?=some (.cells #[.int .i64 σ.th,.int .i64 σ.k,.int .i64 σ.n] 28 (0,0))):=set_at (set_at (set_at hk _) _) _
 have FIN:Aside (Below w.heap.size w (((u.setCell ⟨K,0,none⟩ (.int .i64 σ.th)).setCell ⟨K,1,none⟩ (.int .i64 σ.k)).setCell ⟨K,2,none⟩ (.int .i64 σ.n))):=((b0.setCell (le_of_eq hK) _).setCell (le_of_eq hK) _).setCell (le_of_eq hK) _
 have HU:Aside _:=hu
 have HK:Aside _:=hK
 clear C C0 hu b0 hk hK
 go_enter Tryz.func115,Tryz.ntmps115
 go_upto_region 1 with fail
 rw[HU.out]
 try simp only[HK.out]
 go_wp2_with fail
 have eb:=fun j=>cell_of_row _ _ j _ _ _ E.out
 have q0:=eb 0
 have q1:=eb 1
 have q2:=eb 2
 refine bodyPost_ret (v:=.agg #[.int .i64 σ.th,.int .i64 σ.k,.int .i64 σ.n]) (by simp[results,Tryz.results115,go_sem,q0,q1,q2]) rfl ⟨rfl,?_⟩
 exact FIN.out
theorem wHasC(C:Co w L D F g v σ){t:Nat}(ht:t<σ.th) :
  Calls Tryz.prog 65 #[pt D.B,.int .i64 t] w fun e w'=>e=.returned (.bool true)∧Below w.heap.size w w':=by
 have P:=confC C
 have h1:(t:Int)<(σ.th:Int):=by omega
 have h0:(t:Int)≥0:=by omega
 have ff:=fun W=>fldConf σ.th σ.k σ.n W
 clear C ht
 go_enter Tryz.func65,Tryz.ntmps65
 go_wp2_with fail
 refine P.mono ?_
 rintro e w1 ⟨rfl,b⟩
 have FIN:Aside _:=b
 have ff:=ff w1
 clear P b
 go_wp2_with fail
 go_ret
 exact⟨rfl,FIN.out⟩
end
section
open Go.RowKit Go.Lib Go.WideMaps Go.Maps
variable {w w' u w0:World}{L i:Nat}{D:CAd}{F F' F0:Nat→Nat→Prop}{g v:Value}{σ:CS}{x:Ta.TR}
structure WB(w u:World)(F:Nat→Nat→Prop)(K:Nat)(x z:WR):Prop where
 a:Bx u F K (wkA x) 59
 b:Bx u F (K+1) (wkA z) 59
theorem WB.new(C:Co w L D F g v σ)(x:WR){K:Nat}(hK:w.heap.size=K):WB w ((w.alloc (.cells (wkA x) 59)).alloc (.cells (wkA wk0) 59)) F K x wk0:=by
 refine⟨(hK▸Bx.new C (wkA x) 59).below (belA _ _),?_⟩
 have h:=Bx.new (C.below (belA w (.cells (wkA x) 59))) (wkA wk0) 59
 rw[show(w.alloc (.cells (wkA x) 59)).heap.size=K+1 by simp[hK]] at h
 exact h
theorem WB.gc{x z:WR}{K:Nat}(h:WB w u F K x z)(G:Gc L F u F' w'):WB w w' F' K x z:=⟨h.a.gc mq_wk G,h.b.gc mq_wk G⟩
theorem WB.bel{x z:WR}{K:Nat}(h:WB w u F K x z)(b:Below u.heap.size u w'):WB w w' F K x z:=⟨h.a.below b,h.b.below b⟩
theorem WB.fin{x z y:WR}{K:Nat}{U:World}{F2:Nat→Nat→Prop}{g2 v2:Value}{τ:CS}(h:WB w U F2 K x z)(C:Co U L D F2 g2 v2 τ)(G:Gc L F w F2 U)(hK:w.heap.size=K)(hL:L≤w.heap.size) :
  (set5 U (K+1) (.int .i64 y.ph) (.int .u64 y.key) (.int .i64 y.id) (.int .i64 y.pc) (.bool y.bad)).heap[K+1]?=some (.cells (wkA y) 59 (0,0))∧Cox L D F w τ (set5 U (K+1) (.int .i64 y.ph) (.int .u64 y.key) (.int .i64 y.id) (.int .i64 y.pc) (.bool y.bad)):=by
 refine⟨set5_at h.b.1 _ _ _ _ _,C.own G (fun k hk=>?_) hL (set5_fr _ _ _ _ _ _ _)⟩
 subst hk
 exact⟨by omega,h.b.2,nq_of h.b.1 qt_wk⟩
theorem seekS(C:Co w L D F g v σ)(x:WR){t:Nat}(ht:t<σ.th)(hn:σ.qn≤1000)(hf:(σ.q.g t).f=true)(dr:Int) :
  Calls Tryz.prog 116 #[pt D.B,wkV x,.int .i64 t,.int .u64 dr] w fun e w'=>e=.returned (.tuple #[wkV x,.int .i64 2])∧Cox L D F w (setS σ t) w':=by
 obtain⟨K,hK⟩:∃J,w.heap.size=J:=⟨_,rfl⟩
 have W0:=WB.new C x hK
 obtain⟨u,hu⟩:∃q,(w.alloc (.cells (wkA x) 59)).alloc (.cells (wkA wk0) 59)=q:=⟨_,rfl⟩
 have b0:Below w.heap.size w u:=by rw[←hu];exact belT (belA _ _) (belA _ _)
 rw[hu] at W0
 have P:=settleC (C.below b0) ht hn
 rw[hf] at P
 have HC:Aside (Gc L F w F u∧w.heap.size=K∧L≤w.heap.size∧WB w u F K x wk0):=⟨Gc.below F C.lw b0,hK,C.lw,W0⟩
 obtain⟨x0,x1,x2,x3,x4⟩:=x
 have HU:Aside _:=hu
 clear C W0 hu b0 hn hf ht
 go_enter Tryz.func116,Tryz.ntmps116
 go_upto_region 1 with fail
 rw[show(w.alloc (.cells #[.int .i64 x0,.int .u64 x1,.int .i64 x2,.int .i64 x3,.bool x4] 59)).alloc (.cells #[.int .i64 0,.int .u64 0,.int .i64 0,.int .i64 0,.bool false] 59)=u from HU.out]
 try simp only[hK]
 go_wp2_with fail
 refine P.mono ?_
 rintro e w1 ⟨rfl,F1,g1,v1,C1,G1⟩
 have W1:=HC.out.2.2.2.gc G1
 obtain⟨a0,a1,a2,a3,a4⟩:=bx5 W1.a.1
 obtain⟨b0,b1,b2,b3,b4⟩:=bx5 W1.b.1
 have alt:=lt_of_block W1.a.1
 have blt:=lt_of_block W1.b.1
 have bfz:∀o,w1.frozen? ⟨K+1,o,none⟩=false:=(fun o=>by simp[World.frozen?,W1.b.1])
 have FF:=W1.fin (y:=⟨x0,x1,x2,x3,x4⟩) C1 (HC.out.1.trans G1) hK HC.out.2.2.1
 have E:Aside _:=FF.1
 have FIN:Aside _:=FF.2
 clear P C1 G1 W1 FF
 go_wp2_with fail
 have eb:=fun j=>cell_of_row _ _ j _ _ _ E.out
 have q0:=eb 0
 have q1:=eb 1
 have q2:=eb 2
 have q3:=eb 3
 have q4:=eb 4
 unfold set5 at q0 q1 q2 q3 q4
 refine bodyPost_ret (v:=.tuple #[.agg #[.int .i64 x0,.int .u64 x1,.int .i64 x2,.int .i64 x3,.bool x4],.int .i64 2]) (by simp[results,Tryz.results116,go_sem,q0,q1,q2,q3,q4]) rfl ⟨rfl,?_⟩
 exact FIN.out
theorem seekN(C:Co w L D F g v σ)(x:WR){t:Nat}(ht:t<σ.th)(hn:σ.qn≤1000)(hf:(σ.q.g t).f=false)(dr k d:Int){σ':CS}(PL:∀w1 F1 g1 v1,Co w1 L D F1 g1 v1 (setS σ t)→Calls Tryz.prog 52 #[pt D.B,.int .i64 t,.int .u64 dr] w1 fun e w'=>e=.returned (.tuple #[.agg #[.int .u64 k,.int .i64 d],.bool false])∧Cox L D F1 w1 σ' w') :
  Calls Tryz.prog 116 #[pt D.B,wkV x,.int .i64 t,.int .u64 dr] w fun e w'=>e=.returned (.tuple #[wkV x,.int .i64 0])∧Cox L D F w σ' w':=by
 obtain⟨K,hK⟩:∃J,w.heap.size=J:=⟨_,rfl⟩
 have W0:=WB.new C x hK
 obtain⟨u,hu⟩:∃q,(w.alloc (.cells (wkA x) 59)).alloc (.cells (wkA wk0) 59)=q:=⟨_,rfl⟩
 have b0:Below w.heap.size w u:=by rw[←hu];exact belT (belA _ _) (belA _ _)
 rw[hu] at W0
 have P:=settleC (C.below b0) ht hn
 rw[hf] at P
 have HC:Aside (Gc L F w F u∧w.heap.size=K∧L≤w.heap.size∧WB w u F K x wk0):=⟨Gc.below F C.lw b0,hK,C.lw,W0⟩
 have HP:Aside _:=PL
 obtain⟨x0,x1,x2,x3,x4⟩:=x
 have HU:Aside _:=hu
 clear C W0 hu b0 hn hf ht PL
 go_enter Tryz.func116,Tryz.ntmps116
 go_upto_region 1 with fail
 rw[show(w.alloc (.cells #[.int .i64 x0,.int .u64 x1,.int .i64 x2,.int .i64 x3,.bool x4] 59)).alloc (.cells #[.int .i64 0,.int .u64 0,.int .i64 0,.int .i64 0,.bool false] 59)=u from HU.out]
 try simp only[hK]
 go_wp2_with fail
 refine P.mono ?_
 rintro e w1 ⟨rfl,F1,g1,v1,C1,G1⟩
 have W1:=HC.out.2.2.2.gc G1
 have X1:Aside (Gc L F w F1 w1∧WB w w1 F1 K ⟨x0,x1,x2,x3,x4⟩ wk0):=⟨HC.out.1.trans G1,W1⟩
 have P:=HP.out w1 F1 g1 v1 C1
 clear C1 G1 W1
 go_wp2_with fail
 refine P.mono ?_
 rintro e w2 ⟨rfl,F2,g2,v2,C2,G2⟩
 obtain⟨J,hJ⟩:∃J,w2.heap.size=J:=⟨_,rfl⟩
 obtain⟨u2,hu2⟩:∃q,w2.alloc (.cells #[.int .u64 k,.int .i64 d] 47)=q:=⟨_,rfl⟩
 have b2:Below w2.heap.size w2 u2:=by rw[←hu2];exact belA _ _
 have BJ:Bx u2 F2 J #[.int .u64 k,.int .i64 d] 47:=by rw[←hu2,←hJ];exact Bx.new C2 _ _
 have W2:=(X1.out.2.gc G2).bel b2
 have C3:=C2.below b2
 have G3:Gc L F w F2 u2:=(X1.out.1.trans G2).trans (Gc.below F2 C2.lw b2)
 obtain⟨a0,a1,a2,a3,a4⟩:=bx5 W2.a.1
 obtain⟨b0,b1,b2',b3,b4⟩:=bx5 W2.b.1
 have alt:=lt_of_block W2.a.1
 have blt:=lt_of_block W2.b.1
 have bfz:∀o,u2.frozen? ⟨K+1,o,none⟩=false:=(fun o=>by simp[World.frozen?,W2.b.1])
 have FF:=W2.fin (y:=⟨x0,x1,x2,x3,x4⟩) C3 G3 hK HC.out.2.2.1
 have E:Aside _:=FF.1
 have FIN:Aside _:=FF.2
 have HU2:Aside _:=hu2
 have HJ:Aside _:=hJ
 clear P C2 G2 W2 C3 G3 FF BJ hu2 hJ b2
 go_upto_region 4 with fail
 rw[HU2.out]
 try simp only[HJ.out]
 go_wp2_with fail
 have eb:=fun j=>cell_of_row _ _ j _ _ _ E.out
 have q0:=eb 0
 have q1:=eb 1
 have q2:=eb 2
 have q3:=eb 3
 have q4:=eb 4
 unfold set5 at q0 q1 q2 q3 q4
 refine bodyPost_ret (v:=.tuple #[.agg #[.int .i64 x0,.int .u64 x1,.int .i64 x2,.int .i64 x3,.bool x4],.int .i64 0]) (by simp[results,Tryz.results116,go_sem,q0,q1,q2,q3,q4]) rfl ⟨rfl,?_⟩
 exact FIN.out
end
end Go.Proofs.YtdboknkfhbhniaaGreatDoor
