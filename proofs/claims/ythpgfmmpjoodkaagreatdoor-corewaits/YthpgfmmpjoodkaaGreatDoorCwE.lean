import Derived.Test.YthpgfmmpjoodkaaGreatDoorCoP
open Array(getElem?_setIfInBounds_ne)
open Nat(le_of_eq le_trans)
namespace Go.Proofs.YthpgfmmpjoodkaaGreatDoor
set_option maxHeartbeats 8000000
set_option maxRecDepth 100000
set_option linter.unusedVariables false
open Go.RowKit Go.Lib Go.WideMaps Go.Maps
section
variable {w w' w0 u:World}{L i:Nat}{D:CAd}{F F' F0:Nat→Nat→Prop}{g v:Value}{σ:CS}{x:Ta.TR}{zs:List Int}{m c k:Nat}{P:Nat→Nat→Prop}
theorem submitW(C:Co w L D F g v σ)(h:RU (PB zs) σ m c)(hf:∀j,j<m→sN σ.T j=1∨sN σ.T j=2)(hm:m<16)(hc:c≤100){a:Option Addr}{n cap:Nat}(hd:(wanI zs m).length=n)(o:Ow w F (.slice a n cap) (wanI zs m))(hz:wanI zs m=[]→Value.slice a n cap=.slice none 0 0){t:Nat}(ht:t<2){prio:Int}(h0:0≤prio)(h7:prio≤7) :
  Calls Tryz.prog 9 #[pt D.B,.int .i64 t,.int .i64 prio,.slice none 0 0,.slice a n cap] w fun e w'=>∃τ F' g' v',e=.returned (.tuple #[.int .i64 ((m:Int)+1),.int .i64 0])∧Co w' L D F' g' v' τ∧Gc L F w F' w'∧RU (PB zs) τ (m+1) (c+2)∧∀j,j<m+1→sN τ.T j=1∨sN τ.T j=2:=by
 have hl:σ.T.length=m:=h.len
 have hcn:=h.cnt
 have hN:=h.N
 have hq:=h.qn
 have hev:=h.ev
 have htk:=h.tk
 have hn:=h.n
 by_cases e:wanI zs m=[]
 ·rw[hz e]
  refine(subC C (t:=t) (by rw[h.th];exact ht) h.cl (by omega) (by omega) (by omega) (by omega) (by omega) prio h0 h7).mono ?_
  rintro r w' ⟨rfl,F',g',v',C',G'⟩
  obtain⟨r1,r2⟩:=h.sub hf (fun j hj=>by have:=(wanI_mem zs m _).2 ⟨j,rfl,hj⟩;rw[e] at this;simp at this) t prio
  exact⟨_,F',g',v',by rw[hl],C',G',r1,r2⟩
 ·have hin:∀q∈wanI zs m,∃j:Nat,q=(j:Int)+1∧j<m∧(stT σ.T q=1∨stT σ.T q=2):=fun q hq=>by
   obtain⟨j,rfl,hj⟩:=(wanI_mem zs m q).1 hq
   exact⟨j,rfl,hj.1,hf j hj.1⟩
  have hlen:=wanT_len (zs.getD m 0) m
  have hlen:(wanI zs m).length≤m:=hlen
  have hne:(wanI zs m).length≠0:=fun h=>e (List.length_eq_zero_iff.1 h)
  refine(subW C (t:=t) (by rw[h.th];exact ht) h.cl (by omega) (by omega) (by omega) prio h0 h7 hd (by omega) (by omega) (by omega) o ?_ ?_ ?_ ?_ ?_).mono ?_
  ·unfold areB
   rw[List.all_eq_true]
   intro q hq
   obtain⟨_,_,_,hs⟩:=hin q hq
   rcases hs with hs|hs<;>rw[hs]<;>rfl
  ·unfold lostL
   rw[List.any_eq_false]
   intro q hq
   obtain⟨_,_,_,hs⟩:=hin q hq
   rcases hs with hs|hs<;>rw[hs]<;>decide
  ·unfold notL
   rw[List.filter_eq_self]
   intro q hq
   obtain⟨_,_,_,hs⟩:=hin q hq
   rcases hs with hs|hs<;>rw[hs]<;>rfl
  ·refine(Da.mayB_iff _ _).2 ⟨by omega,fun q hq=>?_⟩
   obtain⟨j,e,hj,_⟩:=hin q hq
   omega
  ·intro q hq
   obtain⟨j,k,_,e4,hk,_⟩:=(h.E _ _).1 hq
   omega
  ·rintro r w' ⟨rfl,F',g',v',C',G'⟩
   obtain⟨q,hq⟩:=List.exists_mem_of_length_pos (Nat.pos_of_ne_zero hne)
   obtain⟨j,_,hj⟩:=(wanI_mem zs m q).1 hq
   obtain⟨r1,r2⟩:=h.subW hf (wanI_mem zs m) ⟨j,hj⟩ (by omega) prio
   exact⟨_,F',g',v',by rw[hl],C',G',r1,r2⟩
theorem finW(C:Co w L D F g v σ)(h:RU P σ m c)(hm:m≤16)(hc:c≤500)(hx:σ.T[k]?=some x)(hs:x.s=3)(h3:∀j,j<m→j≠k→sN σ.T j≠3)(ok:Bool) :
  Calls Tryz.prog 13 #[pt D.B,.int .i64 1,.int .i64 ((k:Int)+1),.bool ok] w fun e w'=>∃τ F' g' v',e=.returned (.int .i64 0)∧Co w' L D F' g' v' τ∧Gc L F w F' w'∧RU P τ m (c+19)∧τ.o+1≤σ.o∧∀j,j<m→sN τ.T j≠3:=by
 have hkm:k<m:=by rw[←h.len];exact(List.getElem?_eq_some_iff.1 hx).1
 have hcn:=h.cnt
 have hN:=h.N
 have hq:=h.qn
 have hev:=h.ev
 have htk:=h.tk
 have hl:=h.len
 have p0:=h.p0 k x hx
 have hid:Da.wfI ((k:Int)+1):=Da.wfI_of (by omega) (by omega)
 cases ok with
 | true=>
  have q:=finC C (t:=1) (by rw[h.th];decide) hx hs p0 hid (by omega) (by omega) (by omega) (by omega) (by omega) (fun j e _=>h.wtE e)
  refine Calls.mono (show Calls Tryz.prog 13 #[pt D.B,.int .i64 1,.int .i64 ((k:Int)+1),.bool true] w _ from q) ?_
  rintro r w' ⟨rfl,d,dl,F',g',v',C',G'⟩
  obtain⟨r1,r2,r3⟩:=h.done hm hx hs 1 dl
  exact⟨_,F',g',v',rfl,C',G',r1,le_of_eq r2,r3 h3⟩
 | false=>
  have q:=finF C (t:=1) (by rw[h.th];decide) hx hs p0 hid (by omega) h.lt (by omega) (by omega) (by omega) (fun j r=>h.wtR r)
  refine Calls.mono (show Calls Tryz.prog 13 #[pt D.B,.int .i64 1,.int .i64 ((k:Int)+1),.bool false] w _ from q) ?_
  rintro r w' ⟨rfl,d,dl,F',g',v',C',G'⟩
  obtain⟨r1,r2,r3⟩:=h.fail hm hx hs 1 dl
  exact⟨_,F',g',v',rfl,C',G',r1,r2,r3 h3⟩
def allB(T:List Ta.TR)(d:List Int)(t:Nat):Bool:=(d.take t).all fun q=>stT T q==4
def anyB(T:List Ta.TR)(d:List Int)(t:Nat):Bool:=(d.take t).any fun q=>stT T q==5||stT T q==6
theorem allB_up{T:List Ta.TR}{d:List Int}{t:Nat}(h:t<d.length):allB T d (t+1)=(allB T d t&&(stT T (d.getD t 0)==4)):=by
 unfold allB
 rw[Da.take_up h,List.all_append]
 simp
theorem anyB_up{T:List Ta.TR}{d:List Int}{t:Nat}(h:t<d.length):anyB T d (t+1)=(anyB T d t||(stT T (d.getD t 0)==5||stT T (d.getD t 0)==6)):=by
 unfold anyB
 rw[Da.take_up h,List.any_append]
 simp
theorem RU.tst(h:RU (PB zs) σ m c)(hk:k<m){t:Nat}(ht:t=(wanI zs k).length):(anyB σ.T (wanI zs k) t=true∧sN σ.T k=6)∨(anyB σ.T (wanI zs k) t=false∧sN σ.T k≠6∧((allB σ.T (wanI zs k) t=true∧sN σ.T k≠1)∨(allB σ.T (wanI zs k) t=false∧sN σ.T k=1))):=by
 subst ht
 unfold anyB allB
 rw[List.take_length]
 have hb:((wanI zs k).any fun q=>stT σ.T q==5||stT σ.T q==6)=true↔sN σ.T k=6:=by
  rw[List.any_eq_true,h.rs.r3 k hk]
  constructor
  ·rintro⟨q,hq,e⟩
   obtain⟨j,rfl,hj⟩:=(wanI_mem zs k q).1 hq
   exact⟨j,hj,by show stT σ.T ((j:Int)+1)=5∨stT σ.T ((j:Int)+1)=6;simpa using e⟩
  ·rintro⟨j,hj,e⟩
   exact⟨_,(wanI_mem zs k _).2 ⟨j,rfl,hj⟩,by have e:stT σ.T ((j:Int)+1)=5∨stT σ.T ((j:Int)+1)=6:=e;simpa using e⟩
 have ha:sN σ.T k≠6→(((wanI zs k).all fun q=>stT σ.T q==4)=true↔sN σ.T k≠1):=fun h6=>by
  rw[List.all_eq_true]
  constructor
  ·intro a e
   obtain⟨j,hj,h4⟩:=h.rs.r1 k hk e
   have:=a _ ((wanI_mem zs k _).2 ⟨j,rfl,hj⟩)
   exact h4 (by show stT σ.T ((j:Int)+1)=4;simpa using this)
  ·intro e q hq
   obtain⟨j,rfl,hj⟩:=(wanI_mem zs k q).1 hq
   have:=h.rs.rg k hk
   have h4:=h.rs.r2 k hk (by omega) j hj
   have h4:stT σ.T ((j:Int)+1)=4:=h4
   simpa using h4
 by_cases c6:sN σ.T k=6
 ·exact .inl ⟨hb.2 c6,c6⟩
 ·refine .inr ⟨by rw[Bool.eq_false_iff];exact fun e=>c6 (hb.1 e),c6,?_⟩
  by_cases c1:sN σ.T k=1
  ·exact .inr ⟨by rw[Bool.eq_false_iff];exact fun e=>(ha c6).1 e c1,c1⟩
  ·exact .inl ⟨(ha c6).2 c1,c1⟩
def rdL(T:List Ta.TR)(n:Nat):List Qu.Ent:=((List.range n).filter fun k=>sN T k==2).map fun(k:Nat)=>((0:Int),(k:Int)+1)
theorem rdL_up(T:List Ta.TR)(n:Nat):rdL T (n+1)=rdL T n++if sN T n=2 then [((0:Int),(n:Int)+1)] else []:=by
 unfold rdL
 rw[List.range_succ,List.filter_append,List.map_append]
 by_cases c:sN T n=2<;>simp[c]
theorem rdL_len(T:List Ta.TR)(n:Nat):(rdL T n).length≤n:=by
 unfold rdL
 rw[List.length_map]
 have:=List.length_filter_le (fun k=>sN T k==2) (List.range n)
 simpa using this
theorem rdL_at{T:List Ta.TR}{n i:Nat}(h:i<(rdL T n).length):∃k:Nat,k<n∧sN T k=2∧(rdL T n)[i]?=some ((0:Int),(k:Int)+1):=by
 have e:(rdL T n)[i]?=some ((rdL T n)[i]'h):=List.getElem?_eq_getElem h
 have hm:=List.mem_of_getElem? e
 unfold rdL at hm
 rw[List.mem_map] at hm
 obtain⟨k,hk,ek⟩:=hm
 rw[List.mem_filter] at hk
 exact⟨k,List.mem_range.1 hk.1,by simpa using hk.2,by rw[e];exact congrArg some ek.symm⟩
theorem rdL_nil{T:List Ta.TR}{n:Nat}(h:(rdL T n).length=0):∀k,k<n→sN T k≠2:=fun k hk e=>by
 have hm:((0:Int),(k:Int)+1)∈rdL T n:=by
  unfold rdL
  exact List.mem_map.2 ⟨k,List.mem_filter.2 ⟨List.mem_range.2 hk,by simpa using e⟩,rfl⟩
 rw[List.length_eq_zero_iff.1 h] at hm
 simp at hm
theorem RU.ends(h:RU P σ m c)(h2:∀k,k<m→sN σ.T k≠2)(h3:∀k,k<m→sN σ.T k≠3):(∀k,k<m→sN σ.T k=4∨sN σ.T k=5∨sN σ.T k=6)∧σ.o=0:=by
 have ov:=h.rs.over (fun k hk=>⟨h2 k hk,h3 k hk⟩)
 refine⟨ov,?_⟩
 rw[h.o,List.countP_eq_zero]
 intro y hy
 obtain⟨i,hi⟩:=List.mem_iff_getElem?.1 hy
 have him:i<m:=by rw[←h.len];exact(List.getElem?_eq_some_iff.1 hi).1
 have:=ov i him
 rw[sN_at hi] at this
 simp[liv]
 omega
end
theorem wf_of{a:Int}(h1 : -9223372036854775808≤a)(h2:a≤9223372036854775807):Da.wfI a:=Da.wfI_of h1 h2
def awX:Ta.TR:={Ta.mkT 3 0 0 0 0 0 2 with key:=7}
theorem aw_key:keyS (newS 1 2 2) (Ta.mkT 3 0 0 0 0 0 2)=7:=by decide
theorem aw_T:(subS (newS 1 2 2) 0 3).T=[awX]:=by rw[sub_T,aw_key];rfl
theorem awakeC(w:World):Calls Tryz.prog 14 #[] w fun e w'=>e=.returned (.bool true)∧Below w.heap.size w w':=by
 obtain⟨S,hS⟩:∃S,w.heap.size=S:=⟨_,rfl⟩
 have P:=newC 1 2 2 w (by omega) (by omega) (by omega) (by omega) (by omega)
 go_enter Tryz.func14,Tryz.ntmps14
 go_wp2_with fail
 refine Calls.mono P ?_
 rintro e w1 ⟨D,F1,rfl,C1,b1⟩
 clear P
 have X1:Aside (Below w.heap.size w w1):=b1
 have P:=subC C1 (t:=0) (show 0<(newS 1 2 2).th by decide) rfl (by decide) (by decide) (by decide) (by decide) (by decide) 3 (by omega) (by omega)
 clear C1 b1
 go_wp2_with fail
 refine Calls.mono P ?_
 rintro e w2 ⟨rfl,F2,g2,v2,C2,G2⟩
 clear P
 have X2:Aside (Gc (w.heap.size+1) F1 w1 F2 w2):=G2
 have Q2:QI (subS (newS 1 2 2) 0 3):=(QI.new 1 2 2).sub (show 0<(newS 1 2 2).th by decide) 3
 obtain⟨x,y,z,hx,hy,hz,hr⟩:=Q2.look C2.qok (t:=0) (show 0<(newS 1 2 2).th by decide) 0 ⟨(7,1),0,awX,by rw[aw_T];rfl,rfl,rfl⟩ ((subS (newS 1 2 2) 0 3).tk:Int)
 have hz1:z=(7,1):=by
  obtain⟨k,q,h1,h2,h3⟩:=hr
  rw[aw_T] at h1
  have:k=0:=by
   have:=(List.getElem?_eq_some_iff.1 h1).1
   simp at this
   omega
  subst this
  simp at h1
  subst h1
  exact h3
 have P:=lookC C2 (t:=0) (dr:=0) (show 0<(newS 1 2 2).th by decide) (by omega) (show(subS (newS 1 2 2) 0 3).qn≤1000 by decide) (show(subS (newS 1 2 2) 0 3).ev.length<1000000 by decide) hx hy hz
 subst hz1
 obtain⟨σ2,hσ2⟩:∃s,tellS (subS (newS 1 2 2) 0 3) 10 ((0:Nat):Int) 1 7=s:=⟨_,rfl⟩
 have P':Aside (Calls Tryz.prog 63 #[pt D.B,.int .i64 0,.int .u64 0] w2 fun e w'=>e=.returned (.tuple #[.agg #[.int .u64 7,.int .i64 1],.bool true])∧Cox (w.heap.size+1) D F2 w2 σ2 w'):=by rw[←hσ2];exact P
 have HS:Aside (σ2.T=[awX]∧σ2.th=1∧σ2.qn=1∧σ2.tk=0∧σ2.ev.length=3∧σ2.N=0∧σ2.E=fun _ _=>False):=by
  rw[←hσ2]
  exact⟨aw_T,rfl,rfl,rfl,rfl,rfl,rfl⟩
 clear P C2 G2 Q2 hx hy hz hr hσ2 x y
 go_wp2_with fail
 refine Calls.mono P'.out ?_
 rintro e w3 ⟨rfl,F3,g3,v3,C3,G3⟩
 obtain⟨K,hK⟩:∃J,w3.heap.size=J:=⟨_,rfl⟩
 obtain⟨u3,hu3⟩:∃z,w3.alloc (.cells #[.int .u64 7,.int .i64 1] 36)=z:=⟨_,rfl⟩
 have b3:Below w3.heap.size w3 u3:=by rw[←hu3];exact belA _ _
 have BK:Bx u3 F3 K #[.int .u64 7,.int .i64 1] 36:=by rw[←hu3,←hK];exact Bx.new C3 _ _
 have C3u:=C3.below b3
 have X3:Aside (Gc (w.heap.size+1) F1 w1 F3 u3∧Bx u3 F3 K #[.int .u64 7,.int .i64 1] 36):=⟨(X2.out.trans G3).trans (Gc.below F3 C3.lw b3),BK⟩
 have k0:u3.cell? ⟨K,0,none⟩=some (.int .u64 7):=BK.cell 0
 have k1:u3.cell? ⟨K,1,none⟩=some (.int .i64 1):=BK.cell 1
 have klt:=lt_of_block BK.1
 have hi3:σ2.T[0]?=some awX:=by rw[HS.out.1];rfl
 have P:Calls Tryz.prog 12 #[pt D.B,.int .i64 0,.agg #[.int .u64 7,.int .i64 1]] u3 fun e w'=>e=.returned (.int .i64 0)∧Cox (w.heap.size+1) D F3 u3 (handS (turnS σ2 0 awX 3) 0 0 (turnX awX 3)) w':=claimC C3u (t:=0) (i:=0) (by rw[HS.out.2.1];omega) hi3 rfl (by decide) (by rw[HS.out.2.2.2.2.1];omega) (by rw[HS.out.2.2.1];omega) (by rw[HS.out.2.2.2.1];omega)
 obtain⟨σ3,hσ3⟩:∃s,handS (turnS σ2 0 awX 3) 0 0 (turnX awX 3)=s:=⟨_,rfl⟩
 rw[hσ3] at P
 have HS3:Aside (σ3.T=[turnX awX 3]∧σ3.th=1∧σ3.qn=2∧σ3.tk=1∧σ3.ev.length=4∧σ3.N=0∧σ3.E=fun _ _=>False):=by
  rw[←hσ3]
  refine⟨?_,HS.out.2.1,?_,?_,?_,HS.out.2.2.2.2.2.1,HS.out.2.2.2.2.2.2⟩
  ·show σ2.T.set 0 _=_
   rw[HS.out.1];rfl
  ·show σ2.qn+1=2
   rw[HS.out.2.2.1]
  ·show σ2.tk+1=1
   rw[HS.out.2.2.2.1]
  ·show(σ2.ev++[_]).length=4
   rw[List.length_append,HS.out.2.2.2.2.1];rfl
 have HU3:Aside _:=hu3
 have HK:Aside _:=hK
 clear P' C3 C3u G3 hu3 hK b3 BK X2 hσ3 hi3
 go_upto_region 6 with fail
 rw[HU3.out]
 simp only[HK.out]
 go_wp2_with fail
 refine Calls.mono P ?_
 rintro e w4 ⟨rfl,F4,g4,v4,C4,G4⟩
 clear P k0 k1 klt
 have B4:=X3.out.2.gc mq_ent G4
 have X4:Aside (Gc (w.heap.size+1) F1 w1 F4 w4∧Bx w4 F4 K #[.int .u64 7,.int .i64 1] 36):=⟨X3.out.1.trans G4,B4⟩
 have k0:w4.cell? ⟨K,0,none⟩=some (.int .u64 7):=B4.cell 0
 have k1:w4.cell? ⟨K,1,none⟩=some (.int .i64 1):=B4.cell 1
 have klt:=lt_of_block B4.1
 have hi4:σ3.T[0]?=some (turnX awX 3):=by rw[HS3.out.1];rfl
 have P:Calls Tryz.prog 12 #[pt D.B,.int .i64 0,.agg #[.int .u64 7,.int .i64 1]] w4 fun e w'=>e=.returned (.int .i64 8)∧Cox (w.heap.size+1) D F4 w4 σ3 w':=claimL C4 (t:=0) (i:=0) (by rw[HS3.out.2.1];omega) hi4 (by decide) 7
 clear C4 G4 B4 X3 hi4
 go_wp2_with fail
 refine Calls.mono P ?_
 rintro e w5 ⟨rfl,F5,g5,v5,C5,G5⟩
 clear P k0 k1 klt
 have B5:=X4.out.2.gc mq_ent G5
 have X5:Aside (Gc (w.heap.size+1) F1 w1 F5 w5∧Bx w5 F5 K #[.int .u64 7,.int .i64 1] 36):=⟨X4.out.1.trans G5,B5⟩
 have hi5:σ3.T[0]?=some (turnX awX 3):=by rw[HS3.out.1];rfl
 have P:Calls Tryz.prog 13 #[pt D.B,.int .i64 0,.int .i64 1,.bool true] w5 fun e w'=>e=.returned (.int .i64 0)∧∃d,DoneL σ3.E (((0:Nat):Int)+1) d∧Cox (w.heap.size+1) D F5 w5 (relL 0 d {endS (turnS σ3 0 (turnX awX 3) 4) 0 1 with E:=fun q j=>σ3.E q j∧q≠(((0:Nat):Int)+1)}) w':=finC C5 (t:=0) (i:=0) (by rw[HS3.out.2.1];omega) hi5 (by decide) (by decide) (wf_of (by omega) (by omega)) (by rw[HS3.out.2.2.2.2.2.1];omega) (by rw[HS3.out.2.2.2.2.1];omega) (by rw[HS3.out.1];decide) (by rw[HS3.out.1,HS3.out.2.2.1];decide) (by rw[HS3.out.2.2.2.1];omega) (fun j h=>by rw[HS3.out.2.2.2.2.2.2] at h;exact h.elim)
 clear C5 G5 B5 X4 hi5
 go_wp2_with fail
 refine Calls.mono P ?_
 rintro e w6 ⟨rfl,d,dl,F6,g6,v6,C6,G6⟩
 clear P
 rw[HS3.out.2.2.2.2.2.2] at dl
 obtain rfl:=done_nil dl
 have B6:=X5.out.2.gc mq_ent G6
 obtain⟨σ4,hσ4⟩:∃s,relL 0 [] {endS (turnS σ3 0 (turnX awX 3) 4) 0 1 with E:=fun q j=>σ3.E q j∧q≠(((0:Nat):Int)+1)}=s:=⟨_,rfl⟩
 rw[hσ4] at C6
 have HS4:Aside (σ4.T=[turnX (turnX awX 3) 4]∧σ4.ev.length=5):=by
  rw[←hσ4]
  refine⟨?_,?_⟩
  ·show σ3.T.set 0 _=_
   rw[HS3.out.1];rfl
  ·show(σ3.ev++[_]).length=5
   rw[List.length_append,HS3.out.2.2.2.2.1];rfl
 have k0:w6.cell? ⟨K,0,none⟩=some (.int .u64 7):=B6.cell 0
 have klt:=lt_of_block B6.1
 have hi6:σ4.T[0]?=some (turnX (turnX awX 3) 4):=by rw[HS4.out.1];rfl
 have P:Calls Tryz.prog 10 #[pt D.B,.int .i64 1] w6 fun e w'=>e=.returned (.int .i64 4)∧Cox (w.heap.size+1) D F6 w6 σ4 w':=statusC C6 (i:=0) hi6
 have X6:Aside (Gc (w.heap.size+1) F1 w1 F6 w6):=X5.out.1.trans G6
 clear C6 G6 B6 X5 hi6 hσ4 dl
 go_wp2_with fail
 refine Calls.mono P ?_
 rintro e w7 ⟨rfl,F7,g7,v7,C7,G7⟩
 clear P k0 klt
 have P:=eventsC C7 (by rw[HS4.out.2];omega)
 rw[HS4.out.2] at P
 have X7:Aside (Gc (w.heap.size+1) F1 w1 F7 w7):=X6.out.trans G7
 clear C7 G7 X6
 go_wp2_with fail
 refine Calls.mono P ?_
 rintro e w8 ⟨a,cap,rfl,o8,b8⟩
 have FIN:Aside (Below S w w8):=by
  have h1:=X1.out
  have h2:=X7.out.low
  rw[hS] at h1 h2
  exact(h1.trans (h2.mono (by omega))).trans (b8.mono (by have:=h1.size;have:=h2.size;omega))
 clear P o8 b8
 go_wp2_with fail
 go_ret
 exact⟨rfl,by first|exact FIN.out|(rw[hS];exact FIN.out)⟩
section
variable {w w' u:World}{L i:Nat}{D:CAd}{F F':Nat→Nat→Prop}{g v:Value}{σ:CS}{x:Ta.TR}
def rowK(i:Nat)(x:Ta.TR):List Value:=[.int .i64 ((i:Int)+1),.int .i64 x.prio,.int .i64 x.s,.int .u64 x.due,.int .u64 x.key,.int .u64 x.r,.int .u64 x.m]
def Fil(cs:Array Value)(T:List Ta.TR)(k:Nat):Prop:=∀i,i<k→∀x,T[i]?=some x→∀j,j<7→cs[i*7+j]?=(rowK i x)[j]?
def set7(cs:Array Value)(O:Nat)(a0 a1 a2 a3 a4 a5 a6:Value):Array Value:=(((((((cs.setIfInBounds O a0).setIfInBounds (O+1) a1).setIfInBounds (O+2) a2).setIfInBounds (O+3) a3).setIfInBounds (O+4) a4).setIfInBounds (O+5) a5).setIfInBounds (O+6) a6)
theorem set7_size(cs:Array Value)(O:Nat)(a0 a1 a2 a3 a4 a5 a6:Value):(set7 cs O a0 a1 a2 a3 a4 a5 a6).size=cs.size:=by simp[set7]
theorem set7_old(cs:Array Value){O p:Nat}(a0 a1 a2 a3 a4 a5 a6:Value)(hp:p<O∨O+7≤p):(set7 cs O a0 a1 a2 a3 a4 a5 a6)[p]?=cs[p]?:=by
 unfold set7
 rw[getElem?_setIfInBounds_ne (by omega),getElem?_setIfInBounds_ne (by omega),getElem?_setIfInBounds_ne (by omega),getElem?_setIfInBounds_ne (by omega),getElem?_setIfInBounds_ne (by omega),getElem?_setIfInBounds_ne (by omega),getElem?_setIfInBounds_ne (by omega)]
theorem set7_new(cs:Array Value){O:Nat}(a0 a1 a2 a3 a4 a5 a6:Value)(hO:O+7≤cs.size)(j:Nat)(hj:j<7):(set7 cs O a0 a1 a2 a3 a4 a5 a6)[O+j]?=([a0,a1,a2,a3,a4,a5,a6]:List Value)[j]?:=by
 unfold set7
 have:j=0∨j=1∨j=2∨j=3∨j=4∨j=5∨j=6:=by omega
 rcases this with rfl|rfl|rfl|rfl|rfl|rfl|rfl
 ·show(Array.setIfInBounds _ (O+6) a6)[O]?=some a0
  rw[getElem?_setIfInBounds_ne (by omega),getElem?_setIfInBounds_ne (by omega),getElem?_setIfInBounds_ne (by omega),getElem?_setIfInBounds_ne (by omega),getElem?_setIfInBounds_ne (by omega),getElem?_setIfInBounds_ne (by omega)]
  exact Array.getElem?_setIfInBounds_self_of_lt (by omega)
 all_goals (repeat (first|rw[Array.getElem?_setIfInBounds_self_of_lt (by simp only[Array.size_setIfInBounds];omega)]|rw[getElem?_setIfInBounds_ne (by omega)]))
 all_goals rfl
theorem Fil.up{cs:Array Value}{T:List Ta.TR}{k:Nat}(h:Fil cs T k)(hx:T[k]?=some x)(hO:k*7+7≤cs.size):Fil (set7 cs (k*7) (.int .i64 ((k:Int)+1)) (.int .i64 x.prio) (.int .i64 x.s) (.int .u64 x.due) (.int .u64 x.key) (.int .u64 x.r) (.int .u64 x.m)) T (k+1):=by
 intro i hi y hy j hj
 by_cases c:i=k
 ·subst c
  obtain rfl:x=y:=Option.some.inj (hx.symm.trans hy)
  exact set7_new _ _ _ _ _ _ _ _ hO j hj
 ·rw[set7_old _ _ _ _ _ _ _ _ (by omega)]
  exact h i (by omega) y hy j hj
theorem infoTk:∃i,Tryz.prog.info? 45=some i∧i.zero=some (.agg #[.int .i64 0,.int .i64 0,.int .i64 0,.int .u64 0,.int .u64 0,.int .u64 0,.int .u64 0])∧i.size=7∧i.bytes=56:=by
 have h:(Tryz.prog.info? 45).map (fun i=>(i.zero,i.size,i.bytes))=some (some (.agg #[.int .i64 0,.int .i64 0,.int .i64 0,.int .u64 0,.int .u64 0,.int .u64 0,.int .u64 0]),7,56):=by kernel_rfl
 obtain⟨i,h1,h2⟩:=Option.map_eq_some_iff.1 h
 simp at h2
 exact⟨i,h1,h2.1,h2.2.1,h2.2.2⟩
theorem makeTk(w:World)(n:Nat)(hn:n≤200) :
  ∃cs:Array Value,(Instr.makeSlice 37 (.int .i64 (n:Int)) (.int .i64 (n:Int))).run Tryz.prog w=.ok (.slice (some ⟨w.heap.size,0,none⟩) n n) (w.alloc (.cells cs 45))∧cs.size=n*7:=by
 obtain⟨i,hi,hz,hs,hby⟩:=infoTk
 have hm:=run_make (P:=Tryz.prog) w 37 45 i _ Tryz.underlying37 hi hz .i64 .i64 n n (by omega) (Int.le_refl _) (by rw[hby];omega) (by omega)
 simp only[Int.toNat_natCast,hs] at hm
 exact⟨_,hm,by simp[madeCells]⟩
def AllIs(w:World)(X:Nat→Prop)(B:Nat)(T:List Ta.TR)(e:Ending)(w':World):Prop:=∃K cs,e=.returned (.slice (some ⟨K,0,none⟩) T.length T.length)∧w.heap.size≤K∧w'.heap[K]?=some (.cells cs 45 (0,0))∧Fil cs T T.length∧Ta.Tb w' X B 200 T∧Ta.Fr X w w'
theorem allT{X:Nat→Prop}{B:Nat}{T:List Ta.TR}(h:Ta.Tb w X B 200 T):Calls Tryz.prog 52 #[pt B] w (AllIs w X B T):=by
 have hl:=h.ok.2.1
 have P:=Ta.lenT h
 obtain⟨n,hn⟩:∃n,T.length=n:=⟨_,rfl⟩
 rw[hn] at P hl
 obtain⟨cs0,hmk,hcs⟩:=makeTk w n hl
 obtain⟨u,hu⟩:∃z,w.alloc (.cells cs0 45)=z:=⟨_,rfl⟩
 rw[hu] at hmk
 obtain⟨K,hK⟩:∃K,w.heap.size=K:=⟨_,rfl⟩
 have b0:Below w.heap.size w u:=by rw[←hu];exact belA _ _
 have hB:u.heap[K]?=some (.cells cs0 45 (0,0)):=by rw[←hu,←hK];exact heap_alloc_new w _
 have HH:Aside (T.length=n∧n≤200∧w.heap.size=K∧(∀k,X k→k<K)):=⟨hn,hl,hK,fun k hk=>by have:=h.lt hk;omega⟩
 have ST:Aside (Ta.Tb u X B 200 T∧Ta.Fr X w u∧u.heap[K]?=some (.cells cs0 45 (0,0))∧cs0.size=n*7):=⟨h.below b0,Ta.Fr.below b0,hB,hcs⟩
 rw[hK] at hmk
 clear h hn hu b0 hB hcs hK
 go_enter Tryz.func52,Tryz.ntmps52
 go_wp2_with fail
 refine P.mono ?_
 rintro e w1 ⟨rfl,rfl⟩
 clear P
 go_wp2_with fail
 go_loopg [4,10] n (fun kx s4 s10 wr=>∃(k:Nat),s10=.int .i64 k∧k≤n∧n-k≤kx∧Aside (Ta.Tb wr X B 200 T∧Ta.Fr X w1 wr∧∃cs,wr.heap[K]?=some (.cells cs 45 (0,0))∧cs.size=n*7∧Fil cs T k))
 case atStart=>exact⟨0,rfl,by omega,by omega,ST.out.1,ST.out.2.1,cs0,ST.out.2.2.1,ST.out.2.2.2,fun i hi=>by omega⟩
 case round=>
  obtain⟨k,rfl,hk,hkx,S1⟩:=hrel
  by_cases c:k<n
  ·have hlt:(k:Int)<(n:Int):=by omega
   have hkd:k<T.length:=by rw[HH.out.1];exact c
   obtain⟨x,hx⟩:∃x,T[k]?=some x:=⟨_,List.getElem?_eq_getElem hkd⟩
   have P:=Ta.getG S1.out.1 hx
   obtain⟨I1,hI1⟩:∃I1,(k:Int)+1=I1:=⟨_,rfl⟩
   have hwr:IntKind.i64.wrap ((k:Int)+1)=I1:=by rw[IntKind.wrap_i64];omega
   rw[hI1] at P
   have HX:Aside (T[k]?=some x∧(k:Int)+1=I1):=⟨hx,hI1⟩
   clear hx hkd hI1
   go_wp2_with fail
   refine P.mono ?_
   rintro e w2 ⟨rfl,T2,s2⟩
   clear P
   obtain⟨_,f1,cs,hcs,hsz,hfil⟩:=S1.out
   have hK2:w2.heap[K]?=some (.cells cs 45 (0,0)):=(s2.fr.block K (lt_of_block hcs) (fun e=>by have:=HH.out.2.2.2 K e;omega)).trans hcs
   obtain⟨O,hO⟩:∃O,k*7=O:=⟨_,rfl⟩
   have hOs:O+7≤cs.size:=by omega
   have cl:∀j,j<7→∃z,w2.cell? ⟨K,O+j,none⟩=some z:=fun j hj=>⟨cs[O+j]'(by omega),by rw[cell_of_row _ _ _ _ _ _ hK2,Array.getElem?_eq_getElem (by omega)]⟩
   obtain⟨z0,m0⟩:=cl 0 (by omega)
   rw[Nat.add_zero] at m0
   obtain⟨z1,m1⟩:=cl 1 (by omega)
   obtain⟨z2,m2⟩:=cl 2 (by omega)
   obtain⟨z3,m3⟩:=cl 3 (by omega)
   obtain⟨z4,m4⟩:=cl 4 (by omega)
   obtain⟨z5,m5⟩:=cl 5 (by omega)
   obtain⟨z6,m6⟩:=cl 6 (by omega)
   have mlt:=lt_of_block hK2
   have mfz:∀o,w2.frozen? ⟨K,o,none⟩=false:=(fun o=>by simp[World.frozen?,hK2])
   have E:Aside ((((((((w2.setCell ⟨K,O,none⟩ (.int .i64 I1)).setCell ⟨K,O+1,none⟩ (.int .i64 x.prio)).setCell ⟨K,O+2,none⟩ (.int .i64 x.s)).setCell ⟨K,O+3,none⟩ (.int .u64 x.due)).setCell ⟨K,O+4,none⟩ (.int .u64 x.key)).setCell ⟨K,O+5,none⟩ (.int .u64 x.r)).setCell ⟨K,O+6,none⟩ (.int .u64 x.m)).heap[K]?=some (.cells (set7 cs O (.int .i64 I1) (.int .i64 x.prio) (.int .i64 x.s) (.int .u64 x.due) (.int .u64 x.key) (.int .u64 x.r) (.int .u64 x.m)) 45 (0,0))):=set_at (set_at (set_at (set_at (set_at (set_at (set_at hK2 _) _) _) _) _) _) _
   have sK:∀(u0:World)(j:Nat)(z:Value),Ta.Fr (fun k=>k=K) u0 (u0.setCell ⟨K,j,none⟩ z):=fun u0 j z=>Ta.Fr.setCell (fun k=>k=K) u0 K j z rfl
   have FK:Ta.Fr (fun k=>k=K) w2 (((((((w2.setCell ⟨K,O,none⟩ (.int .i64 I1)).setCell ⟨K,O+1,none⟩ (.int .i64 x.prio)).setCell ⟨K,O+2,none⟩ (.int .i64 x.s)).setCell ⟨K,O+3,none⟩ (.int .u64 x.due)).setCell ⟨K,O+4,none⟩ (.int .u64 x.key)).setCell ⟨K,O+5,none⟩ (.int .u64 x.r)).setCell ⟨K,O+6,none⟩ (.int .u64 x.m)):=
    ((((((sK w2 O _).trans (sK _ (O+1) _) (fun j hj=>.inl hj)).trans (sK _ (O+2) _) (fun j hj=>.inl hj)).trans (sK _ (O+3) _) (fun j hj=>.inl hj)).trans (sK _ (O+4) _) (fun j hj=>.inl hj)).trans (sK _ (O+5) _) (fun j hj=>.inl hj)).trans (sK _ (O+6) _) (fun j hj=>.inl hj)
   have FIN:Aside (Ta.Tb (((((((w2.setCell ⟨K,O,none⟩ (.int .i64 I1)).setCell ⟨K,O+1,none⟩ (.int .i64 x.prio)).setCell ⟨K,O+2,none⟩ (.int .i64 x.s)).setCell ⟨K,O+3,none⟩ (.int .u64 x.due)).setCell ⟨K,O+4,none⟩ (.int .u64 x.key)).setCell ⟨K,O+5,none⟩ (.int .u64 x.r)).setCell ⟨K,O+6,none⟩ (.int .u64 x.m)) X B 200 T∧Ta.Fr X w1 (((((((w2.setCell ⟨K,O,none⟩ (.int .i64 I1)).setCell ⟨K,O+1,none⟩ (.int .i64 x.prio)).setCell ⟨K,O+2,none⟩ (.int .i64 x.s)).setCell ⟨K,O+3,none⟩ (.int .u64 x.due)).setCell ⟨K,O+4,none⟩ (.int .u64 x.key)).setCell ⟨K,O+5,none⟩ (.int .u64 x.r)).setCell ⟨K,O+6,none⟩ (.int .u64 x.m))∧∃cs,(((((((w2.setCell ⟨K,O,none⟩ (.int .i64 I1)).setCell ⟨K,O+1,none⟩ (.int .i64 x.prio)).setCell ⟨K,O+2,none⟩ (.int .i64 x.s)).setCell ⟨K,O+3,none⟩ (.int .u64 x.due)).setCell ⟨K,O+4,none⟩ (.int .u64 x.key)).setCell ⟨K,O+5,none⟩ (.int .u64 x.r)).setCell ⟨K,O+6,none⟩ (.int .u64 x.m)).heap[K]?=some (.cells cs 45 (0,0))∧cs.size=n*7∧Fil cs T (k+1)):=by
    refine⟨T2.fr FK (fun k hk e=>by have:=HH.out.2.2.2 k hk;omega),(f1.trans s2.fr (fun j hj=>.inl hj)).trans FK (fun j hj=>.inr (by rw[HH.out.2.2.1];exact le_of_eq hj.symm)),_,E.out,by rw[set7_size];exact hsz,?_⟩
    have:=(show Fil cs T k from hfil).up HX.out.1 (by omega)
    rw[hO,HX.out.2] at this
    exact this
   clear T2 s2 f1 hcs hsz hfil hK2 cl FK sK E S1 hOs
   go_wp2_with fail
   go_roundg (n-(k+1))
   case measure=>omega
   case rel=>exact⟨k+1,congrArg (Value.int .i64) (by have:=HX.out.2;omega),by omega,Nat.le_refl _,FIN⟩
  ·obtain rfl:k=n:=by omega
   have hnl:¬(k:Int)<(k:Int):=by omega
   have FIN:Aside (AllIs w1 X B T (.returned (.slice (some ⟨K,0,none⟩) k k)) wr):=by
    obtain⟨t1,f1,cs,hcs,hsz,hfil⟩:=S1.out
    exact⟨K,cs,by rw[HH.out.1],by rw[HH.out.2.2.1];exact Nat.le_refl _,hcs,by rw[HH.out.1];exact hfil,t1,f1⟩
   go_wp2_with fail
   go_ret
   exact FIN.out
end
section
variable {w w' u:World}{L i:Nat}{D:CAd}{F F':Nat→Nat→Prop}{g v:Value}{σ:CS}{x:Ta.TR}
theorem infoEs:∃i,Tryz.prog.info? 33=some i∧i.zero=some (.slice none 0 0)∧i.size=1∧i.bytes=24:=by
 have h:(Tryz.prog.info? 33).map (fun i=>(i.zero,i.size,i.bytes))=some (some (.slice none 0 0),1,24):=by kernel_rfl
 obtain⟨i,h1,h2⟩:=Option.map_eq_some_iff.1 h
 simp at h2
 exact⟨i,h1,h2.1,h2.2.1,h2.2.2⟩
theorem makeEs(w:World)(n:Nat)(hn:n≤8) :
  ∃cs:Array Value,(Instr.makeSlice 38 (.int .i64 (n:Int)) (.int .i64 (n:Int))).run Tryz.prog w=.ok (.slice (some ⟨w.heap.size,0,none⟩) n n) (w.alloc (.cells cs 33))∧cs.size=n:=by
 obtain⟨i,hi,hz,hs,hby⟩:=infoEs
 have hm:=run_make (P:=Tryz.prog) w 38 33 i _ Tryz.underlying38 hi hz .i64 .i64 n n (by omega) (Int.le_refl _) (by rw[hby];omega) (by omega)
 simp only[Int.toNat_natCast,hs] at hm
 exact⟨_,hm,by simp[madeCells]⟩
theorem localsC(C:Co w L D F g v σ):Calls Tryz.prog 54 #[pt D.B] w fun e w'=>∃K,e=.returned (.slice (some ⟨K,0,none⟩) σ.th σ.th)∧Below w.heap.size w w':=by
 have c0:=C.c0
 obtain⟨n,hn⟩:∃n,σ.th=n:=⟨_,rfl⟩
 obtain⟨cs0,hmk,hcs⟩:=makeEs w n (by have:=C.th8;omega)
 obtain⟨u,hu⟩:∃z,w.alloc (.cells cs0 33)=z:=⟨_,rfl⟩
 rw[hu] at hmk
 obtain⟨K,hK⟩:∃K,w.heap.size=K:=⟨_,rfl⟩
 have b0:Below w.heap.size w u:=by rw[←hu];exact belA _ _
 have hB:u.heap[K]?=some (.cells cs0 33 (0,0)):=by rw[←hu,←hK];exact heap_alloc_new w _
 have HC:Aside (Co w L D F g v σ∧σ.th=n∧w.heap.size=K):=⟨C,hn,hK⟩
 have ST:Aside (Below w.heap.size w u∧u.heap[K]?=some (.cells cs0 33 (0,0))∧cs0.size=n):=⟨b0,hB,hcs⟩
 have hn8:n≤8:=by have:=C.th8;omega
 rw[hK] at hmk
 rw[hn] at c0
 rw[hn]
 clear C hu b0 hB hcs hn
 go_enter Tryz.func54,Tryz.ntmps54
 go_wp2_with fail
 go_loopg [4,13] n (fun kx s4 s13 wr=>∃(k:Nat),s13=.int .i64 k∧k≤n∧n-k≤kx∧Aside (Below w.heap.size w wr∧∃cs,wr.heap[K]?=some (.cells cs 33 (0,0))∧cs.size=n))
 case atStart=>exact⟨0,rfl,by omega,by omega,ST.out.1,cs0,ST.out.2.1,ST.out.2.2⟩
 case round=>
  obtain⟨k,rfl,hk,hkx,S1⟩:=hrel
  by_cases c:k<n
  ·have hlt:(k:Int)<(n:Int):=by omega
   have C1:=HC.out.1.below S1.out.1
   have c4:=C1.c4
   obtain⟨m,hm⟩:∃m,(σ.q.ls k).flatten.length=m:=⟨_,rfl⟩
   have P:=Qu.qlocal_in wr L D.A σ.th σ.k σ.qn σ.q k m C1.que C1.qok C1.k16 (by rw[HC.out.2.1];exact c) C1.th8 hm
   clear C1 hm
   go_wp2_with fail
   refine Calls.mono P ?_
   rintro e w2 ⟨a2,cap2,rfl,o2,b2⟩
   clear P c4 o2
   obtain⟨b1,cs,hcs,hsz⟩:=S1.out
   have hK2:w2.heap[K]?=some (.cells cs 33 (0,0)):=(b2.block K (lt_of_block hcs)).trans hcs
   have m0:w2.cell? ⟨K,k,none⟩=some (cs[k]'(by omega)):=by rw[cell_of_row _ _ _ _ _ _ hK2,Array.getElem?_eq_getElem (by omega)]
   obtain⟨z0,hz0⟩:∃z,cs[k]'(by omega)=z:=⟨_,rfl⟩
   rw[hz0] at m0
   have mlt:=lt_of_block hK2
   have mfz:∀o,w2.frozen? ⟨K,o,none⟩=false:=(fun o=>by simp[World.frozen?,hK2])
   have FIN:Aside (Below w.heap.size w (w2.setCell ⟨K,k,none⟩ (.slice a2 m cap2))∧∃cs,(w2.setCell ⟨K,k,none⟩ (.slice a2 m cap2)).heap[K]?=some (.cells cs 33 (0,0))∧cs.size=n):=⟨(belT b1 b2).setCell (by rw[HC.out.2.2];exact Nat.le_refl _) _,_,set_at hK2 _,by simp;exact hsz⟩
   clear b1 b2 hcs hsz hK2 S1 hz0
   go_wp2_with fail
   go_roundg (n-(k+1))
   case measure=>omega
   case rel=>exact⟨k+1,by go_num,by omega,Nat.le_refl _,FIN⟩
  ·have hnl:¬(k:Int)<(n:Int):=by omega
   have FIN:Aside (Below w.heap.size w wr):=S1.out.1
   clear S1
   go_wp2_with fail
   go_ret
   exact⟨⟨K,rfl⟩,by first|exact FIN.out|(rw[HC.out.2.2];exact FIN.out)|(rw[←HC.out.2.2];exact FIN.out)⟩
def StIs(L:Nat)(D:CAd)(F:Nat→Nat→Prop)(w:World)(σ:CS)(e:Ending)(w':World):Prop:=∃K cs s1 n1 c1 s2 n2 c2 s3 n3 c3 s4 c4 F' g' v',e=.returned (.agg #[.int .u64 σ.now,.int .u64 σ.tk,.bool σ.cl,.int .i64 ((σ.n:Int)-σ.o),.slice (some ⟨K,0,none⟩) σ.T.length σ.T.length,.slice s1 n1 c1,.slice s2 n2 c2,.slice s3 n3 c3,.slice s4 σ.tm.length c4])∧Co w' L D F' g' v' σ∧Gc L F w F' w'∧Bx w' F' K cs 45∧Fil cs σ.T σ.T.length
theorem Co.hd6(C:Co w L D F g v σ):w.cell? ⟨D.B,3,none⟩=some (pt D.Bt)∧w.cell? ⟨D.B,4,none⟩=some (pt D.A.B)∧w.cell? ⟨D.B,5,none⟩=some (pt D.Bw)∧w.cell? ⟨D.B,7,none⟩=some (pt D.ca)∧w.cell? ⟨D.B,8,none⟩=some (.int .u64 σ.tk)∧w.cell? ⟨D.B,9,none⟩=some (.bool σ.cl):=⟨C.c3,C.c4,C.c5,C.c7,C.c8,C.c9⟩
theorem Co.fr1{K:Nat}{cs:Array Value}{U:TypeId}(C:Co w L D F g v σ)(hB:Bx w F K cs U)(hU:¬QT U)(f:Ta.Fr (fun k=>k=K) w w'):Co w' L D F g v σ:=by
 have KK:K8 (fun q=>False) w' L D F g v σ:=C.keep (fun q=>False) f (fun q _ k hk hy=>by subst hy;exact hB.2 q hk) (fun _ k hk=>by subst hk;exact nq_of hB.1 hU)
 exact⟨KK.head (by simp),KK.tab (by simp),KK.que (by simp),KK.whl (by simp),KK.dag (by simp),KK.cre (by simp),KK.evs (by simp),KK.gon (by simp),C.f0,C.f2,C.f5,C.f6,C.f7,C.f8,C.fp.grow f.size,le_trans C.lw f.size,le_trans C.wb f.size,C.qok,C.th1,C.th8,C.k16⟩
theorem Gc.own{w0:World}{F0:Nat→Nat→Prop}{K:Nat}(G:Gc L F0 w0 F w)(hK:w0.heap.size≤K)(hL:L≤w0.heap.size)(f:Ta.Fr (fun k=>k=K) w w'):Gc L F0 w0 F w':=
 ⟨G.low.trans (f.toBelow (fun k hk=>by subst hk;exact le_trans hL hK) (le_trans hL G.size)),fun k hk hF hU=>(f.block k (Nat.lt_of_lt_of_le hk G.size) (fun e=>by subst e;omega)).trans (G.block k hk hF hU),G.new⟩
theorem mq_st:¬Qu.MQ 41:=by unfold Qu.MQ;decide
theorem qt_st:¬QT 41:=by unfold QT;decide
theorem Co.freeC(C:Co w L D F g v σ):Calls Tryz.prog 51 #[pt D.ca] w fun e w'=>e=.returned (.int .i64 ((σ.n:Int)-σ.o))∧Cox L D F w σ w':=by
 refine(Ca.free_any w C.cre).mono ?_
 rintro e w' ⟨rfl,h,s⟩
 obtain⟨C',G'⟩:=C.setCre h s
 exact⟨rfl,_,_,_,C',G'⟩
theorem Co.allC(C:Co w L D F g v σ):Calls Tryz.prog 52 #[pt D.Bt] w fun e w'=>∃K cs,e=.returned (.slice (some ⟨K,0,none⟩) σ.T.length σ.T.length)∧∃F',(∃g' v',Co w' L D F' g' v' σ)∧Gc L F w F' w'∧Bx w' F' K cs 45∧Fil cs σ.T σ.T.length:=by
 refine(allT C.tab).mono ?_
 rintro e w' ⟨K,cs,rfl,lK,hK,fil,T',f⟩
 obtain⟨C',G'⟩:=C.setTab T' ⟨f,fun k hk=>.inl hk⟩
 rw[fset_id] at C' G'
 exact⟨K,cs,rfl,F,⟨_,_,C'⟩,G',⟨hK,fun p hp=>by have:=C.fp.lt p K hp;omega⟩,fil⟩
theorem Co.slotsC(C:Co w L D F g v σ):Calls Tryz.prog 53 #[pt D.A.B] w fun e w'=>∃a n cap,e=.returned (.slice a n cap)∧Below w.heap.size w w':=by
 refine Calls.mono (Qu.qslots_any w L D.A σ.th σ.k σ.q _ C.que rfl) ?_
 rintro e w' ⟨a,cap,rfl,_,b⟩
 exact⟨a,_,cap,rfl,b⟩
theorem Co.sharedC(C:Co w L D F g v σ)(hn:σ.qn≤1000):Calls Tryz.prog 55 #[pt D.A.B] w fun e w'=>∃a n cap,e=.returned (.slice a n cap)∧Below w.heap.size w w':=by
 refine Calls.mono (Qu.qshared_any w L D.A σ.th σ.k σ.qn σ.q _ C.que C.qok hn rfl) ?_
 rintro e w' ⟨a,cap,rfl,_,b⟩
 exact⟨a,_,cap,rfl,b⟩
theorem Co.wallC(C:Co w L D F g v σ):Calls Tryz.prog 56 #[pt D.Bw] w fun e w'=>∃a cap,e=.returned (.slice a σ.tm.length cap)∧Wl.OwnF w' w.heap.size (.slice a σ.tm.length cap) σ.tm∧Below w.heap.size w w':=by
 refine Calls.mono (Wl.all_any C.whl) ?_
 rintro e w' ⟨v,rfl,o,b⟩
 rcases o with⟨hd,hv|⟨gg,off,hv⟩⟩|⟨gg,off,cap,hv,r⟩
 ·refine⟨none,0,?_,.inl ⟨hd,.inl ?_⟩,b⟩
  ·rw[hv,hd];rfl
  ·rw[hd];rfl
 ·refine⟨some ⟨gg,off,none⟩,0,?_,.inl ⟨hd,.inr ⟨gg,off,?_⟩⟩,b⟩
  ·rw[hv,hd];rfl
  ·rw[hd];rfl
 ·exact⟨some ⟨gg,off,none⟩,cap,by rw[hv],.inr ⟨gg,off,cap,rfl,r⟩,b⟩
def z9:Array Value:=#[.int .u64 0,.int .u64 0,.bool false,.int .i64 0,.slice none 0 0,.slice none 0 0,.slice none 0 0,.slice none 0 0,.slice none 0 0]
def set9(w:World)(K:Nat)(a0 a1 a2 a3 a4 a5 a6 a7 a8:Value):World:=((((((((w.setCell ⟨K,0,none⟩ a0).setCell ⟨K,1,none⟩ a1).setCell ⟨K,2,none⟩ a2).setCell ⟨K,3,none⟩ a3).setCell ⟨K,4,none⟩ a4).setCell ⟨K,5,none⟩ a5).setCell ⟨K,6,none⟩ a6).setCell ⟨K,7,none⟩ a7).setCell ⟨K,8,none⟩ a8
theorem set9_fr(w:World)(K:Nat)(a0 a1 a2 a3 a4 a5 a6 a7 a8:Value):Ta.Fr (fun k=>k=K) w (set9 w K a0 a1 a2 a3 a4 a5 a6 a7 a8):=by
 have sK:∀(u0:World)(j:Nat)(z:Value),Ta.Fr (fun k=>k=K) u0 (u0.setCell ⟨K,j,none⟩ z):=fun u0 j z=>Ta.Fr.setCell (fun k=>k=K) u0 K j z rfl
 exact((((((((sK w 0 _).trans (sK _ 1 _) (fun j hj=>.inl hj)).trans (sK _ 2 _) (fun j hj=>.inl hj)).trans (sK _ 3 _) (fun j hj=>.inl hj)).trans (sK _ 4 _) (fun j hj=>.inl hj)).trans (sK _ 5 _) (fun j hj=>.inl hj)).trans (sK _ 6 _) (fun j hj=>.inl hj)).trans (sK _ 7 _) (fun j hj=>.inl hj)).trans (sK _ 8 _) (fun j hj=>.inl hj)
theorem set9_at{w:World}{K:Nat}(h:w.heap[K]?=some (.cells z9 41 (0,0)))(a0 a1 a2 a3 a4 a5 a6 a7 a8:Value):(set9 w K a0 a1 a2 a3 a4 a5 a6 a7 a8).heap[K]?=some (.cells #[a0,a1,a2,a3,a4,a5,a6,a7,a8] 41 (0,0)):=by
 unfold set9
 rw[set_at (set_at (set_at (set_at (set_at (set_at (set_at (set_at (set_at h a0) a1) a2) a3) a4) a5) a6) a7) a8]
 simp[z9]
theorem stateC(C:Co w L D F g v σ)(hn:σ.qn≤1000):Calls Tryz.prog 11 #[pt D.B] w (StIs L D F w σ):=by
 obtain⟨K,hK⟩:∃J,w.heap.size=J:=⟨_,rfl⟩
 obtain⟨u,hu⟩:∃z,w.alloc (.cells z9 41)=z:=⟨_,rfl⟩
 have b0:Below w.heap.size w u.drew:=by rw[←hu];exact(belA _ _).drew
 have BK:Bx u.drew F K z9 41:=by rw[←hu,←hK];exact Bx.new C _ _
 have C0:=C.below b0
 have HC:Aside (Co u.drew L D F g v σ∧Gc L F w F u.drew∧Bx u.drew F K z9 41∧σ.qn≤1000∧L≤w.heap.size∧w.heap.size=K):=⟨C0,Gc.below F C.lw b0,BK,hn,C.lw,hK⟩
 have h0:=C0.hd6
 have NW:Aside (Calls Tryz.prog 50 #[pt D.Bw] u.drew fun e w'=>e=.returned (.int .u64 σ.now)∧w'=u.drew):=Wl.now_any C0.whl
 have PF:Aside (Calls Tryz.prog 51 #[pt D.ca] u.drew fun e w'=>e=.returned (.int .i64 ((σ.n:Int)-σ.o))∧Cox L D F u.drew σ w'):=C0.freeC
 obtain⟨fr,hfr⟩:∃fr,(σ.n:Int)-σ.o=fr:=⟨_,rfl⟩
 rw[hfr] at PF
 obtain⟨nT,hnT⟩:∃nT,σ.T.length=nT:=⟨_,rfl⟩
 obtain⟨nM,hnM⟩:∃nT,σ.tm.length=nT:=⟨_,rfl⟩
 obtain⟨nH,hnH⟩:∃nT,σ.th=nT:=⟨_,rfl⟩
 have HL:Aside ((σ.n:Int)-σ.o=fr∧σ.T.length=nT∧σ.tm.length=nM∧σ.th=nH):=⟨hfr,hnT,hnM,hnH⟩
 have HU:Aside (w.alloc (.cells #[.int .u64 0,.int .u64 0,.bool false,.int .i64 0,.slice none 0 0,.slice none 0 0,.slice none 0 0,.slice none 0 0,.slice none 0 0] 41)=u):=hu
 have HK:Aside _:=hK
 clear C C0 hu hK b0 BK hn hfr hnT hnM hnH
 go_enter Tryz.func11,Tryz.ntmps11
 go_upto_region 1 with fail
 rw[HU.out]
 try simp only[HK.out]
 go_region_held3 (fun W=>W.cell? ⟨D.B,3,none⟩=some (pt D.Bt)∧W.cell? ⟨D.B,4,none⟩=some (pt D.A.B)∧W.cell? ⟨D.B,5,none⟩=some (pt D.Bw)∧W.cell? ⟨D.B,7,none⟩=some (pt D.ca)∧W.cell? ⟨D.B,8,none⟩=some (.int .u64 σ.tk)∧W.cell? ⟨D.B,9,none⟩=some (.bool σ.cl)) (first|with_reducible exact h0|with_reducible exact h1|with_reducible exact h2|with_reducible exact h3|with_reducible exact h4|with_reducible exact h5|with_reducible exact h6|exact K9.out _ _ _ _ _ _ _ _ _)
  ((first
   | (go_at_call 56;(with_reducible refine Calls.mono PW.out ?_);rintro e w6 ⟨s4,c4,rfl,b6⟩;have C6:Aside (Co w6 L D F2 g2 v2 σ):=C5.out.below b6;have h6:=C6.out.hd6;have B6:Aside (Bx w6 F2 K z9 41∧Bx w6 F2 KT cs 45):=⟨B5.out.1.below b6,B5.out.2.below b6⟩;have K9:Aside (∀a0 a1 a2 a3 a4 a5 a6 a7 a8,(set9 w6 K a0 a1 a2 a3 a4 a5 a6 a7 a8).cell? ⟨D.B,3,none⟩=some (pt D.Bt)∧(set9 w6 K a0 a1 a2 a3 a4 a5 a6 a7 a8).cell? ⟨D.B,4,none⟩=some (pt D.A.B)∧(set9 w6 K a0 a1 a2 a3 a4 a5 a6 a7 a8).cell? ⟨D.B,5,none⟩=some (pt D.Bw)∧(set9 w6 K a0 a1 a2 a3 a4 a5 a6 a7 a8).cell? ⟨D.B,7,none⟩=some (pt D.ca)∧(set9 w6 K a0 a1 a2 a3 a4 a5 a6 a7 a8).cell? ⟨D.B,8,none⟩=some (.int .u64 σ.tk)∧(set9 w6 K a0 a1 a2 a3 a4 a5 a6 a7 a8).cell? ⟨D.B,9,none⟩=some (.bool σ.cl)):=(fun a0 a1 a2 a3 a4 a5 a6 a7 a8=>(C6.out.fr1 B6.out.1 qt_st (set9_fr w6 K a0 a1 a2 a3 a4 a5 a6 a7 a8)).hd6);have m0:w6.cell? ⟨K,0,none⟩=some (.int .u64 0):=(B6.out.1.cell 0);have m1:w6.cell? ⟨K,1,none⟩=some (.int .u64 0):=(B6.out.1.cell 1);have m2:w6.cell? ⟨K,2,none⟩=some (.bool false):=(B6.out.1.cell 2);have m3:w6.cell? ⟨K,3,none⟩=some (.int .i64 0):=(B6.out.1.cell 3);have m4:w6.cell? ⟨K,4,none⟩=some (.slice none 0 0):=(B6.out.1.cell 4);have m5:w6.cell? ⟨K,5,none⟩=some (.slice none 0 0):=(B6.out.1.cell 5);have m6:w6.cell? ⟨K,6,none⟩=some (.slice none 0 0):=(B6.out.1.cell 6);have m7:w6.cell? ⟨K,7,none⟩=some (.slice none 0 0):=(B6.out.1.cell 7);have m8:w6.cell? ⟨K,8,none⟩=some (.slice none 0 0):=(B6.out.1.cell 8);have mlt:=lt_of_block B6.out.1.1;have mfz:∀o,w6.frozen? ⟨K,o,none⟩=false:=(fun o=>by simp[World.frozen?,B6.out.1.1]))
   | (go_at_call 55;(with_reducible refine Calls.mono PH.out ?_);rintro e w5 ⟨s3,n3,c3,rfl,b5⟩;have C5:Aside (Co w5 L D F2 g2 v2 σ):=C4.out.below b5;have h5:=C5.out.hd6;have B5:Aside (Bx w5 F2 K z9 41∧Bx w5 F2 KT cs 45):=⟨B4.out.1.below b5,B4.out.2.below b5⟩;have PW:Aside (Calls Tryz.prog 56 #[pt D.Bw] w5 fun e w'=>∃a cap,e=.returned (.slice a nM cap)∧Below w5.heap.size w5 w'):=(by have:=C5.out.wallC;rw[HL.out.2.2.1] at this;exact this.mono (fun e w' ⟨a,cap,h1,_,h2⟩=>⟨a,cap,h1,h2⟩)))
   | (go_at_call 54;(with_reducible refine Calls.mono PL.out ?_);rintro e w4 ⟨K4,rfl,b4⟩;have C4:Aside (Co w4 L D F2 g2 v2 σ):=C3.out.below b4;have h4:=C4.out.hd6;have B4:Aside (Bx w4 F2 K z9 41∧Bx w4 F2 KT cs 45):=⟨B3.out.1.below b4,B3.out.2.below b4⟩;have PH:Aside (Calls Tryz.prog 55 #[pt D.A.B] w4 fun e w'=>∃a n cap,e=.returned (.slice a n cap)∧Below w4.heap.size w4 w'):=C4.out.sharedC HC.out.2.2.2.1)
   | (go_at_call 53;(with_reducible refine Calls.mono PS.out ?_);rintro e w3 ⟨s1,n1,c1,rfl,b3⟩;have C3:Aside (Co w3 L D F2 g2 v2 σ):=C2.out.below b3;have h3:=C3.out.hd6;have B3:Aside (Bx w3 F2 K z9 41∧Bx w3 F2 KT cs 45):=⟨B2.out.1.below b3,B2.out.2.below b3⟩;have PL:Aside (Calls Tryz.prog 54 #[pt D.B] w3 fun e w'=>∃K,e=.returned (.slice (some ⟨K,0,none⟩) nH nH)∧Below w3.heap.size w3 w'):=(by have:=localsC C3.out;rw[HL.out.2.2.2] at this;exact this))
   | (go_at_call 52;(with_reducible refine Calls.mono PT.out ?_);rintro e w2 ⟨KT,cs,rfl,F2,⟨g2,v2,C2'⟩,G2,BT,fil⟩;have C2:Aside (Co w2 L D F2 g2 v2 σ):=C2';have h2:=C2'.hd6;have B2:Aside (Bx w2 F2 K z9 41∧Bx w2 F2 KT cs 45):=⟨B1.out.gc mq_st G2,BT⟩;have X2:Aside (Gc L F w F2 w2):=X1.out.trans G2;have FIL:Aside _:=fil;have PS:Aside (Calls Tryz.prog 53 #[pt D.A.B] w2 fun e w'=>∃a n cap,e=.returned (.slice a n cap)∧Below w2.heap.size w2 w'):=C2'.slotsC;clear C2' G2 BT fil)
   | (go_at_call 51;(with_reducible refine Calls.mono PF.out ?_);rintro e w1 ⟨rfl,F1,g1,v1,C1,G1⟩;have h1:=C1.hd6;have B1:Aside (Bx w1 F1 K z9 41):=HC.out.2.2.1.gc mq_st G1;have X1:Aside (Gc L F w F1 w1):=HC.out.2.1.trans G1;have PT:Aside (Calls Tryz.prog 52 #[pt D.Bt] w1 fun e w'=>∃K cs,e=.returned (.slice (some ⟨K,0,none⟩) nT nT)∧∃F',(∃g' v',Co w' L D F' g' v' σ)∧Gc L F1 w1 F' w'∧Bx w' F' K cs 45∧Fil cs σ.T nT):=(by have:=C1.allC;rw[HL.out.2.1] at this;exact this);clear C1 G1)
   | (go_at_call 50;(with_reducible refine Calls.mono NW.out ?_);rintro e v2 ⟨rfl,rfl⟩)))
 have E:Aside ((set9 w6 K (.int .u64 σ.now) (.int .u64 σ.tk) (.bool σ.cl) (.int .i64 fr) (.slice (some ⟨KT,0,none⟩) nT nT) (.slice s1 n1 c1) (.slice (some ⟨K4,0,none⟩) nH nH) (.slice s3 n3 c3) (.slice s4 nM c4)).heap[K]?=some (.cells #[.int .u64 σ.now,.int .u64 σ.tk,.bool σ.cl,.int .i64 fr,.slice (some ⟨KT,0,none⟩) nT nT,.slice s1 n1 c1,.slice (some ⟨K4,0,none⟩) nH nH,.slice s3 n3 c3,.slice s4 nM c4] 41 (0,0))):=set9_at B6.out.1.1 _ _ _ _ _ _ _ _ _
 have FIN:Aside (StIs L D F w σ (.returned (.agg #[.int .u64 σ.now,.int .u64 σ.tk,.bool σ.cl,.int .i64 fr,.slice (some ⟨KT,0,none⟩) nT nT,.slice s1 n1 c1,.slice (some ⟨K4,0,none⟩) nH nH,.slice s3 n3 c3,.slice s4 nM c4])) (set9 w6 K (.int .u64 σ.now) (.int .u64 σ.tk) (.bool σ.cl) (.int .i64 fr) (.slice (some ⟨KT,0,none⟩) nT nT) (.slice s1 n1 c1) (.slice (some ⟨K4,0,none⟩) nH nH) (.slice s3 n3 c3) (.slice s4 nM c4))):=by
  have f:=set9_fr w6 K (.int .u64 σ.now) (.int .u64 σ.tk) (.bool σ.cl) (.int .i64 fr) (.slice (some ⟨KT,0,none⟩) nT nT) (.slice s1 n1 c1) (.slice (some ⟨K4,0,none⟩) nH nH) (.slice s3 n3 c3) (.slice s4 nM c4)
  have G6:Gc L F w F2 w6:=X2.out.trans (Gc.below F2 C2.out.lw (belT b3 (belT b4 (belT b5 b6))))
  have KT6:=B6.out.2
  have hne:KT≠K:=fun e=>by
   have h1:=KT6.1
   have h2:=B6.out.1.1
   rw[e,h2] at h1
   simp only[Option.some.injEq,Obj.cells.injEq] at h1
   exact absurd h1.2.1 (by decide)
  refine⟨KT,cs,s1,n1,c1,some ⟨K4,0,none⟩,nH,nH,s3,n3,c3,s4,c4,F2,g2,v2,?_,C6.out.fr1 B6.out.1 qt_st f,G6.own (le_of_eq HC.out.2.2.2.2.2) HC.out.2.2.2.2.1 f,⟨(f.block KT (lt_of_block KT6.1) hne).trans KT6.1,KT6.2⟩,?_⟩
  ·rw[HL.out.1,HL.out.2.1,HL.out.2.2.1]
  ·rw[HL.out.2.1];exact FIL.out
 clear h0 h1 h2 h3 h4 h5 h6 b3 b4 b5 b6 m0 m1 m2 m3 m4 m5 m6 m7 m8 mlt mfz
 have eb:=fun j=>cell_of_row _ _ j _ _ _ E.out
 unfold set9 at eb FIN
 go_wp2_with fail
 have q0:=eb 0
 have q1:=eb 1
 have q2:=eb 2
 have q3:=eb 3
 have q4:=eb 4
 have q5:=eb 5
 have q6:=eb 6
 have q7:=eb 7
 have q8:=eb 8
 refine bodyPost_ret (v:=.agg #[.int .u64 σ.now,.int .u64 σ.tk,.bool σ.cl,.int .i64 fr,.slice (some ⟨KT,0,none⟩) nT nT,.slice s1 n1 c1,.slice (some ⟨K4,0,none⟩) nH nH,.slice s3 n3 c3,.slice s4 nM c4]) (by simp[results,Tryz.results11,go_sem,q0,q1,q2,q3,q4,q5,q6,q7,q8]) rfl ?_
 exact FIN.out
end
theorem fldFree(n t:Int)(c:Bool)(f:Int)(a1 a2 a3 a4 a5:Option Addr)(n1 n2 n3 n4 n5 c1 c2 c3 c4 c5:Nat)(w:World):(Instr.field 41 (.agg #[.int .u64 n,.int .u64 t,.bool c,.int .i64 f,.slice a1 n1 c1,.slice a2 n2 c2,.slice a3 n3 c3,.slice a4 n4 c4,.slice a5 n5 c5]) 3).run Tryz.prog w=.ok (.int .i64 f) w:=by
 simp[Instr.field,asAgg,part,isAgg,run_underlying Tryz.underlying41,run_underlying Tryz.underlying3,go_sem]
end Go.Proofs.YthpgfmmpjoodkaaGreatDoor
