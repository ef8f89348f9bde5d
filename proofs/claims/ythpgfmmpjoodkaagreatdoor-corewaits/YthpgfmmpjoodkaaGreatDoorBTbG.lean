import Derived.Test.YthpgfmmpjoodkaaGreatDoorBTbC
namespace Go.Proofs.YthpgfmmpjoodkaaGreatDoor.Ta
set_option maxHeartbeats 8000000
set_option maxRecDepth 100000
set_option linter.unusedVariables false
open Go.RowKit Go.Lib Go.WideMaps Go.Maps
section
variable {w w' u:World}{B a b r M n g cap i O:Nat}{v v':Value}{T T':List TR}{x y:TR}{ws ws':Nat→Int}{fc fc':Int×Int→Option Value}
theorem get_keep(h:Tab u B a b r M n (.slice (some ⟨g,0,none⟩) T.length cap) T ws fc)(hi:T[i]?=some x)(hO:i*9=O){K:Nat}(hK:∀k,tf B a b r M (.slice (some ⟨g,0,none⟩) T.length cap) k→k<K)(I1:Int):(((((((u.setCell ⟨K,0,none⟩ (.int .i64 I1)).setCell ⟨K,1,none⟩ (.int .i64 x.prio)).setCell ⟨K,2,none⟩ (.int .i64 x.s)).setCell ⟨K,3,none⟩ (.int .u64 x.due)).setCell ⟨K,4,none⟩ (.int .u64 x.key)).setCell ⟨K,5,none⟩ (.int .u64 x.r)).setCell ⟨K,6,none⟩ (.int .u64 x.m)).cell? ⟨B,0,none⟩=some (.pointer (some ⟨a,0,none⟩))∧(((((((u.setCell ⟨K,0,none⟩ (.int .i64 I1)).setCell ⟨K,1,none⟩ (.int .i64 x.prio)).setCell ⟨K,2,none⟩ (.int .i64 x.s)).setCell ⟨K,3,none⟩ (.int .u64 x.due)).setCell ⟨K,4,none⟩ (.int .u64 x.key)).setCell ⟨K,5,none⟩ (.int .u64 x.r)).setCell ⟨K,6,none⟩ (.int .u64 x.m)).cell? ⟨g,O,none⟩=some (.int .i64 x.prio)∧(((((((u.setCell ⟨K,0,none⟩ (.int .i64 I1)).setCell ⟨K,1,none⟩ (.int .i64 x.prio)).setCell ⟨K,2,none⟩ (.int .i64 x.s)).setCell ⟨K,3,none⟩ (.int .u64 x.due)).setCell ⟨K,4,none⟩ (.int .u64 x.key)).setCell ⟨K,5,none⟩ (.int .u64 x.r)).setCell ⟨K,6,none⟩ (.int .u64 x.m)).cell? ⟨g,O+1,none⟩=some (.int .u64 x.due)∧(((((((u.setCell ⟨K,0,none⟩ (.int .i64 I1)).setCell ⟨K,1,none⟩ (.int .i64 x.prio)).setCell ⟨K,2,none⟩ (.int .i64 x.s)).setCell ⟨K,3,none⟩ (.int .u64 x.due)).setCell ⟨K,4,none⟩ (.int .u64 x.key)).setCell ⟨K,5,none⟩ (.int .u64 x.r)).setCell ⟨K,6,none⟩ (.int .u64 x.m)).cell? ⟨g,O+2,none⟩=some (.int .u64 x.key)∧(((((((u.setCell ⟨K,0,none⟩ (.int .i64 I1)).setCell ⟨K,1,none⟩ (.int .i64 x.prio)).setCell ⟨K,2,none⟩ (.int .i64 x.s)).setCell ⟨K,3,none⟩ (.int .u64 x.due)).setCell ⟨K,4,none⟩ (.int .u64 x.key)).setCell ⟨K,5,none⟩ (.int .u64 x.r)).setCell ⟨K,6,none⟩ (.int .u64 x.m)).cell? ⟨g,O+7,none⟩=some (.int .u64 x.r)∧(((((((u.setCell ⟨K,0,none⟩ (.int .i64 I1)).setCell ⟨K,1,none⟩ (.int .i64 x.prio)).setCell ⟨K,2,none⟩ (.int .i64 x.s)).setCell ⟨K,3,none⟩ (.int .u64 x.due)).setCell ⟨K,4,none⟩ (.int .u64 x.key)).setCell ⟨K,5,none⟩ (.int .u64 x.r)).setCell ⟨K,6,none⟩ (.int .u64 x.m)).cell? ⟨g,O+8,none⟩=some (.int .u64 x.m):=by
 have sK:∀(u0:World)(j:Nat)(z:Value),Fr (fun k=>k=K) u0 (u0.setCell ⟨K,j,none⟩ z):=fun u0 j z=>Fr.setCell _ u0 K j z rfl
 have FK:Fr (fun k=>k=K) u (((((((u.setCell ⟨K,0,none⟩ (.int .i64 I1)).setCell ⟨K,1,none⟩ (.int .i64 x.prio)).setCell ⟨K,2,none⟩ (.int .i64 x.s)).setCell ⟨K,3,none⟩ (.int .u64 x.due)).setCell ⟨K,4,none⟩ (.int .u64 x.key)).setCell ⟨K,5,none⟩ (.int .u64 x.r)).setCell ⟨K,6,none⟩ (.int .u64 x.m)):=
  ((((((sK u 0 _).trans (sK _ 1 _) (fun j hj=>.inl hj)).trans (sK _ 2 _) (fun j hj=>.inl hj)).trans (sK _ 3 _) (fun j hj=>.inl hj)).trans (sK _ 4 _) (fun j hj=>.inl hj)).trans (sK _ 5 _) (fun j hj=>.inl hj)).trans (sK _ 6 _) (fun j hj=>.inl hj)
 have XF:=h.fr FK (fun k hk e=>by have:=hK k hk;omega)
 obtain⟨k0,k1,k2,k4,k5,k6,k7,k8,fz⟩:=XF.tc hi hO
 exact⟨XF.c0,k0,k1,k2,k7,k8⟩
theorem get_any(h:Tab w B a b r M n (.slice (some ⟨g,0,none⟩) T.length cap) T ws fc)(I:TInv T ws fc n)(hn:n≤1000)(hi:T[i]?=some x) :
  Calls Tryz.prog 49 #[.pointer (some ⟨B,0,none⟩),.int .i64 ((i:Int)+1)] w fun e w'=>e=.returned (.tuple #[.agg #[.int .i64 ((i:Int)+1),.int .i64 x.prio,.int .i64 x.s,.int .u64 x.due,.int .u64 x.key,.int .u64 x.r,.int .u64 x.m],.bool true])∧Tab w' B a b r M n (.slice (some ⟨g,0,none⟩) T.length cap) T ws fc∧Fr (tf B a b r M (.slice (some ⟨g,0,none⟩) T.length cap)) w w':=by
 have hlen:i<T.length:=(List.getElem?_eq_some_iff.1 hi).1
 have hin:i<n:=by have:=I.le;omega
 have hst:=I.st i x hi
 obtain⟨O,hO⟩:∃O,i*9=O:=⟨_,rfl⟩
 obtain⟨K,hK⟩:∃K,w.heap.size=K:=⟨_,rfl⟩
 obtain⟨u,hu⟩:∃z,w.alloc (.cells #[.int .i64 0,.int .i64 0,.int .i64 0,.int .u64 0,.int .u64 0,.int .u64 0,.int .u64 0] 45)=z:=⟨_,rfl⟩
 have hB:u.heap[K]?=some (.cells #[.int .i64 0,.int .i64 0,.int .i64 0,.int .u64 0,.int .u64 0,.int .u64 0,.int .u64 0] 45 (0,0)):=by rw[←hu,←hK];exact heap_alloc_new w _
 have b0:Below w.heap.size w u:=by rw[←hu];exact bel1 _ _
 have hU:=h.below b0
 have hf:=find_in hU hlen (by have:=I.le;omega)
 rw[hO] at hf
 have X0:Aside (Tab u.drew B a b r M n (.slice (some ⟨g,0,none⟩) T.length cap) T ws fc∧Fr (tf B a b r M (.slice (some ⟨g,0,none⟩) T.length cap)) w u.drew∧T[i]?=some x∧i*9=O∧u.drew.heap[K]?=some (.cells #[.int .i64 0,.int .i64 0,.int .i64 0,.int .u64 0,.int .u64 0,.int .u64 0,.int .u64 0] 45 (0,0))):=⟨hU.drew,(Fr.below b0).drew,hi,hO,hB⟩
 have hS:Aside _:=state_in u.drew a b r n ws X0.out.1.arn i hin
 rw[hst] at hS
 have HLT:Aside (∀k,tf B a b r M (.slice (some ⟨g,0,none⟩) T.length cap) k→k<K):=fun k hk=>by have:=h.tfLt hk;omega
 obtain⟨ca,ha'⟩:=hU.ha
 obtain⟨cb,hb'⟩:=hU.hb
 obtain⟨cr,hr'⟩:=hU.hr
 have NE:Aside (K≠a∧K≠b∧K≠r):=⟨un_cells hB ha' (by decide),un_cells hB hb' (by decide),un_cells hB hr' (by decide)⟩
 have c0:u.drew.cell? ⟨B,0,none⟩=some (.pointer (some ⟨a,0,none⟩)):=X0.out.1.c0
 obtain⟨k0,k1,k2,k4,k5,k6,k7,k8,fz⟩:=X0.out.1.tc hi hO
 have HU:Aside _:=hu
 have HK:Aside _:=hK
 clear h I hi hO hst hlen hU ha' hb' hr' hB b0 hu k4 k5 k6 fz
 go_enter Tryz.func49,Tryz.ntmps49
 go_wp2_with fail
 rw[HU.out]
 refine hf.mono ?_
 rintro e w1 ⟨rfl,rfl⟩
 clear hf
 go_upto_region 4 with fail
 go_region_held3 (fun w'=>w'.cell? ⟨B,0,none⟩=some (.pointer (some ⟨a,0,none⟩))∧w'.cell? ⟨g,O,none⟩=some (.int .i64 x.prio)∧w'.cell? ⟨g,O+1,none⟩=some (.int .u64 x.due)∧w'.cell? ⟨g,O+2,none⟩=some (.int .u64 x.key)∧w'.cell? ⟨g,O+7,none⟩=some (.int .u64 x.r)∧w'.cell? ⟨g,O+8,none⟩=some (.int .u64 x.m)) (first|go_keep|exact get_keep X2.out X0.out.2.2.1 X0.out.2.2.2.1 HLT.out _) ((go_at_call 101;refine Calls.mono hS.out ?_;rintro e v2 ⟨rfl,a2,q2⟩;have X2:Aside (Tab v2 B a b r M n (.slice (some ⟨g,0,none⟩) T.length cap) T ws fc):=X0.out.1.setA q2 a2;have y0:v2.cell? ⟨B,0,none⟩=some (.pointer (some ⟨a,0,none⟩)):=X2.out.c0;obtain⟨z0,z1,z2,z4,z5,z6,z7,z8,zf⟩:=X2.out.tc X0.out.2.2.1 X0.out.2.2.2.1;have KB:v2.heap[K]?=some (.cells #[.int .i64 0,.int .i64 0,.int .i64 0,.int .u64 0,.int .u64 0,.int .u64 0,.int .u64 0] 45 (0,0)):=(q2.block K (lt_of_block X0.out.2.2.2.2) NE.out.1 NE.out.2.1 NE.out.2.2).trans X0.out.2.2.2.2;have kb:=fun j=>cell_of_row _ _ j _ _ _ KB;have m0:v2.cell? ⟨K,0,none⟩=some (.int .i64 0):=kb 0;have m1:v2.cell? ⟨K,1,none⟩=some (.int .i64 0):=kb 1;have m2:v2.cell? ⟨K,2,none⟩=some (.int .i64 0):=kb 2;have m3:v2.cell? ⟨K,3,none⟩=some (.int .u64 0):=kb 3;have m4:v2.cell? ⟨K,4,none⟩=some (.int .u64 0):=kb 4;have m5:v2.cell? ⟨K,5,none⟩=some (.int .u64 0):=kb 5;have m6:v2.cell? ⟨K,6,none⟩=some (.int .u64 0):=kb 6;have fzk:∀o,v2.frozen? ⟨K,o,none⟩=false:=(fun o=>by simp[World.frozen?,KB]);clear kb z4 z5 z6 zf))
 have F2:Aside (Fr (tf B a b r M (.slice (some ⟨g,0,none⟩) T.length cap)) w v2):=X0.out.2.1.trans (Fr.kept q2) (fun j hj=>.inl (tf_abr hj))
 obtain⟨I1,hI1⟩:∃I1,(i:Int)+1=I1:=⟨_,rfl⟩
 have E:Aside ((((((((v2.setCell ⟨K,0,none⟩ (.int .i64 I1)).setCell ⟨K,1,none⟩ (.int .i64 x.prio)).setCell ⟨K,2,none⟩ (.int .i64 x.s)).setCell ⟨K,3,none⟩ (.int .u64 x.due)).setCell ⟨K,4,none⟩ (.int .u64 x.key)).setCell ⟨K,5,none⟩ (.int .u64 x.r)).setCell ⟨K,6,none⟩ (.int .u64 x.m)).heap[K]?=some (.cells #[.int .i64 I1,.int .i64 x.prio,.int .i64 x.s,.int .u64 x.due,.int .u64 x.key,.int .u64 x.r,.int .u64 x.m] 45 (0,0))):=set_head (set_head (set_head (set_head (set_head (set_head (set_head KB))))))
 have sK:∀(u0:World)(j:Nat)(z:Value),Fr (fun k=>k=K) u0 (u0.setCell ⟨K,j,none⟩ z):=fun u0 j z=>Fr.setCell _ u0 K j z rfl
 have FK:Aside (Fr (fun k=>k=K) v2 (((((((v2.setCell ⟨K,0,none⟩ (.int .i64 I1)).setCell ⟨K,1,none⟩ (.int .i64 x.prio)).setCell ⟨K,2,none⟩ (.int .i64 x.s)).setCell ⟨K,3,none⟩ (.int .u64 x.due)).setCell ⟨K,4,none⟩ (.int .u64 x.key)).setCell ⟨K,5,none⟩ (.int .u64 x.r)).setCell ⟨K,6,none⟩ (.int .u64 x.m))):=
  ((((((sK v2 0 _).trans (sK _ 1 _) (fun j hj=>.inl hj)).trans (sK _ 2 _) (fun j hj=>.inl hj)).trans (sK _ 3 _) (fun j hj=>.inl hj)).trans (sK _ 4 _) (fun j hj=>.inl hj)).trans (sK _ 5 _) (fun j hj=>.inl hj)).trans (sK _ 6 _) (fun j hj=>.inl hj)
 have XF:Aside _:=X2.out.fr FK.out (fun k hk e=>by have:=HLT.out k hk;omega)
 have FF:Aside _:=F2.out.trans FK.out (fun j hj=>.inr (by rw[HK.out];exact Nat.le_of_eq hj.symm))
 have eb:=fun j=>cell_of_row _ _ j _ _ _ E.out
 go_wp2_with fail
 rw[hI1]
 have q0:=eb 0
 have q1:=eb 1
 have q2:=eb 2
 have q3:=eb 3
 have q4:=eb 4
 have q5:=eb 5
 have q6:=eb 6
 refine bodyPost_ret (v:=.tuple #[.agg #[.int .i64 I1,.int .i64 x.prio,.int .i64 x.s,.int .u64 x.due,.int .u64 x.key,.int .u64 x.r,.int .u64 x.m],.bool true]) (by simp[results,Tryz.results49,go_sem,q0,q1,q2,q3,q4,q5,q6]) rfl ⟨rfl,?_,?_⟩
 ·exact XF.out
 ·exact FF.out
end
section
variable {w w' w0 u:World}{X X' Y:Nat→Prop}{B n i S:Nat}{T T':List TR}{x y:TR}
theorem getG(h:Tb w X B n T)(hi:T[i]?=some x) :
  Calls Tryz.prog 49 #[.pointer (some ⟨B,0,none⟩),.int .i64 ((i:Int)+1)] w fun e w'=>e=.returned (.tuple #[.agg #[.int .i64 ((i:Int)+1),.int .i64 x.prio,.int .i64 x.s,.int .u64 x.due,.int .u64 x.key,.int .u64 x.r,.int .u64 x.m],.bool true])∧Tb w' X B n T∧Sx X w X w':=by
 obtain⟨hn,a,b,r,M,v,ws,fc,D,I,hX⟩:=h
 obtain⟨g,cap,rfl⟩:=D.len hi
 refine(get_any D I hn hi).mono ?_
 rintro e w' ⟨rfl,D',F⟩
 exact⟨rfl,⟨hn,a,b,r,M,_,ws,fc,D',I,hX⟩,sx_same hX F⟩
end
end Go.Proofs.YthpgfmmpjoodkaaGreatDoor.Ta
