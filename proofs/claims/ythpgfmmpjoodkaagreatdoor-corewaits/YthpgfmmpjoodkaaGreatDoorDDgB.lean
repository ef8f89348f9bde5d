import Derived.Test.YthpgfmmpjoodkaaGreatDoorAnyF
import Derived.Test.YthpgfmmpjoodkaaGreatDoorA0
import Derived.Test.YthpgfmmpjoodkaaGreatDoorDDgL
import Derived.Deep.RegionHeld3
import Derived.StillTail
namespace Go.Proofs.YthpgfmmpjoodkaaGreatDoor.Da
set_option maxHeartbeats 8000000
set_option maxRecDepth 100000
set_option linter.unusedVariables false
section
open Go.RowKit Go.Lib Go.WideMaps Go.Maps
variable {w w':World}{B M0 N N':Nat}{M:Bool→Nat}{fp gp:Int×Int→Option Value}{f:Bool→Int→Option Value}{l:Bool→Int→List Int}
theorem DgA.cell0(h:DgA w B M0 M fp f l N):w.cell? ⟨B,0,none⟩=some (.map (some M0))∧w.cell? ⟨B,1,none⟩=some (.map (some (M true)))∧w.cell? ⟨B,2,none⟩=some (.map (some (M false))):=by
 have:=h.head
 refine⟨?_,?_,?_⟩<;>(rw[cell_of_row _ _ _ _ _ _ this];rfl)
theorem waits_any(h:DgA w B M0 M fp f l N)(hN:N≤1000000)(i:Int)(hi:wfI i):Calls Tryz.prog 233 #[.pointer (some ⟨B,0,none⟩),.int .i64 i] w fun e w'=>∃v',e=.returned v'∧OwnI w' w.heap.size v' (sortI (l false i))∧Below w.heap.size w w':=by
 obtain⟨c0,c1,c2⟩:=h.cell0
 have hl:=h.look false hi
 obtain⟨a,cap,e,q⟩:=h.lvlen false i
 rw[e] at hl
 have hr:=rising_any q (by have:=h.len false i;omega)
 clear c0 c1
 go_enter Tryz.func233,Tryz.ntmps233
 go_wp2_with fail
 refine hr.mono ?_
 rintro e w1 ⟨v1,rfl,o1,b1⟩
 clear hr hl c2
 go_wp2_with fail
 go_ret
 exact⟨_,rfl,o1,b1⟩
theorem behind_any(h:DgA w B M0 M fp f l N)(hN:N≤1000000)(i:Int)(hi:wfI i):Calls Tryz.prog 165 #[.pointer (some ⟨B,0,none⟩),.int .i64 i] w fun e w'=>∃v',e=.returned v'∧OwnI w' w.heap.size v' (sortI (l true i))∧Below w.heap.size w w':=by
 obtain⟨c0,c1,c2⟩:=h.cell0
 have hl:=h.look true hi
 obtain⟨a,cap,e,q⟩:=h.lvlen true i
 rw[e] at hl
 have hr:=rising_any q (by have:=h.len true i;omega)
 clear c0 c2
 go_enter Tryz.func165,Tryz.ntmps165
 go_wp2_with fail
 refine hr.mono ?_
 rintro e w1 ⟨v1,rfl,o1,b1⟩
 clear hr hl c1
 go_wp2_with fail
 go_ret
 exact⟨_,rfl,o1,b1⟩
theorem new_any(w:World):Calls Tryz.prog 39 #[] w fun e w'=>∃B M0 M,e=.returned (.pointer (some ⟨B,0,none⟩))∧DgA w' B M0 M (fun _=>none) (fun _ _=>none) (fun _ _=>[]) 0∧(∀k,ft B M0 M (fun _ _=>none) k→w.heap.size≤k)∧Below w.heap.size w w':=by
 have hmm:=@run_makeMap Tryz.prog
 obtain⟨S,hS⟩:∃S,w.heap.size=S:=⟨_,rfl⟩
 have b1:Below S w (w.alloc (.map #[] 0)):=(Below.refl _ _).alloc (by omega) _
 have b2:Below S w ((w.alloc (.map #[] 0)).alloc (.map #[] 0)):=b1.alloc (by simp;omega) _
 have b3:Below S w (((w.alloc (.map #[] 0)).alloc (.map #[] 0)).alloc (.map #[] 0)):=b2.alloc (by simp;omega) _
 obtain⟨w4,hw4⟩:∃w4,(((w.alloc (.map #[] 0)).alloc (.map #[] 0)).alloc (.map #[] 0)).alloc (.cells #[.map (some S),.map (some (S+1)),.map (some (S+1+1))] 180)=w4:=⟨_,rfl⟩
 have b4:Below S w w4:=by rw[←hw4];exact b3.alloc (by simp;omega) _
 have hB:w4.heap[S+1+1+1]?=some (.cells #[.map (some S),.map (some (S+1)),.map (some (S+1+1))] 180 (0,0)):=by
  rw[←hw4]
  have:=heap_alloc_new (((w.alloc (.map #[] 0)).alloc (.map #[] 0)).alloc (.map #[] 0)) (.cells #[.map (some S),.map (some (S+1)),.map (some (S+1+1))] 180)
  simpa [hS] using this
 have old:∀k,k<S+1+1+1→w4.heap[k]?=(((w.alloc (.map #[] 0)).alloc (.map #[] 0)).alloc (.map #[] 0)).heap[k]?:=fun k hk=>by
  rw[←hw4];exact heap_alloc_old _ _ (by simp[hS];omega)
 have m0:MapG keyP w4 S (fun _=>none) 0:=by
  have:=MapG.made keyP w
  rw[hS] at this
  exact this.of_block ((old S (by omega)).trans ((heap_alloc_old _ _ (by simp[hS];omega)).trans (heap_alloc_old _ _ (by simp[hS]))))
 have m1:MapG keyI w4 (S+1) (fun _=>none) 0:=by
  have:=MapG.made keyI (w.alloc (.map #[] 0))
  rw[show(w.alloc (.map #[] 0)).heap.size=S+1 by simp[hS]] at this
  exact this.of_block ((old (S+1) (by omega)).trans (heap_alloc_old _ _ (by simp[hS])))
 have m2:MapG keyI w4 (S+1+1) (fun _=>none) 0:=by
  have:=MapG.made keyI ((w.alloc (.map #[] 0)).alloc (.map #[] 0))
  rw[show((w.alloc (.map #[] 0)).alloc (.map #[] 0)).heap.size=S+1+1 by simp[hS]] at this
  exact this.of_block (old (S+1+1) (by omega))
 have D:DgA w4 (S+1+1+1) S (fun s=>if s then S+1 else S+1+1) (fun _=>none) (fun _ _=>none) (fun _ _=>[]) 0:=
  ⟨hB,⟨0,m0,Nat.le_refl _⟩,fun s=>⟨0,by cases s;exact m2;exact m1,Nat.le_refl _⟩,fun _ _ _ h=>(by cases h),fun _ _ _=>rfl,fun _ _=>Nat.le_refl _,fun _ _ _ _ _ _ _ h=>(by cases h),fun s=>by cases s<;>simp<;>omega,by simp⟩
 have F:∀k,ft (S+1+1+1) S (fun s=>if s then S+1 else S+1+1) (fun _ _=>none) k→S≤k:=by
  rintro k (rfl|rfl|⟨s,rfl⟩|⟨s,i,v,h,_⟩)
  ·omega
  ·omega
  ·cases s<;>simp<;>omega
  ·cases h
 have H4:Hid _:=hw4
 clear hw4 hB old m0 m1 m2 b1 b2 b3
 go_enter Tryz.func39,Tryz.ntmps39
 go_wp2_with fail
 rw[H4.out]
 go_ret
 exact⟨_,_,_,rfl,D,by rw[hS];exact F,by rw[hS];exact b4⟩
theorem bneN(a b:Nat):((a:Int) != (b:Int))=!decide (a=b):=by
 by_cases h:a=b
 ·subst h;simp
 ·simp[h,bne];omega
theorem leave_any(h:DgA w B M0 M fp f l N)(hN:N≤1000000)(s:Bool)(id:Int)(place:Nat)(hp:place<(l s id).length) :
  Calls Tryz.prog 277 #[.map (some (M s)),.int .i64 id,.int .i64 place] w fun e w'=>e=.returned (.tuple #[.int .i64 (lastI (l s id)),.bool (decide (place≠(l s id).length-1))])∧
   ∃f',DgA w' B M0 M fp f' (lset l s id (rm (l s id) place)) N∧Fr (ft B M0 M f) w w'∧∀k,ft B M0 M f' k→ft B M0 M f k:=by
 obtain⟨L,hL⟩:∃L,l s id=L:=⟨_,rfl⟩
 obtain⟨v,hv⟩:∃v,f s id=some v:=by
  cases hf:f s id with
  | none=>rw[h.non s id hf] at hp;simp at hp
  | some v=>exact⟨v,rfl⟩
 obtain⟨o,one⟩:=h.own s id v hv
 rw[hL] at o one hp⊢
 obtain⟨m,hm⟩:∃m,L.length=m+1:=⟨L.length-1,by omega⟩
 obtain⟨g,cap,rfl⟩:=o.addr one
 obtain⟨n0,q,hn0⟩:=h.mi s
 have wid:wfI id:=q.okey hv
 have hlk:=h.look s wid
 have elv:lv f s id=.slice (some ⟨g,0,none⟩) (m+1) cap:=by unfold lv;rw[hv,hm];rfl
 rw[elv] at hlk
 have hlast:=lastI_at one
 obtain⟨x,hx⟩:∃x,lastI L=x:=⟨_,rfl⟩
 rw[hx] at hlast⊢
 have cell:w.cell? ⟨g,m,none⟩=some (.int .i64 x):=by
  obtain⟨b,off,e,_,hc⟩:=o.isIv.elem _ _ hlast
  cases e
  rw[Nat.zero_add,show L.length-1=m by omega] at hc
  exact hc
 have cellp:w.cell? ⟨g,place,none⟩=some (.int .i64 (L.getD place 0)):=by
  obtain⟨b,off,e,_,hc⟩:=o.isIv.at hp
  cases e
  rw[Nat.zero_add] at hc
  exact hc
 have frz:=o.frozen place
 have hcap:m+1≤cap∧cap≤9223372036854775807:=by have:=o.isIv.le;have:=o.isIv.big;unfold maxLen at this;omega
 have hgM:=(h.row hv rfl).2.2.2 s
 have q1:MapG keyI (w.setCell ⟨g,place,none⟩ (.int .i64 x)) (M s) (f s) n0:=q.of_block (heap_setCell_other _ _ _ _ (fun e=>hgM e.symm))
 obtain⟨w2,n2,hr2,q2,hn2,g2⟩:=q1.store Tryz.underlying178 (by omega) (x:=id) wid (.slice (some ⟨g,0,none⟩) m cap)
 rw[hv] at hn2
 have hn2:n2=n0:=by simpa using hn2
 change (Instr.mapUpdate 178 (.map (some (M s))) (.int .i64 id) _).run _ _=_ at hr2
 have er:rm L place=(L.set place x).take m:=by unfold rm;rw[hx,show L.length-1=m by omega]
 have o1:=(o.set place x).cut (k:=m) (by rw[List.length_set];omega)
 rw[←er,rm_len,show L.length-1=m by omega] at o1
 have F1:Fr (fun k=>k=M s∨∃v,f s id=some v∧v.ownBlock=some k) w (w.setCell ⟨g,place,none⟩ (.int .i64 x)):=Fr.setCell _ _ _ _ _ (.inr ⟨_,hv,rfl⟩)
 have F2:Fr (fun k=>k=M s∨∃v,f s id=some v∧v.ownBlock=some k) w w2:=F1.trans (Fr.of_grown g2) (fun j hj=>by injection hj with hj;exact .inl (.inl hj.symm))
 have o2:OwnI w2 0 (.slice (some ⟨g,0,none⟩) m cap) (rm L place):=o1.fr (Fr.of_grown g2) (fun k hk e=>by injection hk with hk;injection e with e;exact hgM (by rw[e];exact hk))
 have hft:∀k,(k=M s∨∃v,f s id=some v∧v.ownBlock=some k)→ft B M0 M f k:=fun k hk=>by
  rcases hk with hk|⟨v,h1,h2⟩
  ·exact .inr (.inr (.inl ⟨s,hk⟩))
  ·exact .inr (.inr (.inr ⟨s,id,v,h1,h2⟩))
 have lenr:(rm L place).length≤N:=by rw[rm_len];have:=h.len s id;rw[hL] at this;omega
 have edec:(place≠L.length-1)=(place≠m):=by rw[show L.length-1=m by omega]
 simp only[edec]
 have ew1:((m+1:Nat):Int)-1=(m:Int):=by omega
 by_cases c0:m=0
 ·subst c0
  obtain⟨w3,n3,hr3,q3,hn3,g3⟩:=q2.drop Tryz.underlying178 (x:=id) (u:=.slice (some ⟨g,0,none⟩) 0 cap) (by simp[fput]) 0
  change (Builtin.delete_ #[178,3] 0 #[.map (some (M s)),.int .i64 id]).run _ _=_ at hr3
  have F3:Fr (fun k=>k=M s∨∃v,f s id=some v∧v.ownBlock=some k) w w3:=F2.trans (Fr.of_grown g3) (fun j hj=>by injection hj with hj;exact .inl (.inl hj.symm))
  have er0:rm L place=[]:=List.length_eq_zero_iff.1 (by rw[rm_len];omega)
  obtain⟨D,hD⟩:=h.turn (s:=s) (id:=id) (d:=rm L place) q3 (by omega) lenr F3 (fun j hj=>by simp[fdel,fput,hj]) (.inl ⟨by simp[fdel],er0⟩)
  have hD':∀k,ft B M0 M (fset f s (fdel (fput (f s) id (.slice (some ⟨g,0,none⟩) 0 cap)) id)) k→ft B M0 M f k:=fun k hk=>by
   rcases hk with hk|hk|hk|⟨a,i,v,h1,h2⟩
   ·exact .inl hk
   ·exact .inr (.inl hk)
   ·exact .inr (.inr (.inl hk))
   ·by_cases c:a=s
    ·subst c
     rw[fset_same] at h1
     simp[fdel,fput] at h1
     obtain⟨h0,h1⟩:=h1
     rw[if_neg h0] at h1
     exact .inr (.inr (.inr ⟨a,i,v,h1,h2⟩))
    ·rw[fset_ne _ _ c] at h1
     exact .inr (.inr (.inr ⟨a,i,v,h1,h2⟩))
  have FIN:Aside (∃f',DgA w3 B M0 M fp f' (lset l s id (rm L place)) N∧Fr (ft B M0 M f) w w3∧∀k,ft B M0 M f' k→ft B M0 M f k):=⟨_,D,F3.mono hft,hD'⟩
  have hp0:place=0:=by omega
  subst hp0
  clear h o q q1 q2 q3 g2 g3 o1 o2 F1 F2 F3 D hD hD' hft hlast hgM hn2 hn3 er0 er elv hv hL hn0 edec
  go_enter Tryz.func277,Tryz.ntmps277
  go_wp2_with fail
  refine bodyPost_ret (v:=.tuple #[.int .i64 x,.bool (decide (0≠0))]) (by simp[results,Tryz.results277,go_sem]) rfl ⟨rfl,FIN.out⟩
 ·have nem:rm L place≠[]:=fun e=>c0 (by have:=rm_len L place;rw[e] at this;simp at this;omega)
  have oo:=o2
  rw[show m=(rm L place).length by rw[rm_len];omega] at oo
  obtain⟨D,hD⟩:=h.turn (s:=s) (id:=id) (d:=rm L place) q2 (by omega) lenr F2 (fun j hj=>by simp[fput,hj]) (.inr ⟨_,by simp[fput],o2,nem,fun k hk=>.inl ⟨_,hv,hk⟩⟩)
  have hD':∀k,ft B M0 M (fset f s (fput (f s) id (.slice (some ⟨g,0,none⟩) m cap))) k→ft B M0 M f k:=fun k hk=>by
   rcases hk with hk|hk|hk|⟨a,i,v,h1,h2⟩
   ·exact .inl hk
   ·exact .inr (.inl hk)
   ·exact .inr (.inr (.inl hk))
   ·by_cases c:a=s
    ·subst c
     rw[fset_same] at h1
     unfold fput at h1
     split at h1
     ·injection h1 with h1
      subst h1
      exact .inr (.inr (.inr ⟨a,id,_,hv,h2⟩))
     ·exact .inr (.inr (.inr ⟨a,i,v,h1,h2⟩))
    ·rw[fset_ne _ _ c] at h1
     exact .inr (.inr (.inr ⟨a,i,v,h1,h2⟩))
  have FIN:Aside (∃f',DgA w2 B M0 M fp f' (lset l s id (rm L place)) N∧Fr (ft B M0 M f) w w2∧∀k,ft B M0 M f' k→ft B M0 M f k):=⟨_,D,F2.mono hft,hD'⟩
  clear h o q q1 q2 g2 o1 o2 F1 F2 D hD hD' hft hlast hgM hn2 er elv hv hL hn0 edec oo nem
  go_enter Tryz.func277,Tryz.ntmps277
  go_wp2_with fail
  refine bodyPost_ret (v:=.tuple #[.int .i64 x,.bool (decide (place≠m))]) (by simp[results,Tryz.results277,go_sem,bneN]) rfl ⟨rfl,FIN.out⟩
end
section
section
variable {P:Program}{ops:Array Oper}{Q:Exit→Act→World→Prop}{md:Region.Mode}{S:World→Prop}{L:Nat}
theorem anyE_t{i:Nat}{oi:Oper}{v:Value}{f:Nat}{lst:Array Bool}{a:Act}{w:World}(hi:ops[i]?=some oi)(hh:(Region.noSelect ops&&Region.waitsFor md ops L i&&Region.free md ops lst i&&(Region.ready md ops lst).contains i)=true)
  (hQ:∀c a w,Q (.panic c) (a.put oi.dst v) w→Q (.panic c) a w) (hy:YieldsIf P ops S oi v a) (hS:S w) (h:wpAnyE P md ops Q S L f (lst.setIfInBounds i true) (a.put oi.dst v) w):wpAnyE P md ops Q S L (f+1) lst a w:=by
 simp only[Bool.and_eq_true] at hh
 exact anyE_take hi hh.1.1.1 hh.1.1.2 hh.1.2 hh.2 hQ hy hS h
end
end
section
section
variable {P:Program}{ops:Array Oper}{Q:Exit→Act→World→Prop}{md:Region.Mode}{S:World→Prop}{L:Nat}
end
end
section
open Go.RowKit Go.Lib Go.WideMaps Go.Maps
theorem step_app{ops:Array Oper}{o:Oper}{a:Act}{K:Act→World→Prop}{Q:Exit→Act→World→Prop}{E:Prop}(w:World)(hgd:o.guard=none)(s x:Operand)(t tn:TypeId)
  (ho:o.op=.call {callee:=.builtin .append,args:=#[s,x],argTypes:=#[t,tn]}) (vs vx:Value) (hs:a.eval s=vs) (hx:a.eval x=vx)
  (v':Value) (w':World) (hr:(Builtin.append_ #[t,tn] o.type #[vs,vx]).run Tryz.prog w=.ok v' w') (h:K (a.put o.dst v') w') :
  if Region.wanted o (yielded ops a.tmps)=true then Oper.wp Tryz.prog o a w K Q else E:=by
 have hw:Region.wanted o (yielded ops a.tmps)=true:=by simp[Region.wanted,hgd]
 rw[if_pos hw]
 exact Lib.wp_append_run w s x t tn ho vs vx hs hx v' w' hr h
variable {w w':World}{B M0 N N':Nat}{M:Bool→Nat}{fp gp:Int×Int→Option Value}{f:Bool→Int→Option Value}{l:Bool→Int→List Int}
theorem DgA.drew(h:DgA w B M0 M fp f l N):DgA w.drew B M0 M fp f l N:=h.below ((Below.refl _ _).drew)
def SL(B:Nat)(M:Bool→Nat)(f:Bool→Int→Option Value)(s:Bool)(i:Int)(v0:World):Prop:=
 v0.cell? ⟨B,if s then 1 else 2,none⟩=some (.map (some (M s)))∧(Instr.lookup 178 (.map (some (M s))) (.int .i64 i) false).run Tryz.prog v0=.ok (lv f s i) v0
theorem DgA.sl(h:DgA w B M0 M fp f l N)(s:Bool){i:Int}(hi:wfI i):SL B M f s i w:=by
 obtain⟨c0,c1,c2⟩:=h.cell0
 refine⟨?_,h.look s hi⟩
 cases s
 ·exact c2
 ·exact c1
theorem DgA.push(h:DgA w B M0 M fp f l N)(hN:N≤1000000)(s:Bool)(i x:Int)(hi:wfI i)(hl:(l s i).length+1≤N)(hk:∀n,MapG keyI w (M s) (f s) n→n+1≤N) :
  SL B M f s i (w.alloc (.cells #[.int .i64 x] 3))∧∃v2 w2 w3,(Builtin.append_ #[22,22] 22 #[lv f s i,.slice (some ⟨w.heap.size,0,none⟩) 1 1]).run Tryz.prog (w.alloc (.cells #[.int .i64 x] 3))=.ok v2 w2∧SL B M f s i w2∧
   (Instr.mapUpdate 178 (.map (some (M s))) (.int .i64 i) v2).run Tryz.prog w2=.ok () w3∧∃f',DgA w3 B M0 M fp f' (lset l s i (l s i++[x])) N∧(∀a,a≠s→f' a=f a)∧Fr (ft B M0 M f) w w3∧∀k,ft B M0 M f' k→ft B M0 M f k∨w.heap.size≤k:=by
 have b1:Below w.heap.size w (w.alloc (.cells #[.int .i64 x] 3)):=(Below.refl _ _).alloc (Nat.le_refl _) _
 have h1:=h.below b1
 obtain⟨v2,w2,hr,o2,g2,n2⟩:=app_run (h1.ownv s i) (OwnI.one (base:=0) w x (Nat.zero_le _)).isIv (by simp;omega) (Nat.zero_le _) 22
 have blk:∀k,(lv f s i).ownBlock=some k→∃u,f s i=some u∧u.ownBlock=some k:=fun k hk=>by
  unfold lv at hk
  cases hf:f s i with
  | none=>rw[hf] at hk;cases hk
  | some u=>rw[hf] at hk;exact⟨u,rfl,hk⟩
 have F2:Fr (fun k=>k=M s∨∃v,f s i=some v∧v.ownBlock=some k) w w2:=(Fr.below b1).trans (Fr.of_grown g2) (fun j hj=>.inl (.inr (blk j hj)))
 obtain⟨n,q,hn⟩:=h.mi s
 have hn1:=hk n q
 have q2:MapG keyI w2 (M s) (f s) n:=(q.of_block (b1.block _ q.lt)).of_block (g2.block _ (by have:=q.lt;have:=b1.size;omega) (fun e=>by
  obtain⟨u,u1,u2⟩:=blk _ e.symm
  exact(h.row u1 u2).2.2.2 s rfl))
 obtain⟨w3,m,hr3,q3,hm,g3⟩:=q2.store Tryz.underlying178 (by omega) (x:=i) hi v2
 have F3:Fr (fun k=>k=M s∨∃v,f s i=some v∧v.ownBlock=some k) w w3:=F2.trans (Fr.of_grown g3) (fun j hj=>by injection hj with hj;exact .inl (.inl hj.symm))
 have n2':∀k,v2.ownBlock=some k→(∃u,f s i=some u∧u.ownBlock=some k)∨w.heap.size≤k:=fun k hk=>by
  rcases n2 k hk with e|e
  ·exact .inl (blk k e)
  ·exact .inr (by have:=b1.size;omega)
 have o3:OwnI w3 0 v2 (l s i++[x]):=o2.fr (Fr.of_grown g3) (fun k hk e=>by
  injection e with e
  obtain⟨cs,hc⟩:=o2.rowT hk
  obtain⟨es,c,hm⟩:=q2.isMap
  exact cells_no_map hc (by rw[←e];exact hm))
 obtain⟨D,hD⟩:=h.turn (s:=s) (id:=i) (d:=l s i++[x]) q3 (by rw[hm];split<;>omega) (by simp;omega) F3 (fun j hj=>by simp[fput,hj]) (.inr ⟨v2,by simp[fput],o3,by simp,n2'⟩)
 have hft:∀k,(k=M s∨∃v,f s i=some v∧v.ownBlock=some k)→ft B M0 M f k:=fun k hk=>by
  rcases hk with hk|⟨v,h1,h2⟩
  ·exact .inr (.inr (.inl ⟨s,hk⟩))
  ·exact .inr (.inr (.inr ⟨s,i,v,h1,h2⟩))
 refine⟨h1.sl s hi,v2,w2,w3,hr,⟨?_,q2.look Tryz.underlying178 (zeroS w2) (x:=i) hi⟩,hr3,_,D,fun a ha=>fset_ne _ _ ha,F3.mono hft,hD⟩
 have:=(h1.sl s hi).1
 rw[←this]
 refine World.cell?_of_block (g2.block B (by have:=h.blt;have:=b1.size;omega) (fun e=>?_))
 obtain⟨u,u1,u2⟩:=blk _ e.symm
 exact(h.row u1 u2).2.1 rfl
theorem join_any(h:DgA w B M0 M fp f l N)(hN:N<1000000)(p i:Int)(hp:wfI p)(hi:wfI i) :
  Calls Tryz.prog 99 #[.pointer (some ⟨B,0,none⟩),.int .i64 p,.int .i64 i] w fun e w'=>e=.returned (.tuple #[])∧
   ∃f',DgA w' B M0 M (fput fp (p,i) (prV ((l true p).length,(l false i).length))) f' (lset (lset l true p (l true p++[i])) false i (l false i++[p])) (N+1)∧Fr (ft B M0 M f) w w'∧∀k,ft B M0 M f' k→ft B M0 M f k∨w.heap.size≤k:=by
 have h0:=h.drew
 obtain⟨ab,cb,eb,_⟩:=h0.lvlen true p
 obtain⟨aw,cw,ew,_⟩:=h0.lvlen false i
 have sb:=h0.sl true hp
 have sw:=h0.sl false hi
 obtain⟨nb,hnb⟩:∃n,(l true p).length=n:=⟨_,rfl⟩
 obtain⟨nw,hnw⟩:∃n,(l false i).length=n:=⟨_,rfl⟩
 have lb:=h.len true p
 have lw:=h.len false i
 unfold SL at sb sw
 rw[eb,hnb] at sb
 rw[ew,hnw] at sw
 have K0:Aside ((w.drew.cell? ⟨B,0,none⟩=some (.map (some M0)))∧w.drew.cell? ⟨B,1,none⟩=some (.map (some (M true)))∧w.drew.cell? ⟨B,2,none⟩=some (.map (some (M false)))∧
  (Instr.lookup 178 (.map (some (M true))) (.int .i64 p) false).run Tryz.prog w.drew=.ok (.slice ab nb cb) w.drew∧(Instr.lookup 178 (.map (some (M false))) (.int .i64 i) false).run Tryz.prog w.drew=.ok (.slice aw nw cw) w.drew):=⟨h0.cell0.1,sb.1,sw.1,sb.2,sw.2⟩
 obtain⟨n0,q0,hn0⟩:=h0.mp
 obtain⟨w1,m1,hr1,q1,hm1,g1⟩:=q0.store Tryz.underlying177 (by omega) (x:=(p,i)) ⟨hp,hi⟩ (prV (nb,nw))
 change (Instr.mapUpdate 177 (.map (some M0)) (.agg #[.int .i64 p,.int .i64 i]) (.agg #[.int .i64 nb,.int .i64 nw])).run _ _=_ at hr1
 have D1:=(h0.up (Nat.le_succ N)).setP q1 (by rw[hm1];split<;>omega) g1
 have F1:Fr (ft B M0 M f) w w1:=((Fr.refl (ft B M0 M f) w).drew).trans (Fr.of_grown g1) (fun j hj=>by injection hj with hj;exact .inl (.inr (.inl hj.symm)))
 have count:∀s n (u:World),u.heap[M s]?=w.heap[M s]?→MapG keyI u (M s) (f s) n→n+1≤N+1:=fun s n u hu hq=>by
  obtain⟨n',q',hn'⟩:=h.mi s
  obtain⟨ks,k1,k2,k3⟩:=hq.keys
  obtain⟨ks',k1',k2',k3'⟩:=q'.keys
  have:ks.length≤ks'.length:=nodup_le ks ks' k1 (fun x hx=>(k3' x).2 ((k3 x).1 hx))
  omega
 have D1d:=D1.drew
 obtain⟨s1,v2,w2,w3,hr2,s2,hr3,f3,D3,ne3,F3,t3⟩:=D1d.push (by omega) true p i hp (by omega) (fun n hq=>by
  refine count true n w1.drew ?_ hq
  exact(g1.block _ (h.mlt true) (fun e=>h.m0 true (by injection e))))
 have D3d:=D3.drew
 have e3:f3 false=f false:=ne3 false (by simp)
 have eL:lset l true p (l true p++[i]) false i=l false i:=lset_tf _ _
 obtain⟨s4,v5,w5,w6,hr5,s5,hr6,f6,D6,ne6,F6,t6⟩:=D3d.push (by omega) false i p hi (by rw[eL];omega) (fun n hq=>by
  obtain⟨n',q',hn'⟩:=h.mi false
  obtain⟨ks,k1,k2,k3⟩:=hq.keys
  obtain⟨ks',k1',k2',k3'⟩:=q'.keys
  have:ks.length≤ks'.length:=nodup_le ks ks' k1 (fun x hx=>(k3' x).2 (by have:=(k3 x).1 hx;rw[e3] at this;exact this))
  omega)
 rw[eL] at D6
 have FT:Fr (ft B M0 M f) w w6:=by
  have a1:Fr (ft B M0 M f) w w3:=F1.drew.trans F3 (fun j hj=>.inl hj)
  exact a1.drew.trans F6 (fun j hj=>by
   rcases t3 j hj with e|e
   ·exact .inl e
   ·exact .inr (by have:=F1.size;have:w1.drew.heap.size=w1.heap.size:=rfl;omega))
 have TT:∀k,ft B M0 M f6 k→ft B M0 M f k∨w.heap.size≤k:=fun k hk=>by
  rcases t6 k hk with e|e
  ·rcases t3 k e with e|e
   ·exact .inl e
   ·exact .inr (by have:=F1.size;have:w1.drew.heap.size=w1.heap.size:=rfl;omega)
  ·exact .inr (by have:=F1.size;have:w1.drew.heap.size=w1.heap.size:=rfl;have:=F3.size;have:w3.drew.heap.size=w3.heap.size:=rfl;omega)
 rw[hnb,hnw]
 have FIN:Aside (∃f',DgA w6 B M0 M (fput fp (p,i) (prV (nb,nw))) f' (lset (lset l true p (l true p++[i])) false i (l false i++[p])) (N+1)∧Fr (ft B M0 M f) w w6∧∀k,ft B M0 M f' k→ft B M0 M f k∨w.heap.size≤k):=⟨f6,D6,FT,TT⟩
 obtain⟨V1,hV1⟩:∃V,lv f true p=V:=⟨_,rfl⟩
 obtain⟨V4,hV4⟩:∃V,lv f3 false i=V:=⟨_,rfl⟩
 have K1:Aside (SL B M f true p w1.drew):=D1d.sl true hp
 have K2:Aside (SL B M f true p (w1.drew.alloc (.cells #[.int .i64 i] 3))):=s1
 have K3:Aside (SL B M f true p w2):=s2
 have K4:Aside (SL B M f3 false i w3.drew):=D3d.sl false hi
 have K5:Aside (SL B M f3 false i (w3.drew.alloc (.cells #[.int .i64 p] 3))):=s4
 have K6:Aside (SL B M f3 false i w5):=s5
 unfold SL at K1 K2 K3 K4 K5 K6
 rw[hV1] at K1 K2 K3 hr2
 rw[hV4] at K4 K5 K6 hr5
 have R2:Aside _:=hr2
 have R5:Aside _:=hr5
 clear h h0 q0 q1 g1 D1 D1d D3 D3d D6 F1 F3 F6 t3 t6 FT TT s1 s2 s4 s5 count sb sw eb ew ne3 ne6 e3 eL lb lw hn0 hm1 hr2 hr5 hV1 hV4
 simp only[if_true] at K1 K2 K3 K4 K5 K6
 go_enter Tryz.func99,Tryz.ntmps99
 go_upto_region 0 with fail
 refine anyE_start (S:=(fun v0=>(v0.cell? ⟨B,0,none⟩=some (.map (some M0)))∧v0.cell? ⟨B,1,none⟩=some (.map (some (M true)))∧v0.cell? ⟨B,2,none⟩=some (.map (some (M false)))∧(Instr.lookup 178 (.map (some (M true))) (.int .i64 p) false).run Tryz.prog v0=.ok (.slice ab nb cb) v0∧(Instr.lookup 178 (.map (some (M false))) (.int .i64 i) false).run Tryz.prog v0=.ok (.slice aw nw cw) v0)) (L:=22) (by kernel_rfl) ?_
 refine anyE_t (i:=0) (oi:=⟨some 6,Op.move (.tmp 0),94,"dag.go:45",#[],none⟩) (v:=?_) rfl (by kernel_rfl) (fun _ _ _ h=>h) (Or.inl ⟨by rfl,?_⟩) (K0.out) ?_
 rotate_left
 ·intro w z;(try dsimp only at z);go_simp;try with_reducible rfl
 simp only[Act.put,sA,sB,sC]
 refine anyE_t (i:=1) (oi:=⟨some 7,Op.nilCheck (.tmp 6),0,"dag.go:45",#[⟨0,.data⟩],none⟩) (v:=?_) rfl (by kernel_rfl) (fun _ _ _ h=>h) (Or.inl ⟨by rfl,?_⟩) (K0.out) ?_
 rotate_left
 ·intro w z;(try dsimp only at z);go_simp;try with_reducible rfl
 simp only[Act.put,sA,sB,sC]
 refine anyE_t (i:=2) (oi:=⟨some 8,Op.fieldAddr 180 (.tmp 7) 0,0,"dag.go:45",#[⟨1,.data⟩],none⟩) (v:=?_) rfl (by kernel_rfl) (fun _ _ _ h=>h) (Or.inl ⟨by rfl,?_⟩) (K0.out) ?_
 rotate_left
 ·intro w z;(try dsimp only at z);go_simp;try with_reducible rfl
 simp only[Act.put,sA,sB,sC]
 refine anyE_t (i:=3) (oi:=⟨some 9,Op.load 177 (.tmp 8),177,"dag.go:45",#[⟨2,.data⟩],none⟩) (v:=?_) rfl (by kernel_rfl) (fun _ _ _ h=>h) (Or.inl ⟨by rfl,?_⟩) (K0.out) ?_
 rotate_left
 ·intro w z;(try dsimp only at z);go_simp;try with_reducible rfl
 simp only[Act.put,sA,sB,sC]
 refine anyE_t (i:=4) (oi:=⟨some 10,Op.move (.tmp 1),3,"dag.go:45",#[],none⟩) (v:=?_) rfl (by kernel_rfl) (fun _ _ _ h=>h) (Or.inl ⟨by rfl,?_⟩) (K0.out) ?_
 rotate_left
 ·intro w z;(try dsimp only at z);go_simp;try with_reducible rfl
 simp only[Act.put,sA,sB,sC]
 refine anyE_t (i:=5) (oi:=⟨some 11,Op.move (.tmp 2),3,"dag.go:45",#[],none⟩) (v:=?_) rfl (by kernel_rfl) (fun _ _ _ h=>h) (Or.inl ⟨by rfl,?_⟩) (K0.out) ?_
 rotate_left
 ·intro w z;(try dsimp only at z);go_simp;try with_reducible rfl
 simp only[Act.put,sA,sB,sC]
 refine anyE_t (i:=6) (oi:=⟨some 12,Op.build 145 #[(0,Operand.tmp 10),(1,Operand.tmp 11)],145,"dag.go:45",#[⟨4,.data⟩,⟨5,.data⟩],none⟩) (v:=?_) rfl (by kernel_rfl) (fun _ _ _ h=>h) (Or.inl ⟨by rfl,?_⟩) (K0.out) ?_
 rotate_left
 ·intro w z;(try dsimp only at z);go_simp;try with_reducible rfl
 simp only[Act.put,sA,sB,sC]
 refine anyE_t (i:=7) (oi:=⟨some 13,Op.move (.tmp 0),94,"dag.go:45",#[],none⟩) (v:=?_) rfl (by kernel_rfl) (fun _ _ _ h=>h) (Or.inl ⟨by rfl,?_⟩) (K0.out) ?_
 rotate_left
 ·intro w z;(try dsimp only at z);go_simp;try with_reducible rfl
 simp only[Act.put,sA,sB,sC]
 refine anyE_t (i:=8) (oi:=⟨some 14,Op.nilCheck (.tmp 13),0,"dag.go:45",#[⟨7,.data⟩],none⟩) (v:=?_) rfl (by kernel_rfl) (fun _ _ _ h=>h) (Or.inl ⟨by rfl,?_⟩) (K0.out) ?_
 rotate_left
 ·intro w z;(try dsimp only at z);go_simp;try with_reducible rfl
 simp only[Act.put,sA,sB,sC]
 refine anyE_t (i:=9) (oi:=⟨some 15,Op.fieldAddr 180 (.tmp 14) 1,0,"dag.go:45",#[⟨8,.data⟩],none⟩) (v:=?_) rfl (by kernel_rfl) (fun _ _ _ h=>h) (Or.inl ⟨by rfl,?_⟩) (K0.out) ?_
 rotate_left
 ·intro w z;(try dsimp only at z);go_simp;try with_reducible rfl
 simp only[Act.put,sA,sB,sC]
 refine anyE_t (i:=10) (oi:=⟨some 16,Op.load 178 (.tmp 15),178,"dag.go:45",#[⟨9,.data⟩],none⟩) (v:=?_) rfl (by kernel_rfl) (fun _ _ _ h=>h) (Or.inl ⟨by rfl,?_⟩) (K0.out) ?_
 rotate_left
 ·intro w z;(try dsimp only at z);go_simp;try with_reducible rfl
 simp only[Act.put,sA,sB,sC]
 refine anyE_t (i:=11) (oi:=⟨some 17,Op.move (.tmp 1),3,"dag.go:45",#[],none⟩) (v:=?_) rfl (by kernel_rfl) (fun _ _ _ h=>h) (Or.inl ⟨by rfl,?_⟩) (K0.out) ?_
 rotate_left
 ·intro w z;(try dsimp only at z);go_simp;try with_reducible rfl
 simp only[Act.put,sA,sB,sC]
 refine anyE_t (i:=12) (oi:=⟨some 18,Op.lookup 178 (.tmp 16) (.tmp 17) false,22,"dag.go:45",#[⟨10,.data⟩,⟨11,.data⟩],none⟩) (v:=?_) rfl (by kernel_rfl) (fun _ _ _ h=>h) (Or.inl ⟨by rfl,?_⟩) (K0.out) ?_
 rotate_left
 ·intro w z;(try dsimp only at z);go_simp;try with_reducible rfl
 simp only[Act.put,sA,sB,sC]
 refine anyE_t (i:=13) (oi:={dst:=some 19,op:=Op.call {callee:=Callee.builtin Builtin.len,args:=#[Operand.tmp 18],argTypes:=#[22]},type:=3,pos:= "dag.go:45",after:=#[⟨12,.data⟩],guard:=none}) (v:=?_) rfl (by kernel_rfl) (fun _ _ _ h=>h) (Or.inl ⟨by rfl,?_⟩) (K0.out) ?_
 rotate_left
 ·intro w z;(try dsimp only at z);go_simp;try with_reducible rfl
 simp only[Act.put,sA,sB,sC]
 refine anyE_t (i:=14) (oi:=⟨some 20,Op.move (.tmp 0),94,"dag.go:45",#[],none⟩) (v:=?_) rfl (by kernel_rfl) (fun _ _ _ h=>h) (Or.inl ⟨by rfl,?_⟩) (K0.out) ?_
 rotate_left
 ·intro w z;(try dsimp only at z);go_simp;try with_reducible rfl
 simp only[Act.put,sA,sB,sC]
 refine anyE_t (i:=15) (oi:=⟨some 21,Op.nilCheck (.tmp 20),0,"dag.go:45",#[⟨14,.data⟩],none⟩) (v:=?_) rfl (by kernel_rfl) (fun _ _ _ h=>h) (Or.inl ⟨by rfl,?_⟩) (K0.out) ?_
 rotate_left
 ·intro w z;(try dsimp only at z);go_simp;try with_reducible rfl
 simp only[Act.put,sA,sB,sC]
 refine anyE_t (i:=16) (oi:=⟨some 22,Op.fieldAddr 180 (.tmp 21) 2,0,"dag.go:45",#[⟨15,.data⟩],none⟩) (v:=?_) rfl (by kernel_rfl) (fun _ _ _ h=>h) (Or.inl ⟨by rfl,?_⟩) (K0.out) ?_
 rotate_left
 ·intro w z;(try dsimp only at z);go_simp;try with_reducible rfl
 simp only[Act.put,sA,sB,sC]
 refine anyE_t (i:=17) (oi:=⟨some 23,Op.load 178 (.tmp 22),178,"dag.go:45",#[⟨16,.data⟩],none⟩) (v:=?_) rfl (by kernel_rfl) (fun _ _ _ h=>h) (Or.inl ⟨by rfl,?_⟩) (K0.out) ?_
 rotate_left
 ·intro w z;(try dsimp only at z);go_simp;try with_reducible rfl
 simp only[Act.put,sA,sB,sC]
 refine anyE_t (i:=18) (oi:=⟨some 24,Op.move (.tmp 2),3,"dag.go:45",#[],none⟩) (v:=?_) rfl (by kernel_rfl) (fun _ _ _ h=>h) (Or.inl ⟨by rfl,?_⟩) (K0.out) ?_
 rotate_left
 ·intro w z;(try dsimp only at z);go_simp;try with_reducible rfl
 simp only[Act.put,sA,sB,sC]
 refine anyE_t (i:=19) (oi:=⟨some 25,Op.lookup 178 (.tmp 23) (.tmp 24) false,22,"dag.go:45",#[⟨17,.data⟩,⟨18,.data⟩],none⟩) (v:=?_) rfl (by kernel_rfl) (fun _ _ _ h=>h) (Or.inl ⟨by rfl,?_⟩) (K0.out) ?_
 rotate_left
 ·intro w z;(try dsimp only at z);go_simp;try with_reducible rfl
 simp only[Act.put,sA,sB,sC]
 refine anyE_t (i:=20) (oi:={dst:=some 26,op:=Op.call {callee:=Callee.builtin Builtin.len,args:=#[Operand.tmp 25],argTypes:=#[22]},type:=3,pos:= "dag.go:45",after:=#[⟨19,.data⟩],guard:=none}) (v:=?_) rfl (by kernel_rfl) (fun _ _ _ h=>h) (Or.inl ⟨by rfl,?_⟩) (K0.out) ?_
 rotate_left
 ·intro w z;(try dsimp only at z);go_simp;try with_reducible rfl
 simp only[Act.put,sA,sB,sC]
 refine anyE_t (i:=21) (oi:=⟨some 27,Op.build 145 #[(0,Operand.tmp 19),(1,Operand.tmp 26)],145,"dag.go:45",#[⟨13,.data⟩,⟨20,.data⟩],none⟩) (v:=?_) rfl (by kernel_rfl) (fun _ _ _ h=>h) (Or.inl ⟨by rfl,?_⟩) (K0.out) ?_
 rotate_left
 ·intro w z;(try dsimp only at z);go_simp;try with_reducible rfl
 simp only[Act.put,sA,sB,sC]
 refine anyE_ready (rs:=[22]) (by kernel_rfl) (by simp) ?_
 refine AllE.cons (o:=⟨none,Op.mapUpdate 177 (.tmp 9) (.tmp 12) (.tmp 27),0,"dag.go:45",#[⟨3,.data⟩,⟨6,.data⟩,⟨21,.data⟩,⟨0,.phase⟩,⟨1,.phase⟩,⟨2,.phase⟩,⟨3,.phase⟩,⟨4,.phase⟩,⟨5,.phase⟩,⟨6,.phase⟩,⟨7,.phase⟩,⟨8,.phase⟩,⟨9,.phase⟩,⟨10,.phase⟩,⟨11,.phase⟩,⟨12,.phase⟩,⟨13,.phase⟩,⟨14,.phase⟩,⟨15,.phase⟩,⟨16,.phase⟩,⟨17,.phase⟩,⟨18,.phase⟩,⟨19,.phase⟩,⟨20,.phase⟩,⟨21,.phase⟩],none⟩) rfl (fun Kt hKt=>?_) ?_
 ·go_simp
  refine hKt.out _ _ (fun h=>absurd rfl h) ?_
  clear hKt Kt
  try simp only[Act.put,sA,sB,sC]
  refine anyE_done (by kernel_rfl) ?_ _
  go_wp2_with fail
  refine anyE_start (S:=(fun v0=>v0.cell? ⟨B,1,none⟩=some (.map (some (M true)))∧(Instr.lookup 178 (.map (some (M true))) (.int .i64 p) false).run Tryz.prog v0=.ok V1 v0)) (L:=14) (by kernel_rfl) ?_
  refine anyE_t (i:=0) (oi:=⟨some 28,Op.move (.tmp 0),94,"dag.go:46",#[],none⟩) (v:=?_) rfl (by kernel_rfl) (fun _ _ _ h=>h) (Or.inl ⟨by rfl,?_⟩) (K1.out) ?_
  rotate_left
  ·intro w z;(try dsimp only at z);go_simp;try with_reducible rfl
  simp only[Act.put,sA,sB,sC]
  refine anyE_t (i:=1) (oi:=⟨some 29,Op.nilCheck (.tmp 28),0,"dag.go:46",#[⟨0,.data⟩],none⟩) (v:=?_) rfl (by kernel_rfl) (fun _ _ _ h=>h) (Or.inl ⟨by rfl,?_⟩) (K1.out) ?_
  rotate_left
  ·intro w z;(try dsimp only at z);go_simp;try with_reducible rfl
  simp only[Act.put,sA,sB,sC]
  refine anyE_t (i:=2) (oi:=⟨some 30,Op.fieldAddr 180 (.tmp 29) 1,0,"dag.go:46",#[⟨1,.data⟩],none⟩) (v:=?_) rfl (by kernel_rfl) (fun _ _ _ h=>h) (Or.inl ⟨by rfl,?_⟩) (K1.out) ?_
  rotate_left
  ·intro w z;(try dsimp only at z);go_simp;try with_reducible rfl
  simp only[Act.put,sA,sB,sC]
  refine anyE_t (i:=3) (oi:=⟨some 31,Op.load 178 (.tmp 30),178,"dag.go:46",#[⟨2,.data⟩],none⟩) (v:=?_) rfl (by kernel_rfl) (fun _ _ _ h=>h) (Or.inl ⟨by rfl,?_⟩) (K1.out) ?_
  rotate_left
  ·intro w z;(try dsimp only at z);go_simp;try with_reducible rfl
  simp only[Act.put,sA,sB,sC]
  refine anyE_t (i:=4) (oi:=⟨some 32,Op.move (.tmp 1),3,"dag.go:46",#[],none⟩) (v:=?_) rfl (by kernel_rfl) (fun _ _ _ h=>h) (Or.inl ⟨by rfl,?_⟩) (K1.out) ?_
  rotate_left
  ·intro w z;(try dsimp only at z);go_simp;try with_reducible rfl
  simp only[Act.put,sA,sB,sC]
  refine anyE_t (i:=5) (oi:=⟨some 33,Op.move (.tmp 0),94,"dag.go:46",#[],none⟩) (v:=?_) rfl (by kernel_rfl) (fun _ _ _ h=>h) (Or.inl ⟨by rfl,?_⟩) (K1.out) ?_
  rotate_left
  ·intro w z;(try dsimp only at z);go_simp;try with_reducible rfl
  simp only[Act.put,sA,sB,sC]
  refine anyE_t (i:=6) (oi:=⟨some 34,Op.nilCheck (.tmp 33),0,"dag.go:46",#[⟨5,.data⟩],none⟩) (v:=?_) rfl (by kernel_rfl) (fun _ _ _ h=>h) (Or.inl ⟨by rfl,?_⟩) (K1.out) ?_
  rotate_left
  ·intro w z;(try dsimp only at z);go_simp;try with_reducible rfl
  simp only[Act.put,sA,sB,sC]
  refine anyE_t (i:=7) (oi:=⟨some 35,Op.fieldAddr 180 (.tmp 34) 1,0,"dag.go:46",#[⟨6,.data⟩],none⟩) (v:=?_) rfl (by kernel_rfl) (fun _ _ _ h=>h) (Or.inl ⟨by rfl,?_⟩) (K1.out) ?_
  rotate_left
  ·intro w z;(try dsimp only at z);go_simp;try with_reducible rfl
  simp only[Act.put,sA,sB,sC]
  refine anyE_t (i:=8) (oi:=⟨some 36,Op.load 178 (.tmp 35),178,"dag.go:46",#[⟨7,.data⟩],none⟩) (v:=?_) rfl (by kernel_rfl) (fun _ _ _ h=>h) (Or.inl ⟨by rfl,?_⟩) (K1.out) ?_
  rotate_left
  ·intro w z;(try dsimp only at z);go_simp;try with_reducible rfl
  simp only[Act.put,sA,sB,sC]
  refine anyE_t (i:=9) (oi:=⟨some 37,Op.move (.tmp 1),3,"dag.go:46",#[],none⟩) (v:=?_) rfl (by kernel_rfl) (fun _ _ _ h=>h) (Or.inl ⟨by rfl,?_⟩) (K1.out) ?_
  rotate_left
  ·intro w z;(try dsimp only at z);go_simp;try with_reducible rfl
  simp only[Act.put,sA,sB,sC]
  refine anyE_t (i:=10) (oi:=⟨some 38,Op.lookup 178 (.tmp 36) (.tmp 37) false,22,"dag.go:46",#[⟨8,.data⟩,⟨9,.data⟩],none⟩) (v:=?_) rfl (by kernel_rfl) (fun _ _ _ h=>h) (Or.inl ⟨by rfl,?_⟩) (K1.out) ?_
  rotate_left
  ·intro w z;(try dsimp only at z);go_simp;try with_reducible rfl
  simp only[Act.put,sA,sB,sC]
  refine anyE_t (i:=11) (oi:=⟨some 39,Op.move (.tmp 2),3,"dag.go:46",#[],none⟩) (v:=?_) rfl (by kernel_rfl) (fun _ _ _ h=>h) (Or.inl ⟨by rfl,?_⟩) (K1.out) ?_
  rotate_left
  ·intro w z;(try dsimp only at z);go_simp;try with_reducible rfl
  simp only[Act.put,sA,sB,sC]
  refine anyE_ready (rs:=[12]) (by kernel_rfl) (by simp) ?_
  refine AllE.cons (o:=⟨some 40,Op.buildSlice 22 1 #[(0,Operand.tmp 39)],22,"dag.go:46",#[⟨11,.data⟩],none⟩) rfl (fun Kt hKt=>?_) ?_
  ·go_simp
   try go_wp2_with fail
   refine hKt.out _ _ (fun _=>K2.out) ?_
   clear hKt Kt
   try simp only[Act.put,sA,sB,sC]
   refine anyE_ready (rs:=[13]) (by kernel_rfl) (by simp) ?_
   refine AllE.cons (o:={dst:=some 41,op:=Op.call {callee:=Callee.builtin Builtin.append,args:=#[Operand.tmp 38,Operand.tmp 40],argTypes:=#[22,22]},type:=22,pos:= "dag.go:46",after:=#[⟨10,.data⟩,⟨12,.data⟩],guard:=none}) rfl (fun Kt hKt=>?_) ?_
   ·refine step_app _ (by rfl) _ _ 22 22 (by rfl) V1 (.slice (some ⟨w1.drew.heap.size,0,none⟩) 1 1) (by rfl) (by rfl) v2 w2 R2.out ?_
    refine hKt.out _ _ (fun _=>K3.out) ?_
    clear hKt Kt
    try simp only[Act.put,sA,sB,sC]
    refine anyE_ready (rs:=[14]) (by kernel_rfl) (by simp) ?_
    refine AllE.cons (o:=⟨none,Op.mapUpdate 178 (.tmp 31) (.tmp 32) (.tmp 41),0,"dag.go:46",#[⟨3,.data⟩,⟨4,.data⟩,⟨13,.data⟩,⟨13,.chain⟩,⟨0,.phase⟩,⟨1,.phase⟩,⟨2,.phase⟩,⟨3,.phase⟩,⟨4,.phase⟩,⟨5,.phase⟩,⟨6,.phase⟩,⟨7,.phase⟩,⟨8,.phase⟩,⟨9,.phase⟩,⟨10,.phase⟩,⟨11,.phase⟩,⟨12,.phase⟩,⟨13,.phase⟩],none⟩) rfl (fun Kt hKt=>?_) ?_
    ·go_simp
     refine hKt.out _ _ (fun h=>absurd rfl h) ?_
     clear hKt Kt
     try simp only[Act.put,sA,sB,sC]
     refine anyE_done (by kernel_rfl) ?_ _
     go_wp2_with fail
     refine anyE_start (S:=(fun v0=>v0.cell? ⟨B,2,none⟩=some (.map (some (M false)))∧(Instr.lookup 178 (.map (some (M false))) (.int .i64 i) false).run Tryz.prog v0=.ok V4 v0)) (L:=14) (by kernel_rfl) ?_
     refine anyE_t (i:=0) (oi:=⟨some 42,Op.move (.tmp 0),94,"dag.go:47",#[],none⟩) (v:=?_) rfl (by kernel_rfl) (fun _ _ _ h=>h) (Or.inl ⟨by rfl,?_⟩) (K4.out) ?_
     rotate_left
     ·intro w z;(try dsimp only at z);go_simp;try with_reducible rfl
     simp only[Act.put,sA,sB,sC]
     refine anyE_t (i:=1) (oi:=⟨some 43,Op.nilCheck (.tmp 42),0,"dag.go:47",#[⟨0,.data⟩],none⟩) (v:=?_) rfl (by kernel_rfl) (fun _ _ _ h=>h) (Or.inl ⟨by rfl,?_⟩) (K4.out) ?_
     rotate_left
     ·intro w z;(try dsimp only at z);go_simp;try with_reducible rfl
     simp only[Act.put,sA,sB,sC]
     refine anyE_t (i:=2) (oi:=⟨some 44,Op.fieldAddr 180 (.tmp 43) 2,0,"dag.go:47",#[⟨1,.data⟩],none⟩) (v:=?_) rfl (by kernel_rfl) (fun _ _ _ h=>h) (Or.inl ⟨by rfl,?_⟩) (K4.out) ?_
     rotate_left
     ·intro w z;(try dsimp only at z);go_simp;try with_reducible rfl
     simp only[Act.put,sA,sB,sC]
     refine anyE_t (i:=3) (oi:=⟨some 45,Op.load 178 (.tmp 44),178,"dag.go:47",#[⟨2,.data⟩],none⟩) (v:=?_) rfl (by kernel_rfl) (fun _ _ _ h=>h) (Or.inl ⟨by rfl,?_⟩) (K4.out) ?_
     rotate_left
     ·intro w z;(try dsimp only at z);go_simp;try with_reducible rfl
     simp only[Act.put,sA,sB,sC]
     refine anyE_t (i:=4) (oi:=⟨some 46,Op.move (.tmp 2),3,"dag.go:47",#[],none⟩) (v:=?_) rfl (by kernel_rfl) (fun _ _ _ h=>h) (Or.inl ⟨by rfl,?_⟩) (K4.out) ?_
     rotate_left
     ·intro w z;(try dsimp only at z);go_simp;try with_reducible rfl
     simp only[Act.put,sA,sB,sC]
     refine anyE_t (i:=5) (oi:=⟨some 47,Op.move (.tmp 0),94,"dag.go:47",#[],none⟩) (v:=?_) rfl (by kernel_rfl) (fun _ _ _ h=>h) (Or.inl ⟨by rfl,?_⟩) (K4.out) ?_
     rotate_left
     ·intro w z;(try dsimp only at z);go_simp;try with_reducible rfl
     simp only[Act.put,sA,sB,sC]
     refine anyE_t (i:=6) (oi:=⟨some 48,Op.nilCheck (.tmp 47),0,"dag.go:47",#[⟨5,.data⟩],none⟩) (v:=?_) rfl (by kernel_rfl) (fun _ _ _ h=>h) (Or.inl ⟨by rfl,?_⟩) (K4.out) ?_
     rotate_left
     ·intro w z;(try dsimp only at z);go_simp;try with_reducible rfl
     simp only[Act.put,sA,sB,sC]
     refine anyE_t (i:=7) (oi:=⟨some 49,Op.fieldAddr 180 (.tmp 48) 2,0,"dag.go:47",#[⟨6,.data⟩],none⟩) (v:=?_) rfl (by kernel_rfl) (fun _ _ _ h=>h) (Or.inl ⟨by rfl,?_⟩) (K4.out) ?_
     rotate_left
     ·intro w z;(try dsimp only at z);go_simp;try with_reducible rfl
     simp only[Act.put,sA,sB,sC]
     refine anyE_t (i:=8) (oi:=⟨some 50,Op.load 178 (.tmp 49),178,"dag.go:47",#[⟨7,.data⟩],none⟩) (v:=?_) rfl (by kernel_rfl) (fun _ _ _ h=>h) (Or.inl ⟨by rfl,?_⟩) (K4.out) ?_
     rotate_left
     ·intro w z;(try dsimp only at z);go_simp;try with_reducible rfl
     simp only[Act.put,sA,sB,sC]
     refine anyE_t (i:=9) (oi:=⟨some 51,Op.move (.tmp 2),3,"dag.go:47",#[],none⟩) (v:=?_) rfl (by kernel_rfl) (fun _ _ _ h=>h) (Or.inl ⟨by rfl,?_⟩) (K4.out) ?_
     rotate_left
     ·intro w z;(try dsimp only at z);go_simp;try with_reducible rfl
     simp only[Act.put,sA,sB,sC]
     refine anyE_t (i:=10) (oi:=⟨some 52,Op.lookup 178 (.tmp 50) (.tmp 51) false,22,"dag.go:47",#[⟨8,.data⟩,⟨9,.data⟩],none⟩) (v:=?_) rfl (by kernel_rfl) (fun _ _ _ h=>h) (Or.inl ⟨by rfl,?_⟩) (K4.out) ?_
     rotate_left
     ·intro w z;(try dsimp only at z);go_simp;try with_reducible rfl
     simp only[Act.put,sA,sB,sC]
     refine anyE_t (i:=11) (oi:=⟨some 53,Op.move (.tmp 1),3,"dag.go:47",#[],none⟩) (v:=?_) rfl (by kernel_rfl) (fun _ _ _ h=>h) (Or.inl ⟨by rfl,?_⟩) (K4.out) ?_
     rotate_left
     ·intro w z;(try dsimp only at z);go_simp;try with_reducible rfl
     simp only[Act.put,sA,sB,sC]
     refine anyE_ready (rs:=[12]) (by kernel_rfl) (by simp) ?_
     refine AllE.cons (o:=⟨some 54,Op.buildSlice 22 1 #[(0,Operand.tmp 53)],22,"dag.go:47",#[⟨11,.data⟩],none⟩) rfl (fun Kt hKt=>?_) ?_
     ·go_simp
      try go_wp2_with fail
      refine hKt.out _ _ (fun _=>K5.out) ?_
      clear hKt Kt
      try simp only[Act.put,sA,sB,sC]
      refine anyE_ready (rs:=[13]) (by kernel_rfl) (by simp) ?_
      refine AllE.cons (o:={dst:=some 55,op:=Op.call {callee:=Callee.builtin Builtin.append,args:=#[Operand.tmp 52,Operand.tmp 54],argTypes:=#[22,22]},type:=22,pos:= "dag.go:47",after:=#[⟨10,.data⟩,⟨12,.data⟩],guard:=none}) rfl (fun Kt hKt=>?_) ?_
      ·refine step_app _ (by rfl) _ _ 22 22 (by rfl) V4 (.slice (some ⟨w3.drew.heap.size,0,none⟩) 1 1) (by rfl) (by rfl) v5 w5 R5.out ?_
       refine hKt.out _ _ (fun _=>K6.out) ?_
       clear hKt Kt
       try simp only[Act.put,sA,sB,sC]
       refine anyE_ready (rs:=[14]) (by kernel_rfl) (by simp) ?_
       refine AllE.cons (o:=⟨none,Op.mapUpdate 178 (.tmp 45) (.tmp 46) (.tmp 55),0,"dag.go:47",#[⟨3,.data⟩,⟨4,.data⟩,⟨13,.data⟩,⟨13,.chain⟩,⟨0,.phase⟩,⟨1,.phase⟩,⟨2,.phase⟩,⟨3,.phase⟩,⟨4,.phase⟩,⟨5,.phase⟩,⟨6,.phase⟩,⟨7,.phase⟩,⟨8,.phase⟩,⟨9,.phase⟩,⟨10,.phase⟩,⟨11,.phase⟩,⟨12,.phase⟩,⟨13,.phase⟩],none⟩) rfl (fun Kt hKt=>?_) ?_
       ·go_simp
        refine hKt.out _ _ (fun h=>absurd rfl h) ?_
        clear hKt Kt
        try simp only[Act.put,sA,sB,sC]
        refine anyE_done (by kernel_rfl) ?_ _
        go_wp2
        go_end0
        exact⟨rfl,FIN.out⟩
       exact AllE.nil
      exact AllE.nil
     exact AllE.nil
    exact AllE.nil
   exact AllE.nil
  exact AllE.nil
 exact AllE.nil
end
end Go.Proofs.YthpgfmmpjoodkaaGreatDoor.Da
