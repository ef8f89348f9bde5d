import Derived.Test.YthpgfmmpjoodkaaGreatDoorAnyF
import Derived.Test.YthpgfmmpjoodkaaGreatDoorDDgL
import Derived.Deep.RegionHeld3
import Derived.StillTail
namespace Go.Proofs.YthpgfmmpjoodkaaGreatDoor.Da
set_option maxHeartbeats 8000000
set_option maxRecDepth 100000
set_option linter.unusedVariables false
section
open Go.RowKit Go.Lib Go.WideMaps Go.Maps
variable {w w':World}{B M0 N N':Nat}{M:Bool->Nat}{fp gp:Int×Int->Option Value}{f:Bool->Int->Option Value}{l:Bool->Int->List Int}
theorem DgA.cell0(h:DgA w B M0 M fp f l N):w.cell? ⟨B,0,none⟩=some (.map (some M0))/\w.cell? ⟨B,1,none⟩=some (.map (some (M true)))/\w.cell? ⟨B,2,none⟩=some (.map (some (M false))):=by
 have:=h.head;refine⟨?_,?_,?_⟩<;>(rw[cell_of_row _ _ _ _ _ _ this];rfl)
theorem waits_any(h:DgA w B M0 M fp f l N)(hN:N<=1000000)(i:Int)(hi:wfI i):Calls Tryz.prog 233 #[.pointer (some ⟨B,0,none⟩),.int .i64 i] w fun e w'=>∃v',e=.returned v'/\OwnI w' w.heap.size v' (sortI (l false i))/\Below w.heap.size w w':=by
 obtain⟨c0,c1,c2⟩:=h.cell0;have hl:=h.look false hi;obtain⟨a,cap,e,q⟩:=h.lvlen false i;rw[e] at hl;have hr:=rising_any q (by have:=h.len false i;omega);clear c0 c1;go_enter Tryz.func233,Tryz.ntmps233
 go_wp2_with fail
 refine hr.mono ?_;rintro e w1 ⟨v1,rfl,o1,b1⟩;clear hr hl c2
 go_wp2_with fail
 go_ret;exact⟨_,rfl,o1,b1⟩
theorem behind_any(h:DgA w B M0 M fp f l N)(hN:N<=1000000)(i:Int)(hi:wfI i):Calls Tryz.prog 165 #[.pointer (some ⟨B,0,none⟩),.int .i64 i] w fun e w'=>∃v',e=.returned v'/\OwnI w' w.heap.size v' (sortI (l true i))/\Below w.heap.size w w':=by
 obtain⟨c0,c1,c2⟩:=h.cell0;have hl:=h.look true hi;obtain⟨a,cap,e,q⟩:=h.lvlen true i;rw[e] at hl;have hr:=rising_any q (by have:=h.len true i;omega);clear c0 c2;go_enter Tryz.func165,Tryz.ntmps165
 go_wp2_with fail
 refine hr.mono ?_;rintro e w1 ⟨v1,rfl,o1,b1⟩;clear hr hl c1
 go_wp2_with fail
 go_ret;exact⟨_,rfl,o1,b1⟩
theorem new_any(w:World):Calls Tryz.prog 39 #[] w fun e w'=>∃B M0 M,e=.returned (.pointer (some ⟨B,0,none⟩))/\DgA w' B M0 M (fun _=>none) (fun _ _=>none) (fun _ _=>[]) 0/\(∀k,ft B M0 M (fun _ _=>none) k->w.heap.size<=k)/\Below w.heap.size w w':=by
 have hmm:=@run_makeMap Tryz.prog;obtain⟨S,hS⟩:∃S,w.heap.size=S:=⟨_,rfl⟩;have b1:Below S w (w.alloc (.map #[] 0)):=(Below.refl _ _).alloc (by omega) _;have b2:Below S w ((w.alloc (.map #[] 0)).alloc (.map #[] 0)):=b1.alloc (by simp;omega) _;have b3:Below S w (((w.alloc (.map #[] 0)).alloc (.map #[] 0)).alloc (.map #[] 0)):=b2.alloc (by simp;omega) _;obtain⟨w4,hw4⟩:∃w4,(((w.alloc (.map #[] 0)).alloc (.map #[] 0)).alloc (.map #[] 0)).alloc (.cells #[.map (some S),.map (some (S+1)),.map (some (S+1+1))] 180)=w4:=⟨_,rfl⟩;have b4:Below S w w4:=by rw[<-hw4];exact b3.alloc (by simp;omega) _
 have hB:w4.heap[S+1+1+1]?=some (.cells #[.map (some S),.map (some (S+1)),.map (some (S+1+1))] 180 (0,0)):=by
  rw[<-hw4];have:=heap_alloc_new (((w.alloc (.map #[] 0)).alloc (.map #[] 0)).alloc (.map #[] 0)) (.cells #[.map (some S),.map (some (S+1)),.map (some (S+1+1))] 180);simpa [hS] using this
 have old:∀k,k<S+1+1+1->w4.heap[k]?=(((w.alloc (.map #[] 0)).alloc (.map #[] 0)).alloc (.map #[] 0)).heap[k]?:=fun k hk=>by
  rw[<-hw4];exact heap_alloc_old _ _ (by simp[hS];omega)
 have m0:MapG keyP w4 S (fun _=>none) 0:=by
  have:=MapG.made keyP w;rw[hS] at this;exact this.of_block ((old S (by omega)).trans ((heap_alloc_old _ _ (by simp[hS];omega)).trans (heap_alloc_old _ _ (by simp[hS]))))
 have m1:MapG keyI w4 (S+1) (fun _=>none) 0:=by
  have:=MapG.made keyI (w.alloc (.map #[] 0));rw[show(w.alloc (.map #[] 0)).heap.size=S+1 by simp[hS]] at this;exact this.of_block ((old (S+1) (by omega)).trans (heap_alloc_old _ _ (by simp[hS])))
 have m2:MapG keyI w4 (S+1+1) (fun _=>none) 0:=by
  have:=MapG.made keyI ((w.alloc (.map #[] 0)).alloc (.map #[] 0));rw[show((w.alloc (.map #[] 0)).alloc (.map #[] 0)).heap.size=S+1+1 by simp[hS]] at this;exact this.of_block (old (S+1+1) (by omega))
 have D:DgA w4 (S+1+1+1) S (fun s=>if s then S+1 else S+1+1) (fun _=>none) (fun _ _=>none) (fun _ _=>[]) 0:=
  ⟨hB,⟨0,m0,Nat.le_refl _⟩,fun s=>⟨0,by cases s;exact m2;exact m1,Nat.le_refl _⟩,fun _ _ _ h=>(by cases h),fun _ _ _=>rfl,fun _ _=>Nat.le_refl _,fun _ _ _ _ _ _ _ h=>(by cases h),fun s=>by cases s<;>simp<;>omega,by simp⟩
 have F:∀k,ft (S+1+1+1) S (fun s=>if s then S+1 else S+1+1) (fun _ _=>none) k->S<=k:=by
  rintro k (rfl|rfl|⟨s,rfl⟩|⟨s,i,v,h,_⟩)
  ·omega
  ·omega
  ·cases s<;>simp<;>omega
  ·cases h
 have H4:Hid _:=hw4;clear hw4 hB old m0 m1 m2 b1 b2 b3;go_enter Tryz.func39,Tryz.ntmps39
 go_wp2_with fail
 rw[H4.out];go_ret;exact⟨_,_,_,rfl,D,by rw[hS];exact F,by rw[hS];exact b4⟩
theorem bneN(a b:Nat):((a:Int) != (b:Int))=!decide (a=b):=by
 by_cases h:a=b
 ·subst h;simp
 ·simp[h,bne];omega
theorem leave_any(h:DgA w B M0 M fp f l N)(hN:N<=1000000)(s:Bool)(id:Int)(place:Nat)(hp:place<(l s id).length) :
  Calls Tryz.prog 277 #[.map (some (M s)),.int .i64 id,.int .i64 place] w fun e w'=>e=.returned (.tuple #[.int .i64 (lastI (l s id)),.bool (decide (place≠(l s id).length-1))])/\
   ∃f',DgA w' B M0 M fp f' (lset l s id (rm (l s id) place)) N/\Fr (ft B M0 M f) w w'/\∀k,ft B M0 M f' k->ft B M0 M f k:=by
 obtain⟨L,hL⟩:∃L,l s id=L:=⟨_,rfl⟩
 obtain⟨v,hv⟩:∃v,f s id=some v:=by
  cases hf:f s id with
  | none=>rw[h.non s id hf] at hp;simp at hp
  | some v=>exact⟨v,rfl⟩
 obtain⟨o,one⟩:=h.own s id v hv;rw[hL] at o one hp⊢;obtain⟨m,hm⟩:∃m,L.length=m+1:=⟨L.length-1,by omega⟩;obtain⟨g,cap,rfl⟩:=o.addr one;obtain⟨n0,q,hn0⟩:=h.mi s;have wid:wfI id:=q.okey hv;have hlk:=h.look s wid;have elv:lv f s id=.slice (some ⟨g,0,none⟩) (m+1) cap:=by unfold lv;rw[hv,hm];rfl
 rw[elv] at hlk;have hlast:=lastI_at one;obtain⟨x,hx⟩:∃x,lastI L=x:=⟨_,rfl⟩;rw[hx] at hlast⊢
 have cell:w.cell? ⟨g,m,none⟩=some (.int .i64 x):=by
  obtain⟨b,off,e,_,hc⟩:=o.isIv.elem _ _ hlast
  cases e
  rw[Nat.zero_add,show L.length-1=m by omega] at hc;exact hc
 have cellp:w.cell? ⟨g,place,none⟩=some (.int .i64 (L.getD place 0)):=by
  obtain⟨b,off,e,_,hc⟩:=o.isIv.at hp
  cases e
  rw[Nat.zero_add] at hc;exact hc
 have frz:=o.frozen place;have hcap:m+1<=cap/\cap<=9223372036854775807:=by have:=o.isIv.le;have:=o.isIv.big;unfold maxLen at this;omega
 have hgM:=(h.row hv rfl).2.2.2 s;have q1:MapG keyI (w.setCell ⟨g,place,none⟩ (.int .i64 x)) (M s) (f s) n0:=q.of_block (heap_setCell_other _ _ _ _ (fun e=>hgM e.symm));obtain⟨w2,n2,hr2,q2,hn2,g2⟩:=q1.store Tryz.underlying178 (by omega) (x:=id) wid (.slice (some ⟨g,0,none⟩) m cap);rw[hv] at hn2;have hn2:n2=n0:=by simpa using hn2
 change (Instr.mapUpdate 178 (.map (some (M s))) (.int .i64 id) _).run _ _=_ at hr2
 have er:rm L place=(L.set place x).take m:=by unfold rm;rw[hx,show L.length-1=m by omega]
 have o1:=(o.set place x).cut (k:=m) (by rw[List.length_set];omega);rw[<-er,rm_len,show L.length-1=m by omega] at o1;have F1:Fr (fun k=>k=M s\/∃v,f s id=some v/\v.ownBlock=some k) w (w.setCell ⟨g,place,none⟩ (.int .i64 x)):=Fr.setCell _ _ _ _ _ (.inr ⟨_,hv,rfl⟩);have F2:Fr (fun k=>k=M s\/∃v,f s id=some v/\v.ownBlock=some k) w w2:=F1.trans (Fr.of_grown g2) (fun j hj=>by injection hj with hj;exact .inl (.inl hj.symm));have o2:OwnI w2 0 (.slice (some ⟨g,0,none⟩) m cap) (rm L place):=o1.fr (Fr.of_grown g2) (fun k hk e=>by injection hk with hk;injection e with e;exact hgM (by rw[e];exact hk))
 have hft:∀k,(k=M s\/∃v,f s id=some v/\v.ownBlock=some k)->ft B M0 M f k:=fun k hk=>by
  rcases hk with hk|⟨v,h1,h2⟩
  ·exact .inr (.inr (.inl ⟨s,hk⟩))
  ·exact .inr (.inr (.inr ⟨s,id,v,h1,h2⟩))
 have lenr:(rm L place).length<=N:=by rw[rm_len];have:=h.len s id;rw[hL] at this;omega
 have edec:(place≠L.length-1)=(place≠m):=by rw[show L.length-1=m by omega]
 simp only[edec];have ew1:((m+1:Nat):Int)-1=(m:Int):=by omega
 by_cases c0:m=0
 ·subst c0;obtain⟨w3,n3,hr3,q3,hn3,g3⟩:=q2.drop Tryz.underlying178 (x:=id) (u:=.slice (some ⟨g,0,none⟩) 0 cap) (by simp[fput]) 0
  change (Builtin.delete_ #[178,3] 0 #[.map (some (M s)),.int .i64 id]).run _ _=_ at hr3
  have F3:Fr (fun k=>k=M s\/∃v,f s id=some v/\v.ownBlock=some k) w w3:=F2.trans (Fr.of_grown g3) (fun j hj=>by injection hj with hj;exact .inl (.inl hj.symm));have er0:rm L place=[]:=List.length_eq_zero_iff.1 (by rw[rm_len];omega);obtain⟨D,hD⟩:=h.turn (s:=s) (id:=id) (d:=rm L place) q3 (by omega) lenr F3 (fun j hj=>by simp[fdel,fput,hj]) (.inl ⟨by simp[fdel],er0⟩)
  have hD':∀k,ft B M0 M (fset f s (fdel (fput (f s) id (.slice (some ⟨g,0,none⟩) 0 cap)) id)) k->ft B M0 M f k:=fun k hk=>by
   rcases hk with hk|hk|hk|⟨a,i,v,h1,h2⟩
   ·exact .inl hk
   ·exact .inr (.inl hk)
   ·exact .inr (.inr (.inl hk))
   ·by_cases c:a=s
    ·subst c;rw[fset_same] at h1;simp[fdel,fput] at h1;obtain⟨h0,h1⟩:=h1;rw[if_neg h0] at h1;exact .inr (.inr (.inr ⟨a,i,v,h1,h2⟩))
    ·rw[fset_ne _ _ c] at h1;exact .inr (.inr (.inr ⟨a,i,v,h1,h2⟩))
  have FIN:Aside (∃f',DgA w3 B M0 M fp f' (lset l s id (rm L place)) N/\Fr (ft B M0 M f) w w3/\∀k,ft B M0 M f' k->ft B M0 M f k):=⟨_,D,F3.mono hft,hD'⟩;have hp0:place=0:=by omega
  subst hp0;clear h o q q1 q2 q3 g2 g3 o1 o2 F1 F2 F3 D hD hD' hft hlast hgM hn2 hn3 er0 er elv hv hL hn0 edec;go_enter Tryz.func277,Tryz.ntmps277
  go_wp2_with fail
  refine bodyPost_ret (v:=.tuple #[.int .i64 x,.bool (decide (0≠0))]) (by simp[results,Tryz.results277,go_sem]) rfl ⟨rfl,FIN.out⟩
 ·have nem:rm L place≠[]:=fun e=>c0 (by have:=rm_len L place;rw[e] at this;simp at this;omega);have oo:=o2;rw[show m=(rm L place).length by rw[rm_len];omega] at oo;obtain⟨D,hD⟩:=h.turn (s:=s) (id:=id) (d:=rm L place) q2 (by omega) lenr F2 (fun j hj=>by simp[fput,hj]) (.inr ⟨_,by simp[fput],o2,nem,fun k hk=>.inl ⟨_,hv,hk⟩⟩)
  have hD':∀k,ft B M0 M (fset f s (fput (f s) id (.slice (some ⟨g,0,none⟩) m cap))) k->ft B M0 M f k:=fun k hk=>by
   rcases hk with hk|hk|hk|⟨a,i,v,h1,h2⟩
   ·exact .inl hk
   ·exact .inr (.inl hk)
   ·exact .inr (.inr (.inl hk))
   ·by_cases c:a=s
    ·subst c;rw[fset_same] at h1;unfold fput at h1
     split at h1
     ·injection h1 with h1
      subst h1;exact .inr (.inr (.inr ⟨a,id,_,hv,h2⟩))
     ·exact .inr (.inr (.inr ⟨a,i,v,h1,h2⟩))
    ·rw[fset_ne _ _ c] at h1;exact .inr (.inr (.inr ⟨a,i,v,h1,h2⟩))
  have FIN:Aside (∃f',DgA w2 B M0 M fp f' (lset l s id (rm L place)) N/\Fr (ft B M0 M f) w w2/\∀k,ft B M0 M f' k->ft B M0 M f k):=⟨_,D,F2.mono hft,hD'⟩;clear h o q q1 q2 g2 o1 o2 F1 F2 D hD hD' hft hlast hgM hn2 er elv hv hL hn0 edec oo nem;go_enter Tryz.func277,Tryz.ntmps277
  go_wp2_with fail
  refine bodyPost_ret (v:=.tuple #[.int .i64 x,.bool (decide (place≠m))]) (by simp[results,Tryz.results277,go_sem,bneN]) rfl ⟨rfl,FIN.out⟩
end
section
section
variable {P:Program}{ops:Array Oper}{Q:Exit->Act->World->Prop}{md:Region.Mode}{S:World->Prop}{L:Nat}
theorem anyE_t{i:Nat}{oi:Oper}{v:Value}{f:Nat}{lst:Array Bool}{a:Act}{w:World}(hi:ops[i]?=some oi)(hh:(Region.noSelect ops&&Region.waitsFor md ops L i&&Region.free md ops lst i&&(Region.ready md ops lst).contains i)=true)
  (hQ:∀c a w,Q (.panic c) (a.put oi.dst v) w->Q (.panic c) a w) (hy:YieldsIf P ops S oi v a) (hS:S w) (h:wpAnyE P md ops Q S L f (lst.setIfInBounds i true) (a.put oi.dst v) w):wpAnyE P md ops Q S L (f+1) lst a w:=by
 simp only[Bool.and_eq_true] at hh;exact anyE_take hi hh.1.1.1 hh.1.1.2 hh.1.2 hh.2 hQ hy hS h
end
end
section
section
variable {P:Program}{ops:Array Oper}{Q:Exit->Act->World->Prop}{md:Region.Mode}{S:World->Prop}{L:Nat}
end
end
section
open Go.RowKit Go.Lib Go.WideMaps Go.Maps
theorem step_app{ops:Array Oper}{o:Oper}{a:Act}{K:Act->World->Prop}{Q:Exit->Act->World->Prop}{E:Prop}(w:World)(hgd:o.guard=none)(s x:Operand)(t tn:TypeId)
  (ho:o.op=.call {callee:=.builtin .append,args:=#[s,x],argTypes:=#[t,tn]}) (vs vx:Value) (hs:a.eval s=vs) (hx:a.eval x=vx)
  (v':Value) (w':World) (hr:(Builtin.append_ #[t,tn] o.type #[vs,vx]).run Tryz.prog w=.ok v' w') (h:K (a.put o.dst v') w') :
  if Region.wanted o (yielded ops a.tmps)=true then Oper.wp Tryz.prog o a w K Q else E:=by
 have hw:Region.wanted o (yielded ops a.tmps)=true:=by simp[Region.wanted,hgd]
 rw[if_pos hw];exact Lib.wp_append_run w s x t tn ho vs vx hs hx v' w' hr h
variable {w w':World}{B M0 N N':Nat}{M:Bool->Nat}{fp gp:Int×Int->Option Value}{f:Bool->Int->Option Value}{l:Bool->Int->List Int}
theorem DgA.drew(h:DgA w B M0 M fp f l N):DgA w.drew B M0 M fp f l N:=h.below ((Below.refl _ _).drew)
end
end Go.Proofs.YthpgfmmpjoodkaaGreatDoor.Da
