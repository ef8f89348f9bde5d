import Derived.Test.YthpgfmmpjoodkaaGreatDoorDDgK
namespace Go.Proofs.YthpgfmmpjoodkaaGreatDoor.Da
set_option maxHeartbeats 8000000
set_option maxRecDepth 100000
set_option linter.unusedVariables false
open Go.RowKit Go.Lib Go.WideMaps Go.Maps
variable {w w' u v:World}{X X' Y Z:Nat->Prop}{B N N':Nat}{E E':Rel}{p i id:Int}
theorem take_up{d:List Int}{I:Nat}(hI:I<d.length):d.take (I+1)=d.take I++[d.getD I 0]:=by
 rw[List.getD,List.getElem?_eq_getElem hI,List.take_add_one,List.getElem?_eq_getElem hI]
 rfl
theorem mem_take_up{d:List Int}{I:Nat}(hI:I<d.length)(x:Int):x∈d.take (I+1)↔x∈d.take I\/x=d.getD I 0:=by rw[take_up hI];simp
theorem getD_mem{d:List Int}{I:Nat}(hI:I<d.length):d.getD I 0∈d:=by
 rw[List.getD,List.getElem?_eq_getElem hI];exact List.getElem_mem hI
theorem nodup_take{d:List Int}(h:d.Nodup){I:Nat}(hI:I<d.length):d.getD I 0∉d.take I:=fun hm=>by
 have h1:=h.sublist (List.take_sublist (I+1) d);rw[take_up hI] at h1;exact(List.nodup_append.1 h1).2.2 _ hm _ (by simp) rfl
theorem OwnI.get{b n cap:Nat}{a:Option Addr}{d:List Int}(o:OwnI w b (.slice a n cap) d)(hn:d.length=n){I:Nat}(hI:I<n):∃g off,a=some ⟨g,off,none⟩/\w.cell? ⟨g,off+I,none⟩=some (.int .i64 (d.getD I 0)):=by
 subst hn;obtain⟨g,off,e,_,hc⟩:=o.isIv.at hI;exact⟨g,off,e,hc⟩
theorem Dg.waitsLen(h:Dg w X B E N)(hi:wfI i):∃M2 a n cap,w.cell? ⟨B,2,none⟩=some (.map (some M2))/\(Instr.lookup 178 (.map (some M2)) (.int .i64 i) false).run Tryz.prog w=.ok (.slice a n cap) w/\(n=0↔∀q,¬E q i)/\n<=N:=by
 obtain⟨M0,M,fp,f,l,D,I,hX⟩:=h;obtain⟨a,cap,e,_⟩:=D.lvlen false i;refine⟨M false,a,_,cap,D.cell0.2.2,by rw[<-e];exact D.look false hi,?_,D.len _ _⟩;rw[List.length_eq_zero_iff];constructor
 ·intro e q hq;have:=(I.ew q i).2 hq;rw[e] at this;simp at this
 ·intro h
  cases hl:l false i with
  | nil=>rfl
  | cons q r=>exact absurd ((I.ew q i).1 (by rw[hl];simp)) (h q)
theorem only_ex(E:Rel)(id:Int):∃f:Int->Bool,∀j,f j=true↔∀q,E q j->q=id:=⟨fun j=>@decide (∀q,E q j->q=id) (Classical.propDecidable _),fun j=>by simp⟩
theorem OwnI.push{b:Nat}{v:Value}{d:List Int}(o:OwnI w b v d)(x:Int)(hd:d.length<1000000)(hb:b<=w.heap.size):∃v' w',(Builtin.append_ #[22,22] 22 #[v,.slice (some ⟨w.heap.size,0,none⟩) 1 1]).run Tryz.prog (w.alloc (.cells #[.int .i64 x] 3))=.ok v' w'/\OwnI w' b v' (d++[x])/\
   Fr (fun k=>v.ownBlock=some k) w w'/\∀k,v'.ownBlock=some k->v.ownBlock=some k\/w.heap.size<=k:=by
 have b1:Below w.heap.size w (w.alloc (.cells #[.int .i64 x] 3)):=(Below.refl _ _).alloc (Nat.le_refl _) _;obtain⟨v',w',hr,o',g,n⟩:=app_run (o.below b1) (OwnI.one (base:=0) w x (Nat.zero_le _)).isIv (by simp;omega) (by have:=b1.size;omega) 22;exact⟨v',w',hr,o',(Fr.below b1).trans (Fr.of_grown g) (fun j hj=>.inl hj),fun k hk=>(n k hk).imp id (fun e=>by have:=b1.size;omega)⟩
theorem wpList_app{ops:Array Oper}{rest:List Oper}{o:Oper}{a:Act}{Q:Exit->Act->World->Prop}(w:World)(hgd:o.guard=none)(s x:Operand)(t:TypeId)
  (ho:o.op=.call {callee:=.builtin .append,args:=#[s,x],argTypes:=#[t,t]}) (vs vx:Value) (hs:a.eval s=vs) (hx:a.eval x=vx)
  (v':Value) (w':World) (hr:(Builtin.append_ #[t,t] o.type #[vs,vx]).run Tryz.prog w=.ok v' w') (h:wpList Tryz.prog ops Q rest (a.put o.dst v') w'):wpList Tryz.prog ops Q (o::rest) a w:=by
 refine wpList_plain hgd fun K hK=>?_;exact Lib.wp_append_run w s x t t ho vs vx hs hx v' w' hr (hK _ _ h)
theorem doneG(h:Dg w X B E N)(hN:N<1000000)(hi:wfI id):Calls Tryz.prog 270 #[.pointer (some ⟨B,0,none⟩),.int .i64 id] w fun e w'=>∃v' d X',e=.returned v'/\OwnI w' w.heap.size v' d/\Up d/\(∀j,j∈d↔E id j/\∀q,E q j->q=id)/\Dg w' X' B (fun q j=>E q j/\q≠id) N/\St X w X' w'/\Dis v' X'/\d.length<=N:=by
 have hW:=behindG h (by omega) id hi;have ord:=h.ord;obtain⟨oB,hoB'⟩:=only_ex E id;have HOB:Aside (∀j,oB j=true↔∀q,E q j->q=id):=hoB';clear hoB';go_enter Tryz.func270,Tryz.ntmps270
 go_wp2_with fail
 refine hW.mono ?_;rintro e w1 ⟨v1,d,rfl,o1,ud,md,ld,b1⟩;have h1:=h.below b1;have dis1:=h.dis o1;have s1:=St.below X b1;obtain⟨a,cap,rfl,q⟩:=o1.isI;obtain⟨n,hn⟩:∃n,d.length=n:=⟨_,rfl⟩;rw[hn] at o1 dis1 ld⊢;obtain⟨S,hS⟩:∃S,w.heap.size=S:=⟨_,rfl⟩;have HS:Aside (OwnI w1 S (.slice a n cap) d/\Dis (.slice a n cap) X/\Dg w1 X B E N/\St X w X w1/\S<=w1.heap.size):=⟨by rw[<-hS];exact o1,dis1,h1,s1,by have:=b1.size;omega⟩;clear hW h o1 dis1 s1 h1 q b1
 go_wp2_with fail
 go_loopw [5,12] (fun s5 s12 wr=>∃(I:Nat)(vf:Value),I<=n/\s12=.int .i64 I/\vf=s5/\∃X',Dg wr X' B (fun q j=>E q j/\¬(q=id/\j∈d.take I)) N/\St X w X' wr/\OwnI wr S (.slice a n cap) d/\Dis (.slice a n cap) X'/\OwnI wr S vf ((d.take I).filter (oB))/\Dis vf X'/\(∀k,vf.ownBlock=some k->Value.ownBlock (.slice a n cap)≠some k)/\S<=wr.heap.size) (fun _ i _=>n-(intOf i).toNat)
 case atStart=>
  obtain⟨q1,q2,q3,q4,q5⟩:=HS.out;exact⟨0,_,by omega,rfl,rfl,X,q3.congr (fun p i=>by simp),q4,q1,q2,OwnI.nil _ _,fun k hk=>(by cases hk),fun k hk=>(by cases hk),q5⟩
 case round=>
  obtain⟨I,s5,hI,rfl,rfl,X1,D,S1,o,di,of,df,nf,sz⟩:=hrel;by_cases c:I<n
  ·obtain⟨g,off,rfl,hc⟩:=o.get hn c;obtain⟨x,hx⟩:∃x,d.getD I 0=x:=⟨_,rfl⟩;rw[hx] at hc;have hEx:E id x:=(md x).1 (by rw[<-hx];exact getD_mem (by omega));have wx:wfI x:=by obtain⟨h1,h2,h3⟩:=ord _ _ hEx;exact wfI_of (by omega) (by omega)
   have P:=partG D (by omega) (p:=id) (i:=x) ⟨hEx,fun hh=>nodup_take ud.nodup (I:=I) (by omega) (by rw[hx];exact hh.2)⟩;have HD:Aside (OwnI wr S (.slice (some ⟨g,off,none⟩) n cap) d/\Dis (.slice (some ⟨g,off,none⟩) n cap) X1/\St X w X1 wr/\OwnI wr S s5 ((d.take I).filter (oB))/\Dis s5 X1/\(∀k,s5.ownBlock=some k->Value.ownBlock (.slice (some ⟨g,off,none⟩) n cap)≠some k)/\S<=wr.heap.size):=⟨o,di,S1,of,df,nf,sz⟩;have HX:Hid _:=hx;clear D S1 o di HS hx of df nf sz
   go_wp2_with fail
   refine P.mono ?_;rintro e w2 ⟨rfl,X2,D2,S2⟩;obtain⟨o,di,S1,of,df,nf,sz⟩:=HD.out
   have D2':Dg w2 X2 B (fun q j=>E q j/\¬(q=id/\j∈d.take (I+1))) N:=D2.congr (fun q j=>by
     rw[mem_take_up (by omega),HX.out];unfold Epart;refine Iff.symm ⟨?_,?_⟩
     ·rintro⟨⟨h1,h2⟩,h3⟩;refine⟨h1,fun hh=>?_⟩;rcases hh.2 with e|e
      ·exact h2 ⟨hh.1,e⟩
      ·exact h3 ⟨hh.1,e⟩
     ·rintro⟨h1,h2⟩;exact⟨⟨h1,fun hh=>h2 ⟨hh.1,.inl hh.2⟩⟩,fun hh=>h2 ⟨hh.1,.inr hh.2⟩⟩)
   have o2:=o.st di S2;have di2:=di.st o S2;have of2:=of.st df S2;have df2:=df.st of S2;have S12:=S1.trans S2;have sz2:S<=w2.heap.size:=by have:=S2.size;omega
   obtain⟨M2,aw,nw,cw,c2,lk,nw0,nwN⟩:=D2'.waitsLen wx
   have nw1:nw=0↔oB x=true:=by
    rw[nw0,HOB.out];constructor
    ·intro h q hq;refine Decidable.not_not.1 fun hne=>h q ⟨hq,fun hh=>hne hh.1⟩
    ·rintro h q ⟨hq,hne⟩;exact hne ⟨h q hq,(mem_take_up (by omega) _).2 (.inr HX.out.symm)⟩
   have fl:(d.take (I+1)).filter (oB)=(d.take I).filter (oB)++if oB x=true then [x] else []:=by
    rw[take_up (by omega),List.filter_append,HX.out];congr 1;by_cases cc:oB x=true<;>simp[cc]
   clear P D2 HD S2;by_cases c0:nw=0
   ·have hb:=nw1.1 c0;rw[hb] at fl;have hlen:((d.take I).filter (oB)).length<1000000:=Nat.lt_of_le_of_lt (List.length_filter_le _ _) (by simp;omega);obtain⟨v3,w3,hr3,o3,F3,n3⟩:=of2.push x hlen sz2
    have NX:Aside (∃X',Dg w3 X' B (fun q j=>E q j/\¬(q=id/\j∈d.take (I+1))) N/\St X w X' w3/\OwnI w3 S (.slice (some ⟨g,off,none⟩) n cap) d/\Dis (.slice (some ⟨g,off,none⟩) n cap) X'/\OwnI w3 S v3 ((d.take (I+1)).filter (oB))/\Dis v3 X'/\(∀k,v3.ownBlock=some k->Value.ownBlock (.slice (some ⟨g,off,none⟩) n cap)≠some k)/\S<=w3.heap.size):=by
     refine⟨X2,D2'.fr F3 (fun k hk hh=>df2 k hh hk),⟨S12.fr.trans F3 (fun j hj=>?_),S12.new⟩,o2.fr F3 (fun k hk hh=>nf k hh hk),di2,by rw[fl];exact o3,fun k hk hx=>?_,fun k hk he=>?_,by have:=F3.size;omega⟩
     ·have:=(of2.rowLt hj).1;exact .inr (by omega)
     ·rcases n3 k hk with e|e
      ·exact df2 k e hx
      ·have:=D2'.lt hx;omega
     ·rcases n3 k hk with e|e
      ·exact nf k e he
      ·have:=(o2.rowLt he).2;omega
    clear D2' o2 di2 of2 df2 S12 sz2 o di S1 of df nf sz o3 F3 n3 nw1 nw0 fl hlen;subst c0
    go_wp2_with (at_builtin;refine wpList_app _ rfl _ _ 22 rfl _ _ rfl rfl v3 w3 hr3 ?_;clear hr3)
    go_roundw
    case rel=>exact⟨I+1,_,by omega,by go_num,rfl,NX.out⟩
    case measure=>simp[intOf];omega
   ·have hb:¬oB x=true:=fun h=>c0 (nw1.2 h);rw[if_neg hb,List.append_nil] at fl
    have NX:Aside (∃X',Dg w2 X' B (fun q j=>E q j/\¬(q=id/\j∈d.take (I+1))) N/\St X w X' w2/\OwnI w2 S (.slice (some ⟨g,off,none⟩) n cap) d/\Dis (.slice (some ⟨g,off,none⟩) n cap) X'/\OwnI w2 S s5 ((d.take (I+1)).filter (oB))/\Dis s5 X'/\(∀k,s5.ownBlock=some k->Value.ownBlock (.slice (some ⟨g,off,none⟩) n cap)≠some k)/\S<=w2.heap.size):=
     ⟨X2,D2',S12,o2,di2,by rw[fl];exact of2,df2,nf,sz2⟩
    clear D2' o2 di2 of2 df2 S12 sz2 o di S1 of df nf sz nw1 nw0 fl hb
    go_wp2_with fail
    go_roundw
    case rel=>exact⟨I+1,_,by omega,by go_num,rfl,NX.out⟩
    case measure=>simp[intOf];omega
  ·obtain rfl:I=n:=by omega
   have FIN:Aside (∃v' d' X',Ending.returned s5=.returned v'/\OwnI wr S v' d'/\Up d'/\(∀j,j∈d'↔E id j/\∀q,E q j->q=id)/\Dg wr X' B (fun q j=>E q j/\q≠id) N/\St X w X' wr/\Dis v' X'/\d'.length<=N):=by
    rw[List.take_of_length_le (by omega)] at of;refine⟨s5,_,X1,rfl,of,ud.filter _,fun j=>?_,D.congr (fun q j=>?_),S1,df,Nat.le_trans (List.length_filter_le _ _) (by omega)⟩
    ·rw[List.mem_filter,md,HOB.out]
    ·rw[List.take_of_length_le (by omega),md j];constructor
     ·rintro⟨h1,h2⟩;exact⟨h1,fun hh=>h2 hh.1⟩
     ·rintro⟨h1,h2⟩;exact⟨h1,fun e=>h2 ⟨e,by rw[<-e];exact h1⟩⟩
   clear D S1 o di of df nf sz
   go_wp2_with fail
   go_ret
   first|exact FIN.out|(rw[hS];exact FIN.out)
end Go.Proofs.YthpgfmmpjoodkaaGreatDoor.Da
