import Derived.Test.YtjpbngiddjkjiaaGreatDoorDDgK
import Derived.Deep.CutBlock
import Derived.Deep.DeepCutAuto
open Go.Proofs.Tryz
namespace Go.Proofs.YtjpbngiddjkjiaaGreatDoor.Da
set_option maxHeartbeats 8000000
set_option maxRecDepth 100000
set_option linter.unusedVariables false
open Go.RowKit Go.Lib Go.WideMaps Go.Maps
section
variable {w w' u v:World}{X X' Y Z:Nat->Prop}{B N N':Nat}{E E':Rel}{p i id:Int}
theorem take_up{d:List Int}{I:Nat}(hI:I<d.length):d.take (I+1)=d.take I++[d.getD I 0]:=by
 rw[List.getD,List.getElem?_eq_getElem hI,List.take_add_one,List.getElem?_eq_getElem hI]
 rfl
theorem mem_take_up{d:List Int}{I:Nat}(hI:I<d.length)(x:Int):x∈d.take (I+1)↔x∈d.take I\/x=d.getD I 0:=by rw[take_up hI];simp
theorem getD_mem{d:List Int}{I:Nat}(hI:I<d.length):d.getD I 0∈d:=by
 rw[List.getD,List.getElem?_eq_getElem hI];exact List.getElem_mem hI
theorem nodup_take{d:List Int}(h:d.Nodup){I:Nat}(hI:I<d.length):d.getD I 0∉d.take I:=fun hm=>by
 have h1:=h.sublist (List.take_sublist (I+1) d);rw[take_up hI] at h1;exact(List.nodup_append.1 h1).2.2 _ hm _ (by simp) rfl
theorem OwnI.get{b n cap:Nat}{a:Option Addr}{d:List Int}(o:OwnI w b (.slice a n cap) d)(hn:d.length=n){I:Nat}(hI:I<n):∃g off,a=some ⟨g,off,none⟩/\w.cell? ⟨g,off+I,none⟩=some (.int .i64 (d.getD I 0)):=by
 subst hn;obtain⟨g,off,e,_,hc⟩:=o.isIv.at hI;exact⟨g,off,e,hc⟩
theorem freeG(h:Dg w X B E N)(hN:N<=1000000)(hi:wfI id):Calls prog 202 #[.pointer (some ⟨B,0,none⟩),.int .i64 id] w fun e w'=>e=.returned (.tuple #[])/\∃X',Dg w' X' B (fun q j=>E q j/\j≠id) N/\St X w X' w':=by
 have hW:=waitsG h hN id hi;go_enter func202,ntmps202
 go_wp2_with fail
 refine hW.mono ?_;rintro e w1 ⟨v1,d,rfl,o1,ud,md,ld,b1⟩;have h1:=h.below b1;have dis1:=h.dis o1;have s1:=St.below X b1;obtain⟨a,cap,rfl,q⟩:=o1.isI;obtain⟨n,hn⟩:∃n,d.length=n:=⟨_,rfl⟩;rw[hn] at o1 dis1 ld⊢;have HS:Aside (OwnI w1 w.heap.size (.slice a n cap) d/\Dis (.slice a n cap) X/\Dg w1 X B E N/\St X w X w1):=⟨o1,dis1,h1,s1⟩;clear hW h o1 dis1 s1 h1 q b1
 go_wp2_with fail
 go_loopw [10] (fun s10 wr=>∃I:Nat,I<=n/\s10=.int .i64 I/\∃X',Dg wr X' B (fun q j=>E q j/\¬(j=id/\q∈d.take I)) N/\St X w X' wr/\OwnI wr w.heap.size (.slice a n cap) d/\Dis (.slice a n cap) X') (fun i _=>n-(intOf i).toNat)
 case atStart=>
  obtain⟨q1,q2,q3,q4⟩:=HS.out;exact⟨0,by omega,rfl,X,q3.congr (fun p i=>by simp),q4,q1,q2⟩
 case round=>
  obtain⟨I,hI,rfl,X1,D,S1,o,di⟩:=hrel;by_cases c:I<n
  ·obtain⟨g,off,rfl,hc⟩:=o.get hn c;obtain⟨x,hx⟩:∃x,d.getD I 0=x:=⟨_,rfl⟩;rw[hx] at hc;have P:=partG D hN (p:=x) (i:=id) ⟨(md x).1 (by rw[<-hx];exact getD_mem (by omega)),fun hh=>nodup_take ud.nodup (I:=I) (by omega) (by rw[hx];exact hh.2)⟩;have HD:Aside (OwnI wr w.heap.size (.slice (some ⟨g,off,none⟩) n cap) d/\Dis (.slice (some ⟨g,off,none⟩) n cap) X1/\St X w X1 wr):=⟨o,di,S1⟩;have HX:Hid _:=hx;clear D S1 o di HS hx
   go_wp2_with fail
   refine P.mono ?_;rintro e w2 ⟨rfl,X2,D2,S2⟩;obtain⟨o,di,S1⟩:=HD.out
   have NX:Aside (∃X',Dg w2 X' B (fun q j=>E q j/\¬(j=id/\q∈d.take (I+1))) N/\St X w X' w2/\OwnI w2 w.heap.size (.slice (some ⟨g,off,none⟩) n cap) d/\Dis (.slice (some ⟨g,off,none⟩) n cap) X'):=
    ⟨X2,D2.congr (fun q j=>by
     rw[mem_take_up (by omega),HX.out];unfold Epart;refine Iff.symm ⟨?_,?_⟩
     ·rintro⟨⟨h1,h2⟩,h3⟩;refine⟨h1,fun hh=>?_⟩;rcases hh.2 with e|e
      ·exact h2 ⟨hh.1,e⟩
      ·exact h3 ⟨e,hh.1⟩
     ·rintro⟨h1,h2⟩;exact⟨⟨h1,fun hh=>h2 ⟨hh.1,.inl hh.2⟩⟩,fun hh=>h2 ⟨hh.2,.inr hh.1⟩⟩),S1.trans S2,o.st di S2,di.st o S2⟩
   clear P D2 S2 o di S1 HD
   go_wp2_with fail
   go_roundw
   case rel=>exact⟨I+1,by omega,by go_num,NX.out⟩
   case measure=>simp[intOf];omega
  ·obtain rfl:I=n:=by omega
   have FIN:Aside (∃X',Dg wr X' B (fun q j=>E q j/\j≠id) N/\St X w X' wr):=⟨X1,D.congr (fun q j=>by
    rw[List.take_of_length_le (by omega),md q];constructor
    ·rintro⟨h1,h2⟩;exact⟨h1,fun hh=>h2 hh.1⟩
    ·rintro⟨h1,h2⟩;exact⟨h1,fun e=>h2 ⟨e,by rw[<-e];exact h1⟩⟩),S1⟩
   clear D S1 o di
   go_wp2
   go_end0
   exact⟨rfl,FIN.out⟩
theorem Dg.waitsLen(h:Dg w X B E N)(hi:wfI i):∃M2 a n cap,w.cell? ⟨B,2,none⟩=some (.map (some M2))/\(Instr.lookup 117 (.map (some M2)) (.int .i64 i) false).run prog w=.ok (.slice a n cap) w/\(n=0↔∀q,¬E q i)/\n<=N:=by
 obtain⟨M0,M,fp,f,l,D,I,hX⟩:=h;obtain⟨a,cap,e,_⟩:=D.lvlen false i;refine⟨M false,a,_,cap,D.cell0.2.2,by rw[<-e];exact D.look false hi,?_,D.len _ _⟩;rw[List.length_eq_zero_iff];constructor
 ·intro e q hq;have:=(I.ew q i).2 hq;rw[e] at this;simp at this
 ·intro h
  cases hl:l false i with
  | nil=>rfl
  | cons q r=>exact absurd ((I.ew q i).1 (by rw[hl];simp)) (h q)
theorem only_ex(E:Rel)(id:Int):∃f:Int->Bool,∀j,f j=true↔∀q,E q j->q=id:=⟨fun j=>@decide (∀q,E q j->q=id) (Classical.propDecidable _),fun j=>by simp⟩
theorem OwnI.push{b:Nat}{v:Value}{d:List Int}(o:OwnI w b v d)(x:Int)(hd:d.length<1000000)(hb:b<=w.heap.size):∃v' w',(Builtin.append_ #[49,49] 49 #[v,.slice (some ⟨w.heap.size,0,none⟩) 1 1]).run prog (w.alloc (.cells #[.int .i64 x] 3))=.ok v' w'/\OwnI w' b v' (d++[x])/\
   Fr (fun k=>v.ownBlock=some k) w w'/\∀k,v'.ownBlock=some k->v.ownBlock=some k\/w.heap.size<=k:=by
 have b1:Below w.heap.size w (w.alloc (.cells #[.int .i64 x] 3)):=(Below.refl _ _).alloc (Nat.le_refl _) _;obtain⟨v',w',hr,o',g,n⟩:=app_run (o.below b1) (OwnI.one (base:=0) w x (Nat.zero_le _)).isIv (by simp;omega) (by have:=b1.size;omega) 49;exact⟨v',w',hr,o',(Fr.below b1).trans (Fr.of_grown g) (fun j hj=>.inl hj),fun k hk=>(n k hk).imp id (fun e=>by have:=b1.size;omega)⟩
theorem wpList_app{ops:Array Oper}{rest:List Oper}{o:Oper}{a:Act}{Q:Exit->Act->World->Prop}(w:World)(hgd:o.guard=none)(s x:Operand)(t:TypeId)
  (ho:o.op=.call {callee:=.builtin .append,args:=#[s,x],argTypes:=#[t,t]}) (vs vx:Value) (hs:a.eval s=vs) (hx:a.eval x=vx)
  (v':Value) (w':World) (hr:(Builtin.append_ #[t,t] o.type #[vs,vx]).run prog w=.ok v' w') (h:wpList prog ops Q rest (a.put o.dst v') w'):wpList prog ops Q (o::rest) a w:=by
 refine wpList_plain hgd fun K hK=>?_;exact Lib.wp_append_run w s x t t ho vs vx hs hx v' w' hr (hK _ _ h)
theorem doneG(h:Dg w X B E N)(hN:N<1000000)(hi:wfI id):Calls prog 152 #[.pointer (some ⟨B,0,none⟩),.int .i64 id] w fun e w'=>∃v' d X',e=.returned v'/\OwnI w' w.heap.size v' d/\Up d/\(∀j,j∈d↔E id j/\∀q,E q j->q=id)/\Dg w' X' B (fun q j=>E q j/\q≠id) N/\St X w X' w'/\Dis v' X'/\d.length<=N:=by
 have hW:=behindG h (by omega) id hi;have ord:=h.ord;obtain⟨oB,hoB'⟩:=only_ex E id;have HOB:Aside (∀j,oB j=true↔∀q,E q j->q=id):=hoB';clear hoB';go_enter func152,ntmps152
 go_wp2_with fail
 refine hW.mono ?_;rintro e w1 ⟨v1,d,rfl,o1,ud,md,ld,b1⟩;have h1:=h.below b1;have dis1:=h.dis o1;have s1:=St.below X b1;obtain⟨a,cap,rfl,q⟩:=o1.isI;obtain⟨n,hn⟩:∃n,d.length=n:=⟨_,rfl⟩;rw[hn] at o1 dis1 ld⊢;obtain⟨S,hS⟩:∃S,w.heap.size=S:=⟨_,rfl⟩;have HS:Aside (OwnI w1 S (.slice a n cap) d/\Dis (.slice a n cap) X/\Dg w1 X B E N/\St X w X w1/\S<=w1.heap.size):=⟨by rw[<-hS];exact o1,dis1,h1,s1,by have:=b1.size;omega⟩;clear hW h o1 dis1 s1 h1 q b1
 go_wp2_with fail
 go_loopw [5,12] (fun s5 s12 wr=>∃(I:Nat)(vf:Value),I<=n/\s12=.int .i64 I/\vf=s5/\∃X',Dg wr X' B (fun q j=>E q j/\¬(q=id/\j∈d.take I)) N/\St X w X' wr/\OwnI wr S (.slice a n cap) d/\Dis (.slice a n cap) X'/\OwnI wr S vf ((d.take I).filter (oB))/\Dis vf X'/\(∀k,vf.ownBlock=some k->Value.ownBlock (.slice a n cap)≠some k)/\S<=wr.heap.size) (fun _ i _=>n-(intOf i).toNat)
 case atStart=>
  obtain⟨q1,q2,q3,q4,q5⟩:=HS.out;exact⟨0,_,by omega,rfl,rfl,X,q3.congr (fun p i=>by simp),q4,q1,q2,OwnI.nil _ _,fun k hk=>(by cases hk),fun k hk=>(by cases hk),q5⟩
 case round=>
  obtain⟨I,s5,hI,rfl,rfl,X1,D,S1,o,di,of,df,nf,sz⟩:=hrel;by_cases c:I<n
  ·obtain⟨g,off,rfl,hc⟩:=o.get hn c;obtain⟨x,hx⟩:∃x,d.getD I 0=x:=⟨_,rfl⟩;rw[hx] at hc;have hEx:E id x:=(md x).1 (by rw[<-hx];exact getD_mem (by omega));have wx:wfI x:=by obtain⟨h1,h2,h3⟩:=ord _ _ hEx;exact wfI_of (by omega) (by omega)
   have P:=partG D (by omega) (p:=id) (i:=x) ⟨hEx,fun hh=>nodup_take ud.nodup (I:=I) (by omega) (by rw[hx];exact hh.2)⟩;have HD:Aside (OwnI wr S (.slice (some ⟨g,off,none⟩) n cap) d/\Dis (.slice (some ⟨g,off,none⟩) n cap) X1/\St X w X1 wr/\OwnI wr S s5 ((d.take I).filter (oB))/\Dis s5 X1/\(∀k,s5.ownBlock=some k->Value.ownBlock (.slice (some ⟨g,off,none⟩) n cap)≠some k)/\S<=wr.heap.size):=⟨o,di,S1,of,df,nf,sz⟩;have HX:Hid _:=hx;clear D S1 o di HS hx of df nf sz
   go_wp2_with fail
   refine P.mono ?_;rintro e w2 ⟨rfl,X2,D2,S2⟩;obtain⟨o,di,S1,of,df,nf,sz⟩:=HD.out
   have D2':Dg w2 X2 B (fun q j=>E q j/\¬(q=id/\j∈d.take (I+1))) N:=D2.congr (fun q j=>by
     rw[mem_take_up (by omega),HX.out];unfold Epart;refine Iff.symm ⟨?_,?_⟩
     ·rintro⟨⟨h1,h2⟩,h3⟩;refine⟨h1,fun hh=>?_⟩;rcases hh.2 with e|e
      ·exact h2 ⟨hh.1,e⟩
      ·exact h3 ⟨hh.1,e⟩
     ·rintro⟨h1,h2⟩;exact⟨⟨h1,fun hh=>h2 ⟨hh.1,.inl hh.2⟩⟩,fun hh=>h2 ⟨hh.1,.inr hh.2⟩⟩)
   have o2:=o.st di S2;have di2:=di.st o S2;have of2:=of.st df S2;have df2:=df.st of S2;have S12:=S1.trans S2;have sz2:S<=w2.heap.size:=by have:=S2.size;omega
   obtain⟨M2,aw,nw,cw,c2,lk,nw0,nwN⟩:=D2'.waitsLen wx
   have nw1:nw=0↔oB x=true:=by
    rw[nw0,HOB.out];constructor
    ·intro h q hq;refine Decidable.not_not.1 fun hne=>h q ⟨hq,fun hh=>hne hh.1⟩
    ·rintro h q ⟨hq,hne⟩;exact hne ⟨h q hq,(mem_take_up (by omega) _).2 (.inr HX.out.symm)⟩
   have fl:(d.take (I+1)).filter (oB)=(d.take I).filter (oB)++if oB x=true then [x] else []:=by
    rw[take_up (by omega),List.filter_append,HX.out];congr 1;by_cases cc:oB x=true<;>simp[cc]
   clear P D2 HD S2;by_cases c0:nw=0
   ·have hb:=nw1.1 c0;rw[hb] at fl;have hlen:((d.take I).filter (oB)).length<1000000:=Nat.lt_of_le_of_lt (List.length_filter_le _ _) (by simp;omega);obtain⟨v3,w3,hr3,o3,F3,n3⟩:=of2.push x hlen sz2
    have NX:Aside (∃X',Dg w3 X' B (fun q j=>E q j/\¬(q=id/\j∈d.take (I+1))) N/\St X w X' w3/\OwnI w3 S (.slice (some ⟨g,off,none⟩) n cap) d/\Dis (.slice (some ⟨g,off,none⟩) n cap) X'/\OwnI w3 S v3 ((d.take (I+1)).filter (oB))/\Dis v3 X'/\(∀k,v3.ownBlock=some k->Value.ownBlock (.slice (some ⟨g,off,none⟩) n cap)≠some k)/\S<=w3.heap.size):=by
     refine⟨X2,D2'.fr F3 (fun k hk hh=>df2 k hh hk),⟨S12.fr.trans F3 (fun j hj=>?_),S12.new⟩,o2.fr F3 (fun k hk hh=>nf k hh hk),di2,by rw[fl];exact o3,fun k hk hx=>?_,fun k hk he=>?_,by have:=F3.size;omega⟩
     ·have:=(of2.rowLt hj).1;exact .inr (by omega)
     ·rcases n3 k hk with e|e
      ·exact df2 k e hx
      ·have:=D2'.lt hx;omega
     ·rcases n3 k hk with e|e
      ·exact nf k e he
      ·have:=(o2.rowLt he).2;omega
    clear D2' o2 di2 of2 df2 S12 sz2 o di S1 of df nf sz o3 F3 n3 nw1 nw0 fl hlen;subst c0
    go_wp2_with (at_builtin;refine wpList_app _ rfl _ _ 49 rfl _ _ rfl rfl v3 w3 hr3 ?_;clear hr3)
    go_roundw
    case rel=>exact⟨I+1,_,by omega,by go_num,rfl,NX.out⟩
    case measure=>simp[intOf];omega
   ·have hb:¬oB x=true:=fun h=>c0 (nw1.2 h);rw[if_neg hb,List.append_nil] at fl
    have NX:Aside (∃X',Dg w2 X' B (fun q j=>E q j/\¬(q=id/\j∈d.take (I+1))) N/\St X w X' w2/\OwnI w2 S (.slice (some ⟨g,off,none⟩) n cap) d/\Dis (.slice (some ⟨g,off,none⟩) n cap) X'/\OwnI w2 S s5 ((d.take (I+1)).filter (oB))/\Dis s5 X'/\(∀k,s5.ownBlock=some k->Value.ownBlock (.slice (some ⟨g,off,none⟩) n cap)≠some k)/\S<=w2.heap.size):=
     ⟨X2,D2',S12,o2,di2,by rw[fl];exact of2,df2,nf,sz2⟩
    clear D2' o2 di2 of2 df2 S12 sz2 o di S1 of df nf sz nw1 nw0 fl hb
    go_wp2_with fail
    go_roundw
    case rel=>exact⟨I+1,_,by omega,by go_num,rfl,NX.out⟩
    case measure=>simp[intOf];omega
  ·obtain rfl:I=n:=by omega
   have FIN:Aside (∃v' d' X',Ending.returned s5=.returned v'/\OwnI wr S v' d'/\Up d'/\(∀j,j∈d'↔E id j/\∀q,E q j->q=id)/\Dg wr X' B (fun q j=>E q j/\q≠id) N/\St X w X' wr/\Dis v' X'/\d'.length<=N):=by
    rw[List.take_of_length_le (by omega)] at of;refine⟨s5,_,X1,rfl,of,ud.filter _,fun j=>?_,D.congr (fun q j=>?_),S1,df,Nat.le_trans (List.length_filter_le _ _) (by omega)⟩
    ·rw[List.mem_filter,md,HOB.out]
    ·rw[List.take_of_length_le (by omega),md j];constructor
     ·rintro⟨h1,h2⟩;exact⟨h1,fun hh=>h2 hh.1⟩
     ·rintro⟨h1,h2⟩;exact⟨h1,fun e=>h2 ⟨e,by rw[<-e];exact h1⟩⟩
   clear D S1 o di of df nf sz
   go_wp2_with fail
   go_ret
   first|exact FIN.out|(rw[hS];exact FIN.out)
end
section
variable {w w' u v:World}{X X' Y Z:Nat->Prop}{B N N' cap:Nat}{E E':Rel}{p i id:Int}{a:Option Addr}{d:List Int}
def Rch(E:Rel)(id j:Int):Prop:=∀P:Int->Prop,(∀x,E id x->P x)->(∀x y,P x->E x y->P y)->P j
theorem Rch.one(h:E id i):Rch E id i:=fun P h1 _=>h1 i h
theorem Rch.step(h:Rch E id p)(hE:E p i):Rch E id i:=fun P h1 h2=>h2 p i (h P h1 h2) hE
theorem Rch.lt(ho:∀p i,E p i->p<i)(h:Rch E id i):id<i:=h (fun x=>id<x) (fun x hx=>ho _ _ hx) (fun x y hx hy=>by have:=ho _ _ hy;omega)
theorem Dg.few(h:Dg w X B E N):∃ks:List Int,ks.length<=N/\∀x p,E p x->x∈ks:=by
 obtain⟨M0,M,fp,f,l,D,I,hX⟩:=h;obtain⟨n,q,hn⟩:=D.mi false;obtain⟨ks,k1,k2,k3⟩:=q.keys;refine⟨ks,by omega,fun x p hp=>(k3 x).2 ?_⟩
 cases hf:f false x with
 | none=>
  have:=(I.ew p x).2 hp;rw[D.non _ _ hf] at this;simp at this
 | some v=>rfl
structure KI(E:Rel)(id:Int)(G:List Int)(I:Nat):Prop where
 nd:(id::G).Nodup
 rch:∀x∈G,Rch E id x
 le:I<=G.length+1
 dn:∀x∈(id::G).take I,∀y,E x y->y∈id::G
theorem KI.start(E:Rel)(id:Int):KI E id [] 0:=⟨by simp,by simp,by simp,by simp⟩
theorem KI.next{G:List Int}{I:Nat}(h:KI E id G I)(hI:I<G.length+1)(hd:d.Nodup)(md:∀y,y∈d↔E ((id::G).getD I 0) y/\y∉id::G):KI E id (G++d) (I+1):=by
 have hx:(id::G).getD I 0∈id::G:=getD_mem (by simp;omega);refine⟨?_,fun y hy=>?_,by simp;omega,fun y hy z hz=>?_⟩
 ·rw[<-List.cons_append];refine List.nodup_append.2 ⟨h.nd,hd,fun y hy z hz e=>?_⟩;subst e;exact((md y).1 hz).2 hy
 ·rcases List.mem_append.1 hy with hy|hy
  ·exact h.rch y hy
  ·have hE:=((md y).1 hy).1;rcases List.mem_cons.1 hx with e|e
   ·rw[e] at hE;exact Rch.one hE
   ·exact(h.rch _ e).step hE
 ·rw[<-List.cons_append,List.take_append_of_le_length (by simp;omega)] at hy;rw[<-List.cons_append,List.mem_append];rcases (mem_take_up (d:=id::G) (by simp;omega) y).1 hy with hy|hy
  ·exact .inl (h.dn y hy z hz)
  ·by_cases c:z∈id::G
   ·exact .inl c
   ·exact .inr ((md z).2 ⟨by rw[<-hy];exact hz,c⟩)
theorem KI.fin{G:List Int}{I:Nat}(h:KI E id G I)(hI:I=G.length+1)(ho:∀p i,E p i->p<i)(j:Int):j∈G↔Rch E id j:=by
 refine⟨h.rch j,fun hr=>?_⟩
 have hdn:∀x∈id::G,∀y,E x y->y∈id::G:=by
  have:=h.dn;rw[List.take_of_length_le (by simp;omega)] at this;exact this
 have:=hr (fun x=>x∈id::G) (fun x hx=>hdn id (by simp) x hx) (fun x y hx hy=>hdn x hx y hy);rcases List.mem_cons.1 this with e|e
 ·have:=hr.lt ho;omega
 ·exact e
theorem killG(h:Dg w X B E N)(hN:N<100000)(hi:wfI id):Calls prog 154 #[.pointer (some ⟨B,0,none⟩),.int .i64 id] w fun e w'=>∃v' d X',e=.returned v'/\OwnI w' w.heap.size v' d/\Up d/\(∀j,j∈d↔Rch E id j)/\Dg w' X' B (fun q j=>E q j/\j≠id/\¬Rch E id j) N/\St X w X' w'/\Dis v' X'/\d.length<=N:=by
 have ord:=h.ord;obtain⟨ks,kl,km⟩:=h.few
 have few:∀G I,KI E id G I->G.length<=N:=fun G I hk=>by
  refine Nat.le_trans (nodup_le G ks (List.nodup_cons.1 hk.nd).2 (fun x hx=>?_)) kl;have:∃p,E p x:=hk.rch x hx (fun x=>∃p,E p x) (fun x hx=>⟨_,hx⟩) (fun x y _ hy=>⟨_,hy⟩);obtain⟨p,hp⟩:=this;exact km x p hp
 have wfG:∀G I,KI E id G I->∀x∈id::G,wfI x:=fun G I hk x hx=>by
  rcases List.mem_cons.1 hx with e|e
  ·rw[e];exact hi
  ·have:∃p,E p x:=hk.rch x e (fun x=>∃p,E p x) (fun x hx=>⟨_,hx⟩) (fun x y _ hy=>⟨_,hy⟩);obtain⟨p,hp⟩:=this;obtain⟨h1,h2,h3⟩:=ord _ _ hp;exact wfI_of (by omega) (by omega)
 have hF:=freeG h (by omega) hi;obtain⟨S,hS⟩:∃S,w.heap.size=S:=⟨_,rfl⟩;have FEW:Aside _:=few;have WFG:Aside _:=wfG;have ORD:Aside (∀p i,E p i->p<i):=fun p i he=>(ord p i he).2.1;have ORD3:Aside (∀p i,E p i->wfI i):=fun p i he=>by obtain⟨h1,h2,h3⟩:=ord p i he;exact wfI_of (by omega) (by omega)
 clear few wfG ord km kl ks;go_enter func154,ntmps154
 go_wp2_with fail
 refine hF.mono ?_;rintro e w1 ⟨rfl,X1,D1,S1⟩;have b2:Below w1.heap.size w1 (w1.alloc (.cells #[.int .i64 id] 3)):=(Below.refl _ _).alloc (Nat.le_refl _) _;have o2:=OwnI.one (base:=S) w1 id (by have:=S1.size;omega)
 have HS:Aside (Dg (w1.alloc (.cells #[.int .i64 id] 3)) X1 B (fun q j=>E q j/\j∉[id]) N/\St X w X1 (w1.alloc (.cells #[.int .i64 id] 3))/\OwnI (w1.alloc (.cells #[.int .i64 id] 3)) S (.slice (some ⟨w1.heap.size,0,none⟩) 1 1) [id]/\Dis (.slice (some ⟨w1.heap.size,0,none⟩) 1 1) X1/\S<=(w1.alloc (.cells #[.int .i64 id] 3)).heap.size):=
  ⟨(D1.below b2).congr (fun q j=>by simp),S1.trans (St.below X1 b2),o2,fun k hk hx=>by injection hk with hk;have:=D1.lt hx;simp at hk;omega,by have:=b2.size;have:=S1.size;omega⟩
 clear hF h D1 S1 b2 o2
 go_wp2_with fail
 go_loopw [5,6] (fun s5 s6 wr=>∃(I:Nat)(G:List Int)(g cap:Nat)(X':Nat->Prop),s6=.int .i64 I/\s5=.slice (some ⟨g,0,none⟩) (G.length+1) cap/\KI E id G I/\Dg wr X' B (fun q j=>E q j/\j∉id::G) N/\St X w X' wr/\OwnI wr S (.slice (some ⟨g,0,none⟩) (G.length+1) cap) (id::G)/\Dis (.slice (some ⟨g,0,none⟩) (G.length+1) cap) X'/\S<=wr.heap.size) (fun _ i _=>N+1-(intOf i).toNat)
 case atStart=>
  obtain⟨q1,q2,q3,q4,q5⟩:=HS.out;exact⟨0,[],_,1,X1,rfl,rfl,KI.start E id,q1,q2,q3,q4,q5⟩
 case round=>
  obtain⟨I,G,g,cap,X2,rfl,rfl,ki,D,S2,o,di,sz⟩:=hrel;have lG:=FEW.out G I ki;obtain⟨n,hn⟩:∃n,G.length=n:=⟨_,rfl⟩;rw[hn] at o di lG⊢;by_cases c:I<n+1
  ·obtain⟨g',off',e',hc⟩:=OwnI.get o (by simp[hn]) c;simp only[Option.some.injEq,Addr.mk.injEq,and_true] at e';obtain⟨rfl,rfl⟩:=e';rw[Nat.zero_add] at hc;obtain⟨x,hx⟩:∃x,(id::G).getD I 0=x:=⟨_,rfl⟩;rw[hx] at hc;have wx:wfI x:=WFG.out G I ki x (by rw[<-hx];exact getD_mem (by simp;omega));have P:=behindG D (by omega) x wx;have HD:Aside (KI E id G I/\Dg wr X2 B (fun q j=>E q j/\j∉id::G) N/\St X w X2 wr/\OwnI wr S (.slice (some ⟨g,0,none⟩) (n+1) cap) (id::G)/\Dis (.slice (some ⟨g,0,none⟩) (n+1) cap) X2/\S<=wr.heap.size):=⟨ki,D,S2,o,di,sz⟩;have HX:Hid _:=hx;have HN:Hid _:=hn;clear ki D S2 o di sz HS hx hn
   go_wp2_with fail
   refine P.mono ?_;rintro e w3 ⟨v3,d,rfl,o3,ud,md,ld,b3⟩;obtain⟨ki,D,S2,o,di,sz⟩:=HD.out;obtain⟨a3,cap3,rfl,q3⟩:=o3.isI;obtain⟨m,hm⟩:∃m,d.length=m:=⟨_,rfl⟩;rw[hm] at o3 ld⊢
   have HS2:Aside (Dg w3 X2 B (fun q j=>E q j/\j∉id::(G++d.take 0)) N/\St X w X2 w3/\OwnI w3 S (.slice (some ⟨g,0,none⟩) (n+1) cap) (id::(G++d.take 0))/\Dis (.slice (some ⟨g,0,none⟩) (n+1) cap) X2/\OwnI w3 S (.slice a3 m cap3) d/\Dis (.slice a3 m cap3) X2/\(∀k,Value.ownBlock (.slice a3 m cap3)=some k->g≠k)/\S<=w3.heap.size):=by
    simp only[List.take_zero,List.append_nil];refine⟨D.below b3,S2.trans (St.below X2 b3),o.below b3,di,o3.low sz,D.dis o3,fun k hk e=>?_,by have:=b3.size;omega⟩;have:=(o.rowLt rfl).2;have:=(o3.rowLt hk).1;simp at *;omega
   clear P HD D S2 o di sz o3 b3 q3
   go_wp2_with fail
   go_loopw [5,27] (fun s5 s27 wi=>∃(J:Nat)(g2 cap2:Nat)(X':Nat->Prop),J<=m/\s27=.int .i64 J/\s5=.slice (some ⟨g2,0,none⟩) (n+J+1) cap2/\Dg wi X' B (fun q j=>E q j/\j∉id::(G++d.take J)) N/\St X w X' wi/\OwnI wi S (.slice (some ⟨g2,0,none⟩) (n+J+1) cap2) (id::(G++d.take J))/\Dis (.slice (some ⟨g2,0,none⟩) (n+J+1) cap2) X'/\OwnI wi S (.slice a3 m cap3) d/\Dis (.slice a3 m cap3) X'/\(∀k,Value.ownBlock (.slice a3 m cap3)=some k->g2≠k)/\S<=wi.heap.size) (fun _ i _=>m-(intOf i).toNat)
   case atStart=>exact⟨0,g,cap,X2,by omega,rfl,rfl,HS2.out⟩
   case round=>
    obtain⟨J,g2,cap2,X3,hJ,rfl,rfl,D,S3,o,di,o3,d3,ne,sz⟩:=hrel;by_cases c2:J<m
    ·obtain⟨gg,oo,rfl,hc2⟩:=o3.get hm c2;obtain⟨y,hy⟩:∃y,d.getD J 0=y:=⟨_,rfl⟩;rw[hy] at hc2;have wy:wfI y:=ORD3.out x y ((md y).1 (by rw[<-hy];exact getD_mem (by omega))).1;have P2:=freeG D (by omega) wy;have HD:Aside (Dg wr X3 B (fun q j=>E q j/\j∉id::(G++d.take J)) N/\St X w X3 wr/\OwnI wr S (.slice (some ⟨g2,0,none⟩) (n+J+1) cap2) (id::(G++d.take J))/\Dis (.slice (some ⟨g2,0,none⟩) (n+J+1) cap2) X3/\OwnI wr S (.slice (some ⟨gg,oo,none⟩) m cap3) d/\Dis (.slice (some ⟨gg,oo,none⟩) m cap3) X3/\(∀k,Value.ownBlock (.slice (some ⟨gg,oo,none⟩) m cap3)=some k->g2≠k)/\S<=wr.heap.size):=⟨D,S3,o,di,o3,d3,ne,sz⟩;have HY:Hid _:=hy;clear D S3 o di o3 d3 ne sz hy HS2
     go_wp2_with fail
     refine P2.mono ?_;rintro e w4 ⟨rfl,X4,D4,S4⟩;obtain⟨D,S3,o,di,o3,d3,ne,sz⟩:=HD.out;have o4:=o.st di S4;have di4:=di.st o S4;have o34:=o3.st d3 S4;have d34:=d3.st o3 S4;have sz4:S<=w4.heap.size:=by have:=S4.size;omega
     have hlen:(id::(G++d.take J)).length=n+J+1:=by simp[HN.out];omega
     obtain⟨v5,w5,hr5,o5,F5,n5⟩:=o4.push y (by rw[hlen];omega) sz4;have e5:id::(G++d.take J)++[y]=id::(G++d.take (J+1)):=by rw[take_up (by omega),HY.out];simp
     rw[e5] at o5;obtain⟨g5,cap5,rfl⟩:=o5.addr (by simp);have l5:(id::(G++d.take (J+1))).length=n+(J+1)+1:=by simp[HN.out];omega
     rw[l5] at o5 hr5 n5
     have D5:Dg w5 X4 B (fun q j=>E q j/\j∉id::(G++d.take (J+1))) N:=(D4.fr F5 (fun k hk hh=>di4 k hh hk)).congr (fun q j=>by
      rw[<-e5,List.mem_append];constructor
      ·rintro⟨h1,h2⟩;exact⟨⟨h1,fun hh=>h2 (.inl hh)⟩,fun hh=>h2 (.inr (by simp[hh]))⟩
      ·rintro⟨⟨h1,h2⟩,h3⟩;refine⟨h1,fun hh=>?_⟩;rcases hh with hh|hh
       ·exact h2 hh
       ·exact h3 (by simpa using hh))
     have NX:Aside (Dg w5 X4 B (fun q j=>E q j/\j∉id::(G++d.take (J+1))) N/\St X w X4 w5/\OwnI w5 S (.slice (some ⟨g5,0,none⟩) (n+(J+1)+1) cap5) (id::(G++d.take (J+1)))/\Dis (.slice (some ⟨g5,0,none⟩) (n+(J+1)+1) cap5) X4/\OwnI w5 S (.slice (some ⟨gg,oo,none⟩) m cap3) d/\Dis (.slice (some ⟨gg,oo,none⟩) m cap3) X4/\(∀k,Value.ownBlock (.slice (some ⟨gg,oo,none⟩) m cap3)=some k->g5≠k)/\S<=w5.heap.size):=by
      refine⟨D5,⟨(S3.trans S4).fr.trans F5 (fun j hj=>?_),(S3.trans S4).new⟩,o5,fun k hk hx=>?_,o34.fr F5 (fun k hk hh=>ne k hk (by injection hh)),d34,fun k hk he=>?_,by have:=F5.size;omega⟩
      ·have:=(o4.rowLt hj).1;exact .inr (by omega)
      ·rcases n5 k hk with e|e
       ·exact di4 k e hx
       ·have:=D4.lt hx;omega
      ·rcases n5 g5 rfl with e|e
       ·injection e with e;exact ne k hk (Eq.trans e he)
       ·have:=(o34.rowLt hk).2;omega
     have HR:Aside _:=hr5;clear P2 HD D4 S4 D S3 o di o3 d3 ne sz o4 di4 o34 d34 sz4 o5 F5 n5 D5 e5 l5 hlen hr5;have hr5:=HR.out;clear HR
     go_wp2_with (at_builtin;refine wpList_app _ rfl _ _ 49 rfl _ _ rfl rfl _ w5 hr5 ?_;clear hr5)
     go_roundw
     case rel=>exact⟨J+1,g5,cap5,X4,by omega,by go_num,by first|rfl|simp,NX.out⟩
     case measure=>simp[intOf];omega
    ·obtain rfl:J=m:=by omega
     have hnx:KI E id (G++d) (I+1):=ki.next (by have:=HN.out;omega) ud.nodup (fun y=>by rw[HX.out];exact md y);rw[List.take_of_length_le (by omega)] at D o
     have NX:Aside (∃(I':Nat)(G':List Int)(g' cap':Nat)(X':Nat->Prop),Value.int .i64 ((I:Int)+1)=.int .i64 I'/\Value.slice (some ⟨g2,0,none⟩) (n+J+1) cap2=.slice (some ⟨g',0,none⟩) (G'.length+1) cap'/\KI E id G' I'/\Dg wr X' B (fun q j=>E q j/\j∉id::G') N/\St X w X' wr/\OwnI wr S (.slice (some ⟨g',0,none⟩) (G'.length+1) cap') (id::G')/\Dis (.slice (some ⟨g',0,none⟩) (G'.length+1) cap') X'/\S<=wr.heap.size):=by
      have e:(G++d).length=n+J:=by simp[HN.out,hm]
      exact⟨I+1,G++d,g2,cap2,X3,by simp,by rw[e],hnx,D,S3,by rw[e];exact o,by rw[e];exact di,sz⟩
     clear D S3 o di o3 d3 ne sz hnx ki
     go_wp2_with fail
     go_roundw
     case rel=>exact NX.out
     case measure=>simp[intOf];omega
  ·obtain rfl:I=n+1:=by have:=ki.le;omega
   have hfin:=ki.fin (by omega) ORD.out;have q:=o.isI;obtain⟨a',cap',e',q⟩:=q;have hl:(id::G).length=n+1:=by simp[hn]
   rw[hl] at e';injection e' with e1 e2 e3
   subst e1 e3;have q1:=q.drop 1 (by simp);have hr:=rising_any q1 (by simp[hn];omega);have hcap:=q.le;rw[hl] at hcap;have hbig:=q.big;unfold maxLen at hbig;simp only[List.drop_one,List.tail_cons,hn] at hr;have nd:G.Nodup:=(List.nodup_cons.1 ki.nd).2;have HD:Aside (Dg wr X2 B (fun q j=>E q j/\j∉id::G) N/\St X w X2 wr/\S<=wr.heap.size):=⟨D,S2,sz⟩;clear ki D S2 o di sz HS q q1
   have fin:∀(v':Value)(w':World),OwnI w' wr.heap.size v' (sortI G)->Below wr.heap.size wr w'->∃v'' d X',Ending.returned v'=.returned v''/\OwnI w' S v'' d/\Up d/\(∀j,j∈d↔Rch E id j)/\Dg w' X' B (fun q j=>E q j/\j≠id/\¬Rch E id j) N/\St X w X' w'/\Dis v'' X'/\d.length<=N:=fun v' w' o' b'=>by
    obtain⟨D,S2,sz⟩:=HD.out;refine⟨v',sortI G,X2,rfl,o'.low sz,sortI_up nd,fun j=>by rw[sortI_mem];exact hfin j,(D.below b').congr (fun q j=>?_),S2.trans (St.below X2 b'),D.dis o',by rw[sortI_len];omega⟩;rw[List.mem_cons,<-hfin j];constructor
    ·rintro⟨h1,h2,h3⟩;exact⟨h1,fun hh=>hh.elim h2 h3⟩
    ·rintro⟨h1,h2⟩;exact⟨h1,fun hh=>h2 (.inl hh),fun hh=>h2 (.inr hh)⟩
   have FIN:Aside _:=fin;clear fin HD hfin;by_cases c1:cap=1
   ·subst c1;obtain rfl:n=0:=by omega
    rw[if_pos rfl] at hr
    go_wp2_with fail
    refine hr.mono ?_;rintro e w4 ⟨v4,rfl,o4,b4⟩;clear hr
    go_wp2_with fail
    go_ret
    first|exact FIN.out _ _ o4 b4|(rw[hS];exact FIN.out _ _ o4 b4)
   ·rw[if_neg c1,Option.map_some,Addr.add_lit] at hr
    go_wp2_with fail
    refine hr.mono ?_;rintro e w4 ⟨v4,rfl,o4,b4⟩;clear hr
    go_wp2_with fail
    go_ret
    first|exact FIN.out _ _ o4 b4|(rw[hS];exact FIN.out _ _ o4 b4)
end
section
variable {w w' u v:World}{X X' Y Z:Nat->Prop}{B N N' cap:Nat}{E E':Rel}{p i id:Int}{a:Option Addr}{d:List Int}
variable {w0:World}{S:Nat}
theorem below_drewN(w:World)(q:Nat):Below w.heap.size w (w.drewN q):=⟨rfl,rfl,rfl,Nat.le_refl _,fun _ _=>rfl⟩
theorem same_any{a2:Option Addr}{cap2:Nat}{d2:List Int}(h:IsI w a cap d)(h2:IsI w a2 cap2 d2):Calls prog 13 #[.slice a d.length cap,.slice a2 d2.length cap2] w fun e w'=>e=.returned (.bool (d==d2))/\Below w.heap.size w w':=by
 have l1:=h.len;have l2:=h2.len;have HH:Aside (IsI w a cap d/\IsI w a2 cap2 d2):=⟨h,h2⟩;clear h h2;obtain⟨n,hn⟩:∃n,d.length=n:=⟨_,rfl⟩;obtain⟨m,hm⟩:∃m,d2.length=m:=⟨_,rfl⟩;obtain⟨b,hb⟩:∃b,(d==d2)=b:=⟨_,rfl⟩;rw[hn] at l1;rw[hm] at l2;rw[hn,hm,hb];have HB:Hid _:=hb;clear hb;by_cases c:n=m
 ·subst c;go_enter func13,ntmps13
  go_wp2_with fail
  go_loopw [5] (fun s5 wr=>∃I:Nat,I<=n/\s5=.int .i64 I/\Below w.heap.size w wr/\IsI wr a cap d/\IsI wr a2 cap2 d2/\∀j,j<I->d.getD j 0=d2.getD j 0) (fun i _=>n-(intOf i).toNat)
  case atStart=>exact⟨0,by omega,rfl,Below.refl _ _,HH.out.1,HH.out.2,fun j hj=>by omega⟩
  case round=>
   obtain⟨I,hI,rfl,bw,q1,q2,hall⟩:=hrel;by_cases c2:I<n
   ·obtain⟨g1,o1,rfl,_,c1⟩:=q1.at (j:=I) (by omega);obtain⟨g2,o2,rfl,_,c3⟩:=q2.at (j:=I) (by omega);obtain⟨x,hx⟩:∃x,d.getD I 0=x:=⟨_,rfl⟩;obtain⟨y,hy⟩:∃y,d2.getD I 0=y:=⟨_,rfl⟩;rw[hx] at c1;rw[hy] at c3;have HA:Aside (Below w.heap.size w wr/\IsI wr (some ⟨g1,o1,none⟩) cap d/\IsI wr (some ⟨g2,o2,none⟩) cap2 d2/\∀j,j<I->d.getD j 0=d2.getD j 0):=⟨bw,q1,q2,hall⟩;have HX:Hid _:=hx;have HY:Hid _:=hy;clear bw q1 q2 hall hx hy HH;have c1d:wr.drew.cell? ⟨g1,o1+I,none⟩=some (.int .i64 x):=c1;have c3d:wr.drew.cell? ⟨g2,o2+I,none⟩=some (.int .i64 y):=c3;by_cases ce:x=y
    ·subst ce
     have NX:Aside (∀nq,Below w.heap.size w (wr.drewN nq)/\IsI (wr.drewN nq) (some ⟨g1,o1,none⟩) cap d/\IsI (wr.drewN nq) (some ⟨g2,o2,none⟩) cap2 d2/\∀j,j<I+1->d.getD j 0=d2.getD j 0):=fun nq=>by
      obtain⟨bw,q1,q2,hall⟩:=HA.out;have bd:Below wr.heap.size wr (wr.drewN nq):=below_drewN _ _;refine⟨bw.trans (bd.mono bw.size),q1.below bd,q2.below bd,fun j hj=>?_⟩;by_cases e:j=I
      ·subst e;rw[HX.out,HY.out]
      ·exact hall j (by omega)
     clear HA
     go_wp2_with fail
     go_quiet (fail)
     go_wp2_with fail
     go_roundw
     case rel=>exact⟨I+1,by omega,by go_num,NX.out _⟩
     case measure=>simp[intOf];omega
    ·obtain rfl:b=false:=by
      cases b with
      | false=>rfl
      | true=>
       have:=HB.out;have e:d=d2:=by simpa using this
       exact absurd (by rw[<-HX.out,<-HY.out,e]) ce
     go_wp2_with fail
     go_quiet (fail)
     go_wp2_with fail
     go_ret;exact⟨rfl,HA.out.1.trans ((below_drewN _ _).mono HA.out.1.size)⟩
   ·obtain rfl:I=n:=by omega
    have hd:d=d2:=by
     apply List.ext_getElem (by omega);intro j h1 h2;have:=hall j (by omega);rw[List.getD,List.getD,List.getElem?_eq_getElem h1,List.getElem?_eq_getElem h2] at this;exact this
    obtain rfl:b=true:=by rw[<-HB.out,hd];simp
    clear hall q1 q2
    go_wp2_with fail
    go_ret;exact⟨rfl,bw⟩
 ·obtain rfl:b=false:=by
   cases b with
   | false=>rfl
   | true=>
    have:=HB.out;have e:d=d2:=by simpa using this
    exact absurd (by rw[<-hn,<-hm,e]) c
  go_enter func13,ntmps13
  go_wp2_with fail
  go_ret;exact⟨rfl,Below.refl _ _⟩
end
end Go.Proofs.YtjpbngiddjkjiaaGreatDoor.Da
