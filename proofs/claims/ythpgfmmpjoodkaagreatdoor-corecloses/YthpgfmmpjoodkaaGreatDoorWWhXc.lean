import Derived.Test.YthpgfmmpjoodkaaGreatDoorWWhS
open Nat(le_refl le_trans)
namespace Go.Proofs.YthpgfmmpjoodkaaGreatDoor.Wl
set_option maxHeartbeats 8000000
set_option maxRecDepth 100000
set_option linter.unusedVariables false
open Go.RowKit Go.Lib Go.Sort Go.WideMaps Go.Maps
def WOwn(w:World)(F:Nat->Prop)(B base now:Nat)(T:List Ent)(v:Value)(w':World):Prop:=∃F',Whl w' F' B base now T/\Fr F w w'/\(∀k,F' k->F k\/w.heap.size<=k)/\∀k,rowB v=some k->w.heap.size<=k/\¬F' k
section
variable {w:World}{B M base now thn:Nat}{T met:List Ent}{F:Nat->Prop}{mv:Value}{j:Nat}{dv:Value}{hd:Nat->Value}{u:Nat->Nat}{c:Nat->Nat->List Ent}{far:List Ent}{f:Int->Option Int}{n:Nat}{W W':World}
theorem AdvI.done2(h:AdvI w B M base now thn T met F mv met.length dv hd u c far f n W)(hn:met.Nodup)(hm:∀x,x∈met↔x∈T/\taken now thn x)(hT:TOk T)(hrng:∀x∈T,∃D:Nat,x.1=(D:Int)/\D<B64)(hnt:now<=thn) :
  sortE (dueL thn met)=dueL thn T/\(∀W',W.grownBy W' (rowB dv)->WOwn w F B base thn (restL thn T) dv W'):=by
 have hlate:∀x,x∈T->¬taken now thn x->(thn:Int)<x.1:=fun x hx ht=>by
  obtain⟨D,h1,h2⟩:=hrng x hx;have:=(not_taken hnt h.wa.nb (by omega) ht).1;omega
 have e1:met.take met.length=met:=List.take_length;have hTn:=nodup_of_ids hT.ids
 have p1:(dueL thn met).Perm (dueL thn T):=perm_of_mem (hn.filter _) (hTn.filter _) (fun x=>by
  rw[mem_due,mem_due,hm];constructor
  ·rintro⟨⟨h1,_⟩,h2⟩;exact⟨h1,h2⟩
  ·rintro⟨h1,h2⟩;refine⟨⟨h1,Classical.byContradiction fun ht=>?_⟩,h2⟩;have:=hlate x h1 ht;omega)
 refine⟨((sortE_of (hT.srt.filt _) p1.symm).symm),fun W' hg=>?_⟩;have hf:Fr (fun k=>rowB dv=some k) W W':=Fr.of_grown hg;have wl:=h.wl;have mp:=h.mp;have cnt:=h.cnt;rw[e1] at wl mp cnt
 have hlen:n=(restL thn T).length:=by
  have h1:(restL thn T).length+(dueL thn T).length=T.length:=by
   unfold restL dueL;rw[<-List.countP_eq_length_filter,<-List.countP_eq_length_filter];have:=List.length_eq_countP_add_countP (fun x:Ent=>decide ((thn:Int)<x.1)) (l:=T);rw[this];congr 1;apply List.countP_congr;intro x _;simp
  rw[p1.length_eq] at cnt;omega
 refine⟨foot B M hd,⟨M,hd,u,c,far,f,?_,wl.congr (fun x=>?_),fun i v=>?_,⟨hT.srt.filt _,List.Pairwise.sublist (List.filter_sublist.map Prod.snd) hT.ids,fun x hx=>hT.wf x (mem_rest.1 hx).1,le_trans (List.length_filter_le _ _) hT.len⟩,fun k=>Iff.rfl⟩,h.fr.trans hf (fun k hk=>.inr (h.rd k hk).1),h.ft,fun k hk=>⟨(h.rd k hk).1,(h.rd k hk).2.1⟩⟩
 ·rw[<-hlen];exact h.wa.fr hf (fun k hk hx=>(h.rd k hx).2.1 hk)
 ·rw[mem_rest];constructor
  ·rintro(⟨h1,h2⟩|⟨h1,h2⟩)
   ·exact⟨h1,hlate x h1 h2⟩
   ·exact⟨((hm x).1 h1).1,h2⟩
  ·rintro⟨h1,h2⟩;by_cases ht:taken now thn x
   ·exact .inr ⟨(hm x).2 ⟨h1,ht⟩,h2⟩
   ·exact .inl ⟨h1,ht⟩
 ·rw[mp,mem_rest];constructor
  ·rintro⟨h1,h2⟩;refine⟨h1,Classical.byContradiction fun h3=>h2 ⟨?_,by show v<=_;have:¬(thn:Int)<v:=h3;omega⟩⟩;exact(hm _).2 ⟨h1,Classical.byContradiction fun ht=>h3 (hlate _ h1 ht)⟩
  ·rintro⟨h1,h2⟩;refine⟨h1,fun h3=>?_⟩;have h4:(thn:Int)<v:=h2;have:=h3.2;omega
end
def AdvOwn(w:World)(F:Nat->Prop)(B base thn:Nat)(T:List Ent)(r:Ending)(w':World):Prop:=
 ∃v,r=.returned v/\OwnF w' w.heap.size v (dueL thn T)/\WOwn w F B base thn (restL thn T) v w'
theorem adv_own{w:World}{F:Nat->Prop}{B base now:Nat}{T:List Ent}(h:Whl w F B base now T){tt:Nat}(hto:tt<B64)(hT:TabW w)(hb0:1<base)(hbase:base<=w.heap.size) :
  Calls Tryz.prog 73 #[.pointer (some ⟨B,0,none⟩),.int .u64 tt] w (AdvOwn w F B base (max now tt) T):=by
 obtain⟨thn,hthn⟩:∃thn,max now tt=thn:=⟨_,rfl⟩;rw[hthn];obtain⟨M,hd,u,c,far,f,h1,h2,h3,h4,h5⟩:=h;have hnt:now<=thn:=by omega
 have htb:thn<B64:=by have:=h1.nb;omega
 have hmx:max (now:Int) (tt:Int)=(thn:Int):=by omega
 have c0:=h1.head.cell (k:=0) (by omega);rw[h1.h0] at c0;have hTn:=nodup_of_ids h4.ids;have ml:(metL now thn u c 4).length<=1000:=len_le (metL_nodup h2 thn 4 (le_refl _)) (fun x hx=>((metL_mem h2 thn 4 (le_refl _) x).1 hx).1) h4.len;have fl:far.length<=1000:=len_le h2.farN (fun x hx=>((h2.farM x).1 hx).1) h4.len;have rc:=reach_any h1 htb (by omega) hT hb0
 have RC:Aside (Calls Tryz.prog 122 #[.pointer (some ⟨B,0,none⟩),.int .u64 thn] w fun r w'=>∃met mv hd' u' c' far',r=.returned mv/\met.Nodup/\(∀x,x∈met↔x∈T/\taken now thn x)/\AdvI w B M base now thn T met F mv 0 (.slice none 0 0) hd' u' c' far' f T.length w'):=by
  refine Calls.mono rc ?_;rintro r w' ⟨k,v,hd',hk,rfl,q1,q2,q3,q4,q5,q6,q7⟩;have cut:=far_cut h2.farS (fun x hx=>by obtain⟨D,e,_⟩:=h2.rng x ((h2.farM x).1 hx).1;exact⟨D,e⟩) hk q6 q7;have wl:=h2.reach (k:=k) hnt htb cut.2;obtain⟨n1,n2⟩:=met_all h2 (thn:=thn) (k:=k) cut.1;exact⟨_,v,hd',_,_,_,rfl,n1,n2,AdvI.start (k:=0) q2 wl h3 q1 q3 h1 q4 q5 h5⟩
 have OK:Aside (TOk T/\∀x∈T,∃D:Nat,x.1=(D:Int)/\D<B64):=⟨h4,h2.rng⟩;have hids:=h4.ids;have HI:Aside ((T.map Prod.snd).Nodup):=hids;have TL:Aside (T.length<=1000):=h4.len;obtain⟨S,hS⟩:∃S,w.heap.size=S:=⟨_,rfl⟩;clear h1 h2 h3 h4 h5 hT hTn ml fl rc hids hthn;go_enter Tryz.func73,Tryz.ntmps73
 go_wp2_with fail
 refine RC.out.mono ?_;rintro e w1 ⟨met,mv,hd1,u1,c1,far1,rfl,mn,mm,A0⟩;have MN:Aside (met.Nodup):=mn;have MM:Aside (∀x,x∈met↔x∈T/\taken now thn x):=mm;have met_le:met.length<=1000:=len_le mn (fun x hx=>((mm x).1 hx).1) TL.out;obtain⟨ma,mc,em,-,-,-,-⟩:=A0.met.isL;obtain⟨L,hL⟩:∃L,met.length=L:=⟨_,rfl⟩;rw[hL] at em met_le;have HLn:Hid (met.length=L):=hL;subst em;have A0':Aside (AdvI w B M base now thn T met F (.slice ma L mc) 0 (.slice none 0 0) hd1 u1 c1 far1 f T.length w1):=A0;clear A0 mn mm RC hL
 go_wp2
 go_loopg [5,7,17] L (fun kx s5 s7 s17 wr=>∃(j:Nat)(da:Option Addr)(dn dc:Nat)(hd2:Nat->Value)(u2:Nat->Nat)(c2:Nat->Nat->List Ent)(far2:List Ent)(f2:Int->Option Int)(n2:Nat),s17=.int .i64 j/\s5=.slice da dn dc/\j<=L/\L-j<=kx/\Aside (AdvI w B M base now thn T met F (.slice ma L mc) j (.slice da dn dc) hd2 u2 c2 far2 f2 n2 wr))
 case atStart=>exact⟨0,none,0,0,hd1,u1,c1,far1,f,T.length,rfl,rfl,by omega,by omega,A0'⟩
 case round=>
  obtain⟨j,da,dn,dc,hd2,u2,c2,far2,f2,n2,rfl,rfl,hj,hkx,A⟩:=hrel;by_cases hlt:j<L
  ·have hz:(j:Int)<(L:Int):=by omega
   have hjm:j<met.length:=by rw[HLn.out];exact hlt
   obtain⟨x,hx⟩:∃x,met[j]=x:=⟨_,rfl⟩;have HX:Hid (met[j]=x):=hx;have hxT:=((MM.out _).1 (List.getElem_mem hjm)).1;rw[hx] at hxT;obtain⟨D,hD,hDb⟩:=OK.out.2 x hxT;obtain⟨ma',mc',em',-,-,-,hML⟩:=A.out.met.isL;rw[HLn.out] at em';injection em' with e1 e2 e3
   subst e1 e3;obtain⟨b,off,ha,hbw,y1,y2⟩:=hML.elem j x (by rw[List.getElem?_eq_getElem hjm,hx]);subst ha;rw[hD] at y1;obtain⟨i,hi⟩:∃i,x.2=i:=⟨_,rfl⟩;rw[hi] at y2;have wi:wfI i:=by rw[<-hi];exact OK.out.1.wf x hxT
   have xe:x=((D:Int),i):=Prod.ext hD hi;have HXE:Hid (x=((D:Int),i)):=xe;obtain⟨K,hK⟩:∃K,wr.heap.size=K:=⟨_,rfl⟩;obtain⟨W1,hW1⟩:∃W1,wr.alloc (.cells #[.int .u64 (D:Int),.int .i64 i] 131)=W1:=⟨_,rfl⟩;have HW1:Hid _:=hW1;have bW1:Below wr.heap.size wr W1:=by rw[<-hW1];exact(Below.refl _ _).alloc (le_refl _) _
   have k0:W1.cell? ⟨K,0,none⟩=some (.int .u64 (D:Int)):=by rw[<-hW1,<-hK];simp[go_sem]
   have k1:W1.cell? ⟨K,1,none⟩=some (.int .i64 i):=by rw[<-hW1,<-hK];simp[go_sem]
   have kK:K<W1.heap.size:=by rw[<-hW1,<-hK];simp
   have c3:W1.cell? ⟨B,0,none⟩=some (.int .u64 thn):=by
    have:=(A.out.below bW1).wa.head.cell (k:=0) (by omega);rw[A.out.wa.h0] at this;exact this
   have A1:Aside (AdvI w B M base now thn T met F (.slice (some ⟨b,off,none⟩) L mc) j (.slice da dn dc) hd2 u2 c2 far2 f2 n2 W1):=A.out.below bW1;have bK:b<K:=by omega
   clear hML A bW1 hW1 xe hi hxT hx hD A0';by_cases hlt2:thn<D
   ·have hz2:(thn:Int)<(D:Int):=by omega
    go_upto_region 5 with fail
    rw[HW1.out];go_quiet (fail)
    have A2:Aside (AdvI w B M base now thn T met F (.slice (some ⟨b,off,none⟩) L mc) j (.slice da dn dc) hd2 u2 c2 far2 f2 n2 (W1.drewN nq)):=A1.out.below (below_drewN W1 nq);have k0':(W1.drewN nq).cell? ⟨K,0,none⟩=some (.int .u64 (D:Int)):=k0;have k1':(W1.drewN nq).cell? ⟨K,1,none⟩=some (.int .i64 i):=k1;clear A1 k0 k1 c3 kK;generalize W1.drewN nq=W2 at A2 k0' k1'⊢;have a2:=A2.out
    have hls:∀l s,l<4->s<64->(c2 l s).length<=100000:=fun l s hl hs=>le_trans (len_le (a2.wl.slotN l s hl hs) (fun y hy=>by
     rcases ((a2.wl.slotM l s hl hs y).1 hy).1 with q|q
     ·exact q.1
     ·exact((MM.out y).1 (List.mem_of_mem_take q.1)).1) TL.out) (by omega)
    have hlf:far2.length<=100000:=le_trans (len_le a2.wl.farN (fun y hy=>by
     rcases ((a2.wl.farM y).1 hy).1 with q|q
     ·exact q.1
     ·exact((MM.out y).1 (List.mem_of_mem_take q.1)).1) TL.out) (by omega)
    have pt:=put_any W2 B M base thn n2 D hd2 u2 c2 far2 f2 ((D:Int),i) a2.wa rfl hDb hls hlf a2.wl.farS (by have:=a2.fr.size;omega)
    have PT:Aside (Calls Tryz.prog 123 #[.pointer (some ⟨B,0,none⟩),.agg #[.int .u64 (D:Int),.int .i64 i]] W2 fun e w'=>e=.returned (.tuple #[])/\∃hd' u' c' far',AdvI w B M base now thn T met F (.slice (some ⟨b,off,none⟩) L mc) (j+1) (.slice da dn dc) hd' u' c' far' f2 n2 w'):=by
     refine Calls.mono pt ?_;rintro e w' ⟨rfl,G⟩;have hmj:met[j]=((D:Int),i):=HX.out.trans HXE.out;exact⟨rfl,a2.put MN.out MM.out hjm (by rw[hmj]) hDb hlt2 (by rw[hmj];exact G)⟩
    clear a2 hls hlf pt A2
    go_wp2_with (go_at_call 123;refine PT.out.mono ?_;rintro e w' ⟨rfl,hd3,u3,c4,far3,G1⟩)
    have G2:Aside (AdvI w B M base now thn T met F (.slice (some ⟨b,off,none⟩) L mc) (j+1) (.slice da dn dc) hd3 u3 c4 far3 f2 n2 w'):=G1
    go_roundg (L-(j+1))
    case measure=>omega
    case rel=>exact⟨j+1,da,dn,dc,hd3,u3,c4,far3,f2,n2,by go_num,rfl,by omega,le_refl _,G2⟩
   ·have hz2:¬(thn:Int)<(D:Int):=by omega
    go_upto_region 5 with fail
    rw[HW1.out];go_quiet (fail)
    have A2:Aside (AdvI w B M base now thn T met F (.slice (some ⟨b,off,none⟩) L mc) j (.slice da dn dc) hd2 u2 c2 far2 f2 n2 (W1.drewN nq)):=A1.out.below (below_drewN W1 nq);have k0':(W1.drewN nq).cell? ⟨K,0,none⟩=some (.int .u64 (D:Int)):=k0;have k1':(W1.drewN nq).cell? ⟨K,1,none⟩=some (.int .i64 i):=k1;have kK':K<(W1.drewN nq).heap.size:=kK;clear A1 k0 k1 c3 kK;generalize W1.drewN nq=W2 at A2 k0' k1' kK'⊢;have a2:AdvI w B M base now thn T met F (.slice (some ⟨b,off,none⟩) L mc) j (.slice da dn dc) hd2 u2 c2 far2 f2 n2 W2.drew:=A2.out.below ((Below.refl _ _).drew);have hmj:met[j]=((D:Int),i):=HX.out.trans HXE.out;have hle:met[j].1<=(thn:Int):=by rw[hmj];show(D:Int)<=_;omega
    have hfi:f2 i=some (D:Int):=(a2.mp i D).2 ⟨by rw[<-hmj];exact((MM.out _).1 (List.getElem_mem hjm)).1,fun hx=>not_take MN.out hjm (by rw[hmj];exact hx.1)⟩;have hmap:=a2.wa.map
    obtain⟨n3,rfl⟩:∃n3,n2=n3+1:=by
     cases n2 with
     | zero=>
      exfalso
      obtain⟨D0,d1,d2,d3⟩:=hmap;have:=(d3 i wi).1;rw[hfi] at this;have hs0:Maps.size D0=0:=d2;obtain⟨es,cl,q1,q2,q3,q4⟩:=d1;have he:es.size=0:=by omega
      rw[q4] at this;have:es.toList=[]:=by apply List.length_eq_zero_iff.1;simpa using he
      simp[this,Maps.has] at *
     | succ n3=>exact⟨n3,rfl⟩
    obtain⟨W3,hst0,hm3,hg3⟩:=hmap.drop wi hfi 0;have hst:∀ty,(Builtin.delete_ #[170,3] ty #[.map (some M),.int .i64 i]).run Tryz.prog W2.drew=.ok (.tuple #[]) W3:=fun ty=>hst0;have cM:=a2.wa.head.cell (k:=1) (by omega);rw[a2.wa.h1] at cM
    have nKM:¬K=M:=fun e=>by
     have hM:=a2.wa.map.isMap;obtain⟨es,cl,q⟩:=hM;have hk:W2.drew.heap[K]?=W2.heap[K]?:=rfl;rw[<-e,hk] at q;simp[World.cell?,q] at k0'
    have nBM:¬B=M:=fun e=>a2.wa.BM e.symm;have kM:Aside ((W3.cell? ⟨K,0,none⟩=some (.int .u64 (D:Int))/\W3.cell? ⟨K,1,none⟩=some (.int .i64 i))/\W3.cell? ⟨B,1,none⟩=some (.map (some M))):=⟨⟨hg3.cell (a:=⟨K,0,none⟩) k0' (fun e=>by injection e with e;exact nKM e),hg3.cell (a:=⟨K,1,none⟩) k1' (fun e=>by injection e with e;exact nKM e)⟩,hg3.cell (a:=⟨B,1,none⟩) cM (fun e=>by injection e with e;exact nBM e)⟩;have kW:Aside ((W2.drew.cell? ⟨K,0,none⟩=some (.int .u64 (D:Int))/\W2.drew.cell? ⟨K,1,none⟩=some (.int .i64 i))/\W2.drew.cell? ⟨B,1,none⟩=some (.map (some M))):=⟨⟨k0',k1'⟩,cM⟩
    have TELL:Aside (∀W4 W5 dv',Below W3.heap.size W3 W4->OwnF W5 w.heap.size dv' (dueL thn (met.take j)++[((D:Int),i)])->W4.grownBy W5 (rowB (.slice da dn dc))->(∀k,rowB dv'=some k->rowB (.slice da dn dc)=some k\/W4.heap.size<=k)->AdvI w B M base now thn T met F (.slice (some ⟨b,off,none⟩) L mc) (j+1) dv' hd2 u2 c2 far2 (fdel f2 i) n3 W5):=by
     intro W4 W5 dv' q1 q2 q3 q4;have:=a2.tell MN.out MM.out HI.out hjm hle (m:=n3) (W1:=W3) (W2:=W4) (W3:=W5) (dv':=dv') rfl (by rw[hmj];exact hm3) hg3 q1 (by rw[hmj];exact q2) q3 q4;rw[hmj] at this;exact this
    have DUE:Aside (∀W4,Below W3.heap.size W3 W4->OwnF W4 w.heap.size (.slice da dn dc) (dueL thn (met.take j))/\w.heap.size<=W4.heap.size):=fun W4 hb4=>by
     have o3:OwnF W3 w.heap.size (.slice da dn dc) (dueL thn (met.take j)):=a2.due.kept hg3 (fun k hk e=>by
      injection e with e
      exact(a2.rd k hk).2.1 (by rw[<-e];exact .inr (.inl rfl)))
     refine⟨o3.below hb4,?_⟩;have:=a2.fr.size;have:=hg3.size;have:=hb4.size;omega
    have dlen:Aside ((dueL thn (met.take j)).length<=1000):=le_trans (List.length_filter_le _ _) (by rw[List.length_take];have:=HLn.out;omega);have mx:=mixed;clear a2 hle hfi hmap hst0 hm3 A2 hmj
    go_wp2_with fail
    go_region_held3 (fun W=>(W.cell? ⟨K,0,none⟩=some (.int .u64 (D:Int))/\W.cell? ⟨K,1,none⟩=some (.int .i64 i))/\W.cell? ⟨B,1,none⟩=some (.map (some M))) (first|with_reducible exact kW.out|with_reducible exact kM.out) (fail)
    obtain⟨⟨n0,n1⟩,-⟩:=kM.out;obtain⟨S3,hS3⟩:∃S3,W3.heap.size=S3:=⟨_,rfl⟩;obtain⟨W4,hW4⟩:∃W4,W3.alloc (.cells #[.int .u64 (D:Int),.int .i64 i] 131)=W4:=⟨_,rfl⟩;have HW4:Hid _:=hW4;have b4:Below W3.heap.size W3 W4:=by rw[<-hW4];exact(Below.refl _ _).alloc (le_refl _) _
    have is1:=IsL.one W3 ((D:Int),i);rw[hS3] at is1;have is2:IsL W4 (some ⟨S3,0,none⟩) 1 [((D:Int),i)]:=by rw[<-hW4];exact is1
    obtain⟨o4,sz4⟩:=DUE.out W4 b4;obtain⟨v',W5,hr,o5,g5,r5⟩:=appF o4 is2 (by have:=dlen.out;simp only[List.length_singleton];omega) sz4 39;have G1:=TELL.out W4 W5 v' b4 o5 g5 r5;obtain⟨pa,pc,ev,-,-,-,-⟩:=o5.isL;obtain⟨pn,hpn⟩:∃pn,(dueL thn (met.take j)++[((D:Int),i)]).length=pn:=⟨_,rfl⟩;rw[hpn] at ev;subst ev;have G2:Aside (AdvI w B M base now thn T met F (.slice (some ⟨b,off,none⟩) L mc) (j+1) (.slice pa pn pc) hd2 u2 c2 far2 (fdel f2 i) n3 W5):=G1;clear kM kW k0' k1' kK' TELL DUE is1 is2 o4 o5 g5 r5 G1 hpn hst b4 hW4 cM hg3 sz4
    go_wp2_with (at_builtin;rw[HW4.out];refine Lib.wpList_append_run W4 rfl _ _ 39 39 rfl _ _ rfl rfl _ W5 hr ?_)
    go_roundg (L-(j+1))
    case measure=>omega
    case rel=>exact⟨j+1,pa,pn,pc,hd2,u2,c2,far2,fdel f2 i,n3,by go_num,rfl,by omega,le_refl _,G2⟩
  ·have e0:j=L:=by omega
   subst e0;have hz:¬(j:Int)<(j:Int):=by omega
   have AF:=A.out;have hl:=HLn.out;clear A A0';subst hl;obtain⟨d1,d2⟩:=AF.done2 MN.out MM.out OK.out.1 OK.out.2 hnt;have dl:(dueL thn met).length<=1000000:=le_trans (List.length_filter_le _ _) (by omega);have e3:met.take met.length=met:=List.take_length;have own:=AF.due;rw[e3] at own
   have SO:Aside (Calls Tryz.prog 107 #[.slice da dn dc,.func (.func 108) #[] #[]] wr fun e w'=>e=.returned (.tuple #[])/\AdvOwn w F B base thn T (.returned (.slice da dn dc)) w'):=by
    refine Calls.mono (sort_any (.slice da dn dc) w.heap.size (dueL thn met) wr own dl) ?_;rintro e w' ⟨rfl,s1,s2⟩;rw[d1] at s1;exact⟨rfl,_,rfl,s1,d2 w' s2⟩
   clear AF own d1 d2 dl e3
   go_wp2_with (go_at_call 107;refine SO.out.mono ?_;rintro e w' ⟨rfl,G1⟩)
   go_ret;exact G1
end Go.Proofs.YthpgfmmpjoodkaaGreatDoor.Wl
