import Derived.Test.YthpgfmmpjoodkaaGreatDoorWWhG
import Derived.Maps.OwnOps
import Derived.Deep.MidRow
open List(length_append length_drop)
open Nat(le_refl le_trans)
open Option(map_some)
namespace Go.Proofs.YthpgfmmpjoodkaaGreatDoor.Wl
set_option maxHeartbeats 8000000
set_option maxRecDepth 100000
set_option linter.unusedVariables false
open Go.RowKit Go.Lib Go.Sort Go.WideMaps Go.Maps
section
def addR(T:List Ent)(i:Int):Int:=if i<1 then 1 else if (dueOf T i).isSome then 9 else if 1000<=T.length then 65 else 0
def addT(T:List Ent)(i:Int)(D:Nat):List Ent:=if addR T i=0 then insL T ((D:Int),i) else T
theorem addT_no{T:List Ent}{i:Int}(D:Nat)(h:addR T i≠0):addT T i D=T:=if_neg h
theorem TOk.add{T:List Ent}(h:TOk T){i:Int}(wi:wfI i)(D:Int)(hn:dueOf T i=none)(hl:T.length<1000):TOk (insL T (D,i)):=by
 refine⟨insL_srt _ _ h.srt,?_,fun x hx=>?_,by rw[insL_len];omega⟩
 ·rw[((insL_perm T (D,i)).map Prod.snd).nodup_iff];refine List.nodup_cons.2 ⟨fun hx=>?_,h.ids⟩;obtain⟨y,hy,e⟩:=List.mem_map.1 hx;obtain⟨y1,y2⟩:=y;simp only at e;subst e;exact dueOf_none hn _ hy
 ·rcases insL_mem.1 hx with rfl|hx
  ·exact wi
  ·exact h.wf x hx
theorem TOk.erase{T:List Ent}(h:TOk T)(t:Ent):TOk (T.erase t):=
 ⟨h.srt.erase t,List.Pairwise.sublist (List.erase_sublist.map Prod.snd) h.ids,fun x hx=>h.wf x (List.mem_of_mem_erase hx),le_trans (List.length_erase_le) h.len⟩
variable {w w':World}{F:Nat->Prop}{B base now:Nat}{T:List Ent}
set_option maxRecDepth 10000 in
theorem add_any(h:Whl w F B base now T){i:Int}(wi:wfI i){D:Nat}(hD:D<B64)(hbase:base<=w.heap.size) :
  Calls Tryz.prog 117 #[.pointer (some ⟨B,0,none⟩),.int .i64 i,.int .u64 D] w fun e w'=>e=.returned (.int .i64 (addR T i))/\WIs w F B base now (addT T i D) w':=by
 have SAME:Aside (WIs w F B base now T w):=WIs.same h;by_cases hi:i<1
 ·have e1:addR T i=1:=if_pos hi;rw[e1,addT_no D (by omega)];clear h e1;go_enter Tryz.func117,Tryz.ntmps117
  go_wp2
  go_ret;exact⟨rfl,SAME.out⟩
 ·obtain⟨M,hd,u,c,far,f,h1,h2,h3,h4,h5⟩:=h;have c1:=h1.head.cell (k:=1) (by omega);rw[h1.h1] at c1;have hf:=map_dueOf h3 h4.ids i
  cases hdu:dueOf T i with
  | some v=>
   rw[hdu] at hf;have lk:=h1.map.look wi hf;have e1:addR T i=9:=by unfold addR;rw[if_neg hi,hdu];rfl
   rw[e1,addT_no D (by omega)];clear h1 h2 h3 h4 h5 hf hdu e1;go_enter Tryz.func117,Tryz.ntmps117
   go_wp2
   go_ret;exact⟨rfl,SAME.out⟩
  | none=>
   rw[hdu] at hf;have lk:=h1.map.look_no wi hf;have ln:=fun ty=>h1.map.len ty;by_cases hl:1000<=T.length
   ·have hlz:(1000:Int)<=(T.length:Int):=by omega
    have e1:addR T i=65:=by unfold addR;rw[if_neg hi,hdu,if_neg (by simp),if_pos hl]
    rw[e1,addT_no D (by omega)];clear h1 h2 h3 h4 h5 hf hdu e1;go_enter Tryz.func117,Tryz.ntmps117
    go_wp2
    go_ret;exact⟨rfl,SAME.out⟩
   ·have hlz:¬(1000:Int)<=(T.length:Int):=by omega
    have e1:addR T i=0:=by unfold addR;rw[if_neg hi,hdu,if_neg (by simp),if_neg hl]
    have e2:addT T i D=insL T ((D:Int),i):=if_pos e1;rw[e1,e2];obtain⟨w1,hst,hm,hg⟩:=h1.map.store (by omega) wi hf (D:Int);have a1:=h1.mapSet hm hg;have hls:∀l s,l<4->s<64->(c l s).length<=100000:=fun l s hl' hs'=>le_trans (len_le (h2.slotN l s hl' hs') (fun x hx=>((h2.slotM l s hl' hs' x).1 hx).1) h4.len) (by omega);have hlf:far.length<=100000:=le_trans (len_le h2.farN (fun x hx=>((h2.farM x).1 hx).1) h4.len) (by omega);have pt:=put_any w1 B M base now (T.length+1) D hd u c far (fput f i D) ((D:Int),i) a1 rfl hD hls hlf h2.farS (le_trans hbase hg.size)
    have PT:Aside (Calls Tryz.prog 123 #[.pointer (some ⟨B,0,none⟩),.agg #[.int .u64 (D:Int),.int .i64 i]] w1 fun e w'=>e=.returned (.tuple #[])/\WIs w F B base now (insL T ((D:Int),i)) w'):=by
     refine Calls.mono pt ?_;rintro e w' ⟨rfl,hd',u',c',far',q1,q2,q3,q4⟩
     have fF:Fr F w w':=by
      have x1:Fr F w w1:=(Fr.of_grown hg).mono (fun j hj=>by injection hj with hj;exact(h5 j).2 (.inr (.inl hj.symm)));exact x1.trans q3 (fun j hj=>.inl ((h5 j).2 hj))
     refine⟨rfl,foot B M hd',⟨M,hd',u',c',far',_,by rw[insL_len];exact q1,(h2.put q2 rfl hD (dueOf_none hdu D)).congr (fun x=>by rw[insL_mem];exact Or.comm),fun a v=>?_,h4.add wi D hdu (by omega),fun k=>Iff.rfl⟩,fF,fun k hk=>?_⟩
     ·rw[insL_mem];unfold fput;by_cases ea:a=i
      ·subst ea;rw[if_pos rfl];constructor
       ·intro e;injection e with e;exact .inl (by rw[e])
       ·rintro(e|e)
        ·injection e with e _;rw[e]
        ·exact absurd e (dueOf_none hdu v)
      ·rw[if_neg ea,h3];constructor
       ·exact .inr
       ·rintro(e|e)
        ·injection e with _ e;exact absurd e ea
        ·exact e
     ·rcases q4 k hk with x|x
      ·exact .inl ((h5 k).2 x)
      ·right;have:=hg.size;omega
    have c2:=a1.head.cell (k:=1) (by omega);rw[h1.h1] at c2;clear h1 h2 h3 h4 h5 hf hdu e1 e2 hm hg a1 hls hlf pt;go_enter Tryz.func117,Tryz.ntmps117
    go_wp2_with (go_at_call 123;refine PT.out.mono ?_;rintro e w' ⟨rfl,G1⟩)
    go_ret;exact⟨rfl,G1⟩
def canT(T:List Ent)(i:Int):List Ent:=match dueOf T i with|some v=>T.erase (v,i)|none=>T
set_option maxRecDepth 10000 in
theorem cancel_any(h:Whl w F B base now T){i:Int}(wi:wfI i)(hbase:base<=w.heap.size) :
  Calls Tryz.prog 267 #[.pointer (some ⟨B,0,none⟩),.int .i64 i] w fun e w'=>e=.returned (.bool (dueOf T i).isSome)/\WIs w F B base now (canT T i) w':=by
 have SAME:Aside (WIs w F B base now T w):=WIs.same h;obtain⟨M,hd,u,c,far,f,h1,h2,h3,h4,h5⟩:=h;have c1:=h1.head.cell (k:=1) (by omega);rw[h1.h1] at c1;have hf:=map_dueOf h3 h4.ids i;unfold canT
 cases hdu:dueOf T i with
 | none=>
  rw[hdu] at hf;have lk:=h1.map.look_no wi hf;clear h1 h2 h3 h4 h5 hf hdu;go_enter Tryz.func267,Tryz.ntmps267
  go_wp2
  go_ret;exact⟨rfl,SAME.out⟩
 | some v=>
  rw[hdu] at hf;have lk:=h1.map.look wi hf;have ht:(v,i)∈T:=dueOf_some hdu;obtain⟨D,hvD,hD⟩:=h2.rng _ ht;simp only at hvD;subst hvD;have hlen:0<T.length:=List.length_pos_of_mem ht;have hn1:T.length=T.length-1+1:=by omega
  have hm1:=h1.map;rw[hn1] at hm1;obtain⟨w1,hst0,hm,hg⟩:=hm1.drop wi hf 0;have hst:∀ty,(Builtin.delete_ #[170,3] ty #[.map (some M),.int .i64 i]).run Tryz.prog w=.ok (.tuple #[]) w1:=fun ty=>hst0;have a1:=h1.mapSet hm hg;obtain⟨p1,p2⟩:=h2.at (t:=((D:Int),i)) rfl ht;have pt:=drop_any w1 B M base now (T.length-1) D hd u c far (fdel f i) ((D:Int),i) a1 rfl hD p1 p2
  have PT:Aside (Calls Tryz.prog 297 #[.pointer (some ⟨B,0,none⟩),.agg #[.int .u64 (D:Int),.int .i64 i]] w1 fun e w'=>e=.returned (.tuple #[])/\WIs w F B base now (T.erase ((D:Int),i)) w'):=by
   refine Calls.mono pt ?_;rintro e w' ⟨rfl,hd',u',c',far',q1,q2,q3,q4⟩
   have fF:Fr F w w':=by
    have x1:Fr F w w1:=(Fr.of_grown hg).mono (fun j hj=>by injection hj with hj;exact(h5 j).2 (.inr (.inl hj.symm)));exact x1.trans q3 (fun j hj=>.inl ((h5 j).2 hj))
   have hnd:=nodup_of_ids h4.ids;refine⟨rfl,foot B M hd',⟨M,hd',u',c',far',_,by rw[List.length_erase_of_mem ht];exact q1,(h2.drop q2 rfl ht).congr (fun x=>by rw[hnd.mem_erase_iff];exact And.comm),fun a v=>?_,h4.erase _,fun k=>Iff.rfl⟩,fF,fun k hk=>?_⟩
   ·rw[hnd.mem_erase_iff];unfold fdel;by_cases ea:a=i
    ·subst ea;rw[if_pos rfl];constructor
     ·intro e;cases e
     ·rintro⟨e1,e2⟩;have:=ids_inj h4.ids e2 ht rfl;exact absurd this e1
    ·rw[if_neg ea,h3];constructor
     ·intro e;exact⟨fun e'=>ea (by injection e'),e⟩
     ·rintro⟨_,e⟩;exact e
   ·rcases q4 k hk with x|x
    ·exact .inl ((h5 k).2 x)
    ·right;have:=hg.size;omega
  clear h1 h2 h3 h4 h5 hf hdu hm hg a1 pt p1 p2 hm1 hn1 hst0;go_enter Tryz.func267,Tryz.ntmps267
  go_wp2_with (go_at_call 297;refine PT.out.mono ?_;rintro e w' ⟨rfl,G1⟩)
  go_ret;exact⟨rfl,G1⟩
end
section
variable {w w':World}{B M base now n:Nat}{hd:Nat->Value}{u:Nat->Nat}{c:Nat->Nat->List Ent}{far:List Ent}{f:Int->Option Int}
theorem RowF.rest{g off cap:Nat}{d:List Ent}(h:RowF w base g off cap d){k:Nat}(hk:k<=d.length)(hc:cap≠k):RowF w base g (off+k*2) (cap-k) (d.drop k):=by
 obtain⟨P,R,m1,m2,m3,m4⟩:=h.mem;have:=h.le;refine⟨h.low,by omega,by rw[length_drop];omega,le_trans (Nat.sub_le _ _) h.big,P++R.take (k*2),R.drop (k*2),by rw[List.append_assoc,List.take_append_drop];exact m1,by simp;omega,by simp;omega,?_⟩;rw[length_drop,flat_drop,<-m4,List.drop_take];congr 1;omega
theorem OwnF.rest{g off cap:Nat}{d:List Ent}(h:OwnF w base (.slice (some ⟨g,off,none⟩) d.length cap) d){k:Nat}(hk:k<=d.length):OwnF w base (.slice (if cap=k then some ⟨g,off,none⟩ else some ⟨g,off+k*2,none⟩) (d.length-k) (cap-k)) (d.drop k)/\
  ∀j,rowB (.slice (if cap=k then some ⟨g,off,none⟩ else some ⟨g,off+k*2,none⟩) (d.length-k) (cap-k))=some j->rowB (.slice (some ⟨g,off,none⟩) d.length cap)=some j:=by
 rcases h with⟨rfl,h⟩|⟨g',off',cap',e,hr⟩
 ·have hk0:k=0:=by simpa using hk
  subst hk0;rcases h with h|⟨g',off',h⟩
  ·simp at h
  ·simp only[Value.slice.injEq,Option.some.injEq,Addr.mk.injEq] at h;obtain⟨⟨rfl,rfl,_⟩,_,rfl⟩:=h;exact⟨OwnF.zero _ _ _ _,fun j hj=>by simp[rowB] at hj⟩
 ·simp only[Value.slice.injEq,Option.some.injEq,Addr.mk.injEq] at e;obtain⟨⟨rfl,rfl,_⟩,_,rfl⟩:=e;by_cases hc:cap=k
  ·subst hc;have hle:=hr.le;obtain he:cap=d.length:=by omega
   subst he;rw[if_pos rfl,List.drop_length,Nat.sub_self];exact⟨OwnF.zero _ _ _ _,fun j hj=>by simp[rowB] at hj⟩
  ·rw[if_neg hc];have r2:=hr.rest hk hc;refine⟨.inr ⟨g,_,_,by rw[length_drop],r2⟩,fun j hj=>?_⟩;rw[r2.rowB] at hj;rw[hr.rowB];exact hj
def NearIs(w:World)(B M base now n:Nat)(hd:Nat->Value)(u:Nat->Nat)(c:Nat->Nat->List Ent)(far:List Ent)(f:Int->Option Int)(r:Ending)(w':World):Prop:=
 ∃k a cap v',k<=far.length/\r=.returned (.slice a k cap)/\IsL w' a cap (far.take k)/\WhA w' B M base (hset hd 262 v') now u c (far.drop k) f n/\Fr (fun k=>k=B) w w'/\(∀j,rowB v'=some j->rowB (hd 262)=some j)/\
  (∀i (hi:i<far.length),i<k->far[i].1<=((now ||| 16777215:Nat):Int))/\∀h:k<far.length,((now ||| 16777215:Nat):Int)<far[k].1
theorem near_any(h:WhA w B M base hd now u c far f n)(hl:far.length<=100000) :
  Calls Tryz.prog 179 #[.pointer (some ⟨B,0,none⟩)] w (NearIs w B M base now n hd u c far f):=by
 have c0:=h.head.cell (k:=0) (by omega);rw[h.h0] at c0;have cF:=h.head.cell (k:=262) (by omega);have fF:=h.head.frozen 262;have hE:now ||| 16777215<B64:=Nat.or_lt_two_pow (n:=64) h.nb (by decide)
 have e1:bits BinOp.or IntKind.u64 (now:Int) 16777215=((now ||| 16777215:Nat):Int):=bits_or_u64_nat now 16777215 h.nb (by decide);obtain⟨E,hEE⟩:∃E,now ||| 16777215=E:=⟨_,rfl⟩
 rw[hEE] at e1;obtain⟨va,vc,e0,hav,hvc,hvm,hsL⟩:=h.far.isL;obtain⟨vn,hvn⟩:∃n,far.length=n:=⟨_,rfl⟩;rw[hvn] at e0 hvc;rw[e0] at cF;unfold maxLen at hvm;have bB:=h.head.lt;have H:Aside (WhA w B M base hd now u c far f n):=h;have L:Aside (IsL w va vc far):=hsL;have HE0:Hid (hd 262=.slice va vn vc):=e0;have HVN:Hid (far.length=vn):=hvn;have HEE:Hid (now ||| 16777215=E):=hEE;have hl2:vn<=100000:=by omega
 have vcz:(vn:Int)<=(vc:Int):=by omega
 clear h hsL e0 hvn hEE hl hE
 have FIN:Aside (∀k,k<=vn->(∀i (hi:i<far.length),i<k->far[i].1<=(E:Int))->(∀h:k<far.length,(E:Int)<far[k].1)->∀x,x=(if vc=k then va else va.map (·.add (k*2)))->(va=none->k=0)->NearIs w B M base now n hd u c far f (.returned (.slice va k vc)) (w.setCell ⟨B,262,none⟩ (.slice x (vn-k) (vc-k)))):=by
  intro k hk a1 a2 x hx hk0;have o:=H.out.far;rw[HE0.out,<-HVN.out] at o;have hkf:k<=far.length:=by rw[HVN.out];exact hk
  have key:OwnF w base (.slice x (vn-k) (vc-k)) (far.drop k)/\∀j,rowB (.slice x (vn-k) (vc-k))=some j->rowB (hd 262)=some j:=by
   rcases hav with⟨rfl,rfl⟩|⟨g,off,rfl⟩
   ·have hk1:=hk0 rfl;subst hk1;have hx2:x=none:=by rw[hx];simp
    subst hx2;have:far=[]:=List.length_eq_zero_iff.1 (by rw[HVN.out];omega);have hv0:vn=0:=by omega
    subst hv0;rw[this];exact⟨OwnF.nil _ _,fun j hj=>by cases hj⟩
   ·have hx2:x=if vc=k then some ⟨g,off,none⟩ else some ⟨g,off+k*2,none⟩:=by
     rw[hx];split
     ·rfl
     ·rw[map_some,Addr.add_lit]
    obtain⟨o1,o2⟩:=o.rest hkf;rw[hx2,<-HVN.out];refine⟨o1,fun j hj=>?_⟩;rw[HE0.out,<-HVN.out];exact o2 j hj
  have hf:Fr (fun j=>j=B) w (w.setCell ⟨B,262,none⟩ (.slice x (vn-k) (vc-k))):=Fr.setCell (fun j=>j=B) _ _ _ _ rfl;have nB:∀j,rowB (.slice x (vn-k) (vc-k))=some j->j≠B:=fun j hj=>(H.out.rowLt (i:=262) (by omega) (key.2 j hj)).2.2.1;refine⟨k,va,vc,.slice x (vn-k) (vc-k),hkf,rfl,?_,H.out.farSet (H.out.head.set 262 _) (key.1.of_block fun j hj=>heap_setCell_other _ _ _ _ (nB j hj)) (hf.mono (fun j hj=>.inl hj)) (fun j hj=>.inl (key.2 j hj)),hf,key.2,?_,?_⟩
  ·have l1:=L.out.take k;refine⟨l1.le,l1.big,fun i y hy=>?_⟩;obtain⟨b,off,q1,q2,q3,q4⟩:=l1.elem i y hy
   have hbB:b≠B:=by
    have hr:rowB (hd 262)=some b:=by
     rw[HE0.out]
     have hpos:0<vc:=by
      have:=(List.getElem?_eq_some_iff.1 hy).1;have:=l1.le;omega
     obtain⟨c',rfl⟩:∃c',vc=c'+1:=⟨vc-1,by omega⟩;rw[q1];rfl
    exact(H.out.rowLt (i:=262) (by omega) hr).2.2.1
   refine⟨b,off,q1,by simpa using q2,?_,?_⟩
   ·rw[World.cell?_of_block (w:=w) (heap_setCell_other _ _ _ _ hbB)];exact q3
   ·rw[World.cell?_of_block (w:=w) (heap_setCell_other _ _ _ _ hbB)];exact q4
  ·intro i hi hik;rw[HEE.out];exact a1 i hi hik
  ·intro hh;rw[HEE.out];exact a2 hh
 go_enter Tryz.func179,Tryz.ntmps179
 go_wp2
 go_loopg [4] vn (fun kx s4 wr=>∃k:Nat,s4=.int .i64 k/\k<=vn/\vn-k<=kx/\Hid (wr=w)/\Aside (∀i (hi:i<far.length),i<k->far[i].1<=(E:Int)))
 case atStart=>exact⟨0,rfl,by omega,by omega,rfl,fun i hi h=>absurd h (by omega)⟩
 case round=>
  obtain⟨k,rfl,hk,hkx,HW,A⟩:=hrel;obtain rfl:w=wr:=HW.out.symm;clear HW
  have ending:(∀h:k<far.length,(E:Int)<far[k].1)->Aside (∀x,x=(if vc=k then va else va.map (·.add (k*2)))->NearIs w B M base now n hd u c far f (.returned (.slice va k vc)) (w.setCell ⟨B,262,none⟩ (.slice x (vn-k) (vc-k)))):=fun h2 x hx=>FIN.out k hk A.out h2 x hx (fun e=>by
   rcases hav with⟨_,h0⟩|⟨g,off,h0⟩
   ·omega
   ·rw[e] at h0;cases h0)
  by_cases hlt:k<vn
  ·have hz:(k:Int)<(vn:Int):=by omega
   have hkf:k<far.length:=by rw[HVN.out];exact hlt
   obtain⟨b,off,ha,hbw,y1,y2⟩:=L.out.elem k far[k] (List.getElem?_eq_getElem hkf);obtain⟨X,hX⟩:∃X,far[k].1=X:=⟨_,rfl⟩;rw[hX] at y1;have HX:Hid (far[k].1=X):=hX;clear y2 hX;by_cases hle:X<=(E:Int)
   ·subst ha;clear ending FIN
    go_wp2
    go_roundg (vn-(k+1))
    case measure=>omega
    case rel=>
     refine⟨k+1,by go_num,by omega,le_refl _,rfl,fun i hi hik=>?_⟩;by_cases e:i=k
     ·subst e;rw[HX.out];exact hle
     ·exact A.out i hi (by omega)
   ·have EN:=ending (fun _=>by rw[HX.out];omega);subst ha;have hkc:(k:Int)<=(vc:Int):=by omega
    clear FIN;by_cases hvk:vc=k
    ·omega
    ·have EN2:Aside (NearIs w B M base now n hd u c far f (.returned (.slice (some ⟨b,off,none⟩) k vc)) (w.setCell ⟨B,262,none⟩ (.slice (some ⟨b,off+k*2,none⟩) (vn-k) (vc-k)))):=EN.out _ (by rw[if_neg hvk,map_some,Addr.add_lit]);have hle2:(E:Int)<X:=by omega
     clear EN ending hle
     go_wp2
     go_ret;exact EN2.out
  ·obtain rfl:k=vn:=by omega
   have hz:¬(k:Int)<(k:Int):=by omega
   have EN:=ending (fun hh=>by rw[HVN.out] at hh;omega);clear FIN ending;rcases hav with⟨rfl,rfl⟩|⟨g,off,rfl⟩
   ·obtain rfl:k=0:=by omega
    have EN2:Aside (NearIs w B M base now n hd u c far f (.returned (.slice none 0 0)) (w.setCell ⟨B,262,none⟩ (.slice none 0 0))):=EN.out none (by simp);clear EN
    go_wp2
    go_ret;exact EN2.out
   ·by_cases hvk:vc=k
    ·subst hvk;have EN2:Aside (NearIs w B M base now n hd u c far f (.returned (.slice (some ⟨g,off,none⟩) vc vc)) (w.setCell ⟨B,262,none⟩ (.slice (some ⟨g,off,none⟩) 0 0))):=by show NearIs _ _ _ _ _ _ _ _ _ _ _ _ _;have:=EN.out (some ⟨g,off,none⟩) (by simp);simpa using this
     clear EN
     go_wp2
     go_ret;exact EN2.out
    ·have EN2:Aside (NearIs w B M base now n hd u c far f (.returned (.slice (some ⟨g,off,none⟩) k vc)) (w.setCell ⟨B,262,none⟩ (.slice (some ⟨g,off+k*2,none⟩) 0 (vc-k)))):=by
      have:=EN.out (some ⟨g,off+k*2,none⟩) (by rw[if_neg hvk,map_some,Addr.add_lit]);rw[Nat.sub_self] at this;exact this
     clear EN
     go_wp2
     go_ret;exact EN2.out
end
section
variable {w w':World}{B M base now n:Nat}{hd:Nat->Value}{u:Nat->Nat}{c:Nat->Nat->List Ent}{far:List Ent}{f:Int->Option Int}
def cLev(c:Nat->Nat->List Ent)(l m:Nat):Nat->Nat->List Ent:=fun a s=>if a=l then(if m.testBit s then [] else c l s) else c a s
theorem WhA.takeSet(h:WhA w B M base hd now u c far f n){l mk:Nat}(hl:l<4)(h':Hd w' B (hset (hdT hd (2+l*65) (u l &&& mk) 64) (2+l*65) (.int .u64 ((clr (u l) mk:Nat):Int))))(hf:Fr (fun k=>k=B) w w') :
  WhA w' B M base (hset (hdT hd (2+l*65) (u l &&& mk) 64) (2+l*65) (.int .u64 ((clr (u l) mk:Nat):Int))) now (lset u l (clr (u l) mk)) (cLev c l (u l &&& mk)) far f n/\
   ∀k,foot B M (hset (hdT hd (2+l*65) (u l &&& mk) 64) (2+l*65) (.int .u64 ((clr (u l) mk:Nat):Int))) k->foot B M hd k:=by
 obtain⟨m,hm⟩:∃m,u l &&& mk=m:=⟨_,rfl⟩;obtain⟨U,hU⟩:∃U,clr (u l) mk=U:=⟨_,rfl⟩;have hUb:U<B64:=by rw[<-hU];exact clr_lt _ _ (h.ub l hl)
 rw[hm,hU] at h'⊢;have e1:hset (hdT hd (2+l*65) m 64) (2+l*65) (.int .u64 (U:Int)) (2+l*65)=.int .u64 (U:Int):=hset_same _ _ _;have e2:∀i,i≠2+l*65->(i<2+l*65+1\/2+l*65+65<=i)->hset (hdT hd (2+l*65) m 64) (2+l*65) (.int .u64 (U:Int)) i=hd i:=fun i h1 h2=>by rw[hset_ne _ _ h1,hdT_out _ _ _ _ _ (by omega)]
 have e3:∀s,s<64->hset (hdT hd (2+l*65) m 64) (2+l*65) (.int .u64 (U:Int)) (2+l*65+1+s)=if m.testBit s then nilV else hd (2+l*65+1+s):=fun s hs=>by rw[hset_ne _ _ (by omega),hdT_in _ _ _ hs]
 have rows:∀i,i<263->∀k,rowB (hset (hdT hd (2+l*65) m 64) (2+l*65) (.int .u64 (U:Int)) i)=some k->rowB (hd i)=some k:=fun i hi k hk=>by
  by_cases c1:i=2+l*65
  ·subst c1;rw[e1] at hk;cases hk
  ·by_cases c2:i<2+l*65+1\/2+l*65+65<=i
   ·rw[e2 i c1 c2] at hk;exact hk
   ·obtain⟨s,rfl⟩:∃s,i=2+l*65+1+s:=⟨i-(2+l*65+1),by omega⟩;rw[e3 s (by omega)] at hk
    split at hk
    ·cases hk
    ·exact hk
 have own:∀i d,i<263->OwnF w base (hd i) d->OwnF w' base (hd i) d:=fun i d hi o=>o.fr hf (fun k hk hx=>Hd.ne h.head o (by rw[hk,hx]));refine⟨⟨h',by rw[e2 0 (by omega) (by omega)];exact h.h0,by rw[e2 1 (by omega) (by omega)];exact h.h1,fun a ha=>?_,fun a s ha hs=>?_,by rw[e2 262 (by omega) (by omega)];exact own _ _ (by omega) h.far,h.map.of_block (hf.block M h.map.lt h.BM),fun i j hi hj hij k hk hk2=>h.inj i j hi hj hij k (rows i hi k hk) (rows j hj k hk2),fun a ha=>?_,h.nb,h.lowB,h.lowM⟩,fun k hk=>?_⟩
 ·by_cases ca:a=l
  ·subst ca;rw[e1,lset_same]
  ·rw[e2 _ (by omega) (by omega),lset_ne _ _ ca];exact h.hu a ha
 ·unfold cLev;by_cases ca:a=l
  ·subst ca;rw[e3 s hs,if_pos rfl]
   split
   ·exact OwnF.nil _ _
   ·exact own _ _ (by omega) (h.slot a s ha hs)
  ·rw[if_neg ca,e2 _ (by omega) (by omega)];exact own _ _ (by omega) (h.slot a s ha hs)
 ·by_cases ca:a=l
  ·subst ca;rw[lset_same];exact hUb
  ·rw[lset_ne _ _ ca];exact h.ub a ha
 ·rcases hk with hk|hk|⟨i,hi,hk⟩
  ·exact .inl hk
  ·exact .inr (.inl hk)
  ·exact .inr (.inr ⟨i,hi,rows i hi k hk⟩)
def uLv(now thn:Nat)(u:Nat->Nat)(p:Nat):Nat->Nat:=fun l=>if l<p then clr (u l) (msk now thn l) else u l
def cLv(now thn:Nat)(u:Nat->Nat)(c:Nat->Nat->List Ent)(p:Nat):Nat->Nat->List Ent:=fun l s=>if l<p then cT now thn u c l s else c l s
theorem uLv_step(now thn:Nat)(u:Nat->Nat)(p:Nat):lset (uLv now thn u p) p (clr (uLv now thn u p p) (msk now thn p))=uLv now thn u (p+1):=by
 funext l
 unfold lset uLv;by_cases e:l=p
 ·subst e;rw[if_pos rfl,if_neg (by omega),if_pos (by omega)]
 ·rw[if_neg e];by_cases e2:l<p
  ·rw[if_pos e2,if_pos (by omega)]
  ·rw[if_neg e2,if_neg (by omega)]
theorem cLv_step(now thn:Nat)(u:Nat->Nat)(c:Nat->Nat->List Ent)(p:Nat):cLev (cLv now thn u c p) p (uLv now thn u p p &&& msk now thn p)=cLv now thn u c (p+1):=by
 funext l s
 have e0:uLv now thn u p p=u p:=by unfold uLv;rw[if_neg (by omega)]
 have e1:cLv now thn u c p p s=c p s:=by unfold cLv;rw[if_neg (by omega)]
 unfold cLev;rw[e0,e1];by_cases e:l=p
 ·subst e;rw[if_pos rfl];show _=if l<l+1 then cT now thn u c l s else c l s
  rw[if_pos (show l<l+1 by omega)]
  rfl
 ·rw[if_neg e];show(if l<p then cT now thn u c l s else c l s)=if l<p+1 then cT now thn u c l s else c l s
  by_cases e2:l<p
  ·rw[if_pos e2,if_pos (by omega)]
  ·rw[if_neg e2,if_neg (by omega)]
theorem uLv_zero(now thn:Nat)(u:Nat->Nat):uLv now thn u 0=u:=by funext l;unfold uLv;rw[if_neg (by omega)]
theorem cLv_zero(now thn:Nat)(u:Nat->Nat)(c:Nat->Nat->List Ent):cLv now thn u c 0=c:=by funext l s;unfold cLv;rw[if_neg (by omega)]
theorem uLv_at(now thn:Nat)(u:Nat->Nat)(p:Nat):uLv now thn u p p=u p:=by unfold uLv;rw[if_neg (by omega)]
theorem cLv_at(now thn:Nat)(u:Nat->Nat)(c:Nat->Nat->List Ent)(p:Nat):cLv now thn u c p p=c p:=by funext s;unfold cLv;rw[if_neg (by omega)]
theorem WhA.lists(h:WhA w B M base hd now u c far f n){u':Nat->Nat}{c':Nat->Nat->List Ent}(eu:∀l,l<4->u l=u' l)(ec:∀l s,l<4->c l s=c' l s):WhA w B M base hd now u' c' far f n:=
 ⟨h.head,h.h0,h.h1,fun l hl=>by rw[<-eu l hl];exact h.hu l hl,fun l s hl hs=>by rw[<-ec l s hl];exact h.slot l s hl hs,h.far,h.map,h.inj,fun l hl=>by rw[<-eu l hl];exact h.ub l hl,h.nb,h.lowB,h.lowM⟩
theorem WhA.nowSet(h:WhA w B M base hd now u c far f n){thn:Nat}(ht:thn<B64):WhA (w.setCell ⟨B,0,none⟩ (.int .u64 thn)) B M base (hset hd 0 (.int .u64 thn)) thn u c far f n/\∀k,foot B M (hset hd 0 (.int .u64 thn)) k->foot B M hd k:=by
 have hf:Fr (fun k=>k=B) w (w.setCell ⟨B,0,none⟩ (.int .u64 thn)):=Fr.setCell (fun k=>k=B) _ _ _ _ rfl;have own:∀i d,i<263->OwnF w base (hd i) d->OwnF (w.setCell ⟨B,0,none⟩ (.int .u64 thn)) base (hd i) d:=fun i d hi o=>o.fr hf (fun k hk hx=>Hd.ne h.head o (by rw[hk,hx]))
 have rows:∀i,i<263->∀k,rowB (hset hd 0 (.int .u64 thn) i)=some k->rowB (hd i)=some k:=fun i hi k hk=>by
  by_cases c1:i=0
  ·subst c1;rw[hset_same] at hk;cases hk
  ·rw[hset_ne _ _ c1] at hk;exact hk
 refine⟨⟨h.head.set _ _,hset_same _ _ _,by rw[hset_ne _ _ (by omega)];exact h.h1,fun l hl=>by rw[hset_ne _ _ (by omega)];exact h.hu l hl,fun l s hl hs=>by rw[hset_ne _ _ (by omega)];exact own _ _ (by omega) (h.slot l s hl hs),by rw[hset_ne _ _ (by omega)];exact own _ _ (by omega) h.far,h.map.of_block (hf.block M h.map.lt h.BM),fun i j hi hj hij k hk hk2=>h.inj i j hi hj hij k (rows i hi k hk) (rows j hj k hk2),h.ub,ht,h.lowB,h.lowM⟩,fun k hk=>?_⟩;rcases hk with hk|hk|⟨i,hi,hk⟩
 ·exact .inl hk
 ·exact .inr (.inl hk)
 ·exact .inr (.inr ⟨i,hi,rows i hi k hk⟩)
def ReachIs(w:World)(B M base now thn n:Nat)(hd:Nat->Value)(u:Nat->Nat)(c:Nat->Nat->List Ent)(far:List Ent)(f:Int->Option Int)(r:Ending)(w':World):Prop:=
 ∃k v hd',k<=far.length/\r=.returned v/\OwnF w' w.heap.size v (metL now thn u c 4++far.take k)/\WhA w' B M base hd' thn (fun l=>clr (u l) (msk now thn l)) (cT now thn u c) (far.drop k) f n/\Fr (fun k=>k=B) w w'/\(∀j,foot B M hd' j->foot B M hd j)/\(∀j,rowB v=some j->w.heap.size<=j)/\
  (∀i (hi:i<far.length),i<k->far[i].1<=((thn ||| 16777215:Nat):Int))/\∀h:k<far.length,((thn ||| 16777215:Nat):Int)<far[k].1
theorem metL_len(now thn:Nat)(u:Nat->Nat)(c:Nat->Nat->List Ent){p q:Nat}(h:p<=q):(metL now thn u c p).length<=(metL now thn u c q).length:=by
 induction q with
 | zero=>rw[show p=0 by omega];exact le_refl _
 | succ q ih=>
  by_cases e:p=q+1
  ·rw[e];exact le_refl _
  ·rw[metL,length_append];have:=ih (by omega);omega
theorem foot_hset262{v':Value}(hr:∀k,rowB v'=some k->rowB (hd 262)=some k):∀k,foot B M (hset hd 262 v') k->foot B M hd k:=by
 intro k hk;rcases hk with hk|hk|⟨i,hi,hk⟩
 ·exact .inl hk
 ·exact .inr (.inl hk)
 ·by_cases c3:i=262
  ·subst c3;rw[hset_same] at hk
   exact .inr (.inr ⟨_,hi,hr k hk⟩)
  ·rw[hset_ne _ _ c3] at hk;exact .inr (.inr ⟨i,hi,hk⟩)
theorem takeL_len(c:Nat->List Ent)(m:Nat){p q:Nat}(h:p<=q):(takeL c m p).length<=(takeL c m q).length:=by
 induction q with
 | zero=>rw[show p=0 by omega];exact le_refl _
 | succ q ih=>
  by_cases e:p=q+1
  ·rw[e];exact le_refl _
  ·rw[takeL_succ,length_append];have:=ih (by omega);omega
theorem reach_any(h:WhA w B M base hd now u c far f n){thn:Nat}(ht:thn<B64)(hl:(metL now thn u c 4).length+far.length<=100000)(hT:TabW w)(hT0:1<base) :
  Calls Tryz.prog 122 #[.pointer (some ⟨B,0,none⟩),.int .u64 thn] w (ReachIs w B M base now thn n hd u c far f):=by
 have pa:=passed_any now thn h.nb ht w;have c0:=h.head.cell (k:=0) (by omega);rw[h.h0] at c0;have H:Aside (WhA w B M base hd now u c far f n):=h;have MK:Aside (∀l,msk now thn l<B64):=msk_lt now thn;obtain⟨m,hm⟩:∃m:Nat->Nat,m=msk now thn:=⟨_,rfl⟩;have HM:Hid (m=msk now thn):=hm;rw[<-hm] at pa;have hB0:1<B:=by have:=h.lowB;omega
 have hs0:1<w.heap.size:=by have:=h.head.lt;omega
 have TB:Aside (∀W,Fr (fun k=>k=B) w W->TabW W):=fun W hW j hj=>by
  have:=hT j hj;rw[<-this];exact World.cell?_of_block (hW.block 1 hs0 (by omega))
 have RT:Aside (∀(W:World)(hd1:Nat->Value)(p:Nat),p<4->WhA W B M base hd1 now (uLv now thn u p) (cLv now thn u c p) far f n->Fr (fun k=>k=B) w W->Calls Tryz.prog 178 #[.pointer (some ⟨B,2+p*65,none⟩),.int .u64 ((m p:Nat):Int)] W (TakeIs W B (2+p*65) base (u p) (m p) hd1 (c p))):=by
  intro W hd1 p hp hw hf;have q1:=hw.hu p hp;rw[uLv_at] at q1;have q2:=hw.slot p;simp only[cLv_at] at q2;refine rtake_any B (2+p*65) base (u p) (m p) hd1 (c p) W hw.head (by omega) q1 (H.out.ub p hp) (by rw[HM.out];exact MK.out p) (fun s hs=>q2 s hp hs) (fun q hq=>?_) (TB.out W hf) (by have:=hf.size;omega) hB0;have l1:=takeL_len (c p) (u p &&& m p) hq;have l2:=metL_len now thn u c (show p+1<=4 by omega);rw[metL,length_append] at l2;rw[HM.out] at l1⊢;omega
 have i0:∀(a b d e:Int)(W:World),(Instr.index 272 (.agg #[.int .u64 a,.int .u64 b,.int .u64 d,.int .u64 e]) (.int .i64 0)).run Tryz.prog W=.ok (.int .u64 a) W:=fun _ _ _ _ _=>by kernel_rfl
 have i1:∀(a b d e:Int)(W:World),(Instr.index 272 (.agg #[.int .u64 a,.int .u64 b,.int .u64 d,.int .u64 e]) (.int .i64 1)).run Tryz.prog W=.ok (.int .u64 b) W:=fun _ _ _ _ _=>by kernel_rfl
 have i2:∀(a b d e:Int)(W:World),(Instr.index 272 (.agg #[.int .u64 a,.int .u64 b,.int .u64 d,.int .u64 e]) (.int .i64 2)).run Tryz.prog W=.ok (.int .u64 d) W:=fun _ _ _ _ _=>by kernel_rfl
 have i3:∀(a b d e:Int)(W:World),(Instr.index 272 (.agg #[.int .u64 a,.int .u64 b,.int .u64 d,.int .u64 e]) (.int .i64 3)).run Tryz.prog W=.ok (.int .u64 e) W:=fun _ _ _ _ _=>by kernel_rfl
 have idx0:∀(p:Nat) W,p<4->(Instr.index 272 (.agg #[.int .u64 (m 0:Nat),.int .u64 (m 1:Nat),.int .u64 (m 2:Nat),.int .u64 (m 3:Nat)]) (.int .i64 p)).run Tryz.prog W=.ok (.int .u64 (m p:Nat)) W:=fun p W hp=>by
  have:p=0\/p=1\/p=2\/p=3:=by omega
  rcases this with rfl|rfl|rfl|rfl
  ·exact i0 _ _ _ _ W
  ·exact i1 _ _ _ _ W
  ·exact i2 _ _ _ _ W
  ·exact i3 _ _ _ _ W
 clear i0 i1 i2 i3;have idx:Aside (∀(p:Nat) W,p<4->(Instr.index 272 (.agg #[.int .u64 (m 0:Nat),.int .u64 (m 1:Nat),.int .u64 (m 2:Nat),.int .u64 (m 3:Nat)]) (.int .i64 p)).run Tryz.prog W=.ok (.int .u64 (m p:Nat)) W):=idx0;clear idx0;obtain⟨S,hS⟩:∃S,w.heap.size=S:=⟨_,rfl⟩;have HL:Aside ((metL now thn u c 4).length+far.length<=100000):=hl;have ht2:Aside (thn<B64):=ht;clear h hT hl ht hm;go_enter Tryz.func122,Tryz.ntmps122
 go_wp2_with (go_at_call 177;refine pa.mono ?_;rintro e w1 ⟨rfl,b1⟩)
 have B1:Aside (Below w.heap.size w w1):=b1;clear b1 pa
 go_loopg [5,6,7,14] 4 (fun kx s5 s6 s7 s14 wr=>∃(p:Nat)(va:Option Addr)(vn vc:Nat)(hd1:Nat->Value),s14=.int .i64 p/\s5=.slice va vn vc/\p<=4/\4-p<=kx/\Aside (WhA wr B M base hd1 now (uLv now thn u p) (cLv now thn u c p) far f n)/\Aside (OwnF wr S (.slice va vn vc) (metL now thn u c p))/\Aside (Fr (fun k=>k=B) w wr/\(∀j,foot B M hd1 j->foot B M hd j)/\∀k,rowB (.slice va vn vc)=some k->S<=k))
 case atStart=>
  refine⟨0,none,0,0,hd,rfl,rfl,by omega,by omega,?_,OwnF.nil _ _,⟨Fr.below B1.out,fun _ h=>h,fun k hk=>by cases hk⟩⟩;show WhA _ _ _ _ _ _ _ _ _ _ _;rw[uLv_zero,cLv_zero];exact H.out.fr (Fr.below (X:=fun _=>False) B1.out) (fun _ _=>id)
 case round=>
  obtain⟨p,va,vn,vc,hd1,rfl,rfl,hp,hkx,WA,OV,FR⟩:=hrel;by_cases hlt:p<4
  ·have hz:(p:Int)<4:=by omega
   have ix:=fun W=>idx.out p W hlt;have rt:=RT.out wr hd1 p hlt WA.out FR.out.1;obtain⟨mp,hmp⟩:∃x,m p=x:=⟨_,rfl⟩;rw[hmp] at rt ix;have HMP:Hid (m p=mp):=hmp;clear hmp
   go_wp2_with fail
   refine rt.mono ?_;rintro e w2 ⟨v2,rfl,t1,t2,t3,t4⟩;have mpe:mp=msk now thn p:=by rw[<-HMP.out,HM.out]
   have wa2:WhA w2 B M base (hset (hdT hd1 (2+p*65) (u p &&& mp) 64) (2+p*65) (.int .u64 ((clr (u p) mp:Nat):Int))) now (uLv now thn u (p+1)) (cLv now thn u c (p+1)) far f n/\∀k,foot B M (hset (hdT hd1 (2+p*65) (u p &&& mp) 64) (2+p*65) (.int .u64 ((clr (u p) mp:Nat):Int))) k->foot B M hd1 k:=by
    have e1:=uLv_at now thn u p;have:=WA.out.takeSet (l:=p) (mk:=mp) hlt (w':=w2) (by rw[e1];exact t1) t3;rw[mpe] at this;rw[uLv_step,cLv_step,e1] at this;rw[mpe];exact this
   obtain⟨pa2,pc2,e2,-,-,-,hL2⟩:=t2.isL;obtain⟨pn2,hpn2⟩:∃n,(takeL (c p) (u p &&& mp) 64).length=n:=⟨_,rfl⟩;rw[hpn2] at e2;subst e2;have nB:rowB (.slice va vn vc)≠some B:=fun e=>by have:=FR.out.2.2 B e;have:=H.out.head.lt;omega
   have ov2:OwnF w2 S (.slice va vn vc) (metL now thn u c p):=OV.out.fr t3 (fun k hk hx=>nB (by rw[hk,hx]))
   have hlen:(metL now thn u c p).length+(takeL (c p) (u p &&& mp) 64).length<=100000:=by
    have l2:=metL_len now thn u c (show p+1<=4 by omega);rw[metL,length_append,<-mpe] at l2;have:=HL.out;omega
   have sz2:S<=w2.heap.size:=by have:=FR.out.1.size;have:=t3.size;omega
   obtain⟨v3,w3,hr,o3,g3,n3⟩:=appF ov2 hL2 (by omega) sz2 39;rw[hpn2] at hr;obtain⟨pa3,pc3,e3,-⟩:=o3.isL;obtain⟨pn3,hpn3⟩:∃n,(metL now thn u c p++takeL (c p) (u p &&& mp) 64).length=n:=⟨_,rfl⟩;rw[hpn3] at e3;subst e3;have x3:Fr (fun k=>rowB (.slice va vn vc)=some k) w2 w3:=Fr.of_grown g3
   have N1:Aside (WhA w3 B M base (hset (hdT hd1 (2+p*65) (u p &&& mp) 64) (2+p*65) (.int .u64 ((clr (u p) mp:Nat):Int))) now (uLv now thn u (p+1)) (cLv now thn u c (p+1)) far f n):=wa2.1.fr x3 (fun k hk hx=>by
    have h1:=FR.out.2.2 k hx;have h2:=(H.out.footLt (FR.out.2.1 k (wa2.2 k hk))).2;omega)
   have N2:Aside (OwnF w3 S (.slice pa3 pn3 pc3) (metL now thn u c (p+1))):=by
    show OwnF _ _ _ _;rw[metL,<-mpe];exact o3
   have N3:Aside (Fr (fun k=>k=B) w w3/\(∀j,foot B M (hset (hdT hd1 (2+p*65) (u p &&& mp) 64) (2+p*65) (.int .u64 ((clr (u p) mp:Nat):Int))) j->foot B M hd j)/\∀k,rowB (.slice pa3 pn3 pc3)=some k->S<=k):=by
    refine⟨(FR.out.1.trans t3 (fun j hj=>.inl hj)).trans x3 (fun j hj=>.inr (by rw[hS];exact FR.out.2.2 j hj)),fun j hj=>FR.out.2.1 j (wa2.2 j hj),fun k hk=>?_⟩;rcases n3 k hk with x|x
    ·exact FR.out.2.2 k x
    ·omega
   clear WA OV FR t1 t2 t3 t4 wa2 hL2 nB ov2 hlen o3 g3 n3 x3 rt ix hpn2 hpn3 mpe
   go_wp2_with (at_builtin;refine Lib.wpList_append_run w2 rfl _ _ 39 39 rfl _ _ rfl rfl _ w3 hr ?_)
   go_roundg (4-(p+1))
   case measure=>omega
   case rel=>exact⟨p+1,pa3,pn3,pc3,_,by go_num,rfl,by omega,le_refl _,N1,N2,N3⟩
  ·obtain rfl:p=4:=by omega
   have wa0:WhA wr B M base hd1 now (fun l=>clr (u l) (msk now thn l)) (cT now thn u c) far f n:=WA.out.lists (fun l hl=>by unfold uLv;rw[if_pos hl]) (fun l s hl=>by unfold cLv;rw[if_pos hl]);have c5:=wa0.head.cell (k:=0) (by omega);rw[wa0.h0] at c5;have f5:=wa0.head.frozen 0;have bB:=wa0.head.lt;obtain⟨wa1,ft1⟩:=wa0.nowSet ht2.out;obtain⟨w2,hw2⟩:∃w2,wr.setCell ⟨B,0,none⟩ (.int .u64 thn)=w2:=⟨_,rfl⟩;have HW2:Hid _:=hw2;rw[hw2] at wa1;have x2:Fr (fun k=>k=B) wr w2:=by rw[<-hw2];exact Fr.setCell (fun k=>k=B) _ _ _ _ rfl
   have nr:=near_any wa1 (by have:=HL.out;omega);have NR:Aside (Calls Tryz.prog 179 #[.pointer (some ⟨B,0,none⟩)] w2 (NearIs w2 B M base thn n (hset hd1 0 (.int .u64 thn)) (fun l=>clr (u l) (msk now thn l)) (cT now thn u c) far f)):=nr;have nB:rowB (.slice va vn vc)≠some B:=fun e=>by have:=FR.out.2.2 B e;have:=H.out.head.lt;omega
   have ov2:Aside (OwnF w2 S (.slice va vn vc) (metL now thn u c 4)):=OV.out.fr x2 (fun k hk hx=>nB (by rw[hk,hx]));have FR2:Aside (Fr (fun k=>k=B) w w2/\(∀j,foot B M (hset hd1 0 (.int .u64 thn)) j->foot B M hd j)/\(∀k,rowB (.slice va vn vc)=some k->S<=k)/\rowB (.slice va vn vc)≠some B):=⟨FR.out.1.trans x2 (fun j hj=>.inl hj),fun j hj=>FR.out.2.1 j (ft1 j hj),FR.out.2.2,nB⟩;clear WA OV FR wa0 wa1 ft1 x2 nr nB hw2
   go_wp2_with fail
   rw[HW2.out];refine NR.out.mono ?_;rintro e w3 ⟨k,a3,cap3,v3,hk,rfl,l3,wa3,x3,r3,k1,k2⟩;have ov3:OwnF w3 S (.slice va vn vc) (metL now thn u c 4):=ov2.out.fr x3 (fun j hj hx=>FR2.out.2.2.2 (by rw[hj,hx]));have hkl:(far.take k).length=k:=by simp;omega
   have sz3:S<=w3.heap.size:=by have:=FR2.out.1.size;have:=x3.size;omega
   obtain⟨v4,w4,hr,o4,g4,n4⟩:=appF ov3 l3 (by have:=HL.out;omega) sz3 39;rw[hkl] at hr;have x4:Fr (fun j=>rowB (.slice va vn vc)=some j) w3 w4:=Fr.of_grown g4;have ft:∀j,foot B M (hset (hset hd1 0 (.int .u64 thn)) 262 v3) j->foot B M hd j:=fun j hj=>FR2.out.2.1 j (foot_hset262 r3 j hj)
   have FIN:Aside (ReachIs w B M base now thn n hd u c far f (.returned v4) w4):=by
    refine⟨k,v4,_,hk,rfl,by rw[hS];exact o4,wa3.fr x4 (fun j hj hx=>?_),(FR2.out.1.trans x3 (fun j hj=>.inl hj)).trans x4 (fun j hj=>.inr (by rw[hS];exact FR2.out.2.2.1 j hj)),ft,fun j hj=>?_,k1,k2⟩
    ·have h1:=FR2.out.2.2.1 j hx;have h2:=(H.out.footLt (ft j hj)).2;omega
    ·rcases n4 j hj with x|x
     ·rw[hS];exact FR2.out.2.2.1 j x
     ·rw[hS];omega
   clear ov3 hkl o4 g4 n4 x4 ft wa3 x3 r3 k1 k2 l3 FR2 ov2 NR
   go_wp2_with (at_builtin;refine Lib.wpList_append_run w3 rfl _ _ 39 39 rfl _ _ rfl rfl _ w4 hr ?_)
   go_ret;exact FIN.out
end
section
def dueL(thn:Nat)(d:List Ent):List Ent:=d.filter (fun x=>decide (x.1<=(thn:Int)))
def restL(thn:Nat)(d:List Ent):List Ent:=d.filter (fun x=>decide ((thn:Int)<x.1))
theorem mem_due{thn:Nat}{d:List Ent}{x:Ent}:x∈dueL thn d↔x∈d/\x.1<=(thn:Int):=by unfold dueL;simp
theorem mem_rest{thn:Nat}{d:List Ent}{x:Ent}:x∈restL thn d↔x∈d/\(thn:Int)<x.1:=by unfold restL;simp
structure AdvI(w:World)(B M base now thn:Nat)(T met:List Ent)(F:Nat->Prop)(mv:Value)(j:Nat)(dv:Value)(hd:Nat->Value)(u:Nat->Nat)(c:Nat->Nat->List Ent)(far:List Ent)(f:Int->Option Int)(n:Nat)(W:World):Prop where
 wa:WhA W B M base hd thn u c far f n
 wl:WhL thn u c far (fun x=>(x∈T/\¬taken now thn x)\/(x∈met.take j/\(thn:Int)<x.1))
 mp:∀i v,f i=some v↔(v,i)∈T/\¬((v,i)∈met.take j/\v<=(thn:Int))
 cnt:n+(dueL thn (met.take j)).length=T.length
 due:OwnF W w.heap.size dv (dueL thn (met.take j))
 met:OwnF W w.heap.size mv met
 fr:Fr F w W
 ft:∀k,foot B M hd k->F k\/w.heap.size<=k
 rm:∀k,rowB mv=some k->w.heap.size<=k/\¬foot B M hd k
 rd:∀k,rowB dv=some k->w.heap.size<=k/\¬foot B M hd k/\rowB mv≠some k
variable {w:World}{B M base now thn:Nat}{T met:List Ent}{F:Nat->Prop}{mv:Value}{j:Nat}{dv:Value}{hd:Nat->Value}{u:Nat->Nat}{c:Nat->Nat->List Ent}{far:List Ent}{f:Int->Option Int}{n:Nat}{W W':World}
theorem AdvI.below(h:AdvI w B M base now thn T met F mv j dv hd u c far f n W)(hw:Below W.heap.size W W'):AdvI w B M base now thn T met F mv j dv hd u c far f n W':=
 ⟨h.wa.fr (Fr.below (X:=fun _=>False) hw) (fun _ _=>id),h.wl,h.mp,h.cnt,h.due.below hw,h.met.below hw,h.fr.trans (Fr.below (X:=fun _=>False) hw) (fun k hk=>hk.elim),h.ft,h.rm,h.rd⟩
theorem take_mem{met:List Ent}(hn:met.Nodup){j:Nat}(hj:j<met.length)(x:Ent):x∈met.take (j+1)↔x∈met.take j\/x=met[j]:=by
 rw[List.take_succ_eq_append_getElem hj,List.mem_append,List.mem_singleton]
theorem not_take{met:List Ent}(hn:met.Nodup){j:Nat}(hj:j<met.length):met[j]∉met.take j:=fun hx=>by
 obtain⟨i,hi,e⟩:=List.getElem_of_mem hx;rw[List.length_take] at hi;rw[List.getElem_take] at e;exact List.pairwise_iff_getElem.1 hn i j (by omega) hj (by omega) e
theorem AdvI.put(h:AdvI w B M base now thn T met F mv j dv hd u c far f n W)(hn:met.Nodup)(hm:∀x,x∈met↔x∈T/\taken now thn x)(hj:j<met.length){D:Nat}(hD:met[j].1=(D:Int))(hDb:D<B64)(hlt:thn<D)
  (hP:WGo W B M base hd thn f n (PutP thn D met[j] u c far) W'):∃hd' u' c' far',AdvI w B M base now thn T met F mv (j+1) dv hd' u' c' far' f n W':=by
 obtain⟨hd',u',c',far',q1,q2,q3,q4⟩:=hP;have hx:=(hm _).1 (List.getElem_mem hj)
 have nS:¬((met[j]∈T/\¬taken now thn met[j])\/(met[j]∈met.take j/\(thn:Int)<met[j].1)):=by
  rintro(⟨_,h2⟩|⟨h1,_⟩)
  ·exact h2 hx.2
  ·exact not_take hn hj h1
 have hdl:dueL thn (met.take (j+1))=dueL thn (met.take j):=by
  rw[List.take_succ_eq_append_getElem hj];unfold dueL;rw[List.filter_append];have:¬met[j].1<=(thn:Int):=by omega
  simp[this]
 have hs:w.heap.size<=W.heap.size:=h.fr.size;refine⟨hd',u',c',far',q1,(h.wl.put q2 hD hDb nS).congr (fun x=>?_),fun i v=>?_,by rw[hdl];exact h.cnt,?_,?_,h.fr.trans q3 h.ft,fun k hk=>?_,fun k hk=>⟨(h.rm k hk).1,fun hf=>?_⟩,fun k hk=>⟨(h.rd k hk).1,fun hf=>?_,(h.rd k hk).2.2⟩⟩
 ·rw[take_mem hn hj];constructor
  ·rintro((h1|h1)|rfl)
   ·exact .inl h1
   ·exact .inr ⟨.inl h1.1,h1.2⟩
   ·exact .inr ⟨.inr rfl,by omega⟩
  ·rintro(h1|⟨h1|h1,h2⟩)
   ·exact .inl (.inl h1)
   ·exact .inl (.inr ⟨h1,h2⟩)
   ·exact .inr h1
 ·rw[h.mp,take_mem hn hj];constructor
  ·rintro⟨h1,h2⟩;refine⟨h1,?_⟩;rintro⟨h3|h3,h4⟩
   ·exact h2 ⟨h3,h4⟩
   ·have:v=(D:Int):=by rw[<-hD,<-h3]
    omega
  ·rintro⟨h1,h2⟩;exact⟨h1,fun h3=>h2 ⟨.inl h3.1,h3.2⟩⟩
 ·rw[hdl];exact h.due.fr q3 (fun k hk=>(h.rd k hk).2.1)
 ·exact h.met.fr q3 (fun k hk=>(h.rm k hk).2)
 ·rcases q4 k hk with x|x
  ·exact h.ft k x
  ·right;omega
 ·rcases q4 k hf with x|x
  ·exact(h.rm k hk).2 x
  ·have:=(h.met.rowLt hk).2;omega
 ·rcases q4 k hf with x|x
  ·exact(h.rd k hk).2.1 x
  ·have:=(h.due.rowLt hk).2;omega
theorem AdvI.tell(h:AdvI w B M base now thn T met F mv j dv hd u c far f n W)(hn:met.Nodup)(hm:∀x,x∈met↔x∈T/\taken now thn x)(hids:(T.map Prod.snd).Nodup)(hj:j<met.length)(hle:met[j].1<=(thn:Int)){W1 W2 W3:World}{m:Nat}{dv':Value}(hnm:n=m+1)
  (hmap:DuM W1 M (fdel f met[j].2) m) (hg:W.grownBy W1 (some M)) (hb:Below W1.heap.size W1 W2) (ho:OwnF W3 w.heap.size dv' (dueL thn (met.take j)++[met[j]])) (hg3:W2.grownBy W3 (rowB dv)) (hr:∀k,rowB dv'=some k->rowB dv=some k\/W2.heap.size<=k) :
  AdvI w B M base now thn T met F mv (j+1) dv' hd u c far (fdel f met[j].2) m W3:=by
 have hx:=(hm _).1 (List.getElem_mem hj);have fM:Fr (fun k=>k=M) W W1:=(Fr.of_grown hg).mono (fun i hi=>by injection hi with hi;exact hi.symm);have wa1:=h.wa.mapSet hmap hg;have wa2:WhA W2 B M base hd thn u c far (fdel f met[j].2) m:=wa1.fr (Fr.below (X:=fun _=>False) hb) (fun _ _=>id);have f3:Fr (fun k=>rowB dv=some k) W2 W3:=Fr.of_grown hg3;have f12:Fr (fun k=>k=M) W W2:=fM.trans (Fr.below (X:=fun _=>False) hb) (fun k hk=>hk.elim);have hs:w.heap.size<=W.heap.size:=h.fr.size;have hs2:W.heap.size<=W2.heap.size:=f12.size
 have hdl:dueL thn (met.take (j+1))=dueL thn (met.take j)++[met[j]]:=by
  rw[List.take_succ_eq_append_getElem hj];unfold dueL;rw[List.filter_append];simp[hle]
 refine⟨wa2.fr f3 (fun k hk hx=>(h.rd k hx).2.1 hk),h.wl.congr (fun x=>?_),fun i v=>?_,by rw[hdl,length_append];have:=h.cnt;simp;omega,by rw[hdl];exact ho,?_,(h.fr.trans f12 (fun k hk=>by rw[hk];exact h.ft M (.inr (.inl rfl)))).trans f3 (fun k hk=>.inr (h.rd k hk).1),h.ft,h.rm,fun k hk=>?_⟩
 ·rw[take_mem hn hj];constructor
  ·rintro(h1|h1)
   ·exact .inl h1
   ·exact .inr ⟨.inl h1.1,h1.2⟩
  ·rintro(h1|⟨h1|h1,h2⟩)
   ·exact .inl h1
   ·exact .inr ⟨h1,h2⟩
   ·rw[h1] at h2;omega
 ·unfold fdel;by_cases e:i=met[j].2
  ·rw[if_pos e];constructor
   ·intro h1;cases h1
   ·rintro⟨h1,h2⟩;have h3:=ids_inj hids h1 hx.1 e;exact absurd ⟨(take_mem hn hj _).2 (.inr h3),by rw[show v=met[j].1 by rw[<-h3]];exact hle⟩ h2
  ·rw[if_neg e,h.mp,take_mem hn hj];constructor
   ·rintro⟨h1,h2⟩;refine⟨h1,?_⟩;rintro⟨h3|h3,h4⟩
    ·exact h2 ⟨h3,h4⟩
    ·exact e (by rw[<-h3])
   ·rintro⟨h1,h2⟩;exact⟨h1,fun h3=>h2 ⟨.inl h3.1,h3.2⟩⟩
 ·have m2:OwnF W2 w.heap.size mv met:=h.met.fr f12 (fun k hk e=>(h.rm k hk).2 (by rw[e];exact .inr (.inl rfl)));exact m2.fr f3 (fun k hk hx=>(h.rd k hx).2.2 hk)
 ·rcases hr k hk with x|x
  ·exact h.rd k x
  ·refine⟨by omega,fun hf=>?_,fun hf=>?_⟩
   ·have:=(wa2.footLt hf).2;omega
   ·have:=(h.met.rowLt hf).2;omega
theorem AdvI.start{w:World}{k:Nat}{T:List Ent}{mv:Value}{hd0 hd:Nat->Value}{u:Nat->Nat}{c:Nat->Nat->List Ent}{far:List Ent}{f:Int->Option Int}{u1:Nat->Nat}{c1:Nat->Nat->List Ent}{far1:List Ent}
  (wa:WhA W B M base hd thn u1 c1 far1 f T.length) (wl:WhL thn u1 c1 far1 (fun x=>x∈T/\¬taken now thn x)) (hm:∀i v,f i=some v↔(v,i)∈T) (ho:OwnF W w.heap.size mv met) (hf:Fr (fun k=>k=B) w W) (h0:WhA w B M base hd0 now u c far f T.length) (hft:∀k,foot B M hd k->foot B M hd0 k) (hr:∀k,rowB mv=some k->w.heap.size<=k) (hF:∀k,F k↔foot B M hd0 k) :
  AdvI w B M base now thn T met F mv 0 (.slice none 0 0) hd u1 c1 far1 f T.length W:=by
 have ff:∀k,foot B M hd k->F k:=fun k hk=>(hF k).2 (hft k hk);refine⟨wa,wl.congr (fun x=>?_),fun i v=>?_,by simp[dueL],by simp[dueL];exact OwnF.nil _ _,ho,hf.mono (fun k hk=>by rw[hk];exact(hF B).2 (.inl rfl)),fun k hk=>.inl (ff k hk),fun k hk=>⟨hr k hk,fun h=>?_⟩,fun k hk=>by cases hk⟩
 ·simp
 ·rw[hm];simp
 ·have:=(h0.footLt (hft k h)).2;have:=hr k hk;omega
end
theorem below_drewN(w:World)(n:Nat):Below w.heap.size w (w.drewN n):=⟨rfl,rfl,rfl,le_refl _,fun _ _=>rfl⟩
section
section
variable {now:Nat}{u:Nat->Nat}{c:Nat->Nat->List Ent}{far:List Ent}{T:List Ent}
theorem plc_slot(now e:Nat):(plc now e).2<64:=by
 unfold plc slt;exact Nat.mod_lt _ (by decide)
end
end
section
def accL(c:Nat->Nat->List Ent)(far:List Ent):Nat->List Ent
 | 0=>far
 | m+1=>accL c far m++c (m/64) (m%64)
section
variable {now:Nat}{u:Nat->Nat}{c:Nat->Nat->List Ent}{far:List Ent}{T:List Ent}
theorem accL_mem(c:Nat->Nat->List Ent)(far:List Ent)(x:Ent):∀m,x∈accL c far m↔x∈far\/∃i,i<m/\x∈c (i/64) (i%64)
 | 0=>by simp[accL]
 | m+1=>by
  rw[accL,List.mem_append,accL_mem c far x m];constructor
  ·rintro((h|⟨i,h1,h2⟩)|h)
   ·exact .inl h
   ·exact .inr ⟨i,by omega,h2⟩
   ·exact .inr ⟨m,by omega,h⟩
  ·rintro(h|⟨i,h1,h2⟩)
   ·exact .inl (.inl h)
   ·by_cases e:i=m
    ·subst e;exact .inr h2
    ·exact .inl (.inr ⟨i,by omega,h2⟩)
theorem WhL.accN(h:WhL now u c far (fun x=>x∈T)):∀m,m<=256->(accL c far m).Nodup/\∀x∈accL c far m,x∈T
 | 0,_=>⟨h.farN,fun x hx=>((h.farM x).1 hx).1⟩
 | m+1,hm=>by
  obtain⟨h1,h2⟩:=h.accN m (by omega);have hl:m/64<4:=by omega
  have hs:m%64<64:=by omega
  rw[accL];refine⟨List.nodup_append.2 ⟨h1,h.slotN _ _ hl hs,fun a ha b hb e=>?_⟩,fun x hx=>?_⟩
  ·subst e;obtain⟨_,p1⟩:=(h.slotM _ _ hl hs a).1 hb;rcases (accL_mem c far a m).1 ha with q|⟨i,q1,q2⟩
   ·have:=((h.farM a).1 q).2;rw[p1] at this;simp only at this;omega
   ·obtain⟨_,p2⟩:=(h.slotM _ _ (by omega) (by omega) a).1 q2;rw[p1] at p2;injection p2 with e1 e2
    omega
  ·rcases List.mem_append.1 hx with q|q
   ·exact h2 x q
   ·exact((h.slotM _ _ hl hs x).1 q).1
theorem WhL.accAll(h:WhL now u c far (fun x=>x∈T))(hT:TOk T):sortE (accL c far 256)=T:=by
 obtain⟨h1,h2⟩:=h.accN 256 (le_refl _);refine(sortE_of hT.srt (perm_of_mem (nodup_of_ids hT.ids) h1 (fun x=>⟨fun hx=>?_,h2 x⟩))).symm;rw[accL_mem];by_cases hc:(plc now x.1.toNat).1<4
 ·right
  have hs:=plc_slot now x.1.toNat;refine⟨(plc now x.1.toNat).1*64+(plc now x.1.toNat).2,by omega,?_⟩;rw[show((plc now x.1.toNat).1*64+(plc now x.1.toNat).2)/64=(plc now x.1.toNat).1 by omega,show((plc now x.1.toNat).1*64+(plc now x.1.toNat).2)%64=(plc now x.1.toNat).2 by omega];exact(h.slotM _ _ hc hs x).2 ⟨hx,rfl⟩
 ·left
  exact(h.farM x).2 ⟨hx,by omega⟩
end
def slotsV(hd:Nat->Value)(l:Nat):List Value:=(List.range 64).map (fun s=>hd (2+l*65+1+s))
theorem slotsV_at(hd:Nat->Value)(l:Nat){s:Nat}(hs:s<64):(slotsV hd l)[s]?=some (hd (2+l*65+1+s)):=by
 unfold slotsV;rw[List.getElem?_map,List.getElem?_range hs]
 rfl
theorem idx_any(hd:Nat->Value)(l:Nat){s:Nat}(hs:s<64){a:Option Addr}{n cap:Nat}(e:hd (2+l*65+1+s)=.slice a n cap)(w:World):(Instr.index 171 (.agg (slotsV hd l).toArray) (.int .i64 (s:Int))).run Tryz.prog w=.ok (.slice a n cap) w:=by
 have hn:(0:Int)<=(s:Int)/\(s:Int)<64:=by omega
 have hg:=slotsV_at hd l hs;rw[e] at hg;simp[Instr.index,run_underlying Tryz.underlying171,asIntOf,hn,hg,go_sem];intro h;omega
end
theorem slots_range{hd:Nat->Value}{w:World}{B l:Nat}(h:Hd w B hd)(hl:l<4):w.rangeAt B (2+l*65+1) (slotsV hd l):=fun j v hj=>by
 have hj64:j<64:=by
  have:=(List.getElem?_eq_some_iff.1 hj).1;simpa [slotsV] using this
 rw[slotsV_at hd l hj64] at hj;rw[<-hj];exact h.cell (k:=2+l*65+1+j) (by omega)
theorem all_any{w:World}{F:Nat->Prop}{B base now:Nat}{T:List Ent}(h:Whl w F B base now T) :
  Calls Tryz.prog 56 #[.pointer (some ⟨B,0,none⟩)] w fun e w'=>∃v,e=.returned v/\OwnF w' w.heap.size v T/\Below w.heap.size w w':=by
 obtain⟨M,hd,u,c,far,f,h1,h2,h3,h4,h5⟩:=h;have cF:=h1.head.cell (k:=262) (by omega);obtain⟨fa,fc,ef,-,-,-,fL⟩:=h1.far.isL;rw[ef] at cF;have fl:far.length<=1000:=len_le h2.farN (fun x hx=>((h2.farM x).1 hx).1) h4.len
 have CL:Aside (Calls Tryz.prog 106 #[.slice fa far.length fc] w fun r w'=>∃a n cap,r=.returned (.slice a n cap)/\OwnF w' w.heap.size (.slice a n cap) (accL c far 0)/\Below w.heap.size w w'):=by
  refine Calls.mono (clone_any (.slice fa far.length fc) base far w (by rw[<-ef];exact h1.far) (by omega)) ?_;rintro e w' ⟨v',rfl,q1,q2,q3⟩;obtain⟨a,cap,rfl,-⟩:=q1.isL;exact⟨a,_,cap,rfl,q1,q2⟩
 have W:Aside (WhA w B M base hd now u c far f T.length/\WhL now u c far (fun x=>x∈T)/\TOk T):=⟨h1,h2,h4⟩;clear h1 h2 h3 h4 h5 fl fL ef;go_enter Tryz.func56,Tryz.ntmps56
 go_wp2_with fail
 refine CL.out.mono ?_;rintro e w1 ⟨a1,n1,c1,rfl,o1,b1⟩;have O1:Aside (OwnF w1 w.heap.size (.slice a1 n1 c1) (accL c far 0)/\Below w.heap.size w w1):=⟨o1,b1⟩;clear o1 b1 CL
 go_wp2_with fail
 go_loopg [3,4,6,12] 4 (fun kx s3 s4 s6 s12 wr=>∃(l:Nat)(a:Option Addr)(n cap:Nat),s12=.int .i64 l/\s3=.slice a n cap/\l<=4/\4-l<=kx/\Aside (OwnF wr w.heap.size (.slice a n cap) (accL c far (l*64))/\Below w.heap.size w wr))
 case atStart=>exact⟨0,a1,n1,c1,rfl,rfl,by omega,by omega,O1⟩
 case round=>
  clear O1;obtain⟨l,a2,n2,c2,rfl,rfl,hl,hkx,O⟩:=hrel;by_cases hlt:l<4
  ·have hz:(l:Int)<4:=by omega
   have rg:wr.rangeAt B (2+l*65+1) (slotsV hd l):=slots_range (W.out.1.head.of_block (O.out.2.block B W.out.1.head.lt)) hlt;have O1:Aside (OwnF wr w.heap.size (.slice a2 n2 c2) (accL c far (l*64+0))/\Below w.heap.size w wr):=O.out;clear O;go_upto_region 5 with fail
   refine wp_region_lit ?_
   iterate 6
    refine wpList_plain rfl (fun K hK=>?_);go_simp
    refine hK _ _ ?_;clear hK K;try simp only[Act.put,sA,sB,sC]
   refine wpList_load_mid rfl 171 _ rfl B (2+l*65+1) rfl (slotsV hd l) _ rg Tryz.underlying171 rfl (by kernel_rfl) ?_;try simp only[Act.put,sA,sB,sC]
   obtain⟨SV,hSV⟩:∃SV,(slotsV hd l).toArray=SV:=⟨_,rfl⟩;rw[hSV];refine wpList_plain rfl (fun K hK=>?_);go_simp
   refine hK _ _ ?_;clear hK K;try simp only[Act.put,sA,sB,sC]
   refine wpList_nil ?_
   have IX:Aside (∀(s:Nat),s<64->∃a n cap,(∀W,(Instr.index 171 (.agg SV) (.int .i64 (s:Int))).run Tryz.prog W=.ok (.slice a n cap) W)/\n=(c l s).length/\IsL w a cap (c l s)):=fun s hs=>by
    obtain⟨a,cap,e,-,-,-,il⟩:=(W.out.1.slot l s hlt hs).isL;exact⟨a,_,cap,fun W=>by rw[<-hSV];exact idx_any hd l hs e W,rfl,il⟩
   clear hSV rg
   go_wp2_with fail
   go_loopg [3,6,22] 64 (fun ky s3 s6 s22 wr=>∃(s:Nat)(a:Option Addr)(n cap:Nat),s22=.int .i64 s/\s3=.slice a n cap/\s<=64/\64-s<=ky/\Aside (OwnF wr w.heap.size (.slice a n cap) (accL c far (l*64+s))/\Below w.heap.size w wr))
   case atStart=>exact⟨0,a2,n2,c2,rfl,rfl,by omega,by omega,O1⟩
   case round=>
    clear O1;obtain⟨s,a3,n3,c3,rfl,rfl,hs,hky,O⟩:=hrel;by_cases hst:s<64
    ·have hzs:(s:Int)<64:=by omega
     obtain⟨xa,xn,xc,ix,hxn,il⟩:=IX.out s hst;have ixw:=ix wr;obtain⟨nd,sub⟩:=W.out.2.1.accN (l*64+s) (by omega);have hal:(accL c far (l*64+s)).length<=1000:=len_le nd sub W.out.2.2.len;have hcl:(c l s).length<=1000:=len_le (W.out.2.1.slotN l s hlt hst) (fun x hx=>((W.out.2.1.slotM l s hlt hst x).1 hx).1) W.out.2.2.len;obtain⟨v',w',hr,o',g',-⟩:=appF O.out.1 (il.below O.out.2) (by omega) O.out.2.size 39;rw[<-hxn] at hr
     have ea:accL c far (l*64+s)++c l s=accL c far (l*64+(s+1)):=by
      show _=accL c far (l*64+s)++c ((l*64+s)/64) ((l*64+s)%64);rw[show(l*64+s)/64=l by omega,show(l*64+s)%64=s by omega]
     rw[ea] at o';have bl:Below w.heap.size w w':=O.out.2.trans ((Fr.of_grown g').toBelow (fun k hk=>(O.out.1.rowLt hk).1) O.out.2.size);obtain⟨pa,pc,e',-⟩:=o'.isL;obtain⟨pn,hpn⟩:∃pn,(accL c far (l*64+(s+1))).length=pn:=⟨_,rfl⟩;rw[hpn] at e';subst e';have O2:Aside (OwnF w' w.heap.size (.slice pa pn pc) (accL c far (l*64+(s+1)))/\Below w.heap.size w w'):=⟨o',bl⟩;clear ix hxn il nd sub hal hcl o' g' ea bl hpn O
     go_wp2_with (at_builtin;refine Lib.wpList_append_run wr rfl _ _ 39 39 rfl _ _ rfl rfl _ w' hr ?_)
     go_roundg (64-(s+1))
     case measure=>omega
     case rel=>exact⟨s+1,pa,pn,pc,by go_num,rfl,by omega,le_refl _,O2⟩
    ·have e0:s=64:=by omega
     subst e0
     have O2:Aside (OwnF wr w.heap.size (.slice a3 n3 c3) (accL c far ((l+1)*64))/\Below w.heap.size w wr):=by
      have:=O.out;rw[show l*64+64=(l+1)*64 by omega] at this;exact this
     clear O IX
     go_wp2_with fail
     go_roundg (4-(l+1))
     case measure=>omega
     case rel=>exact⟨l+1,a3,n3,c3,by go_num,rfl,by omega,le_refl _,O2⟩
  ·have e0:l=4:=by omega
   subst e0;obtain⟨nd,sub⟩:=W.out.2.1.accN 256 (le_refl _);have hal:(accL c far 256).length<=1000:=len_le nd sub W.out.2.2.len
   have ST:Aside (Calls Tryz.prog 107 #[.slice a2 n2 c2,.func (.func 108) #[] #[]] wr fun e w'=>e=.returned (.tuple #[])/\OwnF w' w.heap.size (.slice a2 n2 c2) T/\Below w.heap.size w w'):=by
    refine Calls.mono (sort_any (.slice a2 n2 c2) w.heap.size (accL c far 256) wr O.out.1 (by omega)) ?_;rintro e w' ⟨rfl,q1,q2⟩;rw[W.out.2.1.accAll W.out.2.2] at q1;exact⟨rfl,q1,O.out.2.trans ((Fr.of_grown q2).toBelow (fun k hk=>(O.out.1.rowLt hk).1) O.out.2.size)⟩
   clear nd sub hal O
   go_wp2_with fail
   refine ST.out.mono ?_;rintro e w3 ⟨rfl,q1,q2⟩;clear ST
   go_wp2_with fail
   go_ret;exact⟨_,rfl,q1,q2⟩
end Go.Proofs.YthpgfmmpjoodkaaGreatDoor.Wl
