import Derived.Test.YtkncboinfcnklaaGreatDoorQ9
import Derived.Test.YtkncboinfcnklaaGreatDoorQ6
import Derived.BigRegion
import Derived.Test.YtkncboinfcnklaaGreatDoorShelf2
import Derived.Lib.ItoaLen
set_option maxRecDepth 100000
set_option maxHeartbeats 8000000
namespace Go.Proofs.YtkncboinfcnklaaGreatDoor
open Go.RowKit Go.Deep Go.Proofs.YtkncboinfcnklaaGreatDoor.Mth
theorem pg {α:Type} [DecidableEq α] {x:α}{l:List α}(h:x∈l):ym x l=true:=decide_eq_true h
theorem vM {α:Type} [DecidableEq α] {x:α}{l:List α}(h:ym x l=true):x∈l:=of_decide_eq_true h
theorem vV (es:List Ent) (e:Ent) (x:ByteArray):zV (es++[e]) x es.length=zV es x es.length:=by
 unfold zV;congr 1;apply List.filter_congr;intro i hi
 have:i<es.length:=by simpa using hi
 rw[show(es++[e]).getD i e0=es.getD i e0 by simp[List.getD,List.getElem?_append_left this]]
theorem kj (es:List Ent) (e:Ent) (x:ByteArray):zV (es++[e]) x (es++[e]).length=if ym x (wd e.text)=true then zV es x es.length++[(es.length:Int)] else zV es x es.length:=by
 have hl:(es++[e]).length=es.length+1:=by simp
 have hg:(es++[e]).getD es.length e0=e:=by simp[List.getD]
 rw[hl];by_cases h:ym x (wd e.text)=true
 ·rw[if_pos h,qV (by rw[hg];exact h),vV]
 ·rw[if_neg h,ni (by rw[hg];exact(Bool.not_eq_true _).mp h),vV]
theorem oI:∀ {l m:List Int},l.Pairwise (fun a b:Int=>a<b)→m.Pairwise (fun a b:Int=>a<b)→(∀x,x∈l↔x∈m)→l=m
 | [],[],_,_,_=>rfl
 | [],b::m,_,_,h=>by have:=(h b).2 (by simp);cases this
 | a::l,[],_,_,h=>by have:=(h a).1 (by simp);cases this
 | a::l,b::m,h1,h2,h=>by
  rw[List.pairwise_cons]at h1 h2
  have e:a=b:=by
   have q1:=(h a).1 (by simp);have q2:=(h b).2 (by simp)
   rcases List.mem_cons.1 q1 with q1|q1
   ·exact q1
   ·rcases List.mem_cons.1 q2 with q2|q2
    ·exact q2.symm
    ·have:=h1.1 b q2;have:=h2.1 a q1;omega
  subst e;congr 1
  refine oI h1.2 h2.2 fun x=>⟨fun q=>?_,fun q=>?_⟩
  ·rcases List.mem_cons.1 ((h x).1 (by simp[q]))with e|e
   ·have:=h1.1 x q;omega
   ·exact e
  ·rcases List.mem_cons.1 ((h x).2 (by simp[q]))with e|e
   ·have:=h2.1 x q;omega
   ·exact e
theorem eX {es:List Ent}{x:ByteArray}{S:List Int}(h:bI (fun a b:Int=>a<b) (zV es x es.length) (es.length:Int) S):S=zV es x es.length++[(es.length:Int)]:=by
 refine oI h.1 ?_ (fun y=>by rw[h.2.1 y];simp[or_comm]);rw[List.pairwise_append];refine⟨dh es x,by simp,fun a ha b hb=>?_⟩;obtain⟨j,hj,rfl⟩:=sI ha;simp at hb;omega
def wX (es:List Ent) (ws:List ByteArray) (k:Nat) (x:ByteArray):List Int:=if ym x (ws.take k)=true then zV es x es.length++[(es.length:Int)] else zV es x es.length
theorem fe (s:ByteArray):(wd s).Nodup:=by
 refine List.Pairwise.imp ?_ (yc _).1;intro a b h e;subst e;exact absurd h (List.lt_irrefl _)
theorem ko {es:List Ent}{ws:List ByteArray}{k:Nat}(hk:k<ws.length) (_hn:ws.Nodup):(fun y=>if y=ws.getD k ⟨#[]⟩ then zV es (ws.getD k ⟨#[]⟩) es.length++[(es.length:Int)] else wX es ws k y)=wX es ws (k+1):=by
 funext y;unfold wX;rw[zG hk ⟨#[]⟩];by_cases h:y=ws.getD k ⟨#[]⟩
 ·rw[if_pos h,if_pos (by rw[h];exact pg (by simp)),h]
 ·rw[if_neg h];by_cases h2:y∈ws.take k
  ·rw[if_pos (pg h2),if_pos (pg (by simp[h2]))]
  ·rw[if_neg (fun q=>h2 (vM q)),if_neg (by
    intro q
    rcases List.mem_append.1 (vM q)with q|q
    ·exact h2 q
    ·exact h (by simpa using q))]
theorem ku {es:List Ent}{ws:List ByteArray}{k:Nat}(hk:k<ws.length) (hn:ws.Nodup):wX es ws k (ws.getD k ⟨#[]⟩)=zV es (ws.getD k ⟨#[]⟩) es.length:=by
 unfold wX;rw[if_neg];intro q;obtain⟨j,hj,e⟩:=List.mem_iff_getElem.1 (vM q);rw[List.length_take]at hj;rw[List.getElem_take]at e
 have hk2:ws.getD k ⟨#[]⟩=ws[k]:=by simp[List.getD,hk]
 rw[hk2]at e;exact List.pairwise_iff_getElem.1 hn j k (by omega) hk (by omega) e
theorem kv (es:List Ent) (ws:List ByteArray):wX es ws 0=fun x=>zV es x es.length:=by
 funext x;unfold wX;rw[if_neg];intro q;have:=vM q;simp at this
structure SegStp (w w':World) (B s mb:Nat) (ev:Value) (es':List Ent) (ev':Value):Prop where
 seg:SegAt w' B s es' ev' mb
 tch:Tch (yA s mb ev) w w'
 new:∀g,some g=ev'.ownBlock→some g=ev.ownBlock∨w.heap.size≤g
structure AddIn (w2 wr:World) (B s mb:Nat) (es:List Ent) (ev:Value) (ws:List ByteArray) (k:Nat):Prop where
 tch:Tch (fun g=>g=mb) w2 wr
 blk:wr.heap[s]? = some (Obj.cells #[ev, .map (some mb)] 198 (0,0))
 own:wr.ownsRow B 66 3 ev es.length (es.flatMap eC)
 idx:Idx wr mb (es.length*64+k) (wX es ws k)
theorem zP {S:Nat→Prop}{w w':World}{B:Nat}{W0:World}(hb:Below B W0 w) (h:Tch S w w') (hS:∀k,S k→B≤k) (hB:B≤w.heap.size):Below B W0 w':=
 ⟨h.os.trans hb.os,h.tape.trans hb.tape,h.output.trans hb.output,Nat.le_trans hb.size h.size,fun k hk=>(h.block k (by omega) (fun q=>by have:=hS k q;omega)).trans (hb.block k hk)⟩
theorem cZ {w w2 wr W5:World}{B s mb k:Nat}{es:List Ent}{ev v5:Value}{ws:List ByteArray}{e:Ent}{o:Obj}(h:AddIn w2 wr B s mb es ev ws k) (hg:B≤s∧B≤mb) (hk:k≤64) (hb:Below w.heap.size w w2) (hf:wX es ws k=fun x=>zV (es++[e]) x (es++[e]).length)
  (o5:W5.ownsRow B 66 3 v5 (es.length+1) (es.flatMap eC++eC e)) (g6:(wr.alloc o).grownBy W5 ev.ownBlock) (n5:v5.ownBlock=ev.ownBlock∨v5.ownBlock=some (wr.alloc o).heap.size) :
  SegStp w (W5.setCell ⟨s,0,none⟩ v5) B s mb ev (es++[e]) v5:=by
 have hsr:some s≠ev.ownBlock:=fun q=>by
  obtain⟨_,_,D,hD⟩:=zw h.own q;rw[h.blk]at hD
  injection hD with hD
  injection hD with _ hD _
  exact absurd hD (by decide)
 have hmr:some mb≠ev.ownBlock:=fun q=>by
  obtain⟨_,_,D,hD⟩:=zw h.own q;obtain⟨es',c',hm'⟩:=h.idx.notCells;rw[hm']at hD;cases hD
 have hms:mb≠s:=fun q=>by
  obtain⟨es',c',hm'⟩:=h.idx.notCells;rw[q,h.blk]at hm';cases hm'
 have hbs:=zN g6 h.blk hsr;have hsz:=h.tch.size
 have hsz5:wr.heap.size≤W5.heap.size:=by have:=g6.size;simp at this;omega
 have hfar:∀g,g<wr.heap.size→some g≠ev.ownBlock→g≠s→(W5.setCell ⟨s,0,none⟩ v5).heap[g]? = wr.heap[g]? := fun g hg h1 h2=>by
  rw[zt h2,g6.block g (by simp;omega) h1,Mth.uC wr o (r:=g) hg]
 refine⟨⟨?_,?_,?_,hg⟩,⟨g6.os.trans (h.tch.os.trans hb.os),g6.tape.trans (h.tch.tape.trans hb.tape),g6.output.trans (h.tch.output.trans hb.output),?_,fun g hg hn=>?_⟩,fun g hg=>?_⟩
 ·simp[World.setCell,Array.getElem?_modify,hbs]
 ·refine zl ?_ hbs (by decide)
  simpa [List.flatMap_append] using o5
 ·have hi:Idx (W5.setCell ⟨s,0,none⟩ v5) mb (es.length*64+k) (wX es ws k):=h.idx.same (hfar mb h.idx.lt hmr hms) (fun g hgn=>hfar g (yw hgn) (fun q=>by
    obtain⟨_,_,D,hD⟩:=zw h.own q;obtain⟨C,fr,hC⟩:=hgn;rw[hC]at hD
    injection hD with hD
    injection hD with _ hD _
    exact absurd hD (by decide)) (fun q=>by
    obtain⟨C,fr,hC⟩:=hgn;rw[q,h.blk]at hC
    injection hC with hC
    injection hC with _ hC _
    exact absurd hC (by decide)))
  rw[hf]at hi;refine hi.mono ?_;rw[List.length_append,List.length_singleton];omega
 ·have:=hb.size;simp;omega
 ·have hgw2:g<w2.heap.size:=Nat.lt_of_lt_of_le hg hb.size
  have n1:g≠s:=fun q=>hn (Or.inl q)
  have n2:some g≠ev.ownBlock:=fun q=>hn (Or.inr (Or.inl q))
  have n3:g≠mb:=fun q=>hn (Or.inr (Or.inr q))
  exact(hfar g (by omega) n2 n1).trans ((h.tch.block g hgw2 n3).trans (hb.block g hg))
 ·rcases n5 with q|q
  ·rw[q]at hg;exact Or.inl hg
  ·rw[q]at hg
   injection hg with hg
   have:=hb.size;right;rw[hg];simp;omega
theorem rj {w:World}{B s mb:Nat}{es:List Ent}{ev:Value}(h:SegAt w B s es ev mb) (hB:B≤w.heap.size) (ht:Tab w) (e:Ent) (hx:e.text.size≤60) (hl:es.length≤1048576) :
  Calls Tryz.prog 62 #[.pointer (some ⟨s,0,none⟩),eV e] w fun r w'=>r=.returned (.tuple #[])∧∃ev',SegStp w w' B s mb ev (es++[e]) ev':=by
 obtain⟨i0,hi0,hz0,hz1,hz2⟩:=info_parts Tryz.info66;obtain⟨a,c,rfl,hc,hm⟩:=zu h.own;unfold maxLen at hm;have HS:=zx h;obtain⟨sq,tm,tx⟩:=e;simp only at hx;have hb0:=zv w (Obj.cells #[.int .i64 sq, .int .i64 tm, .string tx] 66);have hbk:=zj w #[.int .i64 sq, .int .i64 tm, .string tx] 66;have CW:=zx (qt tx _ (ht.below hb0 (Nat.le_refl _)) (by omega));have HB0:=zx hb0;have HBK:=zx hbk;have hwl:=qG tx
 have hws:∀x∈wd tx,x.size≤60:=fun x h=>Nat.le_trans (kI tx h) hx
 have hnd:=fe tx
 have HFIN:Hid (wX es (wd tx) (wd tx).length=fun x=>zV (es++[(⟨sq,tm,tx⟩:Ent)]) x (es++[(⟨sq,tm,tx⟩:Ent)]).length):=by
  show _=_;funext x;rw[kj];unfold wX;rw[List.take_length]
 clear hb0 hbk h ht
 go_enter Tryz.func62,Tryz.ntmps62
 go_wp2_with (first|(go_at_call 100;refine CW.out.mono ?_;rintro e w2 ⟨v2,rfl,hc2⟩;obtain⟨a2,c2,rfl,hc2c,hc2m⟩:=zu hc2.2;have HC2:=zx hc2;clear hc2));have HB2:Hid (Below w.heap.size w w2):=HB0.out.trans (HC2.out.1.mono HB0.out.size);have HBK2:Hid (w2.heap[w.heap.size]? = some (Obj.cells #[.int .i64 sq, .int .i64 tm, .string tx] 66 (0,0))):=(HC2.out.1.block w.heap.size (by simp)).trans HBK.out;have HS2:=zx (HS.out.below HB2.out);have HO2:=zx HC2.out.2;have hB2:B≤w2.heap.size:=Nat.le_trans hB HB2.out.size;have hnb2:w.heap.size<w2.heap.size:=(Mth.gI HBK2.out);have hmbw:=HS.out.idx.lt;have hmbn:=HS2.out.idx.notCells;have hsw:s<w.heap.size:=(Mth.gI HS.out.blk);clear CW HB0 HBK HC2;unfold maxLen at hc2m;generalize hln:es.length=n at *;have HN:=zx hln;clear hln;generalize hwsl:wd tx=ws at *;have HWS:=zx hwsl;clear hwsl;generalize hwl2:ws.length=ln at *;have HLN:=zx hwl2;clear hwl2;have HND:=zx hnd;have HWZ:=zx hws;clear hnd hws
 go_loopw [11] (fun i wr=>∃k:Nat,k≤ln∧i=.int .i64 k∧AddIn w2 wr B s mb es (.slice a n c) ws k) (fun i _=>ln-(intOf i).toNat)
 case atStart=>exact⟨0,Nat.zero_le _,rfl,Tch.refl _ _,HS2.out.blk,by have:=HS2.out.own;rwa [HN.out]at this ⊢,by
   have:=HS2.out.idx;rw[kv,HN.out]
   rwa [HN.out]at this⟩
 case round=>
  obtain⟨k,hk,rfl,hA⟩:=hrel;have HA:=zx hA;clear hA;by_cases hlt:k<ln
  ·obtain⟨g2,rfl⟩:=zf HO2.out (by omega)
   have hkw:k<ws.length:=by rw[HLN.out];exact hlt
   have hxz:(ws.getD k ⟨#[]⟩).size≤60:=HWZ.out _ (yI hkw);have hg2:=(zw HO2.out (g:=g2) rfl)
   have hg2m:g2≠mb:=fun q=>by
    obtain⟨_,_,D,hD⟩:=hg2;obtain⟨es',c',hm'⟩:=hmbn;rw[q,hm']at hD;cases hD
   have d2:wr.cell? ⟨g2,k,none⟩=some (.string (ws.getD k ⟨#[]⟩)):=by
    have e:=zg HO2.out (j:=k) (u:=.string (ws.getD k ⟨#[]⟩)) (by
     rw[List.getElem?_map,List.getElem?_eq_getElem hkw]
     simp[List.getD,hkw,eS])
    exact(World.cell?_of_block (w:=w2) (a:=⟨g2,k,none⟩) (HA.out.tch.block g2 hg2.2.1 hg2m)).trans e
   obtain⟨q0,_⟩:=zy (j:=0) (u:=.slice a n c) HA.out.blk rfl;obtain⟨q1,_⟩:=zy (j:=1) (u:=.map (some mb)) HA.out.blk rfl;obtain⟨T,hlook,hT,hup,hlst⟩:=HA.out.idx.look (ws.getD k ⟨#[]⟩) (by unfold maxLen;omega);rw[ku hkw HND.out]at hlst;have HNX:=zx (ko (es:=es) hkw HND.out);obtain⟨u,hu⟩:=WI.ptr_pointer T;rw[hu]at hlook
   have hset:WI.SetAt (wr.alloc (Obj.cells #[.pointer u] 208)) wr.heap.size T:=by
    obtain⟨d1,d2⟩:=zy (j:=0) (u:=.pointer u) (zj wr #[.pointer u] 208) rfl;exact⟨by rw[hu];exact d1,d2,InT.below (zv wr _) hT,hup⟩
   have hlen:(lst T).length≤n:=by rw[hlst,HN.out];exact tf _ _ _
   have CA:=zx (WI.add_any wr.heap.size T (n:Int) _ hset (by omega));have HLST:=zx hlst;have q0':=((zv wr (Obj.cells #[.pointer u] 208)).cell (p:=⟨s,0,none⟩) (World.block_lt_of_cell? _ _ q0)).trans q0;have hswr:s<wr.heap.size:=(Mth.gI HA.out.blk);clear hset hlen hT hup hlst hg2 hu;generalize hxx:ws.getD k ⟨#[]⟩=x at *;have HXX:=zx hxx;clear hxx;go_wp2_with (first|(go_at_call 101;refine CA.out.mono ?_;rintro e w4 ⟨rfl,T4,hset4,hgr4,_,hput4,hty4⟩;have HSET4:=zx hset4;have HGR4:=zx hgr4;have HPUT4:=zx hput4;have hb4:w4.heap[s]? = some (Obj.cells #[.slice a n c, .map (some mb)] 198 (0,0)):=(hgr4.block s (by simp;omega) (by simp;omega)).trans (yj _ HA.out.blk);have r0:=(zy (j:=1) (u:=.map (some mb)) hb4 rfl).1;clear hset4 hgr4 hput4 hty4))
   have hnin:¬(n:Int)∈lst T:=by
    rw[HLST.out];intro q;obtain⟨j,hj,e⟩:=sI q;rw[HN.out]at hj;omega
   have hlst4:lst T4=zV es x es.length++[(es.length:Int)]:=by
    have:=HPUT4.out hnin;rw[HLST.out,←HN.out]at this;exact eX this
   have hb4:w4.heap[s]? = some (Obj.cells #[.slice a n c, .map (some mb)] 198 (0,0)):=(HGR4.out.block s (by simp;omega) (by simp;omega)).trans (yj _ HA.out.blk)
   have hsame:∀g,g<wr.heap.size→w4.heap[g]? = wr.heap[g]? := fun g hg=>(HGR4.out.block g (by simp;omega) (by simp;omega)).trans (by
    show(wr.heap.push _)[g]? = _
    rw[Array.getElem?_push,if_neg (by omega)])
   have hmbr:mb<wr.heap.size:=HA.out.idx.lt
   have hidx4:Idx w4.drew mb (n*64+k) (wX es ws k):=by
    have:=HA.out.idx.same (w':=w4.drew) (hsame mb hmbr) (fun g hg=>hsame g (yw hg))
    rwa [HN.out]at this
   obtain⟨u4,hu4⟩:=WI.ptr_pointer T4;obtain⟨w5,hrun5,hidx5,hgr5⟩:=hidx4.put x (by unfold maxLen;omega) (by unfold maxLen;omega) T4 (InT.drewN (w:=w4) (w':=w4.drew) rfl HSET4.out.2.2.1) HSET4.out.2.2.2;rw[hu4]at hrun5
   have r1:w4.cell? ⟨wr.heap.size,0,none⟩=some (.pointer u4):=by rw[←hu4];exact HSET4.out.1
   have HI5:Hid (AddIn w2 w5 B s mb es (.slice a n c) ws (k+1)):=by
    have hsz4:wr.heap.size≤w4.heap.size:=by have:=HGR4.out.size;simp at this;omega
    have hsne:s≠mb:=fun q=>by
     obtain⟨es',c',hm'⟩:=hidx4.notCells;rw[←q]at hm';have:w4.heap[s]? = _:=hm';rw[hb4]at this;cases this
    have hw45:∀g,g<wr.heap.size→g≠mb→w5.heap[g]? = wr.heap[g]? := fun g hg hne=>(hgr5.block g (by show g<w4.heap.size;omega) (fun q=>hne (by injection q))).trans (hsame g hg)
    refine⟨⟨hgr5.os.trans (HGR4.out.os.trans HA.out.tch.os),hgr5.tape.trans (HGR4.out.tape.trans HA.out.tch.tape),hgr5.output.trans (HGR4.out.output.trans HA.out.tch.output),?_,fun g hg hne=>?_⟩,(hw45 s hswr hsne).trans HA.out.blk,?_,?_⟩
    ·have:=hgr5.size;have h3:=HA.out.tch.size;have:w4.heap.size≤w5.heap.size:=this;omega
    ·exact(hw45 g (Nat.lt_of_lt_of_le hg HA.out.tch.size) hne).trans (HA.out.tch.block g hg hne)
    ·refine zn HA.out.own (fun g hg=>hw45 g (zw HA.out.own hg).2.1 (fun q=>?_));obtain⟨_,_,D,hD⟩:=zw HA.out.own hg;obtain⟨es',c',hm'⟩:=HA.out.idx.notCells;rw[q,hm']at hD;cases hD
    ·have e:=HNX.out;rw[←e,←Nat.add_assoc,HN.out];rw[hlst4]at hidx5;rw[HN.out]at hidx5;exact hidx5
   clear hnin hlst4 hb4 hsame hidx4 hidx5 hgr5
   go_region
   go_wp2
   go_roundw
   case rel=>exact⟨k+1,by omega,by go_num,HI5.out⟩
   case measure=>simp[intOf];omega
  ·have hke:k=ln:=by omega
   subst hke;have hbkr:wr.heap[w.heap.size]? = some (Obj.cells #[.int .i64 sq, .int .i64 tm, .string tx] 66 (0,0)):=(HA.out.tch.block w.heap.size hnb2 (by omega)).trans HBK2.out;obtain⟨c0,f0⟩:=zy (j:=0) (u:=.slice a n c) HA.out.blk rfl;obtain⟨b0,_⟩:=zy (j:=0) (u:=.int .i64 sq) hbkr rfl;obtain⟨b1,_⟩:=zy (j:=1) (u:=.int .i64 tm) hbkr rfl;obtain⟨b2,_⟩:=zy (j:=2) (u:=.string tx) hbkr rfl;have hown:=HA.out.own;rw[HN.out]at hown;have HOW:=zx hown;have hBr:B≤wr.heap.size:=Nat.le_trans hB2 HA.out.tch.size
   have hsr:Hid (some s≠(Value.slice a n c).ownBlock):=fun q=>by
    obtain⟨_,_,D,hD⟩:=zw HOW.out q;rw[HA.out.blk]at hD
    injection hD with hD
    injection hD with _ hD _
    exact absurd hD (by decide)
   have c1:=((zv wr (Obj.cells #[.int .i64 sq, .int .i64 tm, .string tx] 66)).cell (p:=⟨s,0,none⟩) (World.block_lt_of_cell? _ _ c0)).trans c0;clear hown hbkr;go_wp2_with fail
   go_region_law (refine zQ _ rfl _ _ 57 rfl B 66 i0 (.agg #[.int .i64 0, .int .i64 0, .string ByteArray.empty]) 3 32 Tryz.underlying57 hi0 hz0 hz1 hz2 rfl (by decide) _ _ _ rfl (by exact HOW.out.alloc _) ⟨wr.heap.size,0,none⟩ 1 1 [.int .i64 sq, .int .i64 tm, .string tx] rfl rfl (by exact yg wr.drew _ _ _ _) (by intro u hu;simp at hu;rcases hu with rfl|rfl|rfl <;> rfl) (by unfold maxLen;omega) (by omega) (by simp;omega) ?_;intro v5 W5 o5 g5 n5;obtain⟨a5,c5,rfl,_,_⟩:=zu o5;have g6:(wr.alloc (Obj.cells #[.int .i64 sq, .int .i64 tm, .string tx] 66)).grownBy W5 (Value.slice a n c).ownBlock:=⟨g5.os,g5.tape,g5.output,g5.size,g5.block⟩;obtain⟨fb,ff⟩:=zy (j:=0) (u:=.slice a n c) (zN g6 HA.out.blk hsr.out) rfl;have KS:=zx (cZ (w:=w) (e:=⟨sq,tm,tx⟩) HA.out HS.out.ge (by omega) HB2.out HFIN.out (by rw[HN.out];exact o5) g6 n5);clear o5 g5 g6 n5)
   all_goals (
    go_wp2;go_end0
    exact⟨rfl,_,by rw[HN.out];exact KS.out⟩)
theorem jy (w:World):RdE w (.slice none 0 0) []:=⟨none,0,rfl,Nat.le_refl _,by unfold maxLen;omega,Or.inl rfl⟩
structure NewSeg (w w':World) (B s:Nat) (es:List Ent) (ev:Value) (mb:Nat):Prop where
 seg:SegAt w' B s es ev mb
 bel:Below w.heap.size w w'
 new:∀g,yA s mb ev g→w.heap.size≤g
theorem NewSeg.more {w w1 w2:World}{B s mb:Nat}{es es':List Ent}{ev ev':Value}(h:NewSeg w w1 B s es ev mb) (h2:SegStp w1 w2 B s mb ev es' ev'):NewSeg w w2 B s es' ev' mb:=by
 refine⟨h2.seg,zP h.bel h2.tch h.new h.bel.size,fun g hg=>?_⟩
 rcases hg with q|q|q
 ·exact h.new g (Or.inl q)
 ·rcases h2.new g q with q|q
  ·exact h.new g (Or.inr (Or.inl q))
  ·exact Nat.le_trans h.bel.size q
 ·exact h.new g (Or.inr (Or.inr q))
theorem uj (w:World) (B:Nat) (hB:B≤w.heap.size) (ht:Tab w){v:Value}{es:List Ent}(hv:RdE w v es) (hx:∀e∈es,e.text.size≤60) (hl:es.length≤1048576) :
  Calls Tryz.prog 60 #[v] w fun r w'=>∃s mb ev,r=.returned (.pointer (some ⟨s,0,none⟩))∧NewSeg w w' B s es ev mb:=by
 have hmm:=@run_makeMap Tryz.prog;obtain⟨a,c,rfl,hc,hm⟩:=uX hv;unfold maxLen at hm;obtain⟨W,hW⟩:∃W,W=(w.alloc (Obj.map #[] 0)).alloc (Obj.cells #[.slice none 0 0, .map (some w.heap.size)] 198):=⟨_,rfl⟩
 have HNS:Hid (NewSeg w W B (w.heap.size+1) [] (.slice none 0 0) w.heap.size):=by
  have b1:=zv w (Obj.map #[] 0);have b2:=zv (w.alloc (Obj.map #[] 0)) (Obj.cells #[.slice none 0 0, .map (some w.heap.size)] 198);refine⟨⟨?_,World.ownsRow_nil _ _ _ _,?_,by omega,hB⟩,by rw[hW];exact b1.trans (b2.mono b1.size),fun g hg=>?_⟩
  ·have:=zj (w.alloc (Obj.map #[] 0)) #[.slice none 0 0, .map (some w.heap.size)] 198;rw[World.size_alloc]at this;rw[hW];exact this
  ·rw[hW];exact(Idx.made w 0).same (b2.block _ (by simp)) (fun g hg=>b2.block _ (yw hg))
  ·rcases hg with q|q|q
   ·omega
   ·simp[Value.ownBlock]at q
   ·omega
 have HV:=zx hv;have HX:=zx hx;have HT:=zx ht;have HW:=zx hW;clear hv hx ht hW;generalize hn:es.length=n at *;have HN:=zx hn;clear hn
 go_enter Tryz.func60,Tryz.ntmps60
 go_wp2_with fail;rw[←HW.out];clear hmm
 go_loopw [11] (fun i wr=>∃k:Nat,k≤n∧i=.int .i64 k∧∃ev,NewSeg w wr B (w.heap.size+1) (es.take k) ev w.heap.size) (fun i _=>n-(intOf i).toNat)
 case atStart=>exact⟨0,Nat.zero_le _,rfl,_,HNS.out⟩
 case round=>
  obtain⟨k,hk,rfl,ev,hNS⟩:=hrel;have HNS2:=zx hNS;clear hNS;by_cases hlt:k<n
  ·obtain⟨b,o,rfl,hblt,d0,d1,d2⟩:=uw (HV.out.below HNS2.out.bel) k (by rw[HN.out];exact hlt);have HTK:=zx (zG (by rw[HN.out];exact hlt:k<es.length) e0);have htx:(es.getD k e0).text.size≤60:=HX.out _ (yI (by rw[HN.out];exact hlt))
   have hlen:(es.take k).length≤1048576:=by rw[List.length_take];omega
   obtain⟨f,hf⟩:∃f,f=es.getD k e0:=⟨_,rfl⟩;rw[←hf]at d0 d1 d2 htx
   have HTK2:Hid (es.take (k+1)=es.take k++[f]):=by rw[hf];exact HTK.out
   clear HTK hf;obtain⟨fs,ft,fx⟩:=f;simp only at d0 d1 d2 htx;have hb0:=zv wr (Obj.cells #[.int .i64 fs, .int .i64 ft, .string fx] 66);have hBw:=HNS2.out.bel;have CA:=zx (rj (HNS2.out.seg.below hb0) (by have:=hBw.size;simp;omega) ((HT.out.below hBw (Nat.le_refl _)).below hb0 (Nat.le_refl _)) ⟨fs,ft,fx⟩ htx hlen);have HB0:=zx hb0;clear hb0 hBw;go_wp2_with (first|(go_at_call 62;refine CA.out.mono ?_;rintro e w4 ⟨rfl,ev4,hs4⟩;have HS4:=zx hs4;clear hs4))
   have HNS3:Hid (NewSeg w w4 B (w.heap.size+1) (es.take (k+1)) ev4 w.heap.size):=by
    rw[HTK2.out];have h0:NewSeg w (wr.alloc (Obj.cells #[.int .i64 fs, .int .i64 ft, .string fx] 66)) B (w.heap.size+1) (es.take k) ev w.heap.size:=⟨HNS2.out.seg.below HB0.out,HNS2.out.bel.trans (HB0.out.mono HNS2.out.bel.size),HNS2.out.new⟩;exact h0.more HS4.out
   go_roundw
   case rel=>exact⟨k+1,by omega,by go_num,ev4,HNS3.out⟩
   case measure=>simp[intOf];omega
  ·have hke:k=n:=by omega
   subst hke;have HF:Hid (es.take k=es):=List.take_of_length_le (by rw[HN.out];exact Nat.le_refl _);go_wp2;go_ret;exact⟨_,_,ev,rfl,by have:=HNS2.out;rwa [HF.out]at this⟩
theorem tF {w:World}{B b d:Nat}{fs:List Fl}{left:Int}{fv:Value}(h:St 100 109 w B b fs left fv) (hp:Ptr 102 w d b) (h1:-1≤left) (h2:left<9223372036854775808) (q:left≠0) (x:ByteArray) (r:Int) (hr:At fs x r) :
  Calls Tryz.prog 33 #[.pointer (some ⟨d,0,none⟩), .string x] w fun e w'=>e=.returned (.bool true)∧∃fv',Stp 100 109 B b w w' fv (gV fs r) (yx left) fv':=by
 have CS:=zx (wh h h1 h2);rw[decide_eq_true q]at CS;obtain⟨p0,_⟩:=zy (j:=0) (u:=.pointer (some ⟨b,0,none⟩)) hp rfl;have HR:=zx hr;have HP:=zx hp;have HS:=zx h;generalize yx left=l1 at *;generalize hfs:gV fs r=fs' at *;have HFS:=zx hfs;clear h h1 h2 q hfs hr hp
 go_enter Tryz.func33,Tryz.ntmps33
 go_wp2_with fail;refine CS.out.mono ?_;rintro e w1 ⟨rfl,hs⟩;have HT:=zx hs;have HP1:=zx (HP.out.keep HS.out hs.tch (by decide) (by decide));have CF:=zx (uN hs.st x);obtain⟨p1,_⟩:=zy (j:=0) (u:=.pointer (some ⟨b,0,none⟩)) HP1.out rfl;clear hs CS p0 HP HS;go_wp2_with fail;refine CF.out.mono ?_;rintro e w2 ⟨r',rfl,hr,rfl⟩;have hrr:=lw HR.out hr;subst hrr;clear CF;obtain⟨a,c,rfl,hc,hm⟩:=zu HT.out.st.own;unfold maxLen at hm;obtain⟨c0,f0⟩:=zy (j:=0) (u:=.slice a fs.length c) HT.out.st.blk rfl
 rcases hr with⟨rfl,_⟩|⟨i,hi,rfl,_,_⟩
 ·have HFR:Hid (fs'=fs):=HFS.out.symm;go_wp2;go_ret;exact⟨rfl,_,by rw[HFR.out];exact HT.out⟩
 ·have HFR:Hid (fs'=dN fs i (fs.getD i wL).data.size):=by
   show _=_;rw[←HFS.out];unfold gV;rw[if_neg (by omega),Int.toNat_natCast]
  have HTD:=zx (HT.out.below (zE w2));have hown:=HTD.out.st.own;obtain⟨g,rfl⟩:=zf hown (by omega);obtain⟨_,e3,_⟩:=uv (k:=i) hown rfl hi;obtain⟨⟨y2,e4⟩,hfr⟩:=wg (i:=i*3+2) hown (by omega);obtain⟨q1,_⟩:=zy (j:=0) (u:=.pointer (some ⟨b,0,none⟩)) (HP1.out.below (zE w2)) rfl;obtain⟨q0,_⟩:=zy (j:=0) (u:=.slice (some ⟨g,0,none⟩) fs.length c) HTD.out.st.blk rfl;generalize hdt:(fs.getD i wL).data=dt at *;have ST2:=zx (HTD.out.st.store (i:=i*3+2) (y:=.int .i64 (dt.size:Int)) (fs':=dN fs i dt.size) (by decide) rfl (by omega) (by simp[dN]) (jX dt.size hi));clear hdt hown;generalize hn:fs.length=n at *;have HN:=zx hn;clear hn;go_wp2_with fail
  go_region
  all_goals (go_wp2;go_ret;exact⟨rfl,_,by rw[HFR.out];first|exact HTD.out.trans ST2.out|(rw[HN.out];exact HTD.out.trans ST2.out)⟩)
theorem dX (w:World) (x y:Int):(convert 158 9 (.slice (some ⟨w.heap.size,0,none⟩) 2 2)).run Tryz.prog (w.alloc (.cells #[.int .u8 x, .int .u8 y] 5))=.ok (.string (strOfNums [x,y])) (w.alloc (.cells #[.int .u8 x, .int .u8 y] 5)):=by
 refine run_convert_bytes_arg (P:=Tryz.prog) _ 158 5 Tryz.underlying158 Tryz.underlying5 w.heap.size 0 2 2 [x,y] rfl (fun i hi=>?_) 9 Tryz.underlying9;have hb:=zj w #[.int .u8 x, .int .u8 y] 5
 rcases(show i=0∨i=1 by omega)with rfl|rfl
 ·exact(zy (j:=0) hb rfl).1
 ·exact(zy (j:=1) hb rfl).1
def yU (k:Int) (s:ByteArray):ByteArray:=strOfNums [k,(s.size:Int)]++s
theorem vf (l:List Int):(strOfNums l).size=l.length:=by
 simp[strOfNums,ByteArray.size]
theorem tq (k:Int) (s:ByteArray):(yU k s).size=2+s.size:=by
 unfold yU;rw[ByteArray.size_append,vf];rfl
theorem lV (k:Int) (_h0:0≤k) (_h1:k<256) (s:ByteArray) (hs:s.size≤255) (w:World) :
  Calls Tryz.prog 155 #[.int .u8 k, .string s] w fun e w'=>e=.returned (.string (yU k s))∧Below w.heap.size w w':=by
 have hcv:=dX w k (s.size:Int);have hB:=zx (zv w (.cells #[.int .u8 k, .int .u8 (s.size:Int)] 5))
 have hadd:=fun w=>pi (strOfNums [k,(s.size:Int)]) s w (by rw[vf];simp;omega)
 generalize hr:strOfNums [k,(s.size:Int)]++s=rr at *;have HR:Hid (yU k s=rr):=hr;generalize strOfNums [k,(s.size:Int)]=hd at *;clear hr
 go_enter Tryz.func155,Tryz.ntmps155
 go_wp2;go_ret;exact⟨by rw[HR.out];rfl,hB.out⟩
structure JAt (w:World) (B jb db sb:Nat) (fs:List Fl) (left:Int) (fv:Value) (clock count:Nat):Prop where
 blk:w.heap[jb]? = some (Obj.cells #[.pointer (some ⟨db,0,none⟩), .int .i64 (clock:Int), .int .i64 (count:Int)] 200 (0,0))
 ptr:Ptr 102 w db sb
 st:St 100 109 w B sb fs left fv
 ge:B≤jb∧B≤db
def vr (jb db sb:Nat) (fv:Value) (k:Nat):Prop:=k=jb∨k=db∨oY sb fv k
theorem JAt.same {w w':World}{B jb db sb:Nat}{fs:List Fl}{left:Int}{fv:Value}{clock count:Nat}(h:JAt w B jb db sb fs left fv clock count) (hs:∀g,vr jb db sb fv g→w'.heap[g]? = w.heap[g]?):JAt w' B jb db sb fs left fv clock count:=
 ⟨(hs jb (Or.inl rfl)).trans h.blk,(hs db (Or.inr (Or.inl rfl))).trans h.ptr,h.st.same (fun g hg=>hs g (Or.inr (Or.inr hg))),h.ge⟩
theorem JAt.ownLt {w:World}{B jb db sb:Nat}{fs:List Fl}{left:Int}{fv:Value}{clock count:Nat}(h:JAt w B jb db sb fs left fv clock count){k:Nat}(hk:vr jb db sb fv k):k<w.heap.size∧B≤k∧¬wM w k:=by
 rcases hk with rfl|rfl|hk|hk
 ·exact⟨(Mth.gI h.blk),h.ge.1,fun⟨C,fr,q⟩=>by rw[h.blk]at q;injection q with q;injection q with _ q _;exact absurd q (by decide)⟩
 ·exact⟨(Mth.gI h.ptr),h.ge.2,fun⟨C,fr,q⟩=>by rw[h.ptr]at q;injection q with q;injection q with _ q _;exact absurd q (by decide)⟩
 ·subst hk;exact⟨h.st.lt,h.st.ge,fun⟨C,fr,q⟩=>by rw[h.st.blk]at q;injection q with q;injection q with _ q _;exact absurd q (by decide)⟩
 ·obtain⟨h1,h2,D,hD⟩:=zw h.st.own hk;exact⟨h2,h1,fun⟨C,fr,q⟩=>by rw[hD]at q;injection q with q;injection q with _ q _;exact absurd q (by decide)⟩
theorem JAt.below {w w':World}{B jb db sb:Nat}{fs:List Fl}{left:Int}{fv:Value}{clock count:Nat}(h:JAt w B jb db sb fs left fv clock count) (hb:Below w.heap.size w w'):JAt w' B jb db sb fs left fv clock count:=
 h.same fun g hg=>hb.block g (h.ownLt hg).1
structure JStp (w w':World) (B jb db sb:Nat) (fv:Value) (fs':List Fl) (left':Int) (fv':Value) (clock' count':Nat):Prop where
 j:JAt w' B jb db sb fs' left' fv' clock' count'
 tch:Tch (vr jb db sb fv) w w'
 new:∀g,some g=fv'.ownBlock→some g=fv.ownBlock∨w.heap.size≤g
theorem JStp.trans {w w1 w2:World}{B jb db sb:Nat}{fv fv1 fv2:Value}{fs1 fs2:List Fl}{l1 l2:Int}{c1 c2 n1 n2:Nat}(h1:JStp w w1 B jb db sb fv fs1 l1 fv1 c1 n1) (h2:JStp w1 w2 B jb db sb fv1 fs2 l2 fv2 c2 n2):JStp w w2 B jb db sb fv fs2 l2 fv2 c2 n2:=by
 refine⟨h2.j,h1.tch.trans h2.tch (fun k hk q=>?_),fun g hg=>?_⟩
 ·rcases q with q|q|q|q
  ·exact Or.inl q
  ·exact Or.inr (Or.inl q)
  ·exact Or.inr (Or.inr (Or.inl q))
  ·rcases h1.new k q with q|q
   ·exact Or.inr (Or.inr (Or.inr q))
   ·omega
 ·rcases h2.new g hg with q|q
  ·exact h1.new g q
  ·exact Or.inr (Nat.le_trans h1.tch.size q)
theorem JStp.below {w w1 w2:World}{B jb db sb:Nat}{fv fv1:Value}{fs1:List Fl}{l1:Int}{c1 n1:Nat}(h1:JStp w w1 B jb db sb fv fs1 l1 fv1 c1 n1) (hb:Below w1.heap.size w1 w2):JStp w w2 B jb db sb fv fs1 l1 fv1 c1 n1:=
 ⟨h1.j.below hb,h1.tch.trans (zH (S:=vr jb db sb fv) hb) (fun _ _ q=>q),h1.new⟩
theorem JStp.pre {w w1 w2:World}{B jb db sb:Nat}{fv fv1:Value}{fs1:List Fl}{l1:Int}{c1 n1:Nat}(hb:Below w.heap.size w w1) (h1:JStp w1 w2 B jb db sb fv fs1 l1 fv1 c1 n1):JStp w w2 B jb db sb fv fs1 l1 fv1 c1 n1:=
 ⟨h1.j,(zH (S:=vr jb db sb fv) hb).trans h1.tch (fun _ _ q=>q),fun g hg=>(h1.new g hg).imp id (Nat.le_trans hb.size)⟩
theorem JAt.disk {w w':World}{B jb db sb:Nat}{fs fs':List Fl}{left left':Int}{fv fv':Value}{clock count:Nat}(h:JAt w B jb db sb fs left fv clock count) (hs:Stp 100 109 B sb w w' fv fs' left' fv'):JStp w w' B jb db sb fv fs' left' fv' clock count:=by
 have hjd:¬oY sb fv jb:=fun q=>by
  rcases q with q|q
  ·have:=h.blk;rw[q,h.st.blk]at this
   injection this with this
   injection this with _ this _
   exact absurd this (by decide)
  ·obtain⟨_,_,D,hD⟩:=zw h.st.own q;rw[h.blk]at hD
   injection hD with hD
   injection hD with _ hD _
   exact absurd hD (by decide)
 refine⟨⟨(hs.tch.block jb (Mth.gI h.blk) hjd).trans h.blk,h.ptr.keep h.st hs.tch (by decide) (by decide),hs.st,h.ge⟩,hs.tch.mono (fun k _ q=>Or.inr (Or.inr q)),hs.new⟩
theorem wE {w:World}{B jb db sb:Nat}{fs:List Fl}{left:Int}{fv:Value}{clock count:Nat}(h:JAt w B jb db sb fs left fv clock count) :
  Calls Tryz.prog 56 #[.pointer (some ⟨jb,0,none⟩)] w fun e w'=>e=.returned (.bool (left == 0))∧w'=w:=by
 have CS:=zx (vj h.st h.ptr);obtain⟨c0,_⟩:=zy (j:=0) (u:=.pointer (some ⟨db,0,none⟩)) h.blk rfl;clear h;generalize (left == 0)=bb at *
 go_enter Tryz.func56,Tryz.ntmps56
 go_wp2_with (first|(go_at_call 41;refine CS.out.mono ?_;rintro e w2 ⟨rfl,rfl⟩));go_ret;exact⟨rfl,rfl⟩
theorem lD {w:World}{B jb db sb:Nat}{fs:List Fl}{left:Int}{fv:Value}{clock count:Nat}(h:JAt w B jb db sb fs left fv clock count) :
  Calls Tryz.prog 147 #[.pointer (some ⟨jb,0,none⟩)] w fun e w'=>e=.returned (.int .i64 (clock:Int))∧w'=w:=by
 obtain⟨c0,_⟩:=zy (j:=1) (u:=.int .i64 (clock:Int)) h.blk rfl;clear h
 go_enter Tryz.func147,Tryz.ntmps147
 go_wp2;go_ret;exact⟨rfl,rfl⟩
theorem tg {w:World}{B jb db sb:Nat}{fs:List Fl}{left:Int}{fv:Value}{clock count:Nat}(h:JAt w B jb db sb fs left fv clock count) :
  Calls Tryz.prog 96 #[.pointer (some ⟨jb,0,none⟩)] w fun e w'=>e=.returned (.int .i64 (count:Int))∧w'=w:=by
 obtain⟨c0,_⟩:=zy (j:=2) (u:=.int .i64 (count:Int)) h.blk rfl;clear h
 go_enter Tryz.func96,Tryz.ntmps96
 go_wp2;go_ret;exact⟨rfl,rfl⟩
def mO:ByteArray:=⟨#[106,111,117,114,110,97,108]⟩
def jf (dt:ByteArray) (sf:Nat):List Fl:=[⟨mO,dt,sf⟩]
theorem rx {w:World}{B jb db sb:Nat}{dt:ByteArray}{sf:Nat}{left:Int}{fv:Value}{clock count:Nat}(h:JAt w B jb db sb (jf dt sf) left fv clock count) (hB:B≤w.heap.size) (h1:-1≤left) (h2:left<9223372036854775808) (q0:left≠0) (q1:left≠1)
  (k:Int) (k0:0≤k) (k1:k<256) (s:ByteArray) (hs:s.size≤255) (hd:dt.size≤1099511627776) :
  Calls Tryz.prog 97 #[.pointer (some ⟨jb,0,none⟩), .int .u8 k, .string s] w fun e w'=>e=.returned (.bool true)∧∃fv',JStp w w' B jb db sb fv (jf (dt++yU k s) (dt++yU k s).size) (yx (yx left)) fv' clock count:=by
 have hat:At (jf dt sf) mO 0:=Or.inr ⟨0,by simp[jf],rfl,rfl,fun j hj=>absurd hj (Nat.not_lt_zero _)⟩
 have CR:Hid (∀W,Calls Tryz.prog 155 #[.int .u8 k, .string s] W fun e w'=>e=.returned (.string (yU k s))∧Below W.heap.size W w'):=fun W=>lV k k0 k1 s hs W
 have hrs:=tq k s;have hfl:(aj (jf dt sf) 0).data=dt:=rfl
 have CA:Hid (∀W,Below w.heap.size w W→Calls Tryz.prog 31 #[.pointer (some ⟨db,0,none⟩), .string mO, .string (yU k s)] W fun e w'=>e=.returned (.bool true)∧∃fv',JStp w w' B jb db sb fv (jf (dt++yU k s) sf) (yx left) fv' clock count∧w'.heap[jb]? = some (Obj.cells #[.pointer (some ⟨db,0,none⟩), .int .i64 (clock:Int), .int .i64 (count:Int)] 200 (0,0))):=by
  intro W hW;have hj:=h.below hW;refine(uy hj.st hj.ptr (Nat.le_trans hB hW.size) h1 h2 q0 (by simp[jf]) mO (yU k s) 0 hat (by rw[hfl,hrs];omega)).mono ?_;rintro e w' ⟨rfl,fv',hs'⟩;have hs2:Stp 100 109 B sb W w' fv (jf (dt++yU k s) sf) (yx left) fv':=hs';have:=JStp.pre hW (hj.disk hs2);exact⟨rfl,fv',this,this.j.blk⟩
 have hdl:-1≤yx left∧yx left<9223372036854775808∧yx left≠0:=by unfold yx;split <;> omega
 have CS:Hid (∀W fv',JStp w W B jb db sb fv (jf (dt++yU k s) sf) (yx left) fv' clock count→Calls Tryz.prog 33 #[.pointer (some ⟨db,0,none⟩), .string mO] W fun e w'=>e=.returned (.bool true)∧∃fv',JStp w w' B jb db sb fv (jf (dt++yU k s) (dt++yU k s).size) (yx (yx left)) fv' clock count):=by
  intro W fv1 hj;have hat2:At (jf (dt++yU k s) sf) mO 0:=Or.inr ⟨0,by simp[jf],rfl,rfl,fun j hj=>absurd hj (Nat.not_lt_zero _)⟩;refine(tF hj.j.st hj.j.ptr hdl.1 hdl.2.1 hdl.2.2 mO 0 hat2).mono ?_;rintro e w' ⟨rfl,fv',hs'⟩;have hs2:Stp 100 109 B sb W w' fv1 (jf (dt++yU k s) (dt++yU k s).size) (yx (yx left)) fv':=hs';exact⟨rfl,fv',hj.trans (hj.j.disk hs2)⟩
 obtain⟨c0,_⟩:=zy (j:=0) (u:=.pointer (some ⟨db,0,none⟩)) h.blk rfl;have HJ:=zx h;clear hat hdl h1 h2 q0 q1 hd hrs hfl h;generalize hrb:yU k s=rb at *;have HRB:=zx hrb;clear hrb;generalize hdd:dt++rb=dd at *;clear hdd;generalize yx left=l1 at *;generalize yx l1=l2 at *;unfold mO at CA CS
 go_enter Tryz.func97,Tryz.ntmps97
 go_wp2_with fail
 go_region_with (first
  | (go_at_call 155;refine(CR.out _).mono ?_;rintro e w2 ⟨rfl,hb2⟩;have HB2:Hid (Below w.heap.size w w2):=zJ hb2;have c2:w2.cell? ⟨jb,0,none⟩=some (.pointer (some ⟨db,0,none⟩)):=(HB2.out.cell (p:=⟨jb,0,none⟩) (World.block_lt_of_cell? _ _ c0)).trans c0;clear hb2)
  | (go_at_call 31;refine(CA.out _ HB2.out).mono ?_;rintro e w3 ⟨rfl,fv3,hj3,hb3⟩;have HJ3:=zx hj3;have c3:=(zy (j:=0) (u:=.pointer (some ⟨db,0,none⟩)) hb3 rfl).1;clear hj3 hb3)
  | (go_at_call 33;refine(CS.out _ _ HJ3.out).mono ?_;rintro e w4 ⟨rfl,fv4,hj4⟩;have HJ4:=zx hj4;clear hj4))
 all_goals (go_wp2;go_ret;exact⟨rfl,fv4,HJ4.out⟩)
theorem qO (s:ByteArray) (w:World) (hs:s.size≤1048576) :
  Calls Tryz.prog 156 #[.string s] w fun e w'=>e=.returned (.string s)∧Below w.heap.size w w':=by
 have CC:Hid (Calls Tryz.prog 221 #[.string s] w fun e w'=>e=.returned (.string s)∧Below w.heap.size w w'):=Any.stringslite_Clone Tryz.laysClone s w (by omega)
 go_enter Tryz.func156,Tryz.ntmps156
 go_wp2_with (first|(go_at_call 221;refine CC.out.mono ?_;rintro e w2 ⟨rfl,hb⟩;have HB:=zx hb;clear hb));go_ret;exact⟨rfl,HB.out⟩
def Tab10 (w : World) : Prop := Lib.TabIs Tryz.prog w "internal/strconv.uint64pow10" .u64 Lib.pow10Tab
theorem Tryz.gPowSome : (Tryz.prog.globalNamed "internal/strconv.uint64pow10").isSome = true := by kernel_rfl
theorem Tryz.gPow : ∃ g, Tryz.prog.globalNamed "internal/strconv.uint64pow10" = some g := Option.isSome_iff_exists.1 Tryz.gPowSome
theorem Tab10.below {w w':World}{B:Nat}(h:Tab10 w) (hb:Below B w w') (hB:w.heap.size≤B):Tab10 w':=by
 obtain⟨g,hg⟩:=Tryz.gPow
 have hlt:g<w.heap.size:=by
  unfold Tab10 Lib.TabIs World.var? at h;simp only[hg,Option.bind_some]at h
  rcases Nat.lt_or_ge g w.heap.size with c|c
  ·exact c
  ·rw[Array.getElem?_eq_none c]at h;simp at h
 exact var?_below hb hg (by omega) h
def wY (n:Int):ByteArray:=⟨(Lib.itoa n).toArray⟩
theorem dp (n:Int) (h0:0≤n) (h1:n≤1000000) (w:World) (ht:Tab10 w) :
  Calls Tryz.prog 246 #[.int .i64 n] w fun e w'=>e=.returned (.string (wY n))∧Below w.heap.size w w':=by
 refine(Any.strconv_Itoa Tryz.laysItoa n (by omega) (by omega) w ht).mono ?_;rintro e w' ⟨rfl,k,os,rfl⟩;have hb:=below_regrown (w.drewN k) (w.drewN k).drawn os;exact⟨rfl,⟨hb.os,hb.tape,hb.output,hb.size,hb.block⟩⟩
theorem rv (n:Int) (h0:0≤n) (h1:n≤1000000):(wY n).size≤21:=by
 have:=Lib.itoa_length_le n (by omega) (by omega);unfold wY;simp[ByteArray.size];exact this
theorem lE (sq tm:Int) (s:ByteArray) (w:World) (hs:s.size≤1048576) :
  Calls Tryz.prog 98 #[.int .i64 sq, .int .i64 tm, .string s] w fun e w'=>e=.returned (.agg #[.int .i64 sq, .int .i64 tm, .string s])∧Below w.heap.size w w':=by
 have hsz:(Tryz.prog.info? 66).map (·.size)=some 3:=by
  have:=Tryz.info66
  cases h':Tryz.prog.info? 66 with
  | none=>rw[h']at this;cases this
  | some i=>rw[h']at this;simp at this;simp[this]
 have HB1:=zx (zv w (Obj.cells #[.int .i64 0, .int .i64 0, .string ⟨#[]⟩] 66));have HBK:=zx (zj w #[.int .i64 0, .int .i64 0, .string ⟨#[]⟩] 66);have CC:=zx (qO s (w.alloc (Obj.cells #[.int .i64 0, .int .i64 0, .string ⟨#[]⟩] 66)) hs);obtain⟨nb,hnb⟩:∃nb,nb=w.heap.size:=⟨_,rfl⟩
 have hnlt:nb<(w.alloc (Obj.cells #[.int .i64 0, .int .i64 0, .string ⟨#[]⟩] 66)).heap.size:=by rw[hnb];simp
 have FIN:Hid (∀(W:World) (p q r:Value),Below (w.alloc (Obj.cells #[.int .i64 0, .int .i64 0, .string ⟨#[]⟩] 66)).heap.size (w.alloc (Obj.cells #[.int .i64 0, .int .i64 0, .string ⟨#[]⟩] 66)) W→W.heap[nb]? = some (Obj.cells #[.int .i64 0, .int .i64 0, .string ⟨#[]⟩] 66 (0,0))∧Below w.heap.size w (((W.setCell ⟨nb,0,none⟩ p).setCell ⟨nb,1,none⟩ q).setCell ⟨nb,2,none⟩ r)∧(((W.setCell ⟨nb,0,none⟩ p).setCell ⟨nb,1,none⟩ q).setCell ⟨nb,2,none⟩ r).heap[nb]? = some (Obj.cells #[p,q,r] 66 (0,0))):=by
  intro W p q r hW;have hBW:=HB1.out.trans (hW.mono HB1.out.size)
  have hbk:W.heap[nb]? = some (Obj.cells #[.int .i64 0, .int .i64 0, .string ⟨#[]⟩] 66 (0,0)):=by
   rw[hW.block nb hnlt,hnb];exact HBK.out
  exact⟨hbk,zZ (zZ (zZ hBW (by omega)) (by omega)) (by omega),ze (ze (ze hbk))⟩
 go_enter Tryz.func98,Tryz.ntmps98
 go_wp2_with fail;rw[←hnb];generalize w.alloc (Obj.cells #[.int .i64 0, .int .i64 0, .string ⟨#[]⟩] 66)=w1 at *;refine CC.out.mono ?_;rintro e w2 ⟨rfl,hb2⟩;obtain⟨k0,hB2,hbk2⟩:=FIN.out w2 (.int .i64 sq) (.int .i64 tm) (.string s) hb2;obtain⟨b0,g0⟩:=zy (j:=0) (u:=.int .i64 0) k0 rfl;obtain⟨b1,g1⟩:=zy (j:=1) (u:=.int .i64 0) k0 rfl;obtain⟨b2,g2⟩:=zy (j:=2) (u:=.string ⟨#[]⟩) k0 rfl;have HBB:=zx hB2;have hld:=run_loadVar_row (P:=Tryz.prog) _ nb 66 66 _ _ _ hbk2 Tryz.underlying66 rfl hsz;have HLD:=zx hld;clear hld hB2 hbk2 hb2 CC FIN HBK hnb k0;go_wp2
 (try simp only[Exit.inBlock,Exit.then])
 refine bodyPost_ret (v:=.agg #[.int .i64 sq, .int .i64 tm, .string s]) ?_ rfl ⟨rfl,HBB.out⟩;have hld:=HLD.out;rw[za rfl];simp[asAddr,Result.andThen,hld]
end Go.Proofs.YtkncboinfcnklaaGreatDoor
