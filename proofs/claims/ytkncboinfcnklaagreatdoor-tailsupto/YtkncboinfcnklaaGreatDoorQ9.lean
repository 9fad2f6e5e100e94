import Derived.Test.YtkncboinfcnklaaGreatDoorQ8
import Derived.Laws.EntriesVeiled
set_option maxRecDepth 100000
set_option maxHeartbeats 8000000
namespace Go.Proofs.YtkncboinfcnklaaGreatDoor
open Go.RowKit Go.Deep Go.Proofs.YtkncboinfcnklaaGreatDoor.Mth
theorem gD:∀ {l:List Ent}{j:Nat},j<l.length→(l.flatMap eC)[j*3]? = some (.int .i64 (l.getD j e0).seq)∧(l.flatMap eC)[j*3+1]? = some (.int .i64 (l.getD j e0).time)∧(l.flatMap eC)[j*3+2]? = some (.string (l.getD j e0).text)
 | f::l,0,_=>by simp[eC]
 | f::l,j+1,h=>by
  obtain⟨a,b,c⟩:=gD (l:=l) (j:=j) (by simpa using h);rw[List.flatMap_cons];refine⟨?_,?_,?_⟩
  ·rw[List.getElem?_append_right (by simp[eC];omega)];simpa [eC,show(j+1)*3-3=j*3 by omega] using a
  ·rw[List.getElem?_append_right (by simp[eC];omega)];simpa [eC,show(j+1)*3+1-3=j*3+1 by omega] using b
  ·rw[List.getElem?_append_right (by simp[eC];omega)];simpa [eC,show(j+1)*3+2-3=j*3+2 by omega] using c
theorem xR {w:World}{B:Nat}{e:TypeId}{g n c:Nat}{es:List Ent}(h:w.ownsRow B e 3 (.slice (some ⟨g,0,none⟩) n c) n (es.flatMap eC)){k:Nat}(hn:es.length=n) (hk:k<n):w.cell? ⟨g,k*3,none⟩=some (.int .i64 (es.getD k e0).seq)∧w.cell? ⟨g,k*3+1,none⟩=some (.int .i64 (es.getD k e0).time)∧w.cell? ⟨g,k*3+2,none⟩=some (.string (es.getD k e0).text):=by
 obtain⟨h0,h1,h2⟩:=gD (l:=es) (j:=k) (by omega);exact⟨zg h h0,zg h h1,zg h h2⟩
theorem qm {α:Type}(es:List α) (z:α) (q:α→Bool):((List.range es.length).filter (fun i=>q (es.getD i z))).map (fun i=>es.getD i z)=es.filter q:=by
 have h:(List.range es.length).map (fun i=>es.getD i z)=es:=by
  apply List.ext_getElem
  ·simp
  ·intro i h1 h2;simp at h1;simp[List.getD,h1]
 have h2:((List.range es.length).filter (q ∘ (fun i=>es.getD i z))).map (fun i=>es.getD i z)=((List.range es.length).map (fun i=>es.getD i z)).filter q:=by rw[List.filter_map]
 rw[h]at h2;exact h2
def kK (es:List Ent) (x:ByteArray) (lo hi:Int):List Ent:=es.filter (fun e=>ym x (wd e.text)&&(decide (lo≤e.time)&&decide (e.time≤hi)))
def Tms (es:List Ent):Prop:=∀i j,i≤j→j<es.length→(es.getD i e0).time≤(es.getD j e0).time
theorem aD {es:List Ent}{x:ByteArray}{lo hi:Int}{a b:Nat}(_ha:a≤es.length) (_hb:b≤es.length)
  (h1:∀i,i<a→decide (lo≤(es.getD i e0).time)=false) (h2:∀i,a≤i→i<es.length→decide (lo≤(es.getD i e0).time)=true)
  (h3:∀i,i<b→decide (hi<(es.getD i e0).time)=false) (h4:∀i,b≤i→i<es.length→decide (hi<(es.getD i e0).time)=true) :
  (tT (fun a b:Int=>a<b) (a:Int) ((b:Int)-1) (zV es x es.length)).map (fun i=>es.getD i.toNat e0)=kK es x lo hi:=by
 unfold tT zV kK;rw[List.filter_map,List.map_map,List.filter_filter,←qm es e0];rw[show((fun i:Int=>es.getD i.toNat e0) ∘ fun i:Nat=>(i:Int))=fun i:Nat=>es.getD i e0 from by funext i;simp];congr 1;apply List.filter_congr;intro i hmem
 have hil:i<es.length:=by simpa using hmem
 simp only[Function.comp]
 have c1:(!decide ((i:Int)<(a:Int)))=decide (lo≤(es.getD i e0).time):=by
  by_cases q:i<a
  ·rw[h1 i q,decide_eq_true (by omega)];rfl
  ·rw[h2 i (by omega) hil,decide_eq_false (by omega)];rfl
 have c2:(!decide ((b:Int)-1<(i:Int)))=decide ((es.getD i e0).time≤hi):=by
  by_cases q:i<b
  ·have:=h3 i q;rw[decide_eq_false (by omega),decide_eq_true];· rfl
   ·have:=of_decide_eq_false this;omega
  ·have:=of_decide_eq_true (h4 i (by omega) hil);rw[decide_eq_true (by omega),decide_eq_false (by omega)];rfl
 rw[c1,c2]
 cases ym x (wd (es.getD i e0).text) <;> cases decide (lo≤(es.getD i e0).time) <;> cases decide ((es.getD i e0).time≤hi) <;> rfl
theorem iC {w:World}{s g n c x y i:Nat}{lo t:Int}{_u:Value}(hx:w.cell? ⟨x,0,none⟩=some (.pointer (some ⟨s,0,none⟩))) (hy:w.cell? ⟨y,0,none⟩=some (.int .i64 lo)) (hs:w.cell? ⟨s,0,none⟩=some (.slice (some ⟨g,0,none⟩) n c)) (ht:w.cell? ⟨g,i*3+1,none⟩=some (.int .i64 t)) (hi:i<n) (_hn:n≤4194304) (_hc:n≤c) (_hm:c≤maxLen) :
  Calls Tryz.prog 150 #[.int .i64 (i:Int), .pointer (some ⟨x,0,none⟩), .pointer (some ⟨y,0,none⟩)] w fun e w'=>e=.returned (.bool (decide (lo≤t)))∧∃m',w'=w.drewN m':=by
 unfold maxLen at _hm
 go_enter Tryz.func150,Tryz.ntmps150
 go_wp2_with fail
 go_quiet (fail)
 go_wp2;go_ret;exact⟨by first|rfl|simp,_,rfl⟩
theorem iD {w:World}{s g n c x y i:Nat}{lo t:Int}{_u:Value}(hx:w.cell? ⟨x,0,none⟩=some (.pointer (some ⟨s,0,none⟩))) (hy:w.cell? ⟨y,0,none⟩=some (.int .i64 lo)) (hs:w.cell? ⟨s,0,none⟩=some (.slice (some ⟨g,0,none⟩) n c)) (ht:w.cell? ⟨g,i*3+1,none⟩=some (.int .i64 t)) (hi:i<n) (_hn:n≤4194304) (_hc:n≤c) (_hm:c≤maxLen) :
  Calls Tryz.prog 151 #[.int .i64 (i:Int), .pointer (some ⟨x,0,none⟩), .pointer (some ⟨y,0,none⟩)] w fun e w'=>e=.returned (.bool (decide (lo<t)))∧∃m',w'=w.drewN m':=by
 unfold maxLen at _hm
 go_enter Tryz.func151,Tryz.ntmps151
 go_wp2_with fail
 go_quiet (fail)
 go_wp2;go_ret;exact⟨by first|rfl|simp,_,rfl⟩
theorem CurE.pre {w wA w1:World}{v:Value}{l:List Ent}(hb:Below w.heap.size w wA) (h:CurE wA w1 v l):CurE w w1 v l:=⟨hb.trans (h.1.mono hb.size),yH h.2 hb.size⟩
theorem nK (w:World) (p q r:Value) (t1 t2 t3:TypeId):∃W,W=((w.alloc (Obj.cells #[p] t1)).alloc (Obj.cells #[q] t2)).alloc (Obj.cells #[r] t3)∧Below w.heap.size w W∧W.cell? ⟨w.heap.size,0,none⟩=some p∧W.cell? ⟨w.heap.size+1,0,none⟩=some q∧W.cell? ⟨w.heap.size+2,0,none⟩=some r∧W.heap.size=w.heap.size+3:=by
 refine⟨_,rfl,?_,?_,?_,?_,?_⟩
 ·have b1:=zv w (Obj.cells #[p] t1);have b2:=zv (w.alloc (Obj.cells #[p] t1)) (Obj.cells #[q] t2);have b3:=zv ((w.alloc (Obj.cells #[p] t1)).alloc (Obj.cells #[q] t2)) (Obj.cells #[r] t3);exact(b1.trans (b2.mono b1.size)).trans (b3.mono (b1.trans (b2.mono b1.size)).size)
 ·exact(zy (j:=0) (yj _ (yj _ (zj w #[p] t1))) rfl).1
 ·have:=zj (w.alloc (Obj.cells #[p] t1)) #[q] t2;rw[World.size_alloc]at this;exact(zy (j:=0) (yj _ this) rfl).1
 ·have:=zj ((w.alloc (Obj.cells #[p] t1)).alloc (Obj.cells #[q] t2)) #[r] t3;rw[World.size_alloc,World.size_alloc]at this;exact(zy (j:=0) this rfl).1
 ·simp
theorem nX {w:World}{B s mb:Nat}{es:List Ent}{ev:Value}(h:SegAt w B s es ev mb) (x:ByteArray) (hx:x.size≤maxLen) (lo hi:Int) (hl:es.length≤1048576) (ht:Tms es) :
  Calls Tryz.prog 92 #[.pointer (some ⟨s,0,none⟩), .string x, .int .i64 lo, .int .i64 hi] w fun e w'=>∃v,e=.returned v∧CurE w w' v (kK es x lo hi):=by
 obtain⟨i0,hi0,hz0,hz1,hz2⟩:=info_parts Tryz.info66;obtain⟨a,c,rfl,hc,hm⟩:=zu h.own;obtain⟨W,hW,hb,k1,k2,k3,hsz⟩:=nK w (.pointer (some ⟨s,0,none⟩)) (.int .i64 lo) (.int .i64 hi) 128 3 3;have hS:=h.below hb;obtain⟨q0,_⟩:=zy (j:=0) (u:=.slice a es.length c) hS.blk rfl;obtain⟨q1,_⟩:=zy (j:=1) (u:=.map (some mb)) hS.blk rfl
 have C1:Hid (Calls Tryz.prog 149 #[.int .i64 (es.length:Int), .func (.func 150) #[] #[.pointer (some ⟨w.heap.size,0,none⟩), .pointer (some ⟨w.heap.size+1,0,none⟩)]] W (jM W es.length (fun i=>decide (lo≤(es.getD i e0).time)))):=by
  refine pG es.length w.heap.size (w.heap.size+1) _ W (by omega) (fun i j hij hj hp=>decide_eq_true (Int.le_trans (of_decide_eq_true hp) (ht i j hij hj))) (fun i m hi'=>?_);obtain⟨g,rfl⟩:=zf hS.own (by omega);refine(iC (w:=W.drewN m) (s:=s) (g:=g) (n:=es.length) (c:=c) (_u:=.slice none 0 0) k1 k2 q0 (xR hS.own rfl hi').2.1 hi' (by omega) hc hm).mono ?_;rintro e w' ⟨rfl,m',rfl⟩;exact⟨rfl,m+m',by simp⟩
 have C2:Hid (∀m,Calls Tryz.prog 149 #[.int .i64 (es.length:Int), .func (.func 151) #[] #[.pointer (some ⟨w.heap.size,0,none⟩), .pointer (some ⟨w.heap.size+2,0,none⟩)]] (W.drewN m) (jM (W.drewN m) es.length (fun i=>decide (hi<(es.getD i e0).time)))):=by
  intro m0;refine pH es.length w.heap.size (w.heap.size+2) _ (W.drewN m0) (by omega) (fun i j hij hj hp=>decide_eq_true (Int.lt_of_lt_of_le (of_decide_eq_true hp) (ht i j hij hj))) (fun i m hi'=>?_);obtain⟨g,rfl⟩:=zf hS.own (by omega);refine(iD (w:=(W.drewN m0).drewN m) (s:=s) (g:=g) (n:=es.length) (c:=c) (_u:=.slice none 0 0) k1 k3 q0 (xR hS.own rfl hi').2.1 hi' (by omega) hc hm).mono ?_;rintro e w' ⟨rfl,m',rfl⟩;exact⟨rfl,m+m',by simp[Nat.add_assoc]⟩
 unfold maxLen at hm;have HS:=zx hS;have HB:=zx hb;have HSZ:=zx hsz;clear hS hb h ht hsz;generalize hn:es.length=n at *;have HN:=zx hn;clear hn;have q0':=q0;rw[hW]at q0';have HW:=zx hW;clear hW
 go_enter Tryz.func92,Tryz.ntmps92
 go_wp2_with fail;rw[←HW.out];refine C1.out.mono ?_;rintro e w1 ⟨fa,rfl,hfa,hfa1,hfa2,m1,rfl⟩;have HA:=zx (⟨hfa1,hfa2⟩:(∀i,i<fa→decide (lo≤(es.getD i e0).time)=false)∧∀i,fa≤i→i<n→decide (lo≤(es.getD i e0).time)=true);clear hfa1 hfa2 C1 q0';go_wp2_with fail;refine(C2.out _).mono ?_;rintro e w1 ⟨fb,rfl,hfb,hfb1,hfb2,m2,rfl⟩;have HB2:=zx (⟨hfb1,hfb2⟩:(∀i,i<fb→decide (hi<(es.getD i e0).time)=false)∧∀i,fb≤i→i<n→decide (hi<(es.getD i e0).time)=true);clear hfb1 hfb2 C2;rw[World.drewN_drewN];obtain⟨W2,hW2⟩:∃W2,W2=W.drewN (m1+m2):=⟨_,rfl⟩
 have HB3:Hid (Below w.heap.size w W2):=by rw[hW2];exact HB.out.trans ((yR W _).mono HB.out.size)
 have hS2:SegAt W2 B s es (.slice a n c) mb:=by rw[hW2];exact HS.out.below (yR W _)
 have k12:W2.cell? ⟨w.heap.size,0,none⟩=some (.pointer (some ⟨s,0,none⟩)):=by rw[hW2];exact k1
 rw[←hW2];obtain⟨q02,_⟩:=zy (j:=0) (u:=.slice a n c) hS2.blk rfl;obtain⟨q12,_⟩:=zy (j:=1) (u:=.map (some mb)) hS2.blk rfl;clear hW2 k1 k2 k3 q0 q1 HB HS HW HSZ;obtain⟨T,hlook,hT,hup,hlst⟩:=hS2.idx.look x hx;obtain⟨u,hu⟩:=WI.ptr_pointer T;rw[hu]at hlook
 have HSET:Hid (WI.SetAt (W2.alloc (Obj.cells #[.pointer u] 208)) W2.heap.size T):=by
  obtain⟨d1,d2⟩:=zy (j:=0) (u:=.pointer u) (zj W2 #[.pointer u] 208) rfl;exact⟨by rw[hu];exact d1,d2,InT.below (zv W2 _) hT,hup⟩
 have hlen:(lst T).length≤n:=by rw[hlst];unfold zV;rw[List.length_map];exact Nat.le_trans (List.length_filter_le _ _) (by simp[HN.out])
 have CB:=zx (WI.between_any W2.heap.size T (fa:Int) ((fb:Int)-1) _ HSET.out (by omega));rw[hlst]at CB;have HS2:=zx hS2;have HUP:=zx hup;clear hS2 hT hup hlst hlen HUP HSET;go_wp2_with (first|(go_at_call 152;refine CB.out.mono ?_;rintro e w4 ⟨v4,rfl,hc4⟩;obtain⟨a4,c4,rfl,hc4c,hc4m⟩:=zu hc4.2;have HC4:=zx hc4;clear hc4))
 have HLN:Hid (∀y∈tT (fun a b:Int=>a<b) (fa:Int) ((fb:Int)-1) (zV es x es.length),∃j:Nat,j<n∧y=(j:Int)):=by
  intro y hy;have:=(List.mem_filter.1 hy).1;unfold zV at this;obtain⟨j,hj,rfl⟩:=List.mem_map.1 this;have:=(List.mem_filter.1 hj).1;exact⟨j,by rw[←HN.out];simpa using this,rfl⟩
 have HEQ:=zx (aD (es:=es) (x:=x) (lo:=lo) (hi:=hi) (a:=fa) (b:=fb) (by rw[HN.out];exact hfa) (by rw[HN.out];exact hfb) HA.out.1 (by rw[HN.out];exact HA.out.2) HB2.out.1 (by rw[HN.out];exact HB2.out.2))
 have HLL:Hid ((tT (fun a b:Int=>a<b) (fa:Int) ((fb:Int)-1) (zV es x es.length)).length≤n):=by
  refine Nat.le_trans (List.length_filter_le _ _) ?_;unfold zV;rw[List.length_map];exact Nat.le_trans (List.length_filter_le _ _) (by simp[HN.out])
 have HS4:=zx ((HS2.out.below (zv W2 (Obj.cells #[.pointer u] 208))).below HC4.out.1)
 have HB4:Hid (Below w.heap.size w w4):=by
  have b1:=HB3.out.trans ((zv W2 (Obj.cells #[.pointer u] 208)).mono HB3.out.size);exact b1.trans (HC4.out.1.mono b1.size)
 have k14:w4.cell? ⟨w.heap.size,0,none⟩=some (.pointer (some ⟨s,0,none⟩)):=by
  have b1:=(zv W2 (Obj.cells #[.pointer u] 208)).cell (p:=⟨w.heap.size,0,none⟩) (World.block_lt_of_cell? _ _ k12);have e1:=b1.trans k12;exact(HC4.out.1.cell (p:=⟨w.heap.size,0,none⟩) (World.block_lt_of_cell? _ _ e1)).trans e1
 clear HA HB2 CB hlook k12 q02 q12 HB3;have HOW:=zx HC4.out.2;clear HC4 HS2;generalize tT (fun a b:Int=>a<b) (fa:Int) ((fb:Int)-1) (zV es x es.length)=L at *;have hLl:=HLL.out;generalize hln:L.length=ln at *;have HLEN:=zx hln;clear hln
 go_loopw [12,40] (fun v i wr=>∃k:Nat,k≤ln∧i=.int .i64 k∧CurE w4 wr v ((L.take k).map (fun i=>es.getD i.toNat e0))) (fun _ i _=>ln-(intOf i).toNat)
 case atStart=>exact⟨0,Nat.zero_le _,rfl,Below.refl _ _,World.ownsRow_nil _ _ _ _⟩
 case round=>
  obtain⟨k,hk,rfl,hcur⟩:=hrel;have HC:=zx hcur;clear hcur;by_cases hlt:k<ln
  ·obtain⟨g4,rfl⟩:=zf HOW.out (by omega);obtain⟨j,hj,hjy⟩:=HLN.out (L.getD k 0) (yI (by rw[HLEN.out];exact hlt))
   have d4:wr.cell? ⟨g4,k,none⟩=some (.int .i64 (j:Int)):=by
    have e:=zg HOW.out (j:=k) (u:=.int .i64 (j:Int)) (by
     rw[List.getElem?_map,List.getElem?_eq_getElem (by rw[HLEN.out];exact hlt)]
     have:L[k]'(by rw[HLEN.out];exact hlt)=(j:Int):=by rw[←hjy];simp[List.getD,HLEN.out,hlt]
     rw[this];rfl)
    exact(HC.out.1.cell (p:=⟨g4,k,none⟩) (World.block_lt_of_cell? _ _ e)).trans e
   have hSr:=HS4.out.below HC.out.1;have ho:=hSr.own;rw[HN.out]at ho;obtain⟨g,rfl⟩:=zf ho (by omega);obtain⟨q0,_⟩:=zy (j:=0) (u:=.slice (some ⟨g,0,none⟩) n c) hSr.blk rfl;obtain⟨e0',e1,e2⟩:=xR ho HN.out hj;have kr:=(HC.out.1.cell (p:=⟨w.heap.size,0,none⟩) (World.block_lt_of_cell? _ _ k14)).trans k14
   have HTK:Hid ((L.take (k+1)).map (fun i=>es.getD i.toNat e0)=(L.take k).map (fun i=>es.getD i.toNat e0)++[es.getD j e0]):=by
    show _=_;rw[zG (by rw[HLEN.out];exact hlt) 0,List.map_append,hjy];simp
   have hml:((L.take k).map (fun i=>es.getD i.toNat e0)).length=k:=by rw[List.length_map,List.length_take,HLEN.out];omega
   clear hSr ho hjy;generalize (L.take k).map (fun i=>es.getD i.toNat e0)=m at *;obtain⟨f,hf⟩:∃f,f=es.getD j e0:=⟨_,rfl⟩;rw[←hf]at e0' e1 e2;have HF:=zx hf;clear hf;obtain⟨fs,ft,fx⟩:=f;simp only at e0' e1 e2;have hsz4:=HC.out.1.size;go_wp2_with (first|(at_builtin;refine wpList_append_own _ rfl _ _ 57 rfl w4.heap.size 66 i0 (.agg #[.int .i64 0, .int .i64 0, .string ByteArray.empty]) 3 32 Tryz.underlying57 hi0 hz0 hz1 hz2 rfl (by decide) _ _ _ rfl (HC.out.2.alloc _) ⟨wr.heap.size,0,none⟩ 1 1 [.int .i64 fs, .int .i64 ft, .string fx] rfl rfl (yg _ _ _ _ _) (by intro u hu;simp at hu;rcases hu with rfl|rfl|rfl <;> rfl) (by unfold maxLen;omega) (by omega) (by simp;omega) ?_;intro v5 w5 hown5 hgrow5 _;have HC5:=zx (wk (e:=⟨fs,ft,fx⟩) HC.out hown5 hgrow5);clear hown5 hgrow5))
   go_roundw
   case rel=>exact⟨k+1,by omega,by go_num,by rw[HTK.out,←HF.out];exact HC5.out⟩
   case measure=>simp[intOf];omega
  ·have hke:k=ln:=by omega
   subst hke;have HF:Hid (L.take k=L):=List.take_of_length_le (by rw[HLEN.out];exact Nat.le_refl _);go_wp2;go_ret;exact⟨_,rfl,CurE.pre HB4.out (by have:=HC.out;rwa [HF.out,HEQ.out]at this)⟩
def kM (es:List Ent) (x:ByteArray) (lo hi:Int):Bool:=es.any (fun e=>ym x (wd e.text))&&decide ((es.getD 0 e0).time≤hi)&&decide (lo≤(es.getD (es.length-1) e0).time)
theorem iG (es:List Ent) (x:ByteArray):decide (0<(zV es x es.length).length)=es.any (fun e=>ym x (wd e.text)):=by
 rw[Bool.eq_iff_iff,decide_eq_true_eq,List.any_eq_true];unfold zV;rw[List.length_map,List.length_pos_iff_exists_mem];constructor
 ·rintro ⟨i,hi⟩;obtain⟨h1,h2⟩:=List.mem_filter.1 hi;exact⟨es.getD i e0,yI (by simpa using h1),h2⟩
 ·rintro ⟨e,he,hx⟩;obtain⟨i,hi,rfl⟩:=List.mem_iff_getElem.1 he;exact⟨i,List.mem_filter.2 ⟨by simpa using hi,by rw[show es.getD i e0=es[i] by simp[List.getD,hi]];exact hx⟩⟩
theorem iZ {w:World}{B s mb:Nat}{es:List Ent}{ev:Value}(h:SegAt w B s es ev mb) (x:ByteArray) (hx:x.size≤maxLen) (lo hi:Int) (hl:es.length≤1048576) :
  Calls Tryz.prog 93 #[.pointer (some ⟨s,0,none⟩), .string x, .int .i64 lo, .int .i64 hi] w fun e w'=>e=.returned (.bool (kM es x lo hi))∧Below w.heap.size w w':=by
 obtain⟨a,c,rfl,hc,hm⟩:=zu h.own;obtain⟨q0,_⟩:=zy (j:=0) (u:=.slice a es.length c) h.blk rfl;obtain⟨q1,_⟩:=zy (j:=1) (u:=.map (some mb)) h.blk rfl;obtain⟨T,hlook,hT,hup,hlst⟩:=h.idx.look x hx;obtain⟨u,hu⟩:=WI.ptr_pointer T;rw[hu]at hlook;obtain⟨W,hW⟩:∃W,W=w.alloc (Obj.cells #[.pointer u] 208):=⟨_,rfl⟩
 have HB0:Hid (Below w.heap.size w W):=by rw[hW];exact zv w _
 have hset:WI.SetAt W w.heap.size T:=by
  obtain⟨d1,d2⟩:=zy (j:=0) (u:=.pointer u) (zj w #[.pointer u] 208) rfl;rw[hW];exact⟨by rw[hu];exact d1,d2,InT.below (zv w _) hT,hup⟩
 have CL:Hid (∀d os,_):=fun d os=>Calls.regrown_of (w:=W) (d:=d) (os:=os) ((WI.len_any w.heap.size T (Sort.grow (redrawn W d) os) ⟨(cell_regrown hset.1 d os),by
   have:=(below_regrown W d os).frozen (p:=⟨w.heap.size,0,none⟩) (World.block_lt_of_cell? _ _ hset.1)
   exact this.trans hset.2.1,InT.below (below_regrown W d os) hset.2.2.1,hset.2.2.2⟩).mono fun e w' q=>⟨q.1,by rw[q.2];exact Below.refl _ _⟩)
 have hh:=iG es x;rw[←hlst]at hh;have hS:=h.below HB0.out;obtain⟨q0',_⟩:=zy (j:=0) (u:=.slice a es.length c) hS.blk rfl;have e0':=cell_regrown q0'
 have hNn:(lst T).length≤es.length:=by rw[hlst];unfold zV;rw[List.length_map];exact Nat.le_trans (List.length_filter_le _ _) (by simp)
 have HO:=zx hS.own;unfold maxLen at hm;generalize hmt:kM es x lo hi=mt;unfold kM at hmt;rw[←hh]at hmt;clear hh hset h hT hup hlst hS q0';generalize (lst T).length=N at *;generalize ht0:(es.getD 0 e0).time=t0 at *;generalize ht1:(es.getD (es.length-1) e0).time=t1 at *;have HT0:=zx ht0;have HT1:=zx ht1;clear ht0 ht1;generalize hn:es.length=n at *;have HN:=zx hn;clear hn;have HMT:=zx hmt;have HW:=zx hW;clear hmt hW hu
 have HCS:Hid ((N=0)∨(0<N∧decide (t0≤hi)=false)∨(0<N∧decide (t0≤hi)=true)):=by
  show _∨_
  cases decide (t0≤hi) <;> simp <;> omega
 rcases HCS.out with hN|⟨hN,h1⟩|⟨hN,h1⟩
 ·subst hN
  have HF:Hid (mt=false):=by rw[←HMT.out];rfl
  clear HMT HCS
  go_enter Tryz.func93,Tryz.ntmps93
  go_wp2_with fail;rw[←HW.out];refine wp_region_quiet_below (by kernel_rfl) (by kernel_rfl) ?_
  repeat(go_big_quiet_step (first|(go_at_call 153;exact CL.out _ _)))
  refine wpQuiet_nil ?_;intro _ hw';obtain⟨⟨dq,osq⟩,hw''⟩:=hw';subst hw'';go_wp2;go_ret;exact⟨by rw[HF.out];rfl,HB0.out.trans ((below_regrown W dq osq).mono HB0.out.size)⟩
 all_goals (
  have ho:=HO.out;obtain⟨g,rfl⟩:=zf ho (by omega);obtain⟨_,d0,_⟩:=xR ho HN.out (k:=0) (by omega);obtain⟨_,d1,_⟩:=xR ho HN.out (k:=n-1) (by omega);rw[HT0.out,Nat.zero_mul,Nat.zero_add]at d0;rw[HT1.out]at d1;have d0':=cell_regrown d0;have d1':=cell_regrown d1
  have hcast:(n:Int)-1=((n-1:Nat):Int):=by omega
  have hpos:0<n:=by omega
  clear ho d0 d1 HO HCS
  go_enter Tryz.func93,Tryz.ntmps93
  go_wp2_with fail;rw[←HW.out];refine wp_region_quiet_below (by kernel_rfl) (by kernel_rfl) ?_
  repeat(go_big_quiet_step (first|(go_at_call 153;exact CL.out _ _)))
  refine wpQuiet_nil ?_;intro _ hw';obtain⟨⟨dq,osq⟩,hw''⟩:=hw';subst hw'';go_wp2;go_ret;refine⟨?_,HB0.out.trans ((below_regrown W dq osq).mono HB0.out.size)⟩;rw[←HMT.out,decide_eq_true hN]
  rw[h1];rfl)
theorem za {fn:Func}{p:Tmp}{ty:TypeId}(h:fn.results=#[.cell p ty]) (tmps:Array Value) (P:Program) (w:World) :
  (results fn tmps).run P w=((asAddr (tmps.getD p undef)).run P w).andThen fun a w₁=>(loadVar ty a).run P w₁:=by
 simp only[results,h];simp[Sem.run_bind,Result.andThen]
theorem sI {es:List Ent}{x:ByteArray}{y:Int}(h:y∈zV es x es.length):∃j:Nat,j<es.length∧y=(j:Int):=by
 unfold zV at h;obtain⟨j,hj,rfl⟩:=List.mem_map.1 h;exact⟨j,by simpa using (List.mem_filter.1 hj).1,rfl⟩
theorem tK {w:World}{nb:Nat}{T:BT Int}(h:WI.SetAt w nb T) (i:Nat) (hi:i<(lst T).length) (hb:(lst T).length≤4611686018427) :
  Calls Tryz.prog 219 #[.int .i64 (i:Int), .pointer (some ⟨nb,0,none⟩)] w fun e w'=>e=.returned (.int .i64 ((lst T).getD i 0))∧w'=w:=by
 have CA:=zx (WI.at_in nb T i w h hi hb);clear h;generalize (lst T).getD i 0=y at *
 go_enter Tryz.func219,Tryz.ntmps219
 go_wp2_with (first|(go_at_call 183;refine CA.out.mono ?_;rintro e w2 ⟨rfl,rfl⟩));go_ret;exact⟨rfl,rfl⟩
theorem mh {w:World}{s g n c x y z nb i j:Nat}{T:BT Int}{place t:Int}(h:WI.SetAt w nb T) (hi:i<(lst T).length) (hb:(lst T).length≤4611686018427) (hj:(lst T).getD i 0=(j:Int)) (hjn:j<n)
  (hx:w.cell? ⟨x,0,none⟩=some (.pointer (some ⟨s,0,none⟩))) (hy:w.cell? ⟨y,0,none⟩=some (.func (.func 219) #[] #[.pointer (some ⟨nb,0,none⟩)])) (hz:w.cell? ⟨z,0,none⟩=some (.int .i64 place))
  (hs:w.cell? ⟨s,0,none⟩=some (.slice (some ⟨g,0,none⟩) n c)) (ht:w.cell? ⟨g,j*3,none⟩=some (.int .i64 t)) (_hn:n≤4194304) (_hc:n≤c) (_hm:c≤maxLen) :
  Calls Tryz.prog 220 #[.int .i64 (i:Int), .pointer (some ⟨x,0,none⟩), .pointer (some ⟨y,0,none⟩), .pointer (some ⟨z,0,none⟩)] w fun e w'=>e=.returned (.bool (decide (place≤t)))∧∃m',w'=w.drewN m':=by
 unfold maxLen at _hm
 have CA:Hid (∀m,Calls Tryz.prog 219 #[.int .i64 (i:Int), .pointer (some ⟨nb,0,none⟩)] (w.drewN m) fun e w'=>e=.returned (.int .i64 (j:Int))∧w'=w.drewN m):=by
  intro m;have:=tK (w:=w.drewN m) (nb:=nb) (T:=T) ⟨h.1,h.2.1,WI.inT_drewN h.2.2.1,h.2.2.2⟩ i hi hb
  rwa [hj]at this
 clear h hi hb hj
 go_enter Tryz.func220,Tryz.ntmps220
 go_wp2_with fail
 go_quiet (first
  | (go_at_call 219;exact Calls.quiet_of_same (CA.out _)))
 go_wp2;go_ret;exact⟨rfl,_,rfl⟩
theorem Tryz.info142:(Tryz.prog.info? 142).map (fun i=>(i.zero,i.size,i.bytes))=some (some (.agg #[.int .i64 0, .int .i64 0, .int .i64 0]),3,24):=by kernel_rfl
theorem ir {w:World}{B s mb:Nat}{es:List Ent}{ev:Value}(h:SegAt w B s es ev mb) (hl:es.length≤1048576) (h0:0<es.length) :
  Calls Tryz.prog 55 #[.pointer (some ⟨s,0,none⟩)] w fun e w'=>e=.returned (.agg #[.int .i64 (es.getD 0 e0).seq, .int .i64 (es.getD (es.length-1) e0).seq, .int .i64 (es.length:Int)])∧Below w.heap.size w w':=by
 obtain⟨a,c,rfl,hc,hm⟩:=zu h.own;unfold maxLen at hm;obtain⟨g,rfl⟩:=zf h.own h0
 have hsz:(Tryz.prog.info? 142).map (·.size)=some 3:=by
  have:=Tryz.info142
  cases h':Tryz.prog.info? 142 with
  | none=>rw[h']at this;cases this
  | some i=>rw[h']at this;simp at this;simp[this]
 have HB1:=zx (zv w (Obj.cells #[.int .i64 0, .int .i64 0, .int .i64 0] 142));have HBK:=zx (zj w #[.int .i64 0, .int .i64 0, .int .i64 0] 142);have hS:=h.below HB1.out;obtain⟨q0,_⟩:=zy (j:=0) (u:=.slice (some ⟨g,0,none⟩) es.length c) hS.blk rfl;obtain⟨d0,_,_⟩:=xR hS.own rfl (k:=0) h0;obtain⟨d1,_,_⟩:=xR hS.own rfl (k:=es.length-1) (by omega);rw[Nat.zero_mul]at d0;clear h hS;generalize (es.getD 0 e0).seq=t0 at *;generalize (es.getD (es.length-1) e0).seq=t1 at *;obtain⟨k,hk⟩:∃k,es.length=k+1:=⟨es.length-1,by omega⟩;rw[hk]at q0 d1 hc hl ⊢;rw[Nat.add_sub_cancel]at d1;clear hk h0
 have hka:((k+1:Nat):Int)-1=(k:Int):=by omega
 go_enter Tryz.func55,Tryz.ntmps55
 go_wp2_with fail;obtain⟨nb,hnb⟩:∃nb,nb=w.heap.size:=⟨_,rfl⟩;have HNB:=zx hnb;rw[←hnb]at HBK ⊢;generalize w.alloc (Obj.cells #[.int .i64 0, .int .i64 0, .int .i64 0] 142)=w1 at *;clear hnb;obtain⟨b0,g0⟩:=zy (j:=0) (u:=.int .i64 0) HBK.out rfl;obtain⟨b1,g1⟩:=zy (j:=1) (u:=.int .i64 0) HBK.out rfl;obtain⟨b2,g2⟩:=zy (j:=2) (u:=.int .i64 0) HBK.out rfl
 have FIN:Hid (∀(W:World) (p q r:Value),Below w1.heap.size w1 W→Below w.heap.size w (((W.setCell ⟨nb,0,none⟩ p).setCell ⟨nb,1,none⟩ q).setCell ⟨nb,2,none⟩ r)∧(((W.setCell ⟨nb,0,none⟩ p).setCell ⟨nb,1,none⟩ q).setCell ⟨nb,2,none⟩ r).heap[nb]? = some (Obj.cells #[p,q,r] 142 (0,0))):=by
  intro W p q r hW;have hBW:=HB1.out.trans (hW.mono HB1.out.size);have hbk:=(hW.block nb (Mth.gI HBK.out)).trans HBK.out;exact⟨zZ (zZ (zZ hBW (by rw[HNB.out];exact Nat.le_refl _)) (by rw[HNB.out];exact Nat.le_refl _)) (by rw[HNB.out];exact Nat.le_refl _),ze (ze (ze hbk))⟩
 go_wp2_with fail
 go_region
 have f:=FIN.out w1 (.int .i64 t0) (.int .i64 t1) (.int .i64 ((k:Int)+1)) (Below.refl _ _);have hld:=run_loadVar_row (P:=Tryz.prog) (((w1.setCell ⟨nb,0,none⟩ (.int .i64 t0)).setCell ⟨nb,1,none⟩ (.int .i64 t1)).setCell ⟨nb,2,none⟩ (.int .i64 ((k:Int)+1))).drew nb 142 142 _ _ _ f.2 Tryz.underlying142 rfl hsz;have HLD:=zx hld;have HF:=zx f.1;clear hld f;go_wp2
 (try simp only[Exit.inBlock,Exit.then])
 refine bodyPost_ret (v:=.agg #[.int .i64 t0, .int .i64 t1, .int .i64 ((k:Int)+1)]) ?_ rfl ⟨by rw[show((k+1:Nat):Int)=(k:Int)+1 by omega],⟨HF.out.os,HF.out.tape,HF.out.output,HF.out.size,HF.out.block⟩⟩;have hld:=HLD.out;rw[za rfl];simp[asAddr,Result.andThen,hld]
theorem tI {α:Type}(p:α→Bool) (z:α):∀(l:List α) (k:Nat),k≤l.length→(∀i,i<k→p (l.getD i z)=false)→(∀i,k≤i→i<l.length→p (l.getD i z)=true)→l.filter p=l.drop k
 | [],k,_,_,_=>by simp
 | a::l,0,_,_,h2=>by
  rw[List.drop_zero,List.filter_eq_self];intro b hb;obtain⟨i,hi,rfl⟩:=List.mem_iff_getElem.1 hb;have:=h2 i (Nat.zero_le _) hi
  rwa [show(a::l).getD i z=(a::l)[i] by rw[List.getD,List.getElem?_eq_getElem hi];rfl]at this
 | a::l,k+1,hk,h1,h2=>by
  have ha:=h1 0 (by omega);rw[List.filter_cons_of_neg (by simpa using ha),List.drop_succ_cons];exact tI p z l k (by simpa using hk) (fun i hi=>by simpa using h1 (i+1) (by omega)) (fun i hi hl=>by simpa using h2 (i+1) (by omega) (by simpa using hl))
def flw (es:List Ent) (x:ByteArray) (place:Int) (most:Nat):List Ent:=(es.filter (fun e=>ym x (wd e.text)&&decide (place≤e.seq))).take most
def bJ (es:List Ent):Prop:=∀i j,i≤j→j<es.length→(es.getD i e0).seq≤(es.getD j e0).seq
theorem iF (es:List Ent) (x:ByteArray):(zV es x es.length).map (fun i=>es.getD i.toNat e0)=es.filter (fun e=>ym x (wd e.text)):=by
 unfold zV;rw[List.map_map,←qm es e0];congr 1
theorem dh (es:List Ent) (x:ByteArray):(zV es x es.length).Pairwise (fun a b:Int=>a<b):=by
 unfold zV;rw[List.pairwise_map];refine List.Pairwise.imp (fun h=>by omega) (List.Pairwise.filter _ List.pairwise_lt_range)
theorem aC {es:List Ent}{x:ByteArray}{place:Int}{most k:Nat}(hk:k≤(zV es x es.length).length)
  (h1:∀i,i<k→decide (place≤(es.getD ((zV es x es.length).getD i 0).toNat e0).seq)=false) (h2:∀i,k≤i→i<(zV es x es.length).length→decide (place≤(es.getD ((zV es x es.length).getD i 0).toNat e0).seq)=true) :
  (((zV es x es.length).drop k).take most).map (fun i=>es.getD i.toNat e0)=flw es x place most:=by
 unfold flw
 have hg:∀i,i<(zV es x es.length).length→((zV es x es.length).map (fun i=>es.getD i.toNat e0)).getD i e0=es.getD ((zV es x es.length).getD i 0).toNat e0:=by
  intro i hi;simp[List.getD,hi]
 have:=tI (fun e:Ent=>decide (place≤e.seq)) e0 ((zV es x es.length).map (fun i=>es.getD i.toNat e0)) k (by rw[List.length_map];exact hk) (fun i hi=>by rw[hg i (by omega)];exact h1 i hi) (fun i hi hl=>by rw[List.length_map]at hl;rw[hg i hl];exact h2 i hi hl);rw[List.map_take,List.map_drop,←this,iF,List.filter_filter];congr 1;apply List.filter_congr;intro e _;rw[Bool.and_comm]
theorem kg {w:World}{B s mb:Nat}{es:List Ent}{ev:Value}(h:SegAt w B s es ev mb) (x:ByteArray) (hx:x.size≤maxLen) (place:Int) (most:Nat) (hmost:most≤100) (hl:es.length≤1048576) (hq:bJ es) :
  Calls Tryz.prog 154 #[.pointer (some ⟨s,0,none⟩), .string x, .int .i64 place, .int .i64 (most:Int)] w fun e w'=>∃v,e=.returned v∧CurE w w' v (flw es x place most):=by
 obtain⟨i0,hi0,hz0,hz1,hz2⟩:=info_parts Tryz.info66;obtain⟨a,c,rfl,hc,hm⟩:=zu h.own;obtain⟨W0,hW0⟩:∃W0,W0=(w.alloc (Obj.cells #[.pointer (some ⟨s,0,none⟩)] 128)).alloc (Obj.cells #[.int .i64 place] 3):=⟨_,rfl⟩
 have hb0:Below w.heap.size w W0:=by
  rw[hW0];have b1:=zv w (Obj.cells #[.pointer (some ⟨s,0,none⟩)] 128);exact b1.trans ((zv _ _).mono b1.size)
 have hs0:W0.heap.size=w.heap.size+1+1:=by rw[hW0];simp
 have kx0:W0.heap[w.heap.size]? = some (Obj.cells #[.pointer (some ⟨s,0,none⟩)] 128 (0,0)):=by rw[hW0];exact yj _ (zj w _ _)
 have kz0:W0.heap[w.heap.size+1]? = some (Obj.cells #[.int .i64 place] 3 (0,0)):=by
  rw[hW0];have:=zj (w.alloc (Obj.cells #[.pointer (some ⟨s,0,none⟩)] 128)) #[.int .i64 place] 3
  rwa [World.size_alloc]at this
 have hS0:=h.below hb0;obtain⟨T,hlook,hT,hup,hlst⟩:=hS0.idx.look x hx;obtain⟨u,hu⟩:=WI.ptr_pointer T;rw[hu]at hlook;obtain⟨q1,_⟩:=zy (j:=1) (u:=.map (some mb)) hS0.blk rfl;obtain⟨fv,hfv⟩:∃fv,fv=Value.func (.func 219) #[] #[.pointer (some ⟨w.heap.size+1+1,0,none⟩)]:=⟨_,rfl⟩;obtain⟨W,hW⟩:∃W,W=(W0.alloc (Obj.cells #[.pointer u] 208)).alloc (Obj.cells #[fv] 242):=⟨_,rfl⟩
 have hb1:Below W0.heap.size W0 W:=by
  rw[hW];have b1:=zv W0 (Obj.cells #[.pointer u] 208);exact b1.trans ((zv _ _).mono b1.size)
 have hset:WI.SetAt W (w.heap.size+1+1) T:=by
  rw[hW,←hs0];obtain⟨d1,d2⟩:=zy (j:=0) (u:=.pointer u) (yj (Obj.cells #[fv] 242) (zj W0 #[.pointer u] 208)) rfl;exact⟨by rw[hu];exact d1,d2,InT.below (by rw[hW]at hb1;exact hb1) hT,hup⟩
 have ky:W.cell? ⟨w.heap.size+1+1+1,0,none⟩=some fv:=by
  have:=zj (W0.alloc (Obj.cells #[.pointer u] 208)) #[fv] 242;rw[World.size_alloc,hs0]at this;rw[hW];exact(zy (j:=0) this rfl).1
 have kx:=(zy (j:=0) (u:=.pointer (some ⟨s,0,none⟩)) ((hb1.block _ (Mth.gI kx0)).trans kx0) rfl).1;have kz:=(zy (j:=0) (u:=.int .i64 place) ((hb1.block _ (Mth.gI kz0)).trans kz0) rfl).1;have hS:=hS0.below hb1;have HB:=zx (hb0.trans (hb1.mono hb0.size))
 have hlen:(lst T).length≤es.length:=by rw[hlst];exact tf es x _
 have hin:∀i,i<(lst T).length→∃j:Nat,j<es.length∧(lst T).getD i 0=(j:Int):=fun i hi=>sI (x:=x) (by have:=yI (z:=(0:Int)) hi;rw[hlst]at this;rw[hlst];exact this)
 have hmono:∀i j,i≤j→j<(lst T).length→(lst T).getD i 0≤(lst T).getD j 0:=by
  intro i j hij hj
  rcases Nat.eq_or_lt_of_le hij with e|e
  ·rw[e];exact Int.le_refl _
  ·have:=List.pairwise_iff_getElem.1 hup i j (by omega) hj e;rw[show(lst T).getD i 0=(lst T)[i]'(by omega) by simp[List.getD,show i<(lst T).length by omega],show(lst T).getD j 0=(lst T)[j] by simp[List.getD,hj]];omega
 have CL:=zx (WI.len_any (w.heap.size+1+1) T W hset)
 have C1:Hid (Calls Tryz.prog 149 #[.int .i64 ((lst T).length:Int), .func (.func 220) #[] #[.pointer (some ⟨w.heap.size,0,none⟩), .pointer (some ⟨w.heap.size+1+1+1,0,none⟩), .pointer (some ⟨w.heap.size+1,0,none⟩)]] W (jM W (lst T).length (fun i=>decide (place≤(es.getD ((lst T).getD i 0).toNat e0).seq)))):=by
  refine rL (lst T).length w.heap.size (w.heap.size+1+1+1) (w.heap.size+1) _ W (by omega) (fun i j hij hj hp=>?_) (fun i m hi'=>?_)
  ·obtain⟨j1,hj1,e1⟩:=hin i (by omega);obtain⟨j2,hj2,e2⟩:=hin j hj;have hm2:=hmono i j hij hj;rw[e1,Int.toNat_natCast]at hp;rw[e2,Int.toNat_natCast];rw[e1,e2]at hm2;exact decide_eq_true (Int.le_trans (of_decide_eq_true hp) (hq j1 j2 (by omega) hj2))
  ·obtain⟨g,rfl⟩:=zf hS.own (by have:=hin i hi';omega);obtain⟨j1,hj1,e1⟩:=hin i hi';obtain⟨q0,_⟩:=zy (j:=0) (u:=.slice (some ⟨g,0,none⟩) es.length c) hS.blk rfl;refine(mh (w:=W.drewN m) (s:=s) (g:=g) (n:=es.length) (c:=c) (nb:=w.heap.size+1+1) (i:=i) (j:=j1) (T:=T) (t:=(es.getD ((lst T).getD i 0).toNat e0).seq) ⟨hset.1,hset.2.1,WI.inT_drewN hset.2.2.1,hset.2.2.2⟩ hi' (by omega) e1 hj1 kx (by rw[hfv]at ky;exact ky) kz q0 (by rw[e1,Int.toNat_natCast];exact(xR hS.own rfl hj1).1) (by omega) hc hm).mono ?_;rintro e w' ⟨rfl,m',rfl⟩;exact⟨rfl,m+m',by simp⟩
 rw[hW0]at q1 hlook;unfold maxLen at hm;have HS:=zx hS;have HSET:=zx hset;have HIN:=zx hin;have HLST:=zx hlst;have HFV:=zx hfv;have HW:=zx hW;have HW0:=zx hW0;have HKX:=zx kx;have HKY:=zx ky;clear hS hS0 hset hin hlst hmono h hb0 hb1 hs0 kx0 kz0 kz hq hT hup hu ky kx;generalize hn:es.length=n at *;have HN:=zx hn;clear hn;generalize hNT:(lst T).length=NT at *;have HNT:=zx hNT;clear hNT;subst hfv;clear hW hW0
 go_enter Tryz.func154,Tryz.ntmps154
 go_wp2_with fail;rw[←HW0.out,←HW.out];refine CL.out.mono ?_;rintro e w1 ⟨rfl,rfl⟩;clear CL hlook q1
 have CL2:Hid (∀W,WI.SetAt W (w.heap.size+1+1) T→Calls Tryz.prog 153 #[.pointer (some ⟨w.heap.size+1+1,0,none⟩)] W fun e w'=>e=.returned (.int .i64 (NT:Int))∧w'=W):=fun W h=>by rw[←HNT.out];exact WI.len_any _ T W h
 go_wp2_with fail;refine C1.out.mono ?_;rintro e w2 ⟨fa,rfl,hfa,hfa1,hfa2,m1,rfl⟩;have HA:=zx (⟨hfa1,hfa2⟩:(∀i,i<fa→decide (place≤(es.getD ((lst T).getD i 0).toNat e0).seq)=false)∧∀i,fa≤i→i<NT→decide (place≤(es.getD ((lst T).getD i 0).toNat e0).seq)=true);clear hfa1 hfa2 C1;have HS2:=zx (HS.out.below (yR w1 m1));have HSET2:Hid (WI.SetAt (w1.drewN m1) (w.heap.size+1+1) T):=⟨HSET.out.1,HSET.out.2.1,WI.inT_drewN HSET.out.2.2.1,HSET.out.2.2.2⟩;have HKX2:Hid ((w1.drewN m1).cell? ⟨w.heap.size,0,none⟩=some (.pointer (some ⟨s,0,none⟩))):=HKX.out;have HKY2:Hid ((w1.drewN m1).cell? ⟨w.heap.size+1+1+1,0,none⟩=some (Value.func (.func 219) #[] #[.pointer (some ⟨w.heap.size+1+1,0,none⟩)])):=HKY.out;have HB2:=zx (HB.out.trans ((yR w1 m1).mono HB.out.size));clear HS HSET HKX HKY HB HW HW0;generalize w1.drewN m1=W4 at *;go_wp2_with fail;obtain⟨q,hq⟩:∃q,q=min (fa+most) NT-fa:=⟨_,rfl⟩
 have HEQ:Hid (((((lst T).drop fa).take q).map (fun i=>es.getD i.toNat e0))=flw es x place most):=by
  have hh:=HLST.out;have h1:=aC (es:=es) (x:=x) (place:=place) (most:=most) (k:=fa) (by rw[HN.out,←hh,HNT.out];exact hfa) (by rw[HN.out,←hh];exact HA.out.1) (by rw[HN.out,←hh,HNT.out];exact HA.out.2);rw[HN.out,←hh]at h1;show _=_;rw[←h1];congr 1;rw[List.take_eq_take_iff,List.length_drop,HNT.out];omega
 have hmin:min ((fa:Int)+(most:Int)) (NT:Int)=((fa+q:Nat):Int):=by omega
 have hqN:fa+q≤NT:=by omega
 have hqm:q≤most:=by omega
 clear hq HA
 have hadd:∀k:Nat,((fa+k:Nat):Int)=(fa:Int)+(k:Int):=fun k=>by omega
 go_loopw [12,13] (fun v i wr=>∃k:Nat,k≤q∧i=.int .i64 ((fa+k:Nat):Int)∧CurE W4 wr v ((((lst T).drop fa).take k).map (fun i=>es.getD i.toNat e0))) (fun _ i _=>fa+q-(intOf i).toNat)
 case atStart=>exact⟨0,Nat.zero_le _,rfl,Below.refl _ _,World.ownsRow_nil _ _ _ _⟩
 case round=>
  obtain⟨k,hk,rfl,hcur⟩:=hrel;have HC:=zx hcur;clear hcur;have hsetr:WI.SetAt wr (w.heap.size+1+1) T:=⟨(HC.out.1.cell (p:=⟨w.heap.size+1+1,0,none⟩) (World.block_lt_of_cell? _ _ HSET2.out.1)).trans HSET2.out.1,(HC.out.1.frozen (p:=⟨w.heap.size+1+1,0,none⟩) (World.block_lt_of_cell? _ _ HSET2.out.1)).trans HSET2.out.2.1,InT.below HC.out.1 HSET2.out.2.2.1,HSET2.out.2.2.2⟩;have CL3:=zx (CL2.out wr hsetr);by_cases hlt:k<q
  ·obtain⟨j,hj,hjy⟩:=HIN.out (fa+k) (by omega)
   have CA:Hid (∀m,Calls Tryz.prog 219 #[.int .i64 ((fa+k:Nat):Int), .pointer (some ⟨w.heap.size+1+1,0,none⟩)] (wr.drewN m) fun e w'=>e=.returned (.int .i64 (j:Int))∧w'=wr.drewN m):=by
    intro m;have:=tK (w:=wr.drewN m) (nb:=w.heap.size+1+1) (T:=T) ⟨hsetr.1,hsetr.2.1,WI.inT_drewN hsetr.2.2.1,hsetr.2.2.2⟩ (fa+k) (by rw[HNT.out];omega) (by rw[HNT.out];omega)
    rwa [hjy]at this
   have hSr:=HS2.out.below HC.out.1;have ho:=hSr.own;rw[HN.out]at ho;obtain⟨g,rfl⟩:=zf ho (by omega);obtain⟨q0,_⟩:=zy (j:=0) (u:=.slice (some ⟨g,0,none⟩) n c) hSr.blk rfl;obtain⟨e0',e1,e2⟩:=xR ho HN.out hj;have kr:=(HC.out.1.cell (p:=⟨w.heap.size,0,none⟩) (World.block_lt_of_cell? _ _ HKX2.out)).trans HKX2.out;have kf:=(HC.out.1.cell (p:=⟨w.heap.size+1+1+1,0,none⟩) (World.block_lt_of_cell? _ _ HKY2.out)).trans HKY2.out
   have HTK:Hid ((((lst T).drop fa).take (k+1)).map (fun i=>es.getD i.toNat e0)=(((lst T).drop fa).take k).map (fun i=>es.getD i.toNat e0)++[es.getD j e0]):=by
    show _=_;rw[zG (by rw[List.length_drop,HNT.out];omega) 0,List.map_append];congr 1;rw[List.map_cons,List.map_nil,show((lst T).drop fa).getD k 0=(lst T).getD (fa+k) 0 by simp[List.getD,List.getElem?_drop],hjy,Int.toNat_natCast]
   have hml:((((lst T).drop fa).take k).map (fun i=>es.getD i.toNat e0)).length=k:=by rw[List.length_map,List.length_take,List.length_drop,HNT.out];omega
   clear hSr ho hjy hsetr;generalize (((lst T).drop fa).take k).map (fun i=>es.getD i.toNat e0)=m at *;obtain⟨f,hf⟩:∃f,f=es.getD j e0:=⟨_,rfl⟩;rw[←hf]at e0' e1 e2;have HF:=zx hf;clear hf;obtain⟨fs,ft,fx⟩:=f;simp only at e0' e1 e2;have hsz4:=HC.out.1.size;generalize hfk:fa+k=fk at *
   have hlt2:(fk:Int)<((fa+q:Nat):Int):=by omega
   go_wp2_with (first|(go_at_call 153;refine CL3.out.mono ?_;rintro e w' ⟨rfl,hw⟩;rw[hw];clear hw w'))
   have HK4:Hid (∀w5,Below W4.heap.size W4 w5→w5.cell? ⟨w.heap.size,0,none⟩=some (.pointer (some ⟨s,0,none⟩))∧w5.cell? ⟨w.heap.size+1+1+1,0,none⟩=some (Value.func (.func 219) #[] #[.pointer (some ⟨w.heap.size+1+1,0,none⟩)])∧w5.cell? ⟨s,0,none⟩=some (.slice (some ⟨g,0,none⟩) n c)∧w5.cell? ⟨g,j*3,none⟩=some (.int .i64 fs)∧w5.cell? ⟨g,j*3+1,none⟩=some (.int .i64 ft)∧w5.cell? ⟨g,j*3+2,none⟩=some (.string fx)):=by
    intro w5 hb5;have hSr:=HS2.out.below hb5;have ho:=hSr.own;rw[HN.out]at ho;obtain⟨d0,d1,d2⟩:=xR ho HN.out hj;rw[←HF.out]at d0 d1 d2;exact⟨(hb5.cell (p:=⟨w.heap.size,0,none⟩) (World.block_lt_of_cell? _ _ HKX2.out)).trans HKX2.out,(hb5.cell (p:=⟨w.heap.size+1+1+1,0,none⟩) (World.block_lt_of_cell? _ _ HKY2.out)).trans HKY2.out,(zy (j:=0) hSr.blk rfl).1,d0,d1,d2⟩
   go_region_held3 (fun w'=>w'.cell? ⟨w.heap.size,0,none⟩=some (.pointer (some ⟨s,0,none⟩))∧w'.cell? ⟨w.heap.size+1+1+1,0,none⟩=some (Value.func (.func 219) #[] #[.pointer (some ⟨w.heap.size+1+1,0,none⟩)])∧w'.cell? ⟨s,0,none⟩=some (.slice (some ⟨g,0,none⟩) n c)∧w'.cell? ⟨g,j*3,none⟩=some (.int .i64 fs)∧w'.cell? ⟨g,j*3+1,none⟩=some (.int .i64 ft)∧w'.cell? ⟨g,j*3+2,none⟩=some (.string fx)) (first|exact⟨by assumption,by assumption,by assumption,by assumption,by assumption,by assumption⟩|go_keep)
    (first
     | (go_at_call 219;refine(CA.out 1).mono ?_;rintro e w' ⟨rfl,rfl⟩)
     | (refine wW _ rfl _ _ 57 rfl W4.heap.size 66 i0 (.agg #[.int .i64 0, .int .i64 0, .string ByteArray.empty]) 3 32 Tryz.underlying57 hi0 hz0 hz1 hz2 rfl (by decide) _ _ _ rfl (by exact(rt (n:=1) HC.out).2.alloc _) ⟨wr.heap.size,0,none⟩ 1 1 [.int .i64 fs, .int .i64 ft, .string fx] rfl rfl (by exact yg (wr.drewN 1) _ _ _ _) (by intro u hu;simp at hu;rcases hu with rfl|rfl|rfl <;> rfl) (by unfold maxLen;omega) (by omega) (by simp;omega) ?_;intro v5 w5 hown5 hgrow5;have HC5:=zx (wk (e:=⟨fs,ft,fx⟩) (rt (n:=1) HC.out) hown5 hgrow5);obtain⟨r0,r1,r2,r3,r4,r5⟩:=HK4.out w5 HC5.out.1;clear hown5 hgrow5))
   go_wp2
   go_roundw
   case rel=>exact⟨k+1,by omega,by rw[show fa+(k+1)=fk+1 by omega];go_num,by rw[HTK.out,←HF.out];exact HC5.out⟩
   case measure=>simp[intOf];omega
  ·have hke:k=q:=by omega
   subst hke;clear hsetr;go_wp2_with (first|(go_at_call 153;refine CL3.out.mono ?_;rintro e w' ⟨rfl,hw⟩;rw[hw];clear hw w'));go_ret;exact⟨_,rfl,CurE.pre HB2.out (by have:=HC.out;rwa [HEQ.out]at this)⟩
end Go.Proofs.YtkncboinfcnklaaGreatDoor
