import Derived.Test.YtkncboinfcnklaaGreatDoorQ34
set_option maxRecDepth 100000
set_option maxHeartbeats 8000000
namespace Go.Proofs.YtkncboinfcnklaaGreatDoor.Rl
open Go.RowKit Go.Deep Go.Shelf Go.Proofs.YtkncboinfcnklaaGreatDoor.Mth
def TyF (w w':World):Prop:=∀(g:Nat) (C:Array Value) (t:TypeId),w.heap[g]? = some (Obj.cells C t (0,0))→(t=94∨t=245)→w'.heap[g]? = w.heap[g]?
theorem TyF.trans {w w1 w2:World}(h1:TyF w w1) (h2:TyF w1 w2):TyF w w2:=fun g C t hg ht=>(h2 g C t ((h1 g C t hg ht).trans hg) ht).trans (h1 g C t hg ht)
theorem TyF.below {w w':World}(h:Below w.heap.size w w'):TyF w w':=fun g _ _ hg _=>h.block g (Mth.gI hg)
theorem TyF.tch {S:Nat→Prop}{w w':World}(h:Tch S w w') (hS:∀g,S g→∃C t,w.heap[g]? = some (Obj.cells C t (0,0))∧t≠94∧t≠245):TyF w w':=fun g C t hg ht=>h.block g (Mth.gI hg) (fun q=>by
 obtain⟨C',t',h1,h2,h3⟩:=hS g q;have:=zc hg h1;subst this
 rcases ht with e|e
 ·exact h2 e
 ·exact h3 e)
theorem uW {w:World}{B:Nat}{e:TypeId}{sz:Nat}{v:Value}{n:Nat}{xs:List Value}(h:w.ownsRow B e sz v n xs) (h1:e≠94) (h2:e≠245){g:Nat}(hg:some g=v.ownBlock):∃C t,w.heap[g]? = some (Obj.cells C t (0,0))∧t≠94∧t≠245:=by
 obtain⟨_,_,D,hD⟩:=zw h hg;exact⟨D,_,hD,h1,h2⟩
def Rv.lev1 (V:Rv) (j:Nat) (v:Value) (sv:Nat→Value):Rv:={ V with lv:=fun i=>if i=j then v else V.lv i,sv:=fun i k=>if i=j then sv k else V.sv i k }
def Lg.lev1 (L:Lg) (j:Nat) (l:List (List Ent)):Lg:={ L with lev:=fun i=>if i=j then l else L.lev i }
theorem RfV.lev1 {Z:Nat→Prop}{B cb j:Nat}{w w':World}{V:Rv}{L:Lg}{all:List Ent}{ts:List Tl}(hb:w.heap[cb]? = some (Obj.cells (zR V L) 234 (0,0))) (h:RfV Z B w V L all ts) (hD:RfD B V L) (hj:j<6) (hs:∀g,g<w.heap.size→g≠cb→some g≠(V.lv j).ownBlock→w'.heap[g]? = w.heap[g]?)
  {v:Value}{l:List (List Ent)}{sv:Nat→Value}(hrow:w'.ownsRow B 57 1 v l.length ((List.range l.length).map sv)) (hseg:∀k,k<l.length→w'.ownsRow 0 66 3 (sv k) (l.getD k []).length ((l.getD k []).flatMap eC)) (hsz:∀k,k<l.length→∀g,some g=(sv k).ownBlock→Z g) :
  RfV Z B w' (V.lev1 j v sv) (Lg.lev1 L j l) all ts:=by
 have kp:∀ {B':Nat}{e:TypeId}{sz:Nat}{u:Value}{m:Nat}{xs:List Value},234≠e→w.ownsRow B' e sz u m xs→(∀g,some g=u.ownBlock→some g≠(V.lv j).ownBlock)→w'.ownsRow B' e sz u m xs:=fun he ho hn=>zn ho (fun g hg=>by
  obtain⟨_,hl,D,hD'⟩:=zw ho hg
  exact hs g hl (fun e=>by rw[e,hb]at hD';injection hD' with hD';injection hD' with _ hD' _;exact he hD') (hn g hg))
 have hl:=h.lev j hj;refine⟨kp (by decide) h.all (yr h.all hl (by decide)),kp (by decide) h.mem (yr h.mem hl (by decide)),fun i hi=>?_,fun i hi k hk=>?_,fun i hi k hk g hg=>?_,kp (by decide) h.wks (yr h.wks hl (by decide)),fun q hq=>kp (by decide) (h.lst q hq) (yr (h.lst q hq) hl (by decide)),h.run,kp (by decide) h.tls (yr h.tls hl (by decide))⟩
 ·by_cases e:i=j
  ·simp only[Rv.lev1,Lg.lev1,if_pos e];exact hrow
  ·simp only[Rv.lev1,Lg.lev1,if_neg e];exact kp (by decide) (h.lev i hi) (fun g hg=>hD.lev i j hi hj e g hg)
 ·by_cases e:i=j
  ·simp only[Rv.lev1,Lg.lev1,if_pos e]at hk ⊢;exact hseg k hk
  ·simp only[Rv.lev1,Lg.lev1,if_neg e]at hk ⊢;exact kp (by decide) (h.seg i hi k hk) (yr (h.seg i hi k hk) hl (by decide))
 ·by_cases e:i=j
  ·simp only[Rv.lev1,Lg.lev1,if_pos e]at hk hg;exact hsz k hk g hg
  ·simp only[Rv.lev1,Lg.lev1,if_neg e]at hk hg;exact h.sz i hi k hk g hg
theorem oH (V:Rv) (L:Lg) (v:Value) (sv:Nat→Value) (l:List (List Ent)){j:Nat}(hj:j<6):(zR V L).setIfInBounds (9+j) v=zR (V.lev1 j v sv) (Lg.lev1 L j l):=uY V L v hj
theorem RfD.lev1 {Z:Nat→Prop}{B j:Nat}{w:World}{V:Rv}{L:Lg}{all:List Ent}{ts:List Tl}(h:RfV Z B w V L all ts) (hD:RfD B V L){v:Value}{l:List (List Ent)}{sv:Nat→Value}(hn:∀g,some g=v.ownBlock→some g=(V.lv j).ownBlock∨w.heap.size≤g) (hj:j<6) (hsg:∀k,k<l.length→∀g,some g=(sv k).ownBlock→g<B):RfD B (V.lev1 j v sv) (Lg.lev1 L j l):=by
 refine⟨hD.am,fun a b ha hb hne g hg=>?_,hD.lst,fun i hi k hk g hg=>?_⟩
 ·simp only[Rv.lev1]at hg ⊢;by_cases ea:a=j
  ·have eb:b≠j:=fun e=>hne (by rw[ea,e])
   rw[if_pos ea]at hg;rw[if_neg eb];intro q
   rcases hn g hg with e|e
   ·exact hD.lev j b hj hb (fun e=>eb e.symm) g e q
   ·have:=(zw (h.lev b hb) q).2.1;omega
  ·rw[if_neg ea]at hg;by_cases eb:b=j
   ·rw[if_pos eb];intro q
    rcases hn g q with e|e
    ·exact hD.lev a j ha hj ea g hg e
    ·have:=(zw (h.lev a ha) hg).2.1;omega
   ·rw[if_neg eb];exact hD.lev a b ha hb hne g hg
 ·by_cases e:i=j
  ·simp only[Rv.lev1,Lg.lev1,if_pos e]at hk hg;exact hsg k hk g hg
  ·simp only[Rv.lev1,Lg.lev1,if_neg e]at hk hg;exact hD.sg i hi k hk g hg
theorem bh {Z:Nat→Prop}{B cb i n:Nat}{w W1 W5:World}{V:Rv}{L:Lg}{all:List Ent}{ts:List Tl}(hb:w.heap[cb]? = some (Obj.cells (zR V L) 234 (0,0))) (h:RfV Z B w V L all ts) (hD:RfD B V L) (hB:B≤w.heap.size) (hi:i<6) (hn:n≤(L.lev i).length) (b1:Below w.heap.size w W1){v:Value}(g5:W1.grownBy W5 none)
  (o5:W5.ownsRow w.heap.size 57 1 v ((L.lev i).length-n) (((List.range (L.lev i).length).map (V.sv i)).drop n)) :
  let V1:=V.lev1 i v (fun k=>V.sv i (n+k));let L1:=Lg.lev1 L i ((L.lev i).drop n)
  (W5.setCell ⟨cb,9+i,none⟩ v).heap[cb]? = some (Obj.cells (zR V1 L1) 234 (0,0))∧RfV Z B (W5.setCell ⟨cb,9+i,none⟩ v) V1 L1 all ts∧RfD B V1 L1∧Tch (fun g=>g=cb) w (W5.setCell ⟨cb,9+i,none⟩ v):=by
 intro V1 L1;have hcb:cb<w.heap.size:=(Mth.gI hb);have b5:Below w.heap.size w W5:=b1.trans ((zI g5).mono b1.size);have e5:=(b5.block cb hcb).trans hb;have hld:((L.lev i).drop n).length=(L.lev i).length-n:=List.length_drop
 have hxs:((List.range (L.lev i).length).map (V.sv i)).drop n=(List.range ((L.lev i).drop n).length).map (fun k=>V.sv i (n+k)):=by
  rw[hld];apply List.ext_getElem?;intro k;rw[List.getElem?_drop,List.getElem?_map,List.getElem?_map];by_cases hk:k<(L.lev i).length-n
  ·rw[List.getElem?_range (by omega),List.getElem?_range hk];rfl
  ·rw[List.getElem?_eq_none (by simp;omega),List.getElem?_eq_none (by simp;omega)];rfl
 have hset:∀g,g≠cb→(W5.setCell ⟨cb,9+i,none⟩ v).heap[g]? = W5.heap[g]? := fun g hg=>zt hg
 have hdis:∀g,some g=v.ownBlock→some g=(V.lv i).ownBlock∨w.heap.size≤g:=fun g hg=>Or.inr (zw o5 hg).1
 have hsk:∀k,k<((L.lev i).drop n).length→n+k<(L.lev i).length:=fun k hk=>by rw[hld]at hk;omega
 refine⟨?_,?_,RfD.lev1 h hD hdis hi (fun k hk g hg=>hD.sg i hi (n+k) (hsk k hk) g hg),⟨b5.os,b5.tape,b5.output,by simpa using b5.size,fun k hk hne=>(hset k hne).trans (b5.block k hk)⟩⟩
 ·rw[zh e5,oH V L v (fun k=>V.sv i (n+k)) ((L.lev i).drop n) hi]
 ·refine RfV.lev1 hb h hD hi (fun g hg hne _=>(hset g hne).trans (b5.block g hg)) ?_ (fun k hk=>?_) (fun k hk g hg=>h.sz i hi (n+k) (hsk k hk) g hg)
  ·rw[←hxs,hld];exact zW (zn o5 (fun g hg=>hset g (fun e=>by have:=(zw o5 hg).1;omega))) hB
  ·have h1:=h.seg i hi (n+k) (hsk k hk);rw[vJ];refine zn h1 (fun g hg=>?_);have hgl:=(zw h1 hg).2.1;exact(hset g (fun e=>by subst e;exact xM h1 hb (by decide) hg)).trans (b5.block g hgl)
theorem cP {Z:Nat→Prop}{B cb i:Nat}{w W5:World}{V:Rv}{L:Lg}{all:List Ent}{ts:List Tl}(hb:w.heap[cb]? = some (Obj.cells (zR V L) 234 (0,0))) (h:RfV Z B w V L all ts) (hD:RfD B V L) (hi:i<6){lv:Value}{es:List Ent}{Bl:Nat}(hl:w.ownsRow Bl 66 3 lv es.length (es.flatMap eC)) (hlz:∀g,some g=lv.ownBlock→Z g) {v:Value}
  (g5:(w.alloc (Obj.cells #[lv] 57)).grownBy W5 (V.lv i).ownBlock) (o5:W5.ownsRow B 57 1 v ((L.lev i).length+1) ((List.range (L.lev i).length).map (V.sv i)++[lv])) :
  let V1:=V.lev1 i v (fun k=>if k=(L.lev i).length then lv else V.sv i k);let L1:=Lg.lev1 L i (L.lev i++[es])
  W5.heap[cb]? = some (Obj.cells (zR V L) 234 (0,0))∧(W5.setCell ⟨cb,9+i,none⟩ v).heap[cb]? = some (Obj.cells (zR V1 L1) 234 (0,0))∧RfV Z B (W5.setCell ⟨cb,9+i,none⟩ v) V1 L1 all ts∧Tch (fun g=>g=cb∨some g=(V.lv i).ownBlock) w (W5.setCell ⟨cb,9+i,none⟩ v):=by
 intro V1 L1;have hcb:cb<w.heap.size:=(Mth.gI hb);have t5:=xG g5;have e5:=(t5.block cb hcb (xM (h.lev i hi) hb (by decide))).trans hb
 have hset:∀g,g≠cb→(W5.setCell ⟨cb,9+i,none⟩ v).heap[g]? = W5.heap[g]? := fun g hg=>zt hg
 have hll:(L.lev i++[es]).length=(L.lev i).length+1:=by simp
 have hsame:∀g,g<w.heap.size→g≠cb→some g≠(V.lv i).ownBlock→(W5.setCell ⟨cb,9+i,none⟩ v).heap[g]? = w.heap[g]? := fun g hg h1 h2=>(hset g h1).trans (t5.block g hg h2)
 have hkp:∀ {B' sz n:Nat}{u:Value}{xs:List Value},w.ownsRow B' 66 sz u n xs→(W5.setCell ⟨cb,9+i,none⟩ v).ownsRow B' 66 sz u n xs:=fun ho=>zn ho (fun g hg=>hsame g (zw ho hg).2.1 (fun e=>by subst e;exact xM ho hb (by decide) hg) (yr ho (h.lev i hi) (by decide) g hg))
 refine⟨e5,?_,?_,⟨t5.os,t5.tape,t5.output,by simpa using t5.size,fun k hk hne=>hsame k hk (fun e=>hne (Or.inl e)) (fun e=>hne (Or.inr e))⟩⟩
 ·rw[zh e5,oH V L v (fun k=>if k=(L.lev i).length then lv else V.sv i k) (L.lev i++[es]) hi]
 ·refine RfV.lev1 hb h hD hi hsame ?_ (fun k hk=>?_) (fun k hk g hg=>?_)
  ·rw[hll,List.range_succ,List.map_append];have hm:(List.range (L.lev i).length).map (fun k=>if k=(L.lev i).length then lv else V.sv i k)=(List.range (L.lev i).length).map (V.sv i):=List.map_congr_left (fun j hj=>by have:=List.mem_range.1 hj;rw[if_neg (by omega)]);rw[hm];simp only[List.map_cons,List.map_nil,if_true];exact zl o5 e5 (by decide)
  ·by_cases e:k=(L.lev i).length
   ·have hgd:(L.lev i++[es]).getD k []=es:=by rw[e];simp[List.getD_eq_getElem?_getD]
    rw[if_pos e,hgd];exact zW (hkp hl) (Nat.zero_le _)
   ·rw[hll]at hk
    have hgd:(L.lev i++[es]).getD k []=(L.lev i).getD k []:=by
     rw[List.getD_eq_getElem?_getD,List.getD_eq_getElem?_getD,List.getElem?_append_left (by omega)]
    rw[if_neg e,hgd];exact hkp (h.seg i hi k (by omega))
  ·by_cases e:k=(L.lev i).length
   ·rw[if_pos e]at hg;exact hlz g hg
   ·rw[if_neg e]at hg;rw[hll]at hk;exact h.sz i hi k (by omega) g hg
theorem aM {L:Lg}{i m:Nat}(h:L.left i m=[]):Lg.lev1 L i ((L.lev i).drop L.fan)=L.mrg i m:=by
 unfold Lg.mrg;rw[if_pos h];unfold Lg.cut Lg.lev1;congr 1;funext j;by_cases e:j=i
 ·rw[if_pos e,if_pos e,e]
 ·rw[if_neg e,if_neg e]
theorem cK {L:Lg}{i m:Nat}(h:¬L.left i m=[]):Lg.lev1 (Lg.lev1 L i ((L.lev i).drop L.fan)) (i+1) ((Lg.lev1 L i ((L.lev i).drop L.fan)).lev (i+1)++[L.left i m])=L.mrg i m:=by
 unfold Lg.mrg;rw[if_neg h];unfold Lg.cut Lg.put Lg.lev1;simp only;congr 1;funext j;by_cases e:j=i
 ·subst e;rw[if_neg (by omega),if_pos rfl,if_pos rfl,if_neg (by omega)]
 ·by_cases e2:j=i+1
  ·subst e2;rw[if_pos rfl,if_neg (by omega),if_neg (by omega),if_pos rfl]
  ·rw[if_neg e2,if_neg e,if_neg e,if_neg e2]
theorem aI (L:Lg) (m:Nat) (e:Ent):kp ((L.clock:Int)-(L.keep:Int)) m e=(!decide (e.time+(L.keep:Int)<(L.clock:Int)) || decide ((m:Int)≤e.seq)):=by
 unfold kp;congr 1;by_cases h:(L.clock:Int)-(L.keep:Int)≤e.time
 ·rw[decide_eq_true h,decide_eq_false (by omega)];rfl
 ·rw[decide_eq_false h,decide_eq_true (by omega)];rfl
theorem hU {Z:Nat→Prop}{w:World}{B cb:Nat}{V:Rv}{L:Lg}{all:List Ent}{ts:List Tl}(hb:w.heap[cb]? = some (Obj.cells (zR V L) 234 (0,0))) (h:RfV Z B w V L all ts) (hD:RfD B V L) (hZ:∀g,B≤g→Z g) (hB:B≤w.heap.size) (hcbB:B≤cb){i:Nat}(hi:i≤4) (hfl:L.fan≤(L.lev i).length) (hf1:1≤L.fan∧L.fan≤4) (hw:0<L.wks.length∧L.wks.length≤4) (hnd:∀q,q<L.wks.length→(L.wks.getD q zo).list.length≤900) (hlv:∀j,j<6→(L.lev j).length≤1048576) (hck:L.clock≤1000000000000) (hkp:L.keep≤1000000)
  (htm:∀es∈L.lev i,∀e∈es,0≤e.time∧e.time≤1000000000000) (hfl2:((L.lev i).take L.fan).flatten.length≤1048576) :
  Calls Tryz.prog 252 #[zr cb, .int .i64 (i:Int)] w fun e w'=>e=.returned (.tuple #[])∧Below B w w'∧TyF w w'∧∃V',w'.heap[cb]? = some (Obj.cells (zR V' (L.ends i (vU all.length ts))) 234 (0,0))∧RfV Z B w' V' (L.ends i (vU all.length ts)) all ts:=by
 obtain⟨i0,hi0,hz0,hz1,hz2⟩:=info_parts Tryz.info66;obtain⟨j0,hj0,hk0,hk1,hk2⟩:=info_parts Tryz.infoRow;have hcb:cb<w.heap.size:=(Mth.gI hb);have CN:=zx (ib hb h.all h.tls);generalize hm:vU all.length ts=m at *;clear hm
 have CO:Hid (∀W,Below w.heap.size w W→∀(e:Ent),0≤e.time∧e.time≤1000000000000→Calls Tryz.prog 250 #[zr cb, .agg #[.int .i64 e.seq, .int .i64 e.time, .string e.text]] W fun r w'=>r=.returned (.bool (decide (e.time+(L.keep:Int)<(L.clock:Int))))∧Below W.heap.size W w'):=fun W hW e he=>oE ((hW.block cb hcb).trans hb) e.seq e.time e.text he hkp hck
 obtain⟨ai,ci,hli,hci,hcim⟩:=zu (h.lev i (by omega));obtain⟨ap,cp,hlp,hcp,hcpm⟩:=zu (h.lev (i+1) (by omega));have hln:=hlv i (by omega);have hlnp:=hlv (i+1) (by omega);have hLI:=h.lev i (by omega);rw[hli]at hLI;obtain⟨gi,rfl⟩:=zf hLI (by omega)
 have F7:Hid (∀W,Below w.heap.size w W→W.cell? ⟨cb,9+i,none⟩=some (.slice (some ⟨gi,0,none⟩) (L.lev i).length ci)∧W.cell? ⟨cb,1,none⟩=some (.int .i64 (L.fan:Int))∧W.ownsRow B 57 1 (.slice (some ⟨gi,0,none⟩) (L.lev i).length ci) (L.lev i).length ((List.range (L.lev i).length).map (V.sv i))):=fun W hW=>by
  have hbw:=(hW.block cb hcb).trans hb;have h1:=(zy hbw (xE V L (show i<6 by omega))).1;rw[hli]at h1;exact⟨h1,(zy (j:=1) hbw rfl).1,zq hLI hW⟩
 have FS:Hid (∀k,k<L.fan→(∃a c,V.sv i k=.slice a ((L.lev i).getD k []).length c∧((L.lev i).getD k []).length≤c∧c≤maxLen)∧w.ownsRow 0 66 3 (V.sv i k) ((L.lev i).getD k []).length (((L.lev i).getD k []).flatMap eC)∧(∀e∈(L.lev i).getD k [],0≤e.time∧e.time≤1000000000000)∧((L.lev i).getD k []).length≤1048576∧((List.range (L.lev i).length).map (V.sv i))[k]? = some (V.sv i k)):=fun k hk=>by
  have h1:=h.seg i (by omega) k (by omega)
  have hm:(L.lev i).getD k []∈(L.lev i).take L.fan:=by
   rw[←List.getElem_eq_getD (h:=by omega)];rw[List.mem_take_iff_getElem];exact⟨k,by omega,rfl⟩
  have hm2:=List.mem_of_mem_take hm;have hle:((L.lev i).getD k []).length≤((L.lev i).take L.fan).flatten.length:=(List.sublist_flatten_of_mem hm).length_le;obtain⟨a,c,e1,e2,e3⟩:=zu h1;exact⟨⟨a,c,e1,e2,e3⟩,h1,htm _ hm2,by omega,by rw[List.getElem?_map,List.getElem?_range (by omega)];rfl⟩
 have HFK:Hid (∀k,k<L.fan→((((L.lev i).take (k+1)).flatten).filter (kp ((L.clock:Int)-(L.keep:Int)) m))=((((L.lev i).take k).flatten).filter (kp ((L.clock:Int)-(L.keep:Int)) m))++((L.lev i).getD k []).filter (kp ((L.clock:Int)-(L.keep:Int)) m)):=fun k hk=>tZ (by omega) _
 have HFL:Hid (∀k,k≤L.fan→(((L.lev i).take k).flatten).length+(if k<L.fan then((L.lev i).getD k []).length else 0)≤1048576):=fun k hk=>by
  by_cases e:k<L.fan
  ·rw[if_pos e]
   have h1:((L.lev i).take (k+1)).flatten.length≤((L.lev i).take L.fan).flatten.length:=by
    have:(L.lev i).take (k+1)=((L.lev i).take L.fan).take (k+1):=by rw[List.take_take];congr 1;omega
    rw[this];exact uG _ _
   rw[zG (by omega) []]at h1;simp only[List.flatten_append,List.length_append,List.flatten_cons,List.flatten_nil,List.length_nil,Nat.add_zero]at h1;omega
  ·have e2:k=L.fan:=by omega
   subst e2;rw[if_neg e];omega
 have HKO:Hid (∀e,kp ((L.clock:Int)-(L.keep:Int)) m e=(!decide (e.time+(L.keep:Int)<(L.clock:Int)) || decide ((m:Int)≤e.seq))):=fun e=>aI L m e
 have HONE:Hid (∀u∈((List.range (L.lev i).length).map (V.sv i)).drop L.fan,u.oneCell'=true):=fun u hu=>by
  obtain⟨j,hj,rfl⟩:=List.mem_map.1 (List.mem_of_mem_drop hu);obtain⟨a,c,e,_,_⟩:=zu (h.seg i (by omega) j (List.mem_range.1 hj));rw[e];rfl
 have FD:Hid (∀W V2 L2,W.heap[cb]? = some (Obj.cells (zR V2 L2) 234 (0,0))→RfV Z B W V2 L2 all ts→V2.wl=V.wl→V2.wv=V.wv→V2.rd=V.rd→L2.wks=L.wks→L2.fan=L.fan→(∀j,j<6→(L2.lev j).length≤1048577)→L2=L.mrg i m→Below B w W→TyF w W→Calls Tryz.prog 204 #[zr cb] W fun e W8=>e=.returned (.tuple #[])∧Below B w W8∧TyF w W8∧∃V',W8.heap[cb]? = some (Obj.cells (zR V' (L.ends i m)) 234 (0,0))∧RfV Z B W8 V' (L.ends i m) all ts):=by
  intro W V2 L2 hb2 h2 e1 e2 e3 e4 e5 hl2 eL bW tW;have hBW:B≤W.heap.size:=Nat.le_trans hB bW.size;have hd:DuI W W B V2 L2.wks.length V2.wl L2.wks:=⟨rfl,h2.wks,h2.lst,by rw[e1,e4];exact hD.lst,fun q hq g hg=>Or.inl hg,Tch.refl _ _⟩;refine(jW hb2 hd (fun j hj=>?_) (by rw[e5];omega) (by rw[e4];exact hw) hBW (by rw[e4];exact hnd)).mono ?_
  ·obtain⟨a,c,ha,_,_⟩:=zu (h2.lev j hj);exact⟨a,c,ha,by have:=hl2 j hj;omega⟩
  ·rintro e W8 ⟨rfl,wl',d8⟩;obtain⟨e8,r8⟩:=uT hb2 h2 d8 (fun q _=>yN _ _ _ 5 q)
   have hend:({ L2 with wks:=zO L2.fan (fun i=>(L2.lev i).length) L2.wks 5 }:Lg)=L.ends i m:=by
    unfold Lg.ends;rw[←eL,←e4,←e5]
   rw[hend]at e8 r8;refine⟨rfl,bW.trans (zK d8.tch (fun k q=>?_) hBW),tW.trans (TyF.tch d8.tch (fun k q=>?_)),_,e8,r8⟩
   ·rcases q with q|⟨p,hp,q⟩
    ·exact(zw h2.wks q).1
    ·exact(zw (h2.lst p hp) q).1
   ·rcases q with q|⟨p,hp,q⟩
    ·exact uW h2.wks (by decide) (by decide) q
    ·exact uW (h2.lst p hp) (by decide) (by decide) q
 have FC:Hid (∀wr lf,CurE w wr lf (L.left i m)→∀W5 v5,(wr.drew).grownBy W5 none→W5.ownsRow wr.heap.size 57 1 v5 ((L.lev i).length-L.fan) (((List.range (L.lev i).length).map (V.sv i)).drop L.fan)→(∃u,W5.cell? ⟨cb,9+i,none⟩=some u∧W5.frozen? ⟨cb,9+i,none⟩=false)∧∀W6,W6=W5.setCell ⟨cb,9+i,none⟩ v5 →
   ((L.left i m).length=0→Calls Tryz.prog 204 #[zr cb] W6 fun e W8=>e=.returned (.tuple #[])∧Below B w W8∧TyF w W8∧∃V',W8.heap[cb]? = some (Obj.cells (zR V' (L.ends i m)) 234 (0,0))∧RfV Z B W8 V' (L.ends i m) all ts) ∧
   (¬(L.left i m).length=0→W6.cell? ⟨cb,9+(i+1),none⟩=some (.slice ap (L.lev (i+1)).length cp)∧W6.ownsRow B 57 1 (.slice ap (L.lev (i+1)).length cp) (L.lev (i+1)).length ((List.range (L.lev (i+1)).length).map (V.sv (i+1)))∧B≤W6.heap.size ∧
    ∀W7 v7,(W6.alloc (Obj.cells #[lf] 57)).grownBy W7 (Value.slice ap (L.lev (i+1)).length cp).ownBlock→W7.ownsRow B 57 1 v7 ((L.lev (i+1)).length+1) ((List.range (L.lev (i+1)).length).map (V.sv (i+1))++[lf])→(∃u,W7.cell? ⟨cb,9+(i+1),none⟩=some u∧W7.frozen? ⟨cb,9+(i+1),none⟩=false)∧Calls Tryz.prog 204 #[zr cb] (W7.setCell ⟨cb,9+(i+1),none⟩ v7) fun e W8=>e=.returned (.tuple #[])∧Below B w W8∧TyF w W8∧∃V',W8.heap[cb]? = some (Obj.cells (zR V' (L.ends i m)) 234 (0,0))∧RfV Z B W8 V' (L.ends i m) all ts)):=by
  intro wr lf hcur W5 v5 g5 o5;have hbr:=(hcur.1.block cb hcb).trans hb;have hr:=h.below hcur.1;have hBr:B≤wr.heap.size:=Nat.le_trans hB hcur.1.size;obtain⟨c1,c2,c3,c4⟩:=bh (i:=i) (n:=L.fan) hbr hr hD hBr (by omega) hfl (zE wr) g5 o5;have b5:Below wr.heap.size wr W5:=(zE wr).trans ((zI g5).mono (zE wr).size);have e5:=(b5.block cb (Mth.gI hbr)).trans hbr;obtain⟨x9,y9⟩:=zy e5 (xE V L (show i<6 by omega));refine⟨⟨_,x9,y9⟩,fun W6 hW6=>?_⟩;rw[←hW6]at c1 c2 c4;have bW6:Below B w W6:=(hcur.1.mono hB).trans (zK c4 (fun k q=>by rw[q];exact hcbB) hBr);have hB6:B≤W6.heap.size:=Nat.le_trans hB bW6.size;have tW6:TyF w W6:=(TyF.below hcur.1).trans (TyF.tch c4 (fun k q=>by rw[q];exact⟨_,_,hbr,by decide,by decide⟩));refine⟨fun hl0=>FD.out W6 _ _ c1 c2 rfl rfl rfl rfl rfl (fun j hj=>?_) (aM (List.eq_nil_of_length_eq_zero hl0)) bW6 tW6,fun hl0=>?_⟩
  ·show(if j=i then(L.lev i).drop L.fan else L.lev j).length≤1048577;have:=hlv j hj;split
   ·rw[List.length_drop];omega
   ·omega
  ·have hlp6:=c2.lev (i+1) (by omega);have ev:(V.lev1 i v5 (fun k=>V.sv i (L.fan+k))).lv (i+1)=V.lv (i+1):=if_neg (by omega);have el:(Lg.lev1 L i ((L.lev i).drop L.fan)).lev (i+1)=L.lev (i+1):=if_neg (by omega)
   have es:(V.lev1 i v5 (fun k=>V.sv i (L.fan+k))).sv (i+1)=V.sv (i+1):=by funext k;exact if_neg (by omega)
   have c9:=(zy c1 (xE _ _ (show i+1<6 by omega))).1;rw[ev,hlp]at c9;rw[ev,el,es,hlp]at hlp6;refine⟨c9,hlp6,hB6,fun W7 v7 g7 o7=>?_⟩
   have hlf:W6.ownsRow w.heap.size 66 3 lf (L.left i m).length ((L.left i m).flatMap eC):=zn hcur.2 (fun g hg=>c4.block g (zw hcur.2 hg).2.1 (fun e=>by
    have:=(zw hcur.2 hg).1
    omega))
   obtain⟨d1,d2,d3,d4⟩:=cP (i:=i+1) c1 c2 c3 (by omega) hlf (fun g hg=>hZ g (Nat.le_trans hB (zw hlf hg).1)) (v:=v7) (W5:=W7) (by rw[ev,hlp];exact g7) (by rw[el,es];exact o7);obtain⟨x9',y9'⟩:=zy d1 (xE _ _ (show i+1<6 by omega));refine⟨⟨_,x9',y9'⟩,FD.out _ _ _ d2 d3 rfl rfl rfl rfl rfl (fun j hj=>?_) ?_ (bW6.trans (zK d4 (fun k q=>?_) hB6)) (tW6.trans (TyF.tch d4 (fun k q=>?_)))⟩
   ·show(if j=i+1 then(if i+1=i then(L.lev i).drop L.fan else L.lev (i+1))++[L.left i m] else(if j=i then(L.lev i).drop L.fan else L.lev j)).length≤1048577;have:=hlv j hj;have:=hlv (i+1) (by omega);split
    ·rw[if_neg (by omega)];simp;omega
    ·split
     ·rw[List.length_drop];omega
     ·omega
   ·exact cK (fun q=>hl0 (by rw[q];rfl))
   ·rcases q with q|q
    ·rw[q];exact hcbB
    ·exact(zw (c2.lev (i+1) (by omega)) q).1
   ·rcases q with q|q
    ·rw[q];exact⟨_,_,c1,by decide,by decide⟩
    ·exact uW (c2.lev (i+1) (by omega)) (by decide) (by decide) q
 unfold maxLen at hcim hcpm;have hlft:L.left i m=((((L.lev i).take L.fan).flatten).filter (kp ((L.clock:Int)-(L.keep:Int)) m)):=rfl;generalize hFL:L.left i m=LF at *;have HLFT:=zx hlft;clear hFL hlft hb h hD hZ hli hlp hLI htm hfl2 hlv hnd FD;obtain⟨LE,hLE⟩:∃LE,LE=L.ends i m:=⟨_,rfl⟩;rw[←hLE]at FC ⊢;clear hLE;generalize hkf:kp ((L.clock:Int)-(L.keep:Int)) m=kf at *;clear hkf;generalize hfn:L.fan=fan at *;generalize hnn:(L.lev i).length=nn at *;generalize hxl:(List.range nn).map (V.sv i)=xl at *
 have HXL:Hid (xl.length=nn):=by show _=_;rw[←hxl];simp
 generalize hnp:(L.lev (i+1)).length=np at *;generalize (List.range np).map (V.sv (i+1))=xp at *;clear hfn hnn hxl hnp
 go_enter Tryz.func252,Tryz.ntmps252
 go_wp2_with (first|(go_at_call 276;refine CN.out.mono ?_;rintro e W ⟨rfl,hW⟩;rw[hW];clear hW W))
 go_loopw [5,6] (fun v x wr=>∃k:Nat,k≤fan∧x=.int .i64 k∧CurE w wr v ((((L.lev i).take k).flatten).filter kf)) (fun _ x _=>fan-(intOf x).toNat)
 case atStart=>exact⟨0,Nat.zero_le _,rfl,Below.refl _ _,World.ownsRow_nil _ _ _ _⟩
 case round=>
  obtain⟨k,hk,rfl,hcur⟩:=hrel;obtain⟨m9,m1,mrow⟩:=F7.out wr hcur.1;have HCUR:=zx hcur;have HROW:=zx mrow;by_cases hlt:k<fan
  ·obtain⟨⟨ae,ce,hve,hce,hcem⟩,hseg,htme,hele,hxk⟩:=FS.out k hlt;have hcell:=zg mrow hxk;rw[hve]at hcell hseg;have HSEG:=zx hseg;have HTM:=zx htme;have HFK2:=zx (HFK.out k hlt);have hfle:=HFL.out k hk;rw[if_pos hlt]at hfle;have hflf:((((L.lev i).take k).flatten).filter kf).length≤(((L.lev i).take k).flatten).length:=List.length_filter_le _ _;unfold maxLen at hcem;clear hseg htme hxk hve mrow;generalize (L.lev i).getD k []=es at *;generalize hA:(((L.lev i).take k).flatten).filter kf=A at *;generalize (((L.lev i).take k).flatten).length=Al at *;generalize hel:es.length=el at *;have HEL:=zx hel;clear hel hA;obtain⟨va,vc,rfl,hvc,hvm⟩:=zu hcur.2;clear hcur;go_wp2_with fail
   go_loopw [5,8] (fun v x wr=>∃q:Nat,q≤el∧x=.int .i64 q∧CurE w wr v (A++(es.take q).filter kf)) (fun _ x _=>el-(intOf x).toNat)
   case atStart=>exact⟨0,Nat.zero_le _,rfl,by simpa using HCUR.out⟩
   case round=>
    obtain⟨q,hq,rfl,hcur2⟩:=hrel;have HCUR2:=zx hcur2;by_cases hlt2:q<el
    ·obtain⟨ge,rfl⟩:=zf HSEG.out (by omega);have hes:=zn HSEG.out (fun g hg=>hcur2.1.block g (zw HSEG.out hg).2.1);obtain⟨r0,r1,r2⟩:=ya es q (by rw[HEL.out];exact hlt2);have p0:=zg hes r0;have p1:=zg hes r1;have p2:=zg hes r2
     have hmem:es.getD q e0∈es:=by rw[←List.getElem_eq_getD (h:=by rw[HEL.out];exact hlt2)];exact List.getElem_mem _
     have htq:=HTM.out _ hmem
     have htk:A++(es.take (q+1)).filter kf=(A++(es.take q).filter kf)++(if kf (es.getD q e0) then [es.getD q e0] else []):=by
      rw[tJ (by rw[HEL.out];exact hlt2),List.append_assoc]
     have HTK:=zx htk;have hfl3:((es.take q).filter kf).length≤q:=Nat.le_trans (List.length_filter_le _ _) (by simp;omega)
     have hfl4:(A++(es.take q).filter kf).length≤1048576:=by rw[List.length_append];omega
     have hko:=HKO.out (es.getD q e0);have HKO2:=zx hko;obtain⟨wa,wc,rfl,hwc,hwm⟩:=zu hcur2.2;unfold maxLen at hwm;have hwB:=hcur2.1.size;clear hes r0 r1 r2 hmem htk hko;generalize es.getD q e0=e at *;obtain⟨sq,tm,tx⟩:=e;simp only at p0 p1 p2 htq HKO2;have CO2:=zx (CO.out wr hcur2.1 ⟨sq,tm,tx⟩ htq)
     have F2:Hid (∀W2,Below wr.heap.size wr W2→W2.cell? ⟨ge,q*3,none⟩=some (.int .i64 sq)∧W2.cell? ⟨ge,q*3+1,none⟩=some (.int .i64 tm)∧W2.cell? ⟨ge,q*3+2,none⟩=some (.string tx)∧Below w.heap.size w W2∧w.heap.size≤W2.heap.size∧W2.ownsRow w.heap.size 66 3 (.slice wa (A++(es.take q).filter kf).length wc) (A++(es.take q).filter kf).length ((A++(es.take q).filter kf).flatMap eC)):=fun W2 hW2=>by
      have hBW:=HCUR2.out.1.trans (hW2.mono HCUR2.out.1.size);exact⟨(hW2.cell (p:=⟨ge,q*3,none⟩) (World.block_lt_of_cell? _ _ p0)).trans p0,(hW2.cell (p:=⟨ge,q*3+1,none⟩) (World.block_lt_of_cell? _ _ p1)).trans p1,(hW2.cell (p:=⟨ge,q*3+2,none⟩) (World.block_lt_of_cell? _ _ p2)).trans p2,hBW,hBW.size,zq HCUR2.out.2 hW2⟩
     simp only at CO2;generalize A++(es.take q).filter kf=FL at *;generalize hod:decide (tm+(L.keep:Int)<(L.clock:Int))=od at *;clear hod hcur2;cases od
     ·have hye:kf ⟨sq,tm,tx⟩=true:=by rw[HKO2.out];rfl
      have HYE:=zx hye;clear hye
      go_wp2_with (first
       | (go_at_call 250;refine CO2.out.mono ?_;rintro e W3 ⟨rfl,hb3⟩;obtain⟨o0,o1,o2,ob,os,oo⟩:=F2.out W3 hb3;have HOB:=zx ob;have HOO:=zx oo;clear hb3 ob oo)
       | (at_builtin;refine zb _ rfl _ _ 57 rfl w.heap.size 0 66 i0 (.agg #[.int .i64 0, .int .i64 0, .string ByteArray.empty]) 3 32 Tryz.underlying57 hi0 hz0 hz1 hz2 rfl (by decide) _ _ _ rfl (zq HOO.out (zv _ _)) _ _ _ rfl (World.ownsRow_lit W3 #[.int .i64 sq, .int .i64 tm, .string tx] 1 (Nat.zero_le _) (by decide) rfl) (by intro u hu;simp at hu;rcases hu with rfl|rfl|rfl <;> rfl) (by unfold maxLen;omega) (by omega) (by simp;omega) ?_;intro v5 W5 o5 g5 n5;have t5:=yl g5;have HB5:=zx (yk HOB.out t5 HOO.out);have HO5:=zx o5;obtain⟨a5,c5,rfl,_,_⟩:=zu o5;clear o5 g5 n5 t5))
      go_roundw
      case rel=>exact⟨q+1,by omega,by go_num,by rw[HTK.out,HYE.out,if_pos rfl];exact⟨HB5.out,by simpa [eC] using HO5.out⟩⟩
      case measure=>simp[intOf];omega
     ·by_cases hs:(m:Int)≤sq
      ·have hye:kf ⟨sq,tm,tx⟩=true:=by rw[HKO2.out];simp[hs]
       have HYE:=zx hye;clear hye
       go_wp2_with (first
        | (go_at_call 250;refine CO2.out.mono ?_;rintro e W3 ⟨rfl,hb3⟩;obtain⟨o0,o1,o2,ob,os,oo⟩:=F2.out W3 hb3;have HOB:=zx ob;have HOO:=zx oo;clear hb3 ob oo)
        | (at_builtin;refine zb _ rfl _ _ 57 rfl w.heap.size 0 66 i0 (.agg #[.int .i64 0, .int .i64 0, .string ByteArray.empty]) 3 32 Tryz.underlying57 hi0 hz0 hz1 hz2 rfl (by decide) _ _ _ rfl (zq HOO.out (zv _ _)) _ _ _ rfl (World.ownsRow_lit W3 #[.int .i64 sq, .int .i64 tm, .string tx] 1 (Nat.zero_le _) (by decide) rfl) (by intro u hu;simp at hu;rcases hu with rfl|rfl|rfl <;> rfl) (by unfold maxLen;omega) (by omega) (by simp;omega) ?_;intro v5 W5 o5 g5 n5;have t5:=yl g5;have HB5:=zx (yk HOB.out t5 HOO.out);have HO5:=zx o5;obtain⟨a5,c5,rfl,_,_⟩:=zu o5;clear o5 g5 n5 t5))
       go_roundw
       case rel=>exact⟨q+1,by omega,by go_num,by rw[HTK.out,HYE.out,if_pos rfl];exact⟨HB5.out,by simpa [eC] using HO5.out⟩⟩
       case measure=>simp[intOf];omega
      ·have hno:kf ⟨sq,tm,tx⟩=false:=by rw[HKO2.out];simp[hs]
       have HNO:=zx hno;clear hno
       go_wp2_with (first
        | (go_at_call 250;refine CO2.out.mono ?_;rintro e W3 ⟨rfl,hb3⟩;obtain⟨o0,o1,o2,ob,os,oo⟩:=F2.out W3 hb3;have HOB:=zx ob;have HOO:=zx oo;clear hb3 ob oo))
       go_roundw
       case rel=>exact⟨q+1,by omega,by go_num,by rw[HTK.out,HNO.out,if_neg (by simp),List.append_nil];exact⟨HOB.out,HOO.out⟩⟩
       case measure=>simp[intOf];omega
    ·have hqe:es.take q=es:=List.take_of_length_le (by rw[HEL.out];omega);rw[hqe]at HCUR2;obtain⟨wa,wc,rfl,_,_⟩:=zu hcur2.2;clear hcur2;go_wp2_with fail
     go_roundw
     case rel=>exact⟨k+1,by omega,by go_num,by rw[HFK2.out];exact HCUR2.out⟩
     case measure=>simp[intOf];omega
  ·obtain rfl:fan=k:=by omega
   rw[←HLFT.out]at HCUR hcur;obtain⟨va,vc,rfl,hvc,hvm⟩:=zu hcur.2;have FC2:=zx (FC.out wr _ HCUR.out);have hrw:=hcur.1.size;unfold maxLen at hvm;clear hcur mrow
   have HDR:Hid (∀(W:World) (ad:Addr),Below wr.heap.size wr W→(ad=⟨gi,fan*j0.size,none⟩∨ci=fan)→∀j u,(xl.drop fan)[j]? = some u→W.cell? (ad.add j)=some u):=by
    intro W ad hW had j u hu;rw[hk1]at had;exact sP (k:=fan) (zq HROW.out hW) had j u (by rw[Nat.mul_one];exact hu)
   have HDL:Hid ((xl.drop fan).length=(nn-fan)*1):=by show _=_;rw[List.length_drop,HXL.out,Nat.mul_one]
   have hwrd:=zE wr;have HWRD:=zx hwrd;clear hwrd
   have hi6:(i:Int)<6:=by omega
   have hi7:(i:Int)+1<6:=by omega
   have hi8:0≤(i:Int)+1:=by omega
   have hwr1:IntKind.i64.wrap ((i:Int)+1)=((i+1:Nat):Int):=by rw[IntKind.wrap_i64];omega
   go_upto_region 13 with fail
   obtain⟨ad,hadq,hadc⟩:∃ad:Addr,(if ci=fan then some (⟨gi,0,none⟩:Addr) else some ⟨gi,fan,none⟩)=some ad∧(ad=⟨gi,fan*j0.size,none⟩∨ci=fan):=by
    by_cases hcf:ci=fan
    ·exact⟨_,if_pos hcf,Or.inr hcf⟩
    ·exact⟨_,if_neg hcf,Or.inl (by rw[hk1,Nat.mul_one])⟩
   have HAD:=zx hadc;clear hadc
   go_region_law (first
    | (refine zQ _ rfl _ _ 24 rfl wr.heap.size 57 j0 (.slice none 0 0) 1 24 Tryz.underlying24 hj0 hk0 hk1 hk2 rfl (by decide) _ _ _ rfl (World.ownsRow_nil _ _ _ _) ad _ _ (xl.drop fan) rfl HDL.out (HDR.out _ ad HWRD.out HAD.out) HONE.out (by unfold maxLen;omega) (by omega) (Nat.le_refl _) ?_;intro v5 W5 o5 g5 n5;rw[Nat.zero_add,List.nil_append]at o5;obtain⟨⟨u9,x9,y9⟩,hrest⟩:=FC2.out W5 v5 g5 o5;have HREST:=zx hrest;obtain⟨a5,c5,rfl,_,_⟩:=zu o5;clear o5 g5 n5 hrest))
   all_goals (
    obtain⟨W6,hW6⟩:∃W6,W6=W5.setCell ⟨cb,9+i,none⟩ (.slice a5 (nn-fan) c5):=⟨_,rfl⟩;obtain⟨hno,hyes⟩:=HREST.out W6 hW6;have HW6:=zx hW6;clear hW6;by_cases hl0:LF.length=0
    ·have CDU:=zx (hno hl0)
     have hl1:¬0<LF.length:=by omega
     clear hno hyes
     go_upto_region 15 with fail
     rw[←HW6.out];go_wp2_with (first|(go_at_call 204;refine CDU.out.mono ?_;rintro e W8 ⟨rfl,hfin⟩;have HFIN:=zx hfin;clear hfin));go_end0;exact⟨rfl,HFIN.out⟩
    ·obtain⟨c9,orow,hB6,hf7⟩:=hyes hl0
     have hl1:0<LF.length:=by omega
     have HF7:=zx hf7;have HOP:=zx orow;have bz:=zv W6 (Obj.cells #[.slice va LF.length vc] 57);have c9':=(bz.cell (p:=⟨cb,9+(i+1),none⟩) (World.block_lt_of_cell? _ _ c9)).trans c9;clear hno hyes hf7 orow bz
     go_upto_region 15 with fail
     rw[←HW6.out]
     go_upto_region 16 with fail
     go_region_law (refine zQ _ rfl _ _ 24 rfl B 57 j0 (.slice none 0 0) 1 24 Tryz.underlying24 hj0 hk0 hk1 hk2 rfl (by decide) _ _ _ rfl (by exact HOP.out.alloc _) ⟨W6.heap.size,0,none⟩ 1 1 [.slice va LF.length vc] rfl rfl (by exact zM W6.drew _ _ _ rfl) (by intro u hu;simp at hu;subst hu;rfl) (by unfold maxLen;omega) (by omega) (by simp;omega) ?_;intro v7 W7 o7 g7 n7;have g8:(W6.alloc (Obj.cells #[.slice va LF.length vc] 57)).grownBy W7 (Value.slice ap np cp).ownBlock:=⟨g7.os,g7.tape,g7.output,g7.size,g7.block⟩;obtain⟨⟨u7,x7,y7⟩,hdue⟩:=HF7.out W7 v7 g8 o7;have CDU:=zx hdue;obtain⟨a7,c7,rfl,_,_⟩:=zu o7;clear o7 g7 g8 n7 hdue)
     all_goals (
      go_wp2_with (first|(go_at_call 204;refine CDU.out.mono ?_;rintro e W8 ⟨rfl,hfin⟩;have HFIN:=zx hfin;clear hfin));go_end0
      exact⟨rfl,HFIN.out⟩))
end Go.Proofs.YtkncboinfcnklaaGreatDoor.Rl
