import Derived.Test.YtkncboinfcnklaaGreatDoorQ36
import Derived.Test.YtkncboinfcnklaaGreatDoorQ33
import Derived.Test.YtkncboinfcnklaaGreatDoorQ34
import Derived.Test.YtkncboinfcnklaaGreatDoorQ21
set_option maxRecDepth 100000
set_option maxHeartbeats 8000000
namespace Go.Proofs.YtkncboinfcnklaaGreatDoor.Rl
open Go.RowKit Go.Deep Go.Shelf Go.Proofs.YtkncboinfcnklaaGreatDoor.Mth
theorem uk {w:World}{B cb:Nat}{V:Rv}{L:Lg}(hb:w.heap[cb]? = some (Obj.cells (zR V L) 234 (0,0))) (h:w.ownsRow B 304 3 V.wv L.wks.length (yz L.wks V.wl V.rd)){n:Nat}(hn:n<L.wks.length) (hr:(L.wks.getD n zo).runs=none) (Q:Int→World→Prop)
  (CT:Calls Tryz.prog 251 #[zr cb, .int .i64 (n:Int)] w fun e w'=>∃r,e=.returned (.int .i64 r)∧Q r w') :
  Calls Tryz.prog 206 #[zr cb, .int .i64 (n:Int)] w fun e w'=>∃r,e=.returned (.tuple #[.int .i64 r, .int .i64 0])∧Q r w':=by
 have c15:=(zy (j:=15) (u:=V.wv) hb rfl).1;obtain⟨aw,cw,hwv,hcw,hcm⟩:=zu h;rw[hwv]at c15 h;obtain⟨gw,rfl⟩:=zf h (by omega);obtain⟨_,r1,_⟩:=yp (ks:=L.wks) (wl:=V.wl) (rd:=V.rd) hn;have k1:=zg h r1;rw[hr]at k1;simp only[uD]at k1;have HCT:=zx CT;generalize L.wks.length=nw at *;clear hb h hwv hcm r1 hr CT
 go_enter Tryz.func206,Tryz.ntmps206
 go_wp2_with (first
  | (go_at_call 251;refine HCT.out.mono ?_;rintro e W ⟨r,rfl,hq⟩;have HQ:=zx hq;clear hq))
 go_ret2;exact⟨_,rfl,HQ.out⟩
theorem gQ {Z:Nat→Prop}{w w':World}{B cb:Nat}{V:Rv}{L:Lg}{all:List Ent}{ts:List Tl}(hb:w.heap[cb]? = some (Obj.cells (zR V L) 234 (0,0))) (h:RfV Z B w V L all ts) (hB:B≤w.heap.size){n f a x:Nat}(hn:n<L.wks.length) (hf:f<L.wks.length) (hrd:(L.wks.getD n zo).read=0){v:Value}(ht:Tch (fun g=>some g=V.wv.ownBlock) w w')
  (hrow:w'.ownsRow B 304 3 V.wv L.wks.length (yz (rV L.wks f a n x) (fun p=>if p=f then v else V.wl p) (fun p=>if p=n then 0 else V.rd p))) (hv:w'.ownsRow w.heap.size 3 1 v ((L.wks.getD f zo).list.eraseIdx a).length (((L.wks.getD f zo).list.eraseIdx a).map iV)) :
  Below B w w'∧TyF w w'∧∃V',w'.heap[cb]? = some (Obj.cells (zR V' { L with wks:=rV L.wks f a n x }) 234 (0,0))∧RfV Z B w' V' { L with wks:=rV L.wks f a n x } all ts:=by
 refine⟨zK ht (fun k q=>(zw h.wks q).1) hB,TyF.tch ht (fun k q=>uW h.wks (by decide) (by decide) q),_,RfV.wks1 hb h ht (pu _ _ _ _ _) hrow (fun p hp=>?_) (fun p hp i hi=>?_)⟩
 ·rw[fQ hf hn];by_cases e:p=f
  ·simp only[if_pos e];exact zW hv hB
  ·simp only[if_neg e];exact xK (h.lst p hp) ht (fun g hg=>yr (h.lst p hp) h.wks (by decide) g hg)
 ·rw[oP hf hn]at hi;rw[fU hf hn];by_cases e:p=n
  ·simp only[if_pos e];rw[e,hrd];rfl
  ·rw[if_neg e]at hi;simp only[if_neg e];exact h.run p hp i hi
theorem aS {w:World}{B gw nw cw n:Nat}{ks:List Wk}{wl:Nat→Value}{rd:Nat→Int}(x:Int) (h:w.ownsRow B 304 3 (.slice (some ⟨gw,0,none⟩) nw cw) nw (yz ks wl rd)) (hl:ks.length=nw) (hn:n<nw) :
  (w.setCell ⟨gw,n*3+2,none⟩ (.int .i64 x)).ownsRow B 304 3 (.slice (some ⟨gw,0,none⟩) nw cw) nw (yz ks wl (fun p=>if p=n then x else rd p))∧Tch (fun g=>g=gw) w (w.setCell ⟨gw,n*3+2,none⟩ (.int .i64 x)):=by
 have h1:=zF (i:=n*3+2) (y:=.int .i64 x) h (by omega);rw[dL (by omega)]at h1;exact⟨h1,rfl,rfl,rfl,by simp,fun k _ hk=>zt hk⟩
theorem ix {Z:Nat→Prop}{w:World}{B cb:Nat}{V:Rv}{L:Lg}{all:List Ent}{ts:List Tl}(hb:w.heap[cb]? = some (Obj.cells (zR V L) 234 (0,0))) (h:RfV Z B w V L all ts) (hB:B≤w.heap.size){n i:Nat}(hn:n<L.wks.length) (hr:(L.wks.getD n zo).runs=some i) (hw4:L.wks.length≤4) (hrl:(L.wks.getD n zo).read≤100) (_hf:L.fan≤1000)
  (CE:∀W V' ,W.heap[cb]? = some (Obj.cells (zR V' { L with wks:=L.wks.set n ⟨(L.wks.getD n zo).list,none,0⟩ }) 234 (0,0))→RfV Z B W V' { L with wks:=L.wks.set n ⟨(L.wks.getD n zo).list,none,0⟩ } all ts→V'.wl=V.wl→V'.lv=V.lv→V'.sv=V.sv→V'.av=V.av→V'.mv=V.mv→Below B w W→TyF w W→¬(L.wks.getD n zo).read+1<L.fan→Calls Tryz.prog 252 #[zr cb, .int .i64 (i:Int)] W fun e w'=>e=.returned (.tuple #[])∧Below B w w'∧TyF w w'∧∃V'',w'.heap[cb]? = some (Obj.cells (zR V'' (Lg.ends { L with wks:=L.wks.set n ⟨(L.wks.getD n zo).list,none,0⟩ } i (vU all.length ts))) 234 (0,0))∧RfV Z B w' V'' (Lg.ends { L with wks:=L.wks.set n ⟨(L.wks.getD n zo).list,none,0⟩ } i (vU all.length ts)) all ts) :
  Calls Tryz.prog 206 #[zr cb, .int .i64 (n:Int)] w fun e w'=>∃r L',e=.returned (.tuple #[.int .i64 r, .int .i64 0])∧((L.wks.getD n zo).read+1<L.fan∧r=1∧L'={ L with wks:=L.wks.set n ⟨(L.wks.getD n zo).list,some i,(L.wks.getD n zo).read+1⟩ }∨¬(L.wks.getD n zo).read+1<L.fan∧r=2∧L'=Lg.ends { L with wks:=L.wks.set n ⟨(L.wks.getD n zo).list,none,0⟩ } i (vU all.length ts))∧Below B w w'∧TyF w w'∧∃V',w'.heap[cb]? = some (Obj.cells (zR V' L') 234 (0,0))∧RfV Z B w' V' L' all ts:=by
 have hcb:cb<w.heap.size:=(Mth.gI hb);have c15:=(zy (j:=15) (u:=V.wv) hb rfl).1;obtain⟨aw,cw,hwv,hcw,hcm⟩:=zu h.wks;have hrow:=h.wks;rw[hwv]at c15 hrow;obtain⟨gw,rfl⟩:=zf hrow (by omega);obtain⟨hgB,hgl,CW,hCW⟩:=zw hrow (g:=gw) rfl
 have hne:cb≠gw:=fun e=>by rw[e,hCW]at hb;injection hb with hb;injection hb with _ hb _;exact absurd hb (by decide)
 have hcap:=wn hrow;obtain⟨r0,r1,r2⟩:=yp (ks:=L.wks) (wl:=V.wl) (rd:=V.rd) hn;have k1:=zg hrow r1;have k2:=zg hrow r2;have k2f:=(zC hrow (j:=n*3+2) (by omega)).2;rw[hr]at k1;simp only[uD]at k1;rw[h.run n hn i hr]at k2;obtain⟨rdn,hrdn⟩:∃rdn,rdn=(L.wks.getD n zo).read:=⟨_,rfl⟩;rw[←hrdn]at k2 hrl;obtain⟨m1,m2⟩:=aS ((rdn:Int)+1) hrow rfl hn
 have HW1:Hid (∀W2,Below (w.setCell ⟨gw,n*3+2,none⟩ (.int .i64 ((rdn:Int)+1))).heap.size (w.setCell ⟨gw,n*3+2,none⟩ (.int .i64 ((rdn:Int)+1))) W2→W2.ownsRow B 304 3 (.slice (some ⟨gw,0,none⟩) L.wks.length cw) L.wks.length (yz L.wks V.wl (fun p=>if p=n then(rdn:Int)+1 else V.rd p))∧Tch (fun g=>g=gw) w W2):=fun W2 hb2=>⟨zq m1 hb2,m2.trans (zH (S:=fun _=>False) hb2) (fun _ _ q=>q.elim)⟩
 have hTw:∀ {W:World},Tch (fun g=>g=gw) w W→Tch (fun g=>some g=V.wv.ownBlock) w W:=fun {W} ht=>by
  rw[hwv];exact⟨ht.os,ht.tape,ht.output,ht.size,fun k hk hne=>ht.block k hk (fun e=>hne (by rw[e];rfl))⟩
 have hTy:∀ {W:World},Tch (fun g=>g=gw) w W→TyF w W:=fun ht=>TyF.tch ht (fun k q=>by rw[q];exact⟨_,_,hCW,by decide,by decide⟩)
 have hBt:∀ {W:World},Tch (fun g=>g=gw) w W→Below B w W:=fun ht=>zK ht (fun k q=>by rw[q];exact hgB) hB
 have hlo:∀ {W:World}{k:Wk},Tch (fun g=>g=gw) w W→k.list=(L.wks.getD n zo).list→∀q,q<L.wks.length→W.ownsRow B 3 1 (V.wl q) ((L.wks.set n k).getD q zo).list.length (((L.wks.set n k).getD q zo).list.map iV):=fun {W k} ht hk q hq=>by
  have h1:((L.wks.set n k).getD q zo).list=(L.wks.getD q zo).list:=by
   rw[yZ hn];by_cases e:q=n
   ·rw[if_pos e,hk,e]
   ·rw[if_neg e]
  rw[h1];exact xK (h.lst q hq) (hTw ht) (fun g hg=>yr (h.lst q hq) h.wks (by decide) g hg)
 have FR:Hid (∀W2,W2.ownsRow B 304 3 (.slice (some ⟨gw,0,none⟩) L.wks.length cw) L.wks.length (yz L.wks V.wl (fun p=>if p=n then(rdn:Int)+1 else V.rd p))→Tch (fun g=>g=gw) w W2→Below B w W2∧TyF w W2∧∃V',W2.heap[cb]? = some (Obj.cells (zR V' { L with wks:=L.wks.set n ⟨(L.wks.getD n zo).list,some i,(L.wks.getD n zo).read+1⟩ }) 234 (0,0))∧RfV Z B W2 V' { L with wks:=L.wks.set n ⟨(L.wks.getD n zo).list,some i,(L.wks.getD n zo).read+1⟩ } all ts):=fun W2 o2 t2=>by
  refine⟨hBt t2,hTy t2,_,RfV.wks1 hb h (hTw t2) (by rw[List.length_set]) (wl:=V.wl) (rd:=fun p=>if p=n then(rdn:Int)+1 else V.rd p) ?_ (hlo t2 rfl) (fun q hq j hj=>?_)⟩
  ·rw[jH hn hr.symm,hwv];exact o2
  ·rw[yZ hn]at hj ⊢;by_cases e:q=n
   ·simp only[if_pos e];rw[hrdn];rfl
   ·rw[if_neg e]at hj;simp only[if_neg e];exact h.run q hq j hj
 have FE:Hid (∀W2,W2.ownsRow B 304 3 (.slice (some ⟨gw,0,none⟩) L.wks.length cw) L.wks.length (yz L.wks V.wl (fun p=>if p=n then(rdn:Int)+1 else V.rd p))→Tch (fun g=>g=gw) w W2→¬rdn+1<L.fan→Calls Tryz.prog 252 #[zr cb, .int .i64 (i:Int)] (W2.setCell ⟨gw,n*3+1,none⟩ (.int .i64 (-1))) fun e w'=>e=.returned (.tuple #[])∧Below B w w'∧TyF w w'∧∃V'',w'.heap[cb]? = some (Obj.cells (zR V'' (Lg.ends { L with wks:=L.wks.set n ⟨(L.wks.getD n zo).list,none,0⟩ } i (vU all.length ts))) 234 (0,0))∧RfV Z B w' V'' (Lg.ends { L with wks:=L.wks.set n ⟨(L.wks.getD n zo).list,none,0⟩ } i (vU all.length ts)) all ts):=fun W2 o2 t2 hnf=>by
  have o3:=zF (i:=n*3+1) (y:=.int .i64 (-1)) o2 (by omega);rw[show(Value.int .i64 (-1))=.int .i64 (uD (⟨(L.wks.getD n zo).list,none,0⟩:Wk).runs) from rfl,fm hn]at o3;have t3:Tch (fun g=>g=gw) w (W2.setCell ⟨gw,n*3+1,none⟩ (.int .i64 (-1))):=⟨t2.os,t2.tape,t2.output,by simpa using t2.size,fun k hk hne=>(zt hne).trans (t2.block k hk hne)⟩
  obtain⟨e1,e2⟩:=RfV.wks1 hb h (hTw t3) (ks:=L.wks.set n ⟨(L.wks.getD n zo).list,none,0⟩) (wl:=V.wl) (rd:=fun p=>if p=n then(rdn:Int)+1 else V.rd p) (by rw[List.length_set]) (by rw[hwv];exact o3) (hlo t3 rfl) (fun q hq j hj=>by
   rw[yZ hn]at hj ⊢;by_cases e:q=n
   ·rw[if_pos e]at hj;cases hj
   ·rw[if_neg e]at hj;simp only[if_neg e]
    exact h.run q hq j hj)
  exact CE _ _ e1 e2 rfl rfl rfl rfl rfl (hBt t3) (hTy t3) (by rw[←hrdn];exact hnf)
 have FC:Hid (∀W2,W2.ownsRow B 304 3 (.slice (some ⟨gw,0,none⟩) L.wks.length cw) L.wks.length (yz L.wks V.wl (fun p=>if p=n then(rdn:Int)+1 else V.rd p))→Tch (fun g=>g=gw) w W2→W2.cell? ⟨cb,15,none⟩=some (.slice (some ⟨gw,0,none⟩) L.wks.length cw)∧W2.cell? ⟨cb,1,none⟩=some (.int .i64 (L.fan:Int))∧W2.cell? ⟨gw,n*3+2,none⟩=some (.int .i64 ((rdn:Int)+1))∧W2.cell? ⟨gw,n*3+1,none⟩=some (.int .i64 (i:Int))∧W2.frozen? ⟨gw,n*3+1,none⟩=false):=fun W2 o2 t2=>by
  have hbw:=(t2.block cb hcb hne).trans hb;obtain⟨_,s1,s2⟩:=yp (ks:=L.wks) (wl:=V.wl) (rd:=fun p=>if p=n then(rdn:Int)+1 else V.rd p) hn;simp only[if_true]at s2;rw[hr]at s1;refine⟨?_,(zy (j:=1) hbw rfl).1,zg o2 s2,zg o2 s1,(zC o2 (j:=n*3+1) (by omega)).2⟩;have:=(zy (j:=15) (u:=V.wv) hbw rfl).1;rw[hwv]at this;exact this
 obtain⟨LR,hLR⟩:∃LR,LR=({ L with wks:=L.wks.set n ⟨(L.wks.getD n zo).list,some i,(L.wks.getD n zo).read+1⟩ }:Lg):=⟨_,rfl⟩;obtain⟨LE,hLE⟩:∃LE,LE=Lg.ends { L with wks:=L.wks.set n ⟨(L.wks.getD n zo).list,none,0⟩ } i (vU all.length ts):=⟨_,rfl⟩;rw[←hLR]at FR ⊢;rw[←hLE]at FE ⊢;rw[←hrdn]
 have hwrp:IntKind.i64.wrap ((rdn:Int)+1)=(rdn:Int)+1:=by rw[IntKind.wrap_i64];omega
 obtain⟨h1a,h1b⟩:=HW1.out _ (Below.refl _ _);obtain⟨d15,d1,d2,d3,d4⟩:=FC.out _ h1a h1b;obtain⟨xs,hxs⟩:∃xs,xs=yz L.wks V.wl (fun p=>if p=n then(rdn:Int)+1 else V.rd p):=⟨_,rfl⟩;rw[←hxs]at HW1 FR FE FC;generalize hnw:L.wks.length=nw at *;generalize hfn:L.fan=fan at *;unfold maxLen at hcm hcap;clear hb h hrow m1 m2 hTw hTy hBt hlo CE r0 r1 r2 hr hLR hLE hrdn hCW hwv hnw hfn hxs h1a h1b
 go_enter Tryz.func206,Tryz.ntmps206
 go_upto_region 6 with fail
 obtain⟨W1,hW1⟩:∃W1,W1=w.setCell ⟨gw,n*3+2,none⟩ (.int .i64 ((rdn:Int)+1)):=⟨_,rfl⟩;rw[←hW1]at HW1 d15 d1 d2 d3 d4;rw[←hW1];clear hW1;have e15:=cell_regrown d15;have e1:=cell_regrown d1;have e2:=cell_regrown d2;refine wp_region_quiet_below (by kernel_rfl) (by kernel_rfl) ?_
 repeat(go_big_quiet_step (fail))
 refine wpQuiet_nil ?_;intro _ hw';obtain⟨⟨dq,osq⟩,hw''⟩:=hw';subst hw'';obtain⟨h2a,h2b⟩:=HW1.out _ (below_regrown W1 dq osq);generalize Sort.grow (redrawn W1 dq) osq=w3 at *;clear e15 e1 e2 d15 d1 d2 d3 d4;obtain⟨f15,f1,f2,f3,f4⟩:=FC.out w3 h2a h2b;by_cases hlt:rdn+1<fan
 ·have HFR:=zx (FR.out w3 h2a h2b)
  have hlt2:(rdn:Int)+1<(fan:Int):=by omega
  clear h2a h2b;go_wp2_with fail;go_ret2;exact⟨_,LR,rfl,Or.inl ⟨hlt,rfl,rfl⟩,HFR.out⟩
 ·have CEN:=zx (FE.out w3 h2a h2b hlt)
  have hlt2:¬(rdn:Int)+1<(fan:Int):=by omega
  clear h2a h2b
  go_wp2_with (first
   | (go_at_call 252;refine CEN.out.mono ?_;rintro e W8 ⟨rfl,hfin⟩;have HFIN:=zx hfin;clear hfin))
  go_ret2;exact⟨_,LE,rfl,Or.inr ⟨hlt,rfl,rfl⟩,HFIN.out⟩
theorem iw {Z:Nat→Prop}{w:World}{B cb:Nat}{V:Rv}{L:Lg}{all:List Ent}{ts:List Tl}(hb:w.heap[cb]? = some (Obj.cells (zR V L) 234 (0,0))) (h:RfV Z B w V L all ts) (hD:RfD B V L) (hZ:∀g,B≤g→Z g) (hB:B≤w.heap.size) (hcbB:B≤cb) (hI:Inv L all) (hM:all.length≤1048576) (hw4:L.wks.length≤4) (hnd:∀q,q<L.wks.length→(L.wks.getD q zo).list.length≤900) (hN:Need L (vU all.length ts)){q:Nat}(hq:q<L.wks.length) :
  Calls Tryz.prog 206 #[zr cb, .int .i64 (q:Int)] w fun e w'=>∃r L',e=.returned (.tuple #[.int .i64 r, .int .i64 0])∧StepR L q r L'∧Below B w w'∧TyF w w'∧∃V',w'.heap[cb]? = some (Obj.cells (zR V' L') 234 (0,0))∧RfV Z B w' V' L' all ts:=by
 have hrd:=hI.rd q hq
 have hwl:∀q,q<L.wks.length→(L.wks.getD q zo).list.length≤1000:=fun q hq=>by have:=hnd q hq;omega
 have hcf:=hI.cfg
 cases hr:(L.wks.getD q zo).runs with
 | none=>
  have hr0:=hrd.2 hr;by_cases hl:0<(L.wks.getD q zo).list.length
  ·refine(uk hb h.wks hq hr (fun r w'=>r=1∧Below B w w'∧TyF w w'∧∃V',w'.heap[cb]? = some (Obj.cells (zR V' { L with wks:=rV L.wks q ((L.wks.getD q zo).list.length-1) q ((L.wks.getD q zo).list.getD ((L.wks.getD q zo).list.length-1) 0) }) 234 (0,0))∧RfV Z B w' V' { L with wks:=rV L.wks q ((L.wks.getD q zo).list.length-1) q ((L.wks.getD q zo).list.getD ((L.wks.getD q zo).list.length-1) 0) } all ts) ((lY hb h.wks h.lst hw4 hwl hB hq (a:=(L.wks.getD q zo).list.length-1) (by omega)).mono ?_)).mono ?_
   ·rintro e w' ⟨v,rfl,t1,t2,t3⟩;exact⟨1,rfl,rfl,gQ hb h hB hq hq hr0 t1 t2 t3⟩
   ·rintro e w' ⟨r,rfl,rfl,h1,ht,V',h2,h3⟩;refine⟨1,_,rfl,?_,h1,ht,V',h2,h3⟩;unfold StepR;rw[hr];simp only;rw[if_pos hl];exact⟨trivial,rfl⟩
  ·have hl0:(L.wks.getD q zo).list.length=0:=by omega
   by_cases hbz:(L.wks.getD (xL L.wks L.wks.length) zo).list.length=0
   ·refine(uk hb h.wks hq hr (fun r w'=>r=0∧Below w.heap.size w w') ((nJ hb h.wks h.lst hw4 hwl hB hq (fun p hp=>nT _ hbz p hp)).mono ?_)).mono ?_
    ·rintro e w' ⟨rfl,hbw⟩;exact⟨0,rfl,rfl,hbw⟩
    ·rintro e w' ⟨r,rfl,rfl,hbw⟩;refine⟨0,L,rfl,?_,hbw.mono hB,TyF.below hbw,V,(hbw.block cb (Mth.gI hb)).trans hb,h.below hbw⟩;unfold StepR;rw[hr];simp only;rw[if_neg hl,if_pos hbz];exact⟨trivial,trivial⟩
   ·have hfl:xL L.wks L.wks.length<L.wks.length:=vo _ _ (by omega);refine(uk hb h.wks hq hr (fun r w'=>r=1∧Below B w w'∧TyF w w'∧∃V',w'.heap[cb]? = some (Obj.cells (zR V' { L with wks:=rV L.wks (xL L.wks L.wks.length) 0 q ((L.wks.getD (xL L.wks L.wks.length) zo).list.getD 0 0) }) 234 (0,0))∧RfV Z B w' V' { L with wks:=rV L.wks (xL L.wks L.wks.length) 0 q ((L.wks.getD (xL L.wks L.wks.length) zo).list.getD 0 0) } all ts) ((nI hb h.wks h.lst hw4 hwl hB hq hl0 (f:=xL L.wks L.wks.length) rfl (by omega)).mono ?_)).mono ?_
    ·rintro e w' ⟨v,rfl,t1,t2,t3⟩;exact⟨1,rfl,rfl,gQ hb h hB hq hfl hr0 t1 t2 t3⟩
    ·rintro e w' ⟨r,rfl,rfl,h1,ht,V',h2,h3⟩;refine⟨1,_,rfl,?_,h1,ht,V',h2,h3⟩;unfold StepR;rw[hr];simp only;rw[if_neg hl,if_neg hbz];exact⟨trivial,rfl⟩
 | some i=>
  have hct:0<ct L.wks i:=Nat.lt_of_lt_of_le (by unfold tc;rw[hr];simp) (qA (tc i) (qT hq));obtain⟨hi4,hif⟩:=hI.big i hct;have h3:=hrd.1 i hr;have hlf:=hI.levFlat i L.fan (by omega);refine(ix hb h hB hq hr hw4 (by omega) (by omega) (fun W V' hbW hW e1 e2 e3 e4 e5 bW tW hnf=>?_)).mono ?_
  ·have hset:∀p,(L.wks.set q ⟨(L.wks.getD q zo).list,none,0⟩).getD p zo=if p=q then⟨(L.wks.getD q zo).list,none,0⟩ else L.wks.getD p zo:=fun p=>yZ hq
   refine(hU (L:={ L with wks:=L.wks.set q ⟨(L.wks.getD q zo).list,none,0⟩ }) hbW hW ⟨by rw[e4,e5];exact hD.am,by rw[e2];exact hD.lev,?_,by rw[e3];exact hD.sg⟩ hZ (Nat.le_trans hB bW.size) hcbB hi4 hif ⟨by show 1≤L.fan;omega,hcf.2.1.2⟩ ⟨?_,?_⟩ (fun p hp=>?_) (fun j hj=>?_) hI.clk hcf.2.2.2.1.2 (fun es hes e he=>?_) ?_).mono ?_
   ·show ∀a b,a<(L.wks.set q _).length→b<(L.wks.set q _).length→_;rw[List.length_set,e1];exact hD.lst
   ·show 0<(L.wks.set q _).length;rw[List.length_set];omega
   ·show(L.wks.set q _).length≤4;rw[List.length_set];omega
   ·have hp':p<L.wks.length:=by rw[←List.length_set (i:=q) (a:=(⟨(L.wks.getD q zo).list,none,0⟩:Wk))];exact hp
    show((L.wks.set q ⟨(L.wks.getD q zo).list,none,0⟩).getD p zo).list.length≤900;rw[hset];by_cases e:p=q
    ·rw[if_pos e];exact hnd q hq
    ·rw[if_neg e];exact hnd p hp'
   ·have:=hI.lev j hj;show(L.lev j).length≤_;omega
   ·have:=hI.ok.bd e ((hI.segSub (yG (by omega) hes)).subset he);have hck:=hI.clk;omega
   ·show((L.lev i).take L.fan).flatten.length≤_;omega
   ·rintro e w' ⟨rfl,b1,t1,V'',b2,b3⟩;exact⟨rfl,bW.trans b1,tW.trans t1,V'',b2,b3⟩
  ·rintro e w' ⟨r,L',rfl,hc,h1,ht,V',h2,h3'⟩;refine⟨r,L',rfl,?_,h1,ht,V',h2,h3'⟩;unfold StepR;rw[hr];simp only
   rcases hc with⟨hc1,hc2,hc3⟩|⟨hc1,hc2,hc3⟩
   ·rw[if_pos hc1];exact⟨hc2,hc3⟩
   ·rw[if_neg hc1];exact⟨hc2,_,hN,hc3⟩
end Go.Proofs.YtkncboinfcnklaaGreatDoor.Rl
namespace Go.Proofs.YtkncboinfcnklaaGreatDoor.Lw
open Go.RowKit Go.Deep Go.Shelf Go.Proofs.YtkncboinfcnklaaGreatDoor.Mth Go.Proofs.YtkncboinfcnklaaGreatDoor.Rl
theorem uZ {W W2 w' w3:World}{ρ ρ':Nat→Nat}{B N lb:Nat}{G':Gh}{L':Lg}(hl:∀k,ρ k≠0→k<W.heap.size) (hb:Below W.heap.size W W2) (hn:∀k,W.heap.size≤k→k<W2.heap.size→¬wM W2 k) (hs:LStp W2 w' ρ ρ') (hg:LogAt w' ρ' B N lb G' L') (ht:Tch (fun k=>W.heap.size≤k∧k<W2.heap.size) w' w3):LogAt w3 ρ' B N lb G' L'∧LStp W w3 ρ ρ':=by
 have hr0:∀k,W.heap.size≤k→ρ k=0:=fun k hk=>by
  by_cases q:ρ k=0
  ·exact q
  ·have:=hl k q;omega
 have hr':∀k,W.heap.size≤k→k<W2.heap.size→ρ' k=0:=fun k h1 h2=>hs.old k h2 (hr0 k h1)
 have hsm:∀k,W.heap.size≤k→k<W2.heap.size→w'.heap[k]? = W2.heap[k]? := fun k h1 h2=>hs.tch.block k h2 (fun q=>q.1 (hr0 k h1))
 have hs1:=hs.tch.size
 have hN:∀k,k<W.heap.size→(wM W2 k↔wM W k):=fun k hk=>by
  unfold wM;rw[hb.block k hk]
 refine⟨hg.same (fun g q=>ht.block g ?_ (fun s=>?_)) ht.size,⟨⟨ht.os.trans (hs.tch.os.trans hb.os),ht.tape.trans (hs.tch.tape.trans hb.tape),ht.output.trans (hs.tch.output.trans hb.output),Nat.le_trans hb.size (Nat.le_trans hs1 ht.size),fun k hk hne=>?_⟩,fun k hk q=>hs.old k (Nat.lt_of_lt_of_le hk hb.size) q⟩⟩
 ·rcases q with q|q
  ·exact(hg.x.lt g q).1
  ·exact yw q
 ·rcases q with q|q
  ·exact q (hr' g s.1 s.2)
  ·refine hn g s.1 s.2 ?_;obtain⟨C,fr,h1⟩:=q;exact⟨C,fr,by rw[←hsm g s.1 s.2];exact h1⟩
 ·have hk2:=Nat.lt_of_lt_of_le hk hb.size;rw[ht.block k (Nat.lt_of_lt_of_le hk2 hs1) (fun q=>by omega),hs.tch.block k hk2 (fun q=>hne ⟨q.1,fun z=>q.2 ((hN k hk).2 z)⟩)];exact hb.block k hk
structure AkR (P:Lg→List Tl→Prop) (M:Nat) (o:Opr) (W w3:World) (x:Ho) (a b:Int) (te:Value) (L':Lg) (ts':List Tl) (ρ':Nat→Nat) (G':Gh) (N':Nat) (le:List Ent):Prop where
 log:LogAt w3 ρ' x.B N' x.lb G' L'
 nb:N'+L'.subs≤2*(M+1)
 stp:LStp W w3 x.ρ ρ'
 left:G'.left=-1
 db:G'.db=x.d
 dt:G'.dt.size≤64*(M+1)
 inv:Inv L' x.all
 tl:P L' ts'
 cfg:L'.memory=x.L.memory∧L'.fan=x.L.fan∧L'.back=x.L.back∧L'.wks.length=x.L.wks.length∧L'.keep=x.L.keep∧L'.batch=x.L.batch
 own:w3.ownsRow W.heap.size 66 3 te le.length (le.flatMap eC)
 len:le.length≤1100000
 ro:∀g,some g=te.ownBlock→ρ' g=0
 ans:∀(Z1:Nat→Prop) (B1:Nat) (W1:World) (cb:Nat) (V':Rv),W1.heap[cb]? = some (Obj.cells (zR V' x.L) 234 (0,0))→RfV Z1 B1 W1 V' x.L x.all x.ts→RfD B1 V' x.L→(∀g,B1≤g→Z1 g)→B1≤W1.heap.size→B1≤cb→Calls Tryz.prog 134 #[zr cb,oV o] W1 fun e W'=>∃ue,e=.returned (.agg (wO a b ue (.slice none 0 0)))∧W'.ownsRow W1.heap.size 66 3 ue le.length (le.flatMap eC)∧Below B1 W1 W'∧∃V2,W'.heap[cb]? = some (Obj.cells (zR V2 L') 234 (0,0))∧RfV Z1 B1 W' V2 L' x.all ts'
theorem vH {P:Lg→List Tl→Prop}{Z:Nat→Prop}{w:World}{B wb:Nat}{g0 g1 g2 g3 hv ke ks kr:Value}{Ne Ns Nr M:Nat}{hs:List Ho}{i:Nat}(h:HI P Z w B wb g0 g1 g2 g3 hv ke ks kr Ne Ns Nr M hs none) (hi:i<hs.length) (hBw:B≤w.heap.size) (o:Opr) (hM:M+2≤400000) (hPt:∀L ts,P L ts→ts.length≤1000)
  (hask:∀W,Below w.heap.size w W→HoAt P Z W M (hs.getD i h0)→Calls Tryz.prog 133 #[zr (hs.getD i h0).lb,oV o] W fun e w3=>∃a b te L' ts' ρ' G' N' le,e=.returned (.agg (wO a b te (.slice none 0 0)))∧AkR P M o W w3 (hs.getD i h0) a b te L' ts' ρ' G' N' le) :
  Calls Tryz.prog 69 #[zr wb,zr (hs.getD i h0).hb,oV o] w fun e w'=>e=.returned (.bool true)∧HS P Z w w' B wb g0 g1 g2 g3 (M+2):=by
 obtain⟨W0,hW0⟩:∃W0,W0=w.alloc (Obj.cells #[.int .i64 o.k, .int .i64 o.A, .int .i64 o.B, .int .i64 o.C, .string o.S, .string o.T] 94):=⟨_,rfl⟩
 have b0:Below w.heap.size w W0:=by rw[hW0];exact zv _ _
 have s0:W0.heap.size=w.heap.size+1:=by rw[hW0];simp
 have k0:W0.heap[w.heap.size]? = some (Obj.cells #[.int .i64 o.k, .int .i64 o.A, .int .i64 o.B, .int .i64 o.C, .string o.S, .string o.T] 94 (0,0)):=by rw[hW0];exact zj _ _ _
 have hbm:Mu wb hv ke ks kr (hs.map Ho.hb) (hs.getD i h0).hb:=Or.inr (Or.inr (Or.inr (Or.inr (Or.inr (xQ hi)))));have hbl:=h.mlt hbm;have hob0:=(h.below b0).hob i hi;have hmb:=h.mb
 have hne:(hs.getD i h0).hb≠wb:=fun e=>by
  have h1:=h.hob i hi;rw[e]at h1;exact absurd (zc h1 h.blk) (by decide)
 have hrl:∀k,(hs.getD i h0).ρ k≠0→k<w.heap.size:=fun k hk=>(h.lt i hi k hk).1
 have hr0:∀k,w.heap.size≤k→(hs.getD i h0).ρ k=0:=fun k hk=>by
  by_cases q:(hs.getD i h0).ρ k=0
  ·exact q
  ·have:=hrl k q;omega
 refine tY o (fun w'=>HS P Z w w' B wb g0 g1 g2 g3 (M+2)) hW0 rfl hbl hne (zy (j:=0) hob0 rfl).1 (fun W hW hnn=>?_);have bW:Below w.heap.size w W:=b0.trans (hW.mono b0.size);have vu:=hW.size;have hxW:=((h.below bW).punch hi).2;refine(hask W bW hxW).mono ?_;rintro e w2 ⟨a,b,te,L',ts',ρ',G',N',le,rfl,hr⟩;have hs2:=hr.stp.tch.size;have hrbl:(hs.getD i h0).ρ (hs.getD i h0).hb=0:=h.rm _ hbm i hi;refine⟨a,b,te,_,rfl,yJ hr.own,⟨_,_,_,rfl⟩,fun g h1 hg=>hr.stp.tch.block g hg (fun q=>q.1 (hr0 g (by omega))),hs2,(hr.stp.tch.block _ (by omega) (fun q=>q.1 hrbl)).trans (hW.block _ (by omega)),(hr.stp.tch.block _ (by omega) (fun q=>q.1 (hr0 _ (Nat.le_refl _)))).trans (hW.block _ (by omega)),?_⟩;intro w2' tb htc htl htb;obtain⟨hlg,hst⟩:=uZ (W:=W0) (W2:=W) (fun k hk=>by have:=hrl k hk;omega) hW hnn hr.stp hr.log htc;have hs2':=htc.size;have hs02:W0.heap.size≤w2'.heap.size:=hst.tch.size;obtain⟨hp0,hx0⟩:=(h.below b0).punch hi;obtain⟨c1,c2,c3,c4,c5,c6⟩:=hr.cfg;obtain⟨p1,p2⟩:=hp0.prog hi hst G' L' N' (hs.getD i h0).all ts' (by unfold kL;rw[c1,c2,c3,c4,c5,c6]) hlg.x.lt;obtain⟨x1,hx1⟩:∃x1:Ho,x1={ (hs.getD i h0)with ρ:=ρ',G:=G',L:=L',N:=N',all:=(hs.getD i h0).all,ts:=ts' }:=⟨_,rfl⟩;rw[←hx1]at p1
 have e1:x1.hb=(hs.getD i h0).hb:=by rw[hx1]
 have e2:x1.mv=(hs.getD i h0).mv:=by rw[hx1]
 have e3:x1.L=L':=by rw[hx1]
 have e4:x1.all=(hs.getD i h0).all:=by rw[hx1]
 have e5:x1.ts=ts':=by rw[hx1]
 have e6:x1.ρ=ρ':=by rw[hx1]
 have e7:x1.G=G':=by rw[hx1]
 have e8:x1.d=(hs.getD i h0).d:=by rw[hx1]
 have e9:x1.B=(hs.getD i h0).B∧x1.N=N'∧x1.lb=(hs.getD i h0).lb:=by rw[hx1];exact⟨rfl,rfl,rfl⟩
 have hgd:(hs.set i x1).getD i h0=x1:=by rw[zU hi,if_pos rfl]
 have hsl1:(hs.set i x1).length=hs.length:=List.length_set
 have hi1:i<(hs.set i x1).length:=by rw[hsl1];exact hi
 have em1:=xi (x:=x1) hi e1;clear hx1;have hbd:=hx0.bud;have hob2:=p1.hob i hi1;rw[hgd,e1]at hob2;have k2:w2'.heap[w.heap.size]? = _:=(hst.tch.block _ (by omega) (fun q=>q.1 (hr0 _ (Nat.le_refl _)))).trans k0;have hw4:=hx0.log.x.k.few
 have hwl:∀q,q<(hs.getD i h0).L.wks.length→((hs.getD i h0).L.wks.getD q zo).list.length≤900:=fun q hq=>by have:=xz (hx0.log.x.k.ok q hq);omega
 have o2':w2'.ownsRow W.heap.size 66 3 te le.length (le.flatMap eC):=zn hr.own (fun g hg=>htc.block g (zw hr.own hg).2.1 (fun q=>by have:=(zw hr.own hg).1;omega));have c9:=zy (j:=9) (u:=x1.mv) hob2 rfl;rw[e2]at c9;have bB2:Below B w w2':=(b0.mono hBw).trans (Rl.zK hst.tch (fun k q=>Nat.le_trans (h.hge i hi).1 (hx0.log.x.lt k q.1).2) (by omega))
 have hzk:∀g,Z g→w2'.heap[g]? = w.heap[g]? := fun g hg=>(p2 g hg).trans (b0.block g (h.zm g hg).1)
 obtain⟨mb,mc,C,hq⟩:=gW (wb:=wb) (FQ:=fun w'=>HS P Z w w' B wb g0 g1 g2 g3 (M+2)) (L':=L') (al:=(hs.getD i h0).all) (ts':=ts') (o:=o) htl ⟨yJ hr.own,⟨_,_,_,rfl⟩⟩ c9 k2 (zn hx0.may (fun g hg=>p2 g (hx0.mz g hg))) (hx0.ref.same hx0.rz p2) (fun g hg=>(p1.zm g hg).1) hx0.inv (by omega) hw4.2 hwl (hPt _ _ hx0.tl) (fun W1 cb V' hbW hcb hrf hd hc=>by
  refine(hr.ans (fun g=>Z g∨w2'.heap.size≤g) w2'.heap.size W1 cb V' hcb hrf hd (fun g hg=>Or.inr hg) hbW.size hc).mono ?_;rintro e W' ⟨ue,rfl,o3,b3,V2,f1,f2⟩;refine⟨ue,_,rfl,yJ o3,⟨_,_,_,rfl⟩,fun W6 h6=>?_,fun W6 _=>qo W6,b3,V2,f1,f2⟩;have b6:Below w2'.heap.size w2' W6:=hbW.trans (b3.trans (h6.mono (Nat.le_trans hbW.size b3.size)))
  exact xN (vS (zq o2' b6)) (vS (zq o3 h6))) (fun mv W10 hrt=>by
  obtain⟨V2,hrt⟩:=hrt
  have hrt':RfT Z w2' W10 ((hs.set i x1).getD i h0).L ((hs.set i x1).getD i h0).all ((hs.set i x1).getD i h0).ts mv V2:=by rw[hgd,e3,e4,e5];exact hrt
  have hf:=uR p1 hi1 hrt' (by rw[hgd,e3,e6,e7,e9.1,e9.2.1,e9.2.2];exact hlg) (by rw[hgd,e3,e4];exact hr.inv) (by rw[hgd,e7];exact hr.left) (by rw[hgd,e7,e8];exact hr.db) (by rw[hgd,e7,e4,e9.2.1,e3];exact⟨hr.dt,by omega,hr.nb⟩) (by rw[hgd,e3,e5];exact hr.tl);have bd:=zE (W10.setCell ⟨((hs.set i x1).getD i h0).hb,9,none⟩ mv);have hf2:=hf.below bd;have em:=xi (hs:=hs.set i x1) (x:={ ((hs.set i x1).getD i h0)with mv:=mv,V:=V2 }) hi1 rfl
  have hsl:((hs.set i x1).set i { ((hs.set i x1).getD i h0)with mv:=mv,V:=V2 }).length=hs.length:=by rw[List.length_set,hsl1]
  have hv1:∀g,some g=te.ownBlock→W.heap.size≤g∧g<w2'.heap.size:=fun g hg=>⟨(zw o2' hg).1,(zw o2' hg).2.1⟩
  have hte:∀g,some g=te.ownBlock→∀j,j<hs.length→((hs.set i x1).getD j h0).ρ g=0:=fun g hg j hj=>by
   obtain⟨_,_,D,hD⟩:=zw o2' hg;rw[zU hi];by_cases e:j=i
   ·rw[if_pos e,e6];exact hr.ro g hg
   ·rw[if_neg e];by_cases q:(hs.getD j h0).ρ g=0
    ·exact q
    ·have:=(h.lt j hj g q).1;have:=(hv1 g hg).1;omega
  have hr10:=hrt.bel.size;rw[hgd]at hf2 bd em hsl;rw[e1]at hf2 bd;have o10:(W10.setCell ⟨(hs.getD i h0).hb,9,none⟩ mv).drew.ownsRow w.heap.size 66 3 te le.length (le.flatMap eC):=zq (zW (zn (zq o2' hrt.bel) (fun g hg=>zt (fun e=>by have:=hv1 g hg;omega))) bW.size) bd
  have htl10:(W10.setCell ⟨(hs.getD i h0).hb,9,none⟩ mv).drew.heap[tb]? = some (Obj.cells (wO a b te (.slice none 0 0)) 245 (0,0)):=by
   have e1:(W10.setCell ⟨(hs.getD i h0).hb,9,none⟩ mv).heap[tb]? = W10.heap[tb]? := zt (fun e=>by omega);exact e1.trans ((hrt.bel.block tb (Mth.gI htl)).trans htl)
  refine(gF (B0:=w.heap.size) (tb:=tb) hf2 o10 hr.len (by omega) (by show w.heap.size≤(W10.setCell _ _).heap.size;simp;omega) hBw (fun g hg=>by rw[em,em1]at hg;exact h.mlt hg) (fun g hg=>?_) htl10 (by omega)).mono ?_
  ·obtain⟨q1,q2⟩:=hv1 g hg;refine⟨fun hz=>?_,fun j hj=>?_⟩
   ·rcases hz with hz|hz
    ·have:=(h.zm g hz).1;omega
    ·omega
   ·rw[hsl]at hj;rw[zU hi1];by_cases e:j=i
    ·subst e;rw[if_pos rfl];show x1.ρ g=0;rw[←hgd];exact hte g hg j hj
    ·rw[if_neg e];exact hte g hg j hj
  ·rintro e W12 ⟨rfl,h1,h2⟩;refine⟨rfl,h1,h2.mono ?_⟩;rintro e W13 ⟨rfl,h3⟩;refine⟨rfl,h3.pre ?_ (fun g hg=>Or.inl hg) (fun g hg=>?_)⟩
   ·exact bB2.trans (Rl.zZ (hrt.bel.mono (Nat.le_trans hBw (by omega))) (h.hge i hi).2 |>.trans (bd.mono (by simp;omega)))
   ·have e1:(W10.setCell ⟨(hs.getD i h0).hb,9,none⟩ mv).heap[g]? = W10.heap[g]? := zt (fun e=>(h.zm g hg).2.1 (by rw[e];exact hbm))
    exact e1.trans ((hrt.bel.block g (by have:=(h.zm g hg).1;omega)).trans (hzk g hg)))
 exact⟨mb,mc,C,_,hq⟩
theorem fA {w:World}{ρ:Nat→Nat}{B N lb:Nat}{G:Gh}{L:Lg}(h:LogX w ρ B N lb G L) (n:Int) (hn:¬(0≤n∧n<(L.wks.length:Int))) :
  Calls Tryz.prog 23 #[zr lb, .int .i64 n] w fun e w'=>e=.returned (.tuple #[.int .i64 0, .int .i64 1])∧Below w.heap.size w w':=by
 obtain⟨c14,_⟩:=zy (j:=14) (u:=G.wr) h.b.blk rfl;obtain⟨a,c,hwr,hcc,hm⟩:=zu h.k.row;rw[hwr]at c14;have CI:=zx (yn n 0 ((G.wb.length:Int)-1) w);have hfew:=h.k.few;have hln:=h.k.len;rw[decide_eq_false (show ¬((0:Int)≤n∧n≤(G.wb.length:Int)-1) by omega)]at CI
 have hnn:G.wb.length≤4:=by omega
 have hn0:0<G.wb.length:=by omega
 clear h hwr hln hfew hn;generalize G.wb.length=m at *
 go_enter Tryz.func23,Tryz.ntmps23
 go_wp2_with (first
  | (go_at_call 53;refine CI.out.mono ?_;rintro e w1 ⟨rfl,hw1⟩;rw[hw1];clear hw1))
 go_ret2;exact⟨rfl,Below.refl _ _⟩
theorem cX {Z:Nat→Prop}{B:Nat}{S:Nat→Prop}{w w':World}{V:Rv}{L:Lg}{all:List Ent}{ts:List Tl}(h:RfV Z B w V L all ts) (ht:Tch S w w') (hS:∀k,S k→∃C t,w.heap[k]? = some (Obj.cells C t (0,0))∧(t=94∨t=245)):RfV Z B w' V L all ts:=by
 have kp:∀ {B':Nat}{e:TypeId}{sz:Nat}{u:Value}{m:Nat}{xs:List Value},w.ownsRow B' e sz u m xs→e≠94→e≠245→w'.ownsRow B' e sz u m xs:=fun ho h1 h2=>xK ho ht (fun g hg q=>by
  obtain⟨_,_,D,hD⟩:=zw ho hg;obtain⟨C,t,h3,h4⟩:=hS g q;have:=zc hD h3;subst this
  rcases h4 with e|e
  ·exact h1 e
  ·exact h2 e)
 exact⟨kp h.all (by decide) (by decide),kp h.mem (by decide) (by decide),fun i hi=>kp (h.lev i hi) (by decide) (by decide),fun i hi j hj=>kp (h.seg i hi j hj) (by decide) (by decide),h.sz,kp h.wks (by decide) (by decide),fun q hq=>kp (h.lst q hq) (by decide) (by decide),h.run,kp h.tls (by decide) (by decide)⟩
theorem wt {Z:Nat→Prop}{B cb:Nat}{W W2 w' w3:World}{V:Rv}{L:Lg}{all:List Ent}{ts:List Tl}(hB:B≤W.heap.size) (hb:Below W.heap.size W W2) (hty:TyB W W2) (b:Below B W2 w') (ty:TyF W2 w') (f1:w'.heap[cb]? = some (Obj.cells (zR V L) 234 (0,0))) (f2:RfV Z B w' V L all ts) (ht:Tch (fun k=>W.heap.size≤k∧k<W2.heap.size) w' w3) :
  Below B W w3∧w3.heap[cb]? = some (Obj.cells (zR V L) 234 (0,0))∧RfV Z B w3 V L all ts:=by
 have hS:∀k,(W.heap.size≤k∧k<W2.heap.size)→∃C t,w'.heap[k]? = some (Obj.cells C t (0,0))∧(t=94∨t=245):=fun k hk=>by
  obtain⟨C,t,h1,h2⟩:=hty k hk.1 hk.2;exact⟨C,t,(ty k C t h1 h2).trans h1,h2⟩
 refine⟨zP ((hb.mono hB).trans b) ht (fun k q=>by omega) (Nat.le_trans hB (Nat.le_trans hb.size b.size)),?_,cX f2 ht hS⟩;refine(ht.block cb (Mth.gI f1) (fun q=>?_)).trans f1;obtain⟨C,t,h1,h2⟩:=hS cb q;have:=zc f1 h1;subst this
 rcases h2 with e|e <;> exact absurd e (by decide)
theorem sp {W W2 w':World}(hty:TyB W W2) (ty:TyF W2 w'):∀k,W.heap.size≤k→k<W2.heap.size→w'.heap[k]? = W2.heap[k]? := fun k h1 h2=>by
 obtain⟨C,t,h3,h4⟩:=hty k h1 h2;exact ty k C t h3 h4
theorem AkR.same {P:Lg→List Tl→Prop}{Z:Nat→Prop}{M:Nat}{o:Opr}{W w3:World}{x:Ho}{a b:Int}(hx:HoAt P Z W M x) (hb:Below W.heap.size W w3)
  (ans:∀(W1:World) (cb:Nat) (V':Rv) (B1:Nat) (Z1:Nat→Prop),W1.heap[cb]? = some (Obj.cells (zR V' x.L) 234 (0,0))→RfV Z1 B1 W1 V' x.L x.all x.ts→Calls Tryz.prog 134 #[zr cb,oV o] W1 fun e W'=>e=.returned (.agg (wO a b (.slice none 0 0) (.slice none 0 0)))∧Below W1.heap.size W1 W') :
  AkR P M o W w3 x a b (.slice none 0 0) x.L x.ts x.ρ x.G x.N []:=by
 have hbd:=hx.bud;refine⟨hx.log.below hb,by omega,⟨zH hb,fun _ _ q=>q⟩,hx.left,hx.db,by omega,hx.inv,hx.tl,⟨rfl,rfl,rfl,rfl,rfl,rfl⟩,World.ownsRow_nil _ _ _ _,Nat.zero_le _,(fun g hg=>by cases hg),fun Z1 B1 W1 cb V' h1 h2 h3 h4 h5 h6=>(ans W1 cb V' B1 Z1 h1 h2).mono ?_⟩;rintro e W' ⟨rfl,hb'⟩;exact⟨_,rfl,World.ownsRow_nil _ _ _ _,hb'.mono h5,V',(hb'.block cb (Mth.gI h1)).trans h1,h2.below hb'⟩
theorem gu {P:Lg→List Tl→Prop}{Z:Nat→Prop}{w:World}{B wb:Nat}{g0 g1 g2 g3 hv ke ks kr:Value}{Ne Ns Nr M:Nat}{hs:List Ho}{i:Nat}(h:HI P Z w B wb g0 g1 g2 g3 hv ke ks kr Ne Ns Nr M hs none) (hi:i<hs.length) (ht:TabB B w) (hBw:B≤w.heap.size) (A Bv Cv:Int) (S T:ByteArray) (hM:M+2≤400000) (hPt:∀L ts,P L ts→ts.length≤1000)
  (hPs:∀(L L':Lg) ts,P L ts→L'.tls=L.tls→L'.subs=L.subs→L'.tn=L.tn→L'.count=L.count→P L' ts) (hPn:∀L all ts,Inv L all→P L ts→Need L (vU all.length ts)) :
  Calls Tryz.prog 69 #[zr wb,zr (hs.getD i h0).hb,oV ⟨15,A,Bv,Cv,S,T⟩] w fun e w'=>e=.returned (.bool true)∧HS P Z w w' B wb g0 g1 g2 g3 (M+2):=by
 refine vH h hi hBw ⟨15,A,Bv,Cv,S,T⟩ hM hPt (fun W bW hx=>?_);have hge:=h.hge i hi;generalize hs.getD i h0=x at *;have hbd:=hx.bud;have hcf:=hx.inv.cfg;have hw4:=hx.log.x.k.few
 have hBx:x.B≤W.heap.size:=by
  have:=(hx.log.x.lt _ (by rw[hx.log.x.b.rl];omega:x.ρ x.lb≠0));omega
 by_cases hr:0≤Bv∧Bv<(x.L.wks.length:Int)
 ·obtain⟨q,rfl⟩:=Int.eq_ofNat_of_zero_le hr.1
  have hq:q<x.L.wks.length:=by omega
  refine(fz A (q:Int) Cv S T (fun n er w3=>er=0∧∃L' ρ' G',StepR x.L q n L'∧LogAt w3 ρ' x.B x.N x.lb G' L'∧LStp W w3 x.ρ ρ'∧GK x.G G') (fun W2 hb hty=>?_)).mono ?_
  ·have hl2:=hx.log.below hb;refine(ez hl2.x (Nat.le_trans hBx hb.size) (TabB.mono ((ht.next (bW.mono hBw)).next (hb.mono (Nat.le_trans hBw bW.size))) hge.1) hq (fun j hj=>?_) (by omega) hcf.2.1.2 hx.inv.clk hcf.2.2.2.1.2 (fun k hk=>by have:=hx.inv.lev k hk;omega)).mono ?_
   ·have hct:0<ct x.L.wks j:=Nat.lt_of_lt_of_le (by unfold tc;rw[hj];simp) (qA (tc j) (qT hq));obtain⟨h1,h2⟩:=hx.inv.big j hct;have h3:=(hx.inv.rd q hq).1 j hj;exact⟨h2,by omega,by have:=hx.inv.levFlat j x.L.fan (by omega);omega,hx.inv.texts (by omega)⟩
   ·rintro e w' ⟨r,L',rfl,hsr,hX⟩;obtain⟨ρ',G',hl,hst,hgk⟩:=hX.log hl2.m (hx.inv.step hq hsr).2.2.2.1;refine⟨r,0,rfl,fun k h1 h2=>hst.tch.block k h2 (fun z=>?_),fun w3 ht3=>?_⟩
    ·have:=(hx.log.x.lt k z.1).1;omega
    ·obtain⟨p1,p2⟩:=uZ (fun k hk=>(hx.log.x.lt k hk).1) hb hty.non hst hl ht3;exact⟨rfl,L',ρ',G',hsr,p1,p2,hgk⟩
  ·rintro e w3 ⟨n,er,rfl,rfl,L',ρ',G',hsr,p1,p2,hgk⟩;obtain⟨s1,s2,s3,s4,s5,s6,s7,s8,s9,s10⟩:=Kp.StepR.same hsr;have hi':=(hx.inv.step hq hsr).1;refine⟨n,0,_,L',x.ts,ρ',G',x.N,[],rfl,p1,by omega,p2,by rw[hgk];exact hx.left,by rw[hgk];exact hx.db,by rw[hgk];show x.G.dt.size≤_;omega,hi',hPs _ _ _ hx.tl s8 s9 s10 (hi'.cnt.trans hx.inv.cnt.symm),⟨s1,s2,s3,s7,s4,s5⟩,World.ownsRow_nil _ _ _ _,Nat.zero_le _,(fun g hg=>by cases hg),fun Z1 B1 W1 cb V' h1 h2 h3 h4 h5 h6=>?_⟩;refine(jU A (q:Int) Cv S T (fun n' er' w4=>n'=n∧er'=0∧Below B1 W1 w4∧∃V2,w4.heap[cb]? = some (Obj.cells (zR V2 L') 234 (0,0))∧RfV Z1 B1 w4 V2 L' x.all x.ts) (fun W2 hb hty=>?_)).mono ?_
   ·refine(iw ((hb.block cb (Mth.gI h1)).trans h1) (h2.below hb) h3 h4 (Nat.le_trans h5 hb.size) h6 hx.inv (by omega) hw4.2 (fun q hq=>by have:=xz (hx.log.x.k.ok q hq);omega) (hPn _ _ _ hx.inv hx.tl) hq).mono ?_;rintro e w' ⟨r,L2,rfl,hs2,b,ty,V2,f1,f2⟩;obtain⟨e1,e2⟩:=StepR.uniq hs2 hsr;subst e1 e2;exact⟨r,0,rfl,sp hty ty,fun w4 ht4=>⟨rfl,rfl,(wt h5 hb hty b ty f1 f2 ht4).1,V2,(wt h5 hb hty b ty f1 f2 ht4).2⟩⟩
   ·rintro e w4 ⟨n',er',rfl,rfl,rfl,b,V2,f1,f2⟩;exact⟨_,rfl,World.ownsRow_nil _ _ _ _,b,V2,f1,f2⟩
 ·refine(fz A Bv Cv S T (fun n er w3=>n=0∧er=1∧Below W.heap.size W w3) (fun W2 hb hty=>?_)).mono ?_
  ·refine(fA (hx.log.below hb).x Bv hr).mono ?_;rintro e w' ⟨rfl,hb'⟩;exact⟨0,1,rfl,fun k _ h2=>hb'.block k h2,fun w3 ht3=>⟨rfl,rfl,zP (hb.trans (hb'.mono hb.size)) ht3 (fun k q=>q.1) (Nat.le_trans hb.size hb'.size)⟩⟩
  ·rintro e w3 ⟨n,er,rfl,rfl,rfl,hb3⟩;refine⟨0,1,_,x.L,x.ts,x.ρ,x.G,x.N,[],rfl,AkR.same hx hb3 (fun W1 cb V' B1 Z1 h1 h2=>?_)⟩;refine(jU A Bv Cv S T (fun n er w3=>n=0∧er=1∧Below W1.heap.size W1 w3) (fun W2 hb hty=>?_)).mono ?_
   ·refine(ey ((hb.block cb (Mth.gI h1)).trans h1) (h2.below hb).wks Bv hr).mono ?_;rintro e w' ⟨rfl,rfl⟩;exact⟨0,1,rfl,fun k _ _=>rfl,fun w3 ht3=>⟨rfl,rfl,zP hb ht3 (fun k q=>q.1) hb.size⟩⟩
   ·rintro e w4 ⟨n,er,rfl,rfl,rfl,hb4⟩;exact⟨rfl,hb4⟩
end Go.Proofs.YtkncboinfcnklaaGreatDoor.Lw
