import Derived.Test.YtkncboinfcnklaaGreatDoorQ34
import Derived.Test.YtkncboinfcnklaaGreatDoorQ35
import Derived.Test.YtkncboinfcnklaaGreatDoorQ17
set_option maxRecDepth 100000
set_option maxHeartbeats 8000000
namespace Go.Proofs.YtkncboinfcnklaaGreatDoor.Rl
open Go.RowKit Go.Deep Go.Shelf Go.Proofs.YtkncboinfcnklaaGreatDoor.Mth
theorem ji {w:World}{B gl nl cl:Nat}{l:List Nat}(h:w.ownsRow B 3 1 (.slice (some ⟨gl,0,none⟩) nl cl) nl (l.map iV)){a:Nat}(ha:a<l.length):w.cell? ⟨gl,a,none⟩=some (.int .i64 ((l.getD a 0:Nat):Int)):=by
 have hg:l[a]? = some (l.getD a 0):=by rw[List.getElem?_eq_getElem ha,List.getElem_eq_getD 0]
 exact zg h (show(l.map iV)[a]? = some (iV (l.getD a 0)) by rw[List.getElem?_map,hg];rfl)
theorem qh {w:World}{B gl nl cl:Nat}{l:List Nat}(h:w.ownsRow B 3 1 (.slice (some ⟨gl,0,none⟩) nl cl) nl (l.map iV)) (a:Nat):∀j u,((l.take a).map iV)[j]? = some u→w.cell? ((⟨gl,0,none⟩:Addr).add j)=some u:=fun j u hu=>by
 refine h.cells (g:=gl) rfl j u ?_;rw[List.map_take,List.getElem?_take]at hu;split at hu
 ·exact hu
 ·cases hu
theorem qg {w:World}{B gl nl cl k:Nat}{l:List Nat}(h:w.ownsRow B 3 1 (.slice (some ⟨gl,0,none⟩) nl cl) nl (l.map iV)){ad:Addr}(had:ad=⟨gl,k*1,none⟩∨cl=k):∀j u,((l.drop k).map iV)[j]? = some u→w.cell? (ad.add j)=some u:=fun j u hu=>sP (k:=k) h had j u (by rw[Nat.mul_one,←List.map_drop];exact hu)
theorem qB (l:List Nat):∀u∈l.map iV,u.oneCell'=true:=fun u hu=>by
 obtain⟨x,_,rfl⟩:=List.mem_map.1 hu;rfl
structure TkM (w W2:World) (B gw nw cw n x:Nat) (xs:List Value):Prop where
 row:W2.ownsRow B 304 3 (.slice (some ⟨gw,0,none⟩) nw cw) nw ((xs.set (n*3+1) (.int .i64 (x:Int))).set (n*3+2) (.int .i64 0))
 tch:Tch (fun g=>g=gw) w W2
theorem gO {w W:World}{B gw nw cw n x:Nat}{xs:List Value}(hrow:w.ownsRow B 304 3 (.slice (some ⟨gw,0,none⟩) nw cw) nw xs) (hb:Below w.heap.size w W) (hn:n<nw) :
  TkM w ((W.setCell ⟨gw,n*3+1,none⟩ (.int .i64 (x:Int))).setCell ⟨gw,n*3+2,none⟩ (.int .i64 0)) B gw nw cw n x xs:=by
 have h1:=zq hrow hb;have h2:=zF (i:=n*3+1) (y:=.int .i64 (x:Int)) h1 (by omega);have h3:=zF (i:=n*3+2) (y:=.int .i64 0) h2 (by omega);exact⟨h3,⟨hb.os,hb.tape,hb.output,by simpa using hb.size,fun k hk hn=>by rw[zt hn,zt hn];exact hb.block k hk⟩⟩
theorem TkM.below {w W2 W':World}{B gw nw cw n x:Nat}{xs:List Value}(h:TkM w W2 B gw nw cw n x xs) (hb:Below W2.heap.size W2 W'):TkM w W' B gw nw cw n x xs:=⟨zq h.row hb,h.tch.trans (zH (S:=fun _=>False) hb) (fun _ _ q=>q.elim)⟩
theorem TkM.two {w W2 W3 W4:World}{B gw nw cw n x f a:Nat}{ks:List Wk}{wl:Nat→Value}{rd:Nat→Int}{v3 v4:Value}{n3 n4:Nat}{x3 x4:List Value}(h:TkM w W2 B gw nw cw n x (yz ks wl rd)) (hl:ks.length=nw) (hn:n<nw) (hf:f<nw) (_hB:B≤w.heap.size)
  (o3:W3.ownsRow w.heap.size 3 1 v3 n3 x3) (g3:W2.grownBy W3 none) (o4:W4.ownsRow w.heap.size 3 1 v4 n4 x4) (g4:W3.grownBy W4 v3.ownBlock) (hgw:gw<w.heap.size) :
  (∀g,g<w.heap.size→g≠gw→W4.heap[g]? = w.heap[g]?)∧(W4.cell? ⟨gw,f*3,none⟩).isSome=true∧W4.frozen? ⟨gw,f*3,none⟩=false∧Tch (fun g=>g=gw) w (W4.setCell ⟨gw,f*3,none⟩ v4)∧(W4.setCell ⟨gw,f*3,none⟩ v4).ownsRow B 304 3 (.slice (some ⟨gw,0,none⟩) nw cw) nw (yz (rV ks f a n x) (fun p=>if p=f then v4 else wl p) (fun p=>if p=n then 0 else rd p))∧(W4.setCell ⟨gw,f*3,none⟩ v4).ownsRow w.heap.size 3 1 v4 n4 x4:=by
 have s2:=h.tch.size;have s3:=g3.size;have s4:=g4.size
 have b34:∀g,g<w.heap.size→W4.heap[g]? = W2.heap[g]? := fun g hg=>by
  refine(g4.block g (by omega) (fun e=>?_)).trans (g3.block g (by omega) (by simp));have:=(zw o3 e).1;omega
 have row4:W4.ownsRow B 304 3 (.slice (some ⟨gw,0,none⟩) nw cw) nw (((yz ks wl rd).set (n*3+1) (.int .i64 (x:Int))).set (n*3+2) (.int .i64 0)):=zn h.row (fun g hg=>by
  injection hg with hg
  subst hg
  exact b34 g hgw)
 have hcap:=wn row4;obtain⟨t1,t2⟩:=zC row4 (j:=f*3) (by omega);refine⟨fun g hg hne=>(b34 g hg).trans (h.tch.block g hg hne),t1,t2,⟨g4.os.trans (g3.os.trans h.tch.os),g4.tape.trans (g3.tape.trans h.tch.tape),g4.output.trans (g3.output.trans h.tch.output),by simp;omega,fun k hk hne=>?_⟩,?_,?_⟩
 ·rw[zt hne,b34 k hk];exact h.tch.block k hk hne
 ·have:=zF (i:=f*3) (y:=v4) row4 (by omega)
  rwa [jI (a:=a) (by omega) (by omega)]at this
 ·obtain⟨_,_,C,hC⟩:=zw row4 (g:=gw) rfl;exact zl o4 hC (by decide)
theorem lY {w:World}{B cb:Nat}{V:Rv}{L:Lg}(hb:w.heap[cb]? = some (Obj.cells (zR V L) 234 (0,0))) (h:w.ownsRow B 304 3 V.wv L.wks.length (yz L.wks V.wl V.rd)) (hls:∀q,q<L.wks.length→w.ownsRow B 3 1 (V.wl q) (L.wks.getD q zo).list.length ((L.wks.getD q zo).list.map iV)) (hw:L.wks.length≤4) (hwl:∀q,q<L.wks.length→(L.wks.getD q zo).list.length≤1000) (hB:B≤w.heap.size){n:Nat}(hn:n<L.wks.length){a:Nat}(ha:a+1=(L.wks.getD n zo).list.length) :
  Calls Tryz.prog 251 #[zr cb, .int .i64 (n:Int)] w fun e w'=>∃v,e=.returned (.int .i64 1)∧Tch (fun g=>some g=V.wv.ownBlock) w w'∧w'.ownsRow B 304 3 V.wv L.wks.length (yz (rV L.wks n a n ((L.wks.getD n zo).list.getD a 0)) (fun p=>if p=n then v else V.wl p) (fun p=>if p=n then 0 else V.rd p))∧w'.ownsRow w.heap.size 3 1 v ((L.wks.getD n zo).list.eraseIdx a).length (((L.wks.getD n zo).list.eraseIdx a).map iV):=by
 obtain⟨ll,hll⟩:∃ll:Nat→List Nat,∀q,(L.wks.getD q zo).list=ll q:=⟨_,fun _=>rfl⟩;obtain⟨nl,hnl⟩:∃nl:Nat→Nat,∀q,(ll q).length=nl q:=⟨_,fun _=>rfl⟩;simp only[hll,hnl]at hls hwl ha ⊢;have HNL:=zx hnl;clear hll hnl;obtain⟨z0,hz0,hy0,hy1,hy2⟩:=info_parts Tryz.infoI;have hcb:cb<w.heap.size:=(Mth.gI hb);obtain⟨aw,cw,hwv,hcw,hcm⟩:=zu h;rw[hwv]at h;obtain⟨gw,rfl⟩:=zf h (by omega);obtain⟨hgwB,hgwl,CW,hCW⟩:=zw h (g:=gw) rfl
 have hne:cb≠gw:=fun e=>by rw[e,hCW]at hb;injection hb with hb;injection hb with _ hb _;exact absurd hb (by decide)
 have HC:Hid (∀W,Below w.heap.size w W→W.cell? ⟨cb,15,none⟩=some (.slice (some ⟨gw,0,none⟩) L.wks.length cw)∧∀q,q<L.wks.length→W.cell? ⟨gw,q*3,none⟩=some (V.wl q)):=fun W hW=>by
  have h1:=(zy (j:=15) (u:=V.wv) ((hW.block cb hcb).trans hb) rfl).1;rw[hwv]at h1;exact⟨h1,fun q hq=>zg (zq h hW) (yp hq).1⟩
 have HWV:=zx hwv;have HROW:=zx h;have HLS:=zx hls;have HCW:=zx hCW;have HB:=zx hb;have hcap:=wn h;unfold maxLen at hcm hcap;clear hb h hls hwv hCW;have hfn:=hn;have hlf:=HLS.out n hfn;obtain⟨al,cl,hvl,hcl,hclm⟩:=zu hlf;rw[hvl]at hlf;obtain⟨gl,rfl⟩:=zf hlf (by omega);obtain⟨hglB,hgll,CL,hCL⟩:=zw hlf (g:=gl) rfl
 have hgl:gl≠gw:=fun e=>by have h1:=HCW.out;rw[←e,hCL]at h1;injection h1 with h1;injection h1 with _ h1 _;exact absurd h1 (by decide)
 unfold maxLen at hclm;have HLF:=zx hlf;have HVL:=zx hvl;have HCL:=zx hCL;clear hlf hvl hCL;obtain⟨xx,hxx⟩:∃xx,xx=(ll n).getD a 0:=⟨_,rfl⟩;obtain⟨er,her0⟩:∃er,er=(ll n).eraseIdx a:=⟨_,rfl⟩;rw[←hxx,←her0];have HXX:=zx hxx;have HER0:=zx her0;clear hxx her0;have HWL:=zx hwl;have HBR0:Hid (Below w.heap.size w w):=Below.refl _ _;have c15:=(HC.out w HBR0.out).1;have cn:=(HC.out w HBR0.out).2 n hn;rw[HVL.out]at cn;have hln0:nl n≤1000:=hwl n hn;have HA:=zx ha
 have HWV2:Hid (∀w':World,Tch (fun g=>g=gw) w w'→Tch (fun g=>some g=V.wv.ownBlock) w w'):=fun w' ht=>by
  rw[HWV.out];exact⟨ht.os,ht.tape,ht.output,ht.size,fun k hk hne=>ht.block k hk (fun e=>hne (by rw[e];rfl))⟩
 have HRV:Hid (∀(w':World) (n':Nat) (xs:List Value),w'.ownsRow B 304 3 (.slice (some ⟨gw,0,none⟩) n' cw) n' xs→n'=L.wks.length→w'.ownsRow B 304 3 V.wv n' xs):=fun w' n' xs ho e=>by rw[HWV.out,←e];exact ho
 clear hwl
 go_enter Tryz.func251,Tryz.ntmps251
 go_wp2_with fail
 go_loopw [5,6,7] (fun f a' x wr=>f=.int .i64 (n:Int)∧a'=.int .i64 (a:Int)∧x=.int .i64 0∧wr=w) (fun _ _ _ _=>0)
 case atStart=>exact⟨rfl,by rw[←HA.out];go_num,rfl,rfl⟩
 case round=>
  obtain⟨rfl,rfl,rfl,hwr⟩:=hrel
  have HBR:Hid (Below w.heap.size w wr):=by rw[hwr];exact HBR0.out
  have d15:=(HC.out wr HBR.out).1;rw[←hwr]at cn c15;clear hwr;have hlf:=HLF.out
  have halt:a<nl n:=by omega
  have hlr:=zq hlf HBR.out;have q15:=(HC.out wr HBR.out).1;have qf:=(HC.out wr HBR.out).2 n hfn;rw[HVL.out]at qf;have qa:=ji (a:=a) hlr (by rw[HNL.out];omega);rw[←HXX.out]at qa;have hm0:=gO (x:=xx) HROW.out HBR.out hn;have hrd:=zq HROW.out HBR.out;obtain⟨t1,t2⟩:=zC hrd (j:=n*3+1) (by omega);obtain⟨t3,t4⟩:=zC (zF (i:=n*3+1) (y:=.int .i64 (xx:Int)) hrd (by omega)) (j:=n*3+2) (by omega);obtain⟨u1,hu1⟩:=Option.isSome_iff_exists.1 t1;obtain⟨u3,hu3⟩:=Option.isSome_iff_exists.1 t3;have qb:(wr.setCell ⟨gw,n*3+1,none⟩ (.int .i64 (xx:Int))).cell? ⟨cb,15,none⟩=some (.slice (some ⟨gw,0,none⟩) L.wks.length cw):=(World.cell?_of_block (w:=wr) (a:=⟨cb,15,none⟩) (zt hne)).trans q15;obtain⟨W2,hW2⟩:∃W2,W2=((wr.setCell ⟨gw,n*3+1,none⟩ (.int .i64 (xx:Int))).setCell ⟨gw,n*3+2,none⟩ (.int .i64 0)).drew:=⟨_,rfl⟩;have hm:=hm0.below (zE _);rw[←hW2]at hm;have hsz2:=hm.tch.size;have hl2:=zn (w':=W2) hlf (fun g hg=>by injection hg with hg;rw[hg];exact hm.tch.block gl hgll hgl);have hlt:=qh hl2 a;have hlen:(ll n).length=nl n:=HNL.out n;have her:(ll n).eraseIdx a=(ll n).take a++(ll n).drop (a+1):=List.eraseIdx_eq_take_drop_succ _ _;have HER:=zx her;have htl:((ll n).take a).length=a:=List.length_take_of_le (by omega)
  have hdl:((ll n).drop (a+1)).length=nl n-(a+1):=by rw[List.length_drop,hlen]
  have FN:Hid (∀(W3:World) v3 n3 x3 (W4:World) v4 n4 x4,W3.ownsRow w.heap.size 3 1 v3 n3 x3→W2.grownBy W3 none→W4.ownsRow w.heap.size 3 1 v4 n4 x4→W3.grownBy W4 v3.ownBlock→(W4.cell? ⟨cb,15,none⟩=some (.slice (some ⟨gw,0,none⟩) L.wks.length cw)∧(W4.cell? ⟨gw,n*3,none⟩).isSome=true∧W4.frozen? ⟨gw,n*3,none⟩=false)∧Tch (fun g=>g=gw) w (W4.setCell ⟨gw,n*3,none⟩ v4)∧(W4.setCell ⟨gw,n*3,none⟩ v4).ownsRow B 304 3 (.slice (some ⟨gw,0,none⟩) L.wks.length cw) L.wks.length (yz (rV L.wks n a n xx) (fun p=>if p=n then v4 else V.wl p) (fun p=>if p=n then 0 else V.rd p))∧(W4.setCell ⟨gw,n*3,none⟩ v4).ownsRow w.heap.size 3 1 v4 n4 x4):=by
   intro W3 v3 n3 x3 W4 v4 n4 x4 o3 g3 o4 g4;obtain⟨a1,a2,a3,a4,a5,a6⟩:=hm.two (f:=n) (a:=a) rfl hn hfn hB o3 g3 o4 g4 hgwl;refine⟨⟨?_,a2,a3⟩,a4,a5,a6⟩;have h1:=(zy (j:=15) (u:=V.wv) ((a1 cb hcb hne).trans HB.out) rfl).1;rw[HWV.out]at h1;exact h1
  have FS:Hid (∀(W3:World) v3 n3 x3,W3.ownsRow w.heap.size 3 1 v3 n3 x3→W2.grownBy W3 none→∀ad:Addr,(ad=⟨gl,(a+1)*z0.size,none⟩∨cl=a+1)→∀j u,(((ll n).drop (a+1)).map iV)[j]? = some u→W3.cell? (ad.add j)=some u):=by
   intro W3 v3 n3 x3 o3 g3 ad had;have hl3:=zn (w':=W3) hl2 (fun g hg=>by injection hg with hg;rw[hg];exact g3.block gl (by omega) (by simp));rw[hy1]at had;exact qg hl3 had
  have HLT:=zx hlt;have HW2:=zx hW2;have HO1:=zx (qB ((ll n).take a));have HO2:=zx (qB ((ll n).drop (a+1)))
  have HTL:Hid ((((ll n).take a).map iV).length=a*1):=by show _=_;rw[List.length_map,htl,Nat.mul_one]
  have HDL:Hid ((((ll n).drop (a+1)).map iV).length=(nl n-(a+1))*1):=by show _=_;rw[List.length_map,hdl,Nat.mul_one]
  have HEL:Hid (((ll n).eraseIdx a).length=a+(nl n-(a+1))∧((ll n).eraseIdx a).map iV=((ll n).take a).map iV++((ll n).drop (a+1)).map iV):=by
   refine⟨?_,?_⟩
   ·rw[HER.out,List.length_append,htl,hdl]
   ·rw[HER.out,List.map_append]
  generalize ((ll n).take a).map iV=xt at *;generalize ((ll n).drop (a+1)).map iV=xd at *;have hnf2:nl n≤1000:=HWL.out n hfn;generalize hnf3:nl n=nf at *;have HNF:=zx hnf3;clear hm hm0 hl2 hlt hrd hlr hlf t1 t3 her htl hdl hW2 hlen hnf3 ha
  go_upto_region 12 with fail
  go_region_law (fail)
  all_goals (
   go_upto_region 15 with fail
   rw[←HW2.out]
   go_wp2_with (first
    | (at_builtin;refine wpList_append_own_at _ rfl (.tmp 90) (.tmp 93) 149 rfl w.heap.size 3 z0 (.int .i64 0) 1 8 Tryz.underlying149 hz0 hy0 hy1 hy2 rfl (by decide) _ _ _ rfl (World.ownsRow_nil _ _ _ _) ⟨gl,0,none⟩ a _ xt rfl HTL.out HLT.out HO1.out (by unfold maxLen;omega) (by omega) (by omega) ?_;intro v3 W3 o3 g3 _ n3;rw[Nat.zero_add,List.nil_append]at o3;have HO3:=zx o3;have HG3:Hid (W2.grownBy W3 none):=g3;obtain⟨a3,c3,rfl,_,_⟩:=zu o3;clear o3 g3 n3)
    | (refine xO rfl 149 (.tmp 96) (.tmp 98) rfl 3 Tryz.underlying149 hz0 gl nf cl (a+1) rfl (by go_num) (by omega) ?_;intro ad had;have HAD:=zx had;clear had)
    | (at_builtin;refine wpList_append_own_at _ rfl (.tmp 95) (.tmp 99) 149 rfl w.heap.size 3 z0 (.int .i64 0) 1 8 Tryz.underlying149 hz0 hy0 hy1 hy2 rfl (by decide) _ _ _ rfl HO3.out ad _ _ xd rfl HDL.out (FS.out _ _ _ _ HO3.out HG3.out ad HAD.out) HO2.out (by unfold maxLen;omega) (by omega) (by have:=HG3.out.size;omega) ?_;intro v4 W4 o4 g4 _ n4;obtain⟨⟨r1,r2,r3⟩,hfin⟩:=FN.out _ _ _ _ _ _ _ _ HO3.out HG3.out o4 g4;have HFIN:=zx hfin;obtain⟨u5,r2⟩:=Option.isSome_iff_exists.1 r2;obtain⟨a4,c4,rfl,_,_⟩:=zu o4;clear o4 g4 n4 hfin))
   go_ret;obtain⟨f1,f2,f3⟩:=HFIN.out;refine⟨rfl,HWV2.out _ f1, .slice a4 (a+(nf-(a+1))) c4,?_,?_⟩
   ·exact HRV.out _ _ _ f2 rfl
   ·rw[HER0.out,HEL.out.1,HEL.out.2];exact f3)
theorem nJ {w:World}{B cb:Nat}{V:Rv}{L:Lg}(hb:w.heap[cb]? = some (Obj.cells (zR V L) 234 (0,0))) (h:w.ownsRow B 304 3 V.wv L.wks.length (yz L.wks V.wl V.rd)) (hls:∀q,q<L.wks.length→w.ownsRow B 3 1 (V.wl q) (L.wks.getD q zo).list.length ((L.wks.getD q zo).list.map iV)) (hw:L.wks.length≤4) (hwl:∀q,q<L.wks.length→(L.wks.getD q zo).list.length≤1000) (_hB:B≤w.heap.size){n:Nat}(hn:n<L.wks.length) (hz:∀p,p<L.wks.length→(L.wks.getD p zo).list.length=0) :
  Calls Tryz.prog 251 #[zr cb, .int .i64 (n:Int)] w fun e w'=>e=.returned (.int .i64 0)∧Below w.heap.size w w':=by
 obtain⟨ll,hll⟩:∃ll:Nat→List Nat,∀q,(L.wks.getD q zo).list=ll q:=⟨_,fun _=>rfl⟩;obtain⟨nl,hnl⟩:∃nl:Nat→Nat,∀q,(ll q).length=nl q:=⟨_,fun _=>rfl⟩;simp only[hll,hnl]at hls hwl hz ⊢;have HNL:=zx hnl;clear hll hnl;obtain⟨z0,hz0,hy0,hy1,hy2⟩:=info_parts Tryz.infoI;have hcb:cb<w.heap.size:=(Mth.gI hb);obtain⟨aw,cw,hwv,hcw,hcm⟩:=zu h;rw[hwv]at h;obtain⟨gw,rfl⟩:=zf h (by omega);obtain⟨hgwB,hgwl,CW,hCW⟩:=zw h (g:=gw) rfl
 have hne:cb≠gw:=fun e=>by rw[e,hCW]at hb;injection hb with hb;injection hb with _ hb _;exact absurd hb (by decide)
 have HC:Hid (∀W,Below w.heap.size w W→W.cell? ⟨cb,15,none⟩=some (.slice (some ⟨gw,0,none⟩) L.wks.length cw)∧∀q,q<L.wks.length→W.cell? ⟨gw,q*3,none⟩=some (V.wl q)):=fun W hW=>by
  have h1:=(zy (j:=15) (u:=V.wv) ((hW.block cb hcb).trans hb) rfl).1;rw[hwv]at h1;exact⟨h1,fun q hq=>zg (zq h hW) (yp hq).1⟩
 have HWV:=zx hwv;have HROW:=zx h;have HLS:=zx hls;have HCW:=zx hCW;have HB:=zx hb;have hcap:=wn h;unfold maxLen at hcm hcap;clear hb h hls hwv hCW;have hzn:=hz n hn;have HZ:=zx hz
 have HSL:Hid (∀q,q<L.wks.length→∃a c,V.wl q=.slice a (nl q) c∧nl q≤c∧c≤maxLen):=fun q hq=>zu (HLS.out q hq)
 have HWL:=zx hwl;have HBR0:Hid (Below w.heap.size w w):=Below.refl _ _;have c15:=(HC.out w HBR0.out).1;have cn:=(HC.out w HBR0.out).2 n hn;obtain⟨an,kn,hvn,hkn,hknm⟩:=HSL.out n hn;rw[hvn]at cn;have HVN:=zx hvn;have hln0:nl n=0:=hzn;rw[hln0]at cn;clear hwl hvn;generalize hnw:L.wks.length=nw at *;clear hz hnw
 go_enter Tryz.func251,Tryz.ntmps251
 go_wp2_with fail
 go_loopw [5,6,7] (fun f a' x wr=>∃k:Nat,k≤nw∧f=.int .i64 (n:Int)∧a'=.int .i64 (-1)∧x=.int .i64 k∧Below w.heap.size w wr) (fun _ _ x _=>nw-(intOf x).toNat)
 case atStart=>exact⟨0,Nat.zero_le _,rfl,rfl,rfl,HBR0.out⟩
 case round=>
  obtain⟨k,hk,rfl,rfl,rfl,hbr⟩:=hrel;have HBR:=zx hbr;have d15:=(HC.out wr hbr).1;have dn:=(HC.out wr hbr).2 n hn;rw[HVN.out,hln0]at dn;clear hbr;by_cases hlt:k<nw
  ·have dk:=(HC.out wr HBR.out).2 k hlt;obtain⟨ak,ck,hvk,_,_⟩:=HSL.out k hlt;rw[hvk,HZ.out k hlt]at dk;clear hvk
   go_upto_region 6 with fail
   have e15:=cell_regrown d15;have ek:=cell_regrown dk;have en:=cell_regrown dn;refine wp_region_quiet_below (by kernel_rfl) (by kernel_rfl) ?_
   repeat(go_big_quiet_step (fail))
   refine wpQuiet_nil ?_;intro _ hw';obtain⟨⟨dq,osq⟩,hw''⟩:=hw';subst hw'';have HB3:Hid (Below w.heap.size w (Sort.grow (redrawn wr dq) osq)):=HBR.out.trans ((below_regrown wr dq osq).mono HBR.out.size);generalize Sort.grow (redrawn wr dq) osq=w3 at *;clear e15 ek en d15 dn dk;go_wp2
   go_roundw
   case rel=>exact⟨k+1,by omega,rfl,rfl,by go_num,HB3.out⟩
   case measure=>simp[intOf];omega
  ·obtain rfl:nw=k:=by omega
   go_wp2_with fail;go_ret;exact⟨rfl,HBR.out⟩
theorem nI {w:World}{B cb:Nat}{V:Rv}{L:Lg}(hb:w.heap[cb]? = some (Obj.cells (zR V L) 234 (0,0))) (h:w.ownsRow B 304 3 V.wv L.wks.length (yz L.wks V.wl V.rd)) (hls:∀q,q<L.wks.length→w.ownsRow B 3 1 (V.wl q) (L.wks.getD q zo).list.length ((L.wks.getD q zo).list.map iV)) (hw:L.wks.length≤4) (hwl:∀q,q<L.wks.length→(L.wks.getD q zo).list.length≤1000) (hB:B≤w.heap.size){n:Nat}(hn:n<L.wks.length) (hze:(L.wks.getD n zo).list.length=0){f:Nat}(hf:f=xL L.wks L.wks.length) (hf0:0<(L.wks.getD f zo).list.length) :
  Calls Tryz.prog 251 #[zr cb, .int .i64 (n:Int)] w fun e w'=>∃v,e=.returned (.int .i64 1)∧Tch (fun g=>some g=V.wv.ownBlock) w w'∧w'.ownsRow B 304 3 V.wv L.wks.length (yz (rV L.wks f 0 n ((L.wks.getD f zo).list.getD 0 0)) (fun p=>if p=f then v else V.wl p) (fun p=>if p=n then 0 else V.rd p))∧w'.ownsRow w.heap.size 3 1 v ((L.wks.getD f zo).list.eraseIdx 0).length (((L.wks.getD f zo).list.eraseIdx 0).map iV):=by
 obtain⟨bs,hbs⟩:∃bs:Nat→Nat,∀k,xL L.wks k=bs k:=⟨_,fun _=>rfl⟩
 have hbd:∀k,bs (k+1)=if (L.wks.getD (bs k) zo).list.length<(L.wks.getD k zo).list.length then k else bs k:=fun k=>by rw[←hbs,←hbs,xL]
 have hbl:∀k,0<k→bs k<k:=fun k hk=>by rw[←hbs];exact vo _ k hk
 have hb0:bs 0=0:=by rw[←hbs];rfl
 rw[hbs]at hf
 have hfn:f<L.wks.length:=by rw[hf];exact hbl _ (by omega)
 obtain⟨ll,hll⟩:∃ll:Nat→List Nat,∀q,(L.wks.getD q zo).list=ll q:=⟨_,fun _=>rfl⟩;obtain⟨nl,hnl⟩:∃nl:Nat→Nat,∀q,(ll q).length=nl q:=⟨_,fun _=>rfl⟩;simp only[hll,hnl]at hls hwl hze hf0 hbd ⊢;have HNL:=zx hnl;clear hll hnl;obtain⟨z0,hz0,hy0,hy1,hy2⟩:=info_parts Tryz.infoI;have hcb:cb<w.heap.size:=(Mth.gI hb);obtain⟨aw,cw,hwv,hcw,hcm⟩:=zu h;rw[hwv]at h;obtain⟨gw,rfl⟩:=zf h (by omega);obtain⟨hgwB,hgwl,CW,hCW⟩:=zw h (g:=gw) rfl
 have hne:cb≠gw:=fun e=>by rw[e,hCW]at hb;injection hb with hb;injection hb with _ hb _;exact absurd hb (by decide)
 have HC:Hid (∀W,Below w.heap.size w W→W.cell? ⟨cb,15,none⟩=some (.slice (some ⟨gw,0,none⟩) L.wks.length cw)∧∀q,q<L.wks.length→W.cell? ⟨gw,q*3,none⟩=some (V.wl q)):=fun W hW=>by
  have h1:=(zy (j:=15) (u:=V.wv) ((hW.block cb hcb).trans hb) rfl).1;rw[hwv]at h1;exact⟨h1,fun q hq=>zg (zq h hW) (yp hq).1⟩
 have HWV:=zx hwv;have HROW:=zx h;have HLS:=zx hls;have HCW:=zx hCW;have HB:=zx hb;have hcap:=wn h;unfold maxLen at hcm hcap;clear hb h hls hwv hCW;have hlf:=HLS.out f hfn;obtain⟨al,cl,hvl,hcl,hclm⟩:=zu hlf;rw[hvl]at hlf;obtain⟨gl,rfl⟩:=zf hlf (by omega);obtain⟨hglB,hgll,CL,hCL⟩:=zw hlf (g:=gl) rfl
 have hgl:gl≠gw:=fun e=>by have h1:=HCW.out;rw[←e,hCL]at h1;injection h1 with h1;injection h1 with _ h1 _;exact absurd h1 (by decide)
 unfold maxLen at hclm;have HLF:=zx hlf;have HVL:=zx hvl;have HCL:=zx hCL;clear hlf hvl hCL;obtain⟨xx,hxx⟩:∃xx,xx=(ll f).getD 0 0:=⟨_,rfl⟩;obtain⟨er,her0⟩:∃er,er=(ll f).eraseIdx 0:=⟨_,rfl⟩;rw[←hxx,←her0];have HXX:=zx hxx;have HER0:=zx her0;clear hxx her0;have hzn:=hze
 have HSL:Hid (∀q,q<L.wks.length→∃a c,V.wl q=.slice a (nl q) c∧nl q≤c∧c≤maxLen):=fun q hq=>zu (HLS.out q hq)
 have HWL:=zx hwl;have HBR0:Hid (Below w.heap.size w w):=Below.refl _ _;have c15:=(HC.out w HBR0.out).1;have cn:=(HC.out w HBR0.out).2 n hn;obtain⟨an,kn,hvn,hkn,hknm⟩:=HSL.out n hn;rw[hvn]at cn;have HVN:=zx hvn;have hln0:nl n=0:=hzn;rw[hln0]at cn;clear hwl hvn;have HBD:=zx hbd;have HBL:=zx hbl;have HB0:=zx hb0;have HF:=zx hf
 have HWV2:Hid (∀w':World,Tch (fun g=>g=gw) w w'→Tch (fun g=>some g=V.wv.ownBlock) w w'):=fun w' ht=>by
  rw[HWV.out];exact⟨ht.os,ht.tape,ht.output,ht.size,fun k hk hne=>ht.block k hk (fun e=>hne (by rw[e];rfl))⟩
 have HRV:Hid (∀(w':World) (n':Nat) (xs:List Value),w'.ownsRow B 304 3 (.slice (some ⟨gw,0,none⟩) n' cw) n' xs→n'=L.wks.length→w'.ownsRow B 304 3 V.wv n' xs):=fun w' n' xs ho e=>by rw[HWV.out,←e];exact ho
 clear hbs hbd hbl hb0 hf
 go_enter Tryz.func251,Tryz.ntmps251
 go_wp2_with fail
 go_loopw [5,6,7] (fun f' a' x wr=>∃k:Nat,k≤L.wks.length∧x=.int .i64 k∧Below w.heap.size w wr∧(((∀p,p<k→nl p=0)∧f'=.int .i64 (n:Int)∧a'=.int .i64 (-1))∨(0<nl (bs k)∧0<k∧f'=.int .i64 ((bs k:Nat):Int)∧a'=.int .i64 0))) (fun _ _ x _=>L.wks.length-(intOf x).toNat)
 case atStart=>exact⟨0,Nat.zero_le _,rfl,HBR0.out,Or.inl ⟨fun p hp=>absurd hp (Nat.not_lt_zero _),rfl,rfl⟩⟩
 case round=>
  obtain⟨k,hk,rfl,hbr,hcase⟩:=hrel;have HBR:=zx hbr;have d15:=(HC.out wr hbr).1;have dn:=(HC.out wr hbr).2 n hn;rw[HVN.out,hln0]at dn;clear hbr;by_cases hlt:k<L.wks.length
  ·have dk:=(HC.out wr HBR.out).2 k hlt;obtain⟨ak,ck,hvk,hck,_⟩:=HSL.out k hlt;rw[hvk]at dk;have hnk:=HWL.out k hlt;clear hvk
   rcases hcase with⟨hall,rfl,rfl⟩|⟨hpos,hk0,rfl,rfl⟩
   ·have HALL:=zx hall;clear hall;by_cases hc:0<nl k
    ·have HC2:Hid (bs (k+1)=k):=by
      show _=_;rw[HBD.out k];by_cases e:k=0
      ·subst e;rw[HB0.out];split <;> rfl
      ·rw[if_pos (by rw[HALL.out (bs k) (HBL.out k (by omega))];exact hc)]
     have HNK2:Hid (0<nl k):=hc;generalize hxk:nl k=xk at *;have HXK:=zx hxk;clear hxk
     go_upto_region 6 with fail
     have e15:=cell_regrown d15;have ek:=cell_regrown dk;have en:=cell_regrown dn;refine wp_region_quiet_below (by kernel_rfl) (by kernel_rfl) ?_
     repeat(go_big_quiet_step (fail))
     refine wpQuiet_nil ?_;intro _ hw';obtain⟨⟨dq,osq⟩,hw''⟩:=hw';subst hw'';have HB3:Hid (Below w.heap.size w (Sort.grow (redrawn wr dq) osq)):=HBR.out.trans ((below_regrown wr dq osq).mono HBR.out.size);generalize Sort.grow (redrawn wr dq) osq=w3 at *;clear e15 ek en d15 dn dk;go_wp2
     go_roundw
     case rel=>exact⟨k+1,by omega,by go_num,HB3.out,Or.inr ⟨by rw[HC2.out,HXK.out];exact HNK2.out,by omega,by rw[HC2.out],rfl⟩⟩
     case measure=>simp[intOf];omega
    ·have hz1:nl k=0:=by omega
     have HZ1:=zx hz1;rw[hz1]at dk;clear hz1 hc hck hnk
     go_upto_region 6 with fail
     have e15:=cell_regrown d15;have ek:=cell_regrown dk;have en:=cell_regrown dn;refine wp_region_quiet_below (by kernel_rfl) (by kernel_rfl) ?_
     repeat(go_big_quiet_step (fail))
     refine wpQuiet_nil ?_;intro _ hw';obtain⟨⟨dq,osq⟩,hw''⟩:=hw';subst hw'';have HB3:Hid (Below w.heap.size w (Sort.grow (redrawn wr dq) osq)):=HBR.out.trans ((below_regrown wr dq osq).mono HBR.out.size);generalize Sort.grow (redrawn wr dq) osq=w3 at *;clear e15 ek en d15 dn dk;go_wp2
     go_roundw
     case rel=>exact⟨k+1,by omega,by go_num,HB3.out,Or.inl ⟨fun p hp=>by rcases(show p<k∨p=k by omega)with e|e;exact HALL.out p e;rw[e];exact HZ1.out,rfl,rfl⟩⟩
     case measure=>simp[intOf];omega
   ·have hbk:bs k<L.wks.length:=by have:=HBL.out k hk0;omega
    have df:=(HC.out wr HBR.out).2 (bs k) hbk;obtain⟨af,cf,hvf,hcf,_⟩:=HSL.out (bs k) hbk;rw[hvf]at df;have hnf:=HWL.out (bs k) hbk;have HPOS:=zx hpos;have hbd2:=HBD.out k;clear hvf;by_cases hc:nl (bs k)<nl k
    ·rw[if_pos hc]at hbd2;have HBD2:=zx hbd2
     have HNK2:Hid (0<nl k):=by show _<_;omega
     have hc2:((nl (bs k):Nat):Int)<((nl k:Nat):Int):=by omega
     clear hbd2 hpos hc
     go_upto_region 6 with fail
     have e15:=cell_regrown d15;have ek:=cell_regrown dk;have ef:=cell_regrown df;refine wp_region_quiet_below (by kernel_rfl) (by kernel_rfl) ?_
     repeat(go_big_quiet_step (fail))
     refine wpQuiet_nil ?_;intro _ hw';obtain⟨⟨dq,osq⟩,hw''⟩:=hw';subst hw'';have HB3:Hid (Below w.heap.size w (Sort.grow (redrawn wr dq) osq)):=HBR.out.trans ((below_regrown wr dq osq).mono HBR.out.size);generalize Sort.grow (redrawn wr dq) osq=w3 at *;clear e15 ek ef d15 dn dk df;go_wp2
     go_roundw
     case rel=>exact⟨k+1,by omega,by go_num,HB3.out,Or.inr ⟨by rw[HBD2.out];exact HNK2.out,by omega,by rw[HBD2.out],rfl⟩⟩
     case measure=>simp[intOf];omega
    ·rw[if_neg hc]at hbd2;have HBD2:=zx hbd2
     have hc2:¬((nl (bs k):Nat):Int)<((nl k:Nat):Int):=by omega
     clear hbd2 hpos hc
     go_upto_region 6 with fail
     have e15:=cell_regrown d15;have ek:=cell_regrown dk;have ef:=cell_regrown df;refine wp_region_quiet_below (by kernel_rfl) (by kernel_rfl) ?_
     repeat(go_big_quiet_step (fail))
     refine wpQuiet_nil ?_;intro _ hw';obtain⟨⟨dq,osq⟩,hw''⟩:=hw';subst hw'';have HB3:Hid (Below w.heap.size w (Sort.grow (redrawn wr dq) osq)):=HBR.out.trans ((below_regrown wr dq osq).mono HBR.out.size);generalize Sort.grow (redrawn wr dq) osq=w3 at *;clear e15 ek ef d15 dn dk df;go_wp2
     go_roundw
     case rel=>exact⟨k+1,by omega,by go_num,HB3.out,Or.inr ⟨by rw[HBD2.out];exact HPOS.out,by omega,by rw[HBD2.out],rfl⟩⟩
     case measure=>simp[intOf];omega
  ·have hkn:k=L.wks.length:=by omega
   rcases hcase with⟨hall,rfl,rfl⟩|⟨hpos,hk0,rfl,rfl⟩
   ·exact absurd (hall f (by omega)) (by omega)
   ·have hkf:bs k=f:=by rw[hkn,←HF.out]
    rw[hkf];clear hpos hkf dn d15;have hlf:=HLF.out
    have halt:0<nl f:=by omega
    have hlr:=zq hlf HBR.out;have q15:=(HC.out wr HBR.out).1;have qf:=(HC.out wr HBR.out).2 f hfn;rw[HVL.out]at qf;have qa:=ji (a:=0) hlr (by rw[HNL.out];omega);rw[←HXX.out]at qa;have hm0:=gO (x:=xx) HROW.out HBR.out hn;have hrd:=zq HROW.out HBR.out;obtain⟨t1,t2⟩:=zC hrd (j:=n*3+1) (by omega);obtain⟨t3,t4⟩:=zC (zF (i:=n*3+1) (y:=.int .i64 (xx:Int)) hrd (by omega)) (j:=n*3+2) (by omega);obtain⟨u1,hu1⟩:=Option.isSome_iff_exists.1 t1;obtain⟨u3,hu3⟩:=Option.isSome_iff_exists.1 t3;have qb:(wr.setCell ⟨gw,n*3+1,none⟩ (.int .i64 (xx:Int))).cell? ⟨cb,15,none⟩=some (.slice (some ⟨gw,0,none⟩) L.wks.length cw):=(World.cell?_of_block (w:=wr) (a:=⟨cb,15,none⟩) (zt hne)).trans q15;obtain⟨W2,hW2⟩:∃W2,W2=((wr.setCell ⟨gw,n*3+1,none⟩ (.int .i64 (xx:Int))).setCell ⟨gw,n*3+2,none⟩ (.int .i64 0)).drew:=⟨_,rfl⟩;have hm:=hm0.below (zE _);rw[←hW2]at hm;have hsz2:=hm.tch.size;have hl2:=zn (w':=W2) hlf (fun g hg=>by injection hg with hg;rw[hg];exact hm.tch.block gl hgll hgl);have hlt:=qh hl2 0;have hlen:(ll f).length=nl f:=HNL.out f;have her:(ll f).eraseIdx 0=(ll f).take 0++(ll f).drop (0+1):=List.eraseIdx_eq_take_drop_succ _ _;have HER:=zx her;have htl:((ll f).take 0).length=0:=List.length_take_of_le (by omega)
    have hdl:((ll f).drop (0+1)).length=nl f-(0+1):=by rw[List.length_drop,hlen]
    have FN:Hid (∀(W3:World) v3 n3 x3 (W4:World) v4 n4 x4,W3.ownsRow w.heap.size 3 1 v3 n3 x3→W2.grownBy W3 none→W4.ownsRow w.heap.size 3 1 v4 n4 x4→W3.grownBy W4 v3.ownBlock→(W4.cell? ⟨cb,15,none⟩=some (.slice (some ⟨gw,0,none⟩) L.wks.length cw)∧(W4.cell? ⟨gw,f*3,none⟩).isSome=true∧W4.frozen? ⟨gw,f*3,none⟩=false)∧Tch (fun g=>g=gw) w (W4.setCell ⟨gw,f*3,none⟩ v4)∧(W4.setCell ⟨gw,f*3,none⟩ v4).ownsRow B 304 3 (.slice (some ⟨gw,0,none⟩) L.wks.length cw) L.wks.length (yz (rV L.wks f 0 n xx) (fun p=>if p=f then v4 else V.wl p) (fun p=>if p=n then 0 else V.rd p))∧(W4.setCell ⟨gw,f*3,none⟩ v4).ownsRow w.heap.size 3 1 v4 n4 x4):=by
     intro W3 v3 n3 x3 W4 v4 n4 x4 o3 g3 o4 g4;obtain⟨a1,a2,a3,a4,a5,a6⟩:=hm.two (f:=f) (a:=0) rfl hn hfn hB o3 g3 o4 g4 hgwl;refine⟨⟨?_,a2,a3⟩,a4,a5,a6⟩;have h1:=(zy (j:=15) (u:=V.wv) ((a1 cb hcb hne).trans HB.out) rfl).1;rw[HWV.out]at h1;exact h1
    have FS:Hid (∀(W3:World) v3 n3 x3,W3.ownsRow w.heap.size 3 1 v3 n3 x3→W2.grownBy W3 none→∀ad:Addr,(ad=⟨gl,(0+1)*z0.size,none⟩∨cl=0+1)→∀j u,(((ll f).drop (0+1)).map iV)[j]? = some u→W3.cell? (ad.add j)=some u):=by
     intro W3 v3 n3 x3 o3 g3 ad had;have hl3:=zn (w':=W3) hl2 (fun g hg=>by injection hg with hg;rw[hg];exact g3.block gl (by omega) (by simp));rw[hy1]at had;exact qg hl3 had
    have HLT:=zx hlt;have HW2:=zx hW2;have HO1:=zx (qB ((ll f).take 0));have HO2:=zx (qB ((ll f).drop (0+1)))
    have HTL:Hid ((((ll f).take 0).map iV).length=0*1):=by show _=_;rw[List.length_map,htl,Nat.mul_one]
    have HDL:Hid ((((ll f).drop (0+1)).map iV).length=(nl f-(0+1))*1):=by show _=_;rw[List.length_map,hdl,Nat.mul_one]
    have HEL:Hid (((ll f).eraseIdx 0).length=0+(nl f-(0+1))∧((ll f).eraseIdx 0).map iV=((ll f).take 0).map iV++((ll f).drop (0+1)).map iV):=by
     refine⟨?_,?_⟩
     ·rw[HER.out,List.length_append,htl,hdl]
     ·rw[HER.out,List.map_append]
    generalize ((ll f).take 0).map iV=xt at *;generalize ((ll f).drop (0+1)).map iV=xd at *;have hnf2:nl f≤1000:=HWL.out f hfn;generalize hnf3:nl f=nf at *;have HNF:=zx hnf3;clear hm hm0 hl2 hlt hrd hlr hlf t1 t3 her htl hdl hW2 hlen hnf3
    go_upto_region 12 with fail
    go_region_law (fail)
    all_goals (
     go_upto_region 15 with fail
     rw[←HW2.out]
     go_wp2_with (first
      | (at_builtin;refine wpList_append_own_at _ rfl (.tmp 90) (.tmp 93) 149 rfl w.heap.size 3 z0 (.int .i64 0) 1 8 Tryz.underlying149 hz0 hy0 hy1 hy2 rfl (by decide) _ _ _ rfl (World.ownsRow_nil _ _ _ _) ⟨gl,0,none⟩ 0 _ xt rfl HTL.out HLT.out HO1.out (by unfold maxLen;omega) (by omega) (by omega) ?_;intro v3 W3 o3 g3 _ n3;rw[Nat.zero_add,List.nil_append]at o3;have HO3:=zx o3;have HG3:Hid (W2.grownBy W3 none):=g3;obtain⟨a3,c3,rfl,_,_⟩:=zu o3;clear o3 g3 n3)
      | (refine xO rfl 149 (.tmp 96) (.tmp 98) rfl 3 Tryz.underlying149 hz0 gl nf cl (0+1) rfl (by go_num) (by omega) ?_;intro ad had;have HAD:=zx had;clear had)
      | (at_builtin;refine wpList_append_own_at _ rfl (.tmp 95) (.tmp 99) 149 rfl w.heap.size 3 z0 (.int .i64 0) 1 8 Tryz.underlying149 hz0 hy0 hy1 hy2 rfl (by decide) _ _ _ rfl HO3.out ad _ _ xd rfl HDL.out (FS.out _ _ _ _ HO3.out HG3.out ad HAD.out) HO2.out (by unfold maxLen;omega) (by omega) (by have:=HG3.out.size;omega) ?_;intro v4 W4 o4 g4 _ n4;obtain⟨⟨r1,r2,r3⟩,hfin⟩:=FN.out _ _ _ _ _ _ _ _ HO3.out HG3.out o4 g4;have HFIN:=zx hfin;obtain⟨u5,r2⟩:=Option.isSome_iff_exists.1 r2;obtain⟨a4,c4,rfl,_,_⟩:=zu o4;clear o4 g4 n4 hfin))
     go_ret;obtain⟨f1,f2,f3⟩:=HFIN.out;simp only[Nat.zero_add]at f1 f2 f3;refine⟨rfl,HWV2.out _ f1, .slice a4 (nf-1) c4,?_,?_⟩
     ·exact HRV.out _ _ _ f2 rfl
     ·rw[HER0.out,HEL.out.1,HEL.out.2];simp only[Nat.zero_add];exact f3)
theorem RfV.wks1 {Z:Nat→Prop}{B cb:Nat}{w w':World}{V:Rv}{L:Lg}{all:List Ent}{ts:List Tl}(hb:w.heap[cb]? = some (Obj.cells (zR V L) 234 (0,0))) (h:RfV Z B w V L all ts) (ht:Tch (fun g=>some g=V.wv.ownBlock) w w'){ks:List Wk}{wl:Nat→Value}{rd:Nat→Int}(hl:ks.length=L.wks.length)
  (hrow:w'.ownsRow B 304 3 V.wv L.wks.length (yz ks wl rd)) (hlst:∀q,q<L.wks.length→w'.ownsRow B 3 1 (wl q) (ks.getD q zo).list.length ((ks.getD q zo).list.map iV)) (hrun:∀q,q<L.wks.length→∀i,(ks.getD q zo).runs=some i→rd q=((ks.getD q zo).read:Int)) :
  w'.heap[cb]? = some (Obj.cells (zR { V with wl:=wl,rd:=rd } { L with wks:=ks }) 234 (0,0))∧RfV Z B w' { V with wl:=wl,rd:=rd } { L with wks:=ks } all ts:=by
 have hcb:cb<w.heap.size:=(Mth.gI hb)
 have kp:∀ {B':Nat}{e:TypeId}{sz:Nat}{u:Value}{m:Nat}{xs:List Value},w.ownsRow B' e sz u m xs→e≠304→w'.ownsRow B' e sz u m xs:=fun ho he=>xK ho ht (fun g hg=>yr ho h.wks he g hg)
 refine⟨?_,kp h.all (by decide),kp h.mem (by decide),fun i hi=>kp (h.lev i hi) (by decide),fun i hi j hj=>kp (h.seg i hi j hj) (by decide),h.sz,?_,fun q hq=>hlst q (by rw[←hl];exact hq),fun q hq=>hrun q (by rw[←hl];exact hq),kp h.tls (by decide)⟩
 ·rw[ht.block cb hcb (xM h.wks hb (by decide)),hb];exact congrArg (fun C=>some (Obj.cells C 234 (0,0))) (sO (V:={ V with wl:=wl,rd:=rd }) (V':=V) (L:={ L with wks:=ks }) (L':=L) rfl rfl rfl rfl rfl rfl rfl rfl hl.symm rfl rfl rfl rfl)
 ·show w'.ownsRow B _ 3 V.wv ks.length (yz ks wl rd);rw[hl];exact hrow
theorem dL {ks:List Wk}{wl:Nat→Value}{rd:Nat→Int}{n:Nat}{x:Int}(hn:n<ks.length):(yz ks wl rd).set (n*3+2) (.int .i64 x)=yz ks wl (fun p=>if p=n then x else rd p):=by
 have hl:(yz ks wl rd).length=ks.length*3:=xW _ _ _;refine uU (by rw[List.length_set,hl]) (fun q hq=>?_);obtain⟨b0,b1,b2⟩:=yp (ks:=ks) (wl:=wl) (rd:=rd) hq;refine⟨by rw[List.getElem?_set_ne (by omega),b0],by rw[List.getElem?_set_ne (by omega),b1],?_⟩;by_cases e:q=n
 ·subst e;rw[if_pos rfl,List.getElem?_set_self (by rw[hl];omega)]
 ·rw[if_neg e,List.getElem?_set_ne (by omega),b2]
theorem fm {ks:List Wk}{wl:Nat→Value}{rd:Nat→Int}{n:Nat}{k:Wk}(hn:n<ks.length):(yz ks wl rd).set (n*3+1) (.int .i64 (uD k.runs))=yz (ks.set n k) wl rd:=by
 have hl:(yz ks wl rd).length=ks.length*3:=xW _ _ _;refine uU (by rw[List.length_set,hl,List.length_set]) (fun q hq=>?_);rw[List.length_set]at hq;obtain⟨b0,b1,b2⟩:=yp (ks:=ks) (wl:=wl) (rd:=rd) hq;refine⟨by rw[List.getElem?_set_ne (by omega),b0],?_,by rw[List.getElem?_set_ne (by omega),b2]⟩;rw[yZ hn];by_cases e:q=n
 ·subst e;rw[if_pos rfl,List.getElem?_set_self (by rw[hl];omega)]
 ·rw[if_neg e,List.getElem?_set_ne (by omega),b1]
theorem jH {ks:List Wk}{wl:Nat→Value}{rd:Nat→Int}{n:Nat}{k:Wk}(hn:n<ks.length) (hr:k.runs=(ks.getD n zo).runs):yz (ks.set n k) wl rd=yz ks wl rd:=by
 refine(uU (by rw[xW,List.length_set]) (fun q hq=>?_)).symm;rw[List.length_set]at hq;obtain⟨b0,b1,b2⟩:=yp (ks:=ks) (wl:=wl) (rd:=rd) hq;refine⟨b0,?_,b2⟩;rw[b1,yZ hn];by_cases e:q=n
 ·rw[if_pos e,hr,e]
 ·rw[if_neg e]
theorem Need.uniq {L:Lg}{m m':Nat}(h:Need L m) (h':Need L m'):m=m':=by
 obtain⟨a1,a2,a3⟩:=h;obtain⟨b1,b2,b3⟩:=h'
 have h1:m≤m':=by
  rcases b3 with e|⟨x,p,hx,e⟩
  ·omega
  ·have:=a2 x p hx;omega
 have h2:m'≤m:=by
  rcases a3 with e|⟨x,p,hx,e⟩
  ·omega
  ·have:=b2 x p hx;omega
 omega
theorem StepR.uniq {L L1 L2:Lg}{q:Nat}{r1 r2:Int}(h1:StepR L q r1 L1) (h2:StepR L q r2 L2):r1=r2∧L1=L2:=by
 unfold StepR at h1 h2
 cases hr:(L.wks.getD q zo).runs with
 | none=>
  rw[hr]at h1 h2;simp only at h1 h2;split at h1
  ·rename_i hc
   rw[if_pos hc]at h2;exact⟨h1.1.trans h2.1.symm,h1.2.trans h2.2.symm⟩
  ·rename_i hc
   rw[if_neg hc]at h2;split at h1
   ·rename_i hd
    rw[if_pos hd]at h2;exact⟨h1.1.trans h2.1.symm,h1.2.trans h2.2.symm⟩
   ·rename_i hd
    rw[if_neg hd]at h2;exact⟨h1.1.trans h2.1.symm,h1.2.trans h2.2.symm⟩
 | some i=>
  rw[hr]at h1 h2;simp only at h1 h2;split at h1
  ·rename_i hc
   rw[if_pos hc]at h2;exact⟨h1.1.trans h2.1.symm,h1.2.trans h2.2.symm⟩
  ·rename_i hc
   rw[if_neg hc]at h2;obtain⟨e1,m,hm,e2⟩:=h1;obtain⟨e3,m',hm',e4⟩:=h2;rw[Need.uniq hm hm']at e2;exact⟨e1.trans e3.symm,e2.trans e4.symm⟩
theorem ey {w:World}{B cb:Nat}{V:Rv}{L:Lg}(hb:w.heap[cb]? = some (Obj.cells (zR V L) 234 (0,0))) (h:w.ownsRow B 304 3 V.wv L.wks.length (yz L.wks V.wl V.rd)) (n:Int) (hn:¬(0≤n∧n<(L.wks.length:Int))) :
  Calls Tryz.prog 206 #[zr cb, .int .i64 n] w fun e w'=>e=.returned (.tuple #[.int .i64 0, .int .i64 1])∧w'=w:=by
 have c15:=(zy (j:=15) (u:=V.wv) hb rfl).1;obtain⟨aw,cw,hwv,hcw,hcm⟩:=zu h;rw[hwv]at c15;clear hb h hwv hcm;by_cases h0:n<0
 ·go_enter Tryz.func206,Tryz.ntmps206
  go_wp2;go_ret2;exact⟨rfl,rfl⟩
 ·have h1:(L.wks.length:Int)≤n:=by omega
  go_enter Tryz.func206,Tryz.ntmps206
  go_wp2;go_ret2;exact⟨rfl,rfl⟩
end Go.Proofs.YtkncboinfcnklaaGreatDoor.Rl
