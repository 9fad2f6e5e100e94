import Derived.Test.YtkncboinfcnklaaGreatDoorQ37
import Derived.Test.YtkncboinfcnklaaGreatDoorQ18
namespace Go.Proofs.YtkncboinfcnklaaGreatDoor.Rl
open Go.RowKit Go.Deep Go.Shelf Go.Proofs.YtkncboinfcnklaaGreatDoor.Mth
set_option maxRecDepth 100000 in
set_option maxHeartbeats 8000000 in
theorem takesR_none {w:World} {B cb:Nat} {V:Rv} {L:Lg} (hb:w.heap[cb]? = some (Obj.cells (rfC V L) 234 (0,0))) (h:w.ownsRow B 304 3 V.wv L.wks.length (wkRs L.wks V.wl V.rd)) (hls:∀ q,q < L.wks.length→w.ownsRow B 3 1 (V.wl q) (L.wks.getD q wk0).list.length ((L.wks.getD q wk0).list.map iV)) (hw:L.wks.length≤4) (hwl:∀ q,q < L.wks.length→(L.wks.getD q wk0).list.length≤1000) (_hB:B≤w.heap.size) {n:Nat} (hn:n < L.wks.length) (hz:∀ p,p < L.wks.length→(L.wks.getD p wk0).list.length=0) :
  Calls Tryz.prog 251 #[ptrV cb, .int .i64 (n:Int)] w fun e w'=>e=.returned (.int .i64 0)∧Below w.heap.size w w':=by
 obtain ⟨ll,hll⟩:∃ ll:Nat→List Nat,∀ q,(L.wks.getD q wk0).list=ll q:=⟨_,fun _=>rfl⟩
 obtain ⟨nl,hnl⟩:∃ nl:Nat→Nat,∀ q,(ll q).length=nl q:=⟨_,fun _=>rfl⟩
 simp only [hll,hnl] at hls hwl hz ⊢
 have HNL:=hide hnl
 clear hll hnl
 obtain ⟨z0,hz0,hy0,hy1,hy2⟩:=info_parts Tryz.infoI
 have hcb:cb < w.heap.size:=(Array.getElem?_eq_some_iff.1 hb).1
 obtain ⟨aw,cw,hwv,hcw,hcm⟩:=own_slice h
 rw [hwv] at h
 obtain ⟨gw,rfl⟩:=own_some h (by omega)
 obtain ⟨hgwB,hgwl,CW,hCW⟩:=own_block h (g:=gw) rfl
 have hne:cb≠gw:=fun e=>by rw [e,hCW] at hb;injection hb with hb;injection hb with _ hb _;exact absurd hb (by decide)
 have HC:Hid (∀ W,Below w.heap.size w W→W.cell? ⟨cb,15,none⟩=some (.slice (some ⟨gw,0,none⟩) L.wks.length cw)∧∀ q,q < L.wks.length→W.cell? ⟨gw,q * 3,none⟩=some (V.wl q)):=fun W hW=>by
  have h1:=(cell_of (j:=15) (u:=V.wv) ((hW.block cb hcb).trans hb) rfl).1
  rw [hwv] at h1
  exact ⟨h1,fun q hq=>own_get (own_belowR h hW) (wkRs_at hq).1⟩
 have HWV:=hide hwv
 have HROW:=hide h
 have HLS:=hide hls
 have HCW:=hide hCW
 have HB:=hide hb
 have hcap:=own_cap h
 unfold maxLen at hcm hcap
 clear hb h hls hwv hCW
 have hzn:=hz n hn
 have HZ:=hide hz
 have HSL:Hid (∀ q,q < L.wks.length→∃ a c,V.wl q=.slice a (nl q) c∧nl q≤c∧c≤maxLen):=fun q hq=>own_slice (HLS.out q hq)
 have HWL:=hide hwl
 have HBR0:Hid (Below w.heap.size w w):=Below.refl _ _
 have c15:=(HC.out w HBR0.out).1
 have cn:=(HC.out w HBR0.out).2 n hn
 obtain ⟨an,kn,hvn,hkn,hknm⟩:=HSL.out n hn
 rw [hvn] at cn
 have HVN:=hide hvn
 have hln0:nl n=0:=hzn
 rw [hln0] at cn
 clear hwl hvn
 generalize hnw:L.wks.length=nw at *
 clear hz hnw
 go_enter Tryz.func251,Tryz.ntmps251
 go_wp2_with fail
 go_loopw [5,6,7] (fun f a' x wr=>∃ k:Nat,k≤nw∧f=.int .i64 (n:Int)∧a'=.int .i64 (-1)∧x=.int .i64 k∧Below w.heap.size w wr) (fun _ _ x _=>nw - (intOf x).toNat)
 case atStart=>exact ⟨0,Nat.zero_le _,rfl,rfl,rfl,HBR0.out⟩
 case round=>
  obtain ⟨k,hk,rfl,rfl,rfl,hbr⟩:=hrel
  have HBR:=hide hbr
  have d15:=(HC.out wr hbr).1
  have dn:=(HC.out wr hbr).2 n hn
  rw [HVN.out,hln0] at dn
  clear hbr
  by_cases hlt:k < nw
  ·have dk:=(HC.out wr HBR.out).2 k hlt
   obtain ⟨ak,ck,hvk,_,_⟩:=HSL.out k hlt
   rw [hvk,HZ.out k hlt] at dk
   clear hvk
   go_upto_region 6 with fail
   have e15:=cell_regrown d15
   have ek:=cell_regrown dk
   have en:=cell_regrown dn
   refine wp_region_quiet_below (by kernel_rfl) (by kernel_rfl) ?_
   repeat (go_big_quiet_step (fail))
   refine wpQuiet_nil ?_
   intro _ hw'
   obtain ⟨⟨dq,osq⟩,hw''⟩:=hw'
   subst hw''
   have HB3:Hid (Below w.heap.size w (Sort.grow (redrawn wr dq) osq)):=HBR.out.trans ((below_regrown wr dq osq).mono HBR.out.size)
   generalize Sort.grow (redrawn wr dq) osq=w3 at *
   clear e15 ek en d15 dn dk
   go_wp2
   go_roundw
   case rel=>exact ⟨k + 1,by omega,rfl,rfl,by go_num,HB3.out⟩
   case measure=>simp [intOf];omega
  ·obtain rfl:nw=k:=by omega
   go_wp2_with fail
   go_ret
   exact ⟨rfl,HBR.out⟩
end Go.Proofs.YtkncboinfcnklaaGreatDoor.Rl

namespace Go.Proofs.YtkncboinfcnklaaGreatDoor.Rl
open Go.RowKit Go.Deep Go.Shelf Go.Proofs.YtkncboinfcnklaaGreatDoor.Mth
set_option maxRecDepth 100000 in
set_option maxHeartbeats 8000000 in
theorem takesR_best {w:World} {B cb:Nat} {V:Rv} {L:Lg} (hb:w.heap[cb]? = some (Obj.cells (rfC V L) 234 (0,0))) (h:w.ownsRow B 304 3 V.wv L.wks.length (wkRs L.wks V.wl V.rd)) (hls:∀ q,q < L.wks.length→w.ownsRow B 3 1 (V.wl q) (L.wks.getD q wk0).list.length ((L.wks.getD q wk0).list.map iV)) (hw:L.wks.length≤4) (hwl:∀ q,q < L.wks.length→(L.wks.getD q wk0).list.length≤1000) (hB:B≤w.heap.size) {n:Nat} (hn:n < L.wks.length) (hze:(L.wks.getD n wk0).list.length=0) {f:Nat} (hf:f=bst L.wks L.wks.length) (hf0:0 < (L.wks.getD f wk0).list.length) :
  Calls Tryz.prog 251 #[ptrV cb, .int .i64 (n:Int)] w fun e w'=>∃ v,e=.returned (.int .i64 1)∧Tch (fun g=>some g=V.wv.ownBlock) w w'∧w'.ownsRow B 304 3 V.wv L.wks.length (wkRs (tkW L.wks f 0 n ((L.wks.getD f wk0).list.getD 0 0)) (fun p=>if p=f then v else V.wl p) (fun p=>if p=n then 0 else V.rd p))∧w'.ownsRow w.heap.size 3 1 v ((L.wks.getD f wk0).list.eraseIdx 0).length (((L.wks.getD f wk0).list.eraseIdx 0).map iV):=by
 obtain ⟨bs,hbs⟩:∃ bs:Nat→Nat,∀ k,bst L.wks k=bs k:=⟨_,fun _=>rfl⟩
 have hbd:∀ k,bs (k + 1)=if (L.wks.getD (bs k) wk0).list.length < (L.wks.getD k wk0).list.length then k else bs k:=fun k=>by rw [← hbs,← hbs,bst]
 have hbl:∀ k,0 < k→bs k < k:=fun k hk=>by rw [← hbs];exact bst_lt _ k hk
 have hb0:bs 0=0:=by rw [← hbs];rfl
 rw [hbs] at hf
 have hfn:f < L.wks.length:=by rw [hf];exact hbl _ (by omega)
 obtain ⟨ll,hll⟩:∃ ll:Nat→List Nat,∀ q,(L.wks.getD q wk0).list=ll q:=⟨_,fun _=>rfl⟩
 obtain ⟨nl,hnl⟩:∃ nl:Nat→Nat,∀ q,(ll q).length=nl q:=⟨_,fun _=>rfl⟩
 simp only [hll,hnl] at hls hwl hze hf0 hbd ⊢
 have HNL:=hide hnl
 clear hll hnl
 obtain ⟨z0,hz0,hy0,hy1,hy2⟩:=info_parts Tryz.infoI
 have hcb:cb < w.heap.size:=(Array.getElem?_eq_some_iff.1 hb).1
 obtain ⟨aw,cw,hwv,hcw,hcm⟩:=own_slice h
 rw [hwv] at h
 obtain ⟨gw,rfl⟩:=own_some h (by omega)
 obtain ⟨hgwB,hgwl,CW,hCW⟩:=own_block h (g:=gw) rfl
 have hne:cb≠gw:=fun e=>by rw [e,hCW] at hb;injection hb with hb;injection hb with _ hb _;exact absurd hb (by decide)
 have HC:Hid (∀ W,Below w.heap.size w W→W.cell? ⟨cb,15,none⟩=some (.slice (some ⟨gw,0,none⟩) L.wks.length cw)∧∀ q,q < L.wks.length→W.cell? ⟨gw,q * 3,none⟩=some (V.wl q)):=fun W hW=>by
  have h1:=(cell_of (j:=15) (u:=V.wv) ((hW.block cb hcb).trans hb) rfl).1
  rw [hwv] at h1
  exact ⟨h1,fun q hq=>own_get (own_belowR h hW) (wkRs_at hq).1⟩
 have HWV:=hide hwv
 have HROW:=hide h
 have HLS:=hide hls
 have HCW:=hide hCW
 have HB:=hide hb
 have hcap:=own_cap h
 unfold maxLen at hcm hcap
 clear hb h hls hwv hCW
 have hlf:=HLS.out f hfn
 obtain ⟨al,cl,hvl,hcl,hclm⟩:=own_slice hlf
 rw [hvl] at hlf
 obtain ⟨gl,rfl⟩:=own_some hlf (by omega)
 obtain ⟨hglB,hgll,CL,hCL⟩:=own_block hlf (g:=gl) rfl
 have hgl:gl≠gw:=fun e=>by have h1:=HCW.out;rw [← e,hCL] at h1;injection h1 with h1;injection h1 with _ h1 _;exact absurd h1 (by decide)
 unfold maxLen at hclm
 have HLF:=hide hlf
 have HVL:=hide hvl
 have HCL:=hide hCL
 clear hlf hvl hCL
 obtain ⟨xx,hxx⟩:∃ xx,xx=(ll f).getD 0 0:=⟨_,rfl⟩
 obtain ⟨er,her0⟩:∃ er,er=(ll f).eraseIdx 0:=⟨_,rfl⟩
 rw [← hxx,← her0]
 have HXX:=hide hxx
 have HER0:=hide her0
 clear hxx her0
 have hzn:=hze
 have HSL:Hid (∀ q,q < L.wks.length→∃ a c,V.wl q=.slice a (nl q) c∧nl q≤c∧c≤maxLen):=fun q hq=>own_slice (HLS.out q hq)
 have HWL:=hide hwl
 have HBR0:Hid (Below w.heap.size w w):=Below.refl _ _
 have c15:=(HC.out w HBR0.out).1
 have cn:=(HC.out w HBR0.out).2 n hn
 obtain ⟨an,kn,hvn,hkn,hknm⟩:=HSL.out n hn
 rw [hvn] at cn
 have HVN:=hide hvn
 have hln0:nl n=0:=hzn
 rw [hln0] at cn
 clear hwl hvn
 have HBD:=hide hbd
 have HBL:=hide hbl
 have HB0:=hide hb0
 have HF:=hide hf
 have HWV2:Hid (∀ w':World,Tch (fun g=>g=gw) w w'→Tch (fun g=>some g=V.wv.ownBlock) w w'):=fun w' ht=>by
  rw [HWV.out]
  exact ⟨ht.os,ht.tape,ht.output,ht.size,fun k hk hne=>ht.block k hk (fun e=>hne (by rw [e];rfl))⟩
 have HRV:Hid (∀ (w':World) (n':Nat) (xs:List Value),w'.ownsRow B 304 3 (.slice (some ⟨gw,0,none⟩) n' cw) n' xs→n'=L.wks.length→w'.ownsRow B 304 3 V.wv n' xs):=fun w' n' xs ho e=>by rw [HWV.out,← e];exact ho
 clear hbs hbd hbl hb0 hf
 go_enter Tryz.func251,Tryz.ntmps251
 go_wp2_with fail
 go_loopw [5,6,7] (fun f' a' x wr=>∃ k:Nat,k≤L.wks.length∧x=.int .i64 k∧Below w.heap.size w wr∧(((∀ p,p < k→nl p=0)∧f'=.int .i64 (n:Int)∧a'=.int .i64 (-1))∨(0 < nl (bs k)∧0 < k∧f'=.int .i64 ((bs k:Nat):Int)∧a'=.int .i64 0))) (fun _ _ x _=>L.wks.length - (intOf x).toNat)
 case atStart=>exact ⟨0,Nat.zero_le _,rfl,HBR0.out,Or.inl ⟨fun p hp=>absurd hp (Nat.not_lt_zero _),rfl,rfl⟩⟩
 case round=>
  obtain ⟨k,hk,rfl,hbr,hcase⟩:=hrel
  have HBR:=hide hbr
  have d15:=(HC.out wr hbr).1
  have dn:=(HC.out wr hbr).2 n hn
  rw [HVN.out,hln0] at dn
  clear hbr
  by_cases hlt:k < L.wks.length
  ·have dk:=(HC.out wr HBR.out).2 k hlt
   obtain ⟨ak,ck,hvk,hck,_⟩:=HSL.out k hlt
   rw [hvk] at dk
   have hnk:=HWL.out k hlt
   clear hvk
   rcases hcase with ⟨hall,rfl,rfl⟩ | ⟨hpos,hk0,rfl,rfl⟩
   ·have HALL:=hide hall
    clear hall
    by_cases hc:0 < nl k
    ·have HC2:Hid (bs (k + 1)=k):=by
      show _=_
      rw [HBD.out k]
      by_cases e:k=0
      ·subst e;rw [HB0.out];split <;> rfl
      ·rw [if_pos (by rw [HALL.out (bs k) (HBL.out k (by omega))];exact hc)]
     have HNK2:Hid (0 < nl k):=hc
     generalize hxk:nl k=xk at *
     have HXK:=hide hxk
     clear hxk
     go_upto_region 6 with fail
     have e15:=cell_regrown d15
     have ek:=cell_regrown dk
     have en:=cell_regrown dn
     refine wp_region_quiet_below (by kernel_rfl) (by kernel_rfl) ?_
     repeat (go_big_quiet_step (fail))
     refine wpQuiet_nil ?_
     intro _ hw'
     obtain ⟨⟨dq,osq⟩,hw''⟩:=hw'
     subst hw''
     have HB3:Hid (Below w.heap.size w (Sort.grow (redrawn wr dq) osq)):=HBR.out.trans ((below_regrown wr dq osq).mono HBR.out.size)
     generalize Sort.grow (redrawn wr dq) osq=w3 at *
     clear e15 ek en d15 dn dk
     go_wp2
     go_roundw
     case rel=>exact ⟨k + 1,by omega,by go_num,HB3.out,Or.inr ⟨by rw [HC2.out,HXK.out];exact HNK2.out,by omega,by rw [HC2.out],rfl⟩⟩
     case measure=>simp [intOf];omega
    ·have hz1:nl k=0:=by omega
     have HZ1:=hide hz1
     rw [hz1] at dk
     clear hz1 hc hck hnk
     go_upto_region 6 with fail
     have e15:=cell_regrown d15
     have ek:=cell_regrown dk
     have en:=cell_regrown dn
     refine wp_region_quiet_below (by kernel_rfl) (by kernel_rfl) ?_
     repeat (go_big_quiet_step (fail))
     refine wpQuiet_nil ?_
     intro _ hw'
     obtain ⟨⟨dq,osq⟩,hw''⟩:=hw'
     subst hw''
     have HB3:Hid (Below w.heap.size w (Sort.grow (redrawn wr dq) osq)):=HBR.out.trans ((below_regrown wr dq osq).mono HBR.out.size)
     generalize Sort.grow (redrawn wr dq) osq=w3 at *
     clear e15 ek en d15 dn dk
     go_wp2
     go_roundw
     case rel=>exact ⟨k + 1,by omega,by go_num,HB3.out,Or.inl ⟨fun p hp=>by rcases (show p < k∨p=k by omega) with e | e;exact HALL.out p e;rw [e];exact HZ1.out,rfl,rfl⟩⟩
     case measure=>simp [intOf];omega
   ·have hbk:bs k < L.wks.length:=by have:=HBL.out k hk0;omega
    have df:=(HC.out wr HBR.out).2 (bs k) hbk
    obtain ⟨af,cf,hvf,hcf,_⟩:=HSL.out (bs k) hbk
    rw [hvf] at df
    have hnf:=HWL.out (bs k) hbk
    have HPOS:=hide hpos
    have hbd2:=HBD.out k
    clear hvf
    by_cases hc:nl (bs k) < nl k
    ·rw [if_pos hc] at hbd2
     have HBD2:=hide hbd2
     have HNK2:Hid (0 < nl k):=by show _ < _;omega
     have hc2:((nl (bs k):Nat):Int) < ((nl k:Nat):Int):=by omega
     clear hbd2 hpos hc
     go_upto_region 6 with fail
     have e15:=cell_regrown d15
     have ek:=cell_regrown dk
     have ef:=cell_regrown df
     refine wp_region_quiet_below (by kernel_rfl) (by kernel_rfl) ?_
     repeat (go_big_quiet_step (fail))
     refine wpQuiet_nil ?_
     intro _ hw'
     obtain ⟨⟨dq,osq⟩,hw''⟩:=hw'
     subst hw''
     have HB3:Hid (Below w.heap.size w (Sort.grow (redrawn wr dq) osq)):=HBR.out.trans ((below_regrown wr dq osq).mono HBR.out.size)
     generalize Sort.grow (redrawn wr dq) osq=w3 at *
     clear e15 ek ef d15 dn dk df
     go_wp2
     go_roundw
     case rel=>exact ⟨k + 1,by omega,by go_num,HB3.out,Or.inr ⟨by rw [HBD2.out];exact HNK2.out,by omega,by rw [HBD2.out],rfl⟩⟩
     case measure=>simp [intOf];omega
    ·rw [if_neg hc] at hbd2
     have HBD2:=hide hbd2
     have hc2:¬ ((nl (bs k):Nat):Int) < ((nl k:Nat):Int):=by omega
     clear hbd2 hpos hc
     go_upto_region 6 with fail
     have e15:=cell_regrown d15
     have ek:=cell_regrown dk
     have ef:=cell_regrown df
     refine wp_region_quiet_below (by kernel_rfl) (by kernel_rfl) ?_
     repeat (go_big_quiet_step (fail))
     refine wpQuiet_nil ?_
     intro _ hw'
     obtain ⟨⟨dq,osq⟩,hw''⟩:=hw'
     subst hw''
     have HB3:Hid (Below w.heap.size w (Sort.grow (redrawn wr dq) osq)):=HBR.out.trans ((below_regrown wr dq osq).mono HBR.out.size)
     generalize Sort.grow (redrawn wr dq) osq=w3 at *
     clear e15 ek ef d15 dn dk df
     go_wp2
     go_roundw
     case rel=>exact ⟨k + 1,by omega,by go_num,HB3.out,Or.inr ⟨by rw [HBD2.out];exact HPOS.out,by omega,by rw [HBD2.out],rfl⟩⟩
     case measure=>simp [intOf];omega
  ·have hkn:k=L.wks.length:=by omega
   rcases hcase with ⟨hall,rfl,rfl⟩ | ⟨hpos,hk0,rfl,rfl⟩
   ·exact absurd (hall f (by omega)) (by omega)
   ·have hkf:bs k=f:=by rw [hkn,← HF.out]
    rw [hkf]
    clear hpos hkf dn d15
    have hlf:=HLF.out
    have halt:0 < nl f:=by omega
    have hlr:=own_belowR hlf HBR.out
    have q15:=(HC.out wr HBR.out).1
    have qf:=(HC.out wr HBR.out).2 f hfn
    rw [HVL.out] at qf
    have qa:=list_at (a:=0) hlr (by rw [HNL.out];omega)
    rw [← HXX.out] at qa
    have hm0:=tk_mid (x:=xx) HROW.out HBR.out hn
    have hrd:=own_belowR HROW.out HBR.out
    obtain ⟨t1,t2⟩:=own_there hrd (j:=n * 3 + 1) (by omega)
    obtain ⟨t3,t4⟩:=own_there (own_store (i:=n * 3 + 1) (y:=.int .i64 (xx:Int)) hrd (by omega)) (j:=n * 3 + 2) (by omega)
    obtain ⟨u1,hu1⟩:=Option.isSome_iff_exists.1 t1
    obtain ⟨u3,hu3⟩:=Option.isSome_iff_exists.1 t3
    have qb:(wr.setCell ⟨gw,n * 3 + 1,none⟩ (.int .i64 (xx:Int))).cell? ⟨cb,15,none⟩=some (.slice (some ⟨gw,0,none⟩) L.wks.length cw):=(World.cell?_of_block (w:=wr) (a:=⟨cb,15,none⟩) (set_other hne)).trans q15
    obtain ⟨W2,hW2⟩:∃ W2,W2=((wr.setCell ⟨gw,n * 3 + 1,none⟩ (.int .i64 (xx:Int))).setCell ⟨gw,n * 3 + 2,none⟩ (.int .i64 0)).drew:=⟨_,rfl⟩
    have hm:=hm0.below (drewB _)
    rw [← hW2] at hm
    have hsz2:=hm.tch.size
    have hl2:=own_same (w':=W2) hlf (fun g hg=>by injection hg with hg;rw [hg];exact hm.tch.block gl hgll hgl)
    have hlt:=list_take hl2 0
    have hlen:(ll f).length=nl f:=HNL.out f
    have her:(ll f).eraseIdx 0=(ll f).take 0 ++ (ll f).drop (0 + 1):=List.eraseIdx_eq_take_drop_succ _ _
    have HER:=hide her
    have htl:((ll f).take 0).length=0:=List.length_take_of_le (by omega)
    have hdl:((ll f).drop (0 + 1)).length=nl f - (0 + 1):=by rw [List.length_drop,hlen]
    have FN:Hid (∀ (W3:World) v3 n3 x3 (W4:World) v4 n4 x4,W3.ownsRow w.heap.size 3 1 v3 n3 x3→W2.grownBy W3 none→W4.ownsRow w.heap.size 3 1 v4 n4 x4→W3.grownBy W4 v3.ownBlock→(W4.cell? ⟨cb,15,none⟩=some (.slice (some ⟨gw,0,none⟩) L.wks.length cw)∧(W4.cell? ⟨gw,f * 3,none⟩).isSome=true∧W4.frozen? ⟨gw,f * 3,none⟩=false)∧Tch (fun g=>g=gw) w (W4.setCell ⟨gw,f * 3,none⟩ v4)∧(W4.setCell ⟨gw,f * 3,none⟩ v4).ownsRow B 304 3 (.slice (some ⟨gw,0,none⟩) L.wks.length cw) L.wks.length (wkRs (tkW L.wks f 0 n xx) (fun p=>if p=f then v4 else V.wl p) (fun p=>if p=n then 0 else V.rd p))∧(W4.setCell ⟨gw,f * 3,none⟩ v4).ownsRow w.heap.size 3 1 v4 n4 x4):=by
     intro W3 v3 n3 x3 W4 v4 n4 x4 o3 g3 o4 g4
     obtain ⟨a1,a2,a3,a4,a5,a6⟩:=hm.two (f:=f) (a:=0) rfl hn hfn hB o3 g3 o4 g4 hgwl
     refine ⟨⟨?_,a2,a3⟩,a4,a5,a6⟩
     have h1:=(cell_of (j:=15) (u:=V.wv) ((a1 cb hcb hne).trans HB.out) rfl).1
     rw [HWV.out] at h1
     exact h1
    have FS:Hid (∀ (W3:World) v3 n3 x3,W3.ownsRow w.heap.size 3 1 v3 n3 x3→W2.grownBy W3 none→∀ ad:Addr,(ad=⟨gl,(0 + 1) * z0.size,none⟩∨cl=0 + 1)→∀ j u,(((ll f).drop (0 + 1)).map iV)[j]? = some u→W3.cell? (ad.add j)=some u):=by
     intro W3 v3 n3 x3 o3 g3 ad had
     have hl3:=own_same (w':=W3) hl2 (fun g hg=>by injection hg with hg;rw [hg];exact g3.block gl (by omega) (by simp))
     rw [hy1] at had
     exact list_drop hl3 had
    have HLT:=hide hlt
    have HW2:=hide hW2
    have HO1:=hide (one_iV ((ll f).take 0))
    have HO2:=hide (one_iV ((ll f).drop (0 + 1)))
    have HTL:Hid ((((ll f).take 0).map iV).length=0 * 1):=by show _=_;rw [List.length_map,htl,Nat.mul_one]
    have HDL:Hid ((((ll f).drop (0 + 1)).map iV).length=(nl f - (0 + 1)) * 1):=by show _=_;rw [List.length_map,hdl,Nat.mul_one]
    have HEL:Hid (((ll f).eraseIdx 0).length=0 + (nl f - (0 + 1))∧((ll f).eraseIdx 0).map iV=((ll f).take 0).map iV ++ ((ll f).drop (0 + 1)).map iV):=by
     refine ⟨?_,?_⟩
     ·rw [HER.out,List.length_append,htl,hdl]
     ·rw [HER.out,List.map_append]
    generalize ((ll f).take 0).map iV=xt at *
    generalize ((ll f).drop (0 + 1)).map iV=xd at *
    have hnf2:nl f≤1000:=HWL.out f hfn
    generalize hnf3:nl f=nf at *
    have HNF:=hide hnf3
    clear hm hm0 hl2 hlt hrd hlr hlf t1 t3 her htl hdl hW2 hlen hnf3
    go_upto_region 12 with fail
    go_region_law (fail)
    all_goals (
     go_upto_region 15 with fail
     rw [← HW2.out]
     go_wp2_with (first
      | (at_builtin;refine wpList_append_own_at _ rfl (.tmp 90) (.tmp 93) 149 rfl w.heap.size 3 z0 (.int .i64 0) 1 8 Tryz.underlying149 hz0 hy0 hy1 hy2 rfl (by decide) _ _ _ rfl (World.ownsRow_nil _ _ _ _) ⟨gl,0,none⟩ 0 _ xt rfl HTL.out HLT.out HO1.out (by unfold maxLen;omega) (by omega) (by omega) ?_;intro v3 W3 o3 g3 _ n3;rw [Nat.zero_add,List.nil_append] at o3;have HO3:=hide o3;have HG3:Hid (W2.grownBy W3 none):=g3;obtain ⟨a3,c3,rfl,_,_⟩:=own_slice o3;clear o3 g3 n3)
      | (refine wpList_slice_lo rfl 149 (.tmp 96) (.tmp 98) rfl 3 Tryz.underlying149 hz0 gl nf cl (0 + 1) rfl (by go_num) (by omega) ?_;intro ad had;have HAD:=hide had;clear had)
      | (at_builtin;refine wpList_append_own_at _ rfl (.tmp 95) (.tmp 99) 149 rfl w.heap.size 3 z0 (.int .i64 0) 1 8 Tryz.underlying149 hz0 hy0 hy1 hy2 rfl (by decide) _ _ _ rfl HO3.out ad _ _ xd rfl HDL.out (FS.out _ _ _ _ HO3.out HG3.out ad HAD.out) HO2.out (by unfold maxLen;omega) (by omega) (by have:=HG3.out.size;omega) ?_;intro v4 W4 o4 g4 _ n4;obtain ⟨⟨r1,r2,r3⟩,hfin⟩:=FN.out _ _ _ _ _ _ _ _ HO3.out HG3.out o4 g4;have HFIN:=hide hfin;obtain ⟨u5,r2⟩:=Option.isSome_iff_exists.1 r2;obtain ⟨a4,c4,rfl,_,_⟩:=own_slice o4;clear o4 g4 n4 hfin))
     go_ret
     obtain ⟨f1,f2,f3⟩:=HFIN.out
     simp only [Nat.zero_add] at f1 f2 f3
     refine ⟨rfl,HWV2.out _ f1, .slice a4 (nf - 1) c4,?_,?_⟩
     ·exact HRV.out _ _ _ f2 rfl
     ·rw [HER0.out,HEL.out.1,HEL.out.2];simp only [Nat.zero_add];exact f3)
end Go.Proofs.YtkncboinfcnklaaGreatDoor.Rl

namespace Go.Proofs.YtkncboinfcnklaaGreatDoor.Rl
open Go.RowKit Go.Deep Go.Shelf Go.Proofs.YtkncboinfcnklaaGreatDoor.Mth
theorem RfV.wks1 {Z:Nat→Prop} {B cb:Nat} {w w':World} {V:Rv} {L:Lg} {all:List Ent} {ts:List Tl} (hb:w.heap[cb]? = some (Obj.cells (rfC V L) 234 (0,0))) (h:RfV Z B w V L all ts) (ht:Tch (fun g=>some g=V.wv.ownBlock) w w') {ks:List Wk} {wl:Nat→Value} {rd:Nat→Int} (hl:ks.length=L.wks.length)
  (hrow:w'.ownsRow B 304 3 V.wv L.wks.length (wkRs ks wl rd)) (hlst:∀ q,q < L.wks.length→w'.ownsRow B 3 1 (wl q) (ks.getD q wk0).list.length ((ks.getD q wk0).list.map iV)) (hrun:∀ q,q < L.wks.length→∀ i,(ks.getD q wk0).runs=some i→rd q=((ks.getD q wk0).read:Int)) :
  w'.heap[cb]? = some (Obj.cells (rfC { V with wl:=wl,rd:=rd } { L with wks:=ks }) 234 (0,0))∧RfV Z B w' { V with wl:=wl,rd:=rd } { L with wks:=ks } all ts:=by
 have hcb:cb < w.heap.size:=(Array.getElem?_eq_some_iff.1 hb).1
 have kp:∀ {B':Nat} {e:TypeId} {sz:Nat} {u:Value} {m:Nat} {xs:List Value},w.ownsRow B' e sz u m xs→e≠304→w'.ownsRow B' e sz u m xs:=fun ho he=>own_tch ho ht (fun g hg=>ty_ne2 ho h.wks he g hg)
 refine ⟨?_,kp h.all (by decide),kp h.mem (by decide),fun i hi=>kp (h.lev i hi) (by decide),fun i hi j hj=>kp (h.seg i hi j hj) (by decide),h.sz,?_,fun q hq=>hlst q (by rw [← hl];exact hq),fun q hq=>hrun q (by rw [← hl];exact hq),kp h.tls (by decide)⟩
 ·rw [ht.block cb hcb (ty_ne h.wks hb (by decide)),hb]
  exact congrArg (fun C=>some (Obj.cells C 234 (0,0))) (rfC_same (V:={ V with wl:=wl,rd:=rd }) (V':=V) (L:={ L with wks:=ks }) (L':=L) rfl rfl rfl rfl rfl rfl rfl rfl hl.symm rfl rfl rfl rfl)
 ·show w'.ownsRow B _ 3 V.wv ks.length (wkRs ks wl rd)
  rw [hl]
  exact hrow
theorem wkRs_rd {ks:List Wk} {wl:Nat→Value} {rd:Nat→Int} {n:Nat} {x:Int} (hn:n < ks.length):(wkRs ks wl rd).set (n * 3 + 2) (.int .i64 x)=wkRs ks wl (fun p=>if p=n then x else rd p):=by
 have hl:(wkRs ks wl rd).length=ks.length * 3:=wkRs_len _ _ _
 refine wkRs_ext (by rw [List.length_set,hl]) (fun q hq=>?_)
 obtain ⟨b0,b1,b2⟩:=wkRs_at (ks:=ks) (wl:=wl) (rd:=rd) hq
 refine ⟨by rw [List.getElem?_set_ne (by omega),b0],by rw [List.getElem?_set_ne (by omega),b1],?_⟩
 by_cases e:q=n
 ·subst e
  rw [if_pos rfl,List.getElem?_set_self (by rw [hl];omega)]
 ·rw [if_neg e,List.getElem?_set_ne (by omega),b2]
theorem wkRs_run {ks:List Wk} {wl:Nat→Value} {rd:Nat→Int} {n:Nat} {k:Wk} (hn:n < ks.length):(wkRs ks wl rd).set (n * 3 + 1) (.int .i64 (rnV k.runs))=wkRs (ks.set n k) wl rd:=by
 have hl:(wkRs ks wl rd).length=ks.length * 3:=wkRs_len _ _ _
 refine wkRs_ext (by rw [List.length_set,hl,List.length_set]) (fun q hq=>?_)
 rw [List.length_set] at hq
 obtain ⟨b0,b1,b2⟩:=wkRs_at (ks:=ks) (wl:=wl) (rd:=rd) hq
 refine ⟨by rw [List.getElem?_set_ne (by omega),b0],?_,by rw [List.getElem?_set_ne (by omega),b2]⟩
 rw [getD_setW hn]
 by_cases e:q=n
 ·subst e
  rw [if_pos rfl,List.getElem?_set_self (by rw [hl];omega)]
 ·rw [if_neg e,List.getElem?_set_ne (by omega),b1]
theorem wkRs_same {ks:List Wk} {wl:Nat→Value} {rd:Nat→Int} {n:Nat} {k:Wk} (hn:n < ks.length) (hr:k.runs=(ks.getD n wk0).runs):wkRs (ks.set n k) wl rd=wkRs ks wl rd:=by
 refine (wkRs_ext (by rw [wkRs_len,List.length_set]) (fun q hq=>?_)).symm
 rw [List.length_set] at hq
 obtain ⟨b0,b1,b2⟩:=wkRs_at (ks:=ks) (wl:=wl) (rd:=rd) hq
 refine ⟨b0,?_,b2⟩
 rw [b1,getD_setW hn]
 by_cases e:q=n
 ·rw [if_pos e,hr,e]
 ·rw [if_neg e]
theorem Need.uniq {L:Lg} {m m':Nat} (h:Need L m) (h':Need L m'):m=m':=by
 obtain ⟨a1,a2,a3⟩:=h
 obtain ⟨b1,b2,b3⟩:=h'
 have h1:m≤m':=by
  rcases b3 with e | ⟨x,p,hx,e⟩
  ·omega
  ·have:=a2 x p hx;omega
 have h2:m'≤m:=by
  rcases a3 with e | ⟨x,p,hx,e⟩
  ·omega
  ·have:=b2 x p hx;omega
 omega
theorem StepR.uniq {L L1 L2:Lg} {q:Nat} {r1 r2:Int} (h1:StepR L q r1 L1) (h2:StepR L q r2 L2):r1=r2∧L1=L2:=by
 unfold StepR at h1 h2
 cases hr:(L.wks.getD q wk0).runs with
 | none=>
  rw [hr] at h1 h2
  simp only at h1 h2
  split at h1
  ·rename_i hc
   rw [if_pos hc] at h2
   exact ⟨h1.1.trans h2.1.symm,h1.2.trans h2.2.symm⟩
  ·rename_i hc
   rw [if_neg hc] at h2
   split at h1
   ·rename_i hd
    rw [if_pos hd] at h2
    exact ⟨h1.1.trans h2.1.symm,h1.2.trans h2.2.symm⟩
   ·rename_i hd
    rw [if_neg hd] at h2
    exact ⟨h1.1.trans h2.1.symm,h1.2.trans h2.2.symm⟩
 | some i=>
  rw [hr] at h1 h2
  simp only at h1 h2
  split at h1
  ·rename_i hc
   rw [if_pos hc] at h2
   exact ⟨h1.1.trans h2.1.symm,h1.2.trans h2.2.symm⟩
  ·rename_i hc
   rw [if_neg hc] at h2
   obtain ⟨e1,m,hm,e2⟩:=h1
   obtain ⟨e3,m',hm',e4⟩:=h2
   rw [Need.uniq hm hm'] at e2
   exact ⟨e1.trans e3.symm,e2.trans e4.symm⟩
set_option maxRecDepth 100000 in
set_option maxHeartbeats 4000000 in
theorem stepR_no {w:World} {B cb:Nat} {V:Rv} {L:Lg} (hb:w.heap[cb]? = some (Obj.cells (rfC V L) 234 (0,0))) (h:w.ownsRow B 304 3 V.wv L.wks.length (wkRs L.wks V.wl V.rd)) (n:Int) (hn:¬ (0≤n∧n < (L.wks.length:Int))) :
  Calls Tryz.prog 206 #[ptrV cb, .int .i64 n] w fun e w'=>e=.returned (.tuple #[.int .i64 0, .int .i64 1])∧w'=w:=by
 have c15:=(cell_of (j:=15) (u:=V.wv) hb rfl).1
 obtain ⟨aw,cw,hwv,hcw,hcm⟩:=own_slice h
 rw [hwv] at c15
 clear hb h hwv hcm
 by_cases h0:n < 0
 ·go_enter Tryz.func206,Tryz.ntmps206
  go_wp2
  go_ret2
  exact ⟨rfl,rfl⟩
 ·have h1:(L.wks.length:Int)≤n:=by omega
  go_enter Tryz.func206,Tryz.ntmps206
  go_wp2
  go_ret2
  exact ⟨rfl,rfl⟩
end Go.Proofs.YtkncboinfcnklaaGreatDoor.Rl

namespace Go.Proofs.YtkncboinfcnklaaGreatDoor.Rl
open Go.RowKit Go.Deep Go.Shelf Go.Proofs.YtkncboinfcnklaaGreatDoor.Mth
set_option maxRecDepth 100000 in
set_option maxHeartbeats 4000000 in
theorem stepR_take {w:World} {B cb:Nat} {V:Rv} {L:Lg} (hb:w.heap[cb]? = some (Obj.cells (rfC V L) 234 (0,0))) (h:w.ownsRow B 304 3 V.wv L.wks.length (wkRs L.wks V.wl V.rd)) {n:Nat} (hn:n < L.wks.length) (hr:(L.wks.getD n wk0).runs=none) (Q:Int→World→Prop)
  (CT:Calls Tryz.prog 251 #[ptrV cb, .int .i64 (n:Int)] w fun e w'=>∃ r,e=.returned (.int .i64 r)∧Q r w') :
  Calls Tryz.prog 206 #[ptrV cb, .int .i64 (n:Int)] w fun e w'=>∃ r,e=.returned (.tuple #[.int .i64 r, .int .i64 0])∧Q r w':=by
 have c15:=(cell_of (j:=15) (u:=V.wv) hb rfl).1
 obtain ⟨aw,cw,hwv,hcw,hcm⟩:=own_slice h
 rw [hwv] at c15 h
 obtain ⟨gw,rfl⟩:=own_some h (by omega)
 obtain ⟨_,r1,_⟩:=wkRs_at (ks:=L.wks) (wl:=V.wl) (rd:=V.rd) hn
 have k1:=own_get h r1
 rw [hr] at k1
 simp only [rnV] at k1
 have HCT:=hide CT
 generalize L.wks.length=nw at *
 clear hb h hwv hcm r1 hr CT
 go_enter Tryz.func206,Tryz.ntmps206
 go_wp2_with (first
  | (go_at_call 251;refine HCT.out.mono ?_;rintro e W ⟨r,rfl,hq⟩;have HQ:=hide hq;clear hq))
 go_ret2
 exact ⟨_,rfl,HQ.out⟩
theorem tk_rfv {Z:Nat→Prop} {w w':World} {B cb:Nat} {V:Rv} {L:Lg} {all:List Ent} {ts:List Tl} (hb:w.heap[cb]? = some (Obj.cells (rfC V L) 234 (0,0))) (h:RfV Z B w V L all ts) (hB:B≤w.heap.size) {n f a x:Nat} (hn:n < L.wks.length) (hf:f < L.wks.length) (hrd:(L.wks.getD n wk0).read=0) {v:Value} (ht:Tch (fun g=>some g=V.wv.ownBlock) w w')
  (hrow:w'.ownsRow B 304 3 V.wv L.wks.length (wkRs (tkW L.wks f a n x) (fun p=>if p=f then v else V.wl p) (fun p=>if p=n then 0 else V.rd p))) (hv:w'.ownsRow w.heap.size 3 1 v ((L.wks.getD f wk0).list.eraseIdx a).length (((L.wks.getD f wk0).list.eraseIdx a).map iV)) :
  Below B w w'∧TyF w w'∧∃ V',w'.heap[cb]? = some (Obj.cells (rfC V' { L with wks:=tkW L.wks f a n x }) 234 (0,0))∧RfV Z B w' V' { L with wks:=tkW L.wks f a n x } all ts:=by
 refine ⟨below_tch0 ht (fun k q=>(own_block h.wks q).1) hB,TyF.tch ht (fun k q=>own_typ h.wks (by decide) (by decide) q),_,RfV.wks1 hb h ht (tkW_len _ _ _ _ _) hrow (fun p hp=>?_) (fun p hp i hi=>?_)⟩
 ·rw [tkW_list hf hn]
  by_cases e:p=f
  ·simp only [if_pos e]
   exact own_mono hv hB
  ·simp only [if_neg e]
   exact own_tch (h.lst p hp) ht (fun g hg=>ty_ne2 (h.lst p hp) h.wks (by decide) g hg)
 ·rw [tkW_runs hf hn] at hi
  rw [tkW_read hf hn]
  by_cases e:p=n
  ·simp only [if_pos e]
   rw [e,hrd]
   rfl
  ·rw [if_neg e] at hi
   simp only [if_neg e]
   exact h.run p hp i hi
theorem rd_mid {w:World} {B gw nw cw n:Nat} {ks:List Wk} {wl:Nat→Value} {rd:Nat→Int} (x:Int) (h:w.ownsRow B 304 3 (.slice (some ⟨gw,0,none⟩) nw cw) nw (wkRs ks wl rd)) (hl:ks.length=nw) (hn:n < nw) :
  (w.setCell ⟨gw,n * 3 + 2,none⟩ (.int .i64 x)).ownsRow B 304 3 (.slice (some ⟨gw,0,none⟩) nw cw) nw (wkRs ks wl (fun p=>if p=n then x else rd p))∧Tch (fun g=>g=gw) w (w.setCell ⟨gw,n * 3 + 2,none⟩ (.int .i64 x)):=by
 have h1:=own_store (i:=n * 3 + 2) (y:=.int .i64 x) h (by omega)
 rw [wkRs_rd (by omega)] at h1
 exact ⟨h1,rfl,rfl,rfl,by simp,fun k _ hk=>set_other hk⟩
set_option maxRecDepth 100000 in
set_option maxHeartbeats 8000000 in
theorem stepR_run {Z:Nat→Prop} {w:World} {B cb:Nat} {V:Rv} {L:Lg} {all:List Ent} {ts:List Tl} (hb:w.heap[cb]? = some (Obj.cells (rfC V L) 234 (0,0))) (h:RfV Z B w V L all ts) (hB:B≤w.heap.size) {n i:Nat} (hn:n < L.wks.length) (hr:(L.wks.getD n wk0).runs=some i) (hw4:L.wks.length≤4) (hrl:(L.wks.getD n wk0).read≤100) (_hf:L.fan≤1000)
  (CE:∀ W V' ,W.heap[cb]? = some (Obj.cells (rfC V' { L with wks:=L.wks.set n ⟨(L.wks.getD n wk0).list,none,0⟩ }) 234 (0,0))→RfV Z B W V' { L with wks:=L.wks.set n ⟨(L.wks.getD n wk0).list,none,0⟩ } all ts→V'.wl=V.wl→V'.lv=V.lv→V'.sv=V.sv→V'.av=V.av→V'.mv=V.mv→Below B w W→TyF w W→¬ (L.wks.getD n wk0).read + 1 < L.fan→Calls Tryz.prog 252 #[ptrV cb, .int .i64 (i:Int)] W fun e w'=>e=.returned (.tuple #[])∧Below B w w'∧TyF w w'∧∃ V'',w'.heap[cb]? = some (Obj.cells (rfC V'' (Lg.ends { L with wks:=L.wks.set n ⟨(L.wks.getD n wk0).list,none,0⟩ } i (ndT all.length ts))) 234 (0,0))∧RfV Z B w' V'' (Lg.ends { L with wks:=L.wks.set n ⟨(L.wks.getD n wk0).list,none,0⟩ } i (ndT all.length ts)) all ts) :
  Calls Tryz.prog 206 #[ptrV cb, .int .i64 (n:Int)] w fun e w'=>∃ r L',e=.returned (.tuple #[.int .i64 r, .int .i64 0])∧((L.wks.getD n wk0).read + 1 < L.fan∧r=1∧L'={ L with wks:=L.wks.set n ⟨(L.wks.getD n wk0).list,some i,(L.wks.getD n wk0).read + 1⟩ }∨¬ (L.wks.getD n wk0).read + 1 < L.fan∧r=2∧L'=Lg.ends { L with wks:=L.wks.set n ⟨(L.wks.getD n wk0).list,none,0⟩ } i (ndT all.length ts))∧Below B w w'∧TyF w w'∧∃ V',w'.heap[cb]? = some (Obj.cells (rfC V' L') 234 (0,0))∧RfV Z B w' V' L' all ts:=by
 have hcb:cb < w.heap.size:=(Array.getElem?_eq_some_iff.1 hb).1
 have c15:=(cell_of (j:=15) (u:=V.wv) hb rfl).1
 obtain ⟨aw,cw,hwv,hcw,hcm⟩:=own_slice h.wks
 have hrow:=h.wks
 rw [hwv] at c15 hrow
 obtain ⟨gw,rfl⟩:=own_some hrow (by omega)
 obtain ⟨hgB,hgl,CW,hCW⟩:=own_block hrow (g:=gw) rfl
 have hne:cb≠gw:=fun e=>by rw [e,hCW] at hb;injection hb with hb;injection hb with _ hb _;exact absurd hb (by decide)
 have hcap:=own_cap hrow
 obtain ⟨r0,r1,r2⟩:=wkRs_at (ks:=L.wks) (wl:=V.wl) (rd:=V.rd) hn
 have k1:=own_get hrow r1
 have k2:=own_get hrow r2
 have k2f:=(own_there hrow (j:=n * 3 + 2) (by omega)).2
 rw [hr] at k1
 simp only [rnV] at k1
 rw [h.run n hn i hr] at k2
 obtain ⟨rdn,hrdn⟩:∃ rdn,rdn=(L.wks.getD n wk0).read:=⟨_,rfl⟩
 rw [← hrdn] at k2 hrl
 obtain ⟨m1,m2⟩:=rd_mid ((rdn:Int) + 1) hrow rfl hn
 have HW1:Hid (∀ W2,Below (w.setCell ⟨gw,n * 3 + 2,none⟩ (.int .i64 ((rdn:Int) + 1))).heap.size (w.setCell ⟨gw,n * 3 + 2,none⟩ (.int .i64 ((rdn:Int) + 1))) W2→W2.ownsRow B 304 3 (.slice (some ⟨gw,0,none⟩) L.wks.length cw) L.wks.length (wkRs L.wks V.wl (fun p=>if p=n then (rdn:Int) + 1 else V.rd p))∧Tch (fun g=>g=gw) w W2):=fun W2 hb2=>⟨own_belowR m1 hb2,m2.trans (tch_below (S:=fun _=>False) hb2) (fun _ _ q=>q.elim)⟩
 have hTw:∀ {W:World},Tch (fun g=>g=gw) w W→Tch (fun g=>some g=V.wv.ownBlock) w W:=fun {W} ht=>by
  rw [hwv]
  exact ⟨ht.os,ht.tape,ht.output,ht.size,fun k hk hne=>ht.block k hk (fun e=>hne (by rw [e];rfl))⟩
 have hTy:∀ {W:World},Tch (fun g=>g=gw) w W→TyF w W:=fun ht=>TyF.tch ht (fun k q=>by rw [q];exact ⟨_,_,hCW,by decide,by decide⟩)
 have hBt:∀ {W:World},Tch (fun g=>g=gw) w W→Below B w W:=fun ht=>below_tch0 ht (fun k q=>by rw [q];exact hgB) hB
 have hlo:∀ {W:World} {k:Wk},Tch (fun g=>g=gw) w W→k.list=(L.wks.getD n wk0).list→∀ q,q < L.wks.length→W.ownsRow B 3 1 (V.wl q) ((L.wks.set n k).getD q wk0).list.length (((L.wks.set n k).getD q wk0).list.map iV):=fun {W k} ht hk q hq=>by
  have h1:((L.wks.set n k).getD q wk0).list=(L.wks.getD q wk0).list:=by
   rw [getD_setW hn]
   by_cases e:q=n
   ·rw [if_pos e,hk,e]
   ·rw [if_neg e]
  rw [h1]
  exact own_tch (h.lst q hq) (hTw ht) (fun g hg=>ty_ne2 (h.lst q hq) h.wks (by decide) g hg)
 have FR:Hid (∀ W2,W2.ownsRow B 304 3 (.slice (some ⟨gw,0,none⟩) L.wks.length cw) L.wks.length (wkRs L.wks V.wl (fun p=>if p=n then (rdn:Int) + 1 else V.rd p))→Tch (fun g=>g=gw) w W2→Below B w W2∧TyF w W2∧∃ V',W2.heap[cb]? = some (Obj.cells (rfC V' { L with wks:=L.wks.set n ⟨(L.wks.getD n wk0).list,some i,(L.wks.getD n wk0).read + 1⟩ }) 234 (0,0))∧RfV Z B W2 V' { L with wks:=L.wks.set n ⟨(L.wks.getD n wk0).list,some i,(L.wks.getD n wk0).read + 1⟩ } all ts):=fun W2 o2 t2=>by
  refine ⟨hBt t2,hTy t2,_,RfV.wks1 hb h (hTw t2) (by rw [List.length_set]) (wl:=V.wl) (rd:=fun p=>if p=n then (rdn:Int) + 1 else V.rd p) ?_ (hlo t2 rfl) (fun q hq j hj=>?_)⟩
  ·rw [wkRs_same hn hr.symm,hwv]
   exact o2
  ·rw [getD_setW hn] at hj ⊢
   by_cases e:q=n
   ·simp only [if_pos e]
    rw [hrdn]
    rfl
   ·rw [if_neg e] at hj
    simp only [if_neg e]
    exact h.run q hq j hj
 have FE:Hid (∀ W2,W2.ownsRow B 304 3 (.slice (some ⟨gw,0,none⟩) L.wks.length cw) L.wks.length (wkRs L.wks V.wl (fun p=>if p=n then (rdn:Int) + 1 else V.rd p))→Tch (fun g=>g=gw) w W2→¬ rdn + 1 < L.fan→Calls Tryz.prog 252 #[ptrV cb, .int .i64 (i:Int)] (W2.setCell ⟨gw,n * 3 + 1,none⟩ (.int .i64 (-1))) fun e w'=>e=.returned (.tuple #[])∧Below B w w'∧TyF w w'∧∃ V'',w'.heap[cb]? = some (Obj.cells (rfC V'' (Lg.ends { L with wks:=L.wks.set n ⟨(L.wks.getD n wk0).list,none,0⟩ } i (ndT all.length ts))) 234 (0,0))∧RfV Z B w' V'' (Lg.ends { L with wks:=L.wks.set n ⟨(L.wks.getD n wk0).list,none,0⟩ } i (ndT all.length ts)) all ts):=fun W2 o2 t2 hnf=>by
  have o3:=own_store (i:=n * 3 + 1) (y:=.int .i64 (-1)) o2 (by omega)
  rw [show (Value.int .i64 (-1))=.int .i64 (rnV (⟨(L.wks.getD n wk0).list,none,0⟩:Wk).runs) from rfl,wkRs_run hn] at o3
  have t3:Tch (fun g=>g=gw) w (W2.setCell ⟨gw,n * 3 + 1,none⟩ (.int .i64 (-1))):=⟨t2.os,t2.tape,t2.output,by simpa using t2.size,fun k hk hne=>(set_other hne).trans (t2.block k hk hne)⟩
  obtain ⟨e1,e2⟩:=RfV.wks1 hb h (hTw t3) (ks:=L.wks.set n ⟨(L.wks.getD n wk0).list,none,0⟩) (wl:=V.wl) (rd:=fun p=>if p=n then (rdn:Int) + 1 else V.rd p) (by rw [List.length_set]) (by rw [hwv];exact o3) (hlo t3 rfl) (fun q hq j hj=>by
   rw [getD_setW hn] at hj ⊢
   by_cases e:q=n
   ·rw [if_pos e] at hj;cases hj
   ·rw [if_neg e] at hj
    simp only [if_neg e]
    exact h.run q hq j hj)
  exact CE _ _ e1 e2 rfl rfl rfl rfl rfl (hBt t3) (hTy t3) (by rw [← hrdn];exact hnf)
 have FC:Hid (∀ W2,W2.ownsRow B 304 3 (.slice (some ⟨gw,0,none⟩) L.wks.length cw) L.wks.length (wkRs L.wks V.wl (fun p=>if p=n then (rdn:Int) + 1 else V.rd p))→Tch (fun g=>g=gw) w W2→W2.cell? ⟨cb,15,none⟩=some (.slice (some ⟨gw,0,none⟩) L.wks.length cw)∧W2.cell? ⟨cb,1,none⟩=some (.int .i64 (L.fan:Int))∧W2.cell? ⟨gw,n * 3 + 2,none⟩=some (.int .i64 ((rdn:Int) + 1))∧W2.cell? ⟨gw,n * 3 + 1,none⟩=some (.int .i64 (i:Int))∧W2.frozen? ⟨gw,n * 3 + 1,none⟩=false):=fun W2 o2 t2=>by
  have hbw:=(t2.block cb hcb hne).trans hb
  obtain ⟨_,s1,s2⟩:=wkRs_at (ks:=L.wks) (wl:=V.wl) (rd:=fun p=>if p=n then (rdn:Int) + 1 else V.rd p) hn
  simp only [if_true] at s2
  rw [hr] at s1
  refine ⟨?_,(cell_of (j:=1) hbw rfl).1,own_get o2 s2,own_get o2 s1,(own_there o2 (j:=n * 3 + 1) (by omega)).2⟩
  have:=(cell_of (j:=15) (u:=V.wv) hbw rfl).1
  rw [hwv] at this
  exact this
 obtain ⟨LR,hLR⟩:∃ LR,LR=({ L with wks:=L.wks.set n ⟨(L.wks.getD n wk0).list,some i,(L.wks.getD n wk0).read + 1⟩ }:Lg):=⟨_,rfl⟩
 obtain ⟨LE,hLE⟩:∃ LE,LE=Lg.ends { L with wks:=L.wks.set n ⟨(L.wks.getD n wk0).list,none,0⟩ } i (ndT all.length ts):=⟨_,rfl⟩
 rw [← hLR] at FR ⊢
 rw [← hLE] at FE ⊢
 rw [← hrdn]
 have hwrp:IntKind.i64.wrap ((rdn:Int) + 1)=(rdn:Int) + 1:=by rw [IntKind.wrap_i64];omega
 obtain ⟨h1a,h1b⟩:=HW1.out _ (Below.refl _ _)
 obtain ⟨d15,d1,d2,d3,d4⟩:=FC.out _ h1a h1b
 obtain ⟨xs,hxs⟩:∃ xs,xs=wkRs L.wks V.wl (fun p=>if p=n then (rdn:Int) + 1 else V.rd p):=⟨_,rfl⟩
 rw [← hxs] at HW1 FR FE FC
 generalize hnw:L.wks.length=nw at *
 generalize hfn:L.fan=fan at *
 unfold maxLen at hcm hcap
 clear hb h hrow m1 m2 hTw hTy hBt hlo CE r0 r1 r2 hr hLR hLE hrdn hCW hwv hnw hfn hxs h1a h1b
 go_enter Tryz.func206,Tryz.ntmps206
 go_upto_region 6 with fail
 obtain ⟨W1,hW1⟩:∃ W1,W1=w.setCell ⟨gw,n * 3 + 2,none⟩ (.int .i64 ((rdn:Int) + 1)):=⟨_,rfl⟩
 rw [← hW1] at HW1 d15 d1 d2 d3 d4
 rw [← hW1]
 clear hW1
 have e15:=cell_regrown d15
 have e1:=cell_regrown d1
 have e2:=cell_regrown d2
 refine wp_region_quiet_below (by kernel_rfl) (by kernel_rfl) ?_
 repeat (go_big_quiet_step (fail))
 refine wpQuiet_nil ?_
 intro _ hw'
 obtain ⟨⟨dq,osq⟩,hw''⟩:=hw'
 subst hw''
 obtain ⟨h2a,h2b⟩:=HW1.out _ (below_regrown W1 dq osq)
 generalize Sort.grow (redrawn W1 dq) osq=w3 at *
 clear e15 e1 e2 d15 d1 d2 d3 d4
 obtain ⟨f15,f1,f2,f3,f4⟩:=FC.out w3 h2a h2b
 by_cases hlt:rdn + 1 < fan
 ·have HFR:=hide (FR.out w3 h2a h2b)
  have hlt2:(rdn:Int) + 1 < (fan:Int):=by omega
  clear h2a h2b
  go_wp2_with fail
  go_ret2
  exact ⟨_,LR,rfl,Or.inl ⟨hlt,rfl,rfl⟩,HFR.out⟩
 ·have CEN:=hide (FE.out w3 h2a h2b hlt)
  have hlt2:¬ (rdn:Int) + 1 < (fan:Int):=by omega
  clear h2a h2b
  go_wp2_with (first
   | (go_at_call 252;refine CEN.out.mono ?_;rintro e W8 ⟨rfl,hfin⟩;have HFIN:=hide hfin;clear hfin))
  go_ret2
  exact ⟨_,LE,rfl,Or.inr ⟨hlt,rfl,rfl⟩,HFIN.out⟩
end Go.Proofs.YtkncboinfcnklaaGreatDoor.Rl
