import Derived.Test.YtkncboinfcnklaaGreatDoorQ12
namespace Go.Proofs.YtkncboinfcnklaaGreatDoor
open Go.RowKit Go.Deep Go.Proofs.YtkncboinfcnklaaGreatDoor.Mth
theorem Laid.trans {w w1 w2:World} {ρ ρ1:Nat→Nat} {B N lb:Nat} {G:Gh} {L:Lg} {wl1:Nat→Value} {ks ks':List Wk} (h2:LStp w w1 ρ ρ1) (h3:∀ g,ρ g≠0→ρ1 g=ρ g) (h4:Same w w1 ρ (fun c=>c=3)) (h:Laid w1 w2 ρ1 B N lb { G with wl:=wl1 } { L with wks:=ks } ks'):Laid w w2 ρ B N lb G L ks':=by
 obtain ⟨⟨ρ2,wl2,r1,r2,r3,r4⟩⟩:=h
 exact ⟨⟨ρ2,wl2,r1,h2.trans r2,fun g q=>(r3 g (by rw [h3 g q];exact q)).trans (h3 g q),h4.trans (by omega) h3 r4⟩⟩
theorem layOne_no {fan:Nat} {n:Nat→Nat} {ks:List Wk} {i:Nat} (h:¬ fan≤n i∨hasT ks i=true):layOne fan n ks i=ks:=by
 unfold layOne
 rw [if_neg]
 rintro ⟨h1,h2⟩
 rcases h with h | h
 ·exact h h1
 ·rw [h] at h2;cases h2
theorem list_grow_own {w:World} {ρ:Nat→Nat} {B N lb:Nat} {G:Gh} {L:Lg} (h:LogX w ρ B N lb G L) {q:Nat} (hq:q < L.wks.length):∃ a c,G.wl q=.slice a (L.wks.getD q wk0).list.length c∧(L.wks.getD q wk0).list.length≤c∧c≤maxLen∧(L.wks.getD q wk0).list.length≤5:=by
 obtain ⟨a,c,h1,h2,h3⟩:=own_slice (h.k.lst q hq)
 exact ⟨a,c,h1,h2,h3,wk_len (h.k.ok q hq)⟩
set_option maxRecDepth 100000 in
set_option maxHeartbeats 8000000 in
theorem layTasks_any {w:World} {ρ:Nat→Nat} {B N lb:Nat} {G:Gh} {L:Lg} (h:LogX w ρ B N lb G L) (hB:B≤w.heap.size) (_hfan:L.fan≤4) (hlv:∀ i,i < 6→(L.lev i).length≤4000000) :
  Calls Tryz.prog 61 #[ptrV lb] w fun e w'=>e=.returned (.tuple #[])∧Laid w w' ρ B N lb G L (layTo L.fan (fun i=>(L.lev i).length) L.wks 5):=by
 obtain ⟨i0,hi0,hz0,hz1,hz2⟩:=info_parts Tryz.info137
 have H0:=hide h
 have HLV:=hide hlv
 clear h hlv
 go_enter Tryz.func61,Tryz.ntmps61
 go_wp2_with fail
 go_loopw [5] (fun i wr=>∃ k:Nat,k≤5∧i=.int .i64 k∧Laid w wr ρ B N lb G L (layTo L.fan (fun i=>(L.lev i).length) L.wks k)) (fun i _=>5 - (intOf i).toNat)
 case atStart=>exact ⟨0,by omega,rfl,Laid.of_below H0.out (Below.refl _ _) rfl⟩
 case round=>
  obtain ⟨k,hk,rfl,hL⟩:=hrel
  by_cases hlt:k < 5
  ·obtain ⟨⟨ρ1,wl1,hx,hst,hkp,hsm⟩⟩:=hL
   have hlt1:=hx.lt
   generalize hks:layTo L.fan (fun i=>(L.lev i).length) L.wks k=ks at *
   have HNX:Hid (layTo L.fan (fun i=>(L.lev i).length) L.wks (k + 1)=layOne L.fan (fun i=>(L.lev i).length) ks k):=by show _=_;rw [layTo,hks]
   have hBr:B≤wr.heap.size:=Nat.le_trans hB hst.tch.size
   obtain ⟨W1,hW1⟩:∃ W1,W1=wr.alloc (Obj.cells #[.int .i64 (k:Int), .int .i64 ((k:Int) + 1)] 137):=⟨_,rfl⟩
   have hb1:Below wr.heap.size wr W1:=by rw [hW1];exact below_allocG wr _
   have htb:W1.heap[wr.heap.size]? = some (Obj.cells #[.int .i64 (k:Int), .int .i64 ((k:Int) + 1)] 137 (0,0)):=by rw [hW1];exact new_blk wr _ _
   have hx1:=hx.below hb1
   obtain ⟨ak,ck,hlr,hck,hmk⟩:=own_slice (hx1.v.row k (by omega))
   have hlk:(G.bs k).length=(L.lev k).length:=hx1.v.len k (by omega)
   obtain ⟨d8,_⟩:=cell_of (j:=8 + k) hx1.b.blk (lgC_lr _ _ k (by omega))
   have d8':W1.cell? ⟨lb,8 + k,none⟩=some (.slice ak (L.lev k).length ck):=by rw [d8];show some (G.lr k)=_;rw [← hlk];exact congrArg some hlr
   obtain ⟨d1,_⟩:=cell_of (j:=1) (u:=.int .i64 (L.fan:Int)) hx1.b.blk rfl
   obtain ⟨d14,_⟩:=cell_of (j:=14) (u:=G.wr) hx1.b.blk rfl
   obtain ⟨t0,_⟩:=cell_of (j:=0) (u:=.int .i64 (k:Int)) htb rfl
   obtain ⟨t1,_⟩:=cell_of (j:=1) (u:=.int .i64 ((k:Int) + 1)) htb rfl
   have CH:Hid (∀ d os,_):=fun d os=>Calls.regrown_of (w:=W1) (d:=d) (os:=os) ((hasTask_any ((hx1.below (below_regrown W1 d os)).wksRd) (cell_regrown d14 d os) k (by omega)).mono fun e w' q=>⟨q.1,q.2⟩)
   have e8:=cell_regrown d8'
   have e1:=cell_regrown d1
   have r0:=cell_regrown t0
   have r1:=cell_regrown t1
   have HLN:=hide (HLV.out k (by omega))
   have HX1:=hide hx1
   have HB1:=hide hb1
   have HST:=hide hst
   have HKP:=hide hkp
   have HSM:=hide hsm
   have HLT1:=hide hlt1
   have HTB:=hide htb
   have HW1:=hide hW1
   have hk6:(k:Int) < 6:=by omega
   have HHT:Hid (hasT ks k=(ks.any fun k'=>tkIn k' k)):=rfl
   clear d8 d8' d1 d14 t0 t1 hx1 hb1 hst hkp hx htb hW1 hlr hlk hsm hlt1
   have HFIN:Hid (∀ dq osq,Laid w (Sort.grow (redrawn W1 dq) osq) ρ B N lb G L ks):=by
    intro dq osq
    have hx2:=HX1.out.below (below_regrown W1 dq osq)
    have hb2:=HB1.out.trans ((below_regrown W1 dq osq).mono HB1.out.size)
    exact ⟨⟨ρ1,wl1,hx2,HST.out.below hb2,HKP.out,HSM.out.trans (by omega) HKP.out (Same.below HLT1.out (by omega) hb2)⟩⟩
   by_cases hf:L.fan≤(L.lev k).length
   ·have hd2:decide ((L.fan:Int)≤((L.lev k).length:Int))=true:=decide_eq_true (by omega)
    cases hht:hasT ks k
    ·rw [HHT.out] at hht
     have HF:=hide hf
     have HH:=hide hht
     simp only [hht] at CH
     clear hht
     have hq:k % ks.length < ks.length:=Nat.mod_lt _ HX1.out.k.few.1
     have hkl:ks.length≤4:=HX1.out.k.few.2
     have hkp:0 < ks.length:=HX1.out.k.few.1
     have HR5:Hid (∀ W,Below W1.heap.size W1 W→∃ gw cw,G.wr=.slice (some ⟨gw,0,none⟩) ks.length cw∧ks.length≤cw∧cw≤maxLen∧W.cell? ⟨lb,14,none⟩=some G.wr∧W.cell? ⟨gw,k % ks.length,none⟩=some (ptrV (G.wb.getD (k % ks.length) 0))):=by
      intro W hW
      have hxW:=HX1.out.below hW
      have hrw:=hxW.k.row
      have hln:G.wb.length=ks.length:=hxW.k.len
      obtain ⟨aw,cw,hwr,hcw,hmw⟩:=own_slice hrw
      have hwr2:G.wr=.slice aw G.wb.length cw:=hwr
      have hrw2:W.ownsRow B 140 1 G.wr G.wb.length (G.wb.map ptrV):=hrw
      rw [hwr2] at hrw2
      obtain ⟨gw,rfl⟩:=own_some hrw2 (by omega)
      refine ⟨gw,cw,by rw [← hln];exact hwr2,by rw [← hln];exact hcw,hmw,(cell_of (j:=14) hxW.b.blk rfl).1,?_⟩
      refine own_get hrw2 ?_
      rw [List.getElem?_map,List.getElem?_eq_getElem (by rw [hln];exact hq)]
      simp [List.getD,hln,hq]
     obtain ⟨gw,cw,hwr,hcw,hmw,_,_⟩:=HR5.out W1 (Below.refl _ _)
     unfold maxLen at hmw
     have HYES:Hid (∀ w3 v5 W5,Below W1.heap.size W1 w3→W5.ownsRow B 137 2 v5 ((ks.getD (k % ks.length) wk0).list.length + 1) ((ks.getD (k % ks.length) wk0).list.flatMap tkC ++ tkC k)→(w3.alloc (Obj.cells #[.int .i64 (k:Int), .int .i64 ((k:Int) + 1)] 137)).grownBy W5 (wl1 (k % ks.length)).ownBlock→(v5.ownBlock=(wl1 (k % ks.length)).ownBlock∨v5.ownBlock=some (w3.alloc (Obj.cells #[.int .i64 (k:Int), .int .i64 ((k:Int) + 1)] 137)).heap.size)→Laid w (W5.setCell ⟨G.wb.getD (k % ks.length) 0,1,none⟩ v5) ρ B N lb G L (layTo L.fan (fun i=>(L.lev i).length) L.wks (k + 1))∧W5.cell? ⟨G.wb.getD (k % ks.length) 0,1,none⟩=some (wl1 (k % ks.length))∧W5.frozen? ⟨G.wb.getD (k % ks.length) 0,1,none⟩=false):=by
      intro w3 v5 W5 hb3 o5 g6 n5
      have hx3:=HX1.out.below hb3
      have hb13:=HB1.out.trans (hb3.mono HB1.out.size)
      rw [HNX.out]
      refine ⟨Laid.trans (HST.out.below hb13) HKP.out (HSM.out.trans (by omega) HKP.out (Same.below HLT1.out (by omega) hb13)) (lay_round hx3 (Nat.le_trans hBr hb13.size) hlt HF.out HH.out o5 g6 n5),?_⟩
      have hne:some (G.wb.getD (k % ks.length) 0)≠(wl1 (k % ks.length)).ownBlock:=fun e=>by
       obtain ⟨_,_,D,hD⟩:=own_block (hx3.k.lst _ hq) e
       exact cells_ne (hx3.k.one _ hq) hD (by decide) rfl
      exact cell_of (j:=1) (beside g6 (hx3.k.one _ hq) hne) rfl
     have HOW:Hid (∀ w3,Below W1.heap.size W1 w3→w3.ownsRow B 137 2 (wl1 (k % ks.length)) (ks.getD (k % ks.length) wk0).list.length ((ks.getD (k % ks.length) wk0).list.flatMap tkC)∧w3.cell? ⟨G.wb.getD (k % ks.length) 0,1,none⟩=some (wl1 (k % ks.length))∧w3.cell? ⟨wr.heap.size,0,none⟩=some (.int .i64 (k:Int))∧w3.cell? ⟨wr.heap.size,1,none⟩=some (.int .i64 ((k:Int) + 1))∧B≤w3.heap.size):=by
      intro w3 hb3
      have hx3:=HX1.out.below hb3
      have ht3:=(hb3.block _ (Array.getElem?_eq_some_iff.1 HTB.out).1).trans HTB.out
      have hb13:=HB1.out.trans (hb3.mono HB1.out.size)
      exact ⟨hx3.k.lst _ hq,(cell_of (j:=1) (hx3.k.one _ hq) rfl).1,(cell_of (j:=0) ht3 rfl).1,(cell_of (j:=1) ht3 rfl).1,Nat.le_trans hBr hb13.size⟩
     obtain ⟨al,cl,hwl,hcl,hml,hl5⟩:=list_grow_own HX1.out hq
     have hwl2:wl1 (k % ks.length)=.slice al (ks.getD (k % ks.length) wk0).list.length cl:=hwl
     rw [hwl2] at HYES HOW
     have hl5':(ks.getD (k % ks.length) wk0).list.length≤5:=hl5
     have hcl':(ks.getD (k % ks.length) wk0).list.length≤cl:=hcl
     unfold maxLen at hml
     clear hwl hwl2 HX1 HST HKP hl5 hcl HNX HFIN HB1
     generalize hnk:(L.lev k).length=nk at *
     generalize (ks.getD (k % ks.length) wk0).list.flatMap tkC=xs at *
     generalize (ks.getD (k % ks.length) wk0).list.length=ln at *
     generalize hkk:layTo L.fan (fun i=>(L.lev i).length) L.wks (k + 1)=kk at *
     have HKK:=hide hkk
     clear hkk
     generalize G.wb.getD (k % ks.length) 0=wbq at *
     have hrem:(k:Int) % (ks.length:Int)=((k % ks.length:Nat):Int):=by omega
     generalize hqq:k % ks.length=q at *
     generalize ks.length=nks at *
     rw [hwr] at HR5
     go_wp2_with fail
     rw [← HW1.out]
     refine wp_region_quiet_below (by kernel_rfl) (by kernel_rfl) ?_
     repeat (go_big_quiet_step (first | (go_at_call 99;exact CH.out _ _)))
     refine wpQuiet_nil ?_
     intro _ hw'
     obtain ⟨⟨dq,osq⟩,hw''⟩:=hw'
     subst hw''
     have hb2:=below_regrown W1 dq osq
     generalize Sort.grow (redrawn W1 dq) osq=w2 at *
     obtain ⟨_,_,hsl,_,_,c14,cq⟩:=HR5.out w2 hb2
     injection hsl with hsl1 hsl2 hsl3
     injection hsl1 with hsl1
     injection hsl1 with hsl1
     subst hsl1 hsl3
     have HB2:=hide hb2
     clear hb2 e8 e1 r0 r1 CH
     go_wp2_with fail
     go_quiet (fail)
     have hb3:Below W1.heap.size W1 (w2.drewN nq):=HB2.out.trans ((drewG w2 nq).mono HB2.out.size)
     generalize w2.drewN nq=w3 at *
     obtain ⟨ho3,c1,t0,t1,hB3⟩:=HOW.out w3 hb3
     have HO3:=hide ho3
     have HB3:=hide hb3
     have b3:=below_allocG w3 (Obj.cells #[.int .i64 (k:Int), .int .i64 ((k:Int) + 1)] 137)
     have c1':=(b3.cell (p:=⟨wbq,1,none⟩) (World.block_lt_of_cell? _ _ c1)).trans c1
     clear ho3 hb3 b3 c14 cq
     go_wp2_with fail
     go_region_law (refine step_own_at _ rfl _ _ 135 rfl B 137 i0 (.agg #[.int .i64 0, .int .i64 0]) 2 16 Tryz.underlying135 hi0 hz0 hz1 hz2 rfl (by decide) _ _ _ rfl (by exact HO3.out.alloc _) ⟨w3.heap.size,0,none⟩ 1 1 [.int .i64 (k:Int), .int .i64 ((k:Int) + 1)] rfl rfl (by exact cells_new w3.drew _ _ _ rfl) (by intro u hu;simp at hu;rcases hu with rfl | rfl <;> rfl) (by unfold maxLen;omega) (by omega) (by simp;omega) ?_;intro v5 W5 o5 g5 n5;obtain ⟨a5,c5,rfl,_,_⟩:=own_slice o5;have g6:(w3.alloc (Obj.cells #[.int .i64 (k:Int), .int .i64 ((k:Int) + 1)] 137)).grownBy W5 (Value.slice al ln cl).ownBlock:=⟨g5.os,g5.tape,g5.output,g5.size,g5.block⟩;obtain ⟨hla,fb,ff⟩:=HYES.out w3 _ W5 HB3.out o5 g6 n5;have HLA:=hide hla;clear o5 g5 g6 n5 hla)
     all_goals (
      go_wp2
      go_roundw
      case rel=>exact ⟨k + 1,by omega,by go_num,by rw [HKK.out];exact HLA.out⟩
      case measure=>simp [intOf];omega)
    ·have HNO:Hid (layTo L.fan (fun i=>(L.lev i).length) L.wks (k + 1)=ks):=by show _=_;rw [HNX.out,layOne_no (Or.inr hht)]
     rw [HHT.out] at hht
     have CH2:Hid (∀ d os,_):=fun d os=>CH.out d os
     simp only [hht] at CH
     clear hht CH2
     clear HX1
     generalize (L.lev k).length=nk at *
     generalize L.fan=fan at *
     go_wp2_with fail
     rw [← HW1.out]
     refine wp_region_quiet_below (by kernel_rfl) (by kernel_rfl) ?_
     repeat (go_big_quiet_step (first | (go_at_call 99;exact CH.out _ _)))
     refine wpQuiet_nil ?_
     intro _ hw'
     obtain ⟨⟨dq,osq⟩,hw''⟩:=hw'
     subst hw''
     go_wp2
     go_roundw
     case rel=>exact ⟨k + 1,by omega,by go_num,by rw [HNO.out];exact HFIN.out _ _⟩
     case measure=>simp [intOf];omega
   ·have HNO:Hid (layTo L.fan (fun i=>(L.lev i).length) L.wks (k + 1)=ks):=by show _=_;rw [HNX.out,layOne_no (Or.inl hf)]
    have hd:¬ (L.fan:Int)≤((L.lev k).length:Int):=by omega
    have hd2:decide ((L.fan:Int)≤((L.lev k).length:Int))=false:=decide_eq_false hd
    clear HX1
    generalize (L.lev k).length=nk at *
    generalize L.fan=fan at *
    go_wp2_with fail
    rw [← HW1.out]
    refine wp_region_quiet_below (by kernel_rfl) (by kernel_rfl) ?_
    repeat (go_big_quiet_step (first | (go_at_call 99;exact CH.out _ _)))
    refine wpQuiet_nil ?_
    intro _ hw'
    obtain ⟨⟨dq,osq⟩,hw''⟩:=hw'
    subst hw''
    go_wp2
    go_roundw
    case rel=>exact ⟨k + 1,by omega,by go_num,by rw [HNO.out];exact HFIN.out _ _⟩
    case measure=>simp [intOf];omega
  ·have hke:k=5:=by omega
   subst hke
   go_wp2
   go_end0
   exact ⟨rfl,hL⟩
end Go.Proofs.YtkncboinfcnklaaGreatDoor

namespace Go.Proofs.YtkncboinfcnklaaGreatDoor
open Go.RowKit Go.Deep Go.Proofs.YtkncboinfcnklaaGreatDoor.Mth
def rel34 (ρ:Nat→Nat) (g:Nat):Nat:=if ρ g=3 then 4 else ρ g
theorem rel34_ne {ρ:Nat→Nat} {g:Nat} (h:ρ g≠3):rel34 ρ g=ρ g:=if_neg h
theorem LogAt.toSeg {w:World} {ρ:Nat→Nat} {B N lb:Nat} {G:Gh} {L:Lg} (h:LogAt w ρ B N lb G L):LogX w (rel34 ρ) B N lb G L∧(∀ k,ownS G.ms G.mm G.me k→rel34 ρ k=4)∧(∀ i,i < 6→¬ G.ms ∈ G.bs i)∧LStp w w ρ (rel34 ρ):=by
 refine ⟨⟨LHd.role (ρ:=ρ) h.x.b (fun g q=>(rel34_ne (by omega)).trans q),LJ.role (ρ:=ρ) h.x.j (fun g q=>(rel34_ne (by omega)).trans q),LV.role (ρ:=ρ) h.x.v (fun g q=>rel34_ne (by rcases q with q | ⟨i,_,q⟩ <;> omega)),LW.role (ρ:=ρ) h.x.k (fun g q=>rel34_ne (by rcases q with q | ⟨i,_,q⟩ <;> omega)),LT.role (ρ:=ρ) h.x.t (fun g q=>(rel34_ne (by omega)).trans q),fun k q=>h.x.lt k (fun e=>?_)⟩,fun k q=>if_pos (h.m.rl k q),fun i hi q=>?_,Tch.refl _ _,fun k _ e=>?_⟩
 ·exact q (by rw [rel34_ne (by omega)];exact e)
 ·obtain ⟨j,hj,e⟩:=List.mem_iff_getElem.1 q
  have h4:=h.x.v.rs i hi j hj G.ms (Or.inl (by simp [List.getD,hj,e]))
  have h3:=h.m.rl G.ms (Or.inl rfl)
  omega
 ·rw [rel34_ne (by omega)];exact e
theorem LogX.newMem {w w':World} {ρ:Nat→Nat} {B N lb:Nat} {G:Gh} {L:Lg} (h:LogX w ρ B N lb G L) (hB:B≤w.heap.size) {s mb:Nat} {es:List Ent} {ev:Value} (hn:NewSeg w w' B s es ev mb) :
  ∃ ρ',LogAt (w'.setCell ⟨lb,7,none⟩ (ptrV s)) ρ' B N lb { G with ms:=s,mm:=mb,me:=ev } { L with mem:=es }∧LStp w (w'.setCell ⟨lb,7,none⟩ (ptrV s)) ρ ρ':=by
 have hx:=h.below hn.bel
 have hk:=ext_keep (P:=ownS s mb ev) (c:=3) h.lt
 have xb:=LHd.role (ρ:=ρ) hx.b (fun g q=>(hk g (by omega)).trans q)
 have xj:=LJ.role (ρ:=ρ) hx.j (fun g q=>(hk g (by omega)).trans q)
 have xv:=LV.role (ρ:=ρ) hx.v (fun g q=>hk g (by rcases q with q | ⟨i,_,q⟩ <;> omega))
 have xk:=LW.role (ρ:=ρ) hx.k (fun g q=>hk g (by rcases q with q | ⟨i,_,q⟩ <;> omega))
 have xt:=LT.role (ρ:=ρ) hx.t (fun g q=>(hk g (by omega)).trans q)
 have hlt:=ext_lt (P:=ownS s mb ev) (c:=3) h.lt hn.bel.size hB (fun k q=>(hn.seg.ownLt q).1)
 obtain ⟨r1,r2⟩:=head_set (N:=N) (G':={ G with ms:=s,mm:=mb,me:=ev }) (L':={ L with mem:=es }) xb hlt 7 (ptrV s) rfl ⟨xj.j,xj.rl⟩ ⟨xv.row,xv.len,xv.seg,xv.rr,xv.rs⟩ ⟨xk.row,xk.len,xk.one,xk.lst,xk.ok,xk.few,xk.ge,xk.rw,xk.rb,xk.rl⟩ ⟨xt.map,xt.rl,xt.ge⟩
 have hlbw:lb < w.heap.size:=(h.lt lb (by rw [h.b.rl];omega)).1
 refine ⟨_,⟨r1,⟨hn.seg.same (fun g q=>set_other (fun e=>?_)),fun k q=>ext_new (hn.new k q) q⟩⟩,(⟨tch_below hn.bel,fun k hk2 e=>by rw [ext_old hk2];exact e⟩:LStp w w' ρ _).trans r2⟩
 subst e
 rcases q with q | q
 ·have:=hn.new g q
  omega
 ·exact notN xb.blk (by decide) q
theorem Laid.log {w w':World} {ρ:Nat→Nat} {B N lb:Nat} {G:Gh} {L:Lg} {ks:List Wk} (h:LM w ρ B G L) (hl:Laid w w' ρ B N lb G L ks):∃ ρ' wl',LogAt w' ρ' B N lb { G with wl:=wl' } { L with wks:=ks }∧LStp w w' ρ ρ':=by
 obtain ⟨⟨ρ',wl',r1,r2,r3,r4⟩⟩:=hl
 have xm:=LM.role (ρ':=ρ') (h.same r4) (fun g q=>(r3 g (by omega)).trans q)
 exact ⟨ρ',wl',⟨r1,⟨xm.seg,xm.rl⟩⟩,r2⟩
def Lg.roll (L:Lg):Lg:={ L with lev:=fun j=>if j=0 then L.lev j ++ [L.mem] else L.lev j,mem:=[],wks:=layTo L.fan (fun i=>(if i=0 then L.lev i ++ [L.mem] else L.lev i).length) L.wks 5 }
def Lg.more (L:Lg) (e:Ent):Lg:={ L with mem:=L.mem ++ [e] }
def Lg.app (L:Lg) (s:ByteArray):Lg:={ (if L.memory≤L.mem.length then L.roll else L).more ⟨L.count,L.clock,s⟩ with count:=L.count + 1 }
structure GSame (G G':Gh):Prop where
 jb:G'.jb=G.jb
 db:G'.db=G.db
 sb:G'.sb=G.sb
theorem GSame.trans {G G1 G2:Gh} (h1:GSame G G1) (h2:GSame G1 G2):GSame G G2:=⟨h2.jb.trans h1.jb,h2.db.trans h1.db,h2.sb.trans h1.sb⟩
end Go.Proofs.YtkncboinfcnklaaGreatDoor

namespace Go.Proofs.YtkncboinfcnklaaGreatDoor
open Go.RowKit Go.Deep Go.Proofs.YtkncboinfcnklaaGreatDoor.Mth
theorem LStp.box {w w':World} {ρ ρ':Nat→Nat} (h:LStp w w' ρ ρ') {bx:Nat} {D:Obj} (h0:ρ bx=0) (hb:w.heap[bx]? = some D):w'.heap[bx]? = some D∧ρ' bx=0:=by
 have hlt:=(Array.getElem?_eq_some_iff.1 hb).1
 exact ⟨(h.tch.block bx hlt (fun q=>q.1 h0)).trans hb,h.old bx hlt h0⟩
theorem LogAt.free {w:World} {ρ:Nat→Nat} {B N lb:Nat} {G:Gh} {L:Lg} (h:LogAt w ρ B N lb G L) {k:Nat} (hk:w.heap.size≤k):ρ k=0:=by
 by_cases e:ρ k=0
 ·exact e
 ·have:=(h.x.lt k e).1
  omega
set_option maxHeartbeats 1000000 in
theorem append_long {w:World} {ρ:Nat→Nat} {B N lb:Nat} {G:Gh} {L:Lg} (h:LogAt w ρ B N lb G L) (s:ByteArray) (q:G.left≠0) (hs:60 < s.size) (hs2:s.size≤1099511627776) :
  Calls Tryz.prog 26 #[ptrV lb, .string s] w fun e w'=>e=.returned (.tuple #[.int .i64 0, .int .i64 4])∧w'=w:=by
 have CS:=hide (jStopped_any h.x.j.j)
 rw [show (G.left == 0)=false from by simpa using q] at CS
 obtain ⟨c6,_⟩:=cell_of (j:=6) (u:=ptrV G.jb) h.x.b.blk rfl
 clear h q
 have h60:(60:Int) < (s.size:Int):=by omega
 go_enter Tryz.func26,Tryz.ntmps26
 go_wp2_with (first | (go_at_call 56;refine CS.out.mono ?_;rintro e w2 ⟨rfl,hw⟩;rw [hw];clear hw w2))
 go_ret2
 exact ⟨rfl,rfl⟩
set_option maxRecDepth 100000 in
set_option maxHeartbeats 4000000 in
theorem append_busy {w:World} {ρ:Nat→Nat} {B N lb:Nat} {G:Gh} {L:Lg} (h:LogAt w ρ B N lb G L) (s:ByteArray) (q:G.left≠0) (hs:s.size≤60) (hf:L.memory≤L.mem.length) (hb:L.fan + L.back≤(L.lev 0).length) (hfan:L.fan≤4) (hback:L.back≤4) (hlv:(L.lev 0).length≤4000000) :
  Calls Tryz.prog 26 #[ptrV lb, .string s] w fun e w'=>e=.returned (.tuple #[.int .i64 0, .int .i64 5])∧Below w.heap.size w w':=by
 have CS:=hide (jStopped_any h.x.j.j)
 rw [show (G.left == 0)=false from by simpa using q] at CS
 obtain ⟨c6,_⟩:=cell_of (j:=6) (u:=ptrV G.jb) h.x.b.blk rfl
 obtain ⟨c1,_⟩:=cell_of (j:=1) (u:=.int .i64 (L.fan:Int)) h.x.b.blk rfl
 obtain ⟨c2,_⟩:=cell_of (j:=2) (u:=.int .i64 (L.back:Int)) h.x.b.blk rfl
 obtain ⟨a0,k0,hlr,hc0,hm0⟩:=own_slice (h.x.v.row 0 (by omega))
 obtain ⟨c8,_⟩:=cell_of (j:=8) (u:=G.lr 0) h.x.b.blk rfl
 rw [hlr,h.x.v.len 0 (by omega)] at c8
 have CF:Hid (∀ d os,_):=fun d os=>Calls.regrown_of (w:=w) (d:=d) (os:=os) ((isFull_any (h.below (below_regrown w d os))).mono fun e w' q=>⟨q.1,q.2⟩)
 rw [decide_eq_true hf] at CF
 have e1:=cell_regrown c1
 have e2:=cell_regrown c2
 have e8:=cell_regrown c8
 clear h q c1 c2 c8 hlr hc0 hm0
 generalize (L.lev 0).length=nl at *
 generalize L.fan=fan at *
 generalize L.back=back at *
 have hd:decide ((fan:Int) + (back:Int)≤(nl:Int))=true:=decide_eq_true (by omega)
 have hd2:(fan:Int) + (back:Int)≤(nl:Int):=by omega
 have h60:¬ (60:Int) < (s.size:Int):=by omega
 go_enter Tryz.func26,Tryz.ntmps26
 go_wp2_with (first | (go_at_call 56;refine CS.out.mono ?_;rintro e w2 ⟨rfl,hw⟩;rw [hw];clear hw w2))
 refine wp_region_quiet_below (by kernel_rfl) (by kernel_rfl) ?_
 repeat (go_big_quiet_step (first | (go_at_call 57;exact CF.out _ _)))
 refine wpQuiet_nil ?_
 intro _ hw'
 obtain ⟨⟨dq,osq⟩,hw''⟩:=hw'
 subst hw''
 go_wp2
 go_ret2
 exact ⟨rfl,below_regrown w dq osq⟩
end Go.Proofs.YtkncboinfcnklaaGreatDoor

namespace Go.Proofs.YtkncboinfcnklaaGreatDoor
open Go.RowKit Go.Deep Go.Proofs.YtkncboinfcnklaaGreatDoor.Mth
def TabB (B:Nat) (w:World):Prop:=∀ w',Below B w w'→Tab w'
theorem TabB.now {B:Nat} {w:World} (h:TabB B w):Tab w:=h w (Below.refl _ _)
theorem TabB.next {B:Nat} {w w':World} (h:TabB B w) (hb:Below B w w'):TabB B w':=fun w2 h2=>h w2 (hb.trans h2)
structure Apd (w w':World) (ρ:Nat→Nat) (B N lb:Nat) (G:Gh) (L':Lg) (dt:ByteArray) (left:Int):Prop where
 ex:∃ ρ' G',LogAt w' ρ' B N lb G' L'∧LStp w w' ρ ρ'∧GSame G G'∧G'.dt=dt∧G'.left=left
theorem Apd.pre {w w1 w2:World} {ρ ρ1:Nat→Nat} {B N lb:Nat} {G G1:Gh} {L':Lg} {dt:ByteArray} {left:Int} (h1:LStp w w1 ρ ρ1) (hg:GSame G G1) (h:Apd w1 w2 ρ1 B N lb G1 L' dt left):Apd w w2 ρ B N lb G L' dt left:=by
 obtain ⟨⟨ρ',G',r1,r2,r3,r4,r5⟩⟩:=h
 exact ⟨⟨ρ',G',r1,h1.trans r2,hg.trans r3,r4,r5⟩⟩
theorem tail_add {w w':World} {ρ:Nat→Nat} {B N lb:Nat} {G:Gh} {L:Lg} (h:LogAt w ρ B N lb G L) (hB:B≤w.heap.size) {e:Ent} {me':Value} (hm:SegStp w w' B G.ms G.mm G.me (L.mem ++ [e]) me'):Apd w w' ρ B N lb G (L.more e) G.dt G.left:=by
 obtain ⟨ρ',r1,r2⟩:=h.mStep hB hm
 exact ⟨⟨ρ',_,r1,r2,⟨rfl,rfl,rfl⟩,rfl,rfl⟩⟩
set_option maxRecDepth 100000 in
set_option maxHeartbeats 4000000 in
theorem add_arm {w:World} {ρ:Nat→Nat} {B N lb bx:Nat} {G:Gh} {L:Lg} (h:LogAt w ρ B N lb G L) (hB:B≤w.heap.size) (ht:Tab w) (e:Ent) (hx:e.text.size≤60) (hl:L.mem.length≤1048576) (hbx:w.heap[bx]? = some (Obj.cells #[.int .i64 e.seq, .int .i64 e.time, .string e.text] 66 (0,0))) (h0:ρ bx=0) :
  Calls Tryz.prog 62 #[ptrV G.ms,eV e] w fun r w'=>r=.returned (.tuple #[])∧Apd w w' ρ B N lb G (L.more e) G.dt G.left∧w'.cell? ⟨bx,0,none⟩=some (.int .i64 e.seq):=by
 refine (addSeg_any h.m.seg hB ht e hx hl).mono ?_
 rintro r w' ⟨rfl,ev',hs⟩
 refine ⟨rfl,tail_add h hB hs,?_⟩
 obtain ⟨ρ',_,r2⟩:=h.mStep hB hs
 exact (cell_of (j:=0) (r2.box h0 hbx).1 rfl).1
theorem roll_fin {w w':World} {ρ:Nat→Nat} {B N lb:Nat} {G:Gh} {L:Lg} {ks:List Wk} (h:LogAt w ρ B N lb G L) (hl:Laid w w' ρ B N lb G L ks):∃ ρ' G',LogAt w' ρ' B N lb G' { L with wks:=ks }∧LStp w w' ρ ρ'∧GSame G G'∧G'.dt=G.dt∧G'.left=G.left∧G'.ms=G.ms:=by
 obtain ⟨ρ',wl',r1,r2⟩:=hl.log h.m
 exact ⟨ρ',_,r1,r2,⟨rfl,rfl,rfl⟩,rfl,rfl,rfl⟩
set_option maxRecDepth 100000 in
set_option maxHeartbeats 8000000 in
theorem append_ok {w:World} {ρ:Nat→Nat} {B N lb:Nat} {G:Gh} {L:Lg} (h:LogAt w ρ B N lb G L) (hB:B≤w.heap.size) (ht:TabB B w) (s:ByteArray) (q0:G.left≠0) (q1:G.left≠1) (q2:-1≤G.left) (q3:G.left < 9223372036854775808) (hs:s.size≤60) (hn:¬ (L.memory≤L.mem.length∧L.fan + L.back≤(L.lev 0).length)) (hfan:L.fan≤4) (hback:L.back≤4) (hlv:∀ i,i < 6→(L.lev i).length < 4000000) (hd:G.dt.size≤1099511627776) (hct:L.count≤1000000000000) (hml:L.mem.length≤1048576) :
  Calls Tryz.prog 26 #[ptrV lb, .string s] w fun e w'=>e=.returned (.tuple #[.int .i64 (L.count:Int), .int .i64 0])∧Apd w w' ρ B N lb G (L.app s) (G.dt ++ recB 0 s) (decL (decL G.left)):=by
 have CS:=hide (jStopped_any h.x.j.j)
 rw [show (G.left == 0)=false from by simpa using q0] at CS
 obtain ⟨c6,_⟩:=cell_of (j:=6) (u:=ptrV G.jb) h.x.b.blk rfl
 obtain ⟨c1,_⟩:=cell_of (j:=1) (u:=.int .i64 (L.fan:Int)) h.x.b.blk rfl
 obtain ⟨c2,_⟩:=cell_of (j:=2) (u:=.int .i64 (L.back:Int)) h.x.b.blk rfl
 obtain ⟨a0,k0,hlr,hc0,hm0⟩:=own_slice (h.x.v.row 0 (by omega))
 obtain ⟨c8,_⟩:=cell_of (j:=8) (u:=G.lr 0) h.x.b.blk rfl
 rw [hlr,h.x.v.len 0 (by omega)] at c8
 have CF:Hid (∀ d os,_):=fun d os=>Calls.regrown_of (w:=w) (d:=d) (os:=os) ((isFull_any (h.below (below_regrown w d os))).mono fun e w' q=>⟨q.1,q.2⟩)
 have e1:=cell_regrown c1
 have e2:=cell_regrown c2
 have e8:=cell_regrown c8
 have CL:Hid (∀ w1,Below w.heap.size w w1→w1.cell? ⟨lb,6,none⟩=some (ptrV G.jb)∧Calls Tryz.prog 58 #[ptrV G.jb, .string s] w1 fun e w2=>e=.returned (.tuple #[.agg #[.int .i64 (L.count:Int), .int .i64 (L.clock:Int), .string s], .bool true])∧∃ ρ2 G2,LogAt w2 ρ2 B N lb G2 { L with count:=L.count + 1 }∧LStp w w2 ρ ρ2∧GSame G G2∧G2.dt=G.dt ++ recB 0 s∧G2.left=decL (decL G.left)):=by
  intro w1 hb1
  have h1:=h.below hb1
  refine ⟨(cell_of (j:=6) h1.x.b.blk rfl).1,(jLay_yes h1.x.j.j (Nat.le_trans hB hb1.size) q2 q3 q0 q1 s hs hd hct).mono ?_⟩
  rintro e w2 ⟨rfl,fv',hj⟩
  obtain ⟨ρ2,r1,r2⟩:=h1.jStep (Nat.le_trans hB hb1.size) hj
  exact ⟨rfl,ρ2,_,r1,LStp.pre hb1 r2,⟨rfl,rfl,rfl⟩,rfl,rfl⟩
 have HT:Hid (∀ w' ρ',LStp w w' ρ ρ'→Below B w w'):=fun w' ρ' hw=>below_lstp (Below.refl B w) hw h.x.lt hB
 have HTB:=hide ht
 have h60:¬ (60:Int) < (s.size:Int):=by omega
 have HLT:=hide h.x.lt
 clear h q0 q1 q2 q3 hd hct c1 c2 c8 hlr hc0 hm0 ht
 by_cases hf:L.memory≤L.mem.length
 ·rw [decide_eq_true hf] at CF
  have hnl:¬ L.fan + L.back≤(L.lev 0).length:=fun q=>hn ⟨hf,q⟩
  have hd2:¬ (L.fan:Int) + (L.back:Int)≤((L.lev 0).length:Int):=by omega
  have hd3:decide ((L.fan:Int) + (L.back:Int)≤((L.lev 0).length:Int))=false:=decide_eq_false hd2
  have hl0:=hlv 0 (by omega)
  have HAPP:Hid (L.app s=({ L.roll with count:=L.count + 1 }:Lg).more ⟨L.count,L.clock,s⟩):=by
   show _=_
   unfold Lg.app
   rw [if_pos hf]
   rfl
  have HF:=hide hf
  have HLV:=hide hlv
  clear hf hn hlv
  go_enter Tryz.func26,Tryz.ntmps26
  go_wp2_with (first | (go_at_call 56;refine CS.out.mono ?_;rintro e w2 ⟨rfl,hw⟩;rw [hw];clear hw w2))
  refine wp_region_quiet_below (by kernel_rfl) (by kernel_rfl) ?_
  repeat (go_big_quiet_step (first | (go_at_call 57;exact CF.out _ _)))
  refine wpQuiet_nil ?_
  intro _ hw'
  obtain ⟨⟨dq,osq⟩,hw''⟩:=hw'
  subst hw''
  obtain ⟨d6,hlay⟩:=CL.out _ (below_regrown w dq osq)
  generalize Sort.grow (redrawn w dq) osq=w1 at *
  have HLAY:=hide hlay
  clear hlay CL CF e1 e2 e8 CS hd2 hd3 hnl
  go_wp2_with fail
  refine HLAY.out.mono ?_
  rintro e w2 ⟨rfl,ρ2,G2,h2,hst2,hgs2,hdt2,hlf2⟩
  have hb3:=below_allocG w2 (Obj.cells #[.int .i64 (L.count:Int), .int .i64 (L.clock:Int), .string s] 66)
  have h3:=h2.below hb3
  have hbx:=new_blk w2 #[.int .i64 (L.count:Int), .int .i64 (L.clock:Int), .string s] 66
  have hst3:=hst2.below hb3
  have CF2:=hide (isFull_any h3)
  rw [show decide (({ L with count:=L.count + 1 }:Lg).memory≤({ L with count:=L.count + 1 }:Lg).mem.length)=true from decide_eq_true HF.out] at CF2
  have hf0:=h2.free (Nat.le_refl _)
  have H3:=hide h3
  have HBX:=hide hbx
  have HST3:=hide hst3
  have HGS:=hide (⟨hgs2,hdt2,hlf2⟩:GSame G G2∧_∧_)
  clear h2 h3 hbx hst2 hst3 hgs2 hdt2 hlf2 hb3 HLAY
  go_wp2_with (first | (go_at_call 57;refine CF2.out.mono ?_;rintro e w4 ⟨rfl,hb4⟩;have HB4:=hide hb4;have k7:=(cell_of (j:=7) (u:=ptrV G2.ms) (H3.out.below hb4).x.b.blk rfl).1;clear hb4))
  have h4:=H3.out.below HB4.out
  have hst4:=HST3.out.below HB4.out
  have hbx4:w4.heap[w2.heap.size]? = some (Obj.cells #[.int .i64 (L.count:Int), .int .i64 (L.clock:Int), .string s] 66 (0,0)):=(HB4.out.block _ (Array.getElem?_eq_some_iff.1 HBX.out).1).trans HBX.out
  obtain ⟨hx4,hr4,hn4,hs4⟩:=h4.toSeg
  have hB4:=(HT.out _ _ hst4).size
  have CP0:=put_log hx4 (Nat.le_trans hB hB4) (i:=0) (by omega) h4.m.seg hr4 hn4 (by show (L.lev 0).length≤4000000;omega)
  rw [show ((0:Nat):Int)=0 from rfl] at CP0
  have CP:=hide CP0
  clear CP0
  have hst4':=hst4.trans hs4
  have hf4:rel34 ρ2 w2.heap.size=0:=by rw [rel34_ne (by omega)];exact hf0
  have HST4:=hide hst4'
  have HBX4:=hide hbx4
  clear h4 hst4 hbx4 hx4 hr4 hn4 hs4 hst4' CF2 H3 HST3 HBX HB4
  refine Calls.mono CP.out ?_
  rintro e w5 ⟨rfl,ρ5,v5,hx5,hst5,_,_⟩
  obtain ⟨hbx5,hf5⟩:=hst5.box hf4 HBX4.out
  have hst5':=HST4.out.trans hst5
  have hBw5:=HT.out _ _ hst5'
  have CN:=hide (newSeg_any w5 B (Nat.le_trans hB hBw5.size) (HTB.out.next hBw5).now (rdE_nil w5) (fun e he=>by cases he) (by simp))
  have HX5:=hide hx5
  have HST5:=hide hst5'
  have HBX5:=hide hbx5
  clear hx5 hst5 hst5' hbx5 CP HST4 HBX4 hf4 k7
  go_wp2_with fail
  refine CN.out.mono ?_
  rintro e w6 ⟨s6,m6,ev6,rfl,hn6⟩
  obtain ⟨j7,f7⟩:=cell_of (j:=7) (u:=ptrV G2.ms) (HX5.out.below hn6.bel).b.blk rfl
  obtain ⟨ρ7,h7,hst7⟩:=HX5.out.newMem (Nat.le_trans hB hBw5.size) hn6
  obtain ⟨hbx7,hf7⟩:=hst7.box hf5 HBX5.out
  have hst7':=HST5.out.trans hst7
  have hBw7:=HT.out _ _ hst7'
  have CT:=hide (layTasks_any h7.x (Nat.le_trans hB hBw7.size) hfan (fun i hi=>by
   show (if i=0 then L.lev i ++ [L.mem] else L.lev i).length≤4000000
   have:=HLV.out i hi
   split
   ·rw [List.length_append,List.length_singleton];omega
   ·omega))
  have H7:=hide h7
  have HST7:=hide hst7'
  have HBX7:=hide hbx7
  clear hn6 h7 hst7 hst7' hbx7 CN HX5 HST5 HBX5 hf5
  go_wp2_with fail
  refine CT.out.mono ?_
  rintro e w8 ⟨rfl,hla8⟩
  obtain ⟨ρ8,G8,h8,hst8,hg8,hdt8,hlf8,hms8⟩:=roll_fin H7.out hla8
  obtain ⟨hbx8,hf8⟩:=hst8.box hf7 HBX7.out
  have hst8':=HST7.out.trans hst8
  have HG8:Hid (GSame G G8∧G8.dt=G.dt ++ recB 0 s∧G8.left=decL (decL G.left)):=⟨⟨hg8.jb.trans HGS.out.1.jb,hg8.db.trans HGS.out.1.db,hg8.sb.trans HGS.out.1.sb⟩,hdt8.trans HGS.out.2.1,hlf8.trans HGS.out.2.2⟩
  have hbb:Below w8.heap.size w8 w8.drew:=⟨rfl,rfl,rfl,Nat.le_refl _,fun _ _=>rfl⟩
  have h8':LogAt w8 ρ8 B N lb G8 { L.roll with count:=L.count + 1 }:=h8
  have hm8:({ L.roll with count:=L.count + 1 }:Lg).mem.length≤1048576:=by show ([]:List Ent).length≤1048576;simp
  generalize ({ L.roll with count:=L.count + 1 }:Lg)=L8 at *
  have h9:=h8'.below hbb
  have hst9:=hst8'.below hbb
  have hbx9:w8.drew.heap[w2.heap.size]? = some (Obj.cells #[.int .i64 (L.count:Int), .int .i64 (L.clock:Int), .string s] 66 (0,0)):=hbx8
  have hBw:=HT.out _ _ hst9
  have CA:=hide (add_arm h9 (Nat.le_trans hB hBw.size) (HTB.out.next hBw).now ⟨L.count,L.clock,s⟩ hs hm8 hbx9 hf8)
  obtain ⟨x0,_⟩:=cell_of (w:=w8) (j:=0) (u:=.int .i64 (L.count:Int)) hbx9 rfl
  obtain ⟨x1,_⟩:=cell_of (w:=w8) (j:=1) (u:=.int .i64 (L.clock:Int)) hbx9 rfl
  obtain ⟨x2,_⟩:=cell_of (w:=w8) (j:=2) (u:=.string s) hbx9 rfl
  obtain ⟨x7,_⟩:=cell_of (w:=w8) (j:=7) (u:=ptrV G8.ms) h9.x.b.blk rfl
  have HST9:=hide hst9
  clear h8 h8' h9 hst8 hst8' hst9 hbx8 hbx9 hBw hbb CT hla8 H7 HST7 HBX7 hg8 hdt8 hlf8 hms8
  go_wp2_with fail
  go_region_with (first
   | (go_at_call 62;refine CA.out.mono ?_;rintro e w9 ⟨rfl,ha9,y0⟩;have HA9:=hide ha9;clear ha9))
  all_goals (
   go_wp2
   go_ret2
   refine ⟨rfl,?_⟩
   rw [HAPP.out]
   have hg:=HG8.out
   have hr:=Apd.pre HST9.out hg.1 HA9.out
   rw [hg.2.1,hg.2.2] at hr
   exact hr)
 ·rw [decide_eq_false hf] at CF
  have HAPP:Hid (L.app s=({ L with count:=L.count + 1 }:Lg).more ⟨L.count,L.clock,s⟩):=by
   show _=_
   unfold Lg.app
   rw [if_neg hf]
   rfl
  have HF:=hide hf
  clear hf hn
  go_enter Tryz.func26,Tryz.ntmps26
  go_wp2_with (first | (go_at_call 56;refine CS.out.mono ?_;rintro e w2 ⟨rfl,hw⟩;rw [hw];clear hw w2))
  refine wp_region_quiet_below (by kernel_rfl) (by kernel_rfl) ?_
  repeat (go_big_quiet_step (first | (go_at_call 57;exact CF.out _ _)))
  refine wpQuiet_nil ?_
  intro _ hw'
  obtain ⟨⟨dq,osq⟩,hw''⟩:=hw'
  subst hw''
  obtain ⟨d6,hlay⟩:=CL.out _ (below_regrown w dq osq)
  generalize Sort.grow (redrawn w dq) osq=w1 at *
  have HLAY:=hide hlay
  clear hlay CL CF e1 e2 e8 CS
  go_wp2_with fail
  refine HLAY.out.mono ?_
  rintro e w2 ⟨rfl,ρ2,G2,h2,hst2,hgs2,hdt2,hlf2⟩
  have hb3:=below_allocG w2 (Obj.cells #[.int .i64 (L.count:Int), .int .i64 (L.clock:Int), .string s] 66)
  have h3:=h2.below hb3
  have hbx:=new_blk w2 #[.int .i64 (L.count:Int), .int .i64 (L.clock:Int), .string s] 66
  have hst3:=hst2.below hb3
  have CF2:=hide (isFull_any h3)
  rw [show decide (({ L with count:=L.count + 1 }:Lg).memory≤({ L with count:=L.count + 1 }:Lg).mem.length)=false from decide_eq_false HF.out] at CF2
  have hf0:=h2.free (Nat.le_refl _)
  have H3:=hide h3
  have HBX:=hide hbx
  have HST3:=hide hst3
  have HGS:=hide (⟨hgs2,hdt2,hlf2⟩:GSame G G2∧_∧_)
  clear h2 h3 hbx hst2 hst3 hgs2 hdt2 hlf2 hb3 HLAY
  go_wp2_with (first | (go_at_call 57;refine CF2.out.mono ?_;rintro e w4 ⟨rfl,hb4⟩;have HB4:=hide hb4;clear hb4))
  have hbb:Below w4.heap.size w4 w4.drew:=⟨rfl,rfl,rfl,Nat.le_refl _,fun _ _=>rfl⟩
  have h4:=(H3.out.below HB4.out).below hbb
  have hb4:=HB4.out.trans (hbb.mono HB4.out.size)
  have hst4:=HST3.out.below hb4
  have hbx4:w4.drew.heap[w2.heap.size]? = some (Obj.cells #[.int .i64 (L.count:Int), .int .i64 (L.clock:Int), .string s] 66 (0,0)):=(hb4.block _ (Array.getElem?_eq_some_iff.1 HBX.out).1).trans HBX.out
  have hBw:=HT.out _ _ hst4
  have CA:=hide (add_arm h4 (Nat.le_trans hB hBw.size) (HTB.out.next hBw).now ⟨L.count,L.clock,s⟩ hs (by show L.mem.length≤1048576;exact hml) hbx4 hf0)
  obtain ⟨x0,_⟩:=cell_of (w:=w4) (j:=0) (u:=.int .i64 (L.count:Int)) hbx4 rfl
  obtain ⟨x1,_⟩:=cell_of (w:=w4) (j:=1) (u:=.int .i64 (L.clock:Int)) hbx4 rfl
  obtain ⟨x2,_⟩:=cell_of (w:=w4) (j:=2) (u:=.string s) hbx4 rfl
  obtain ⟨x7,_⟩:=cell_of (w:=w4) (j:=7) (u:=ptrV G2.ms) h4.x.b.blk rfl
  have HST4:=hide hst4
  clear h4 hb4 hst4 hbx4 hBw hbb CF2
  go_region_with (first
   | (go_at_call 62;refine CA.out.mono ?_;rintro e w5 ⟨rfl,ha5,y0⟩;have HA5:=hide ha5;clear ha5))
  all_goals (
   go_wp2
   go_ret2
   refine ⟨rfl,?_⟩
   rw [HAPP.out]
   have hg:=HGS.out
   have hr:=Apd.pre HST4.out hg.1 HA5.out
   rw [hg.2.1,hg.2.2] at hr
   exact hr)
end Go.Proofs.YtkncboinfcnklaaGreatDoor

namespace Go.Proofs.YtkncboinfcnklaaGreatDoor
open Go.RowKit Go.Deep Go.Proofs.YtkncboinfcnklaaGreatDoor.Mth
def Tab10B (B:Nat) (w:World):Prop:=∀ w',Below B w w'→Tab10 w'
theorem Tab10B.next {B:Nat} {w w':World} (h:Tab10B B w) (hb:Below B w w'):Tab10B B w':=fun w2 h2=>h w2 (hb.trans h2)
set_option maxHeartbeats 1000000 in
theorem tick_no {w:World} {ρ:Nat→Nat} {B N lb:Nat} {G:Gh} {L:Lg} (h:LogAt w ρ B N lb G L) (n:Int) (hc:L.clock≤1000000000000) (hn:canTick L.clock n=false) :
  Calls Tryz.prog 126 #[ptrV lb, .int .i64 n] w fun e w'=>e=.returned (.int .i64 1)∧w'=w:=by
 have CC:=hide (jCan_any h.x.j.j n hc)
 rw [hn] at CC
 obtain ⟨c6,_⟩:=cell_of (j:=6) (u:=ptrV G.jb) h.x.b.blk rfl
 clear h hn
 go_enter Tryz.func126,Tryz.ntmps126
 go_wp2_with (first | (go_at_call 201;refine CC.out.mono ?_;rintro e w2 ⟨rfl,hw⟩;rw [hw];clear hw w2))
 go_ret
 exact ⟨rfl,rfl⟩
set_option maxRecDepth 100000 in
set_option maxHeartbeats 4000000 in
theorem tick_ok {w:World} {ρ:Nat→Nat} {B N lb:Nat} {G:Gh} {L:Lg} (h:LogAt w ρ B N lb G L) (hB:B≤w.heap.size) (ht:Tab10 w) (q0:G.left≠0) (q1:G.left≠1) (q2:-1≤G.left) (q3:G.left < 9223372036854775808) (n:Nat) (hc:L.clock≤1000000000000) (hn:canTick L.clock (n:Int)=true) (hd:G.dt.size≤1099511627776) :
  Calls Tryz.prog 126 #[ptrV lb, .int .i64 (n:Int)] w fun e w'=>e=.returned (.int .i64 0)∧Apd w w' ρ B N lb G { L with clock:=L.clock + n } (G.dt ++ recB 1 (itoaB n)) (decL (decL G.left)):=by
 have CC:=hide (jCan_any h.x.j.j (n:Int) hc)
 have hn1:n≤1000:=by
  unfold canTick at hn
  simp at hn
  omega
 rw [hn] at CC
 have CT:Hid (Calls Tryz.prog 202 #[ptrV G.jb, .int .i64 (n:Int)] w fun e w2=>e=.returned (.bool true)∧Apd w w2 ρ B N lb G { L with clock:=L.clock + n } (G.dt ++ recB 1 (itoaB n)) (decL (decL G.left))):=by
  refine (jTick_yes h.x.j.j hB q2 q3 q0 q1 n hn1 hd hc ht).mono ?_
  rintro e w2 ⟨rfl,fv',hj⟩
  obtain ⟨ρ2,r1,r2⟩:=h.jStep hB hj
  exact ⟨rfl,⟨⟨ρ2,_,r1,r2,⟨rfl,rfl,rfl⟩,rfl,rfl⟩⟩⟩
 obtain ⟨c6,_⟩:=cell_of (j:=6) (u:=ptrV G.jb) h.x.b.blk rfl
 clear h hn ht q0 q1 q2 q3 hd
 generalize (G.dt ++ recB 1 (itoaB n))=dd at *
 generalize ({ L with clock:=L.clock + n }:Lg)=L2 at *
 go_enter Tryz.func126,Tryz.ntmps126
 go_wp2_with (first
  | (go_at_call 201;refine CC.out.mono ?_;rintro e w2 ⟨rfl,hw⟩;rw [hw];clear hw w2)
  | (go_at_call 202;refine CT.out.mono ?_;rintro e w3 ⟨rfl,ha⟩;have HA:=hide ha;clear ha))
 go_ret
 exact ⟨rfl,HA.out⟩
set_option maxHeartbeats 1000000 in
theorem young_any {w:World} {ρ:Nat→Nat} {B N lb:Nat} {G:Gh} {L:Lg} (h:LogX w ρ B N lb G L) (hc:L.clock≤1000000000000) (hk:L.keep≤1000000) :
  Calls Tryz.prog 90 #[ptrV lb] w fun e w'=>e=.returned (.int .i64 ((L.clock:Int) - (L.keep:Int)))∧Below w.heap.size w w':=by
 have CC:Hid (∀ d os,_):=fun d os=>Calls.regrown_of (w:=w) (d:=d) (os:=os) ((jClock_any (h.j.j.below (below_regrown w d os))).mono fun e w' q=>⟨q.1,by rw [q.2];exact Below.refl _ _⟩)
 obtain ⟨c6,_⟩:=cell_of (j:=6) (u:=ptrV G.jb) h.b.blk rfl
 obtain ⟨c4,_⟩:=cell_of (j:=4) (u:=.int .i64 (L.keep:Int)) h.b.blk rfl
 have e6:=cell_regrown c6
 have e4:=cell_regrown c4
 clear h c6 c4
 generalize L.clock=ck at *
 generalize L.keep=kp at *
 go_enter Tryz.func90,Tryz.ntmps90
 go_wp2_with fail
 refine wp_region_quiet_below (by kernel_rfl) (by kernel_rfl) ?_
 repeat (go_big_quiet_step (first | (go_at_call 147;exact CC.out _ _)))
 refine wpQuiet_nil ?_
 intro _ hw'
 obtain ⟨⟨dq,osq⟩,hw''⟩:=hw'
 subst hw''
 go_wp2
 go_ret
 exact ⟨rfl,below_regrown w dq osq⟩
end Go.Proofs.YtkncboinfcnklaaGreatDoor
