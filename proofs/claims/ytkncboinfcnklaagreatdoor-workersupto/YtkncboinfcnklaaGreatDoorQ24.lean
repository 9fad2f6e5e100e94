import Derived.Test.YtkncboinfcnklaaGreatDoorQ23
namespace Go.Proofs.YtkncboinfcnklaaGreatDoor.Rl
open Go.RowKit Go.Deep Go.Shelf Go.Proofs.YtkncboinfcnklaaGreatDoor.Mth
theorem DuI.below {w wr W:World} {B:Nat} {V:Rv} {nw:Nat} {wl:Nat→Value} {ks:List Wk} (h:DuI w wr B V nw wl ks) (hb:Below wr.heap.size wr W):DuI w W B V nw wl ks:=
 ⟨h.len,own_belowR h.row hb,fun q hq=>own_belowR (h.lst q hq) hb,h.dis,h.new,h.tch.trans (tch_below (S:=fun _=>False) hb) (fun _ _ q=>q.elim)⟩
theorem rfC_same {V V':Rv} {L L':Lg} (h1:V'.av=V.av) (h2:V'.mv=V.mv) (h3:V'.lv=V.lv) (h4:V'.wv=V.wv) (h5:V'.tv=V.tv) (e1:L'.memory=L.memory) (e2:L'.fan=L.fan) (e3:L'.back=L.back) (e4:L'.wks.length=L.wks.length) (e5:L'.keep=L.keep) (e6:L'.batch=L.batch) (e7:L'.clock=L.clock) (e8:L'.subs=L.subs):rfC V' L'=rfC V L:=by
 unfold rfC
 rw [h1,h2,h3,h4,h5,e1,e2,e3,e4,e5,e6,e7,e8]
set_option maxRecDepth 100000 in
set_option maxHeartbeats 8000000 in
theorem due_any {w:World} {B cb:Nat} {V:Rv} {L:Lg} (hb:w.heap[cb]? = some (Obj.cells (rfC V L) 234 (0,0))) (hd:DuI w w B V L.wks.length V.wl L.wks) (hlv:∀ i,i < 6→∃ a c,V.lv i=.slice a (L.lev i).length c∧(L.lev i).length≤4194304) (_hfan:L.fan≤1000) (hw:0 < L.wks.length∧L.wks.length≤4) (hB:B≤w.heap.size) (hnd:∀ q,q < L.wks.length→(L.wks.getD q wk0).list.length≤900) :
  Calls Tryz.prog 204 #[ptrV cb] w fun e w'=>e=.returned (.tuple #[])∧∃ wl',DuI w w' B V L.wks.length wl' (layTo L.fan (fun i=>(L.lev i).length) L.wks 5):=by
 obtain ⟨u0,hu0,hv0,hv1,hv2⟩:=info_parts Tryz.infoI
 have HB:=hide hb
 have HD:=hide hd
 have HLV:=hide hlv
 have hcb:cb < w.heap.size:=(Array.getElem?_eq_some_iff.1 hb).1
 have FB:Hid (∀ wr wl ks,DuI w wr B V L.wks.length wl ks→wr.heap[cb]? = some (Obj.cells (rfC V L) 234 (0,0))):=by
  intro wr wl ks h
  refine (h.tch.block cb hcb (fun q=>?_)).trans HB.out
  rcases q with q | ⟨p,hp,q⟩
  ·exact ty_ne HD.out.row HB.out (by decide) q
  ·exact ty_ne (HD.out.lst p hp) HB.out (by decide) q
 have FL:Hid (∀ k,k≤5→∀ q,q < L.wks.length→((layTo L.fan (fun i=>(L.lev i).length) L.wks k).getD q wk0).list.length≤(L.wks.getD q wk0).list.length + k):=by
  intro k
  induction k with
  | zero=>intro _ q hq;simp [layTo]
  | succ k ih=>
   intro hk q hq
   have i1:=ih (by omega) q hq
   rw [layTo]
   generalize hks:layTo L.fan (fun i=>(L.lev i).length) L.wks k=ks at *
   have hl:ks.length=L.wks.length:=by rw [← hks];exact layTo_len _ _ _ _
   unfold layOne
   split
   ·by_cases e:k % ks.length=q
    ·rw [e,List.getD_eq_getElem?_getD,List.getElem?_set_self (by omega)]
     simp only [Option.getD_some,List.length_append,List.length_cons,List.length_nil]
     omega
    ·rw [List.getD_eq_getElem?_getD,List.getElem?_set_ne e,← List.getD_eq_getElem?_getD]
     omega
   ·omega
 have HND:=hide hnd
 clear hb hd hlv hnd
 go_enter Tryz.func204,Tryz.ntmps204
 go_wp2_with fail
 go_loopw [2] (fun i wr=>∃ k:Nat,k≤5∧i=.int .i64 k∧∃ wl,DuI w wr B V L.wks.length wl (layTo L.fan (fun i=>(L.lev i).length) L.wks k)) (fun i _=>5 - (intOf i).toNat)
 case atStart=>exact ⟨0,by omega,rfl,_,HD.out⟩
 case round=>
  obtain ⟨k,hk,rfl,wl,hL⟩:=hrel
  by_cases hlt:k < 5
  ·have hbr:=FB.out _ _ _ hL
   have hfl:=FL.out k (by omega)
   generalize hks:layTo L.fan (fun i=>(L.lev i).length) L.wks k=ks at *
   have HNX:Hid (layTo L.fan (fun i=>(L.lev i).length) L.wks (k + 1)=layOne L.fan (fun i=>(L.lev i).length) ks k):=by show _=_;rw [layTo,hks]
   have hkl:ks.length=L.wks.length:=hL.len
   have hbr2:wr.heap[cb]? = some (Obj.cells (rfC { V with wl:=wl } { L with wks:=ks }) 234 (0,0)):=by
    rw [hbr]
    exact congrArg (fun C=>some (Obj.cells C 234 (0,0))) (rfC_same (V:={ V with wl:=wl }) (V':=V) (L:={ L with wks:=ks }) (L':=L) rfl rfl rfl rfl rfl rfl rfl rfl hkl.symm rfl rfl rfl rfl)
   have hwl2:∀ q,q < ks.length→(ks.getD q wk0).list.length≤1000:=fun q hq=>by
    have h1:=hfl q (by rw [← hkl];exact hq)
    have h2:=HND.out q (by rw [← hkl];exact hq)
    omega
   have CH:=hide (hasR_any (V:={ V with wl:=wl }) (L:={ L with wks:=ks }) (B:=B) hbr2 (by show wr.ownsRow B _ 3 V.wv ks.length (wkRs ks wl V.rd);rw [hkl];exact hL.row) (fun q hq=>hL.lst q (by rw [← hkl];exact hq)) (by show ks.length≤4;omega) hwl2 k (by omega))
   obtain ⟨al,cl,hlk,hln⟩:=HLV.out k (by omega)
   have HC:Hid (∀ W,Below wr.heap.size wr W→W.cell? ⟨cb,9 + k,none⟩=some (.slice al (L.lev k).length cl)∧W.cell? ⟨cb,1,none⟩=some (.int .i64 (L.fan:Int))∧W.cell? ⟨cb,3,none⟩=some (.int .i64 (L.wks.length:Int))∧W.cell? ⟨cb,15,none⟩=some V.wv):=by
    intro W hW
    have hbw:=(hW.block cb (Array.getElem?_eq_some_iff.1 hbr).1).trans hbr
    refine ⟨?_,(cell_of (j:=1) hbw rfl).1,(cell_of (j:=3) hbw rfl).1,(cell_of (j:=15) hbw rfl).1⟩
    have:=(cell_of hbw (rfC_lv V L (show k < 6 by omega))).1
    rw [hlk] at this
    exact this
   have HL:=hide hL
   have HKL:=hide hkl
   have HFL:=hide hfl
   change Hid (Calls _ _ _ _ fun e w'=>e=.returned (.bool (hasT ks k))∧_) at CH
   generalize hht:hasT ks k=ht at *
   have HHT:=hide hht
   clear hL hbr hbr2 hlk hks hkl hfl hht hwl2
   generalize hnk:(L.lev k).length=nk at *
   have HNK:=hide hnk
   clear hnk
   by_cases hf:L.fan≤nk
   ·have hd2:decide ((L.fan:Int)≤(nk:Int))=true:=decide_eq_true (by omega)
    cases ht
    ·have HON:Hid (layOne L.fan (fun i=>(L.lev i).length) ks k=ks.set (k % ks.length) ⟨(ks.getD (k % ks.length) wk0).list ++ [k],(ks.getD (k % ks.length) wk0).runs,(ks.getD (k % ks.length) wk0).read⟩):=by
      show _=_
      unfold layOne
      rw [if_pos ⟨by show L.fan≤(L.lev k).length;rw [HNK.out];exact hf,HHT.out⟩]
     have hrem:(k:Int) % (L.wks.length:Int)=((k % L.wks.length:Nat):Int):=by omega
     have hq:k % L.wks.length < L.wks.length:=Nat.mod_lt _ hw.1
     rw [HKL.out] at HON
     generalize hqq:k % L.wks.length=q at *
     have HQQ:=hide hqq
     clear hqq
     generalize hnw:L.wks.length=nw at *
     have HNW:=hide hnw
     clear hnw
     go_upto_region 4 with (first | (go_at_call 247;refine CH.out.mono ?_;rintro e W2 ⟨rfl,hb2⟩;have HB2:=hide hb2;obtain ⟨m0,m1,m2,m3⟩:=HC.out W2 hb2;clear hb2))
     have e8:=cell_regrown m0
     have e1:=cell_regrown m1
     refine wp_region_quiet_below (by kernel_rfl) (by kernel_rfl) ?_
     repeat (go_big_quiet_step (fail))
     refine wpQuiet_nil ?_
     intro _ hw'
     obtain ⟨⟨dq,osq⟩,hw''⟩:=hw'
     subst hw''
     have hb3:Below wr.heap.size wr (Sort.grow (redrawn W2 dq) osq):=HB2.out.trans ((below_regrown W2 dq osq).mono HB2.out.size)
     generalize Sort.grow (redrawn W2 dq) osq=w3 at *
     clear e8 e1 m0 m1 m2 m3
     obtain ⟨m0,m1,m2,m3⟩:=HC.out w3 hb3
     have hL3:=HL.out.below hb3
     obtain ⟨aw,cw,hwv,hcw,hcm⟩:=own_slice hL3.row
     have hrow3:=hL3.row
     rw [hwv] at hrow3 m3
     obtain ⟨g,rfl⟩:=own_some hrow3 (by omega)
     obtain ⟨r0,_,_⟩:=wkRs_at (ks:=ks) (wl:=wl) (rd:=V.rd) (q:=q) (by rw [HKL.out];exact hq)
     have k0:=own_get hrow3 r0
     have hol:=hL3.lst q hq
     obtain ⟨al2,cl2,hvl,hcl,hcm2⟩:=own_slice hol
     have HOL:=hide hol
     have hflq:=HFL.out q hq
     have hndq:=HND.out q hq
     have hszw:B≤w3.heap.size:=Nat.le_trans hB (Nat.le_trans HL.out.tch.size hb3.size)
     have FN:Hid (∀ W5 v5,(w3.alloc (Obj.cells #[iV k] 3)).grownBy W5 (wl q).ownBlock→W5.ownsRow B 3 1 v5 ((ks.getD q wk0).list.length + 1) ((ks.getD q wk0).list.map iV ++ [iV k])→(v5.ownBlock=(wl q).ownBlock∨v5.ownBlock=some (w3.alloc (Obj.cells #[iV k] 3)).heap.size)→(W5.cell? ⟨cb,15,none⟩=some (.slice (some ⟨g,0,none⟩) nw cw)∧W5.cell? ⟨g,q * 3,none⟩=some (wl q)∧W5.frozen? ⟨g,q * 3,none⟩=false)∧∃ wl',DuI w (W5.setCell ⟨g,q * 3,none⟩ v5) B V nw wl' (layTo L.fan (fun i=>(L.lev i).length) L.wks (k + 1))):=by
      intro W5 v5 g5 o5 n5
      obtain ⟨h1,h2⟩:=hL3.add hwv hq g5 o5 n5
      have hbc:=FB.out w3 wl ks hL3
      have hb5:W5.heap[cb]? = some (Obj.cells (rfC V L) 234 (0,0)):=(g5.block cb (by have:=(Array.getElem?_eq_some_iff.1 hbc).1;simp;omega) (ty_ne (hL3.lst q hq) hbc (by decide))).trans (((below_allocG w3 _).block cb (Array.getElem?_eq_some_iff.1 hbc).1).trans hbc)
      have hc15:=(cell_of (j:=15) (u:=V.wv) hb5 rfl).1
      rw [hwv] at hc15
      refine ⟨⟨hc15,h1⟩,fun p=>if p=q then v5 else wl p,?_⟩
      rw [HNX.out,HON.out]
      exact h2
     unfold maxLen at hcm hcm2
     clear hL3 hrow3 r0 hol hwv HON HNX
     generalize (ks.getD q wk0).list.map iV=xl at *
     generalize (ks.getD q wk0).list.length=nl at *
     generalize wl q=vl at *
     subst hvl
     generalize hkk:layTo L.fan (fun i=>(L.lev i).length) L.wks (k + 1)=kk at *
     have HKK:=hide hkk
     clear hkk
     have b3:=below_allocG w3 (Obj.cells #[.int .i64 (k:Int)] 3)
     have k0':=(b3.cell (p:=⟨g,q * 3,none⟩) (World.block_lt_of_cell? _ _ k0)).trans k0
     have m3':=(b3.cell (p:=⟨cb,15,none⟩) (World.block_lt_of_cell? _ _ m3)).trans m3
     clear b3
     go_upto_region 6 with fail
     go_region_law (refine step_own_at _ rfl _ _ 149 rfl B 3 u0 (.int .i64 0) 1 8 Tryz.underlying149 hu0 hv0 hv1 hv2 rfl (by decide) _ _ _ rfl (by exact HOL.out.alloc _) ⟨w3.heap.size,0,none⟩ 1 1 [iV k] rfl rfl (by exact cells_new w3.drew _ _ _ rfl) (by intro u hu;simp at hu;subst hu;rfl) (by unfold maxLen;omega) (by omega) (by simp;omega) ?_;intro v5 W5 o5 g5 n5;have g6:(w3.alloc (Obj.cells #[iV k] 3)).grownBy W5 (Value.slice al2 nl cl2).ownBlock:=⟨g5.os,g5.tape,g5.output,g5.size,g5.block⟩;obtain ⟨⟨fa,fb,ff⟩,hla⟩:=FN.out W5 v5 g6 o5 n5;have HLA:=hide hla;obtain ⟨a5,c5,rfl,_,_⟩:=own_slice o5;clear o5 g5 g6 n5 hla)
     all_goals (
      go_wp2
      go_roundw
      case rel=>obtain ⟨wl',h'⟩:=HLA.out;exact ⟨k + 1,by omega,by go_num,wl',by rw [HKK.out];exact h'⟩
      case measure=>simp [intOf];omega)
    ·have HNO:Hid (layTo L.fan (fun i=>(L.lev i).length) L.wks (k + 1)=ks):=by show _=_;rw [HNX.out,layOne_no (Or.inr HHT.out)]
     go_upto_region 4 with (first | (go_at_call 247;refine CH.out.mono ?_;rintro e W2 ⟨rfl,hb2⟩;have HB2:=hide hb2;obtain ⟨m0,m1,m2,m3⟩:=HC.out W2 hb2;clear hb2))
     have e8:=cell_regrown m0
     have e1:=cell_regrown m1
     refine wp_region_quiet_below (by kernel_rfl) (by kernel_rfl) ?_
     repeat (go_big_quiet_step (fail))
     refine wpQuiet_nil ?_
     intro _ hw'
     obtain ⟨⟨dq,osq⟩,hw''⟩:=hw'
     subst hw''
     have hb3:Below wr.heap.size wr (Sort.grow (redrawn W2 dq) osq):=HB2.out.trans ((below_regrown W2 dq osq).mono HB2.out.size)
     generalize Sort.grow (redrawn W2 dq) osq=w3 at *
     clear e8 e1 m0 m1 m2 m3
     have HL3:=hide (HL.out.below hb3)
     clear hb3
     go_wp2
     go_roundw
     case rel=>exact ⟨k + 1,by omega,by go_num,wl,by rw [HNO.out];exact HL3.out⟩
     case measure=>simp [intOf];omega
   ·have hd2:decide ((L.fan:Int)≤(nk:Int))=false:=decide_eq_false (by omega)
    have HNO:Hid (layTo L.fan (fun i=>(L.lev i).length) L.wks (k + 1)=ks):=by show _=_;rw [HNX.out,layOne_no (Or.inl (by show ¬ L.fan≤(L.lev k).length;rw [HNK.out];exact hf))]
    go_upto_region 4 with (first | (go_at_call 247;refine CH.out.mono ?_;rintro e W2 ⟨rfl,hb2⟩;have HB2:=hide hb2;obtain ⟨m0,m1,m2,m3⟩:=HC.out W2 hb2;clear hb2))
    have e8:=cell_regrown m0
    have e1:=cell_regrown m1
    refine wp_region_quiet_below (by kernel_rfl) (by kernel_rfl) ?_
    repeat (go_big_quiet_step (fail))
    refine wpQuiet_nil ?_
    intro _ hw'
    obtain ⟨⟨dq,osq⟩,hw''⟩:=hw'
    subst hw''
    have hb3:Below wr.heap.size wr (Sort.grow (redrawn W2 dq) osq):=HB2.out.trans ((below_regrown W2 dq osq).mono HB2.out.size)
    generalize Sort.grow (redrawn W2 dq) osq=w3 at *
    clear e8 e1 m0 m1 m2 m3
    have HL3:=hide (HL.out.below hb3)
    clear hb3
    go_wp2
    go_roundw
    case rel=>exact ⟨k + 1,by omega,by go_num,wl,by rw [HNO.out];exact HL3.out⟩
    case measure=>simp [intOf];omega
  ·have hke:k=5:=by omega
   subst hke
   have HLL:=hide hL
   clear hL
   go_wp2_with fail
   go_end0
   exact ⟨rfl,_,HLL.out⟩
end Go.Proofs.YtkncboinfcnklaaGreatDoor.Rl

namespace Go.Proofs.YtkncboinfcnklaaGreatDoor.Rl
open Go.RowKit Go.Deep Go.Shelf Go.Proofs.YtkncboinfcnklaaGreatDoor.Mth
def SegM (V:Rv) (L:Lg):Prop:=∀ i,i < 6→∀ j,j < (L.lev i).length→∀ g,some g=(V.sv i j).ownBlock→some g≠V.mv.ownBlock
theorem own_tch {S:Nat→Prop} {w w':World} {B:Nat} {e:TypeId} {sz:Nat} {v:Value} {n:Nat} {xs:List Value} (h:w.ownsRow B e sz v n xs) (ht:Tch S w w') (hn:∀ g,some g=v.ownBlock→¬ S g):w'.ownsRow B e sz v n xs:=
 own_same h (fun g hg=>ht.block g (own_block h hg).2.1 (hn g hg))
theorem tch_grown {w w':World} {o:Obj} {v:Value} (hg:(w.alloc o).grownBy w' v.ownBlock):Tch (fun k=>some k=v.ownBlock) w w':=by
 have b:=below_allocG w o
 exact ⟨hg.os.trans b.os,hg.tape.trans b.tape,hg.output.trans b.output,by have:=hg.size;simp at this;omega,fun k hk hn=>(hg.block k (by simp;omega) hn).trans (b.block k hk)⟩
theorem below_tch0 {S:Nat→Prop} {w w':World} {B:Nat} (h:Tch S w w') (hS:∀ k,S k→B≤k) (hB:B≤w.heap.size):Below B w w':=
 ⟨h.os,h.tape,h.output,h.size,fun k hk=>h.block k (by omega) (fun q=>by have:=hS k q;omega)⟩
theorem ty_ne2 {W:World} {B1 B2:Nat} {e1 e2:TypeId} {s1 s2 n1 n2:Nat} {v1 v2:Value} {x1 x2:List Value} (h1:W.ownsRow B1 e1 s1 v1 n1 x1) (h2:W.ownsRow B2 e2 s2 v2 n2 x2) (he:e1≠e2) (g:Nat) (hg:some g=v1.ownBlock):some g≠v2.ownBlock:=by
 obtain ⟨_,_,D,hD⟩:=own_block h1 hg
 exact ty_ne h2 hD he
theorem app_mid {Z:Nat→Prop} {B cb:Nat} {w W2:World} {V:Rv} {L:Lg} {all al2:List Ent} {ts:List Tl} {v2:Value} (hb:w.heap[cb]? = some (Obj.cells (rfC V L) 234 (0,0))) (h:RfV Z B w V L all ts) (hB:B≤w.heap.size) (b2:Below w.heap.size w W2) (o2:W2.ownsRow w.heap.size 66 3 v2 al2.length (al2.flatMap eC)) :
  W2.heap[cb]? = some (Obj.cells (rfC V L) 234 (0,0))∧∀ W3,W3=(W2.setCell ⟨cb,6,none⟩ (.int .i64 (L.clock:Int))).setCell ⟨cb,7,none⟩ v2→W3.heap[cb]? = some (Obj.cells (rfC { V with av:=v2 } L) 234 (0,0))∧RfV Z B W3 { V with av:=v2 } L al2 ts∧(∀ g,some g=v2.ownBlock→some g≠V.mv.ownBlock)∧Tch (fun g=>g=cb) w W3:=by
 have hcb:cb < w.heap.size:=(Array.getElem?_eq_some_iff.1 hb).1
 have e2:=(b2.block cb hcb).trans hb
 refine ⟨e2,fun W3 hW3=>?_⟩
 subst hW3
 have e3:=set_blk (j:=6) (v:=.int .i64 (L.clock:Int)) e2
 have e4:=set_blk (j:=7) (v:=v2) e3
 have kp:∀ {B:Nat} {e:TypeId} {sz:Nat} {v:Value} {m:Nat} {xs:List Value},234≠e→W2.ownsRow B e sz v m xs→((W2.setCell ⟨cb,6,none⟩ (.int .i64 (L.clock:Int))).setCell ⟨cb,7,none⟩ v2).ownsRow B e sz v m xs:=fun he ho=>own_set_other (own_set_other ho e2 he) e3 he
 have h2:=h.below b2
 refine ⟨e4,⟨kp (by decide) (own_mono o2 hB),kp (by decide) h2.mem,fun i hi=>kp (by decide) (h2.lev i hi),fun i hi j hj=>kp (by decide) (h2.seg i hi j hj),h2.sz,kp (by decide) h2.wks,fun q hq=>kp (by decide) (h2.lst q hq),h2.run,kp (by decide) h2.tls⟩,fun g hg hq=>?_,⟨b2.os,b2.tape,b2.output,by simpa using b2.size,fun g hg hne=>(set_other hne).trans ((set_other hne).trans (b2.block g hg))⟩⟩
 have h1:=(own_block o2 hg).1
 have h2:=(own_block h.mem hq).2.1
 omega
theorem app_fin {Z:Nat→Prop} {B cb c:Nat} {W3 W5 W6:World} {V:Rv} {L:Lg} {al2:List Ent} {ts:List Tl} {e:Ent} {v6:Value} (hb:W3.heap[cb]? = some (Obj.cells (rfC V L) 234 (0,0))) (h:RfV Z B W3 V L al2 ts) (hs:SegM V L) (ha:∀ g,some g=V.av.ownBlock→some g≠V.mv.ownBlock) (b5:Below W3.heap.size W3 W5)
  (g6:(W5.alloc (Obj.cells #[.int .i64 e.seq, .int .i64 e.time, .string e.text] 66)).grownBy W6 V.mv.ownBlock) (o6:W6.ownsRow B 66 3 v6 (L.mem.length + 1) (L.mem.flatMap eC ++ [.int .i64 e.seq, .int .i64 e.time, .string e.text])) :
  W6.heap[cb]? = some (Obj.cells (rfC V L) 234 (0,0))∧∀ W7,W7=W6.setCell ⟨cb,8,none⟩ v6→W7.heap[cb]? = some (Obj.cells (rfC { V with mv:=v6 } { L.more e with count:=c }) 234 (0,0))∧RfV Z B W7 { V with mv:=v6 } { L.more e with count:=c } al2 ts∧Tch (fun g=>g=cb∨some g=V.mv.ownBlock) W3 W7:=by
 have hcb:cb < W3.heap.size:=(Array.getElem?_eq_some_iff.1 hb).1
 have h5:=h.below b5
 have hb5:=(b5.block cb hcb).trans hb
 have t6:=tch_grown g6
 have hcb5:cb < W5.heap.size:=(Array.getElem?_eq_some_iff.1 hb5).1
 have e6:=(t6.block cb hcb5 (ty_ne h5.mem hb5 (by decide))).trans hb5
 refine ⟨e6,fun W7 hW7=>?_⟩
 subst hW7
 have kp:∀ {B':Nat} {e:TypeId} {sz:Nat} {v:Value} {m:Nat} {xs:List Value},234≠e→W5.ownsRow B' e sz v m xs→(∀ g,some g=v.ownBlock→some g≠V.mv.ownBlock)→(W6.setCell ⟨cb,8,none⟩ v6).ownsRow B' e sz v m xs:=fun he ho hn=>own_set_other (own_tch ho t6 hn) e6 he
 refine ⟨set_blk e6,⟨kp (by decide) h5.all ha,?_,fun i hi=>kp (by decide) (h5.lev i hi) (ty_ne2 (h5.lev i hi) h5.mem (by decide)),fun i hi j hj=>kp (by decide) (h5.seg i hi j hj) (hs i hi j hj),h5.sz,kp (by decide) h5.wks (ty_ne2 h5.wks h5.mem (by decide)),fun q hq=>kp (by decide) (h5.lst q hq) (ty_ne2 (h5.lst q hq) h5.mem (by decide)),h5.run,kp (by decide) h5.tls (ty_ne2 h5.tls h5.mem (by decide))⟩,⟨t6.os.trans b5.os,t6.tape.trans b5.tape,t6.output.trans b5.output,by have h1:=b5.size;have h2:=t6.size;simp;omega,fun k hk hn=>?_⟩⟩
 ·refine own_set_other ?_ e6 (by decide)
  show W6.ownsRow B _ 3 v6 (L.mem ++ [e]).length ((L.mem ++ [e]).flatMap eC)
  simpa [eC] using o6
 ·rw [set_other (fun q=>hn (Or.inl q)),t6.block k (Nat.lt_of_lt_of_le hk b5.size) (fun q=>hn (Or.inr q))]
  exact b5.block k hk
def rollV (V:Rv) (n:Nat) (v5:Value):Rv:={ V with lv:=fun i=>if i=0 then v5 else V.lv i,sv:=fun i j=>if i=0∧j=n then V.mv else V.sv i j,mv:=.slice none 0 0 }
def rollL (L:Lg):Lg:={ L with lev:=fun j=>if j=0 then L.lev j ++ [L.mem] else L.lev j,mem:=[] }
theorem roll_mid {Z:Nat→Prop} {B cb:Nat} {w W5:World} {V:Rv} {L:Lg} {all:List Ent} {ts:List Tl} {v5:Value} (hb:w.heap[cb]? = some (Obj.cells (rfC V L) 234 (0,0))) (h:RfV Z B w V L all ts) (hD:RfD B V L) (hZ:∀ g,B≤g→Z g)
  (g5:(w.alloc (Obj.cells #[V.mv] 57)).grownBy W5 (V.lv 0).ownBlock) (o5:W5.ownsRow B 57 1 v5 ((L.lev 0).length + 1) ((List.range (L.lev 0).length).map (V.sv 0) ++ [V.mv])) (_n5:v5.ownBlock=(V.lv 0).ownBlock∨v5.ownBlock=some (w.alloc (Obj.cells #[V.mv] 57)).heap.size) :
  W5.heap[cb]? = some (Obj.cells (rfC V L) 234 (0,0))∧∀ W7,W7=(W5.setCell ⟨cb,9,none⟩ v5).setCell ⟨cb,8,none⟩ (.slice none 0 0)→W7.heap[cb]? = some (Obj.cells (rfC (rollV V (L.lev 0).length v5) (rollL L)) 234 (0,0))∧RfV Z B W7 (rollV V (L.lev 0).length v5) (rollL L) all ts∧DuI W7 W7 B (rollV V (L.lev 0).length v5) L.wks.length V.wl L.wks∧Tch (fun g=>g=cb∨some g=(V.lv 0).ownBlock) w W7:=by
 have hcb:cb < w.heap.size:=(Array.getElem?_eq_some_iff.1 hb).1
 have t5:=tch_grown g5
 have e5:=(t5.block cb hcb (ty_ne (h.lev 0 (by omega)) hb (by decide))).trans hb
 refine ⟨e5,fun W7 hW7=>?_⟩
 subst hW7
 have e6:=set_blk (j:=9) (v:=v5) e5
 have e7:=set_blk (j:=8) (v:=.slice none 0 0) e6
 have kp:∀ {B':Nat} {e:TypeId} {sz:Nat} {v:Value} {m:Nat} {xs:List Value},234≠e→w.ownsRow B' e sz v m xs→(∀ g,some g=v.ownBlock→some g≠(V.lv 0).ownBlock)→((W5.setCell ⟨cb,9,none⟩ v5).setCell ⟨cb,8,none⟩ (.slice none 0 0)).ownsRow B' e sz v m xs:=fun he ho hn=>own_set_other (own_set_other (own_tch ho t5 hn) e5 he) e6 he
 have hwk:=kp (by decide) h.wks (ty_ne2 h.wks (h.lev 0 (by omega)) (by decide))
 have hls:∀ q,q < L.wks.length→_:=fun q hq=>kp (by decide) (h.lst q hq) (ty_ne2 (h.lst q hq) (h.lev 0 (by omega)) (by decide))
 refine ⟨e7,⟨kp (by decide) h.all (ty_ne2 h.all (h.lev 0 (by omega)) (by decide)),World.ownsRow_nil _ _ _ _,fun i hi=>?_,fun i hi j hj=>?_,fun i hi j hj g hg=>?_,hwk,hls,h.run,kp (by decide) h.tls (ty_ne2 h.tls (h.lev 0 (by omega)) (by decide))⟩,⟨rfl,hwk,hls,hD.lst,fun q hq g hg=>Or.inl hg,Tch.refl _ _⟩,⟨t5.os,t5.tape,t5.output,by simpa using t5.size,fun k hk hn=>?_⟩⟩
 ·by_cases e:i=0
  ·subst e
   show World.ownsRow _ B _ 1 v5 (L.lev 0 ++ [L.mem]).length ((List.range (L.lev 0 ++ [L.mem]).length).map (fun j=>if 0=0∧j=(L.lev 0).length then V.mv else V.sv 0 j))
   refine own_set_other (own_set_other ?_ e5 (by decide)) e6 (by decide)
   have hl:(L.lev 0 ++ [L.mem]).length=(L.lev 0).length + 1:=by simp
   rw [hl,List.range_succ,List.map_append]
   have hm:(List.range (L.lev 0).length).map (fun j=>if 0=0∧j=(L.lev 0).length then V.mv else V.sv 0 j)=(List.range (L.lev 0).length).map (V.sv 0):=List.map_congr_left (fun j hj=>by have:=List.mem_range.1 hj;simp;omega)
   rw [hm]
   simpa using o5
  ·show World.ownsRow _ B _ 1 (if i=0 then v5 else V.lv i) (if i=0 then L.lev i ++ [L.mem] else L.lev i).length ((List.range (if i=0 then L.lev i ++ [L.mem] else L.lev i).length).map (fun j=>if i=0∧j=(L.lev 0).length then V.mv else V.sv i j))
   simp only [e,false_and,if_false]
   exact kp (by decide) (h.lev i hi) (fun g hg=>hD.lev i 0 hi (by omega) e g hg)
 ·show World.ownsRow _ 0 _ 3 (if i=0∧j=(L.lev 0).length then V.mv else V.sv i j) ((if i=0 then L.lev i ++ [L.mem] else L.lev i).getD j []).length (((if i=0 then L.lev i ++ [L.mem] else L.lev i).getD j []).flatMap eC)
  have hj':j < (if i=0 then L.lev i ++ [L.mem] else L.lev i).length:=hj
  by_cases e:i=0
  ·subst e
   simp only [if_true,List.length_append,List.length_cons,List.length_nil] at hj' ⊢
   by_cases e2:j=(L.lev 0).length
   ·subst e2
    have hgd:(L.lev 0 ++ [L.mem]).getD (L.lev 0).length []=L.mem:=by simp [List.getD_eq_getElem?_getD]
    simp only [true_and,if_true]
    rw [hgd]
    exact own_mono (kp (by decide) h.mem (ty_ne2 h.mem (h.lev 0 (by omega)) (by decide))) (Nat.zero_le _)
   ·have hgd:(L.lev 0 ++ [L.mem]).getD j []=(L.lev 0).getD j []:=by
     rw [List.getD_eq_getElem?_getD,List.getD_eq_getElem?_getD,List.getElem?_append_left (by omega)]
    simp only [true_and,if_neg e2]
    rw [hgd]
    exact kp (by decide) (h.seg 0 hi j (by omega)) (ty_ne2 (h.seg 0 hi j (by omega)) (h.lev 0 (by omega)) (by decide))
  ·simp only [e,false_and,if_false] at hj' ⊢
   exact kp (by decide) (h.seg i hi j hj') (ty_ne2 (h.seg i hi j hj') (h.lev 0 (by omega)) (by decide))
 ·have hg':some g=(if i=0∧j=(L.lev 0).length then V.mv else V.sv i j).ownBlock:=hg
  have hj':j < (if i=0 then L.lev i ++ [L.mem] else L.lev i).length:=hj
  by_cases e:i=0∧j=(L.lev 0).length
  ·rw [if_pos e] at hg'
   exact hZ g (own_block h.mem hg').1
  ·rw [if_neg e] at hg'
   refine h.sz i hi j ?_ g hg'
   by_cases e0:i=0
   ·subst e0
    simp at hj' e
    omega
   ·simpa [e0] using hj'
 ·rw [set_other (fun q=>hn (Or.inl q)),set_other (fun q=>hn (Or.inl q))]
  exact t5.block k hk (fun q=>hn (Or.inr q))
theorem roll_fin {Z:Nat→Prop} {B cb:Nat} {w W8:World} {V:Rv} {L:Lg} {all:List Ent} {ts:List Tl} {wl:Nat→Value} {ks:List Wk} (hb:w.heap[cb]? = some (Obj.cells (rfC V L) 234 (0,0))) (h:RfV Z B w V L all ts) (hd:DuI w W8 B V L.wks.length wl ks) (hr:∀ q,q < L.wks.length→(ks.getD q wk0).runs=(L.wks.getD q wk0).runs∧(ks.getD q wk0).read=(L.wks.getD q wk0).read) :
  W8.heap[cb]? = some (Obj.cells (rfC { V with wl:=wl } { L with wks:=ks }) 234 (0,0))∧RfV Z B W8 { V with wl:=wl } { L with wks:=ks } all ts:=by
 have hlen:=hd.len
 have ne:∀ k C t,w.heap[k]? = some (Obj.cells C t (0,0))→t≠304→t≠3→¬ (some k=V.wv.ownBlock∨∃ q,q < L.wks.length∧some k=(V.wl q).ownBlock):=fun k C t hk h1 h2 q=>by
  rcases q with q | ⟨p,hp,q⟩
  ·exact ty_ne h.wks hk h1 q
  ·exact ty_ne (h.lst p hp) hk h2 q
 have kp:∀ {B':Nat} {e:TypeId} {sz:Nat} {v:Value} {m:Nat} {xs:List Value},e≠304→e≠3→w.ownsRow B' e sz v m xs→W8.ownsRow B' e sz v m xs:=fun h1 h2 ho=>own_tch ho hd.tch (fun g hg=>by
  obtain ⟨_,_,D,hD⟩:=own_block ho hg
  exact ne g D _ hD h1 h2)
 have hcb:cb < w.heap.size:=(Array.getElem?_eq_some_iff.1 hb).1
 refine ⟨?_,kp (by decide) (by decide) h.all,kp (by decide) (by decide) h.mem,fun i hi=>kp (by decide) (by decide) (h.lev i hi),fun i hi j hj=>kp (by decide) (by decide) (h.seg i hi j hj),h.sz,?_,fun q hq=>?_,fun q hq i hi=>?_,kp (by decide) (by decide) h.tls⟩
 ·rw [hd.tch.block cb hcb (ne cb _ _ hb (by decide) (by decide)),hb]
  exact congrArg (fun C=>some (Obj.cells C 234 (0,0))) (rfC_same (V:={ V with wl:=wl }) (V':=V) (L:={ L with wks:=ks }) (L':=L) rfl rfl rfl rfl rfl rfl rfl rfl hlen.symm rfl rfl rfl rfl)
 ·show W8.ownsRow B _ 3 V.wv ks.length (wkRs ks wl V.rd)
  rw [hlen]
  exact hd.row
 ·exact hd.lst q (by rw [← hlen];exact hq)
 ·have hq2:q < L.wks.length:=by rw [← hlen];exact hq
  have h1:(ks.getD q wk0).runs=some i:=hi
  show V.rd q=((ks.getD q wk0).read:Int)
  rw [(hr q hq2).2]
  exact h.run q hq2 i (by rw [← (hr q hq2).1];exact h1)
end Go.Proofs.YtkncboinfcnklaaGreatDoor.Rl

namespace Go.Proofs.YtkncboinfcnklaaGreatDoor.Rl
open Go.RowKit Go.Deep Go.Shelf Go.Proofs.YtkncboinfcnklaaGreatDoor.Mth
set_option maxRecDepth 100000 in
set_option maxHeartbeats 4000000 in
theorem appendR_long {Z:Nat→Prop} {w:World} {B cb:Nat} {V:Rv} {L:Lg} {all:List Ent} {ts:List Tl} (hb:w.heap[cb]? = some (Obj.cells (rfC V L) 234 (0,0))) (h:RfV Z B w V L all ts) (s:ByteArray) (hs:60 < s.size) (hs2:s.size≤1099511627776) (hm:L.memory≤1000) (hml:L.mem.length≤4194303):Calls Tryz.prog 129 #[ptrV cb, .string s] w fun e w'=>e=.returned (.tuple #[.int .i64 0, .int .i64 4])∧Below w.heap.size w w':=by
 have CF:=hide (full_any hb h.mem hml hm)
 have hcb:cb < w.heap.size:=(Array.getElem?_eq_some_iff.1 hb).1
 have F18:Hid (∀ W,Below w.heap.size w W→W.cell? ⟨cb,18,none⟩=some (.bool false)):=fun W hW=>(cell_of (j:=18) (u:=.bool false) ((hW.block cb hcb).trans hb) rfl).1
 generalize decide (L.mem.length=L.memory)=fl at *
 clear hb h
 go_enter Tryz.func129,Tryz.ntmps129
 go_wp2_with (first | (go_at_call 203;refine CF.out.mono ?_;rintro e W2 ⟨rfl,hb2⟩;have m18:=F18.out W2 hb2;have HB2:=hide hb2;clear hb2))
 go_ret2
 exact ⟨rfl,HB2.out⟩
set_option maxRecDepth 100000 in
set_option maxHeartbeats 4000000 in
theorem appendR_busy {Z:Nat→Prop} {w:World} {B cb:Nat} {V:Rv} {L:Lg} {all:List Ent} {ts:List Tl} (hb:w.heap[cb]? = some (Obj.cells (rfC V L) 234 (0,0))) (h:RfV Z B w V L all ts) (s:ByteArray) (hs:s.size≤60) (hm:L.memory≤1000) (hml:L.mem.length≤4194303) (hf:L.mem.length=L.memory) (hfan:L.fan≤4) (hback:L.back≤4) (hlv:(L.lev 0).length≤4194304) (hbz:L.fan + L.back≤(L.lev 0).length):Calls Tryz.prog 129 #[ptrV cb, .string s] w fun e w'=>e=.returned (.tuple #[.int .i64 0, .int .i64 5])∧Below w.heap.size w w':=by
 have CF:=hide (full_any hb h.mem hml hm)
 rw [decide_eq_true hf] at CF
 have hcb:cb < w.heap.size:=(Array.getElem?_eq_some_iff.1 hb).1
 obtain ⟨a0,c0,hl0,hc0,hm0⟩:=own_slice (h.lev 0 (by omega))
 unfold maxLen at hm0
 have F18:Hid (∀ W,Below w.heap.size w W→W.cell? ⟨cb,18,none⟩=some (.bool false)∧W.cell? ⟨cb,9,none⟩=some (.slice a0 (L.lev 0).length c0)∧W.cell? ⟨cb,1,none⟩=some (.int .i64 (L.fan:Int))∧W.cell? ⟨cb,2,none⟩=some (.int .i64 (L.back:Int))):=fun W hW=>by
  have hbw:=(hW.block cb hcb).trans hb
  refine ⟨(cell_of (j:=18) (u:=.bool false) hbw rfl).1,?_,(cell_of (j:=1) hbw rfl).1,(cell_of (j:=2) hbw rfl).1⟩
  have:=(cell_of (j:=9) (u:=V.lv 0) hbw rfl).1
  rw [hl0] at this
  exact this
 clear hb h hl0 hf
 generalize (L.lev 0).length=n0 at *
 generalize L.fan=fan at *
 generalize L.back=back at *
 have hd2:decide ((fan:Int) + (back:Int)≤(n0:Int))=true:=decide_eq_true (by omega)
 go_enter Tryz.func129,Tryz.ntmps129
 go_upto_region 6 with (first | (go_at_call 203;refine CF.out.mono ?_;rintro e W2 ⟨rfl,hb2⟩;obtain ⟨m18,m9,m1,m2⟩:=F18.out W2 hb2;have HB2:=hide hb2;clear hb2))
 have e9:=cell_regrown m9
 have e1:=cell_regrown m1
 have e2:=cell_regrown m2
 refine wp_region_quiet_below (by kernel_rfl) (by kernel_rfl) ?_
 repeat (go_big_quiet_step (fail))
 refine wpQuiet_nil ?_
 intro _ hw'
 obtain ⟨⟨dq,osq⟩,hw''⟩:=hw'
 subst hw''
 have hb3:Below w.heap.size w (Sort.grow (redrawn W2 dq) osq):=HB2.out.trans ((below_regrown W2 dq osq).mono HB2.out.size)
 have HB3:=hide hb3
 clear hb3 e9 e1 e2 m18 m9 m1 m2
 generalize Sort.grow (redrawn W2 dq) osq=w3 at *
 go_wp2_with fail
 go_ret2
 exact ⟨rfl,HB3.out⟩
end Go.Proofs.YtkncboinfcnklaaGreatDoor.Rl
