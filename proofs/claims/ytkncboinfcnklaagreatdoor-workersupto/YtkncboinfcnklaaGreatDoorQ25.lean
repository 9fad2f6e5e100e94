import Derived.Test.YtkncboinfcnklaaGreatDoorQ24
import Derived.Test.YtkncboinfcnklaaGreatDoorQ22
import Derived.Deep.WholeRow
namespace Go.Proofs.YtkncboinfcnklaaGreatDoor.Rl
open Go.RowKit Go.Deep Go.Shelf Go.Proofs.YtkncboinfcnklaaGreatDoor.Mth
theorem own_cap {w:World} {B:Nat} {e:TypeId} {sz:Nat} {a:Option Addr} {n c m:Nat} {xs:List Value} (h:w.ownsRow B e sz (.slice a n c) m xs):n≤c∧c≤maxLen:=by
 obtain ⟨_,_,e,h1,h2⟩:=own_slice h
 injection e with e1 e2 e3
 omega
theorem layTo_runs (fan:Nat) (n:Nat→Nat) (ks:List Wk):∀ i q,((layTo fan n ks i).getD q wk0).runs=(ks.getD q wk0).runs∧((layTo fan n ks i).getD q wk0).read=(ks.getD q wk0).read
 | 0,_=>⟨rfl,rfl⟩
 | i + 1,q=>by
  have ih:=layTo_runs fan n ks i q
  rw [layTo]
  generalize layTo fan n ks i=ks' at *
  unfold layOne
  split
  ·by_cases e:i % ks'.length=q
   ·by_cases hq:q < ks'.length
    ·rw [e,List.getD_eq_getElem?_getD,List.getElem?_set_self hq]
     exact ih
    ·rw [List.set_eq_of_length_le (by omega)]
     exact ih
   ·rw [List.getD_eq_getElem?_getD,List.getElem?_set_ne e,← List.getD_eq_getElem?_getD]
    exact ih
  ·exact ih
set_option maxRecDepth 100000 in
set_option maxHeartbeats 8000000 in
theorem appendR_ok {Z:Nat→Prop} {w:World} {B cb:Nat} {V:Rv} {L:Lg} {all:List Ent} {ts:List Tl} (hb:w.heap[cb]? = some (Obj.cells (rfC V L) 234 (0,0))) (h:RfV Z B w V L all ts) (hD:RfD B V L) (hZ:∀ g,B≤g→Z g) (hB:B≤w.heap.size) (hcbB:B≤cb) (s:ByteArray) (hs:s.size≤60) (hI:Inv L all) (hM:all.length≤1048576) (hw4:L.wks.length≤4) (hnd:∀ q,q < L.wks.length→(L.wks.getD q wk0).list.length≤900) (hn:¬ (L.memory≤L.mem.length∧L.fan + L.back≤(L.lev 0).length)) :
  Calls Tryz.prog 129 #[ptrV cb, .string s] w fun e w'=>e=.returned (.tuple #[.int .i64 (all.length:Int), .int .i64 0])∧Below B w w'∧∃ V',w'.heap[cb]? = some (Obj.cells (rfC V' (L.app s)) 234 (0,0))∧RfV Z B w' V' (L.app s) (all ++ [nxE L all s]) ts:=by
 obtain ⟨i0,hi0,hz0,hz1,hz2⟩:=info_parts Tryz.info66
 obtain ⟨j0,hj0,hk0,hk1,hk2⟩:=info_parts Tryz.infoRow
 have hcfg:=hI.cfg
 have hml:=hI.ml
 have hsto:=hI.stoLen
 have hlv:=hI.lev
 have hcnt:=hI.cnt
 have CF:=hide (full_any hb h.mem (by omega) (by omega))
 have hcb:cb < w.heap.size:=(Array.getElem?_eq_some_iff.1 hb).1
 obtain ⟨a0,c0,hl0,hc0,hm0⟩:=own_slice (h.lev 0 (by omega))
 unfold maxLen at hm0
 obtain ⟨L1,hL1⟩:∃ L1,L1=(if L.memory≤L.mem.length then L.roll else L):=⟨_,rfl⟩
 have happ:L.app s={ L1.more (nxE L all s) with count:=L.count + 1 }:=by
  unfold Lg.app nxE
  rw [hL1,hcnt]
 have hL1c:L1.clock=L.clock:=by rw [hL1];split <;> rfl
 have hL1m:L1.mem.length≤1048576:=by
  rw [hL1]
  split
  ·show ([]:List Ent).length≤_;simp
  ·omega
 have TL:Hid (∀ wx V1,wx.heap[cb]? = some (Obj.cells (rfC V1 L1) 234 (0,0))→RfV Z B wx V1 L1 all ts→SegM V1 L1→Below B w wx→B≤wx.heap.size∧Calls Tryz.prog 128 #[ptrV cb, .string s] wx (fun e W2=>∃ av',e=.returned (.agg #[.int .i64 (L.clock:Int),av'])∧(∃ a c,av'=.slice a (all.length + 1) c)∧W2.heap[cb]? = some (Obj.cells (rfC V1 L1) 234 (0,0))∧∀ W3,W3=(W2.setCell ⟨cb,6,none⟩ (.int .i64 (L.clock:Int))).setCell ⟨cb,7,none⟩ av'→W3.heap[cb]? = some (Obj.cells (rfC { V1 with av:=av' } L1) 234 (0,0))∧W3.ownsRow B 66 3 av' (all.length + 1) ((all ++ [nxE L all s]).flatMap eC)∧W3.ownsRow B 66 3 V1.mv L1.mem.length (L1.mem.flatMap eC)∧B≤W3.heap.size ∧
   ∀ W5 W6 v6,Below W3.heap.size W3 W5→(W5.alloc (Obj.cells #[.int .i64 (all.length:Int), .int .i64 (L.clock:Int), .string s] 66)).grownBy W6 V1.mv.ownBlock→W6.ownsRow B 66 3 v6 (L1.mem.length + 1) (L1.mem.flatMap eC ++ [.int .i64 (all.length:Int), .int .i64 (L.clock:Int), .string s])→W6.heap[cb]? = some (Obj.cells (rfC { V1 with av:=av' } L1) 234 (0,0))∧Below B w (W6.setCell ⟨cb,8,none⟩ v6)∧∃ V',(W6.setCell ⟨cb,8,none⟩ v6).heap[cb]? = some (Obj.cells (rfC V' (L.app s)) 234 (0,0))∧RfV Z B (W6.setCell ⟨cb,8,none⟩ v6) V' (L.app s) (all ++ [nxE L all s]) ts)):=by
  intro wx V1 hbx hx hsm hbw
  have hBx:B≤wx.heap.size:=Nat.le_trans hB hbw.size
  refine ⟨hBx,(after_any hbx hx.all s (by omega)).mono ?_⟩
  rintro e W2 ⟨av',rfl,o2,b2⟩
  have hnx:nxE L1 all s=nxE L all s:=by unfold nxE;rw [hL1c]
  rw [hnx] at o2
  rw [hL1c]
  have hlen:(all ++ [nxE L all s]).length=all.length + 1:=by simp
  obtain ⟨a,c,hav,_,_⟩:=own_slice o2
  obtain ⟨e2,hm3⟩:=app_mid hbx hx hBx b2 o2
  rw [hL1c] at hm3
  refine ⟨av',rfl,⟨a,c,by rw [hav,hlen]⟩,e2,fun W3 hW3=>?_⟩
  obtain ⟨e3,r3,n3,t3⟩:=hm3 W3 hW3
  have hB3:B≤W3.heap.size:=Nat.le_trans hBx t3.size
  refine ⟨e3,by rw [← hlen];exact r3.all,r3.mem,hB3,fun W5 W6 v6 b5 g6 o6=>?_⟩
  obtain ⟨e6,hf⟩:=app_fin (c:=L.count + 1) (e:=nxE L all s) e3 r3 hsm n3 b5 g6 o6
  obtain ⟨e7,r7,t7⟩:=hf _ rfl
  refine ⟨e6,?_,_,by rw [happ];exact e7,by rw [happ];exact r7⟩
  have bx3:Below B wx W3:=below_tch0 t3 (fun k q=>by rw [q];exact hcbB) hBx
  have b37:Below B W3 _:=below_tch0 t7 (fun k q=>by
   rcases q with q | q
   ·rw [q];exact hcbB
   ·exact (own_block r3.mem q).1) hB3
  exact hbw.trans (bx3.trans b37)
 have hroll:∀ v5,L.roll={ (rollL L) with wks:=layTo (rollL L).fan (fun i=>((rollL L).lev i).length) (rollL L).wks 5 }∧(rollV V (L.lev 0).length v5).wl=V.wl:=fun _=>⟨rfl,rfl⟩
 have FU:Hid (L.mem.length=L.memory→∀ w3 W5 v5,Below w.heap.size w w3→(w3.alloc (Obj.cells #[V.mv] 57)).grownBy W5 (V.lv 0).ownBlock→W5.ownsRow B 57 1 v5 ((L.lev 0).length + 1) ((List.range (L.lev 0).length).map (V.sv 0) ++ [V.mv])→(v5.ownBlock=(V.lv 0).ownBlock∨v5.ownBlock=some (w3.alloc (Obj.cells #[V.mv] 57)).heap.size)→W5.heap[cb]? = some (Obj.cells (rfC V L) 234 (0,0))∧∀ W7,W7=(W5.setCell ⟨cb,9,none⟩ v5).setCell ⟨cb,8,none⟩ (.slice none 0 0)→Calls Tryz.prog 204 #[ptrV cb] W7 (fun e W8=>e=.returned (.tuple #[])∧∃ V1,W8.heap[cb]? = some (Obj.cells (rfC V1 L1) 234 (0,0))∧RfV Z B W8 V1 L1 all ts∧SegM V1 L1∧Below B w W8)):=by
  intro hfu w3 W5 v5 hb3 g5 o5 n5
  have hl1:L1=L.roll:=by rw [hL1,if_pos (by omega)]
  have h3:=h.below hb3
  have hbc:=(hb3.block cb hcb).trans hb
  have hB3:B≤w3.heap.size:=Nat.le_trans hB hb3.size
  obtain ⟨e5,hm⟩:=roll_mid hbc h3 hD hZ g5 o5 n5
  refine ⟨e5,fun W7 hW7=>?_⟩
  obtain ⟨e7,r7,d7,t7⟩:=hm W7 hW7
  have hB7:B≤W7.heap.size:=Nat.le_trans hB3 t7.size
  refine (due_any (V:=rollV V (L.lev 0).length v5) (L:=rollL L) (B:=B) e7 d7 (fun i hi=>?_) (by show L.fan≤1000;omega) ⟨by show 0 < L.wks.length;omega,hw4⟩ hB7 hnd).mono ?_
  ·obtain ⟨a,c,ha,_,_⟩:=own_slice (r7.lev i hi)
   refine ⟨a,c,ha,?_⟩
   show (if i=0 then L.lev i ++ [L.mem] else L.lev i).length≤_
   have:=hlv i hi
   split
   ·simp;omega
   ·omega
  ·rintro e W8 ⟨rfl,wl',d8⟩
   obtain ⟨e8,r8⟩:=roll_fin e7 r7 d8 (fun q _=>layTo_runs _ _ _ 5 q)
   refine ⟨rfl,_,by rw [hl1];exact e8,by rw [hl1];exact r8,?_,?_⟩
   ·intro i _ j _ g _ hq
    cases hq
   ·have b37:Below B w3 W7:=below_tch0 t7 (fun k q=>by
     rcases q with q | q
     ·rw [q];exact hcbB
     ·exact (own_block (h3.lev 0 (by omega)) q).1) hB3
    have b78:Below B W7 W8:=below_tch0 d8.tch (fun k q=>by
     rcases q with q | ⟨p,hp,q⟩
     ·exact (own_block d7.row q).1
     ·exact (own_block (d7.lst p hp) q).1) hB7
    exact (hb3.mono hB).trans (b37.trans b78)
 have FE:Hid (¬ L.mem.length=L.memory→∀ w3,Below w.heap.size w w3→∃ V1,w3.heap[cb]? = some (Obj.cells (rfC V1 L1) 234 (0,0))∧RfV Z B w3 V1 L1 all ts∧SegM V1 L1∧Below B w w3):=by
  intro hfu w3 hb3
  have hl1:L1=L:=by rw [hL1,if_neg (by omega)]
  rw [hl1]
  exact ⟨V,(hb3.block cb hcb).trans hb,h.below hb3,fun i hi j hj g hg hq=>by
   have h1:=hD.sg i hi j hj g hg
   have h2:=(own_block h.mem hq).1
   omega,hb3.mono hB⟩
 obtain ⟨am,cm,hmv,hcm,hmm⟩:=own_slice h.mem
 have F18:Hid (∀ W,Below w.heap.size w W→W.cell? ⟨cb,18,none⟩=some (.bool false)∧W.cell? ⟨cb,9,none⟩=some (.slice a0 (L.lev 0).length c0)∧W.cell? ⟨cb,8,none⟩=some (.slice am L.mem.length cm)∧W.cell? ⟨cb,1,none⟩=some (.int .i64 (L.fan:Int))∧W.cell? ⟨cb,2,none⟩=some (.int .i64 (L.back:Int))∧W.ownsRow B 57 1 (.slice a0 (L.lev 0).length c0) (L.lev 0).length ((List.range (L.lev 0).length).map (V.sv 0))∧B≤W.heap.size):=fun W hW=>by
  have hbw:=(hW.block cb hcb).trans hb
  refine ⟨(cell_of (j:=18) (u:=.bool false) hbw rfl).1,?_,?_,(cell_of (j:=1) hbw rfl).1,(cell_of (j:=2) hbw rfl).1,?_,Nat.le_trans hB hW.size⟩
  ·have:=(cell_of (j:=9) (u:=V.lv 0) hbw rfl).1
   rw [hl0] at this
   exact this
  ·have:=(cell_of (j:=8) (u:=V.mv) hbw rfl).1
   rw [hmv] at this
   exact this
  ·rw [← hl0];exact own_belowR (h.lev 0 (by omega)) hW
 have F5:Hid (∀ W5:World,W5.heap[cb]? = some (Obj.cells (rfC V L) 234 (0,0))→W5.cell? ⟨cb,9,none⟩=some (.slice a0 (L.lev 0).length c0)∧W5.frozen? ⟨cb,9,none⟩=false∧W5.cell? ⟨cb,8,none⟩=some (.slice am L.mem.length cm)∧W5.frozen? ⟨cb,8,none⟩=false∧∀ v,(W5.setCell ⟨cb,9,none⟩ v).cell? ⟨cb,8,none⟩=some (.slice am L.mem.length cm)∧(W5.setCell ⟨cb,9,none⟩ v).frozen? ⟨cb,8,none⟩=false):=fun W5 hb5=>by
  obtain ⟨x9,y9⟩:=cell_of (j:=9) (u:=V.lv 0) hb5 rfl
  obtain ⟨x8,y8⟩:=cell_of (j:=8) (u:=V.mv) hb5 rfl
  rw [hl0] at x9
  rw [hmv] at x8
  refine ⟨x9,y9,x8,y8,fun v=>?_⟩
  obtain ⟨z8,z9⟩:=cell_of (j:=8) (u:=V.mv) (set_blk (j:=9) (v:=v) hb5) rfl
  rw [hmv] at z8
  exact ⟨z8,z9⟩
 rw [hmv,hl0] at FU
 have hbz:¬ (L.mem.length=L.memory∧L.fan + L.back≤(L.lev 0).length):=by omega
 have hfb:L.fan≤4∧L.back≤4:=by omega
 have hl0b:(L.lev 0).length≤1048576:=by have:=hlv 0 (by omega);omega
 clear hb h hD hI hcfg hml hsto hlv hcnt happ hL1 hL1c hl0 hmv hroll hn hnd hw4
 obtain ⟨LF,hLF⟩:∃ LF,LF=L.app s:=⟨_,rfl⟩
 rw [← hLF] at TL ⊢
 clear hLF
 generalize (L.lev 0).length=n0 at *
 generalize L.mem.length=ml at *
 generalize L.fan=fan at *
 generalize L.back=back at *
 generalize (List.range n0).map (V.sv 0)=xl at *
 by_cases hfu:ml=L.memory
 ·rw [decide_eq_true hfu] at CF
  have FU2:=hide (FU.out hfu)
  have hd2:decide ((fan:Int) + (back:Int)≤(n0:Int))=false:=decide_eq_false (by omega)
  clear FE FU hbz hfu
  go_enter Tryz.func129,Tryz.ntmps129
  go_upto_region 6 with (first | (go_at_call 203;refine CF.out.mono ?_;rintro e W2 ⟨rfl,hb2⟩;obtain ⟨m18,m9,m8,m1,m2,_,_⟩:=F18.out W2 hb2;have HB2:=hide hb2;clear hb2))
  have e9:=cell_regrown m9
  have e1:=cell_regrown m1
  have e2:=cell_regrown m2
  refine wp_region_quiet_below (by kernel_rfl) (by kernel_rfl) ?_
  repeat (go_big_quiet_step (fail))
  refine wpQuiet_nil ?_
  intro _ hw'
  obtain ⟨⟨dq,osq⟩,hw''⟩:=hw'
  subst hw''
  have hb3:Below w.heap.size w (Sort.grow (redrawn W2 dq) osq):=HB2.out.trans ((below_regrown W2 dq osq).mono HB2.out.size)
  clear m18 m9 m8 m1 m2 e9 e1 e2
  generalize Sort.grow (redrawn W2 dq) osq=w3 at *
  obtain ⟨_,m9,m8,_,_,orw,hB3⟩:=F18.out w3 hb3
  have HOR:=hide orw
  have HB3:=hide hb3
  have bz:=below_allocG w3 (Obj.cells #[.slice am ml cm] 57)
  have m9':=(bz.cell (p:=⟨cb,9,none⟩) (World.block_lt_of_cell? _ _ m9)).trans m9
  have m8':=(bz.cell (p:=⟨cb,8,none⟩) (World.block_lt_of_cell? _ _ m8)).trans m8
  clear orw hb3 bz
  go_upto_region 9 with fail
  go_cut [] from 42 (fun wq=>(wq.cell? ⟨cb,8,none⟩=some (.slice am ml cm)∧wq.frozen? ⟨cb,8,none⟩=false)∧∀ W7,W7=wq.setCell ⟨cb,8,none⟩ (.slice none 0 0)→Calls Tryz.prog 204 #[ptrV cb] W7 (fun e W8=>e=.returned (.tuple #[])∧∃ V1,W8.heap[cb]? = some (Obj.cells (rfC V1 L1) 234 (0,0))∧RfV Z B W8 V1 L1 all ts∧SegM V1 L1∧Below B w W8))
  case first=>
   go_region_law (refine step_own_at _ rfl _ _ 24 rfl B 57 j0 (.slice none 0 0) 1 24 Tryz.underlying24 hj0 hk0 hk1 hk2 rfl (by decide) _ _ _ rfl (by exact HOR.out.alloc _) ⟨w3.heap.size,0,none⟩ 1 1 [.slice am ml cm] rfl rfl (by exact cells_new w3.drew _ _ _ rfl) (by intro u hu;simp at hu;subst hu;rfl) (by unfold maxLen;omega) (by omega) (by simp;omega) ?_;intro v5 W5 o5 g5 n5;have g6:(w3.alloc (Obj.cells #[.slice am ml cm] 57)).grownBy W5 (Value.slice a0 n0 c0).ownBlock:=⟨g5.os,g5.tape,g5.output,g5.size,g5.block⟩;obtain ⟨e5,hdue⟩:=FU2.out w3 W5 v5 HB3.out g6 o5 n5;obtain ⟨x9,y9,x8,y8,h98⟩:=F5.out W5 e5;have H98:=hide h98;clear h98;have HDUE:=hide hdue;have HE5:=hide e5;obtain ⟨a5,c5,rfl,_,_⟩:=own_slice o5;clear o5 g5 g6 n5 hdue e5)
   all_goals (
    go_wp2_with fail
    go_meet
    exact ⟨H98.out _,fun W7 hW7=>HDUE.out W7 hW7⟩)
  case rest=>
   obtain ⟨⟨x8,y8⟩,hdue⟩:=hcut
   have CDU:=hide (hdue _ rfl)
   clear hdue m9 m8 m9' m8' F5
   go_upto_region 12 with (first | (go_at_call 204;refine CDU.out.mono ?_;rintro e wx ⟨rfl,hra⟩;have HRA:=hide hra;clear hra))
   obtain ⟨V1,hbx,hx,hsm,hbw⟩:=HRA.out
   obtain ⟨hBx,hAf⟩:=TL.out wx V1 hbx hx hsm hbw
   have CA:=hide hAf
   obtain ⟨am1,cm1,hmv1,hcm1,hmm1⟩:=own_slice hx.mem
   clear hbx hx hsm hbw hAf HRA
   go_upto_region 13 with (first | (go_at_call 128;refine CA.out.mono ?_;rintro e W2 ⟨av',rfl,⟨aa,ca,rfl⟩,e2,hf3⟩;obtain ⟨d6,f6⟩:=cell_of (j:=6) (u:=.int .i64 (L1.clock:Int)) e2 rfl;obtain ⟨d7,f7⟩:=cell_of (j:=7) (u:=V1.av) e2 rfl;have HF3:=hide hf3;clear e2 hf3))
   obtain ⟨W3,hW3⟩:∃ W3,W3=(W2.setCell ⟨cb,6,none⟩ (.int .i64 (L.clock:Int))).setCell ⟨cb,7,none⟩ (.slice aa (all.length + 1) ca):=⟨_,rfl⟩
   obtain ⟨e3,o3,om3,hB3,hf5⟩:=HF3.out W3 hW3
   rw [← hW3]
   clear hW3 HF3 CA d6 f6 d7 f7
   obtain ⟨x7,_⟩:=cell_of (j:=7) (u:=.slice aa (all.length + 1) ca) e3 rfl
   obtain ⟨x8,_⟩:=cell_of (j:=8) (u:=V1.mv) e3 rfl
   rw [hmv1] at x8 om3 hf5
   obtain ⟨ga,rfl⟩:=own_some o3 (by omega)
   have hgd:(all ++ [nxE L all s]).getD all.length e0=nxE L all s:=by simp [List.getD_eq_getElem?_getD]
   obtain ⟨q0,q1,q2⟩:=flat_get (all ++ [nxE L all s]) all.length (by simp)
   rw [hgd] at q0 q1 q2
   have p0:=own_get o3 q0
   have p1:=own_get o3 q1
   have p2:=own_get o3 q2
   have hca:=own_cap o3
   have HOM:=hide om3
   have HF5:=hide hf5
   have HE3:=hide e3
   unfold nxE at p0 p1 p2
   clear o3 om3 hf5 e3 q0 q1 q2 hgd
   obtain ⟨hca2,hca3⟩:=hca
   unfold maxLen at hca3
   have hwr:IntKind.i64.wrap (all.length:Int)=(all.length:Int):=by rw [IntKind.wrap_i64];omega
   have hlt1:(all.length:Int) < (all.length:Int) + 1:=by omega
   have b3:=below_allocG W3 (Obj.cells #[.int .i64 0, .int .i64 0, .string ⟨#[]⟩] 66)
   have x7':=(b3.cell (p:=⟨cb,7,none⟩) (World.block_lt_of_cell? _ _ x7)).trans x7
   have p0':=(b3.cell (p:=⟨ga,all.length * 3,none⟩) (World.block_lt_of_cell? _ _ p0)).trans p0
   have p1':=(b3.cell (p:=⟨ga,all.length * 3 + 1,none⟩) (World.block_lt_of_cell? _ _ p1)).trans p1
   have p2':=(b3.cell (p:=⟨ga,all.length * 3 + 2,none⟩) (World.block_lt_of_cell? _ _ p2)).trans p2
   have BE:Hid (Below W3.heap.size W3 (W3.alloc (Obj.cells #[.int .i64 (all.length:Int), .int .i64 (L.clock:Int), .string s] 66)).drew∧(W3.alloc (Obj.cells #[.int .i64 (all.length:Int), .int .i64 (L.clock:Int), .string s] 66)).drew.heap[W3.heap.size]? = some (Obj.cells #[.int .i64 (all.length:Int), .int .i64 (L.clock:Int), .string s] 66 (0,0))):=by
    have b:=below_allocG W3 (Obj.cells #[.int .i64 (all.length:Int), .int .i64 (L.clock:Int), .string s] 66)
    exact ⟨⟨b.os,b.tape,b.output,b.size,b.block⟩,new_blk W3 _ _⟩
   clear b3
   go_cut [7] from 68 (fun p wq=>p=.pointer (some ⟨W3.heap.size,0,none⟩)∧Below W3.heap.size W3 wq∧wq.heap[W3.heap.size]? = some (Obj.cells #[.int .i64 (all.length:Int), .int .i64 (L.clock:Int), .string s] 66 (0,0)))
   case first=>
    go_region_law fail
    all_goals (go_wp2_with fail;go_meet;exact ⟨rfl,BE.out.1,BE.out.2⟩)
   case rest=>
    obtain ⟨rfl,bq,eq⟩:=hcut
    have hlt3:cb < W3.heap.size:=(Array.getElem?_eq_some_iff.1 HE3.out).1
    have y8:=(bq.cell (p:=⟨cb,8,none⟩) hlt3).trans x8
    obtain ⟨u0,_⟩:=cell_of (j:=0) (u:=.int .i64 (all.length:Int)) eq rfl
    obtain ⟨u1,_⟩:=cell_of (j:=1) (u:=.int .i64 (L.clock:Int)) eq rfl
    obtain ⟨u2,_⟩:=cell_of (j:=2) (u:=.string s) eq rfl
    have HOC:=hide (own_belowR HOM.out bq)
    have hBc:B≤wc.heap.size:=Nat.le_trans hB3 bq.size
    have bz:=below_allocG wc (Obj.cells #[.int .i64 (all.length:Int), .int .i64 (L.clock:Int), .string s] 66)
    have y8':=(bz.cell (p:=⟨cb,8,none⟩) (World.block_lt_of_cell? _ _ y8)).trans y8
    have HBQ:=hide bq
    have FN:Hid (∀ W6 v6,(wc.alloc (Obj.cells #[.int .i64 (all.length:Int), .int .i64 (L.clock:Int), .string s] 66)).grownBy W6 (Value.slice am1 L1.mem.length cm1).ownBlock→W6.ownsRow B 66 3 v6 (L1.mem.length + 1) (L1.mem.flatMap eC ++ [.int .i64 (all.length:Int), .int .i64 (L.clock:Int), .string s])→(W6.cell? ⟨cb,8,none⟩=some (.slice am1 L1.mem.length cm1)∧W6.frozen? ⟨cb,8,none⟩=false)∧(W6.cell? ⟨W3.heap.size,0,none⟩=some (.int .i64 (all.length:Int)))∧Below B w (W6.setCell ⟨cb,8,none⟩ v6)∧∃ V',(W6.setCell ⟨cb,8,none⟩ v6).heap[cb]? = some (Obj.cells (rfC V' LF) 234 (0,0))∧RfV Z B (W6.setCell ⟨cb,8,none⟩ v6) V' LF (all ++ [nxE L all s]) ts):=by
     intro W6 v6 g6 o6
     obtain ⟨e6,hz⟩:=HF5.out wc W6 v6 HBQ.out g6 o6
     obtain ⟨w8,z8⟩:=cell_of (j:=8) (u:=.slice am1 L1.mem.length cm1) e6 rfl
     refine ⟨⟨w8,z8⟩,?_,hz⟩
     have t6:=tch_grown g6
     have hW3c:W3.heap.size < wc.heap.size:=(Array.getElem?_eq_some_iff.1 eq).1
     have e6':=(t6.block W3.heap.size hW3c (fun q=>by
      have:=(own_block HOM.out q).2.1
      omega)).trans eq
     exact (cell_of (j:=0) e6' rfl).1
    clear x7 x8 p0 p1 p2 x7' p0' p1' p2' bq bz HF5 HOM HE3 BE
    generalize L1.mem.flatMap eC=xm at *
    generalize L1.mem.length=lm at *
    have hne3:¬ W3.heap.size=cb:=by omega
    generalize W3.heap.size=eb at *
    go_upto_region 14 with fail
    go_region_law (refine step_own_at _ rfl _ _ 57 rfl B 66 i0 (.agg #[.int .i64 0, .int .i64 0, .string ByteArray.empty]) 3 32 Tryz.underlying57 hi0 hz0 hz1 hz2 rfl (by decide) _ _ _ rfl (by exact HOC.out.alloc _) ⟨wc.heap.size,0,none⟩ 1 1 [.int .i64 (all.length:Int), .int .i64 (L.clock:Int), .string s] rfl rfl (by exact cells_new wc.drew _ _ _ rfl) (by intro u hu;simp at hu;rcases hu with rfl | rfl | rfl <;> rfl) (by unfold maxLen;omega) (by omega) (by simp;omega) ?_;intro v6 W6 o6 g6 n6;have g7:(wc.alloc (Obj.cells #[.int .i64 (all.length:Int), .int .i64 (L.clock:Int), .string s] 66)).grownBy W6 (Value.slice am1 lm cm1).ownBlock:=⟨g6.os,g6.tape,g6.output,g6.size,g6.block⟩;obtain ⟨⟨fa,fb⟩,fc,hfin⟩:=FN.out W6 v6 g7 o6;have HFIN:=hide hfin;obtain ⟨a6,c6,rfl,_,_⟩:=own_slice o6;clear o6 g6 g7 n6 hfin)
    all_goals (
     go_wp2_with fail
     go_ret2
     exact ⟨rfl,HFIN.out.1,HFIN.out.2⟩)
 ·rw [decide_eq_false hfu] at CF
  have FE2:=hide (FE.out hfu)
  clear FE FU hbz F5
  go_enter Tryz.func129,Tryz.ntmps129
  go_upto_region 6 with (first | (go_at_call 203;refine CF.out.mono ?_;rintro e W2 ⟨rfl,hb2⟩;obtain ⟨m18,m9,m8,m1,m2,_,_⟩:=F18.out W2 hb2;have HB2:=hide hb2;clear hb2))
  refine wp_region_quiet_below (by kernel_rfl) (by kernel_rfl) ?_
  repeat (go_big_quiet_step (fail))
  refine wpQuiet_nil ?_
  intro _ hw'
  obtain ⟨⟨dq,osq⟩,hw''⟩:=hw'
  subst hw''
  have HRA:=hide (FE2.out _ (HB2.out.trans ((below_regrown W2 dq osq).mono HB2.out.size)))
  clear m18 m9 m8 m1 m2
  generalize Sort.grow (redrawn W2 dq) osq=wx at *
  go_upto_region 12 with fail
  obtain ⟨V1,hbx,hx,hsm,hbw⟩:=HRA.out
  obtain ⟨hBx,hAf⟩:=TL.out wx V1 hbx hx hsm hbw
  have CA:=hide hAf
  obtain ⟨am1,cm1,hmv1,hcm1,hmm1⟩:=own_slice hx.mem
  clear hbx hx hsm hbw hAf HRA
  go_upto_region 13 with (first | (go_at_call 128;refine CA.out.mono ?_;rintro e W2 ⟨av',rfl,⟨aa,ca,rfl⟩,e2,hf3⟩;obtain ⟨d6,f6⟩:=cell_of (j:=6) (u:=.int .i64 (L1.clock:Int)) e2 rfl;obtain ⟨d7,f7⟩:=cell_of (j:=7) (u:=V1.av) e2 rfl;have HF3:=hide hf3;clear e2 hf3))
  obtain ⟨W3,hW3⟩:∃ W3,W3=(W2.setCell ⟨cb,6,none⟩ (.int .i64 (L.clock:Int))).setCell ⟨cb,7,none⟩ (.slice aa (all.length + 1) ca):=⟨_,rfl⟩
  obtain ⟨e3,o3,om3,hB3,hf5⟩:=HF3.out W3 hW3
  rw [← hW3]
  clear hW3 HF3 CA d6 f6 d7 f7
  obtain ⟨x7,_⟩:=cell_of (j:=7) (u:=.slice aa (all.length + 1) ca) e3 rfl
  obtain ⟨x8,_⟩:=cell_of (j:=8) (u:=V1.mv) e3 rfl
  rw [hmv1] at x8 om3 hf5
  obtain ⟨ga,rfl⟩:=own_some o3 (by omega)
  have hgd:(all ++ [nxE L all s]).getD all.length e0=nxE L all s:=by simp [List.getD_eq_getElem?_getD]
  obtain ⟨q0,q1,q2⟩:=flat_get (all ++ [nxE L all s]) all.length (by simp)
  rw [hgd] at q0 q1 q2
  have p0:=own_get o3 q0
  have p1:=own_get o3 q1
  have p2:=own_get o3 q2
  have hca:=own_cap o3
  have HOM:=hide om3
  have HF5:=hide hf5
  have HE3:=hide e3
  unfold nxE at p0 p1 p2
  clear o3 om3 hf5 e3 q0 q1 q2 hgd
  obtain ⟨hca2,hca3⟩:=hca
  unfold maxLen at hca3
  have hwr:IntKind.i64.wrap (all.length:Int)=(all.length:Int):=by rw [IntKind.wrap_i64];omega
  have hlt1:(all.length:Int) < (all.length:Int) + 1:=by omega
  have b3:=below_allocG W3 (Obj.cells #[.int .i64 0, .int .i64 0, .string ⟨#[]⟩] 66)
  have x7':=(b3.cell (p:=⟨cb,7,none⟩) (World.block_lt_of_cell? _ _ x7)).trans x7
  have p0':=(b3.cell (p:=⟨ga,all.length * 3,none⟩) (World.block_lt_of_cell? _ _ p0)).trans p0
  have p1':=(b3.cell (p:=⟨ga,all.length * 3 + 1,none⟩) (World.block_lt_of_cell? _ _ p1)).trans p1
  have p2':=(b3.cell (p:=⟨ga,all.length * 3 + 2,none⟩) (World.block_lt_of_cell? _ _ p2)).trans p2
  have BE:Hid (Below W3.heap.size W3 (W3.alloc (Obj.cells #[.int .i64 (all.length:Int), .int .i64 (L.clock:Int), .string s] 66)).drew∧(W3.alloc (Obj.cells #[.int .i64 (all.length:Int), .int .i64 (L.clock:Int), .string s] 66)).drew.heap[W3.heap.size]? = some (Obj.cells #[.int .i64 (all.length:Int), .int .i64 (L.clock:Int), .string s] 66 (0,0))):=by
   have b:=below_allocG W3 (Obj.cells #[.int .i64 (all.length:Int), .int .i64 (L.clock:Int), .string s] 66)
   exact ⟨⟨b.os,b.tape,b.output,b.size,b.block⟩,new_blk W3 _ _⟩
  clear b3
  go_cut [7] from 68 (fun p wq=>p=.pointer (some ⟨W3.heap.size,0,none⟩)∧Below W3.heap.size W3 wq∧wq.heap[W3.heap.size]? = some (Obj.cells #[.int .i64 (all.length:Int), .int .i64 (L.clock:Int), .string s] 66 (0,0)))
  case first=>
   go_region_law fail
   all_goals (go_wp2_with fail;go_meet;exact ⟨rfl,BE.out.1,BE.out.2⟩)
  case rest=>
   obtain ⟨rfl,bq,eq⟩:=hcut
   have hlt3:cb < W3.heap.size:=(Array.getElem?_eq_some_iff.1 HE3.out).1
   have y8:=(bq.cell (p:=⟨cb,8,none⟩) hlt3).trans x8
   obtain ⟨u0,_⟩:=cell_of (j:=0) (u:=.int .i64 (all.length:Int)) eq rfl
   obtain ⟨u1,_⟩:=cell_of (j:=1) (u:=.int .i64 (L.clock:Int)) eq rfl
   obtain ⟨u2,_⟩:=cell_of (j:=2) (u:=.string s) eq rfl
   have HOC:=hide (own_belowR HOM.out bq)
   have hBc:B≤wc.heap.size:=Nat.le_trans hB3 bq.size
   have bz:=below_allocG wc (Obj.cells #[.int .i64 (all.length:Int), .int .i64 (L.clock:Int), .string s] 66)
   have y8':=(bz.cell (p:=⟨cb,8,none⟩) (World.block_lt_of_cell? _ _ y8)).trans y8
   have HBQ:=hide bq
   have FN:Hid (∀ W6 v6,(wc.alloc (Obj.cells #[.int .i64 (all.length:Int), .int .i64 (L.clock:Int), .string s] 66)).grownBy W6 (Value.slice am1 L1.mem.length cm1).ownBlock→W6.ownsRow B 66 3 v6 (L1.mem.length + 1) (L1.mem.flatMap eC ++ [.int .i64 (all.length:Int), .int .i64 (L.clock:Int), .string s])→(W6.cell? ⟨cb,8,none⟩=some (.slice am1 L1.mem.length cm1)∧W6.frozen? ⟨cb,8,none⟩=false)∧(W6.cell? ⟨W3.heap.size,0,none⟩=some (.int .i64 (all.length:Int)))∧Below B w (W6.setCell ⟨cb,8,none⟩ v6)∧∃ V',(W6.setCell ⟨cb,8,none⟩ v6).heap[cb]? = some (Obj.cells (rfC V' LF) 234 (0,0))∧RfV Z B (W6.setCell ⟨cb,8,none⟩ v6) V' LF (all ++ [nxE L all s]) ts):=by
    intro W6 v6 g6 o6
    obtain ⟨e6,hz⟩:=HF5.out wc W6 v6 HBQ.out g6 o6
    obtain ⟨w8,z8⟩:=cell_of (j:=8) (u:=.slice am1 L1.mem.length cm1) e6 rfl
    refine ⟨⟨w8,z8⟩,?_,hz⟩
    have t6:=tch_grown g6
    have hW3c:W3.heap.size < wc.heap.size:=(Array.getElem?_eq_some_iff.1 eq).1
    have e6':=(t6.block W3.heap.size hW3c (fun q=>by
     have:=(own_block HOM.out q).2.1
     omega)).trans eq
    exact (cell_of (j:=0) e6' rfl).1
   clear x7 x8 p0 p1 p2 x7' p0' p1' p2' bq bz HF5 HOM HE3 BE
   generalize L1.mem.flatMap eC=xm at *
   generalize L1.mem.length=lm at *
   have hne3:¬ W3.heap.size=cb:=by omega
   generalize W3.heap.size=eb at *
   go_upto_region 14 with fail
   go_region_law (refine step_own_at _ rfl _ _ 57 rfl B 66 i0 (.agg #[.int .i64 0, .int .i64 0, .string ByteArray.empty]) 3 32 Tryz.underlying57 hi0 hz0 hz1 hz2 rfl (by decide) _ _ _ rfl (by exact HOC.out.alloc _) ⟨wc.heap.size,0,none⟩ 1 1 [.int .i64 (all.length:Int), .int .i64 (L.clock:Int), .string s] rfl rfl (by exact cells_new wc.drew _ _ _ rfl) (by intro u hu;simp at hu;rcases hu with rfl | rfl | rfl <;> rfl) (by unfold maxLen;omega) (by omega) (by simp;omega) ?_;intro v6 W6 o6 g6 n6;have g7:(wc.alloc (Obj.cells #[.int .i64 (all.length:Int), .int .i64 (L.clock:Int), .string s] 66)).grownBy W6 (Value.slice am1 lm cm1).ownBlock:=⟨g6.os,g6.tape,g6.output,g6.size,g6.block⟩;obtain ⟨⟨fa,fb⟩,fc,hfin⟩:=FN.out W6 v6 g7 o6;have HFIN:=hide hfin;obtain ⟨a6,c6,rfl,_,_⟩:=own_slice o6;clear o6 g6 g7 n6 hfin)
   all_goals (
    go_wp2_with fail
    go_ret2
    exact ⟨rfl,HFIN.out.1,HFIN.out.2⟩)
end Go.Proofs.YtkncboinfcnklaaGreatDoor.Rl

namespace Go.Proofs.YtkncboinfcnklaaGreatDoor.Rl
open Go.RowKit Go.Deep Go.Shelf Go.Proofs.YtkncboinfcnklaaGreatDoor.Mth
def nwC (m f bk n kp bt:Nat) (av wv:Value):Array Value:=#[.int .i64 (m:Int), .int .i64 (f:Int), .int .i64 (bk:Int), .int .i64 (n:Int), .int .i64 (kp:Int), .int .i64 (bt:Int), .int .i64 0,av, .slice none 0 0, .slice none 0 0, .slice none 0 0, .slice none 0 0, .slice none 0 0, .slice none 0 0, .slice none 0 0,wv, .slice none 0 0, .int .i64 0, .bool false, .slice none 0 0]
def wkNs (k:Nat):List Value:=(List.range k).flatMap (fun _=>[.slice none 0 0, .int .i64 (-1), .int .i64 0])
theorem tch_grown' {w w':World} {o:Obj} {v:Value} (hg:(w.alloc o).grownBy w' v.ownBlock):Tch (fun k=>some k=v.ownBlock) w w':=by
 have b:=below_allocG w o
 exact ⟨hg.os.trans b.os,hg.tape.trans b.tape,hg.output.trans b.output,by have:=hg.size;simp at this;omega,fun k hk hn=>(hg.block k (by simp;omega) hn).trans (b.block k hk)⟩
structure NwX (w W:World) (n:Nat) (C0 X:Array Value):Prop where
 bel:Below n w W
 src:W.heap[n]? = some (Obj.cells C0 56 (0,0))
 res:W.heap[n + 1 + 1]? = some (Obj.cells zrC 234 (0,0))
 x:W.heap[n + 1 + 1 + 1]? = some (Obj.cells X 234 (0,0))
theorem NwX.below {w W W':World} {n:Nat} {C0 X:Array Value} (h:NwX w W n C0 X) (hb:Below W.heap.size W W'):NwX w W' n C0 X:=by
 have h1:=(Array.getElem?_eq_some_iff.1 h.x).1
 exact ⟨h.bel.trans (hb.mono (by omega)),(hb.block _ (by omega)).trans h.src,(hb.block _ (by omega)).trans h.res,(hb.block _ h1).trans h.x⟩
theorem NwX.set {w W:World} {n:Nat} {C0 X:Array Value} (h:NwX w W n C0 X) (j:Nat) (v:Value):NwX w (W.setCell ⟨n + 1 + 1 + 1,j,none⟩ v) n C0 (X.setIfInBounds j v):=
 ⟨below_set h.bel (by omega),(set_other (by omega)).trans h.src,(set_other (by omega)).trans h.res,set_blk h.x⟩
set_option maxRecDepth 100000 in
set_option maxHeartbeats 4000000 in
theorem newR_any {w:World} (m f bk n kp bt:Nat) (hn:1≤n∧n≤4) :
  Calls Tryz.prog 124 #[.agg #[.int .i64 (m:Int), .int .i64 (f:Int), .int .i64 (bk:Int), .int .i64 (n:Int), .int .i64 (kp:Int), .int .i64 (bt:Int)], .agg #[.int .i64 0, .slice none 0 0]] w fun e w'=>∃ av wv,e=.returned (.agg (nwC m f bk n kp bt av wv))∧w'.ownsRow w.heap.size 66 3 av 0 []∧w'.ownsRow w.heap.size 304 3 wv n (wkNs n)∧Below w.heap.size w w':=by
 obtain ⟨p0,hp0,hq0,hq1,hq2⟩:=info_parts Tryz.infoWkr
 obtain ⟨W3,hW3,hb3,e1,e2,e3,hs3⟩:=alloc3 w #[.int .i64 (m:Int), .int .i64 (f:Int), .int .i64 (bk:Int), .int .i64 (n:Int), .int .i64 (kp:Int), .int .i64 (bt:Int)] #[.int .i64 0, .slice none 0 0] zrC 56 228 234
 obtain ⟨C,hC⟩:∃ C,C=nwC m f bk n kp bt (.slice none 0 0) (.slice none 0 0):=⟨_,rfl⟩
 have hsz:(Tryz.prog.info? 234).map (·.size)=some C.size:=by rw [hC];exact Tryz.sizeLog
 have hzC:zrC.size=C.size:=by rw [hC];rfl
 have h1C:C.all (·.oneCell')=true:=by rw [hC];simp [nwC,Value.oneCell']
 have b4:=below_allocG W3 (Obj.cells C 234)
 have k4:=new_blk W3 C 234
 rw [hs3] at k4
 obtain ⟨W4,hW4⟩:∃ W4,W4=W3.alloc (Obj.cells C 234):=⟨_,rfl⟩
 rw [← hW4] at b4 k4
 have HX:Hid (NwX w W4 w.heap.size #[.int .i64 (m:Int), .int .i64 (f:Int), .int .i64 (bk:Int), .int .i64 (n:Int), .int .i64 (kp:Int), .int .i64 (bt:Int)] C):=⟨hb3.trans (b4.mono (by omega)),(b4.block _ (by omega)).trans e1,(b4.block _ (by omega)).trans e3,k4⟩
 have hk:W4.heap[w.heap.size + 1]? = some (Obj.cells #[.int .i64 0, .slice none 0 0] 228 (0,0)):=(b4.block _ (by omega)).trans e2
 have hlz:(W3.alloc (Obj.cells zrC 234)).heap[w.heap.size + 1 + 1 + 1]? = some (Obj.cells zrC 234 (0,0)):=by rw [← hs3];exact heap_alloc_last _ _
 have hsr:(W3.alloc (Obj.cells zrC 234)).setRow (w.heap.size + 1 + 1 + 1) C=W4:=by rw [← hs3,hW4];exact World.setRow_alloc_new _ _ _ _
 have HHK:=hide hk
 have HE1:=hide e1
 have HHC:=hide hC
 have HS3:=hide hs3
 have HLZ:=hide hlz
 have HSR:=hide hsr
 have HW3:=hide hW3
 clear hb3 e1 e2 e3 hs3 b4 k4 hW4 hk hlz hsr hW3 hC
 have hCe:Hid (Value.agg #[.int .i64 (m:Int), .int .i64 (f:Int), .int .i64 (bk:Int), .int .i64 (n:Int), .int .i64 (kp:Int), .int .i64 (bt:Int), .int .i64 0, .slice none 0 0, .slice none 0 0, .slice none 0 0, .slice none 0 0, .slice none 0 0, .slice none 0 0, .slice none 0 0, .slice none 0 0, .slice none 0 0, .slice none 0 0, .int .i64 0, .bool false, .slice none 0 0]=Value.agg C):=by show _=_;rw [HHC.out];rfl
 have hlz2:=HLZ.out
 have hw3:=HW3.out
 unfold zrC at hw3
 go_enter Tryz.func124,Tryz.ntmps124
 go_upto_region 1 with fail
 rw [← hw3]
 clear hw3
 obtain ⟨d0,_⟩:=cell_of (j:=0) (u:=.int .i64 (m:Int)) HE1.out rfl
 obtain ⟨d1,_⟩:=cell_of (j:=1) (u:=.int .i64 (f:Int)) HE1.out rfl
 obtain ⟨d2,_⟩:=cell_of (j:=2) (u:=.int .i64 (bk:Int)) HE1.out rfl
 obtain ⟨d3,_⟩:=cell_of (j:=3) (u:=.int .i64 (n:Int)) HE1.out rfl
 obtain ⟨d4,_⟩:=cell_of (j:=4) (u:=.int .i64 (kp:Int)) HE1.out rfl
 obtain ⟨d5,_⟩:=cell_of (j:=5) (u:=.int .i64 (bt:Int)) HE1.out rfl
 have hsW:=HS3.out
 go_upto_region 2 with (first
  | (refine wpList_store_row rfl 234 (.tmp 5) (.tmp 9) rfl (w.heap.size + 1 + 1 + 1) C rfl hCe.out 234 zrC HLZ.out hsz hzC h1C ?_))
 have hsr':=HSR.out
 unfold zrC at hsr'
 rw [hsr']
 clear hsr' hlz2 d0 d1 d2 d3 d4 d5 HE1
 obtain ⟨k0,_⟩:=cell_of (j:=0) (u:=.int .i64 0) HHK.out rfl
 obtain ⟨k1,_⟩:=cell_of (j:=1) (u:=.slice none 0 0) HHK.out rfl
 have CK:=hide (copyK_any (w:=W4) (B:=0) (c:=0) (av:=.slice none 0 0) (all:=[]) (World.ownsRow_nil _ _ _ _) (by simp))
 have F2:Hid (∀ W5 v5,W5.ownsRow W4.heap.size 66 3 v5 0 []→Below W4.heap.size W4 W5→NwX w W5 w.heap.size #[.int .i64 (m:Int), .int .i64 (f:Int), .int .i64 (bk:Int), .int .i64 (n:Int), .int .i64 (kp:Int), .int .i64 (bt:Int)] C∧W5.heap[w.heap.size + 1]? = some (Obj.cells #[.int .i64 0, .slice none 0 0] 228 (0,0))∧∀ W6,W6=(W5.setCell ⟨w.heap.size + 1 + 1 + 1,6,none⟩ (.int .i64 0)).setCell ⟨w.heap.size + 1 + 1 + 1,7,none⟩ v5→NwX w W6 w.heap.size #[.int .i64 (m:Int), .int .i64 (f:Int), .int .i64 (bk:Int), .int .i64 (n:Int), .int .i64 (kp:Int), .int .i64 (bt:Int)] (nwC m f bk n kp bt v5 (.slice none 0 0))∧W6.ownsRow w.heap.size 66 3 v5 0 []):=by
  intro W5 v5 o5 b5
  have x5:=HX.out.below b5
  have hlt:=(Array.getElem?_eq_some_iff.1 HX.out.x).1
  have hk5:=(b5.block _ (by omega)).trans HHK.out
  refine ⟨x5,hk5,fun W6 hW6=>?_⟩
  subst hW6
  have x6:=(x5.set 6 (.int .i64 0)).set 7 v5
  have e:(C.setIfInBounds 6 (.int .i64 0)).setIfInBounds 7 v5=nwC m f bk n kp bt v5 (.slice none 0 0):=by rw [HHC.out];rfl
  rw [e] at x6
  exact ⟨x6,own_mono (own_set_other (own_set_other o5 x5.x (by decide)) (x5.set 6 _).x (by decide)) (by omega)⟩
 have hC6:C[6]? = some (.int .i64 0):=by rw [HHC.out];rfl
 have hC7:C[7]? = some (.slice none 0 0):=by rw [HHC.out];rfl
 clear HHK HLZ HSR HW3 hCe
 generalize hnn:w.heap.size=nb at *
 have HNB:=hide hnn
 clear hnn
 go_upto_region 6 with (first | (go_at_call 199;refine CK.out.mono ?_;rintro e W5 ⟨av',rfl,o5,b5⟩;obtain ⟨x5,k5,h6⟩:=F2.out W5 av' o5 b5;obtain ⟨p6,q6⟩:=cell_of x5.x hC6;obtain ⟨p7,q7⟩:=cell_of x5.x hC7;obtain ⟨l1,_⟩:=cell_of (j:=1) (u:=.slice none 0 0) k5 rfl;have H6:=hide h6;obtain ⟨a5,c5,rfl,_,_⟩:=own_slice o5;clear o5 b5 x5 k5 h6))
 obtain ⟨W6,hW6⟩:∃ W6,W6=(W5.setCell ⟨nb + 1 + 1 + 1,6,none⟩ (.int .i64 0)).setCell ⟨nb + 1 + 1 + 1,7,none⟩ (.slice a5 0 c5):=⟨_,rfl⟩
 obtain ⟨x6,o6⟩:=H6.out W6 hW6
 rw [← hW6]
 clear hW6 H6 F2 CK p6 q6 p7 q7 l1 HX k0 k1
 have HX6:=hide x6
 have HO6:=hide o6
 clear x6 o6
 have NX:Hid (∀ wr k v W7 v7,NwX w wr nb #[.int .i64 (m:Int), .int .i64 (f:Int), .int .i64 (bk:Int), .int .i64 (n:Int), .int .i64 (kp:Int), .int .i64 (bt:Int)] (nwC m f bk n kp bt (.slice a5 0 c5) v)→wr.ownsRow nb 66 3 (.slice a5 0 c5) 0 []→wr.ownsRow nb 304 3 v k (wkNs k)→(wr.alloc (Obj.cells #[.slice none 0 0, .int .i64 (-1), .int .i64 0] 304)).grownBy W7 v.ownBlock→W7.ownsRow nb 304 3 v7 (k + 1) (wkNs k ++ [.slice none 0 0, .int .i64 (-1), .int .i64 0])→(W7.cell? ⟨nb + 1 + 1 + 1,15,none⟩=some v∧W7.frozen? ⟨nb + 1 + 1 + 1,15,none⟩=false)∧NwX w (W7.setCell ⟨nb + 1 + 1 + 1,15,none⟩ v7) nb #[.int .i64 (m:Int), .int .i64 (f:Int), .int .i64 (bk:Int), .int .i64 (n:Int), .int .i64 (kp:Int), .int .i64 (bt:Int)] (nwC m f bk n kp bt (.slice a5 0 c5) v7)∧(W7.setCell ⟨nb + 1 + 1 + 1,15,none⟩ v7).ownsRow nb 66 3 (.slice a5 0 c5) 0 []∧(W7.setCell ⟨nb + 1 + 1 + 1,15,none⟩ v7).ownsRow nb 304 3 v7 (k + 1) (wkNs (k + 1))):=by
  intro wr k v W7 v7 x oe ow g7 o7
  have t7:=tch_grown' g7
  have hlt:=(Array.getElem?_eq_some_iff.1 x.x).1
  have ne:∀ b C' t,wr.heap[b]? = some (Obj.cells C' t (0,0))→t≠304→¬ some b=v.ownBlock:=fun b C' t hb ht q=>by
   obtain ⟨_,_,D,hD⟩:=own_block ow q
   exact ht (cells_ty hb hD)
  have x7:NwX w W7 nb _ _:=⟨⟨t7.os.trans x.bel.os,t7.tape.trans x.bel.tape,t7.output.trans x.bel.output,Nat.le_trans x.bel.size t7.size,fun b hb=>(t7.block b (by omega) (fun q=>by have:=(own_block ow q).1;omega)).trans (x.bel.block b hb)⟩,(t7.block _ (by omega) (ne _ _ _ x.src (by decide))).trans x.src,(t7.block _ (by omega) (ne _ _ _ x.res (by decide))).trans x.res,(t7.block _ hlt (ne _ _ _ x.x (by decide))).trans x.x⟩
  refine ⟨cell_of (j:=15) x7.x rfl,x7.set 15 v7,own_set_other (own_same oe (fun g hg=>t7.block g (own_block oe hg).2.1 (by obtain ⟨_,_,D,hD⟩:=own_block oe hg;exact ne _ _ _ hD (by decide)))) x7.x (by decide),own_set_other ?_ x7.x (by decide)⟩
  unfold wkNs at o7 ⊢
  rw [List.range_succ,List.flatMap_append]
  simpa using o7
 go_wp2_with fail
 go_loopw [7] (fun i wr=>∃ k:Nat,k≤n∧i=.int .i64 k∧∃ v,NwX w wr nb #[.int .i64 (m:Int), .int .i64 (f:Int), .int .i64 (bk:Int), .int .i64 (n:Int), .int .i64 (kp:Int), .int .i64 (bt:Int)] (nwC m f bk n kp bt (.slice a5 0 c5) v)∧wr.ownsRow nb 66 3 (.slice a5 0 c5) 0 []∧wr.ownsRow nb 304 3 v k (wkNs k)) (fun i _=>n - (intOf i).toNat)
 case atStart=>exact ⟨0,Nat.zero_le _,rfl,_,HX6.out,HO6.out,World.ownsRow_nil _ _ _ _⟩
 case round=>
  obtain ⟨k,hk,rfl,v,x,oe,ow⟩:=hrel
  obtain ⟨d3,_⟩:=cell_of (j:=3) (u:=.int .i64 (n:Int)) x.src rfl
  have HXX:=hide x
  have HOE:=hide oe
  have HOW:=hide ow
  by_cases hlt:k < n
  ·obtain ⟨d15,_⟩:=cell_of (j:=15) (u:=v) x.x rfl
   have hnx:=NX.out wr k v
   obtain ⟨av,cv,rfl,_,_⟩:=own_slice ow
   have HNX:Hid (∀ W7 v7,_):=fun W7 v7=>hnx W7 v7 x oe ow
   have hsz':nb≤wr.heap.size:=by have:=(Array.getElem?_eq_some_iff.1 x.x).1;omega
   clear x oe ow hnx
   generalize wkNs k=xs at *
   go_wp2_with (first | (at_builtin;refine wpList_append_both _ rfl _ _ 230 rfl nb 0 304 p0 (.agg #[.slice none 0 0, .int .i64 0, .int .i64 0]) 3 40 Tryz.underlying230 hp0 hq0 hq1 hq2 rfl (by decide) _ _ _ rfl (own_belowR HOW.out (below_allocG _ _)) _ _ _ rfl (World.ownsRow_lit wr #[.slice none 0 0, .int .i64 (-1), .int .i64 0] 1 (Nat.zero_le _) (by decide) rfl) (by intro u hu;simp at hu;rcases hu with rfl | rfl | rfl <;> rfl) (by unfold maxLen;omega) (by omega) (by simp;omega) ?_;intro v7 W7 o7 g7 n7;obtain ⟨⟨r0,r1⟩,r2⟩:=HNX.out W7 v7 g7 o7;have HR2:=hide r2;obtain ⟨b6,d6,rfl,_,_⟩:=own_slice o7;clear r2 o7 g7 n7))
   go_roundw
   case rel=>exact ⟨k + 1,by omega,by go_num,_,HR2.out⟩
   case measure=>simp [intOf];omega
  ·have hkn:k=n:=by omega
   obtain ⟨D,hD⟩:∃ D,D=nwC m f bk n kp bt (.slice a5 0 c5) v:=⟨_,rfl⟩
   rw [← hD] at x
   have hDs:(Tryz.prog.info? 234).map (·.size)=some D.size:=by rw [hD];exact Tryz.sizeLog
   have hDz:zrC.size=D.size:=by rw [hD];rfl
   have hone:D.all (·.oneCell')=true:=by
    obtain ⟨a,c,e,_,_⟩:=own_slice ow
    rw [hD,e]
    simp [nwC,Value.oneCell']
   have dx:=x.x
   have dr:=x.res
   have HK:=hide hkn
   have HD:=hide hD
   have HX9:=hide x
   clear x oe ow hkn hD HXX
   go_wp2_with (first
    | (refine wpList_load_row rfl 234 (.tmp 5) rfl (nb + 1 + 1 + 1) rfl 234 D (0,0) _ dx Tryz.underlying234 rfl hDs ?_)
    | (refine wpList_store_row rfl 234 (.tmp 4) (.tmp 36) rfl (nb + 1 + 1) D rfl rfl 234 zrC dr hDs hDz hone ?_))
   have r1:=row_same (D:=D) HX9.out.res
   have hld:=run_loadVar_row (P:=Tryz.prog) (wr.setRow (nb + 1 + 1) D) (nb + 1 + 1) 234 234 D (0,0) _ r1 Tryz.underlying234 rfl hDs
   refine bodyPost_ret (v:=.agg D) ?_ rfl ⟨_,_,by rw [HD.out],?_,?_,?_⟩
   ·rw [results_cellG rfl]
    simp [Act.put,asAddr,Result.andThen,hld]
   ·rw [HNB.out];exact own_row_other HOE.out HX9.out.res (by decide)
   ·rw [HNB.out,← HK.out];exact own_row_other HOW.out HX9.out.res (by decide)
   ·rw [HNB.out]
    have b:=HX9.out.bel
    exact ⟨b.os,b.tape,b.output,by simpa [World.setRow] using b.size,fun g hg=>(row_other (by omega)).trans (b.block g hg)⟩
end Go.Proofs.YtkncboinfcnklaaGreatDoor.Rl
