import Derived.Test.YtkncboinfcnklaaGreatDoorQ38
import Derived.Test.YtkncboinfcnklaaGreatDoorQ34
import Derived.Test.YtkncboinfcnklaaGreatDoorQ35
import Derived.Test.YtkncboinfcnklaaGreatDoorQ21
import Derived.Test.YtkncboinfcnklaaGreatDoorQ37
namespace Go.Proofs.YtkncboinfcnklaaGreatDoor.Rl
open Go.RowKit Go.Deep Go.Shelf Go.Proofs.YtkncboinfcnklaaGreatDoor.Mth
theorem stepR_any {Z:Nat→Prop} {w:World} {B cb:Nat} {V:Rv} {L:Lg} {all:List Ent} {ts:List Tl} (hb:w.heap[cb]? = some (Obj.cells (rfC V L) 234 (0,0))) (h:RfV Z B w V L all ts) (hD:RfD B V L) (hZ:∀ g,B≤g→Z g) (hB:B≤w.heap.size) (hcbB:B≤cb) (hI:Inv L all) (hM:all.length≤1048576) (hw4:L.wks.length≤4) (hnd:∀ q,q < L.wks.length→(L.wks.getD q wk0).list.length≤900) (hN:Need L (ndT all.length ts)) {q:Nat} (hq:q < L.wks.length) :
  Calls Tryz.prog 206 #[ptrV cb, .int .i64 (q:Int)] w fun e w'=>∃ r L',e=.returned (.tuple #[.int .i64 r, .int .i64 0])∧StepR L q r L'∧Below B w w'∧TyF w w'∧∃ V',w'.heap[cb]? = some (Obj.cells (rfC V' L') 234 (0,0))∧RfV Z B w' V' L' all ts:=by
 have hrd:=hI.rd q hq
 have hwl:∀ q,q < L.wks.length→(L.wks.getD q wk0).list.length≤1000:=fun q hq=>by have:=hnd q hq;omega
 have hcf:=hI.cfg
 cases hr:(L.wks.getD q wk0).runs with
 | none=>
  have hr0:=hrd.2 hr
  by_cases hl:0 < (L.wks.getD q wk0).list.length
  ·refine (stepR_take hb h.wks hq hr (fun r w'=>r=1∧Below B w w'∧TyF w w'∧∃ V',w'.heap[cb]? = some (Obj.cells (rfC V' { L with wks:=tkW L.wks q ((L.wks.getD q wk0).list.length - 1) q ((L.wks.getD q wk0).list.getD ((L.wks.getD q wk0).list.length - 1) 0) }) 234 (0,0))∧RfV Z B w' V' { L with wks:=tkW L.wks q ((L.wks.getD q wk0).list.length - 1) q ((L.wks.getD q wk0).list.getD ((L.wks.getD q wk0).list.length - 1) 0) } all ts) ((takesR_own hb h.wks h.lst hw4 hwl hB hq (a:=(L.wks.getD q wk0).list.length - 1) (by omega)).mono ?_)).mono ?_
   ·rintro e w' ⟨v,rfl,t1,t2,t3⟩
    exact ⟨1,rfl,rfl,tk_rfv hb h hB hq hq hr0 t1 t2 t3⟩
   ·rintro e w' ⟨r,rfl,rfl,h1,ht,V',h2,h3⟩
    refine ⟨1,_,rfl,?_,h1,ht,V',h2,h3⟩
    unfold StepR
    rw [hr]
    simp only
    rw [if_pos hl]
    exact ⟨trivial,rfl⟩
  ·have hl0:(L.wks.getD q wk0).list.length=0:=by omega
   by_cases hbz:(L.wks.getD (bst L.wks L.wks.length) wk0).list.length=0
   ·refine (stepR_take hb h.wks hq hr (fun r w'=>r=0∧Below w.heap.size w w') ((takesR_none hb h.wks h.lst hw4 hwl hB hq (fun p hp=>bst_zero _ hbz p hp)).mono ?_)).mono ?_
    ·rintro e w' ⟨rfl,hbw⟩
     exact ⟨0,rfl,rfl,hbw⟩
    ·rintro e w' ⟨r,rfl,rfl,hbw⟩
     refine ⟨0,L,rfl,?_,hbw.mono hB,TyF.below hbw,V,(hbw.block cb (Array.getElem?_eq_some_iff.1 hb).1).trans hb,h.below hbw⟩
     unfold StepR
     rw [hr]
     simp only
     rw [if_neg hl,if_pos hbz]
     exact ⟨trivial,trivial⟩
   ·have hfl:bst L.wks L.wks.length < L.wks.length:=bst_lt _ _ (by omega)
    refine (stepR_take hb h.wks hq hr (fun r w'=>r=1∧Below B w w'∧TyF w w'∧∃ V',w'.heap[cb]? = some (Obj.cells (rfC V' { L with wks:=tkW L.wks (bst L.wks L.wks.length) 0 q ((L.wks.getD (bst L.wks L.wks.length) wk0).list.getD 0 0) }) 234 (0,0))∧RfV Z B w' V' { L with wks:=tkW L.wks (bst L.wks L.wks.length) 0 q ((L.wks.getD (bst L.wks L.wks.length) wk0).list.getD 0 0) } all ts) ((takesR_best hb h.wks h.lst hw4 hwl hB hq hl0 (f:=bst L.wks L.wks.length) rfl (by omega)).mono ?_)).mono ?_
    ·rintro e w' ⟨v,rfl,t1,t2,t3⟩
     exact ⟨1,rfl,rfl,tk_rfv hb h hB hq hfl hr0 t1 t2 t3⟩
    ·rintro e w' ⟨r,rfl,rfl,h1,ht,V',h2,h3⟩
     refine ⟨1,_,rfl,?_,h1,ht,V',h2,h3⟩
     unfold StepR
     rw [hr]
     simp only
     rw [if_neg hl,if_neg hbz]
     exact ⟨trivial,rfl⟩
 | some i=>
  have hct:0 < ct L.wks i:=Nat.lt_of_lt_of_le (by unfold tc;rw [hr];simp) (le_sum (tc i) (getD_mem' hq))
  obtain ⟨hi4,hif⟩:=hI.big i hct
  have h3:=hrd.1 i hr
  have hlf:=hI.levFlat i L.fan (by omega)
  refine (stepR_run hb h hB hq hr hw4 (by omega) (by omega) (fun W V' hbW hW e1 e2 e3 e4 e5 bW tW hnf=>?_)).mono ?_
  ·have hset:∀ p,(L.wks.set q ⟨(L.wks.getD q wk0).list,none,0⟩).getD p wk0=if p=q then ⟨(L.wks.getD q wk0).list,none,0⟩ else L.wks.getD p wk0:=fun p=>getD_setW hq
   refine (endsR_any (L:={ L with wks:=L.wks.set q ⟨(L.wks.getD q wk0).list,none,0⟩ }) hbW hW ⟨by rw [e4,e5];exact hD.am,by rw [e2];exact hD.lev,?_,by rw [e3];exact hD.sg⟩ hZ (Nat.le_trans hB bW.size) hcbB hi4 hif ⟨by show 1≤L.fan;omega,hcf.2.1.2⟩ ⟨?_,?_⟩ (fun p hp=>?_) (fun j hj=>?_) hI.clk hcf.2.2.2.1.2 (fun es hes e he=>?_) ?_).mono ?_
   ·show ∀ a b,a < (L.wks.set q _).length→b < (L.wks.set q _).length→_
    rw [List.length_set,e1]
    exact hD.lst
   ·show 0 < (L.wks.set q _).length
    rw [List.length_set];omega
   ·show (L.wks.set q _).length≤4
    rw [List.length_set];omega
   ·have hp':p < L.wks.length:=by rw [← List.length_set (i:=q) (a:=(⟨(L.wks.getD q wk0).list,none,0⟩:Wk))];exact hp
    show ((L.wks.set q ⟨(L.wks.getD q wk0).list,none,0⟩).getD p wk0).list.length≤900
    rw [hset]
    by_cases e:p=q
    ·rw [if_pos e];exact hnd q hq
    ·rw [if_neg e];exact hnd p hp'
   ·have:=hI.lev j hj
    show (L.lev j).length≤_
    omega
   ·have:=hI.ok.bd e ((hI.segSub (lev_segs (by omega) hes)).subset he)
    have hck:=hI.clk
    omega
   ·show ((L.lev i).take L.fan).flatten.length≤_
    omega
   ·rintro e w' ⟨rfl,b1,t1,V'',b2,b3⟩
    exact ⟨rfl,bW.trans b1,tW.trans t1,V'',b2,b3⟩
  ·rintro e w' ⟨r,L',rfl,hc,h1,ht,V',h2,h3'⟩
   refine ⟨r,L',rfl,?_,h1,ht,V',h2,h3'⟩
   unfold StepR
   rw [hr]
   simp only
   rcases hc with ⟨hc1,hc2,hc3⟩ | ⟨hc1,hc2,hc3⟩
   ·rw [if_pos hc1]
    exact ⟨hc2,hc3⟩
   ·rw [if_neg hc1]
    exact ⟨hc2,_,hN,hc3⟩
end Go.Proofs.YtkncboinfcnklaaGreatDoor.Rl

namespace Go.Proofs.YtkncboinfcnklaaGreatDoor.Lw
open Go.RowKit Go.Deep Go.Shelf Go.Proofs.YtkncboinfcnklaaGreatDoor.Mth Go.Proofs.YtkncboinfcnklaaGreatDoor.Rl
theorem stp_put {W W2 w' w3:World} {ρ ρ':Nat→Nat} {B N lb:Nat} {G':Gh} {L':Lg} (hl:∀ k,ρ k≠0→k < W.heap.size) (hb:Below W.heap.size W W2) (hn:∀ k,W.heap.size≤k→k < W2.heap.size→¬ isN W2 k) (hs:LStp W2 w' ρ ρ') (hg:LogAt w' ρ' B N lb G' L') (ht:Tch (fun k=>W.heap.size≤k∧k < W2.heap.size) w' w3):LogAt w3 ρ' B N lb G' L'∧LStp W w3 ρ ρ':=by
 have hr0:∀ k,W.heap.size≤k→ρ k=0:=fun k hk=>by
  by_cases q:ρ k=0
  ·exact q
  ·have:=hl k q;omega
 have hr':∀ k,W.heap.size≤k→k < W2.heap.size→ρ' k=0:=fun k h1 h2=>hs.old k h2 (hr0 k h1)
 have hsm:∀ k,W.heap.size≤k→k < W2.heap.size→w'.heap[k]? = W2.heap[k]? := fun k h1 h2=>hs.tch.block k h2 (fun q=>q.1 (hr0 k h1))
 have hs1:=hs.tch.size
 have hN:∀ k,k < W.heap.size→(isN W2 k↔isN W k):=fun k hk=>by
  unfold isN
  rw [hb.block k hk]
 refine ⟨hg.same (fun g q=>ht.block g ?_ (fun s=>?_)) ht.size,⟨⟨ht.os.trans (hs.tch.os.trans hb.os),ht.tape.trans (hs.tch.tape.trans hb.tape),ht.output.trans (hs.tch.output.trans hb.output),Nat.le_trans hb.size (Nat.le_trans hs1 ht.size),fun k hk hne=>?_⟩,fun k hk q=>hs.old k (Nat.lt_of_lt_of_le hk hb.size) q⟩⟩
 ·rcases q with q | q
  ·exact (hg.x.lt g q).1
  ·exact isN_lt q
 ·rcases q with q | q
  ·exact q (hr' g s.1 s.2)
  ·refine hn g s.1 s.2 ?_
   obtain ⟨C,fr,h1⟩:=q
   exact ⟨C,fr,by rw [← hsm g s.1 s.2];exact h1⟩
 ·have hk2:=Nat.lt_of_lt_of_le hk hb.size
  rw [ht.block k (Nat.lt_of_lt_of_le hk2 hs1) (fun q=>by omega),hs.tch.block k hk2 (fun q=>hne ⟨q.1,fun z=>q.2 ((hN k hk).2 z)⟩)]
  exact hb.block k hk
structure AkR (P:Lg→List Tl→Prop) (M:Nat) (o:Opr) (W w3:World) (x:Ho) (a b:Int) (te:Value) (L':Lg) (ts':List Tl) (ρ':Nat→Nat) (G':Gh) (le:List Ent):Prop where
 log:LogAt w3 ρ' x.B x.N x.lb G' L'
 stp:LStp W w3 x.ρ ρ'
 left:G'.left=-1
 db:G'.db=x.d
 dt:G'.dt.size≤64 * (M + 1)
 inv:Inv L' x.all
 tl:P L' ts'
 cfg:L'.memory=x.L.memory∧L'.fan=x.L.fan∧L'.back=x.L.back∧L'.wks.length=x.L.wks.length∧L'.keep=x.L.keep∧L'.batch=x.L.batch
 own:w3.ownsRow W.heap.size 66 3 te le.length (le.flatMap eC)
 len:le.length≤1100000
 ro:∀ g,some g=te.ownBlock→ρ' g=0
 ans:∀ (Z1:Nat→Prop) (B1:Nat) (W1:World) (cb:Nat) (V':Rv),W1.heap[cb]? = some (Obj.cells (rfC V' x.L) 234 (0,0))→RfV Z1 B1 W1 V' x.L x.all x.ts→RfD B1 V' x.L→(∀ g,B1≤g→Z1 g)→B1≤W1.heap.size→B1≤cb→Calls Tryz.prog 134 #[ptrV cb,oV o] W1 fun e W'=>∃ ue,e=.returned (.agg (toA a b ue (.slice none 0 0)))∧W'.ownsRow W1.heap.size 66 3 ue le.length (le.flatMap eC)∧Below B1 W1 W'∧∃ V2,W'.heap[cb]? = some (Obj.cells (rfC V2 L') 234 (0,0))∧RfV Z1 B1 W' V2 L' x.all ts'
theorem asksG_any {P:Lg→List Tl→Prop} {Z:Nat→Prop} {w:World} {B wb:Nat} {g0 g1 g2 g3 hv ke ks kr:Value} {Ne Ns Nr M:Nat} {hs:List Ho} {i:Nat} (h:HI P Z w B wb g0 g1 g2 g3 hv ke ks kr Ne Ns Nr M hs none) (hi:i < hs.length) (hBw:B≤w.heap.size) (o:Opr) (hM:M + 2≤400000) (hPt:∀ L ts,P L ts→ts.length≤1000)
  (hask:∀ W,Below w.heap.size w W→HoAt P Z W M (hs.getD i h0)→Calls Tryz.prog 133 #[ptrV (hs.getD i h0).lb,oV o] W fun e w3=>∃ a b te L' ts' ρ' G' le,e=.returned (.agg (toA a b te (.slice none 0 0)))∧AkR P M o W w3 (hs.getD i h0) a b te L' ts' ρ' G' le) :
  Calls Tryz.prog 69 #[ptrV wb,ptrV (hs.getD i h0).hb,oV o] w fun e w'=>e=.returned (.bool true)∧HS P Z w w' B wb g0 g1 g2 g3 (M + 2):=by
 obtain ⟨W0,hW0⟩:∃ W0,W0=w.alloc (Obj.cells #[.int .i64 o.k, .int .i64 o.A, .int .i64 o.B, .int .i64 o.C, .string o.S, .string o.T] 94):=⟨_,rfl⟩
 have b0:Below w.heap.size w W0:=by rw [hW0];exact below_allocG _ _
 have s0:W0.heap.size=w.heap.size + 1:=by rw [hW0];simp
 have k0:W0.heap[w.heap.size]? = some (Obj.cells #[.int .i64 o.k, .int .i64 o.A, .int .i64 o.B, .int .i64 o.C, .string o.S, .string o.T] 94 (0,0)):=by rw [hW0];exact new_blk _ _ _
 have hbm:Mu wb hv ke ks kr (hs.map Ho.hb) (hs.getD i h0).hb:=Or.inr (Or.inr (Or.inr (Or.inr (Or.inr (hb_mem hi)))))
 have hbl:=h.mlt hbm
 have hob0:=(h.below b0).hob i hi
 have hmb:=h.mb
 have hne:(hs.getD i h0).hb≠wb:=fun e=>by
  have h1:=h.hob i hi
  rw [e] at h1
  exact absurd (cells_ty h1 h.blk) (by decide)
 have hrl:∀ k,(hs.getD i h0).ρ k≠0→k < w.heap.size:=fun k hk=>(h.lt i hi k hk).1
 have hr0:∀ k,w.heap.size≤k→(hs.getD i h0).ρ k=0:=fun k hk=>by
  by_cases q:(hs.getD i h0).ρ k=0
  ·exact q
  ·have:=hrl k q;omega
 refine asks_walk o (fun w'=>HS P Z w w' B wb g0 g1 g2 g3 (M + 2)) hW0 rfl hbl hne (cell_of (j:=0) hob0 rfl).1 (fun W hW hnn=>?_)
 have bW:Below w.heap.size w W:=b0.trans (hW.mono b0.size)
 have hsW:=hW.size
 have hxW:=((h.below bW).punch hi).2
 refine (hask W bW hxW).mono ?_
 rintro e w2 ⟨a,b,te,L',ts',ρ',G',le,rfl,hr⟩
 have hs2:=hr.stp.tch.size
 have hrbl:(hs.getD i h0).ρ (hs.getD i h0).hb=0:=h.rm _ hbm i hi
 refine ⟨a,b,te,_,rfl,isS_own hr.own,⟨_,_,_,rfl⟩,fun g h1 hg=>hr.stp.tch.block g hg (fun q=>q.1 (hr0 g (by omega))),hs2,(hr.stp.tch.block _ (by omega) (fun q=>q.1 hrbl)).trans (hW.block _ (by omega)),(hr.stp.tch.block _ (by omega) (fun q=>q.1 (hr0 _ (Nat.le_refl _)))).trans (hW.block _ (by omega)),?_⟩
 intro w2' tb htc htl htb
 obtain ⟨hlg,hst⟩:=stp_put (W:=W0) (W2:=W) (fun k hk=>by have:=hrl k hk;omega) hW hnn hr.stp hr.log htc
 have hs2':=htc.size
 have hs02:W0.heap.size≤w2'.heap.size:=hst.tch.size
 obtain ⟨hp0,hx0⟩:=(h.below b0).punch hi
 obtain ⟨c1,c2,c3,c4,c5,c6⟩:=hr.cfg
 obtain ⟨p1,p2⟩:=hp0.prog hi hst G' L' (hs.getD i h0).N (hs.getD i h0).all ts' (by unfold hoC;rw [c1,c2,c3,c4,c5,c6]) hlg.x.lt
 obtain ⟨x1,hx1⟩:∃ x1:Ho,x1={ (hs.getD i h0) with ρ:=ρ',G:=G',L:=L',N:=(hs.getD i h0).N,all:=(hs.getD i h0).all,ts:=ts' }:=⟨_,rfl⟩
 rw [← hx1] at p1
 have e1:x1.hb=(hs.getD i h0).hb:=by rw [hx1]
 have e2:x1.mv=(hs.getD i h0).mv:=by rw [hx1]
 have e3:x1.L=L':=by rw [hx1]
 have e4:x1.all=(hs.getD i h0).all:=by rw [hx1]
 have e5:x1.ts=ts':=by rw [hx1]
 have e6:x1.ρ=ρ':=by rw [hx1]
 have e7:x1.G=G':=by rw [hx1]
 have e8:x1.d=(hs.getD i h0).d:=by rw [hx1]
 have e9:x1.B=(hs.getD i h0).B∧x1.N=(hs.getD i h0).N∧x1.lb=(hs.getD i h0).lb:=by rw [hx1];exact ⟨rfl,rfl,rfl⟩
 have hgd:(hs.set i x1).getD i h0=x1:=by rw [getD_set hi,if_pos rfl]
 have hsl1:(hs.set i x1).length=hs.length:=List.length_set
 have hi1:i < (hs.set i x1).length:=by rw [hsl1];exact hi
 have em1:=map_hb_set (x:=x1) hi e1
 clear hx1
 have hbd:=hx0.bud
 have hob2:=p1.hob i hi1
 rw [hgd,e1] at hob2
 have k2:w2'.heap[w.heap.size]? = _:=(hst.tch.block _ (by omega) (fun q=>q.1 (hr0 _ (Nat.le_refl _)))).trans k0
 have hw4:=hx0.log.x.k.few
 have hwl:∀ q,q < (hs.getD i h0).L.wks.length→((hs.getD i h0).L.wks.getD q wk0).list.length≤900:=fun q hq=>by have:=wk_len (hx0.log.x.k.ok q hq);omega
 have o2':w2'.ownsRow W.heap.size 66 3 te le.length (le.flatMap eC):=own_same hr.own (fun g hg=>htc.block g (own_block hr.own hg).2.1 (fun q=>by have:=(own_block hr.own hg).1;omega))
 have c9:=cell_of (j:=9) (u:=x1.mv) hob2 rfl
 rw [e2] at c9
 have bB2:Below B w w2':=(b0.mono hBw).trans (Rl.below_tch0 hst.tch (fun k q=>Nat.le_trans (h.hge i hi).1 (hx0.log.x.lt k q.1).2) (by omega))
 have hzk:∀ g,Z g→w2'.heap[g]? = w.heap[g]? := fun g hg=>(p2 g hg).trans (b0.block g (h.zm g hg).1)
 obtain ⟨mb,mc,C,hq⟩:=ak_of (wb:=wb) (FQ:=fun w'=>HS P Z w w' B wb g0 g1 g2 g3 (M + 2)) (L':=L') (al:=(hs.getD i h0).all) (ts':=ts') (o:=o) htl ⟨isS_own hr.own,⟨_,_,_,rfl⟩⟩ c9 k2 (own_same hx0.may (fun g hg=>p2 g (hx0.mz g hg))) (hx0.ref.same hx0.rz p2) (fun g hg=>(p1.zm g hg).1) hx0.inv (by omega) hw4.2 hwl (hPt _ _ hx0.tl) (fun W1 cb V' hbW hcb hrf hd hc=>by
  refine (hr.ans (fun g=>Z g∨w2'.heap.size≤g) w2'.heap.size W1 cb V' hcb hrf hd (fun g hg=>Or.inr hg) hbW.size hc).mono ?_
  rintro e W' ⟨ue,rfl,o3,b3,V2,f1,f2⟩
  refine ⟨ue,_,rfl,isS_own o3,⟨_,_,_,rfl⟩,fun W6 h6=>?_,fun W6 _=>sameRowsN W6,b3,V2,f1,f2⟩
  have b6:Below w2'.heap.size w2' W6:=hbW.trans (b3.trans (h6.mono (Nat.le_trans hbW.size b3.size)))
  exact sameEntries_any (rdE_own (own_belowR o2' b6)) (rdE_own (own_belowR o3 h6))) (fun mv W10 hrt=>by
  obtain ⟨V2,hrt⟩:=hrt
  have hrt':RfT Z w2' W10 ((hs.set i x1).getD i h0).L ((hs.set i x1).getD i h0).all ((hs.set i x1).getD i h0).ts mv V2:=by rw [hgd,e3,e4,e5];exact hrt
  have hf:=lays_fin p1 hi1 hrt' (by rw [hgd,e3,e6,e7,e9.1,e9.2.1,e9.2.2];exact hlg) (by rw [hgd,e3,e4];exact hr.inv) (by rw [hgd,e7];exact hr.left) (by rw [hgd,e7,e8];exact hr.db) (by rw [hgd,e7,e4];exact ⟨hr.dt,by omega⟩) (by rw [hgd,e3,e5];exact hr.tl)
  have bd:=drewB (W10.setCell ⟨((hs.set i x1).getD i h0).hb,9,none⟩ mv)
  have hf2:=hf.below bd
  have em:=map_hb_set (hs:=hs.set i x1) (x:={ ((hs.set i x1).getD i h0) with mv:=mv,V:=V2 }) hi1 rfl
  have hsl:((hs.set i x1).set i { ((hs.set i x1).getD i h0) with mv:=mv,V:=V2 }).length=hs.length:=by rw [List.length_set,hsl1]
  have hv1:∀ g,some g=te.ownBlock→W.heap.size≤g∧g < w2'.heap.size:=fun g hg=>⟨(own_block o2' hg).1,(own_block o2' hg).2.1⟩
  have hte:∀ g,some g=te.ownBlock→∀ j,j < hs.length→((hs.set i x1).getD j h0).ρ g=0:=fun g hg j hj=>by
   obtain ⟨_,_,D,hD⟩:=own_block o2' hg
   rw [getD_set hi]
   by_cases e:j=i
   ·rw [if_pos e,e6]
    exact hr.ro g hg
   ·rw [if_neg e]
    by_cases q:(hs.getD j h0).ρ g=0
    ·exact q
    ·have:=(h.lt j hj g q).1
     have:=(hv1 g hg).1
     omega
  have hr10:=hrt.bel.size
  rw [hgd] at hf2 bd em hsl
  rw [e1] at hf2 bd
  have o10:(W10.setCell ⟨(hs.getD i h0).hb,9,none⟩ mv).drew.ownsRow w.heap.size 66 3 te le.length (le.flatMap eC):=own_belowR (own_mono (own_same (own_belowR o2' hrt.bel) (fun g hg=>set_other (fun e=>by have:=hv1 g hg;omega))) bW.size) bd
  have htl10:(W10.setCell ⟨(hs.getD i h0).hb,9,none⟩ mv).drew.heap[tb]? = some (Obj.cells (toA a b te (.slice none 0 0)) 245 (0,0)):=by
   have e1:(W10.setCell ⟨(hs.getD i h0).hb,9,none⟩ mv).heap[tb]? = W10.heap[tb]? := set_other (fun e=>by omega)
   exact e1.trans ((hrt.bel.block tb (Array.getElem?_eq_some_iff.1 htl).1).trans htl)
  refine (ke_nil (B0:=w.heap.size) (tb:=tb) hf2 o10 hr.len (by omega) (by show w.heap.size≤(W10.setCell _ _).heap.size;simp;omega) hBw (fun g hg=>by rw [em,em1] at hg;exact h.mlt hg) (fun g hg=>?_) htl10 (by omega)).mono ?_
  ·obtain ⟨q1,q2⟩:=hv1 g hg
   refine ⟨fun hz=>?_,fun j hj=>?_⟩
   ·rcases hz with hz | hz
    ·have:=(h.zm g hz).1;omega
    ·omega
   ·rw [hsl] at hj
    rw [getD_set hi1]
    by_cases e:j=i
    ·subst e;rw [if_pos rfl];show x1.ρ g=0;rw [← hgd];exact hte g hg j hj
    ·rw [if_neg e];exact hte g hg j hj
  ·rintro e W12 ⟨rfl,h1,h2⟩
   refine ⟨rfl,h1,h2.mono ?_⟩
   rintro e W13 ⟨rfl,h3⟩
   refine ⟨rfl,h3.pre ?_ (fun g hg=>Or.inl hg) (fun g hg=>?_)⟩
   ·exact bB2.trans (Rl.below_set (hrt.bel.mono (Nat.le_trans hBw (by omega))) (h.hge i hi).2 |>.trans (bd.mono (by simp;omega)))
   ·have e1:(W10.setCell ⟨(hs.getD i h0).hb,9,none⟩ mv).heap[g]? = W10.heap[g]? := set_other (fun e=>(h.zm g hg).2.1 (by rw [e];exact hbm))
    exact e1.trans ((hrt.bel.block g (by have:=(h.zm g hg).1;omega)).trans (hzk g hg)))
 exact ⟨mb,mc,C,_,hq⟩
end Go.Proofs.YtkncboinfcnklaaGreatDoor.Lw

namespace Go.Proofs.YtkncboinfcnklaaGreatDoor.Lw
open Go.RowKit Go.Deep Go.Shelf Go.Proofs.YtkncboinfcnklaaGreatDoor.Mth Go.Proofs.YtkncboinfcnklaaGreatDoor.Rl
set_option maxRecDepth 100000 in
set_option maxHeartbeats 4000000 in
theorem step_out {w:World} {ρ:Nat→Nat} {B N lb:Nat} {G:Gh} {L:Lg} (h:LogX w ρ B N lb G L) (n:Int) (hn:¬ (0≤n∧n < (L.wks.length:Int))) :
  Calls Tryz.prog 23 #[ptrV lb, .int .i64 n] w fun e w'=>e=.returned (.tuple #[.int .i64 0, .int .i64 1])∧Below w.heap.size w w':=by
 obtain ⟨c14,_⟩:=cell_of (j:=14) (u:=G.wr) h.b.blk rfl
 obtain ⟨a,c,hwr,hcc,hm⟩:=own_slice h.k.row
 rw [hwr] at c14
 have CI:=hide (isWithin_any n 0 ((G.wb.length:Int) - 1) w)
 have hfew:=h.k.few
 have hln:=h.k.len
 rw [decide_eq_false (show ¬ ((0:Int)≤n∧n≤(G.wb.length:Int) - 1) by omega)] at CI
 have hnn:G.wb.length≤4:=by omega
 have hn0:0 < G.wb.length:=by omega
 clear h hwr hln hfew hn
 generalize G.wb.length=m at *
 go_enter Tryz.func23,Tryz.ntmps23
 go_wp2_with (first
  | (go_at_call 53;refine CI.out.mono ?_;rintro e w1 ⟨rfl,hw1⟩;rw [hw1];clear hw1))
 go_ret2
 exact ⟨rfl,Below.refl _ _⟩
theorem rfv_put {Z:Nat→Prop} {B:Nat} {S:Nat→Prop} {w w':World} {V:Rv} {L:Lg} {all:List Ent} {ts:List Tl} (h:RfV Z B w V L all ts) (ht:Tch S w w') (hS:∀ k,S k→∃ C t,w.heap[k]? = some (Obj.cells C t (0,0))∧(t=94∨t=245)):RfV Z B w' V L all ts:=by
 have kp:∀ {B':Nat} {e:TypeId} {sz:Nat} {u:Value} {m:Nat} {xs:List Value},w.ownsRow B' e sz u m xs→e≠94→e≠245→w'.ownsRow B' e sz u m xs:=fun ho h1 h2=>own_tch ho ht (fun g hg q=>by
  obtain ⟨_,_,D,hD⟩:=own_block ho hg
  obtain ⟨C,t,h3,h4⟩:=hS g q
  have:=cells_ty hD h3
  subst this
  rcases h4 with e | e
  ·exact h1 e
  ·exact h2 e)
 exact ⟨kp h.all (by decide) (by decide),kp h.mem (by decide) (by decide),fun i hi=>kp (h.lev i hi) (by decide) (by decide),fun i hi j hj=>kp (h.seg i hi j hj) (by decide) (by decide),h.sz,kp h.wks (by decide) (by decide),fun q hq=>kp (h.lst q hq) (by decide) (by decide),h.run,kp h.tls (by decide) (by decide)⟩
theorem ref_put {Z:Nat→Prop} {B cb:Nat} {W W2 w' w3:World} {V:Rv} {L:Lg} {all:List Ent} {ts:List Tl} (hB:B≤W.heap.size) (hb:Below W.heap.size W W2) (hty:TyB W W2) (b:Below B W2 w') (ty:TyF W2 w') (f1:w'.heap[cb]? = some (Obj.cells (rfC V L) 234 (0,0))) (f2:RfV Z B w' V L all ts) (ht:Tch (fun k=>W.heap.size≤k∧k < W2.heap.size) w' w3) :
  Below B W w3∧w3.heap[cb]? = some (Obj.cells (rfC V L) 234 (0,0))∧RfV Z B w3 V L all ts:=by
 have hS:∀ k,(W.heap.size≤k∧k < W2.heap.size)→∃ C t,w'.heap[k]? = some (Obj.cells C t (0,0))∧(t=94∨t=245):=fun k hk=>by
  obtain ⟨C,t,h1,h2⟩:=hty k hk.1 hk.2
  exact ⟨C,t,(ty k C t h1 h2).trans h1,h2⟩
 refine ⟨below_tch ((hb.mono hB).trans b) ht (fun k q=>by omega) (Nat.le_trans hB (Nat.le_trans hb.size b.size)),?_,rfv_put f2 ht hS⟩
 refine (ht.block cb (Array.getElem?_eq_some_iff.1 f1).1 (fun q=>?_)).trans f1
 obtain ⟨C,t,h1,h2⟩:=hS cb q
 have:=cells_ty f1 h1
 subst this
 rcases h2 with e | e <;> exact absurd e (by decide)
theorem ty_same {W W2 w':World} (hty:TyB W W2) (ty:TyF W2 w'):∀ k,W.heap.size≤k→k < W2.heap.size→w'.heap[k]? = W2.heap[k]? := fun k h1 h2=>by
 obtain ⟨C,t,h3,h4⟩:=hty k h1 h2
 exact ty k C t h3 h4
theorem AkR.same {P:Lg→List Tl→Prop} {Z:Nat→Prop} {M:Nat} {o:Opr} {W w3:World} {x:Ho} {a b:Int} (hx:HoAt P Z W M x) (hb:Below W.heap.size W w3)
  (ans:∀ (W1:World) (cb:Nat) (V':Rv) (B1:Nat) (Z1:Nat→Prop),W1.heap[cb]? = some (Obj.cells (rfC V' x.L) 234 (0,0))→RfV Z1 B1 W1 V' x.L x.all x.ts→Calls Tryz.prog 134 #[ptrV cb,oV o] W1 fun e W'=>e=.returned (.agg (toA a b (.slice none 0 0) (.slice none 0 0)))∧Below W1.heap.size W1 W') :
  AkR P M o W w3 x a b (.slice none 0 0) x.L x.ts x.ρ x.G []:=by
 have hbd:=hx.bud
 refine ⟨hx.log.below hb,⟨tch_below hb,fun _ _ q=>q⟩,hx.left,hx.db,by omega,hx.inv,hx.tl,⟨rfl,rfl,rfl,rfl,rfl,rfl⟩,World.ownsRow_nil _ _ _ _,Nat.zero_le _,(fun g hg=>by cases hg),fun Z1 B1 W1 cb V' h1 h2 h3 h4 h5 h6=>(ans W1 cb V' B1 Z1 h1 h2).mono ?_⟩
 rintro e W' ⟨rfl,hb'⟩
 exact ⟨_,rfl,World.ownsRow_nil _ _ _ _,hb'.mono h5,V',(hb'.block cb (Array.getElem?_eq_some_iff.1 h1).1).trans h1,h2.below hb'⟩
theorem asksS_any {P:Lg→List Tl→Prop} {Z:Nat→Prop} {w:World} {B wb:Nat} {g0 g1 g2 g3 hv ke ks kr:Value} {Ne Ns Nr M:Nat} {hs:List Ho} {i:Nat} (h:HI P Z w B wb g0 g1 g2 g3 hv ke ks kr Ne Ns Nr M hs none) (hi:i < hs.length) (ht:TabB B w) (hBw:B≤w.heap.size) (A Bv Cv:Int) (S T:ByteArray) (hM:M + 2≤400000) (hPt:∀ L ts,P L ts→ts.length≤1000)
  (hPs:∀ (L L':Lg) ts,P L ts→L'.tls=L.tls→L'.subs=L.subs→L'.tn=L.tn→L'.count=L.count→P L' ts) (hPn:∀ L all ts,Inv L all→P L ts→Need L (ndT all.length ts)) :
  Calls Tryz.prog 69 #[ptrV wb,ptrV (hs.getD i h0).hb,oV ⟨15,A,Bv,Cv,S,T⟩] w fun e w'=>e=.returned (.bool true)∧HS P Z w w' B wb g0 g1 g2 g3 (M + 2):=by
 refine asksG_any h hi hBw ⟨15,A,Bv,Cv,S,T⟩ hM hPt (fun W bW hx=>?_)
 have hge:=h.hge i hi
 generalize hs.getD i h0=x at *
 have hbd:=hx.bud
 have hcf:=hx.inv.cfg
 have hw4:=hx.log.x.k.few
 have hBx:x.B≤W.heap.size:=by
  have:=(hx.log.x.lt _ (by rw [hx.log.x.b.rl];omega:x.ρ x.lb≠0))
  omega
 by_cases hr:0≤Bv∧Bv < (x.L.wks.length:Int)
 ·obtain ⟨q,rfl⟩:=Int.eq_ofNat_of_zero_le hr.1
  have hq:q < x.L.wks.length:=by omega
  refine (askedS A (q:Int) Cv S T (fun n er w3=>er=0∧∃ L' ρ' G',StepR x.L q n L'∧LogAt w3 ρ' x.B x.N x.lb G' L'∧LStp W w3 x.ρ ρ'∧GK x.G G') (fun W2 hb hty=>?_)).mono ?_
  ·have hl2:=hx.log.below hb
   refine (step_any hl2.x (Nat.le_trans hBx hb.size) (TabB.mono ((ht.next (bW.mono hBw)).next (hb.mono (Nat.le_trans hBw bW.size))) hge.1) hq (fun j hj=>?_) (by omega) hcf.2.1.2 hx.inv.clk hcf.2.2.2.1.2 (fun k hk=>by have:=hx.inv.lev k hk;omega)).mono ?_
   ·have hct:0 < ct x.L.wks j:=Nat.lt_of_lt_of_le (by unfold tc;rw [hj];simp) (le_sum (tc j) (getD_mem' hq))
    obtain ⟨h1,h2⟩:=hx.inv.big j hct
    have h3:=(hx.inv.rd q hq).1 j hj
    exact ⟨h2,by omega,by have:=hx.inv.levFlat j x.L.fan (by omega);omega,hx.inv.texts (by omega)⟩
   ·rintro e w' ⟨r,L',rfl,hsr,hX⟩
    obtain ⟨ρ',G',hl,hst,hgk⟩:=hX.log hl2.m (hx.inv.step hq hsr).2.2.2.1
    refine ⟨r,0,rfl,fun k h1 h2=>hst.tch.block k h2 (fun z=>?_),fun w3 ht3=>?_⟩
    ·have:=(hx.log.x.lt k z.1).1;omega
    ·obtain ⟨p1,p2⟩:=stp_put (fun k hk=>(hx.log.x.lt k hk).1) hb hty.non hst hl ht3
     exact ⟨rfl,L',ρ',G',hsr,p1,p2,hgk⟩
  ·rintro e w3 ⟨n,er,rfl,rfl,L',ρ',G',hsr,p1,p2,hgk⟩
   obtain ⟨s1,s2,s3,s4,s5,s6,s7,s8,s9,s10⟩:=Kp.StepR.same hsr
   have hi':=(hx.inv.step hq hsr).1
   refine ⟨n,0,_,L',x.ts,ρ',G',[],rfl,p1,p2,by rw [hgk];exact hx.left,by rw [hgk];exact hx.db,by rw [hgk];show x.G.dt.size≤_;omega,hi',hPs _ _ _ hx.tl s8 s9 s10 (hi'.cnt.trans hx.inv.cnt.symm),⟨s1,s2,s3,s7,s4,s5⟩,World.ownsRow_nil _ _ _ _,Nat.zero_le _,(fun g hg=>by cases hg),fun Z1 B1 W1 cb V' h1 h2 h3 h4 h5 h6=>?_⟩
   refine (answerS A (q:Int) Cv S T (fun n' er' w4=>n'=n∧er'=0∧Below B1 W1 w4∧∃ V2,w4.heap[cb]? = some (Obj.cells (rfC V2 L') 234 (0,0))∧RfV Z1 B1 w4 V2 L' x.all x.ts) (fun W2 hb hty=>?_)).mono ?_
   ·refine (stepR_any ((hb.block cb (Array.getElem?_eq_some_iff.1 h1).1).trans h1) (h2.below hb) h3 h4 (Nat.le_trans h5 hb.size) h6 hx.inv (by omega) hw4.2 (fun q hq=>by have:=wk_len (hx.log.x.k.ok q hq);omega) (hPn _ _ _ hx.inv hx.tl) hq).mono ?_
    rintro e w' ⟨r,L2,rfl,hs2,b,ty,V2,f1,f2⟩
    obtain ⟨e1,e2⟩:=StepR.uniq hs2 hsr
    subst e1 e2
    exact ⟨r,0,rfl,ty_same hty ty,fun w4 ht4=>⟨rfl,rfl,(ref_put h5 hb hty b ty f1 f2 ht4).1,V2,(ref_put h5 hb hty b ty f1 f2 ht4).2⟩⟩
   ·rintro e w4 ⟨n',er',rfl,rfl,rfl,b,V2,f1,f2⟩
    exact ⟨_,rfl,World.ownsRow_nil _ _ _ _,b,V2,f1,f2⟩
 ·refine (askedS A Bv Cv S T (fun n er w3=>n=0∧er=1∧Below W.heap.size W w3) (fun W2 hb hty=>?_)).mono ?_
  ·refine (step_out (hx.log.below hb).x Bv hr).mono ?_
   rintro e w' ⟨rfl,hb'⟩
   exact ⟨0,1,rfl,fun k _ h2=>hb'.block k h2,fun w3 ht3=>⟨rfl,rfl,below_tch (hb.trans (hb'.mono hb.size)) ht3 (fun k q=>q.1) (Nat.le_trans hb.size hb'.size)⟩⟩
  ·rintro e w3 ⟨n,er,rfl,rfl,rfl,hb3⟩
   refine ⟨0,1,_,x.L,x.ts,x.ρ,x.G,[],rfl,AkR.same hx hb3 (fun W1 cb V' B1 Z1 h1 h2=>?_)⟩
   refine (answerS A Bv Cv S T (fun n er w3=>n=0∧er=1∧Below W1.heap.size W1 w3) (fun W2 hb hty=>?_)).mono ?_
   ·refine (stepR_no ((hb.block cb (Array.getElem?_eq_some_iff.1 h1).1).trans h1) (h2.below hb).wks Bv hr).mono ?_
    rintro e w' ⟨rfl,rfl⟩
    exact ⟨0,1,rfl,fun k _ _=>rfl,fun w3 ht3=>⟨rfl,rfl,below_tch hb ht3 (fun k q=>q.1) hb.size⟩⟩
   ·rintro e w4 ⟨n,er,rfl,rfl,rfl,hb4⟩
    exact ⟨rfl,hb4⟩
end Go.Proofs.YtkncboinfcnklaaGreatDoor.Lw

namespace Go.Proofs.YtkncboinfcnklaaGreatDoor.Rl
open Go.RowKit Go.Deep Go.Shelf Go.Proofs.YtkncboinfcnklaaGreatDoor.Mth Go.Proofs.YtkncboinfcnklaaGreatDoor.Kp
theorem Tryz.infoShR:(Tryz.prog.info? 142).map (fun i=>(i.zero,i.size,i.bytes))=some (some (.agg #[.int .i64 0, .int .i64 0, .int .i64 0]),3,24):=by kernel_rfl
theorem Tryz.infoShRs:(Tryz.prog.info? 75).map (fun i=>(i.zero,i.size,i.bytes))=some (some (.slice none 0 0),1,24):=by kernel_rfl
structure ShI (w wr:World) (k:Nat) (L:Lg) (v:Value) (us:Nat→Value):Prop where
 bel:Below w.heap.size w wr
 row:wr.ownsRow w.heap.size 75 1 v k ((List.range k).map us)
 one:∀ j,j < k→wr.ownsRow w.heap.size 142 3 (us j) (L.lev j).length ((L.lev j).flatMap spC)
theorem ShI.next {w wo wr W5:World} {k:Nat} {L:Lg} {v v2 v5:Value} {us:Nat→Value} (h:ShI w wo k L v us) (hb:Below wo.heap.size wo wr) (o2:wr.ownsRow wo.heap.size 142 3 v2 (L.lev k).length ((L.lev k).flatMap spC)) (g5:(wr.alloc (Obj.cells #[v2] 75)).grownBy W5 v.ownBlock)
  (o5:W5.ownsRow w.heap.size 75 1 v5 (k + 1) ((List.range k).map us ++ [v2])):ShI w W5 (k + 1) L v5 (fun j=>if j=k then v2 else us j):=by
 have t5:=tch_grownQ g5
 have hrow:=own_belowR h.row hb
 have hs:=h.bel.size
 have kp:∀ {B:Nat} {u:Value} {n:Nat} {xs:List Value},wr.ownsRow B 142 3 u n xs→W5.ownsRow B 142 3 u n xs:=fun ho=>own_tch ho t5 (fun g hg=>ty_ne2 ho hrow (by decide) g hg)
 refine ⟨below_tch (h.bel.trans (hb.mono hs)) t5 (fun g q=>(own_block hrow q).1) (Nat.le_trans hs hb.size),?_,fun j hj=>?_⟩
 ·have hm:(List.range (k + 1)).map (fun j=>if j=k then v2 else us j)=(List.range k).map us ++ [v2]:=by
   rw [List.range_succ,List.map_append]
   congr 1
   ·exact List.map_congr_left (fun j hj=>by have:=List.mem_range.1 hj;rw [if_neg (by omega)])
   ·simp
  rw [hm]
  exact o5
 ·by_cases e:j=k
  ·subst e
   simp only [if_pos]
   exact own_mono (kp o2) hs
  ·simp only [if_neg e]
   exact kp (own_belowR (h.one j (by omega)) hb)
set_option maxRecDepth 100000 in
set_option maxHeartbeats 8000000 in
theorem shapesR_any {Z:Nat→Prop} {w:World} {B cb:Nat} {V:Rv} {L:Lg} {all:List Ent} {ts:List Tl} (hb:w.heap[cb]? = some (Obj.cells (rfC V L) 234 (0,0))) (h:RfV Z B w V L all ts) (hne:∀ i,i < 6→∀ j,j < (L.lev i).length→0 < ((L.lev i).getD j []).length∧((L.lev i).getD j []).length≤1048576) (hl:∀ i,i < 6→(L.lev i).length≤500000) :
  Calls Tryz.prog 208 #[ptrV cb] w fun e w'=>∃ v us,e=.returned v∧ShI w w' 6 L v us:=by
 obtain ⟨i0,hi0,hz0,hz1,hz2⟩:=info_parts Tryz.infoShR
 obtain ⟨j0,hj0,hk0,hk1,hk2⟩:=info_parts Tryz.infoShRs
 have hcb:cb < w.heap.size:=(Array.getElem?_eq_some_iff.1 hb).1
 have F7:Hid (∀ W k,Below w.heap.size w W→k < 6→∃ a c,W.cell? ⟨cb,9 + k,none⟩=some (.slice a (L.lev k).length c)∧(L.lev k).length≤c∧c≤maxLen∧W.ownsRow B 57 1 (.slice a (L.lev k).length c) (L.lev k).length ((List.range (L.lev k).length).map (V.sv k))):=fun W k hW hk=>by
  have hbw:=(hW.block cb hcb).trans hb
  have h1:=(cell_of hbw (rfC_lv V L hk)).1
  obtain ⟨a,c,e,h2,h3⟩:=own_slice (h.lev k hk)
  have h4:=h.lev k hk
  rw [e] at h1 h4
  exact ⟨a,c,h1,h2,h3,own_belowR h4 hW⟩
 have FS:Hid (∀ i,i < 6→∀ k,k < (L.lev i).length→(∃ a c,V.sv i k=.slice a ((L.lev i).getD k []).length c∧((L.lev i).getD k []).length≤c∧c≤maxLen)∧w.ownsRow 0 66 3 (V.sv i k) ((L.lev i).getD k []).length (((L.lev i).getD k []).flatMap eC)∧((List.range (L.lev i).length).map (V.sv i))[k]? = some (V.sv i k)):=fun i hi k hk=>by
  have h1:=h.seg i hi k hk
  obtain ⟨a,c,e1,e2,e3⟩:=own_slice h1
  exact ⟨⟨a,c,e1,e2,e3⟩,h1,by rw [List.getElem?_map,List.getElem?_range hk];rfl⟩
 have HNE:=hide hne
 have HL:=hide hl
 clear hb h hne hl
 go_enter Tryz.func208,Tryz.ntmps208
 go_wp2_with fail
 go_loopw [3,4] (fun v x wr=>∃ k:Nat,k≤6∧x=.int .i64 k∧∃ us,ShI w wr k L v us) (fun _ x _=>6 - (intOf x).toNat)
 case atStart=>exact ⟨0,by omega,rfl,fun _=>.slice none 0 0,Below.refl _ _,World.ownsRow_nil _ _ _ _,fun j hj=>absurd hj (Nat.not_lt_zero _)⟩
 case round=>
  obtain ⟨k,hk,rfl,us,hsh⟩:=hrel
  have HSH:=hide hsh
  by_cases hlt:k < 6
  ·have hlk:=HL.out k hlt
   have HNK:=hide (HNE.out k hlt)
   have HSK:=hide (FS.out k hlt)
   have hki:(k:Int) < 6:=by omega
   obtain ⟨va,vc,rfl,hvc,hvm⟩:=own_slice hsh.row
   have HBO:=hide hsh.bel
   unfold maxLen at hvm
   have HNX:Hid (∀ wq W5 v2 v5,Below wr.heap.size wr wq→wq.ownsRow wr.heap.size 142 3 v2 (L.lev k).length ((L.lev k).flatMap spC)→(wq.alloc (Obj.cells #[v2] 75)).grownBy W5 (Value.slice va k vc).ownBlock→W5.ownsRow w.heap.size 75 1 v5 (k + 1) ((List.range k).map us ++ [v2])→∃ us',ShI w W5 (k + 1) L v5 us'):=fun wq W5 v2 v5 b2 o2 g5 o5=>⟨_,HSH.out.next b2 o2 g5 o5⟩
   have HRW:Hid (∀ wq,Below wr.heap.size wr wq→wq.ownsRow w.heap.size 75 1 (.slice va k vc) k ((List.range k).map us)):=fun wq b2=>own_belowR HSH.out.row b2
   have HF7:Hid (∀ W,Below wr.heap.size wr W→_):=fun W hW=>F7.out W k (HBO.out.trans (hW.mono HBO.out.size)) hlt
   have hws:=hsh.bel.size
   generalize hxu:(List.range k).map us=xu at *
   generalize hls:L.lev k=ls at *
   have HFL:Hid (∀ q,q < ls.length→(ls.take (q + 1)).flatMap spC=(ls.take q).flatMap spC ++ spC (ls.getD q [])):=fun q hq=>by
    rw [take_snoc hq [],List.flatMap_append]
    simp
   generalize hnl:ls.length=nl at *
   have HNL:=hide hnl
   clear hsh hxu hls hnl
   go_wp2_with fail
   obtain ⟨wo,rfl⟩:∃ wo,wo=wr:=⟨_,rfl⟩
   go_loopw [5,6] (fun v2 x wr=>∃ q:Nat,q≤nl∧x=.int .i64 q∧Below wo.heap.size wo wr∧wr.ownsRow wo.heap.size 142 3 v2 q ((ls.take q).flatMap spC)) (fun _ x _=>nl - (intOf x).toNat)
   case atStart=>exact ⟨0,Nat.zero_le _,rfl,Below.refl _ _,World.ownsRow_nil _ _ _ _⟩
   case round=>
    obtain ⟨q,hq,rfl,hbq,ho2⟩:=hrel
    obtain ⟨a9,c9,m9,hc9,hcm9,hrow9⟩:=HF7.out wr hbq
    have HBQ:=hide hbq
    have HO2:=hide ho2
    obtain ⟨wa,wc,rfl,hwc,hwm⟩:=own_slice ho2
    unfold maxLen at hwm hcm9
    by_cases hlt2:q < nl
    ·obtain ⟨⟨ae,ce,hve,hce,hcem⟩,hseg,hxk⟩:=HSK.out q hlt2
     obtain ⟨hpos,hel⟩:=HNK.out q hlt2
     obtain ⟨g9,rfl⟩:=own_some hrow9 (by omega)
     have hcell:=own_get hrow9 hxk
     rw [hve] at hcell hseg
     obtain ⟨ge,rfl⟩:=own_some hseg hpos
     have bw:Below w.heap.size w wr:=HBO.out.trans (hbq.mono HBO.out.size)
     have hes:=own_same hseg (fun g hg=>bw.block g (own_block hseg hg).2.1)
     have HFLq:=hide (HFL.out q hlt2)
     obtain ⟨r0,_,_⟩:=flat_get (ls.getD q []) 0 (by omega)
     obtain ⟨r1,_,_⟩:=flat_get (ls.getD q []) ((ls.getD q []).length - 1) (by omega)
     have p0:=own_get hes r0
     have p1:=own_get hes r1
     simp only [Nat.zero_mul] at p0
     have hsp:spC (ls.getD q [])=[.int .i64 ((ls.getD q []).getD 0 e0).seq, .int .i64 ((ls.getD q []).getD ((ls.getD q []).length - 1) e0).seq, .int .i64 ((ls.getD q []).length:Int)]:=rfl
     rw [hsp] at HFLq
     unfold maxLen at hcem
     clear hve hseg hxk hes r0 r1 hsp
     generalize ls.getD q []=es at *
     generalize hs0:(es.getD 0 e0).seq=s0 at *
     generalize hs1:(es.getD (es.length - 1) e0).seq=s1 at *
     generalize es.length=el at *
     have hw1:IntKind.i64.wrap ((el:Int) - 1)=((el - 1:Nat):Int):=by rw [IntKind.wrap_i64];omega
     have hw2:((el - 1:Nat):Int) < (el:Int):=by omega
     have hw3:(0:Int) < (el:Int):=by omega
     clear hs0 hs1 hrow9 ho2
     have b3:=below_allocG wr (Obj.cells #[.int .i64 s0, .int .i64 s1, .int .i64 (el:Int)] 142)
     have p0':=(b3.cell (p:=⟨ge,0,none⟩) (World.block_lt_of_cell? _ _ p0)).trans p0
     have p1':=(b3.cell (p:=⟨ge,(el - 1) * 3,none⟩) (World.block_lt_of_cell? _ _ p1)).trans p1
     have hszq:=hbq.size
     clear b3 bw hbq
     go_upto_region 10 with fail
     go_region_law (refine step_own_at _ rfl _ _ 75 rfl wo.heap.size 142 i0 (.agg #[.int .i64 0, .int .i64 0, .int .i64 0]) 3 24 Tryz.underlying75 hi0 hz0 hz1 hz2 rfl (by decide) _ _ _ rfl (by exact HO2.out.alloc _) ⟨wr.heap.size,0,none⟩ 1 1 [.int .i64 s0, .int .i64 s1, .int .i64 (el:Int)] rfl rfl (by exact cells_new wr.drew _ _ _ rfl) (by intro u hu;simp at hu;rcases hu with rfl | rfl | rfl <;> rfl) (by unfold maxLen;omega) (by omega) (by simp;omega) ?_;intro v5 W5 o5 g5 n5;have g6:(wr.alloc (Obj.cells #[.int .i64 s0, .int .i64 s1, .int .i64 (el:Int)] 142)).grownBy W5 (Value.slice wa q wc).ownBlock:=⟨g5.os,g5.tape,g5.output,g5.size,g5.block⟩;have HB5:=hide (below_tchQ HBQ.out (tch_grownQ g6) HO2.out);have HO5:=hide o5;obtain ⟨a5,c5,rfl,_,_⟩:=own_slice o5;clear o5 g5 g6 n5)
     all_goals (
      go_wp2
      go_roundw
      case rel=>exact ⟨q + 1,by omega,by go_num,HB5.out,by rw [HFLq.out];exact HO5.out⟩
      case measure=>simp [intOf];omega)
    ·have hqe:ls.take q=ls:=List.take_of_length_le (by rw [HNL.out];omega)
     have hqn:q=nl:=by omega
     rw [hqe] at HO2
     have HQN:=hide hqn
     have HRWQ:=hide (HRW.out wr hbq)
     have HNXQ:=hide (HNX.out wr)
     have hszq:=hbq.size
     clear hqe hqn ho2 hrow9 hbq
     go_wp2_with (first
      | (at_builtin;refine wpList_append_own_at _ rfl (.tmp 49) (.tmp 51) 73 rfl w.heap.size 75 j0 (.slice none 0 0) 1 24 Tryz.underlying73 hj0 hk0 hk1 hk2 rfl (by decide) _ _ _ rfl (HRWQ.out.alloc _) ⟨wr.heap.size,0,none⟩ 1 1 [.slice wa q wc] rfl rfl (cells_new _ _ _ _ rfl) (by intro u hu;simp at hu;subst hu;rfl) (by unfold maxLen;omega) (by omega) (by simp;omega) ?_;intro v5 W5 o5 g5 _ n5;have HN5:=hide (HNXQ.out W5 (.slice wa q wc) v5 HBQ.out (by rw [← HQN.out];exact HO2.out) g5 o5);obtain ⟨a5,c5,rfl,_,_⟩:=own_slice o5;clear o5 g5 n5))
     go_roundw
     case rel=>exact ⟨k + 1,by omega,by go_num,HN5.out⟩
     case measure=>simp [intOf];omega
  ·obtain rfl:6=k:=by omega
   obtain ⟨va,vc,rfl,hvc,hvm⟩:=own_slice hsh.row
   clear hsh
   go_wp2_with fail
   go_ret
   exact ⟨_,us,rfl,HSH.out⟩
end Go.Proofs.YtkncboinfcnklaaGreatDoor.Rl
