import Derived.Test.YtkncboinfcnklaaGreatDoorQ41
import Derived.Test.YtkncboinfcnklaaGreatDoorQ35
import Derived.Test.YtkncboinfcnklaaGreatDoorRows
import Derived.Test.YtkncboinfcnklaaGreatDoorQ31
import Derived.ProofKit
import Derived.OpenShut
import Derived.ShutString
import Derived.ChangeOld
import Derived.JoinedCond
import Derived.Deep.Slices
import Derived.Deep.Strs
import Derived.Deep.DeepHandedRow
import Derived.Deep.DeepWitnessRowRef
import Derived.Lib.LaidTab
import Derived.Lib.LaidU8
namespace Go.Proofs.YtkncboinfcnklaaGreatDoor.Lw
open Go.RowKit Go.Deep Go.Shelf Go.Proofs.YtkncboinfcnklaaGreatDoor.Mth Go.Proofs.YtkncboinfcnklaaGreatDoor.Rl Go.Proofs.YtkncboinfcnklaaGreatDoor.Kp
theorem Inv.lens {L:Lg} {all:List Ent} (h:Inv L all) (hM:all.length≤400000):(∀ i,i < 6→∀ j,j < (L.lev i).length→0 < ((L.lev i).getD j []).length∧((L.lev i).getD j []).length≤1048576)∧∀ i,i < 6→(L.lev i).length≤500000:=by
 refine ⟨fun i hi j hj=>?_,fun i hi=>by have:=h.lev i hi;omega⟩
 have hm:(L.lev i).getD j [] ∈ L.lev i:=by rw [← List.getElem_eq_getD (h:=hj)];exact List.getElem_mem hj
 have hs:=lev_segs hi hm
 have h1:=h.ne _ hs
 have h2:=(h.segSub hs).length_le
 exact ⟨List.length_pos_iff.2 h1,by omega⟩
theorem askedL_any {P:Lg→List Tl→Prop} {Z:Nat→Prop} {M:Nat} {W:World} {x:Ho} (hx:HoAt P Z W M x) (hM:M≤400000) (A Bv Cv:Int) (S T:ByteArray) :
  Calls Tryz.prog 133 #[ptrV x.lb,oV ⟨16,A,Bv,Cv,S,T⟩] W fun e w3=>∃ rb vs,e=.returned (.agg (toA (pends x.L.wks:Int) 0 (.slice none 0 0) (.slice (some ⟨rb,0,none⟩) 6 6)))∧Below W.heap.size W w3∧RwA W.heap.size w3 rb x.L.lev vs:=by
 have hbd:=hx.bud
 obtain ⟨l1,l2⟩:=Inv.lens hx.inv (by omega)
 refine (askedL A Bv Cv S T (pends x.L.wks:Int) (fun v w3=>∃ rb vs,v=.slice (some ⟨rb,0,none⟩) 6 6∧Below W.heap.size W w3∧RwA W.heap.size w3 rb x.L.lev vs) (fun W2 hb=>pend_any (hx.log.below hb).x) (fun W2 hb=>?_)).mono ?_
 ·refine (levelsD_any (hx.log.below hb).x l1 l2).mono ?_
  rintro e w' ⟨rb,vs,rfl,hD⟩
  have hb2:=hD.lv.bel
  refine ⟨_,rfl,⟨_,_,_,rfl⟩,hb2,fun w3 ht3=>⟨rb,vs,rfl,below_tch (hb.trans (hb2.mono hb.size)) ht3 (fun k q=>q.1) (Nat.le_trans hb.size hb2.size),?_⟩⟩
  have h1:RwA W2.heap.size w' rb x.L.lev vs:=⟨hD.lv.ge,hD.lv.blk,fun k hk=>hD.lv.row k hk,fun a b ha hb' hne=>hD.dis a b ha hb' hne⟩
  exact (h1.same (fun g h1 h2=>ht3.block g h2 (fun q=>by omega))).base hb.size
 ·rintro e w3 ⟨v,rfl,_,rb,vs,rfl,h1,h2⟩
  exact ⟨rb,vs,rfl,h1,h2⟩
theorem answerL_any {Z:Nat→Prop} {B:Nat} {W:World} {cb:Nat} {V:Rv} {L:Lg} {all:List Ent} {ts:List Tl} (hb:W.heap[cb]? = some (Obj.cells (rfC V L) 234 (0,0))) (h:RfV Z B W V L all ts) (hI:Inv L all) (hM:all.length≤400000) (hw4:L.wks.length≤4) (hwl:∀ q,q < L.wks.length→(L.wks.getD q wk0).list.length≤1000) (A Bv Cv:Int) (S T:ByteArray) :
  Calls Tryz.prog 134 #[ptrV cb,oV ⟨16,A,Bv,Cv,S,T⟩] W fun e w3=>∃ v us,e=.returned (.agg (toA (pends L.wks:Int) 0 (.slice none 0 0) v))∧isS v∧Below W.heap.size W w3∧w3.ownsRow W.heap.size 75 1 v 6 ((List.range 6).map us)∧∀ k,k < 6→w3.ownsRow W.heap.size 142 3 (us k) (L.lev k).length ((L.lev k).flatMap spC):=by
 obtain ⟨l1,l2⟩:=Inv.lens hI hM
 refine (answerL A Bv Cv S T (pends L.wks:Int) (fun v w3=>∃ us,Below W.heap.size W w3∧w3.ownsRow W.heap.size 75 1 v 6 ((List.range 6).map us)∧∀ k,k < 6→w3.ownsRow W.heap.size 142 3 (us k) (L.lev k).length ((L.lev k).flatMap spC)) (fun W2 hb2=>?_) (fun W2 hb2=>?_)).mono ?_
 ·have h2:=h.below hb2
  refine (pendR_any ((hb2.block cb (Array.getElem?_eq_some_iff.1 hb).1).trans hb) h2.wks h2.lst hw4 hwl).mono ?_
  rintro e w' ⟨rfl,rfl⟩
  exact ⟨rfl,Below.refl _ _⟩
 ·refine (shapesR_any ((hb2.block cb (Array.getElem?_eq_some_iff.1 hb).1).trans hb) (h.below hb2) l1 l2).mono ?_
  rintro e w' ⟨v,us,rfl,hs⟩
  have hb3:=hs.bel
  refine ⟨v,rfl,isS_own hs.row,hb3,fun w3 ht3=>⟨us,below_tch (hb2.trans (hb3.mono hb2.size)) ht3 (fun k q=>q.1) (Nat.le_trans hb2.size hb3.size),?_,fun k hk=>?_⟩⟩
  ·exact own_mono (own_same hs.row (fun g hg=>ht3.block g (own_block hs.row hg).2.1 (fun q=>by have:=(own_block hs.row hg).1;omega))) hb2.size
  ·exact own_mono (own_same (hs.one k hk) (fun g hg=>ht3.block g (own_block (hs.one k hk) hg).2.1 (fun q=>by have:=(own_block (hs.one k hk) hg).1;omega))) hb2.size
 ·rintro e w3 ⟨v,rfl,hv,us,h1,h2,h3⟩
  exact ⟨v,us,rfl,hv,h1,h2,h3⟩
theorem asksL_any {P:Lg→List Tl→Prop} {Z:Nat→Prop} {w:World} {B wb:Nat} {g0 g1 g2 g3 hv ke ks kr:Value} {Ne Ns Nr M:Nat} {hs:List Ho} {i:Nat} (h:HI P Z w B wb g0 g1 g2 g3 hv ke ks kr Ne Ns Nr M hs none) (hi:i < hs.length) (hBw:B≤w.heap.size) (A Bv Cv:Int) (S T:ByteArray) (hM:M + 2≤400000) (hPt:∀ L ts,P L ts→ts.length≤1000) :
  Calls Tryz.prog 69 #[ptrV wb,ptrV (hs.getD i h0).hb,oV ⟨16,A,Bv,Cv,S,T⟩] w fun e w'=>e=.returned (.bool true)∧HS P Z w w' B wb g0 g1 g2 g3 (M + 2):=by
 obtain ⟨W0,hW0⟩:∃ W0,W0=w.alloc (Obj.cells #[.int .i64 16, .int .i64 A, .int .i64 Bv, .int .i64 Cv, .string S, .string T] 94):=⟨_,rfl⟩
 have b0:Below w.heap.size w W0:=by rw [hW0];exact below_allocG _ _
 have s0:W0.heap.size=w.heap.size + 1:=by rw [hW0];simp
 have k0:W0.heap[w.heap.size]? = some (Obj.cells #[.int .i64 16, .int .i64 A, .int .i64 Bv, .int .i64 Cv, .string S, .string T] 94 (0,0)):=by rw [hW0];exact new_blk _ _ _
 have hbm:Mu wb hv ke ks kr (hs.map Ho.hb) (hs.getD i h0).hb:=Or.inr (Or.inr (Or.inr (Or.inr (Or.inr (hb_mem hi)))))
 have hbl:=h.mlt hbm
 have hob0:=(h.below b0).hob i hi
 have hmb:=h.mb
 have hne:(hs.getD i h0).hb≠wb:=fun e=>by
  have h1:=h.hob i hi
  rw [e] at h1
  exact absurd (cells_ty h1 h.blk) (by decide)
 refine asks_walk ⟨16,A,Bv,Cv,S,T⟩ (fun w'=>HS P Z w w' B wb g0 g1 g2 g3 (M + 2)) hW0 rfl hbl hne (cell_of (j:=0) hob0 rfl).1 (fun W hW _=>?_)
 have bW:Below w.heap.size w W:=b0.trans (hW.mono b0.size)
 have hsW:=hW.size
 obtain ⟨hpW,hxW⟩:=(h.below bW).punch hi
 have hbd:=hxW.bud
 refine (askedL_any hxW (by omega) A Bv Cv S T).mono ?_
 rintro e w2 ⟨rb,vs,rfl,b2,o2⟩
 have hs2:=b2.size
 refine ⟨_,_,_,_,rfl,⟨_,_,_,rfl⟩,⟨_,_,_,rfl⟩,fun g _ hg=>b2.block g hg,hs2,(b2.block _ (by omega)).trans (hW.block _ (by omega)),(b2.block _ (by omega)).trans (hW.block _ (by omega)),?_⟩
 intro w2' tb htc htl htb
 have b2':Below W0.heap.size W0 w2':=below_tch (hW.trans (b2.mono hsW)) htc (fun k q=>q.1) (by omega)
 have bw2:Below w.heap.size w w2':=b0.trans (b2'.mono b0.size)
 have hs2':=htc.size
 have o2':RwA W.heap.size w2' rb (hs.getD i h0).L.lev vs:=o2.same (fun g h1 h2=>htc.block g h2 (fun q=>by omega))
 obtain ⟨hp,hx⟩:=(h.below bw2).punch hi
 obtain ⟨l1,l2⟩:=Inv.lens hx.inv (by omega)
 have hob2:=hp.hob i hi
 have k2:=(b2'.block _ (by omega)).trans k0
 have hw4:=hx.log.x.k.few
 have hwl:∀ q,q < (hs.getD i h0).L.wks.length→((hs.getD i h0).L.wks.getD q wk0).list.length≤900:=fun q hq=>by have:=wk_len (hx.log.x.k.ok q hq);omega
 obtain ⟨mb,mc,C,hq⟩:=ak_of (wb:=wb) (FQ:=fun w'=>HS P Z w w' B wb g0 g1 g2 g3 (M + 2)) (L':=(hs.getD i h0).L) (al:=(hs.getD i h0).all) (ts':=(hs.getD i h0).ts) (o:=⟨16,A,Bv,Cv,S,T⟩) htl ⟨⟨_,_,_,rfl⟩,⟨_,_,_,rfl⟩⟩ (cell_of (j:=9) hob2 rfl) k2 hx.may hx.ref (fun g hg=>(hp.zm g hg).1) hx.inv (by omega) hw4.2 hwl (hPt _ _ hx.tl) (fun W1 cb V' hbW hcb hr hd hc=>by
  refine (answerL_any hcb hr hx.inv (by omega) hw4.2 (fun q hq=>by have:=hwl q hq;omega) A Bv Cv S T).mono ?_
  rintro e W' ⟨v,us,rfl,hv',b3,o3,o4⟩
  have hnil:∀ W6:World,RdE W6 (.slice none 0 0) []:=fun W6=>rdE_own (B:=0) (World.ownsRow_nil _ _ _ _)
  refine ⟨_,v,rfl,⟨_,_,_,rfl⟩,hv',fun W6 h6=>sameEntries_any (hnil W6) (hnil W6),fun W6 h6=>?_,b3.mono hbW.size,V',(b3.block cb (Array.getElem?_eq_some_iff.1 hcb).1).trans hcb,hr.below b3⟩
  have b6:Below w2'.heap.size w2' W6:=hbW.trans ((b3.mono hbW.size).trans (h6.mono (Nat.le_trans hbW.size b3.size)))
  have o6:=o2'.same (fun g _ h2=>b6.block g h2)
  exact sameRows6 o6.blk o6.row (own_belowR o3 h6) (fun k hk=>own_belowR (o4 k hk) h6)) (fun mv W10 hr=>by
  obtain ⟨V2,hr⟩:=hr
  have hf:=lays_fin hp hi hr hx.log hx.inv hx.left hx.db ⟨by omega,by omega⟩ hx.tl
  have bd:=drewB (W10.setCell ⟨(hs.getD i h0).hb,9,none⟩ mv)
  have hf2:=hf.below bd
  have em:=map_hb_set (x:={ (hs.getD i h0) with mv:=mv,V:=V2 }) hi rfl
  have hsl:(hs.set i { (hs.getD i h0) with mv:=mv,V:=V2 }).length=hs.length:=List.length_set
  have hr10:=hr.bel.size
  have hs10:W10.heap.size=(W10.setCell ⟨(hs.getD i h0).hb,9,none⟩ mv).drew.heap.size:=by show _=(W10.setCell _ _).heap.size;simp
  have hblk:∀ g,w.heap.size≤g→g < w2'.heap.size→(W10.setCell ⟨(hs.getD i h0).hb,9,none⟩ mv).drew.heap[g]? = w2'.heap[g]? := fun g h1 h2=>by
   have e1:(W10.setCell ⟨(hs.getD i h0).hb,9,none⟩ mv).heap[g]? = W10.heap[g]? := set_other (fun e=>by omega)
   exact e1.trans (hr.bel.block g h2)
  have o10:RwA W.heap.size (W10.setCell ⟨(hs.getD i h0).hb,9,none⟩ mv).drew rb (hs.getD i h0).L.lev vs:=o2'.same (fun g h1 h2=>hblk g (by have:=bW.size;omega) h2)
  have htl2:=(Array.getElem?_eq_some_iff.1 htl).1
  have hbw2:=bw2.size
  have hroles:∀ g,w.heap.size≤g→∀ j,j < (hs.set i { (hs.getD i h0) with mv:=mv,V:=V2 }).length→((hs.set i { (hs.getD i h0) with mv:=mv,V:=V2 }).getD j h0).ρ g=0:=fun g hg j hj=>by
   rw [hsl] at hj
   have hr0:(hs.getD j h0).ρ g=0:=by
    by_cases q:(hs.getD j h0).ρ g=0
    ·exact q
    ·have:=(h.lt j hj g q).1;omega
   rw [getD_set hi]
   by_cases e:j=i
   ·subst e;rw [if_pos rfl];exact hr0
   ·rw [if_neg e];exact hr0
  have hmuw:∀ g,Mu wb hv ke ks kr ((hs.set i { (hs.getD i h0) with mv:=mv,V:=V2 }).map Ho.hb) g→g < w.heap.size:=fun g hg=>by rw [em] at hg;exact h.mlt hg
  obtain ⟨W11,hW11⟩:∃ W11,W11=(W10.setCell ⟨(hs.getD i h0).hb,9,none⟩ mv).drew:=⟨_,rfl⟩
  have b11:Below B w W11:=by
   rw [hW11]
   exact (bw2.mono hBw).trans (Rl.below_set (hr.bel.mono (Nat.le_trans hBw bw2.size)) (h.hge i hi).2 |>.trans (bd.mono (by simp;omega)))
  have z11:∀ g,Z g→W11.heap[g]? = w.heap[g]? := fun g hg=>by
   rw [hW11]
   have e1:(W10.setCell ⟨(hs.getD i h0).hb,9,none⟩ mv).heap[g]? = W10.heap[g]? := set_other (fun e=>(h.zm g hg).2.1 (by rw [e];exact hbm))
   exact e1.trans ((hr.bel.block g (Nat.lt_of_lt_of_le (h.zm g hg).1 bw2.size)).trans (bw2.block g (h.zm g hg).1))
  rw [← hW11] at hf2 hblk o10 hs10
  rw [← hW11]
  clear hW11
  have hsz11:w2'.heap.size≤W11.heap.size:=by omega
  refine (keepE2_any (B0:=w.heap.size) hf2 (World.ownsRow_nil _ _ _ _) (by omega) (by omega) (by omega) hBw hmuw (fun g hg=>by cases hg)).mono ?_
  rintro e W12 ⟨rfl,Z2,ke2,c1,c2,c3,c4,c5,c6⟩
  have hsz12:=c3.size
  have hfr12:∀ g,w.heap.size≤g→g < W11.heap.size→W12.heap[g]? = W11.heap[g]? := fun g h1 h2=>c4 g h2 (by simp [Value.ownBlock]) (fun q=>by have:=hmuw g q;omega)
  refine ⟨rfl,(hfr12 tb (by omega) (by omega)).trans ((hblk tb (by omega) htl2).trans htl),?_⟩
  have bd12:=drewB W12
  have o12:RwA W.heap.size W12.drew rb (hs.getD i h0).L.lev vs:=(o10.same (fun g h1 h2=>hfr12 g (by have:=bW.size;omega) h2)).same (fun g _ h2=>bd12.block g h2)
  have hrwb:∀ g,(g=rb∨∃ k,k < 6∧some g=(vs k).ownBlock)→W.heap.size≤g∧g < w2'.heap.size:=fun g hg=>by
   rcases hg with rfl | ⟨k,hk,hg⟩
   ·exact ⟨o2'.ge,(Array.getElem?_eq_some_iff.1 o2'.blk).1⟩
   ·exact ⟨(own_block (o2'.row k hk) hg).1,(own_block (o2'.row k hk) hg).2.1⟩
  have hBW:=bW.size
  have hnm:∀ g,(g=rb∨∃ k,k < 6∧some g=(vs k).ownBlock)→¬ Mu wb hv ke2 ks kr ((hs.set i { (hs.getD i h0) with mv:=mv,V:=V2 }).map Ho.hb) g:=fun g hg hm=>by
   have h1:=hrwb g hg
   rcases c5 g hm with q | q
   ·have:=hmuw g q;omega
   ·omega
  refine (keepR6_any (B0:=w.heap.size) (c2.below bd12) (o12.base hBW) (fun k hk=>l2 k hk) (by omega) (by omega) (by omega) (by show w.heap.size≤W12.heap.size;omega) hBw (h.mlt (Or.inl rfl)) (fun g hg=>h.mlt (Or.inr (Or.inr (Or.inr (Or.inr (Or.inl hg)))))) hnm (fun g hg=>⟨fun hz=>?_,hroles g (by have:=hrwb g hg;omega)⟩)).mono ?_
  ·have h1:=hrwb g hg
   rcases c6 g hz with q | q | q
   ·rcases q with q | q
    ·have:=(h.zm g q).1;omega
    ·omega
   ·cases q
   ·omega
  ·rintro e W13 ⟨rfl,h3⟩
   refine ⟨rfl,h3.pre (b11.trans (c3.trans (bd12.mono (by omega)))) (fun g hg=>c1 g (Or.inl hg)) (fun g hg=>?_)⟩
   have hzl:=(h.zm g hg).1
   have e1:W12.heap[g]? = W11.heap[g]? := c4 g (by omega) (by simp [Value.ownBlock]) (fun q=>by rw [em] at q;exact (h.zm g hg).2.1 q)
   exact e1.trans (z11 g hg))
 exact ⟨mb,mc,C,_,hq⟩
end Go.Proofs.YtkncboinfcnklaaGreatDoor.Lw

namespace Go.Proofs.YtkncboinfcnklaaGreatDoor.Lw
open Go.RowKit Go.Deep Go.Shelf Go.Proofs.YtkncboinfcnklaaGreatDoor.Mth Go.Proofs.YtkncboinfcnklaaGreatDoor.Rl
def P16 (L:Lg) (ts:List Tl):Prop:=ts=[]∧∀ x,L.tls x=none
theorem app_tls (L:Lg) (s:ByteArray):(L.app s).tls=L.tls∧(L.app s).subs=L.subs∧(L.app s).tn=L.tn:=by
 unfold Lg.app Lg.more
 split <;> exact ⟨rfl,rfl,rfl⟩
theorem sh16:SH P16 16:=by
 have hPt:∀ L ts,P16 L ts→ts.length≤1000:=fun _ ts h=>by rw [h.1];exact Nat.zero_le _
 refine sh_of (by omega) (fun _ _ _ _ _ _=>⟨rfl,fun _=>rfl⟩) (fun L _ s h=>⟨h.1,fun x=>by rw [(app_tls L s).1];exact h.2 x⟩) (fun _ _ _ h=>h) hPt ?_
 intro Z w B wb g0 g1 g2 g3 hv ke ks kr Ne Ns Nr M hs i o h hi ht hBw hO hk1 hk2 hM
 obtain ⟨k,A,Bv,Cv,S,T⟩:=o
 obtain ⟨_,_,_,hS⟩:=hO
 simp only at hk1 hk2 hS
 rcases (show k=14∨k=15∨k=16 by omega) with rfl | rfl | rfl
 ·exact asksQ_any h hi ht hBw A Bv Cv S T hS hM hPt
 ·refine asksS_any h hi ht hBw A Bv Cv S T hM hPt (fun L L' ts hp e1 _ _ _=>⟨hp.1,fun x=>by rw [e1];exact hp.2 x⟩) (fun L all ts hI hp=>?_)
  rw [hp.1]
  have hc:=hI.cnt
  refine ⟨?_,fun x p hx=>?_,Or.inl ?_⟩
  ·show all.length≤L.count;omega
  ·rw [hp.2 x] at hx;cases hx
  ·show all.length=L.count;omega
 ·exact asksL_any h hi hBw A Bv Cv S T hM hPt
set_option maxRecDepth 100000 in
set_option maxHeartbeats 1000000 in
theorem lawWorkers_any (W0:World) (g0 g1 g2 g3 sv:Value) (Cs:List Cf) (ops:List Opr) (hs0:isS g0) (hs1:isS g1) (hs2:isS g2) (hG:RdC W0 g3 Cs) (hCl:Cs.length≤1048576) (ht:TabB W0.heap.size W0) (ht':Tab10B W0.heap.size W0) (hO:RdO W0 sv ops) (hOk:∀ o ∈ ops,OkH o) (hn:ops.length≤190000) :
  Calls Tryz.prog 7 #[.agg #[g0,g1,g2,g3],sv] W0 fun e w'=>e=.returned (.bool true)∧Below W0.heap.size W0 w':=by
 have HB1:=hide (below_alloc W0 (Obj.cells #[g0,g1,g2,g3] 27))
 have CP:=hide (playsH_any (hi:=16) (by omega) sh16 _ g0 g1 g2 g3 sv Cs ops hs0 hs1 hs2 (hG.below HB1.out) hCl (TabB.mono (ht.next HB1.out) HB1.out.size) (Tab10B.mono (ht'.next HB1.out) HB1.out.size) (hO.below HB1.out) hOk hn)
 obtain ⟨sa,sc,rfl,_,_⟩:=rdO_len hO
 obtain ⟨a3,c3,rfl,_,_,_⟩:=hG
 obtain ⟨a0,n0,c0,rfl⟩:=hs0
 obtain ⟨a1,n1,c1,rfl⟩:=hs1
 obtain ⟨ga,gn,gc,rfl⟩:=hs2
 clear hO hOk ht ht'
 go_enter Tryz.func7,Tryz.ntmps7
 go_wp2_with fail
 refine CP.out.mono ?_
 rintro e w' ⟨rfl,hb⟩
 have HB:=hide (HB1.out.trans (hb.mono HB1.out.size))
 clear hb CP
 go_wp2
 go_ret
 exact ⟨rfl,HB.out⟩
end Go.Proofs.YtkncboinfcnklaaGreatDoor.Lw

namespace Go.Proofs.YtkncboinfcnklaaGreatDoor.lwin
open Go.ChangeShapes Go.WideShapes Go.ChangeAt Go.RowKit Go.Deep Go.Proofs.YtkncboinfcnklaaGreatDoor.Mth
open Go.ChangeMaps (open_string shut_string)
theorem cells3:Tryz.prog.cellsOf 3=1:=by kernel_rfl
theorem cells9:Tryz.prog.cellsOf 9=1:=by kernel_rfl
theorem cellsO:Tryz.prog.cellsOf 94=6:=by kernel_rfl
theorem cellsCf:Tryz.prog.cellsOf 56=6:=by kernel_rfl
theorem bnd {n:Int} (h:(Lit.int .i64 n).wf=true):-9223372036854775808≤n∧n < 9223372036854775808:=by
 simp [Lit.wf,IntKind.min,IntKind.max,IntKind.signed,IntKind.bits] at h
 omega
theorem one_le {H:Type} (d:DataW H):1≤Rows.uptoBulk d:=by
 cases d with
 | lit l=>cases l <;> simp [Rows.uptoBulk]
 | nil=>simp [Rows.uptoBulk]
 | ptr d=>simp [Rows.uptoBulk]
 | slice elems spare=>simp [Rows.uptoBulk]
 | agg parts=>simp [Rows.uptoBulk]
 | iface t d=>simp [Rows.uptoBulk]
 | map entries=>simp [Rows.uptoBulk]
 | held h=>simp [Rows.uptoBulk]
theorem length_le {H:Type} (l:List (DataW H)):l.length≤Rows.uptoBulkAll l:=by
 induction l with
 | nil=>simp [Rows.uptoBulkAll]
 | cons x r ih=>have:=one_le x;simp only [Rows.uptoBulkAll,List.length_cons];omega
theorem part_le {H:Type} {l:List (DataW H)} {x:DataW H} (h:x ∈ l):Rows.uptoBulk x≤Rows.uptoBulkAll l:=by
 induction l with
 | nil=>cases h
 | cons y r ih=>
  simp only [Rows.uptoBulkAll]
  rcases List.mem_cons.1 h with e | e
  ·subst e;omega
  ·have:=ih e;omega
theorem slice_le {H:Type} (elems spare:List (DataW H)):elems.length≤Rows.uptoBulk (.slice elems spare):=by
 have h1:=length_le elems
 simp only [Rows.uptoBulk]
 omega
theorem elem_le {H:Type} {elems spare:List (DataW H)} {x:DataW H} (h:x ∈ elems):Rows.uptoBulk x≤Rows.uptoBulk (.slice elems spare):=by
 have h1:=part_le h
 simp only [Rows.uptoBulk]
 omega
theorem agg_le {H:Type} {parts:List (DataW H)} {x:DataW H} (h:x ∈ parts):Rows.uptoBulk x≤Rows.uptoBulk (.agg parts):=by
 have h1:=part_le h
 simp only [Rows.uptoBulk]
 omega
theorem seven_le {H:Type} (d0 d1 d2 d3 d4 d5:DataW H):7≤Rows.uptoBulk (.agg [d0,d1,d2,d3,d4,d5]:DataW H):=by
 have h0:=one_le d0
 have h1:=one_le d1
 have h2:=one_le d2
 have h3:=one_le d3
 have h4:=one_le d4
 have h5:=one_le d5
 simp only [Rows.uptoBulk,Rows.uptoBulkAll]
 omega
theorem sum_le {H:Type} (n:Nat):∀ (l:List (DataW H)),(∀ x ∈ l,n≤Rows.uptoBulk x)→n * l.length≤Rows.uptoBulkAll l
 | [],_=>by simp [Rows.uptoBulkAll]
 | x :: r,h=>by
  have h1:=h x (by simp)
  have h2:=sum_le n r (fun y hy=>h y (by simp [hy]))
  simp only [Rows.uptoBulkAll,List.length_cons,Nat.mul_add]
  omega
section
variable {H:Type} {enc:TypeId × Value→H} {W:World}
theorem trod4 {t:TypeId} {f0 f1 f2 f3:Field} {fuel:Nat} {cs:List Value} {x:DataW H × List MemPlace} (ht:Tryz.prog.underlying t=some (.struct #[f0,f1,f2,f3])) (h:DataW.trod enc Tryz.prog W 0 (fun _=>true) true fuel t cs=some x) :
  ∃ y0 y1 y2 y3 n,x=(.agg [y0.1,y1.1,y2.1,y3.1],y0.2 ++ (y1.2 ++ (y2.2 ++ y3.2)))∧cs.length=Tryz.prog.cellsOf t∧DataW.trod enc Tryz.prog W 0 (fun _=>true) true n f0.type ((cs.drop f0.offset).take (Tryz.prog.cellsOf f0.type))=some y0∧DataW.trod enc Tryz.prog W 0 (fun _=>true) true n f1.type ((cs.drop f1.offset).take (Tryz.prog.cellsOf f1.type))=some y1∧DataW.trod enc Tryz.prog W 0 (fun _=>true) true n f2.type ((cs.drop f2.offset).take (Tryz.prog.cellsOf f2.type))=some y2∧DataW.trod enc Tryz.prog W 0 (fun _=>true) true n f3.type ((cs.drop f3.offset).take (Tryz.prog.cellsOf f3.type))=some y3:=by
 obtain ⟨xs,n,_,rfl,hl,hlen,hf⟩:=DataW.trod_struct ht h
 match xs,hlen with
 | [y0,y1,y2,y3],_=>exact ⟨y0,y1,y2,y3,n,by simp,hl,by simpa using hf 0 f0 rfl,by simpa using hf 1 f1 rfl,by simpa using hf 2 f2 rfl,by simpa using hf 3 f3 rfl⟩
theorem trod6 {t:TypeId} {f0 f1 f2 f3 f4 f5:Field} {fuel:Nat} {cs:List Value} {x:DataW H × List MemPlace} (ht:Tryz.prog.underlying t=some (.struct #[f0,f1,f2,f3,f4,f5])) (h:DataW.trod enc Tryz.prog W 0 (fun _=>true) true fuel t cs=some x) :
  ∃ y0 y1 y2 y3 y4 y5 n,x.1=.agg [y0.1,y1.1,y2.1,y3.1,y4.1,y5.1]∧cs.length=Tryz.prog.cellsOf t∧DataW.trod enc Tryz.prog W 0 (fun _=>true) true n f0.type ((cs.drop f0.offset).take (Tryz.prog.cellsOf f0.type))=some y0∧DataW.trod enc Tryz.prog W 0 (fun _=>true) true n f1.type ((cs.drop f1.offset).take (Tryz.prog.cellsOf f1.type))=some y1∧DataW.trod enc Tryz.prog W 0 (fun _=>true) true n f2.type ((cs.drop f2.offset).take (Tryz.prog.cellsOf f2.type))=some y2∧DataW.trod enc Tryz.prog W 0 (fun _=>true) true n f3.type ((cs.drop f3.offset).take (Tryz.prog.cellsOf f3.type))=some y3∧DataW.trod enc Tryz.prog W 0 (fun _=>true) true n f4.type ((cs.drop f4.offset).take (Tryz.prog.cellsOf f4.type))=some y4∧DataW.trod enc Tryz.prog W 0 (fun _=>true) true n f5.type ((cs.drop f5.offset).take (Tryz.prog.cellsOf f5.type))=some y5:=by
 obtain ⟨xs,n,_,rfl,hl,hlen,hf⟩:=DataW.trod_struct ht h
 match xs,hlen with
 | [y0,y1,y2,y3,y4,y5],_=>exact ⟨y0,y1,y2,y3,y4,y5,n,by simp,hl,by simpa using hf 0 f0 rfl,by simpa using hf 1 f1 rfl,by simpa using hf 2 f2 rfl,by simpa using hf 3 f3 rfl,by simpa using hf 4 f4 rfl,by simpa using hf 5 f5 rfl⟩
theorem slice_in {t e:TypeId} {fuel:Nat} {cs:List Value} {x:DataW H × List MemPlace} (ht:Tryz.prog.underlying t=some (.slice e)) (h:DataW.trod enc Tryz.prog W 0 (fun _=>true) true fuel t cs=some x):∃ a n c,cs=[.slice a n c]:=by
 rcases open_slice ht h with ⟨hcs,_⟩ | ⟨a,l,c,m,n,D,Pl,hcs,_⟩
 ·exact ⟨_,_,_,hcs⟩
 ·exact ⟨_,_,_,hcs⟩
theorem cfs_in {fuel:Nat} {v:Value} {d:DataW H} {p:List MemPlace} (hf:DataW.trod enc Tryz.prog W 0 (fun _=>true) true fuel 25 [v]=some (d,p)) :
  ∃ l:List Lw.Cf,Lw.RdC W v l∧l.length≤Rows.uptoBulk d:=by
 rcases open_slice Tryz.underlying25 hf with ⟨hcs,hx⟩ | ⟨x,len,cap,m,n,D,Pl,hcs,_,hl,hm,hmm,hx,hcell⟩
 ·injection hcs with hcs _
  subst hcs
  exact ⟨[],⟨none,0,rfl,Nat.le_refl _,by unfold maxLen;omega,Or.inl rfl⟩,Nat.zero_le _⟩
 ·injection hcs with hcs _
  subst hcs
  injection hx with hx _
  have hlm:len≤m:=by rw [hmm];split <;> omega
  have each:∀ i,i < len→∃ e:(Int × Int × Int) × (Int × Int × Int),W.cell? (x.add (i * 6))=some (.int .i64 e.1.1)∧W.cell? (x.add (i * 6 + 1))=some (.int .i64 e.1.2.1)∧W.cell? (x.add (i * 6 + 2))=some (.int .i64 e.1.2.2)∧W.cell? (x.add (i * 6 + 3))=some (.int .i64 e.2.1)∧W.cell? (x.add (i * 6 + 4))=some (.int .i64 e.2.2.1)∧W.cell? (x.add (i * 6 + 5))=some (.int .i64 e.2.2.2):=by
   intro i hi
   obtain ⟨cs',h1,h2⟩:=hcell i (by omega)
   rw [cellsCf] at h1
   obtain ⟨_,hlen,hc⟩:=World.cells?_some h1
   obtain ⟨y0,y1,y2,y3,y4,y5,n',_,_,g0,g1,g2,g3,g4,g5⟩:=trod6 Tryz.underlying56 h2
   simp only [cells3] at g0 g1 g2 g3 g4 g5
   have e0':=hc 0 (by omega)
   have e1':=hc 1 (by omega)
   have e2':=hc 2 (by omega)
   have e3':=hc 3 (by omega)
   have e4':=hc 4 (by omega)
   have e5':=hc 5 (by omega)
   rw [add_add] at e0' e1' e2' e3' e4' e5'
   match cs',hlen,g0,g1,g2,g3,g4,g5,e0',e1',e2',e3',e4',e5' with
   | [v0,v1,v2,v3,v4,v5],_,g0,g1,g2,g3,g4,g5,e0',e1',e2',e3',e4',e5'=>
    obtain ⟨a0,f0,_,_⟩:=DataW.trod_int Tryz.underlying3 g0
    obtain ⟨a1,f1,_,_⟩:=DataW.trod_int Tryz.underlying3 g1
    obtain ⟨a2,f2,_,_⟩:=DataW.trod_int Tryz.underlying3 g2
    obtain ⟨a3,f3,_,_⟩:=DataW.trod_int Tryz.underlying3 g3
    obtain ⟨a4,f4,_,_⟩:=DataW.trod_int Tryz.underlying3 g4
    obtain ⟨a5,f5,_,_⟩:=DataW.trod_int Tryz.underlying3 g5
    simp at f0 f1 f2 f3 f4 f5
    subst f0 f1 f2 f3 f4 f5
    exact ⟨((a0,a1,a2),(a3,a4,a5)),by simpa using e0',by simpa using e1',by simpa using e2',by simpa using e3',by simpa using e4',by simpa using e5'⟩
  obtain ⟨q,hq⟩:=choose_lt each
  have hget:∀ j,j < len→((List.range len).map (fun i=>(⟨(q i).1.1,(q i).1.2.1,(q i).1.2.2,(q i).2.1,(q i).2.2.1,(q i).2.2.2⟩:Lw.Cf))).getD j Lw.cf0=⟨(q j).1.1,(q j).1.2.1,(q j).1.2.2,(q j).2.1,(q j).2.2.1,(q j).2.2.2⟩:=fun j hj=>by simp [List.getD,hj]
  refine ⟨(List.range len).map (fun i=>⟨(q i).1.1,(q i).1.2.1,(q i).1.2.2,(q i).2.1,(q i).2.2.1,(q i).2.2.2⟩),⟨some x,cap,by simp,by simpa using hl,hm,?_⟩,?_⟩
  ·by_cases h0:len=0
   ·subst h0;exact Or.inl rfl
   ·right
    obtain ⟨xb,xo,xs⟩:=x
    have hsp:xs=none:=by simpa [Addr.add] using World.cell?_spot (hq 0 (by omega)).1
    subst hsp
    refine ⟨xb,xo,rfl,fun j hj=>?_⟩
    have hj':j < len:=by simpa using hj
    obtain ⟨c0,c1,c2,c3,c4,c5⟩:=hq j hj'
    rw [add_plain] at c0 c1 c2 c3 c4 c5
    rw [hget j hj']
    exact ⟨c0,by rw [Nat.add_assoc];exact c1,by rw [Nat.add_assoc];exact c2,by rw [Nat.add_assoc];exact c3,by rw [Nat.add_assoc];exact c4,by rw [Nat.add_assoc];exact c5⟩
  ·rw [hx]
   have:=slice_le ((List.range len).map D) ((List.range (m - len)).map fun j=>D (len + j))
   simp only [List.length_map,List.length_range] at this ⊢
   exact this
theorem opsH_in {fuel:Nat} {v:Value} {d:DataW H} {p:List MemPlace} (hf:DataW.trod enc Tryz.prog W 0 (fun _=>true) true fuel 28 [v]=some (d,p)) (hb:Rows.uptoBulk d≤1048576) :
  ∃ l:List Opr,RdO W v l∧(∀ o ∈ l,Lw.OkH o)∧l.length≤149797:=by
 rcases open_slice Tryz.underlying28 hf with ⟨hcs,hx⟩ | ⟨x,len,cap,m,n,D,Pl,hcs,_,hl,hm,hmm,hx,hcell⟩
 ·injection hcs with hcs _
  subst hcs
  exact ⟨[],⟨none,0,rfl,Nat.le_refl _,by unfold maxLen;omega,Or.inl rfl⟩,(fun E hE=>by cases hE),Nat.zero_le _⟩
 ·injection hcs with hcs _
  subst hcs
  injection hx with hx _
  have hlm:len≤m:=by rw [hmm];split <;> omega
  have each:∀ i,i < len→∃ e:(Int × Int × Int × Int) × (ByteArray × ByteArray),(W.cell? (x.add (i * 6))=some (.int .i64 e.1.1)∧W.cell? (x.add (i * 6 + 1))=some (.int .i64 e.1.2.1)∧W.cell? (x.add (i * 6 + 2))=some (.int .i64 e.1.2.2.1)∧W.cell? (x.add (i * 6 + 3))=some (.int .i64 e.1.2.2.2)∧W.cell? (x.add (i * 6 + 4))=some (.string e.2.1)∧W.cell? (x.add (i * 6 + 5))=some (.string e.2.2))∧Lw.OkH ⟨e.1.1,e.1.2.1,e.1.2.2.1,e.1.2.2.2,e.2.1,e.2.2⟩∧7≤Rows.uptoBulk (D i):=by
   intro i hi
   obtain ⟨cs',h1,h2⟩:=hcell i (by omega)
   rw [cellsO] at h1
   obtain ⟨_,hlen,hc⟩:=World.cells?_some h1
   obtain ⟨y0,y1,y2,y3,y4,y5,n',hagg,_,g0,g1,g2,g3,g4,g5⟩:=trod6 Tryz.underlying94 h2
   simp only [cells3,cells9] at g0 g1 g2 g3 g4 g5
   have e0':=hc 0 (by omega)
   have e1':=hc 1 (by omega)
   have e2':=hc 2 (by omega)
   have e3':=hc 3 (by omega)
   have e4':=hc 4 (by omega)
   have e5':=hc 5 (by omega)
   rw [add_add] at e0' e1' e2' e3' e4' e5'
   match cs',hlen,g0,g1,g2,g3,g4,g5,e0',e1',e2',e3',e4',e5' with
   | [v0,v1,v2,v3,v4,v5],_,g0,g1,g2,g3,g4,g5,e0',e1',e2',e3',e4',e5'=>
    obtain ⟨a0,f0,_,_⟩:=DataW.trod_int Tryz.underlying3 g0
    obtain ⟨a1,f1,_,w1⟩:=DataW.trod_int Tryz.underlying3 g1
    obtain ⟨a2,f2,_,w2⟩:=DataW.trod_int Tryz.underlying3 g2
    obtain ⟨a3,f3,_,w3⟩:=DataW.trod_int Tryz.underlying3 g3
    obtain ⟨a4,f4,x4,_⟩:=DataW.trod_string Tryz.underlying9 g4
    obtain ⟨a5,f5,_,_⟩:=DataW.trod_string Tryz.underlying9 g5
    simp at f0 f1 f2 f3 f4 f5
    subst f0 f1 f2 f3 f4 f5
    have b1:=bnd w1
    have b2:=bnd w2
    have b3:=bnd w3
    have h7:7≤Rows.uptoBulk (D i):=by
     have e:D i=.agg [y0.1,y1.1,y2.1,y3.1,y4.1,y5.1]:=hagg
     rw [e]
     exact seven_le _ _ _ _ _ _
    have hS:a4.size≤1048576:=by
     have q1:Rows.uptoBulk y4.1≤Rows.uptoBulk (D i):=by
      have e:D i=.agg [y0.1,y1.1,y2.1,y3.1,y4.1,y5.1]:=hagg
      rw [e]
      exact agg_le (by simp)
     have q2:Rows.uptoBulk (D i)≤Rows.uptoBulk d:=by
      rw [hx]
      exact elem_le (List.mem_map.2 ⟨i,List.mem_range.2 hi,rfl⟩)
     rw [x4] at q1
     simp only [Rows.uptoBulk] at q1
     have q3:a4.data.toList.length=a4.size:=by simp
     omega
    exact ⟨((a0,a1,a2,a3),(a4,a5)),⟨by simpa using e0',by simpa using e1',by simpa using e2',by simpa using e3',by simpa using e4',by simpa using e5'⟩,⟨b1,b2,b3,hS⟩,h7⟩
  obtain ⟨q,hq⟩:=choose_lt each
  have hget:∀ j,j < len→((List.range len).map (fun i=>(⟨(q i).1.1,(q i).1.2.1,(q i).1.2.2.1,(q i).1.2.2.2,(q i).2.1,(q i).2.2⟩:Opr))).getD j o0=⟨(q j).1.1,(q j).1.2.1,(q j).1.2.2.1,(q j).1.2.2.2,(q j).2.1,(q j).2.2⟩:=fun j hj=>by simp [List.getD,hj]
  refine ⟨(List.range len).map (fun i=>⟨(q i).1.1,(q i).1.2.1,(q i).1.2.2.1,(q i).1.2.2.2,(q i).2.1,(q i).2.2⟩),⟨some x,cap,by simp,by simpa using hl,hm,?_⟩,?_,?_⟩
  ·by_cases h0:len=0
   ·subst h0;exact Or.inl rfl
   ·right
    obtain ⟨xb,xo,xs⟩:=x
    have hsp:xs=none:=by simpa [Addr.add] using World.cell?_spot (hq 0 (by omega)).1.1
    subst hsp
    refine ⟨xb,xo,rfl,fun j hj=>?_⟩
    have hj':j < len:=by simpa using hj
    obtain ⟨⟨c0,c1,c2,c3,c4,c5⟩,_⟩:=hq j hj'
    rw [add_plain] at c0 c1 c2 c3 c4 c5
    rw [hget j hj']
    exact ⟨c0,by rw [Nat.add_assoc];exact c1,by rw [Nat.add_assoc];exact c2,by rw [Nat.add_assoc];exact c3,by rw [Nat.add_assoc];exact c4,by rw [Nat.add_assoc];exact c5⟩
  ·intro o ho
   obtain ⟨i,hi,rfl⟩:=List.mem_map.1 ho
   exact (hq i (List.mem_range.1 hi)).2.1
  ·have h1:=sum_le 7 ((List.range len).map D) (fun y hy=>by
    obtain ⟨i,hi,rfl⟩:=List.mem_map.1 hy
    exact (hq i (List.mem_range.1 hi)).2.2)
   have h2:Rows.uptoBulkAll ((List.range len).map D)≤Rows.uptoBulk d:=by
    rw [hx]
    simp only [Rows.uptoBulk]
    omega
   simp only [List.length_map,List.length_range] at h1 ⊢
   omega
end
end Go.Proofs.YtkncboinfcnklaaGreatDoor.lwin
