import Derived.Test.YtkncboinfcnklaaGreatDoorProg
import Derived.Laws.Slices
import Derived.Laws.Rows
import Derived.ProofKit
import Derived.Test.YtkncboinfcnklaaGreatDoorQ35
import Derived.Test.YtkncboinfcnklaaGreatDoorQ25
namespace Go.Proofs.YtkncboinfcnklaaGreatDoor.Rl
open Go.RowKit
theorem wp_slice_lo {P:Program} {o:Oper} {a:Act} {w:World} {K:Act→World→Prop} {Q:Exit→Act→World→Prop} (t:TypeId) (x l:Operand) (ho:o.op=.slice t x (some l) none none) (e:TypeId) (ht:P.underlying t=some (.slice e)) {i:TypeInfo} (hi:P.info? e=some i)
  (g n c k:Nat) (hx:a.eval x=.slice (some ⟨g,0,none⟩) n c) (hl:a.eval l=.int .i64 (k:Int)) (hk:k≤n)
  (h:∀ ad:Addr,(ad=⟨g,k * i.size,none⟩∨c=k)→K (a.put o.dst (.slice (some ad) (n - k) (c - k))) w):Oper.wp P o a w K Q:=by
 have he:P.elem t=e:=by simp [Program.elem,ht]
 have hr:=run_slice_l (P:=P) (w:=w) (a:=some ⟨g,0,none⟩) (len:=n) (cap:=c) (t:=t) (by rw [he];exact ht) .i64 (k:Int) (by omega) (by omega)
 have hsz:(sizeOf (P.elem t)).run P w=.ok i.size w:=by rw [he];simp [sizeOf,typeInfo,hi]
 rw [hsz] at hr
 simp only [Result.andThen,Int.toNat_natCast,sliced] at hr
 have hr2:=run_sliceAt_slice (P:=P) (w:=w) t (.slice (some ⟨g,0,none⟩) n c) (some (.int .i64 (k:Int))) none none (by rw [he];exact ht)
 rw [hr] at hr2
 unfold Oper.wp execOp
 simp only [ho,hx,Option.map_some,Option.map_none,hl,Sem.run_bind]
 by_cases hc:c=k
 ·rw [if_pos hc] at hr2
  rw [hr2]
  simp only [Result.andThen_ok,Sem.run_pure]
  exact h _ (Or.inr hc)
 ·rw [if_neg hc] at hr2
  rw [hr2]
  simp only [Result.andThen_ok,Sem.run_pure]
  have ha:(⟨g,0,none⟩:Addr).add (k * i.size)=⟨g,k * i.size,none⟩:=by unfold Addr.add;split <;> simp_all
  rw [Option.map_some,ha]
  exact h _ (Or.inl rfl)
theorem wpList_slice_lo {P:Program} {ops:Array Oper} {rest:List Oper} {o:Oper} {a:Act} {w:World} {Q:Exit→Act→World→Prop} (hgd:o.guard=none) (t:TypeId) (x l:Operand) (ho:o.op=.slice t x (some l) none none) (e:TypeId) (ht:P.underlying t=some (.slice e)) {i:TypeInfo} (hi:P.info? e=some i)
  (g n c k:Nat) (hx:a.eval x=.slice (some ⟨g,0,none⟩) n c) (hl:a.eval l=.int .i64 (k:Int)) (hk:k≤n)
  (h:∀ ad:Addr,(ad=⟨g,k * i.size,none⟩∨c=k)→wpList P ops Q rest (a.put o.dst (.slice (some ad) (n - k) (c - k))) w):wpList P ops Q (o :: rest) a w:=
 wpList_plain hgd fun _ hK=>wp_slice_lo t x l ho e ht hi g n c k hx hl hk (fun ad had=>hK _ _ (h ad had))
end Go.Proofs.YtkncboinfcnklaaGreatDoor.Rl

namespace Go.Proofs.YtkncboinfcnklaaGreatDoor.Rl
open Go.RowKit Go.Deep Go.Shelf Go.Proofs.YtkncboinfcnklaaGreatDoor.Mth
theorem row_drop {w:World} {B g n c k sz:Nat} {e:TypeId} {xs:List Value} (h:w.ownsRow B e sz (.slice (some ⟨g,0,none⟩) n c) n xs) {ad:Addr} (had:ad=⟨g,k * sz,none⟩∨c=k):∀ j u,(xs.drop (k * sz))[j]? = some u→w.cell? (ad.add j)=some u:=fun j u hu=>by
 rcases had with rfl | rfl
 ·rw [List.getElem?_drop] at hu
  have:=own_get h hu
  have ha:(⟨g,k * sz,none⟩:Addr).add j=⟨g,k * sz + j,none⟩:=by unfold Addr.add;split <;> simp_all
  rw [ha]
  exact this
 ·have h1:=own_cap h
  have h2:=h.1
  rw [List.drop_eq_nil_of_le (by rw [h2];exact Nat.mul_le_mul_right _ h1.1)] at hu
  simp at hu
def tkW (ks:List Wk) (f a n x:Nat):List Wk:=(era ks f a).set n ⟨((era ks f a).getD n wk0).list,some x,((era ks f a).getD n wk0).read⟩
theorem tkW_len (ks:List Wk) (f a n x:Nat):(tkW ks f a n x).length=ks.length:=by simp [tkW,era]
theorem getD_setW {ks:List Wk} {q p:Nat} {k:Wk} (h:q < ks.length):(ks.set q k).getD p wk0=if p=q then k else ks.getD p wk0:=by
 by_cases e:p=q
 ·subst e
  rw [if_pos rfl,List.getD_eq_getElem?_getD,List.getElem?_set_self h]
  rfl
 ·rw [if_neg e,List.getD_eq_getElem?_getD,List.getElem?_set_ne (fun q=>e q.symm),← List.getD_eq_getElem?_getD]
theorem era_at {ks:List Wk} {f a p:Nat} (hf:f < ks.length):(era ks f a).getD p wk0=if p=f then ⟨(ks.getD f wk0).list.eraseIdx a,(ks.getD f wk0).runs,(ks.getD f wk0).read⟩ else ks.getD p wk0:=getD_setW hf
theorem tkW_runs {ks:List Wk} {f a n x p:Nat} (hf:f < ks.length) (hn:n < ks.length):((tkW ks f a n x).getD p wk0).runs=if p=n then some x else (ks.getD p wk0).runs:=by
 unfold tkW
 rw [getD_setW (by rw [era_len];exact hn)]
 by_cases e:p=n
 ·rw [if_pos e,if_pos e]
 ·rw [if_neg e,if_neg e,era_at hf]
  by_cases e2:p=f
  ·rw [if_pos e2,e2]
  ·rw [if_neg e2]
theorem tkW_read {ks:List Wk} {f a n x p:Nat} (hf:f < ks.length) (hn:n < ks.length):((tkW ks f a n x).getD p wk0).read=(ks.getD p wk0).read:=by
 have h2:∀ p,((era ks f a).getD p wk0).read=(ks.getD p wk0).read:=fun p=>by
  rw [era_at hf]
  by_cases e2:p=f
  ·rw [if_pos e2,e2]
  ·rw [if_neg e2]
 unfold tkW
 rw [getD_setW (by rw [era_len];exact hn)]
 by_cases e:p=n
 ·rw [if_pos e,h2,e]
 ·rw [if_neg e,h2]
theorem tkW_list {ks:List Wk} {f a n x p:Nat} (hf:f < ks.length) (hn:n < ks.length):((tkW ks f a n x).getD p wk0).list=if p=f then (ks.getD f wk0).list.eraseIdx a else (ks.getD p wk0).list:=by
 have h2:∀ p,((era ks f a).getD p wk0).list=if p=f then (ks.getD f wk0).list.eraseIdx a else (ks.getD p wk0).list:=fun p=>by
  rw [era_at hf]
  by_cases e2:p=f
  ·rw [if_pos e2,if_pos e2]
  ·rw [if_neg e2,if_neg e2]
 unfold tkW
 rw [getD_setW (by rw [era_len];exact hn)]
 by_cases e:p=n
 ·rw [if_pos e,h2,e]
 ·rw [if_neg e,h2]
theorem wkRs_ext {ks:List Wk} {wl:Nat→Value} {rd:Nat→Int} {xs:List Value} (hl:xs.length=ks.length * 3) (h:∀ q,q < ks.length→xs[q * 3]? = some (wl q)∧xs[q * 3 + 1]? = some (.int .i64 (rnV (ks.getD q wk0).runs))∧xs[q * 3 + 2]? = some (.int .i64 (rd q))):xs=wkRs ks wl rd:=by
 apply List.ext_getElem?
 intro j
 by_cases hj:j < ks.length * 3
 ·have hp:j / 3 < ks.length:=by omega
  obtain ⟨a0,a1,a2⟩:=h (j / 3) hp
  obtain ⟨b0,b1,b2⟩:=wkRs_at (ks:=ks) (wl:=wl) (rd:=rd) hp
  rcases (show j=j / 3 * 3∨j=j / 3 * 3 + 1∨j=j / 3 * 3 + 2 by omega) with e | e | e
  ·rw [e,a0,b0]
  ·rw [e,a1,b1]
  ·rw [e,a2,b2]
 ·rw [List.getElem?_eq_none (by omega),List.getElem?_eq_none (by rw [wkRs_len];omega)]
theorem wkRs_take {ks:List Wk} {wl:Nat→Value} {rd:Nat→Int} {f a n x:Nat} {v:Value} (hf:f < ks.length) (hn:n < ks.length) :
  (((wkRs ks wl rd).set (n * 3 + 1) (.int .i64 (x:Int))).set (n * 3 + 2) (.int .i64 0)).set (f * 3) v=wkRs (tkW ks f a n x) (fun p=>if p=f then v else wl p) (fun p=>if p=n then 0 else rd p):=by
 have hl:(wkRs ks wl rd).length=ks.length * 3:=wkRs_len _ _ _
 refine wkRs_ext (by rw [List.length_set,List.length_set,List.length_set,hl,tkW_len]) (fun q hq=>?_)
 rw [tkW_len] at hq
 obtain ⟨b0,b1,b2⟩:=wkRs_at (ks:=ks) (wl:=wl) (rd:=rd) hq
 refine ⟨?_,?_,?_⟩
 ·by_cases e:q=f
  ·subst e
   rw [if_pos rfl,List.getElem?_set_self (by rw [List.length_set,List.length_set,hl];omega)]
  ·rw [if_neg e,List.getElem?_set_ne (by omega),List.getElem?_set_ne (by omega),List.getElem?_set_ne (by omega),b0]
 ·rw [tkW_runs hf hn,List.getElem?_set_ne (by omega),List.getElem?_set_ne (by omega)]
  by_cases e:q=n
  ·subst e
   rw [if_pos rfl,List.getElem?_set_self (by rw [hl];omega)]
   rfl
  ·rw [if_neg e,List.getElem?_set_ne (by omega),b1]
 ·rw [List.getElem?_set_ne (by omega)]
  by_cases e:q=n
  ·subst e
   rw [if_pos rfl,List.getElem?_set_self (by rw [List.length_set,hl];omega)]
  ·rw [if_neg e,List.getElem?_set_ne (by omega),List.getElem?_set_ne (by omega),b2]
theorem bst_zero {ks:List Wk}:∀ k,(ks.getD (bst ks k) wk0).list.length=0→∀ p,p < k→(ks.getD p wk0).list.length=0
 | 0,_,p,hp=>absurd hp (Nat.not_lt_zero _)
 | k + 1,h,p,hp=>by
  rw [bst] at h
  split at h
  ·omega
  ·by_cases e:p=k
   ·subst e;omega
   ·exact bst_zero k h p (by omega)
end Go.Proofs.YtkncboinfcnklaaGreatDoor.Rl

namespace Go.Proofs.YtkncboinfcnklaaGreatDoor.Rl
open Go.RowKit Go.Deep Go.Shelf Go.Proofs.YtkncboinfcnklaaGreatDoor.Mth
def TyF (w w':World):Prop:=∀ (g:Nat) (C:Array Value) (t:TypeId),w.heap[g]? = some (Obj.cells C t (0,0))→(t=94∨t=245)→w'.heap[g]? = w.heap[g]?
theorem TyF.trans {w w1 w2:World} (h1:TyF w w1) (h2:TyF w1 w2):TyF w w2:=fun g C t hg ht=>(h2 g C t ((h1 g C t hg ht).trans hg) ht).trans (h1 g C t hg ht)
theorem TyF.below {w w':World} (h:Below w.heap.size w w'):TyF w w':=fun g _ _ hg _=>h.block g (Array.getElem?_eq_some_iff.1 hg).1
theorem TyF.tch {S:Nat→Prop} {w w':World} (h:Tch S w w') (hS:∀ g,S g→∃ C t,w.heap[g]? = some (Obj.cells C t (0,0))∧t≠94∧t≠245):TyF w w':=fun g C t hg ht=>h.block g (Array.getElem?_eq_some_iff.1 hg).1 (fun q=>by
 obtain ⟨C',t',h1,h2,h3⟩:=hS g q
 have:=cells_ty hg h1
 subst this
 rcases ht with e | e
 ·exact h2 e
 ·exact h3 e)
theorem own_typ {w:World} {B:Nat} {e:TypeId} {sz:Nat} {v:Value} {n:Nat} {xs:List Value} (h:w.ownsRow B e sz v n xs) (h1:e≠94) (h2:e≠245) {g:Nat} (hg:some g=v.ownBlock):∃ C t,w.heap[g]? = some (Obj.cells C t (0,0))∧t≠94∧t≠245:=by
 obtain ⟨_,_,D,hD⟩:=own_block h hg
 exact ⟨D,_,hD,h1,h2⟩
def Rv.lev1 (V:Rv) (j:Nat) (v:Value) (sv:Nat→Value):Rv:={ V with lv:=fun i=>if i=j then v else V.lv i,sv:=fun i k=>if i=j then sv k else V.sv i k }
def Lg.lev1 (L:Lg) (j:Nat) (l:List (List Ent)):Lg:={ L with lev:=fun i=>if i=j then l else L.lev i }
theorem RfV.lev1 {Z:Nat→Prop} {B cb j:Nat} {w w':World} {V:Rv} {L:Lg} {all:List Ent} {ts:List Tl} (hb:w.heap[cb]? = some (Obj.cells (rfC V L) 234 (0,0))) (h:RfV Z B w V L all ts) (hD:RfD B V L) (hj:j < 6) (hs:∀ g,g < w.heap.size→g≠cb→some g≠(V.lv j).ownBlock→w'.heap[g]? = w.heap[g]?)
  {v:Value} {l:List (List Ent)} {sv:Nat→Value} (hrow:w'.ownsRow B 57 1 v l.length ((List.range l.length).map sv)) (hseg:∀ k,k < l.length→w'.ownsRow 0 66 3 (sv k) (l.getD k []).length ((l.getD k []).flatMap eC)) (hsz:∀ k,k < l.length→∀ g,some g=(sv k).ownBlock→Z g) :
  RfV Z B w' (V.lev1 j v sv) (Lg.lev1 L j l) all ts:=by
 have kp:∀ {B':Nat} {e:TypeId} {sz:Nat} {u:Value} {m:Nat} {xs:List Value},234≠e→w.ownsRow B' e sz u m xs→(∀ g,some g=u.ownBlock→some g≠(V.lv j).ownBlock)→w'.ownsRow B' e sz u m xs:=fun he ho hn=>own_same ho (fun g hg=>by
  obtain ⟨_,hl,D,hD'⟩:=own_block ho hg
  exact hs g hl (fun e=>by rw [e,hb] at hD';injection hD' with hD';injection hD' with _ hD' _;exact he hD') (hn g hg))
 have hl:=h.lev j hj
 refine ⟨kp (by decide) h.all (ty_ne2 h.all hl (by decide)),kp (by decide) h.mem (ty_ne2 h.mem hl (by decide)),fun i hi=>?_,fun i hi k hk=>?_,fun i hi k hk g hg=>?_,kp (by decide) h.wks (ty_ne2 h.wks hl (by decide)),fun q hq=>kp (by decide) (h.lst q hq) (ty_ne2 (h.lst q hq) hl (by decide)),h.run,kp (by decide) h.tls (ty_ne2 h.tls hl (by decide))⟩
 ·by_cases e:i=j
  ·simp only [Rv.lev1,Lg.lev1,if_pos e]
   exact hrow
  ·simp only [Rv.lev1,Lg.lev1,if_neg e]
   exact kp (by decide) (h.lev i hi) (fun g hg=>hD.lev i j hi hj e g hg)
 ·by_cases e:i=j
  ·simp only [Rv.lev1,Lg.lev1,if_pos e] at hk ⊢
   exact hseg k hk
  ·simp only [Rv.lev1,Lg.lev1,if_neg e] at hk ⊢
   exact kp (by decide) (h.seg i hi k hk) (ty_ne2 (h.seg i hi k hk) hl (by decide))
 ·by_cases e:i=j
  ·simp only [Rv.lev1,Lg.lev1,if_pos e] at hk hg
   exact hsz k hk g hg
  ·simp only [Rv.lev1,Lg.lev1,if_neg e] at hk hg
   exact h.sz i hi k hk g hg
theorem rfC_lev1 (V:Rv) (L:Lg) (v:Value) (sv:Nat→Value) (l:List (List Ent)) {j:Nat} (hj:j < 6):(rfC V L).setIfInBounds (9 + j) v=rfC (V.lev1 j v sv) (Lg.lev1 L j l):=rfC_set V L v hj
theorem RfD.lev1 {Z:Nat→Prop} {B j:Nat} {w:World} {V:Rv} {L:Lg} {all:List Ent} {ts:List Tl} (h:RfV Z B w V L all ts) (hD:RfD B V L) {v:Value} {l:List (List Ent)} {sv:Nat→Value} (hn:∀ g,some g=v.ownBlock→some g=(V.lv j).ownBlock∨w.heap.size≤g) (hj:j < 6) (hsg:∀ k,k < l.length→∀ g,some g=(sv k).ownBlock→g < B):RfD B (V.lev1 j v sv) (Lg.lev1 L j l):=by
 refine ⟨hD.am,fun a b ha hb hne g hg=>?_,hD.lst,fun i hi k hk g hg=>?_⟩
 ·simp only [Rv.lev1] at hg ⊢
  by_cases ea:a=j
  ·have eb:b≠j:=fun e=>hne (by rw [ea,e])
   rw [if_pos ea] at hg
   rw [if_neg eb]
   intro q
   rcases hn g hg with e | e
   ·exact hD.lev j b hj hb (fun e=>eb e.symm) g e q
   ·have:=(own_block (h.lev b hb) q).2.1
    omega
  ·rw [if_neg ea] at hg
   by_cases eb:b=j
   ·rw [if_pos eb]
    intro q
    rcases hn g q with e | e
    ·exact hD.lev a j ha hj ea g hg e
    ·have:=(own_block (h.lev a ha) hg).2.1
     omega
   ·rw [if_neg eb]
    exact hD.lev a b ha hb hne g hg
 ·by_cases e:i=j
  ·simp only [Rv.lev1,Lg.lev1,if_pos e] at hk hg
   exact hsg k hk g hg
  ·simp only [Rv.lev1,Lg.lev1,if_neg e] at hk hg
   exact hD.sg i hi k hk g hg
theorem cut_mid {Z:Nat→Prop} {B cb i n:Nat} {w W1 W5:World} {V:Rv} {L:Lg} {all:List Ent} {ts:List Tl} (hb:w.heap[cb]? = some (Obj.cells (rfC V L) 234 (0,0))) (h:RfV Z B w V L all ts) (hD:RfD B V L) (hB:B≤w.heap.size) (hi:i < 6) (hn:n≤(L.lev i).length) (b1:Below w.heap.size w W1) {v:Value} (g5:W1.grownBy W5 none)
  (o5:W5.ownsRow w.heap.size 57 1 v ((L.lev i).length - n) (((List.range (L.lev i).length).map (V.sv i)).drop n)) :
  let V1:=V.lev1 i v (fun k=>V.sv i (n + k));let L1:=Lg.lev1 L i ((L.lev i).drop n)
  (W5.setCell ⟨cb,9 + i,none⟩ v).heap[cb]? = some (Obj.cells (rfC V1 L1) 234 (0,0))∧RfV Z B (W5.setCell ⟨cb,9 + i,none⟩ v) V1 L1 all ts∧RfD B V1 L1∧Tch (fun g=>g=cb) w (W5.setCell ⟨cb,9 + i,none⟩ v):=by
 intro V1 L1
 have hcb:cb < w.heap.size:=(Array.getElem?_eq_some_iff.1 hb).1
 have b5:Below w.heap.size w W5:=b1.trans ((below_grown0 g5).mono b1.size)
 have e5:=(b5.block cb hcb).trans hb
 have hld:((L.lev i).drop n).length=(L.lev i).length - n:=List.length_drop
 have hxs:((List.range (L.lev i).length).map (V.sv i)).drop n=(List.range ((L.lev i).drop n).length).map (fun k=>V.sv i (n + k)):=by
  rw [hld]
  apply List.ext_getElem?
  intro k
  rw [List.getElem?_drop,List.getElem?_map,List.getElem?_map]
  by_cases hk:k < (L.lev i).length - n
  ·rw [List.getElem?_range (by omega),List.getElem?_range hk];rfl
  ·rw [List.getElem?_eq_none (by simp;omega),List.getElem?_eq_none (by simp;omega)];rfl
 have hset:∀ g,g≠cb→(W5.setCell ⟨cb,9 + i,none⟩ v).heap[g]? = W5.heap[g]? := fun g hg=>set_other hg
 have hdis:∀ g,some g=v.ownBlock→some g=(V.lv i).ownBlock∨w.heap.size≤g:=fun g hg=>Or.inr (own_block o5 hg).1
 have hsk:∀ k,k < ((L.lev i).drop n).length→n + k < (L.lev i).length:=fun k hk=>by rw [hld] at hk;omega
 refine ⟨?_,?_,RfD.lev1 h hD hdis hi (fun k hk g hg=>hD.sg i hi (n + k) (hsk k hk) g hg),⟨b5.os,b5.tape,b5.output,by simpa using b5.size,fun k hk hne=>(hset k hne).trans (b5.block k hk)⟩⟩
 ·rw [set_blk e5,rfC_lev1 V L v (fun k=>V.sv i (n + k)) ((L.lev i).drop n) hi]
 ·refine RfV.lev1 hb h hD hi (fun g hg hne _=>(hset g hne).trans (b5.block g hg)) ?_ (fun k hk=>?_) (fun k hk g hg=>h.sz i hi (n + k) (hsk k hk) g hg)
  ·rw [← hxs,hld]
   exact own_mono (own_same o5 (fun g hg=>hset g (fun e=>by have:=(own_block o5 hg).1;omega))) hB
  ·have h1:=h.seg i hi (n + k) (hsk k hk)
   rw [getD_drop]
   refine own_same h1 (fun g hg=>?_)
   have hgl:=(own_block h1 hg).2.1
   exact (hset g (fun e=>by subst e;exact ty_ne h1 hb (by decide) hg)).trans (b5.block g hgl)
theorem put_mid {Z:Nat→Prop} {B cb i:Nat} {w W5:World} {V:Rv} {L:Lg} {all:List Ent} {ts:List Tl} (hb:w.heap[cb]? = some (Obj.cells (rfC V L) 234 (0,0))) (h:RfV Z B w V L all ts) (hD:RfD B V L) (hi:i < 6) {lv:Value} {es:List Ent} {Bl:Nat} (hl:w.ownsRow Bl 66 3 lv es.length (es.flatMap eC)) (hlz:∀ g,some g=lv.ownBlock→Z g) {v:Value}
  (g5:(w.alloc (Obj.cells #[lv] 57)).grownBy W5 (V.lv i).ownBlock) (o5:W5.ownsRow B 57 1 v ((L.lev i).length + 1) ((List.range (L.lev i).length).map (V.sv i) ++ [lv])) :
  let V1:=V.lev1 i v (fun k=>if k=(L.lev i).length then lv else V.sv i k);let L1:=Lg.lev1 L i (L.lev i ++ [es])
  W5.heap[cb]? = some (Obj.cells (rfC V L) 234 (0,0))∧(W5.setCell ⟨cb,9 + i,none⟩ v).heap[cb]? = some (Obj.cells (rfC V1 L1) 234 (0,0))∧RfV Z B (W5.setCell ⟨cb,9 + i,none⟩ v) V1 L1 all ts∧Tch (fun g=>g=cb∨some g=(V.lv i).ownBlock) w (W5.setCell ⟨cb,9 + i,none⟩ v):=by
 intro V1 L1
 have hcb:cb < w.heap.size:=(Array.getElem?_eq_some_iff.1 hb).1
 have t5:=tch_grown g5
 have e5:=(t5.block cb hcb (ty_ne (h.lev i hi) hb (by decide))).trans hb
 have hset:∀ g,g≠cb→(W5.setCell ⟨cb,9 + i,none⟩ v).heap[g]? = W5.heap[g]? := fun g hg=>set_other hg
 have hll:(L.lev i ++ [es]).length=(L.lev i).length + 1:=by simp
 have hsame:∀ g,g < w.heap.size→g≠cb→some g≠(V.lv i).ownBlock→(W5.setCell ⟨cb,9 + i,none⟩ v).heap[g]? = w.heap[g]? := fun g hg h1 h2=>(hset g h1).trans (t5.block g hg h2)
 have hkp:∀ {B' sz n:Nat} {u:Value} {xs:List Value},w.ownsRow B' 66 sz u n xs→(W5.setCell ⟨cb,9 + i,none⟩ v).ownsRow B' 66 sz u n xs:=fun ho=>own_same ho (fun g hg=>hsame g (own_block ho hg).2.1 (fun e=>by subst e;exact ty_ne ho hb (by decide) hg) (ty_ne2 ho (h.lev i hi) (by decide) g hg))
 refine ⟨e5,?_,?_,⟨t5.os,t5.tape,t5.output,by simpa using t5.size,fun k hk hne=>hsame k hk (fun e=>hne (Or.inl e)) (fun e=>hne (Or.inr e))⟩⟩
 ·rw [set_blk e5,rfC_lev1 V L v (fun k=>if k=(L.lev i).length then lv else V.sv i k) (L.lev i ++ [es]) hi]
 ·refine RfV.lev1 hb h hD hi hsame ?_ (fun k hk=>?_) (fun k hk g hg=>?_)
  ·rw [hll,List.range_succ,List.map_append]
   have hm:(List.range (L.lev i).length).map (fun k=>if k=(L.lev i).length then lv else V.sv i k)=(List.range (L.lev i).length).map (V.sv i):=List.map_congr_left (fun j hj=>by have:=List.mem_range.1 hj;rw [if_neg (by omega)])
   rw [hm]
   simp only [List.map_cons,List.map_nil,if_true]
   exact own_set_other o5 e5 (by decide)
  ·by_cases e:k=(L.lev i).length
   ·have hgd:(L.lev i ++ [es]).getD k []=es:=by rw [e];simp [List.getD_eq_getElem?_getD]
    rw [if_pos e,hgd]
    exact own_mono (hkp hl) (Nat.zero_le _)
   ·rw [hll] at hk
    have hgd:(L.lev i ++ [es]).getD k []=(L.lev i).getD k []:=by
     rw [List.getD_eq_getElem?_getD,List.getD_eq_getElem?_getD,List.getElem?_append_left (by omega)]
    rw [if_neg e,hgd]
    exact hkp (h.seg i hi k (by omega))
  ·by_cases e:k=(L.lev i).length
   ·rw [if_pos e] at hg
    exact hlz g hg
   ·rw [if_neg e] at hg
    rw [hll] at hk
    exact h.sz i hi k (by omega) g hg
end Go.Proofs.YtkncboinfcnklaaGreatDoor.Rl
