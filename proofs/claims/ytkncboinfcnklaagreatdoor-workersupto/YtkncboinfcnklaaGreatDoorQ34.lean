import Derived.Test.YtkncboinfcnklaaGreatDoorQ33
import Derived.Test.YtkncboinfcnklaaGreatDoorQ29
namespace Go.Proofs.YtkncboinfcnklaaGreatDoor.Lw
open Go.RowKit Go.Deep Go.Shelf Go.Proofs.YtkncboinfcnklaaGreatDoor.Mth Go.Proofs.YtkncboinfcnklaaGreatDoor.Rl
theorem ne_ty {w:World} {B1 B2 g:Nat} {T1 T2:TypeId} {s1 s2 n1 n2:Nat} {v1 v2:Value} {x1 x2:List Value} (h1:w.ownsRow B1 T1 s1 v1 n1 x1) (h2:w.ownsRow B2 T2 s2 v2 n2 x2) (hT:T1≠T2) (hg:some g=v1.ownBlock):some g≠v2.ownBlock:=fun e=>by
 obtain ⟨_,_,D,hD⟩:=own_block h1 hg
 obtain ⟨_,_,E,hE⟩:=own_block h2 e
 exact hT (cells_ty hD hE)
theorem rdm_ty {w:World} {e:TypeId} {sz n g:Nat} {v:Value} {f:Nat→Value} (h:RdM w e sz v n f) (hg:some g=v.ownBlock) (h0:0 < n):∃ C,w.heap[g]? = some (Obj.cells C e (0,0)):=by
 obtain ⟨a,c,rfl,_,_,h3⟩:=h
 rcases h3 with h3 | ⟨b,C,rfl,h4,_⟩
 ·omega
 ·injection hg with hg
  rw [hg]
  exact ⟨C,h4⟩
theorem keepE_any {P:Lg→List Tl→Prop} {Z:Nat→Prop} {w:World} {B wb B0:Nat} {g0 g1 g2 g3 hv ke ks kr:Value} {Ne Ns Nr M:Nat} {hs:List Ho} (h:HI P Z w B wb g0 g1 g2 g3 hv ke ks kr Ne Ns Nr M hs none) {v:Value} {n:Nat} {ys:List Value} (hown:w.ownsRow B0 66 3 v n ys) (hn:n≤1100000) (hM:M≤400000) (hB0:B0≤w.heap.size) (hBB:B≤B0) (hmu:∀ g,Mu wb hv ke ks kr (hs.map Ho.hb) g→g < B0)
  (hX:∀ g,some g=v.ownBlock→¬ Z g∧∀ j,j < hs.length→(hs.getD j h0).ρ g=0) :
  Calls Tryz.prog 121 #[.pointer (some ⟨wb,9,none⟩),v] w fun e w'=>e=.returned (.tuple #[])∧∃ Z' ke',(∀ g,Z g→Z' g)∧HI P Z' w' B wb g0 g1 g2 g3 hv ke' ks kr (Ne + 1) Ns Nr (M + 1) hs none∧Below B w w'∧(∀ g,g < w.heap.size→some g≠v.ownBlock→¬ Mu wb hv ke ks kr (hs.map Ho.hb) g→w'.heap[g]? = w.heap[g]?)∧(∀ g,Mu wb hv ke' ks kr (hs.map Ho.hb) g→Mu wb hv ke ks kr (hs.map Ho.hb) g∨w.heap.size≤g):=by
 have hmb:=h.mb
 obtain ⟨q,hbe,hbq⟩:=h.be
 have mW:Mu wb hv ke ks kr (hs.map Ho.hb) wb:=Or.inl rfl
 have mE:∀ g,some g=ke.ownBlock→Mu wb hv ke ks kr (hs.map Ho.hb) g:=fun g q=>Or.inr (Or.inr (Or.inl q))
 refine (keepEntries_kb w B0 wb B v ke n Ne ys _ (wdC g0 g1 g2 g3 hv ke ks kr) hown (hmu wb mW) hB0 h.blk rfl rfl hbe (fun g hg=>hmu g (mE g hg)) hBB (by omega) (by omega)).mono ?_
 rintro e w' ⟨rfl,ke',va,vb,vc,hk,hkn,hnb,hfr⟩
 have hvM:∀ g,some g=v.ownBlock→¬ Mu wb hv ke ks kr (hs.map Ho.hb) g:=fun g hg hm=>by
  have h1:=hmu g hm
  have h2:=(own_block hown hg).1
  omega
 have hvN:∀ g,some g=v.ownBlock→¬ isN w g:=fun g hg=>by
  obtain ⟨_,_,D,hD⟩:=own_block hown hg
  rintro ⟨C',fr,h3⟩
  exact absurd (cells_ty hD h3) (by decide)
 have hsz:=hk.size
 have hks:∀ {T:TypeId} {sz N:Nat} {u:Value} {xs:List Value},w.ownsRow B T sz u N xs→T≠91→T≠169→T≠66→∀ g,some g=u.ownBlock→w'.heap[g]? = w.heap[g]? := fun {T sz N u xs} ho t1 t2 t3 g hg=>by
  obtain ⟨_,hl,D,hD⟩:=own_block ho hg
  exact hfr g hl (ne_ty ho hown t3 hg) (fun e=>by subst e;exact t1 (cells_ty hD h.blk)) (ne_ty ho hbe t2 hg)
 have hz:∀ g,Z g→w'.heap[g]? = w.heap[g]? := fun g hg=>hfr g (h.zm g hg).1 (fun e=>(hX g e).1 hg) (fun e=>(h.zm g hg).2.1 (by rw [e];exact mW)) (fun e=>(h.zm g hg).2.1 (mE g e))
 have hq4:∀ g,(some g=v.ownBlock∨some g=va.ownBlock∨some g=vb.ownBlock∨some g=vc.ownBlock)→g < w'.heap.size∧some g≠ke'.ownBlock:=fun g hg=>by
  by_cases hv0:some g=v.ownBlock
  ·have hl:=(own_block hown hv0).2.1
   refine ⟨by omega,fun e=>?_⟩
   rcases hnb g e with e | e
   ·exact hvM g hv0 (mE g e)
   ·omega
  have hty:(∃ C,w'.heap[g]? = some (Obj.cells C 66 (0,0))):=by
   rcases hg with hg | hg | hg | hg
   ·exact absurd hg hv0
   ·exact rdm_ty hk.ra hg (by omega)
   ·exact rdm_ty hk.rb hg (by omega)
   ·exact rdm_ty hk.rc hg (by omega)
  obtain ⟨C,hC⟩:=hty
  refine ⟨(Array.getElem?_eq_some_iff.1 hC).1,fun e=>?_⟩
  obtain ⟨_,_,D,hD⟩:=own_block hk.row e
  exact absurd (cells_ty hC hD) (by decide)
 have key:=h.books (w':=w') (ke':=ke') (ks':=ks) (kr':=kr) (Ne':=Ne + 1) (Ns':=Ns) (Nr':=Nr) (M':=M + 1) (X:=fun g=>some g=v.ownBlock) (Y:=fun g=>some g=v.ownBlock∨some g=va.ownBlock∨some g=vb.ownBlock∨some g=vc.ownBlock) hsz (fun g h1 h2 h3 h4 _ _=>hfr g h1 h2 h3 h4) (fun g hg=>⟨(hX g hg).1,hvM g hg,(hX g hg).2,hvN g hg⟩) hk.wblk
  (Bok.more hbq hz (fun _ q=>Or.inl q) hk.row (fun _ _=>rfl) (n:=n) (by omega) hk.rl hk.ra hk.rb hk.rc (fun g hg=>Or.inr hg))
  (by obtain ⟨q2,h1,h2⟩:=h.bs;exact Bok.same ⟨q2,h1,h2⟩ (hks h1 (by decide) (by decide) (by decide)) hz (fun _ q=>Or.inl q))
  (by obtain ⟨F,hF,q2,h1,h2⟩:=h.br;exact ⟨F,hF,Bok.same ⟨q2,h1,h2⟩ (hks h1 (by decide) (by decide) (by decide)) hz (fun _ q=>Or.inl q)⟩)
  (fun g hg=>by
   rcases hg with hg | hg | hg
   ·rcases hnb g hg with e | e
    ·exact Or.inl (Or.inl e)
    ·exact Or.inr e
   ·exact Or.inl (Or.inr (Or.inl hg))
   ·exact Or.inl (Or.inr (Or.inr hg)))
  (fun g hg=>⟨(hq4 g hg).1,hkn g hg,(hq4 g hg).2,fun e=>?_,fun e=>?_⟩) (by omega) (by omega)
 ·refine ⟨rfl,_,ke',fun g hg=>Or.inl hg,key,⟨hk.os,hk.tape,hk.output,hsz,fun g hg=>hk.same g (by omega) (fun e=>by have:=h.ge;omega) (fun e=>by have:=(own_block hbe e).1;omega)⟩,fun g h1 h2 h3=>hfr g h1 h2 (fun e=>h3 (by rw [e];exact mW)) (fun e=>h3 (mE g e)),fun g hg=>?_⟩
  rcases hg with q | q | q | q
  ·exact Or.inl (Or.inl q)
  ·exact Or.inl (Or.inr (Or.inl q))
  ·rcases hnb g q with e | e
   ·exact Or.inl (mE g e)
   ·exact Or.inr e
  ·exact Or.inl (Or.inr (Or.inr (Or.inr q)))
 ·obtain ⟨q2,h1,_⟩:=h.bs
  rcases hkn g hg with e2 | e2
  ·exact hvM g e2 (Or.inr (Or.inr (Or.inr (Or.inl e))))
  ·have:=(own_block h1 e).2.1
   omega
 ·obtain ⟨F,_,q2,h1,_⟩:=h.br
  rcases hkn g hg with e2 | e2
  ·exact hvM g e2 (Or.inr (Or.inr (Or.inr (Or.inr (Or.inl e)))))
  ·have:=(own_block h1 e).2.1
   omega
theorem keepRN_any {P:Lg→List Tl→Prop} {Z:Nat→Prop} {w:World} {B wb:Nat} {g0 g1 g2 g3 hv ke ks kr:Value} {Ne Ns Nr M:Nat} {hs:List Ho} (h:HI P Z w B wb g0 g1 g2 g3 hv ke ks kr Ne Ns Nr M hs none) (hM:M≤400000) (hNr:Nr + 1≤M) (hBw:B≤w.heap.size) :
  Calls Tryz.prog 136 #[.pointer (some ⟨wb,9,none⟩), .slice none 0 0] w fun e w'=>e=.returned (.tuple #[])∧∃ Z' kr',(∀ g,Z g→Z' g)∧HI P Z' w' B wb g0 g1 g2 g3 hv ke ks kr' Ne Ns (Nr + 1) M hs none∧Below B w w'∧(∀ g,g < w.heap.size→¬ Mu wb hv ke ks kr (hs.map Ho.hb) g→w'.heap[g]? = w.heap[g]?):=by
 have hmb:=h.mb
 obtain ⟨F,hF,q,hbr,hbq⟩:=h.br
 have mW:Mu wb hv ke ks kr (hs.map Ho.hb) wb:=Or.inl rfl
 have mR:∀ g,some g=kr.ownBlock→Mu wb hv ke ks kr (hs.map Ho.hb) g:=fun g q=>Or.inr (Or.inr (Or.inr (Or.inr (Or.inl q))))
 refine (keepRowsN_any w w.heap.size wb B kr Nr _ (wdC g0 g1 g2 g3 hv ke ks kr) (h.mlt mW) (Nat.le_refl _) h.blk rfl rfl hbr (fun g hg=>h.mlt (mR g hg)) hBw (by omega)).mono ?_
 rintro e w' ⟨rfl,kr',va,vb,vc,hk,hkn,hnb⟩
 have hfr:∀ g,g < w.heap.size→g≠wb→some g≠kr.ownBlock→w'.heap[g]? = w.heap[g]? := hk.same
 have hsz:=hk.size
 have hks:∀ {T:TypeId} {sz N:Nat} {u:Value} {xs:List Value},w.ownsRow B T sz u N xs→T≠91→T≠175→∀ g,some g=u.ownBlock→w'.heap[g]? = w.heap[g]? := fun {T sz N u xs} ho t1 t2 g hg=>by
  obtain ⟨_,hl,D,hD⟩:=own_block ho hg
  exact hfr g hl (fun e=>by subst e;exact t1 (cells_ty hD h.blk)) (ne_ty ho hbr t2 hg)
 have hz:∀ g,Z g→w'.heap[g]? = w.heap[g]? := fun g hg=>hfr g (h.zm g hg).1 (fun e=>(h.zm g hg).2.1 (by rw [e];exact mW)) (fun e=>(h.zm g hg).2.1 (mR g e))
 have hq4:∀ g,(some g=va.ownBlock∨some g=vb.ownBlock∨some g=vc.ownBlock)→g < w'.heap.size∧some g≠kr'.ownBlock:=fun g hg=>by
  have hty:(∃ C,w'.heap[g]? = some (Obj.cells C 75 (0,0))):=by
   rcases hg with hg | hg | hg
   ·exact rdm_ty hk.ra hg (by omega)
   ·exact rdm_ty hk.rb hg (by omega)
   ·exact rdm_ty hk.rc hg (by omega)
  obtain ⟨C,hC⟩:=hty
  refine ⟨(Array.getElem?_eq_some_iff.1 hC).1,fun e=>?_⟩
  obtain ⟨_,_,D,hD⟩:=own_block hk.row e
  exact absurd (cells_ty hC hD) (by decide)
 have hge:∀ g,(some g=va.ownBlock∨some g=vb.ownBlock∨some g=vc.ownBlock)→w.heap.size≤g:=fun g hg=>by
  rcases hkn g (Or.inr hg) with e | e
  ·cases e
  ·exact e
 have hFn:∀ i,i < Nr→(fun i=>if i=Nr then fR w.heap.size Nr else F i) i=F i:=fun i hi=>if_neg (by omega)
 have key:=h.books (w':=w') (ke':=ke) (ks':=ks) (kr':=kr') (Ne':=Ne) (Ns':=Ns) (Nr':=Nr + 1) (M':=M) (X:=fun _=>False) (Y:=fun g=>some g=va.ownBlock∨some g=vb.ownBlock∨some g=vc.ownBlock) hsz (fun g h1 _ h3 _ _ h4=>hfr g h1 h3 h4) (fun g hg=>hg.elim) hk.wblk
  (by obtain ⟨q2,h1,h2⟩:=h.be;exact Bok.same ⟨q2,h1,h2⟩ (hks h1 (by decide) (by decide)) hz (fun _ q=>Or.inl q))
  (by obtain ⟨q2,h1,h2⟩:=h.bs;exact Bok.same ⟨q2,h1,h2⟩ (hks h1 (by decide) (by decide)) hz (fun _ q=>Or.inl q))
  ⟨fun i=>if i=Nr then fR w.heap.size Nr else F i,fun i j=>by
   by_cases e:i=Nr
   ·subst e
    exact ⟨some ⟨w.heap.size,0,none⟩,i + 1,by simp [fR]⟩
   ·obtain ⟨a,c,h1⟩:=hF i j
    exact ⟨a,c,by simp [e,h1]⟩,Bok.more hbq hz (fun _ q=>Or.inl q) hk.row hFn (n:=0) (by omega) (by rw [if_pos rfl];exact hk.rl) (by rw [if_pos rfl];exact hk.ra) (by rw [if_pos rfl];exact hk.rb) (by rw [if_pos rfl];exact hk.rc) (fun g hg=>by
   rcases hg with hg | hg
   ·cases hg
   ·exact Or.inr hg)⟩
  (fun g hg=>by
   rcases hg with hg | hg | hg
   ·exact Or.inl (Or.inl hg)
   ·exact Or.inl (Or.inr (Or.inl hg))
   ·rcases hnb g hg with e | e
    ·exact Or.inl (Or.inr (Or.inr e))
    ·exact Or.inr e)
  (fun g hg=>⟨(hq4 g hg).1,Or.inr (hge g hg),fun e=>?_,fun e=>?_,(hq4 g hg).2⟩) (by omega) (by omega)
 ·exact ⟨rfl,_,kr',fun g hg=>Or.inl hg,key,⟨hk.os,hk.tape,hk.output,hsz,fun g hg=>hfr g (by omega) (fun e=>by have:=h.ge;omega) (fun e=>by have:=(own_block hbr e).1;omega)⟩,fun g h1 h3=>hfr g h1 (fun e=>h3 (by rw [e];exact mW)) (fun e=>h3 (mR g e))⟩
 ·obtain ⟨q2,h1,_⟩:=h.be
  have:=(own_block h1 e).2.1
  have:=hge g hg
  omega
 ·obtain ⟨q2,h1,_⟩:=h.bs
  have:=(own_block h1 e).2.1
  have:=hge g hg
  omega
end Go.Proofs.YtkncboinfcnklaaGreatDoor.Lw

namespace Go.Proofs.YtkncboinfcnklaaGreatDoor.Lw
open Go.RowKit Go.Deep Go.Shelf Go.Proofs.YtkncboinfcnklaaGreatDoor.Mth Go.Proofs.YtkncboinfcnklaaGreatDoor.Rl
theorem HS.pre {P:Lg→List Tl→Prop} {Z Z1:Nat→Prop} {w w1 w':World} {B wb:Nat} {g0 g1 g2 g3:Value} {M:Nat} (h:HS P Z1 w1 w' B wb g0 g1 g2 g3 M) (hb:Below B w w1) (hz:∀ g,Z g→Z1 g) (hs:∀ g,Z g→w1.heap[g]? = w.heap[g]?):HS P Z w w' B wb g0 g1 g2 g3 M:=by
 obtain ⟨Z',hv,ke,ks,kr,Ne,Ns,Nr,hs',h1,h2⟩:=h.ex
 exact ⟨hb.trans h.bel,fun g hg=>(h.zk g (hz g hg)).trans (hs g hg),Z',hv,ke,ks,kr,Ne,Ns,Nr,hs',fun g hg=>h1 g (hz g hg),h2⟩
theorem HS.mono {P:Lg→List Tl→Prop} {Z:Nat→Prop} {w w':World} {B wb:Nat} {g0 g1 g2 g3:Value} {M M':Nat} (h:HS P Z w w' B wb g0 g1 g2 g3 M) (hM:M≤M'):HS P Z w w' B wb g0 g1 g2 g3 M':=by
 obtain ⟨Z',hv,ke,ks,kr,Ne,Ns,Nr,hs',h1,h2⟩:=h.ex
 exact ⟨h.bel,h.zk,_,hv,ke,ks,kr,Ne,Ns,Nr,hs',fun g hg=>Or.inl (h1 g hg),h2.more hM (Y:=fun _=>False) (fun _ q=>q.elim)⟩
theorem ke_nil {P:Lg→List Tl→Prop} {Z:Nat→Prop} {w:World} {B wb B0 tb:Nat} {g0 g1 g2 g3 hv ke ks kr:Value} {Ne Ns Nr M:Nat} {hs:List Ho} (h:HI P Z w B wb g0 g1 g2 g3 hv ke ks kr Ne Ns Nr M hs none) {v:Value} {n:Nat} {ys:List Value} (hown:w.ownsRow B0 66 3 v n ys) (hn:n≤1100000) (hM:M + 1≤400000) (hB0:B0≤w.heap.size) (hBB:B≤B0) (hmu:∀ g,Mu wb hv ke ks kr (hs.map Ho.hb) g→g < B0)
  (hX:∀ g,some g=v.ownBlock→¬ Z g∧∀ j,j < hs.length→(hs.getD j h0).ρ g=0) {tc:Array Value} (htb:w.heap[tb]? = some (Obj.cells tc 245 (0,0))) (htn:B0≤tb) :
  Calls Tryz.prog 121 #[.pointer (some ⟨wb,9,none⟩),v] w fun e W12=>e=.returned (.tuple #[])∧W12.heap[tb]? = some (Obj.cells tc 245 (0,0))∧Calls Tryz.prog 136 #[.pointer (some ⟨wb,9,none⟩), .slice none 0 0] W12.drew fun e W13=>e=.returned (.tuple #[])∧HS P Z w W13 B wb g0 g1 g2 g3 (M + 1):=by
 have hmb:=h.mb
 have htl:=(Array.getElem?_eq_some_iff.1 htb).1
 refine (keepE_any h hown hn (by omega) hB0 hBB hmu hX).mono ?_
 rintro e W12 ⟨rfl,Z',ke',hZ',h12,hb12,hfr,hmu'⟩
 refine ⟨rfl,(hfr tb htl (fun e=>?_) (fun q=>by have:=hmu tb q;omega)).trans htb,?_⟩
 ·obtain ⟨_,_,D,hD⟩:=own_block hown e
  exact absurd (cells_ty htb hD) (by decide)
 ·have bd:Below W12.heap.size W12 W12.drew:=drewB W12
  have hBW:B≤W12.heap.size:=Nat.le_trans (Nat.le_trans hBB hB0) hb12.size
  refine (keepRN_any (h12.below bd) hM (by omega) hBW).mono ?_
  rintro e W13 ⟨rfl,Z2,kr',hZ2,h13,hb13,hfr2⟩
  refine ⟨rfl,hb12.trans ((bd.mono hBW).trans hb13),fun g hg=>?_,Z2,hv,ke',ks,kr',_,_,_,hs,fun g hg=>hZ2 g (hZ' g hg),h13⟩
  obtain ⟨z1,z2,z3⟩:=h.zm g hg
  have e1:W12.heap[g]? = w.heap[g]? := hfr g z1 (fun e=>(hX g e).1 hg) z2
  have e2:W13.heap[g]? = W12.heap[g]? := hfr2 g (Nat.lt_of_lt_of_le z1 hb12.size) (fun q=>by
   rcases hmu' g q with q | q
   ·exact z2 q
   ·omega)
  exact e2.trans e1
theorem ak_of {Z:Nat→Prop} {w2:World} {hb ob wb tb:Nat} {mv:Value} {V:Rv} {L L':Lg} {all al:List Ent} {ts ts':List Tl} {o:Opr} {a b:Int} {te tr:Value} {FQ:World→Prop} (tl:w2.heap[tb]? = some (Obj.cells (toA a b te tr) 245 (0,0))) (hs2:isS te∧isS tr) (c9:w2.cell? ⟨hb,9,none⟩=some mv∧w2.frozen? ⟨hb,9,none⟩=false)
  (op:w2.heap[ob]? = some (Obj.cells #[.int .i64 o.k, .int .i64 o.A, .int .i64 o.B, .int .i64 o.C, .string o.S, .string o.T] 94 (0,0)))
  (may:w2.ownsRow 0 234 20 mv 1 (rfC V L).toList) (ref:RfV Z 0 w2 V L all ts) (hZ:∀ g,Z g→g < w2.heap.size) (hI:Inv L all) (hM:all.length≤1000000) (hw4:L.wks.length≤4) (hwl:∀ q,q < L.wks.length→(L.wks.getD q wk0).list.length≤900) (hts:ts.length≤1000)
  (han:∀ W cb V',Below w2.heap.size w2 W→W.heap[cb]? = some (Obj.cells (rfC V' L) 234 (0,0))→RfV (fun g=>Z g∨w2.heap.size≤g) w2.heap.size W V' L all ts→RfD w2.heap.size V' L→w2.heap.size≤cb→Calls Tryz.prog 134 #[ptrV cb,oV o] W fun e W'=>∃ ue ur,e=.returned (.agg (toA a b ue ur))∧isS ue∧isS ur∧(∀ W6,Below W'.heap.size W' W6→Calls Tryz.prog 120 #[te,ue] W6 fun e W'=>e=.returned (.bool true)∧Below W6.heap.size W6 W')∧(∀ W6,Below W'.heap.size W' W6→Calls Tryz.prog 135 #[tr,ur] W6 fun e W'=>e=.returned (.bool true)∧Below W6.heap.size W6 W') ∧
   Below w2.heap.size W W'∧∃ V2,W'.heap[cb]? = some (Obj.cells (rfC V2 L') 234 (0,0))∧RfV (fun g=>Z g∨w2.heap.size≤g) w2.heap.size W' V2 L' al ts')
  (hke:∀ mv W10,(∃ V2,RfT Z w2 W10 L' al ts' mv V2)→Calls Tryz.prog 121 #[.pointer (some ⟨wb,9,none⟩),te] (W10.setCell ⟨hb,9,none⟩ mv).drew fun e W12=>e=.returned (.tuple #[])∧W12.heap[tb]? = some (Obj.cells (toA a b te tr) 245 (0,0))∧Calls Tryz.prog 136 #[.pointer (some ⟨wb,9,none⟩),tr] W12.drew fun e W13=>e=.returned (.tuple #[])∧FQ W13) :
  ∃ mb mc C,AkQ w2 hb ob wb tb mb mc o C a b te tr (fun mv W=>∃ V2,RfT Z w2 W L' al ts' mv V2) FQ:=by
 obtain ⟨mb,mc,rfl,hmc,hrg⟩:=rg_of may
 have hlv:=hI.lev
 have hml:=hI.stoLen
 refine ⟨mb,mc,rfC V L,tl,hs2,c9,op,hrg,rfl,hmc,(copy_any ref hZ (by omega) (by omega) (fun i hi=>by have:=hlv i hi;omega) hw4 (fun q hq=>by have:=hwl q hq;omega) hts).mono ?_,fun mv W10 hr _=>hke mv W10 hr⟩
 rintro e w3 ⟨V',rfl,hr3,hd3,hb3⟩
 have hsz:=hb3.size
 refine ⟨_,rfl,rfl,hr3.one,hb3,fun W hW hbk=>(han W _ V' (hb3.trans (hW.mono hsz)) hbk (hr3.below hW) hd3 hsz).mono ?_⟩
 rintro e W' ⟨ue,ur,rfl,s1,s2,se,sr,hbW,V2,hb2,hr2⟩
 exact ⟨ue,ur,rfl,s1,s2,se,sr,_,rfl,hr2.one,hb2,hb3.trans ((hW.mono hsz).trans hbW),fun W10 mv h1 h2 h3=>⟨V2,h1,h3,hr2.below h2⟩⟩
theorem tld_all (f:Ent→Bool) (all:List Ent):tld f all 0 (all.length + 1)=all.filter f:=by
 unfold tld
 rw [List.drop_zero]
 exact List.take_of_length_le (Nat.le_succ_of_le (List.length_filter_le _ _))
theorem query_same {L:Lg} {all:List Ent} (h:Inv L all) (x:ByteArray) (lo hi:Int):qFnd x (yng L lo) hi (segs L.lev) ++ fnd L.mem x (yng L lo) hi=all.filter (qP L x lo hi):=by
 rw [h.query,tld_all]
 congr 1
 funext e
 exact (qP_gq L x lo hi e).symm
def qN (L:Lg) (S:ByteArray) (lo hi:Int):Int:=if isWd S then (qOpn S lo hi (segs L.lev):Int) else 0
def qE (S:ByteArray):Int:=if isWd S then 0 else 6
def qL (L:Lg) (all:List Ent) (S:ByteArray) (lo hi:Int):List Ent:=if isWd S then all.filter (qP L S lo hi) else []
theorem qL_len (L:Lg) (all:List Ent) (S:ByteArray) (lo hi:Int):(qL L all S lo hi).length≤all.length:=by
 unfold qL
 split
 ·exact List.length_filter_le _ _
 ·exact Nat.zero_le _
theorem ans_put {W W2 w' w3:World} {v:Value} {l:List Ent} (hb:Below W.heap.size W W2) (hc:CurE W2 w' v l) (ht:Tch (fun k=>W.heap.size≤k∧k < W2.heap.size) w' w3):Below W.heap.size W w3∧w3.ownsRow W.heap.size 66 3 v l.length (l.flatMap eC):=by
 have h1:=hb.size
 have h2:=hc.1.size
 refine ⟨below_tch (hb.trans (hc.1.mono h1)) ht (fun k q=>q.1) (by omega),own_mono (own_same hc.2 (fun g hg=>?_)) h1⟩
 obtain ⟨q1,q2,_⟩:=own_block hc.2 hg
 exact ht.block g q2 (fun q=>by omega)
theorem isS_own {w:World} {B:Nat} {e:TypeId} {sz n:Nat} {v:Value} {xs:List Value} (h:w.ownsRow B e sz v n xs):isS v:=by
 obtain ⟨a,c,rfl,_,_⟩:=own_slice h
 exact ⟨_,_,_,rfl⟩
theorem askedQ_any {W:World} {ρ:Nat→Nat} {B N lb:Nat} {G:Gh} {L:Lg} {all:List Ent} (h:LogAt W ρ B N lb G L) (hI:Inv L all) (ht:TabB W.heap.size W) (hM:all.length≤400000) (A Bv Cv:Int) (S T:ByteArray) (hS:S.size≤1048576) :
  Calls Tryz.prog 133 #[ptrV lb,oV ⟨14,A,Bv,Cv,S,T⟩] W fun e w3=>∃ v,e=.returned (.agg (toA (qN L S Bv Cv) (qE S) v (.slice none 0 0)))∧Below W.heap.size W w3∧w3.ownsRow W.heap.size 66 3 v (qL L all S Bv Cv).length ((qL L all S Bv Cv).flatMap eC):=by
 have key:=askedQ (W:=W) (lb:=lb) A Bv Cv S T (fun v n er w3=>n=qN L S Bv Cv∧er=qE S∧Below W.heap.size W w3∧w3.ownsRow W.heap.size 66 3 v (qL L all S Bv Cv).length ((qL L all S Bv Cv).flatMap eC)) (fun W2 hb=>by
  cases hw:isWd S
  ·refine (query_no (ht.next hb).now S (by unfold maxLen;omega) hw Bv Cv).mono ?_
   rintro e w' ⟨rfl,hb'⟩
   refine ⟨_,_,_,rfl,⟨_,_,_,rfl⟩,fun k _ hk=>hb'.block k hk,fun w3 ht3=>?_⟩
   have:=ans_put (l:=[]) hb ⟨hb',World.ownsRow_nil _ _ _ _⟩ ht3
   exact ⟨by simp [qN,hw],by simp [qE,hw],this.1,by simp only [qL,hw];exact this.2⟩
  ·have hcf:=hI.cfg
   refine (query_yes (h.below hb) (ht.next hb).now S (by unfold maxLen;omega) hw Bv Cv hI.clk hcf.2.2.2.1.2 (fun k hk=>by have:=hI.lev k hk;omega) (by have:=hI.stoLen;omega) (fun es hes=>hI.tmsOf (hI.segSub hes)) (hI.tmsOf hI.memSub)).mono ?_
   rintro e w' ⟨v,rfl,hc⟩
   rw [query_same hI] at hc
   refine ⟨_,_,_,rfl,isS_own hc.2,fun k _ hk=>hc.1.block k hk,fun w3 ht3=>?_⟩
   have:=ans_put hb hc ht3
   exact ⟨by simp [qN,hw],by simp [qE,hw],this.1,by simp only [qL,hw];exact this.2⟩)
 refine key.mono ?_
 rintro e w3 ⟨v,n,er,rfl,_,rfl,rfl,h1,h2⟩
 exact ⟨v,rfl,h1,h2⟩
theorem answerQ_any {Z:Nat→Prop} {B:Nat} {W:World} {cb:Nat} {V:Rv} {L:Lg} {all:List Ent} {ts:List Tl} (hb:W.heap[cb]? = some (Obj.cells (rfC V L) 234 (0,0))) (h:RfV Z B W V L all ts) (hI:Inv L all) (hM:all.length≤400000) (A Bv Cv:Int) (S T:ByteArray) (hS:S.size≤1048576) :
  Calls Tryz.prog 134 #[ptrV cb,oV ⟨14,A,Bv,Cv,S,T⟩] W fun e w3=>∃ v,e=.returned (.agg (toA (qN L S Bv Cv) (qE S) v (.slice none 0 0)))∧Below W.heap.size W w3∧w3.ownsRow W.heap.size 66 3 v (qL L all S Bv Cv).length ((qL L all S Bv Cv).flatMap eC):=by
 have key:=answerQ (W:=W) (lb:=cb) A Bv Cv S T (fun v n er w3=>n=qN L S Bv Cv∧er=qE S∧Below W.heap.size W w3∧w3.ownsRow W.heap.size 66 3 v (qL L all S Bv Cv).length ((qL L all S Bv Cv).flatMap eC)) (fun W2 hb2=>by
  cases hw:isWd S
  ·refine (queryR_no S (by omega) hw Bv Cv).mono ?_
   rintro e w' ⟨rfl,rfl⟩
   refine ⟨_,_,_,rfl,⟨_,_,_,rfl⟩,fun k _ hk=>rfl,fun w3 ht3=>?_⟩
   have:=ans_put (l:=[]) hb2 ⟨Below.refl _ _,World.ownsRow_nil _ _ _ _⟩ ht3
   exact ⟨by simp [qN,hw],by simp [qE,hw],this.1,by simp only [qL,hw];exact this.2⟩
  ·refine (queryR_yes ((hb2.block cb (Array.getElem?_eq_some_iff.1 hb).1).trans hb) (h.below hb2) hI (by omega) S (by omega) hw Bv Cv).mono ?_
   rintro e w' ⟨v,rfl,hc⟩
   refine ⟨_,_,_,rfl,isS_own hc.2,fun k _ hk=>hc.1.block k hk,fun w3 ht3=>?_⟩
   have:=ans_put hb2 hc ht3
   exact ⟨by simp [qN,hw],by simp [qE,hw],this.1,by simp only [qL,hw];exact this.2⟩)
 refine key.mono ?_
 rintro e w3 ⟨v,n,er,rfl,_,rfl,rfl,h1,h2⟩
 exact ⟨v,rfl,h1,h2⟩
theorem asksQ_any {P:Lg→List Tl→Prop} {Z:Nat→Prop} {w:World} {B wb:Nat} {g0 g1 g2 g3 hv ke ks kr:Value} {Ne Ns Nr M:Nat} {hs:List Ho} {i:Nat} (h:HI P Z w B wb g0 g1 g2 g3 hv ke ks kr Ne Ns Nr M hs none) (hi:i < hs.length) (ht:TabB B w) (hBw:B≤w.heap.size) (A Bv Cv:Int) (S T:ByteArray) (hS:S.size≤1048576) (hM:M + 2≤400000) (hPt:∀ L ts,P L ts→ts.length≤1000) :
  Calls Tryz.prog 69 #[ptrV wb,ptrV (hs.getD i h0).hb,oV ⟨14,A,Bv,Cv,S,T⟩] w fun e w'=>e=.returned (.bool true)∧HS P Z w w' B wb g0 g1 g2 g3 (M + 2):=by
 obtain ⟨W0,hW0⟩:∃ W0,W0=w.alloc (Obj.cells #[.int .i64 14, .int .i64 A, .int .i64 Bv, .int .i64 Cv, .string S, .string T] 94):=⟨_,rfl⟩
 have b0:Below w.heap.size w W0:=by rw [hW0];exact below_allocG _ _
 have s0:W0.heap.size=w.heap.size + 1:=by rw [hW0];simp
 have k0:W0.heap[w.heap.size]? = some (Obj.cells #[.int .i64 14, .int .i64 A, .int .i64 Bv, .int .i64 Cv, .string S, .string T] 94 (0,0)):=by rw [hW0];exact new_blk _ _ _
 have hbm:Mu wb hv ke ks kr (hs.map Ho.hb) (hs.getD i h0).hb:=Or.inr (Or.inr (Or.inr (Or.inr (Or.inr (hb_mem hi)))))
 have hbl:=h.mlt hbm
 have hob0:=(h.below b0).hob i hi
 have hmb:=h.mb
 have hne:(hs.getD i h0).hb≠wb:=fun e=>by
  have h1:=h.hob i hi
  rw [e] at h1
  exact absurd (cells_ty h1 h.blk) (by decide)
 refine asks_walk ⟨14,A,Bv,Cv,S,T⟩ (fun w'=>HS P Z w w' B wb g0 g1 g2 g3 (M + 2)) hW0 rfl hbl hne (cell_of (j:=0) hob0 rfl).1 (fun W hW _=>?_)
 have bW:Below w.heap.size w W:=b0.trans (hW.mono b0.size)
 have hsW:=hW.size
 obtain ⟨hpW,hxW⟩:=(h.below bW).punch hi
 have hbd:=hxW.bud
 refine (askedQ_any hxW.log hxW.inv (TabB.mono (ht.next (bW.mono hBw)) (Nat.le_trans hBw bW.size)) (by omega) A Bv Cv S T hS).mono ?_
 rintro e w2 ⟨v,rfl,b2,o2⟩
 have hs2:=b2.size
 refine ⟨_,_,v,_,rfl,isS_own o2,⟨_,_,_,rfl⟩,fun g _ hg=>b2.block g hg,hs2,(b2.block _ (by omega)).trans (hW.block _ (by omega)),(b2.block _ (by omega)).trans (hW.block _ (by omega)),?_⟩
 intro w2' tb htc htl htb
 have b2':Below W0.heap.size W0 w2':=below_tch (hW.trans (b2.mono hsW)) htc (fun k q=>q.1) (by omega)
 have bw2:Below w.heap.size w w2':=b0.trans (b2'.mono b0.size)
 have hs2':=htc.size
 have o2':w2'.ownsRow W.heap.size 66 3 v (qL (hs.getD i h0).L (hs.getD i h0).all S Bv Cv).length ((qL (hs.getD i h0).L (hs.getD i h0).all S Bv Cv).flatMap eC):=own_same o2 (fun g hg=>htc.block g (own_block o2 hg).2.1 (fun q=>by have:=(own_block o2 hg).1;omega))
 obtain ⟨hp,hx⟩:=(h.below bw2).punch hi
 have hob2:=hp.hob i hi
 have k2:=(b2'.block _ (by omega)).trans k0
 have hw4:=hx.log.x.k.few
 have hwl:∀ q,q < (hs.getD i h0).L.wks.length→((hs.getD i h0).L.wks.getD q wk0).list.length≤900:=fun q hq=>by have:=wk_len (hx.log.x.k.ok q hq);omega
 have hql:=qL_len (hs.getD i h0).L (hs.getD i h0).all S Bv Cv
 obtain ⟨mb,mc,C,hq⟩:=ak_of (wb:=wb) (FQ:=fun w'=>HS P Z w w' B wb g0 g1 g2 g3 (M + 2)) (L':=(hs.getD i h0).L) (al:=(hs.getD i h0).all) (ts':=(hs.getD i h0).ts) (o:=⟨14,A,Bv,Cv,S,T⟩) htl ⟨isS_own o2,⟨_,_,_,rfl⟩⟩ (cell_of (j:=9) hob2 rfl) k2 hx.may hx.ref (fun g hg=>(hp.zm g hg).1) hx.inv (by omega) hw4.2 hwl (hPt _ _ hx.tl) (fun W1 cb V' hbW hcb hr hd hc=>by
  refine (answerQ_any hcb hr hx.inv (by omega) A Bv Cv S T hS).mono ?_
  rintro e W' ⟨ue,rfl,b3,o3⟩
  refine ⟨ue,_,rfl,isS_own o3,⟨_,_,_,rfl⟩,fun W6 h6=>?_,fun W6 _=>sameRowsN W6,b3.mono hbW.size,V',(b3.block cb (Array.getElem?_eq_some_iff.1 hcb).1).trans hcb,hr.below b3⟩
  have b6:Below w2'.heap.size w2' W6:=hbW.trans ((b3.mono hbW.size).trans (h6.mono (Nat.le_trans hbW.size b3.size)))
  exact sameEntries_any (rdE_own (own_belowR o2' b6)) (rdE_own (own_belowR o3 h6))) (fun mv W10 hr=>by
  obtain ⟨V2,hr⟩:=hr
  have hf:=lays_fin hp hi hr hx.log hx.inv hx.left hx.db ⟨by omega,by omega⟩ hx.tl
  have bd:=drewB (W10.setCell ⟨(hs.getD i h0).hb,9,none⟩ mv)
  have hf2:=hf.below bd
  have em:=map_hb_set (x:={ (hs.getD i h0) with mv:=mv,V:=V2 }) hi rfl
  have hsl:(hs.set i { (hs.getD i h0) with mv:=mv,V:=V2 }).length=hs.length:=List.length_set
  have hv1:∀ g,some g=v.ownBlock→W.heap.size≤g∧g < w2'.heap.size:=fun g hg=>⟨(own_block o2' hg).1,(own_block o2' hg).2.1⟩
  have hr10:=hr.bel.size
  have o10:(W10.setCell ⟨(hs.getD i h0).hb,9,none⟩ mv).drew.ownsRow w.heap.size 66 3 v (qL (hs.getD i h0).L (hs.getD i h0).all S Bv Cv).length ((qL (hs.getD i h0).L (hs.getD i h0).all S Bv Cv).flatMap eC):=own_belowR (own_mono (own_same (own_belowR o2' hr.bel) (fun g hg=>set_other (fun e=>by have:=hv1 g hg;omega))) bW.size) bd
  have htl10:(W10.setCell ⟨(hs.getD i h0).hb,9,none⟩ mv).drew.heap[tb]? = some (Obj.cells (toA (qN (hs.getD i h0).L S Bv Cv) (qE S) v (.slice none 0 0)) 245 (0,0)):=by
   have e1:(W10.setCell ⟨(hs.getD i h0).hb,9,none⟩ mv).heap[tb]? = W10.heap[tb]? := set_other (fun e=>by omega)
   exact e1.trans ((hr.bel.block tb (Array.getElem?_eq_some_iff.1 htl).1).trans htl)
  have hsz10:(W10.setCell ⟨(hs.getD i h0).hb,9,none⟩ mv).drew.heap.size=W10.heap.size:=by show (W10.setCell _ _).heap.size=_;simp
  refine (ke_nil (B0:=w.heap.size) (tb:=tb) hf2 o10 (by omega) (by omega) (by have:=bw2.size;omega) hBw (fun g hg=>by rw [em] at hg;exact h.mlt hg) (fun g hg=>?_) htl10 (by omega)).mono ?_
  ·obtain ⟨q1,q2⟩:=hv1 g hg
   refine ⟨fun hz=>?_,fun j hj=>?_⟩
   ·rcases hz with hz | hz
    ·have:=(h.zm g hz).1;omega
    ·omega
   ·rw [hsl] at hj
    have hr0:(hs.getD j h0).ρ g=0:=by
     by_cases q:(hs.getD j h0).ρ g=0
     ·exact q
     ·have:=(h.lt j hj g q).1;omega
    rw [getD_set hi]
    by_cases e:j=i
    ·subst e;rw [if_pos rfl];exact hr0
    ·rw [if_neg e];exact hr0
  ·rintro e W12 ⟨rfl,h1,h2⟩
   refine ⟨rfl,h1,h2.mono ?_⟩
   rintro e W13 ⟨rfl,h3⟩
   refine ⟨rfl,h3.pre ?_ (fun g hg=>Or.inl hg) (fun g hg=>?_)⟩
   ·exact (bw2.mono hBw).trans (Rl.below_set (hr.bel.mono (Nat.le_trans hBw bw2.size)) (h.hge i hi).2 |>.trans (bd.mono (by have:=bw2.size;simp;omega)))
   ·have e1:(W10.setCell ⟨(hs.getD i h0).hb,9,none⟩ mv).heap[g]? = W10.heap[g]? := set_other (fun e=>(h.zm g hg).2.1 (by rw [e];exact hbm))
    exact e1.trans ((hr.bel.block g (Nat.lt_of_lt_of_le (h.zm g hg).1 bw2.size)).trans (bw2.block g (h.zm g hg).1)))
 exact ⟨mb,mc,C,_,hq⟩
end Go.Proofs.YtkncboinfcnklaaGreatDoor.Lw

namespace Go.Proofs.YtkncboinfcnklaaGreatDoor.Lw
open Go.RowKit Go.Deep Go.Shelf Go.Proofs.YtkncboinfcnklaaGreatDoor.Mth Go.Proofs.YtkncboinfcnklaaGreatDoor.Rl
set_option maxRecDepth 100000 in
set_option maxHeartbeats 4000000 in
theorem step_idle {w:World} {wb:Nat} {C:Array Value} (hblk:w.heap[wb]? = some (Obj.cells C 91 (0,0))) (a:Option Addr) (c:Nat) (h8:C[8]? = some (.slice a 0 c)) (o:Opr) (hk:12≤o.k∧o.k≤19) :
  Calls Tryz.prog 29 #[ptrV wb,oV o] w fun e w'=>e=.returned (.bool true)∧Below w.heap.size w w':=by
 obtain ⟨k,A,B,C',S,T⟩:=o
 simp only [oV] at hk ⊢
 obtain ⟨hk1,hk2⟩:=hk
 have HB:=hide (below_allocG w (Obj.cells #[.int .i64 k, .int .i64 A, .int .i64 B, .int .i64 C', .string S, .string T] 94))
 have d3:=(cell_of ((HB.out.block wb (Array.getElem?_eq_some_iff.1 hblk).1).trans hblk) h8).1
 have q1:¬ k < 1:=by omega
 have q2:¬ 22 < k:=by omega
 have q3:¬ k≤6:=by omega
 have q4:¬ k≤9:=by omega
 have q5:¬ k≤11:=by omega
 clear hblk h8
 go_enter Tryz.func29,Tryz.ntmps29
 go_wp2
 go_ret
 exact ⟨rfl,HB.out⟩
set_option maxRecDepth 100000 in
set_option maxHeartbeats 4000000 in
theorem step_walk {w:World} {wb:Nat} {C:Array Value} (hblk:w.heap[wb]? = some (Obj.cells C 91 (0,0))) (gb n c:Nat) (h8:C[8]? = some (.slice (some ⟨gb,0,none⟩) n c)) (hn:0 < n) (hn2:n≤400000) (hc:n≤c∧c≤maxLen) (f g:Nat→Nat) (hcl:∀ i,i < n→w.cell? ⟨gb,i,none⟩=some (ptrV (f i))) (hx:∀ i,i < n→w.cell? ⟨f i,0,none⟩=some (ptrV (g i)))
  (o:Opr) (hk:12≤o.k∧o.k≤19) (hA:-9223372036854775808≤o.A∧o.A < 9223372036854775808) (Q:World→Prop)
  (hl:∀ i,i < n→∀ W,Below w.heap.size w W→o.k≤13→Calls Tryz.prog 68 #[ptrV wb,ptrV (f i),oV o] W fun e w'=>e=.returned (.bool true)∧Q w')
  (ha:∀ i,i < n→∀ W,Below w.heap.size w W→14≤o.k→Calls Tryz.prog 69 #[ptrV wb,ptrV (f i),oV o] W fun e w'=>e=.returned (.bool true)∧Q w') :
  Calls Tryz.prog 29 #[ptrV wb,oV o] w fun e w'=>e=.returned (.bool true)∧Q w':=by
 obtain ⟨k,A,B,C',S,T⟩:=o
 simp only [oV] at hk hA hl ha ⊢
 obtain ⟨hk1,hk2⟩:=hk
 obtain ⟨hc1,hc2⟩:=hc
 unfold maxLen at hc2
 obtain ⟨W0,hW0⟩:∃ W0,W0=w.alloc (Obj.cells #[.int .i64 k, .int .i64 A, .int .i64 B, .int .i64 C', .string S, .string T] 94):=⟨_,rfl⟩
 have b0:Below w.heap.size w W0:=by rw [hW0];exact below_allocG _ _
 have k0:W0.heap[w.heap.size]? = some (Obj.cells #[.int .i64 k, .int .i64 A, .int .i64 B, .int .i64 C', .string S, .string T] 94 (0,0)):=by rw [hW0];exact new_blk _ _ _
 have d8:=(cell_of ((b0.block wb (Array.getElem?_eq_some_iff.1 hblk).1).trans hblk) h8).1
 obtain ⟨r,hr0,hr1,hpk⟩:=pick_fix A (n:Int) hA.1 hA.2 (by omega) (by omega)
 obtain ⟨i,rfl⟩:=Int.eq_ofNat_of_zero_le hr0
 have hi:i < n:=by omega
 have e0:=(b0.cell (p:=⟨gb,i,none⟩) (World.block_lt_of_cell? _ _ (hcl i hi))).trans (hcl i hi)
 have x0:=(b0.cell (p:=⟨f i,0,none⟩) (World.block_lt_of_cell? _ _ (hx i hi))).trans (hx i hi)
 have HL:=hide (hl i hi)
 have HA:=hide (ha i hi)
 generalize f i=p at *
 generalize g i=lb at *
 have d0:=(cell_of (j:=0) (u:=.int .i64 k) k0 rfl).1
 have d1:=(cell_of (j:=1) (u:=.int .i64 A) k0 rfl).1
 have d2:=(cell_of (j:=2) (u:=.int .i64 B) k0 rfl).1
 have d3:=(cell_of (j:=3) (u:=.int .i64 C') k0 rfl).1
 have d4:=(cell_of (j:=4) (u:=.string S) k0 rfl).1
 have d5:=(cell_of (j:=5) (u:=.string T) k0 rfl).1
 have HPK:=hide hpk
 have HW:=hide hW0
 have HB0:=hide b0
 generalize hob:w.heap.size=ob at *
 have HOB:=hide hob
 have q1:¬ k < 1:=by omega
 have q2:¬ 22 < k:=by omega
 have q3:¬ k≤6:=by omega
 have q4:¬ k≤9:=by omega
 have q5:¬ k≤11:=by omega
 have q6:k≠20:=by omega
 have q7:¬ 21≤k:=by omega
 have qn:((n:Int) == 0)=false:=by simp;omega
 clear hblk h8 hpk hW0 hob b0 k0 hcl hx hl ha
 go_enter Tryz.func29,Tryz.ntmps29
 go_upto_region 1 with fail
 rw [HOB.out,← HW.out]
 go_upto_region 11 with fail
 go_cut [5] from 43 (fun v wq=>v=ptrV p∧Below W0.heap.size W0 wq)
 case first=>
  have HM:Hid (Below W0.heap.size W0 W0.drew):=drewB _
  go_region_held3 (fun w'=>w'.cell? ⟨wb,8,none⟩=some (.slice (some ⟨gb,0,none⟩) n c)∧w'.cell? ⟨ob,1,none⟩=some (.int .i64 A)∧w'.cell? ⟨gb,i,none⟩=some (ptrV p)) (go_keep) (first | (go_at_call 15;refine (HPK.out _).mono ?_;rintro e W ⟨rfl,hW⟩;rw [hW];clear hW W))
  all_goals (go_wp2_with fail;go_meet;exact ⟨rfl,HM.out⟩)
 case rest=>
  obtain ⟨rfl,hbq⟩:=hcut
  have hnw:=World.block_lt_of_cell? _ _ d0
  have y0:=(hbq.cell (p:=⟨ob,0,none⟩) hnw).trans d0
  have y1:=(hbq.cell (p:=⟨ob,1,none⟩) hnw).trans d1
  have y2:=(hbq.cell (p:=⟨ob,2,none⟩) hnw).trans d2
  have y3:=(hbq.cell (p:=⟨ob,3,none⟩) hnw).trans d3
  have y4:=(hbq.cell (p:=⟨ob,4,none⟩) hnw).trans d4
  have y5:=(hbq.cell (p:=⟨ob,5,none⟩) hnw).trans d5
  have z0:=(hbq.cell (p:=⟨p,0,none⟩) (World.block_lt_of_cell? _ _ x0)).trans x0
  have hs0:=HB0.out.size
  have HBW:Hid (Below ob w wc):=HB0.out.trans (hbq.mono (by have:=HOB.out;omega))
  clear hbq d0 d1 d2 d3 d4 d5 d8 e0 x0
  by_cases q8:k≤13
  ·have CL:=hide (HL.out wc HBW.out q8)
   go_wp2_with (first
    | (go_at_call 68;refine CL.out.mono ?_;rintro e W ⟨rfl,hW⟩;have HQ:=hide hW;clear hW))
   go_ret
   exact ⟨rfl,HQ.out⟩
  ·have CL:=hide (HA.out wc HBW.out (by omega))
   go_wp2_with (first
    | (go_at_call 69;refine CL.out.mono ?_;rintro e W ⟨rfl,hW⟩;have HQ:=hide hW;clear hW))
   go_ret
   exact ⟨rfl,HQ.out⟩
set_option maxRecDepth 100000 in
set_option maxHeartbeats 4000000 in
theorem step_made {w:World} {wb:Nat} (o:Opr) (hk:o.k=10∨o.k=11) (Q:World→Prop)
  (hm:∀ W,Below w.heap.size w W→Calls Tryz.prog 66 #[ptrV wb,oV o] W fun e w'=>e=.returned (.bool true)∧Q w') :
  Calls Tryz.prog 29 #[ptrV wb,oV o] w fun e w'=>e=.returned (.bool true)∧Q w':=by
 have HB:=hide (below_allocG w (Obj.cells #[.int .i64 o.k, .int .i64 o.A, .int .i64 o.B, .int .i64 o.C, .string o.S, .string o.T] 94))
 have CM:=hide (hm _ HB.out)
 obtain ⟨k,A,B,C',S,T⟩:=o
 simp only [oV] at hk CM ⊢
 have q1:¬ k < 1:=by omega
 have q2:¬ 22 < k:=by omega
 have q3:¬ k≤6:=by omega
 have q4:¬ k≤9:=by omega
 have q5:k≤11:=by omega
 clear hm hk
 go_enter Tryz.func29,Tryz.ntmps29
 go_wp2_with fail
 refine CM.out.mono ?_
 rintro e w' ⟨rfl,h1⟩
 have HF:=hide h1
 clear h1 CM
 go_wp2
 go_ret
 exact ⟨rfl,HF.out⟩
end Go.Proofs.YtkncboinfcnklaaGreatDoor.Lw

namespace Go.Proofs.YtkncboinfcnklaaGreatDoor
open Go.RowKit Go.Deep Go.Proofs.YtkncboinfcnklaaGreatDoor.Mth
def eOne:Ent:=⟨5,7,⟨#[97,45,65]⟩⟩
theorem seg_one:Seg [eOne]:=by
 refine ⟨by simp,by simp,fun i hi=>?_⟩
 have:i=0:=by simp at hi;exact hi
 subst this
 unfold okAt isE
 simp [eOne,ByteArray.size]
theorem alloc_new (w:World) (o:Obj) (k:Nat) (hk:k=w.heap.size):(w.alloc o).heap[k]? = some o:=by
 subst hk
 show (w.heap.push o)[w.heap.size]? = _
 rw [Array.getElem?_push,if_pos rfl]
def oC (o:Opr):List Value:=[.int .i64 o.k, .int .i64 o.A, .int .i64 o.B, .int .i64 o.C, .string o.S, .string o.T]
theorem oC_at {l:List Opr} {j t:Nat} (h:j < l.length) (ht:t < 6):(l.flatMap oC)[j * 6 + t]? = (oC (l.getD j o0))[t]? := by
 induction l generalizing j with
 | nil=>simp at h
 | cons e l ih=>
  rw [List.flatMap_cons]
  cases j with
  | zero=>rw [List.getElem?_append_left (by simp [oC];omega)];simp [List.getD]
  | succ j=>
   rw [List.getElem?_append_right (by simp [oC];omega),show (j + 1) * 6 + t - (oC e).length=j * 6 + t by simp [oC];omega,ih (by simpa using h)]
   simp [List.getD]
theorem rdO_blk {w:World} {g:Nat} {l:List Opr} (h:Blk w g 94 (l.flatMap oC)) (hl:l.length≤1048576):RdO w (.slice (some ⟨g,0,none⟩) l.length l.length) l:=by
 refine ⟨_,l.length,rfl,Nat.le_refl _,by unfold maxLen;omega,Or.inr ⟨g,0,rfl,fun j hj=>?_⟩⟩
 rw [Nat.zero_add]
 have k0:=oC_at (t:=0) hj (by omega)
 rw [Nat.add_zero] at k0
 exact ⟨(h.at (k0.trans rfl)).1,(h.at ((oC_at (t:=1) hj (by omega)).trans rfl)).1,(h.at ((oC_at (t:=2) hj (by omega)).trans rfl)).1,(h.at ((oC_at (t:=3) hj (by omega)).trans rfl)).1,(h.at ((oC_at (t:=4) hj (by omega)).trans rfl)).1,(h.at ((oC_at (t:=5) hj (by omega)).trans rfl)).1⟩
def opn (P:ByteArray):List Opr:=
 [⟨1,0,1,1,⟨#[]⟩,⟨#[]⟩⟩,⟨2,0,1,0,⟨#[]⟩,⟨#[]⟩⟩,⟨4,0,5,0,⟨#[120]⟩,⟨#[]⟩⟩,⟨5,0,5,0,⟨#[120]⟩,⟨#[]⟩⟩,⟨6,0,5,5,⟨#[97]⟩,⟨#[122]⟩⟩,
  ⟨7,0,0,0,⟨#[68,105,115,107,32,50]⟩,⟨#[]⟩⟩,⟨8,0,0,0,⟨#[]⟩,⟨#[]⟩⟩,⟨9,0,0,0,P,⟨#[]⟩⟩,
  ⟨10,1,0,0,⟨#[]⟩,⟨#[]⟩⟩,⟨11,0,0,0,⟨#[]⟩,⟨#[]⟩⟩,⟨10,0,0,0,⟨#[]⟩,⟨#[]⟩⟩,⟨12,0,0,0,⟨#[111,110,101]⟩,⟨#[]⟩⟩,⟨12,0,0,0,⟨#[116,119,111,32,111,110,101]⟩,⟨#[]⟩⟩,⟨12,0,0,0,⟨#[116,104,114,101,101]⟩,⟨#[]⟩⟩,⟨12,0,0,0,⟨#[102,111,117,114]⟩,⟨#[]⟩⟩,⟨13,0,3,0,⟨#[]⟩,⟨#[]⟩⟩,
  ⟨14,0,0,9,⟨#[111,110,101]⟩,⟨#[]⟩⟩,⟨15,0,0,0,⟨#[]⟩,⟨#[]⟩⟩,⟨15,0,0,0,⟨#[]⟩,⟨#[]⟩⟩,⟨15,0,0,0,⟨#[]⟩,⟨#[]⟩⟩,⟨16,0,0,0,⟨#[]⟩,⟨#[]⟩⟩,
  ⟨17,0,0,0,⟨#[102,105,118,101]⟩,⟨#[]⟩⟩,⟨18,0,0,0,⟨#[]⟩,⟨#[]⟩⟩,⟨18,0,1,0,⟨#[]⟩,⟨#[]⟩⟩,⟨19,0,1,0,⟨#[]⟩,⟨#[]⟩⟩,⟨21,0,0,0,⟨#[]⟩,⟨#[]⟩⟩,⟨14,0,0,9,⟨#[116,119,111]⟩,⟨#[]⟩⟩]
theorem opn_ok (P:ByteArray) (h:P.size≤1048576):∀ o ∈ opn P,OkO o:=by
 have hs:∀ a:Array UInt8,a.size≤100→(ByteArray.mk a).size≤1048576:=fun a ha=>by show a.size≤1048576;omega
 intro o ho
 unfold opn at ho
 simp only [List.mem_cons,List.not_mem_nil,or_false] at ho
 rcases ho with rfl | rfl | rfl | rfl | rfl | rfl | rfl | rfl | rfl | rfl | rfl | rfl | rfl | rfl | rfl | rfl | rfl | rfl | rfl | rfl | rfl | rfl | rfl | rfl | rfl | rfl | rfl
 all_goals first | exact ⟨by simp,by simp,h⟩ | exact ⟨by simp,by simp,hs _ (by simp)⟩
def pkS:ByteArray:=strOfNums (pk [eOne])
theorem pkS_size:pkS.size≤1048576:=by
 unfold pkS
 rw [size_nums]
 have:=body_len seg_one
 unfold pk
 rw [List.length_append,num_len]
 omega
end Go.Proofs.YtkncboinfcnklaaGreatDoor

namespace Go.Proofs.YtkncboinfcnklaaGreatDoor
open Go.RowKit Go.Deep Go.Proofs.YtkncboinfcnklaaGreatDoor.Mth
theorem getD_mem {α:Type} {l:List α} {j:Nat} (h:j < l.length) (z:α):l.getD j z ∈ l:=by
 rw [List.getD,List.getElem?_eq_getElem h]
 exact List.getElem_mem _
end Go.Proofs.YtkncboinfcnklaaGreatDoor
