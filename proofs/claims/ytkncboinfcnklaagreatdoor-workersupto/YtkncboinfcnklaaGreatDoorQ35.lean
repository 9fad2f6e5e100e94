import Derived.Test.YtkncboinfcnklaaGreatDoorQ34
import Derived.Test.YtkncboinfcnklaaGreatDoorQ33
import Derived.Test.YtkncboinfcnklaaGreatDoorQ27
namespace Go.Proofs.YtkncboinfcnklaaGreatDoor.Lw
open Go.RowKit Go.Deep Go.Shelf Go.Proofs.YtkncboinfcnklaaGreatDoor.Mth Go.Proofs.YtkncboinfcnklaaGreatDoor.Rl
def I6 (x:Int):Prop:=-9223372036854775808≤x∧x < 9223372036854775808
def OkH (o:Opr):Prop:=I6 o.A∧I6 o.B∧I6 o.C∧o.S.size≤1048576
def LH (P:Lg→List Tl→Prop) (Z0:Nat→Prop) (w:World) (B wb:Nat) (g0 g1 g2 g3:Value) (M:Nat):Prop:=
 ∃ Z hv ke ks kr Ne Ns Nr hs,(∀ g,Z0 g→Z g)∧HI P Z w B wb g0 g1 g2 g3 hv ke ks kr Ne Ns Nr M hs none
theorem LH.below {P:Lg→List Tl→Prop} {Z0:Nat→Prop} {w w':World} {B wb:Nat} {g0 g1 g2 g3:Value} {M:Nat} (h:LH P Z0 w B wb g0 g1 g2 g3 M) (hb:Below w.heap.size w w'):LH P Z0 w' B wb g0 g1 g2 g3 M:=by
 obtain ⟨Z,hv,ke,ks,kr,Ne,Ns,Nr,hs,h1,h2⟩:=h
 exact ⟨Z,hv,ke,ks,kr,Ne,Ns,Nr,hs,h1,h2.below hb⟩
theorem LH.mono {P:Lg→List Tl→Prop} {Z0:Nat→Prop} {w:World} {B wb:Nat} {g0 g1 g2 g3:Value} {M M':Nat} (h:LH P Z0 w B wb g0 g1 g2 g3 M) (hM:M≤M'):LH P Z0 w B wb g0 g1 g2 g3 M':=by
 obtain ⟨Z,hv,ke,ks,kr,Ne,Ns,Nr,hs,h1,h2⟩:=h
 exact ⟨_,hv,ke,ks,kr,Ne,Ns,Nr,hs,fun g hg=>Or.inl (h1 g hg),h2.more hM (Y:=fun _=>False) (fun _ q=>q.elim)⟩
theorem LH.keep {P:Lg→List Tl→Prop} {w:World} {B wb:Nat} {g0 g1 g2 g3:Value} {M k:Nat} (h:LH P (fun _=>False) w B wb g0 g1 g2 g3 M) {w':World} (hb:Below w.heap.size w w') (hk:w.heap.size≤k) (hk2:k < w'.heap.size):LH P (fun g=>g=k) w' B wb g0 g1 g2 g3 M:=by
 obtain ⟨Z,hv,ke,ks,kr,Ne,Ns,Nr,hs,h1,h2⟩:=h
 refine ⟨_,hv,ke,ks,kr,Ne,Ns,Nr,hs,fun g hg=>Or.inr hg,(h2.below hb).more (Nat.le_refl _) (Y:=fun g=>g=k) (fun g hg=>?_)⟩
 subst hg
 refine ⟨hk2,fun hm=>by have:=h2.mlt hm;omega,fun j hj=>?_⟩
 by_cases q:(hs.getD j h0).ρ g=0
 ·exact q
 ·have:=(h2.lt j hj g q).1;omega
theorem LH.new (P:Lg→List Tl→Prop) (w:World) (g0 g1 g2 g3:Value):LH P (fun _=>False) (w.alloc (Obj.cells #[g0,g1,g2,g3, .slice none 0 0, .slice none 0 0, .slice none 0 0, .slice none 0 0, .slice none 0 0, .slice none 0 0, .slice none 0 0, .slice none 0 0, .slice none 0 0, .slice none 0 0, .slice none 0 0] 91)) w.heap.size w.heap.size g0 g1 g2 g3 0:=by
 refine ⟨fun _=>False, .slice none 0 0, .slice none 0 0, .slice none 0 0, .slice none 0 0,0,0,0,[],fun _ q=>q,new_blk w _ _,Nat.le_refl _,Bok.nil _ _ _ _ _ _ _,Bok.nil _ _ _ _ _ _ _,⟨fun i _=>.slice none (i + 1) 0,fun i _=>⟨_,_,rfl⟩,Bok.nil _ _ _ _ _ _ _⟩,World.ownsRow_nil _ _ _ _,fun j hj=>absurd hj (Nat.not_lt_zero _),fun j hj=>absurd hj (Nat.not_lt_zero _),fun j hj=>absurd hj (Nat.not_lt_zero _),fun j hj=>absurd hj (Nat.not_lt_zero _),fun i j hi=>absurd hi (Nat.not_lt_zero _),fun g hg=>hg.elim,fun g _ j hj=>absurd hj (Nat.not_lt_zero _),Nat.le_refl _,Nat.le_refl _,Nat.le_refl _,Nat.le_refl _⟩
theorem HS.lh {P:Lg→List Tl→Prop} {Z Z0:Nat→Prop} {w w':World} {B wb:Nat} {g0 g1 g2 g3:Value} {M:Nat} (h:HS P Z w w' B wb g0 g1 g2 g3 M) (hz:∀ g,Z0 g→Z g):LH P Z0 w' B wb g0 g1 g2 g3 M:=by
 obtain ⟨Z',hv,ke,ks,kr,Ne,Ns,Nr,hs',h1,h2⟩:=h.ex
 exact ⟨Z',hv,ke,ks,kr,Ne,Ns,Nr,hs',fun g hg=>h1 g (hz g hg),h2⟩
structure SH (P:Lg→List Tl→Prop) (hi:Int):Prop where
 st:∀ {Z:Nat→Prop} {w:World} {B wb:Nat} {g0 g1 g2 g3 hv ke ks kr:Value} {Ne Ns Nr M:Nat} {hs:List Ho} {Cs:List Cf} (o:Opr),HI P Z w B wb g0 g1 g2 g3 hv ke ks kr Ne Ns Nr M hs none→TabB B w→Tab10B B w→B≤w.heap.size→RdC w g3 Cs→Cs.length≤1048576→OkH o→10≤o.k→o.k≤hi→M + 2≤400000→Calls Tryz.prog 29 #[ptrV wb,oV o] w fun e w'=>e=.returned (.bool true)∧HS P Z w w' B wb g0 g1 g2 g3 (M + 2)
theorem SH.lh {P:Lg→List Tl→Prop} {hi:Int} (hS:SH P hi) {Z0:Nat→Prop} {w:World} {B wb:Nat} {g0 g1 g2 g3:Value} {M:Nat} (h:LH P Z0 w B wb g0 g1 g2 g3 M) {Cs:List Cf} (o:Opr) (ht:TabB B w) (ht':Tab10B B w) (hB:B≤w.heap.size) (hG:RdC w g3 Cs) (hC:Cs.length≤1048576) (hO:OkH o) (h1:10≤o.k) (h2:o.k≤hi) (hM:M + 2≤400000) :
  Calls Tryz.prog 29 #[ptrV wb,oV o] w fun e w'=>e=.returned (.bool true)∧LH P Z0 w' B wb g0 g1 g2 g3 (M + 2)∧Below B w w'∧(∀ g,Z0 g→w'.heap[g]? = w.heap[g]?):=by
 obtain ⟨Z,hv,ke,ks,kr,Ne,Ns,Nr,hs,hz,hI⟩:=h
 refine (hS.st o hI ht ht' hB hG hC hO h1 h2 hM).mono ?_
 rintro e w' ⟨rfl,hs'⟩
 exact ⟨rfl,hs'.lh hz,hs'.bel,fun g hg=>hs'.zk g (hz g hg)⟩
theorem sh_of {P:Lg→List Tl→Prop} {hi:Int} (hhi:hi≤19) (hP0:∀ m f bk n kp bt,P (Lg.new m f bk n kp bt) []) (hPa:∀ L ts s,P L ts→P (L.app s) ts) (hPc:∀ (L:Lg) ts (n:Nat),P L ts→P { L with clock:=L.clock + n } ts) (hPt:∀ L ts,P L ts→ts.length≤1000)
  (hask:∀ {Z:Nat→Prop} {w:World} {B wb:Nat} {g0 g1 g2 g3 hv ke ks kr:Value} {Ne Ns Nr M:Nat} {hs:List Ho} {i:Nat} (o:Opr),HI P Z w B wb g0 g1 g2 g3 hv ke ks kr Ne Ns Nr M hs none→i < hs.length→TabB B w→B≤w.heap.size→OkH o→14≤o.k→o.k≤hi→M + 2≤400000→Calls Tryz.prog 69 #[ptrV wb,ptrV (hs.getD i h0).hb,oV o] w fun e w'=>e=.returned (.bool true)∧HS P Z w w' B wb g0 g1 g2 g3 (M + 2)):SH P hi:=by
 refine ⟨?_⟩
 intro Z w B wb g0 g1 g2 g3 hv ke ks kr Ne Ns Nr M hs Cs o h ht ht' hBw hG hC hO hk1 hk2 hM
 obtain ⟨hA,hB',hC',hS⟩:=hO
 by_cases hm:o.k≤11
 ·refine step_made o (by omega) _ (fun W hW=>?_)
  refine (made_any (h.below hW) (ht.next (hW.mono hBw)) (Nat.le_trans hBw hW.size) (hG.below hW) hC o (by omega) hA (by omega) hP0).mono ?_
  rintro e w' ⟨rfl,hs'⟩
  exact ⟨rfl,(hs'.mono (by omega)).pre (hW.mono hBw) (fun _ q=>q) (fun g hg=>hW.block g (h.zm g hg).1)⟩
 ·by_cases hn:hs.length=0
  ·obtain ⟨a,c,e,_,_⟩:=own_slice h.row
   rw [hn] at e
   refine (step_idle h.blk a c (by rw [e];rfl) o (by omega)).mono ?_
   rintro e w' ⟨rfl,hb⟩
   refine ⟨rfl,hb.mono hBw,fun g hg=>hb.block g (h.zm g hg).1,_,hv,ke,ks,kr,Ne,Ns,Nr,hs,fun g hg=>Or.inl hg,(h.below hb).more (Y:=fun _=>False) (by omega) (fun _ q=>q.elim)⟩
  ·obtain ⟨a,c,e,hc⟩:=own_slice h.row
   have hrow:=h.row
   rw [e] at hrow
   obtain ⟨gb,rfl⟩:=own_some hrow (by omega)
   have hmb:=h.mb
   have hcl:∀ i,i < hs.length→w.cell? ⟨gb,i,none⟩=some (ptrV (hs.getD i h0).hb):=fun i hi=>by
    have h1:(hs.map (fun x=>ptrV x.hb))[i]? = some (ptrV (hs.getD i h0).hb):=by
     rw [List.getElem?_map,List.getElem?_eq_getElem hi,List.getElem_eq_getD h0]
     rfl
    exact own_get hrow h1
   refine step_walk h.blk gb hs.length c (by rw [e];rfl) (by omega) (by omega) hc (fun i=>(hs.getD i h0).hb) (fun i=>(hs.getD i h0).lb) hcl (fun i hi=>(cell_of (j:=0) (h.hob i hi) rfl).1) o (by omega) hA _ (fun i hi W hW hk=>?_) (fun i hi W hW hk=>?_)
   ·have hz:∀ g,Z g→W.heap[g]? = w.heap[g]? := fun g hg=>hW.block g (h.zm g hg).1
    have hBW:=Nat.le_trans hBw hW.size
    obtain ⟨k,A,Bv,Cv,S,T⟩:=o
    simp only at hk hm hk1 hA hB' hS
    by_cases h12:k=12
    ·subst h12
     refine (laysA_any (h.below hW) hi (ht.next (hW.mono hBw)) hBW A Bv Cv S T hS (by omega) hPa hPt).mono ?_
     rintro e w' ⟨rfl,hs'⟩
     exact ⟨rfl,(hs'.mono (by omega)).pre (hW.mono hBw) (fun _ q=>q) hz⟩
    ·have h13:k=13:=by omega
     subst h13
     refine (laysT_any (h.below hW) hi (ht'.next (hW.mono hBw)) hBW A Bv Cv S T ⟨hB'.1,by have:=hB'.2;omega⟩ (by omega) hPc hPt).mono ?_
     rintro e w' ⟨rfl,hs'⟩
     exact ⟨rfl,(hs'.mono (by omega)).pre (hW.mono hBw) (fun _ q=>q) hz⟩
   ·refine (hask o (h.below hW) hi (ht.next (hW.mono hBw)) (Nat.le_trans hBw hW.size) ⟨hA,hB',hC',hS⟩ hk hk2 hM).mono ?_
    rintro e w' ⟨rfl,hs'⟩
    exact ⟨rfl,hs'.pre (hW.mono hBw) (fun _ q=>q) (fun g hg=>hW.block g (h.zm g hg).1)⟩
theorem wholeH_any {P:Lg→List Tl→Prop} {Z0:Nat→Prop} {w:World} {B wb:Nat} {g0 g1 g2 g3:Value} {M:Nat} (h:LH P Z0 w B wb g0 g1 g2 g3 M) (hM:M≤400000):Calls Tryz.prog 30 #[.pointer (some ⟨wb,9,none⟩)] w fun e w'=>e=.returned (.bool true)∧Below w.heap.size w w':=by
 obtain ⟨Z,hv,ke,ks,kr,Ne,Ns,Nr,hs,_,h⟩:=h
 have hmb:=h.mb
 obtain ⟨F,hF,hbr⟩:=h.br
 exact wholeAll_any w B wb g0 g1 g2 g3 _ _ _ _ hv _ _ _ ke ks kr 0 0 0 Ne Ns Nr h.blk ⟨Book.nil _ _ _ _ _ _,Book.nil _ _ _ _ _ _,Book.nil _ _ _ _ _ _,h.be.book,h.bs.book,⟨F,hF,hbr.book⟩⟩ (Nat.zero_le _) (Nat.zero_le _) (Nat.zero_le _) (by omega) (by omega) (by omega)
set_option maxRecDepth 100000 in
set_option maxHeartbeats 1000000 in
theorem knownH_any (w:World) :
  Calls Tryz.prog 27 #[] w fun e w'=>∃ s0 s1 s2 s3:Value,isS s0∧isS s1∧isS s2∧isS s3∧e=.returned (.agg #[s0,s1,s2,s3])∧Below w.heap.size w w'∧RdC w' s3 [⟨1,2,0,1,5,2⟩,⟨0,0,0,0,0,0⟩]:=by
 go_enter Tryz.func27,Tryz.ntmps27
 go_wp2
 refine bodyPost_ret (v:=.agg #[.slice (some ⟨w.heap.size + 1 + 1 + 1,0,none⟩) 2 2, .slice (some ⟨w.heap.size + 1 + 1 + 1 + 1 + 1 + 1,0,none⟩) 2 2, .slice (some ⟨w.heap.size + 1 + 1 + 1 + 1 + 1 + 1 + 1 + 1,0,none⟩) 1 1, .slice (some ⟨w.heap.size + 1 + 1 + 1 + 1 + 1 + 1 + 1 + 1 + 1,0,none⟩) 2 2]) (by simp [results,Tryz.results27,go_sem]) rfl ⟨_,_,_,_,⟨_,_,_,rfl⟩,⟨_,_,_,rfl⟩,⟨_,_,_,rfl⟩,⟨_,_,_,rfl⟩,rfl,?_,?_⟩
 ·repeat (first | exact below_alloc w _ | refine Below.alloc ?_ (by simp;try omega) _)
 ·refine ⟨_,2,rfl,by simp,by unfold maxLen;simp,Or.inr ⟨_,0,rfl,fun i hi=>?_⟩⟩
  have hi2:i < 2:=by simpa using hi
  match i,hi2 with
  | 0,_=>exact ⟨(cell_of (j:=0) (alloc_new _ _ _ (by simp)) rfl).1,(cell_of (j:=1) (alloc_new _ _ _ (by simp)) rfl).1,(cell_of (j:=2) (alloc_new _ _ _ (by simp)) rfl).1,(cell_of (j:=3) (alloc_new _ _ _ (by simp)) rfl).1,(cell_of (j:=4) (alloc_new _ _ _ (by simp)) rfl).1,(cell_of (j:=5) (alloc_new _ _ _ (by simp)) rfl).1⟩
  | 1,_=>exact ⟨(cell_of (j:=6) (alloc_new _ _ _ (by simp)) rfl).1,(cell_of (j:=7) (alloc_new _ _ _ (by simp)) rfl).1,(cell_of (j:=8) (alloc_new _ _ _ (by simp)) rfl).1,(cell_of (j:=9) (alloc_new _ _ _ (by simp)) rfl).1,(cell_of (j:=10) (alloc_new _ _ _ (by simp)) rfl).1,(cell_of (j:=11) (alloc_new _ _ _ (by simp)) rfl).1⟩
set_option maxRecDepth 100000 in
set_option maxHeartbeats 2000000 in
theorem openingH_any (w:World) :
  Calls Tryz.prog 28 #[] w fun e w'=>∃ g,e=.returned (.slice (some ⟨g,0,none⟩) 27 27)∧Below w.heap.size w w'∧w.heap.size≤g∧Blk w' g 94 ((opn pkS).flatMap oC):=by
 have hrd:RdE (w.alloc (Obj.cells #[.int .i64 5, .int .i64 7, .string ⟨#[97,45,65]⟩] 66)) (.slice (some ⟨w.heap.size,0,none⟩) 1 1) [eOne]:=by
  refine ⟨_,1,rfl,by simp,by unfold maxLen;simp,Or.inr ⟨_,0,rfl,fun j hj=>?_⟩⟩
  have hj0:j=0:=by simp at hj;exact hj
  subst hj0
  refine ⟨?_,?_,?_⟩
  all_goals simp [eOne,List.getD]
 have HB:=hide (below_alloc w (Obj.cells #[.int .i64 5, .int .i64 7, .string ⟨#[97,45,65]⟩] 66))
 have CP:=hide (refPack_yes _ _ _ hrd seg_one)
 have HP:Hid (pkS=strOfNums (pk [eOne])):=rfl
 rw [← HP.out] at CP
 clear hrd
 go_enter Tryz.func28,Tryz.ntmps28
 go_wp2_with fail
 refine CP.out.mono ?_
 rintro e w2 ⟨rfl,hb2⟩
 have HB2:=hide (HB.out.trans (hb2.mono HB.out.size))
 clear hb2 CP HB
 generalize pkS=PS at *
 go_wp2
 go_ret
 refine ⟨_,rfl,HB2.out.alloc (by have:=HB2.out.size;omega) _,HB2.out.size,?_⟩
 show (w2.heap.push _)[w2.heap.size]? = _
 rw [Array.getElem?_push,if_pos rfl]
 simp [opn,oC]
 exact HP.out
end Go.Proofs.YtkncboinfcnklaaGreatDoor.Lw

namespace Go.Proofs.YtkncboinfcnklaaGreatDoor.Lw
open Go.RowKit Go.Deep Go.Shelf Go.Proofs.YtkncboinfcnklaaGreatDoor.Mth Go.Proofs.YtkncboinfcnklaaGreatDoor.Rl
theorem opn_okH:∀ o ∈ opn pkS,OkH o:=by
 intro o ho
 have h2:=(opn_ok pkS pkS_size o ho).2.2
 unfold opn at ho
 simp only [List.mem_cons,List.not_mem_nil,or_false] at ho
 rcases ho with rfl | rfl | rfl | rfl | rfl | rfl | rfl | rfl | rfl | rfl | rfl | rfl | rfl | rfl | rfl | rfl | rfl | rfl | rfl | rfl | rfl | rfl | rfl | rfl | rfl | rfl | rfl
 all_goals exact ⟨⟨by simp,by simp⟩,⟨by simp,by simp⟩,⟨by simp,by simp⟩,h2⟩
theorem Tab10B.mono {B B':Nat} {w:World} (h:Tab10B B w) (hB:B≤B'):Tab10B B' w:=fun w' hb=>h w' (hb.mono hB)
set_option maxRecDepth 100000 in
set_option maxHeartbeats 4000000 in
theorem playsH_any {P:Lg→List Tl→Prop} {hi:Int} (hhi:14≤hi∧hi≤19) (hSH:SH P hi) (W0:World) (g0 g1 g2 g3 sv:Value) (Cs:List Cf) (ops:List Opr) (hs0:isS g0) (hs1:isS g1) (hs2:isS g2) (hG:RdC W0 g3 Cs) (hCl:Cs.length≤1048576) (ht:TabB W0.heap.size W0) (ht':Tab10B W0.heap.size W0) (hO:RdO W0 sv ops) (hOk:∀ o ∈ ops,OkH o) (hn:ops.length≤190000) :
  Calls Tryz.prog 12 #[.agg #[g0,g1,g2,g3],sv, .int .i64 10, .int .i64 hi] W0 fun e w'=>e=.returned (.bool true)∧Below W0.heap.size W0 w':=by
 have HG:=hide hG
 have HCL:=hide hCl
 have HT:=hide ht
 have HTT:=hide ht'
 have HO:=hide hO
 have HOK:=hide hOk
 have HSH:Hid (SH P hi):=hSH
 obtain ⟨sa,sc,rfl,hsc,hsm⟩:=rdO_len hO
 unfold maxLen at hsm
 obtain ⟨a3,c3,rfl,_,_,_⟩:=hG
 obtain ⟨a0,n0,c0,rfl⟩:=hs0
 obtain ⟨a1,n1,c1,rfl⟩:=hs1
 obtain ⟨ga,gn,gc,rfl⟩:=hs2
 generalize hn3:Cs.length=n3 at *
 have HN3:=hide hn3
 clear hn3 hSH
 have HB1:=hide (below_alloc W0 (Obj.cells #[.slice a0 n0 c0, .slice a1 n1 c1, .slice ga gn gc, .slice a3 n3 c3] 27))
 have HGB:=hide (alloc_new W0 (Obj.cells #[.slice a0 n0 c0, .slice a1 n1 c1, .slice ga gn gc, .slice a3 n3 c3] 27) W0.heap.size rfl)
 have hlt1:W0.heap.size < (W0.alloc (Obj.cells #[.slice a0 n0 c0, .slice a1 n1 c1, .slice ga gn gc, .slice a3 n3 c3] 27)).heap.size:=by simp
 clear hO hOk ht ht' hCl
 obtain ⟨hh1,hh2⟩:=hhi
 generalize hon:ops.length=on at *
 have HON:=hide hon
 clear hon
 go_enter Tryz.func12,Tryz.ntmps12
 go_wp2_with fail
 generalize W0.alloc (Obj.cells #[.slice a0 n0 c0, .slice a1 n1 c1, .slice ga gn gc, .slice a3 n3 c3] 27)=w1 at *
 refine (knownH_any w1).mono ?_
 rintro e w2 ⟨k0,k1,k2,k3,⟨p0,q0,r0,rfl⟩,⟨p1,q1,r1,rfl⟩,⟨p2,q2,r2,rfl⟩,⟨p3,q3,r3,rfl⟩,rfl,hb2,hk2⟩
 have HB2:=hide hb2
 have HK2:=hide hk2
 have hs2:=hb2.size
 clear hb2 hk2
 have HS3:=hide (LH.new P w2 (.slice p0 q0 r0) (.slice p1 q1 r1) (.slice p2 q2 r2) (.slice p3 q3 r3))
 have HB3:=hide (below_alloc w2 (Obj.cells #[.slice p0 q0 r0, .slice p1 q1 r1, .slice p2 q2 r2, .slice p3 q3 r3, .slice none 0 0, .slice none 0 0, .slice none 0 0, .slice none 0 0, .slice none 0 0, .slice none 0 0, .slice none 0 0, .slice none 0 0, .slice none 0 0, .slice none 0 0, .slice none 0 0] 91))
 go_wp2_with fail
 generalize w2.alloc (Obj.cells #[.slice p0 q0 r0, .slice p1 q1 r1, .slice p2 q2 r2, .slice p3 q3 r3, .slice none 0 0, .slice none 0 0, .slice none 0 0, .slice none 0 0, .slice none 0 0, .slice none 0 0, .slice none 0 0, .slice none 0 0, .slice none 0 0, .slice none 0 0, .slice none 0 0] 91)=w3 at *
 refine (openingH_any w3).mono ?_
 rintro e w4 ⟨og,rfl,hb4,hog,hbl4⟩
 have HS4:=hide (HS3.out.keep hb4 hog (Array.getElem?_eq_some_iff.1 hbl4).1)
 have HB4:=hide (HB3.out.trans (hb4.mono HB3.out.size))
 have HBL4:=hide hbl4
 have HB02:Hid (Below W0.heap.size W0 w2):=HB1.out.trans (HB2.out.mono HB1.out.size)
 have hso:=opn_okH
 have HSO:=hide hso
 clear hb4 hbl4 hso HS3 HB3 hog
 generalize hOP:opn pkS=OP at *
 have hol:Hid (OP.length=27):=by show _=_;rw [← hOP];rfl
 clear hOP
 go_wp2_with fail
 go_loopw [11] (fun i wr=>∃ k:Nat,k≤27∧i=.int .i64 k∧Below w2.heap.size w2 wr∧LH P (fun g=>g=og) wr w2.heap.size w2.heap.size (.slice p0 q0 r0) (.slice p1 q1 r1) (.slice p2 q2 r2) (.slice p3 q3 r3) (2 * k)∧Blk wr og 94 (OP.flatMap oC)) (fun i _=>27 - (intOf i).toNat)
 case atStart=>exact ⟨0,by omega,rfl,HB4.out,HS4.out,HBL4.out⟩
 case round=>
  obtain ⟨k,hk,rfl,hb,hsi,hbl⟩:=hrel
  have HB:=hide hb
  have HSI:=hide hsi
  have HBL:=hide hbl
  clear hb hsi hbl
  by_cases hlt:k < 27
  ·have hrd:=rdO_blk HBL.out (by rw [hol.out];omega)
   rw [hol.out] at hrd
   obtain ⟨b,o,e,_,c0',c1',c2',c3',c4',c5'⟩:=rdO_at hrd k (by rw [hol.out];exact hlt)
   injection e with e
   injection e with e1 e2
   subst e1 e2
   have hok:=HSO.out _ (getD_mem (l:=OP) (j:=k) (by rw [hol.out];exact hlt) o0)
   generalize OP.getD k o0=op at *
   by_cases h7:10≤op.k
   ·by_cases h9:op.k≤hi
    ·have HW:Hid (Below W0.heap.size W0 wr):=HB02.out.trans (HB.out.mono HB02.out.size)
     have CS:=hide (HSH.out.lh HSI.out op (TabB.mono (HT.out.next HW.out) HB02.out.size) (Tab10B.mono (HTT.out.next HW.out) HB02.out.size) HB.out.size (HK2.out.below HB.out) (by simp) hok h7 h9 (by omega))
     obtain ⟨ok,oA,oB,oC',oS,oT⟩:=op
     simp only [oV] at CS c0' c1' c2' c3' c4' c5' h7 h9
     simp only [Nat.zero_add] at c0' c1' c2' c3' c4' c5'
     clear hok hrd
     go_wp2_with fail
     refine CS.out.mono ?_
     rintro e w5 ⟨rfl,h2,h1,h3⟩
     have H1:=hide (HB.out.trans h1)
     have H2:=hide h2
     have H3:Hid (Blk w5 og 94 (OP.flatMap oC)):=(h3 og rfl).trans HBL.out
     clear h1 h2 h3 CS c0' c1' c2' c3' c4' c5'
     go_wp2
     go_roundw
     case rel=>exact ⟨k + 1,by omega,by go_num,H1.out,H2.out,H3.out⟩
     case measure=>simp [intOf];omega
    ·obtain ⟨ok,oA,oB,oC',oS,oT⟩:=op
     simp only at c0' h7 h9
     simp only [Nat.zero_add] at c0'
     clear hok hrd c1' c2' c3' c4' c5'
     go_wp2
     go_roundw
     case rel=>exact ⟨k + 1,by omega,by go_num,HB.out,(HSI.out.mono (by omega)),HBL.out⟩
     case measure=>simp [intOf];omega
   ·obtain ⟨ok,oA,oB,oC',oS,oT⟩:=op
    simp only at c0' h7
    simp only [Nat.zero_add] at c0'
    clear hok hrd c1' c2' c3' c4' c5'
    go_wp2
    go_roundw
    case rel=>exact ⟨k + 1,by omega,by go_num,HB.out,(HSI.out.mono (by omega)),HBL.out⟩
    case measure=>simp [intOf];omega
  ·have HGW:=hide ((HB.out.block W0.heap.size (by omega)).trans ((HB2.out.block W0.heap.size hlt1).trans HGB.out))
   obtain ⟨x0,_⟩:=cell_of (j:=0) (u:=.slice a0 n0 c0) HGW.out rfl
   obtain ⟨x1,_⟩:=cell_of (j:=1) (u:=.slice a1 n1 c1) HGW.out rfl
   obtain ⟨x2,_⟩:=cell_of (j:=2) (u:=.slice ga gn gc) HGW.out rfl
   obtain ⟨x3,_⟩:=cell_of (j:=3) (u:=.slice a3 n3 c3) HGW.out rfl
   have HB0:Hid (Below W0.heap.size W0 wr):=HB02.out.trans (HB.out.mono HB02.out.size)
   have HG5:=hide (HG.out.below HB0.out)
   have HS6:=hide (LH.new P wr (.slice a0 n0 c0) (.slice a1 n1 c1) (.slice ga gn gc) (.slice a3 n3 c3))
   have HB6:=hide (below_alloc wr (Obj.cells #[.slice a0 n0 c0, .slice a1 n1 c1, .slice ga gn gc, .slice a3 n3 c3, .slice none 0 0, .slice none 0 0, .slice none 0 0, .slice none 0 0, .slice none 0 0, .slice none 0 0, .slice none 0 0, .slice none 0 0, .slice none 0 0, .slice none 0 0, .slice none 0 0] 91))
   clear HSI HBL HGW HSO
   go_wp2_with fail
   generalize wr.alloc (Obj.cells #[.slice a0 n0 c0, .slice a1 n1 c1, .slice ga gn gc, .slice a3 n3 c3, .slice none 0 0, .slice none 0 0, .slice none 0 0, .slice none 0 0, .slice none 0 0, .slice none 0 0, .slice none 0 0, .slice none 0 0, .slice none 0 0, .slice none 0 0, .slice none 0 0] 91)=w6 at *
   clear x0 x1 x2 x3
   generalize wr=Win at *
   go_loopw [14] (fun i wr=>∃ k:Nat,k≤on∧i=.int .i64 k∧Below Win.heap.size Win wr∧LH P (fun _=>False) wr Win.heap.size Win.heap.size (.slice a0 n0 c0) (.slice a1 n1 c1) (.slice ga gn gc) (.slice a3 n3 c3) (2 * k)) (fun i _=>on - (intOf i).toNat)
   case atStart=>exact ⟨0,by omega,rfl,HB6.out,HS6.out⟩
   case round=>
    obtain ⟨k,hk,rfl,hb,hsi⟩:=hrel
    have HBB:=hide hb
    have HSI:=hide hsi
    have HB0w:Hid (Below W0.heap.size W0 wr):=HB0.out.trans (hb.mono HB0.out.size)
    clear hb hsi
    by_cases hlt2:k < on
    ·obtain ⟨b,o,rfl,_,c0',c1',c2',c3',c4',c5'⟩:=rdO_at (HO.out.below HB0w.out) k (by rw [HON.out];exact hlt2)
     have hok:=HOK.out _ (getD_mem (l:=ops) (j:=k) (by rw [HON.out];exact hlt2) o0)
     generalize ops.getD k o0=op at *
     by_cases h7:10≤op.k
     ·by_cases h9:op.k≤hi
      ·have CS:=hide (HSH.out.lh HSI.out op (TabB.mono (HT.out.next HB0w.out) HB0.out.size) (Tab10B.mono (HTT.out.next HB0w.out) HB0.out.size) HBB.out.size (HG5.out.below HBB.out) (by rw [HN3.out];exact HCL.out) hok h7 h9 (by omega))
       obtain ⟨ok,oA,oB,oC',oS,oT⟩:=op
       simp only [oV] at CS c0' c1' c2' c3' c4' c5' h7 h9
       clear hok
       go_wp2_with fail
       refine CS.out.mono ?_
       rintro e w7 ⟨rfl,h2,h1,_⟩
       have H1:=hide (HBB.out.trans h1)
       have H2:=hide h2
       have CW:=hide (wholeH_any h2 (by omega))
       clear h1 h2 CS c0' c1' c2' c3' c4' c5'
       go_wp2_with fail
       refine CW.out.mono ?_
       rintro e w8 ⟨rfl,hb8⟩
       have H8:=hide (H1.out.trans (hb8.mono H1.out.size))
       have S8:=hide (H2.out.below hb8)
       clear hb8 CW
       go_wp2
       go_roundw
       case rel=>exact ⟨k + 1,by omega,by go_num,H8.out,S8.out⟩
       case measure=>simp [intOf];omega
      ·obtain ⟨ok,oA,oB,oC',oS,oT⟩:=op
       simp only at c0' h7 h9
       clear hok c1' c2' c3' c4' c5'
       go_wp2
       go_roundw
       case rel=>exact ⟨k + 1,by omega,by go_num,HBB.out,(HSI.out.mono (by omega))⟩
       case measure=>simp [intOf];omega
     ·obtain ⟨ok,oA,oB,oC',oS,oT⟩:=op
      simp only at c0' h7
      clear hok c1' c2' c3' c4' c5'
      go_wp2
      go_roundw
      case rel=>exact ⟨k + 1,by omega,by go_num,HBB.out,(HSI.out.mono (by omega))⟩
      case measure=>simp [intOf];omega
    ·go_wp2
     go_ret
     exact ⟨rfl,HB0w.out⟩
end Go.Proofs.YtkncboinfcnklaaGreatDoor.Lw

namespace Go.Proofs.YtkncboinfcnklaaGreatDoor.Lw
open Go.RowKit Go.Deep Go.Shelf Go.Proofs.YtkncboinfcnklaaGreatDoor.Mth Go.Proofs.YtkncboinfcnklaaGreatDoor.Rl
def TyB (W W2:World):Prop:=∀ k,W.heap.size≤k→k < W2.heap.size→∃ C t,W2.heap[k]? = some (Obj.cells C t (0,0))∧(t=94∨t=245)
theorem TyB.non {W W2:World} (h:TyB W W2):∀ k,W.heap.size≤k→k < W2.heap.size→¬ isN W2 k:=fun k h1 h2=>by
 obtain ⟨C,t,h3,h4⟩:=h k h1 h2
 rintro ⟨C',fr,h5⟩
 rw [h3] at h5
 injection h5 with h5
 injection h5 with _ h5 _
 subst h5
 rcases h4 with e | e <;> exact absurd e (by decide)
theorem two_ty {W W2:World} {C1 C2:Array Value} (k0:W2.heap[W.heap.size]? = some (Obj.cells C1 94 (0,0))) (k1:W2.heap[W.heap.size + 1]? = some (Obj.cells C2 245 (0,0))) (hs:W2.heap.size=W.heap.size + 1 + 1):TyB W W2:=fun k h1 h2=>by
 rcases (show k=W.heap.size∨k=W.heap.size + 1 by omega) with e | e
 ·rw [e];exact ⟨_,_,k0,Or.inl rfl⟩
 ·rw [e];exact ⟨_,_,k1,Or.inr rfl⟩
set_option maxRecDepth 100000 in
set_option maxHeartbeats 2000000 in
theorem askedS {W:World} {lb:Nat} (A Bv Cv:Int) (S T:ByteArray) (R:Int→Int→World→Prop)
  (hq:∀ W2,Below W.heap.size W W2→TyB W W2→Calls Tryz.prog 23 #[ptrV lb, .int .i64 Bv] W2 fun e w'=>∃ n er,e=.returned (.tuple #[.int .i64 n, .int .i64 er])∧(∀ k,W.heap.size≤k→k < W2.heap.size→w'.heap[k]? = W2.heap[k]?)∧∀ w3,Tch (fun k=>W.heap.size≤k∧k < W2.heap.size) w' w3→R n er w3) :
  Calls Tryz.prog 133 #[ptrV lb,oV ⟨15,A,Bv,Cv,S,T⟩] W fun e w3=>∃ n er,e=.returned (.agg (toA n er (.slice none 0 0) (.slice none 0 0)))∧R n er w3:=by
 obtain ⟨W2,hW2,hb2,k0,k1,hs2⟩:=two_more W ⟨15,A,Bv,Cv,S,T⟩
 simp only [oV] at hW2 k0 ⊢
 have CQ:=hide (hq W2 hb2 (two_ty k0 k1 hs2))
 have hN:∀ er w,Calls Tryz.prog 114 #[.int .i64 er] w fun e w'=>e=.returned (.int .i64 er)∧w'=w:=fun er w=>num_any er w
 have HNM:=hide hN
 obtain ⟨o0,_⟩:=cell_of (j:=0) (u:=.int .i64 15) k0 rfl
 obtain ⟨o2,_⟩:=cell_of (j:=2) (u:=.int .i64 Bv) k0 rfl
 have HW2:=hide hW2
 have HK1:=hide k1
 have HS2:=hide hs2
 clear hW2 hq hN hb2 k0 k1 hs2
 go_enter Tryz.func133,Tryz.ntmps133
 go_upto_region 1 with fail
 rw [← HW2.out]
 go_wp2_with (first
  | (go_at_call 23;refine CQ.out.mono ?_;rintro e w2 ⟨n,er,rfl,h1,h2⟩;have k2:=(h1 (W.heap.size + 1) (by omega) (by rw [HS2.out];omega)).trans HK1.out;obtain ⟨y0,f0⟩:=cell_of (j:=0) (u:=.int .i64 0) k2 rfl;obtain ⟨y1,f1⟩:=cell_of (j:=1) (u:=.int .i64 0) k2 rfl;obtain ⟨y2,f2⟩:=cell_of (j:=2) (u:=.slice none 0 0) k2 rfl;obtain ⟨y3,f3⟩:=cell_of (j:=3) (u:=.slice none 0 0) k2 rfl;have HK2:=hide k2;have H2:=hide h2;clear h1 h2 k2)
  | (go_at_call 114;refine (HNM.out _ _).mono ?_;rintro e W ⟨rfl,hW⟩;rw [hW];clear hW W))
 have hset:=set_blk (j:=3) (v:=.slice none 0 0) (set_blk (j:=2) (v:=.slice none 0 0) (set_blk (j:=1) (v:=.int .i64 er) (set_blk (j:=0) (v:=.int .i64 n) HK2.out)))
 have hld:=run_loadVar_row (P:=Tryz.prog) _ (W.heap.size + 1) 245 245 _ (0,0) _ hset Tryz.underlying245 rfl Tryz.sizeTold
 refine bodyPost_ret (v:=.agg (#[.int .i64 n, .int .i64 er, .slice none 0 0, .slice none 0 0])) ?_ rfl ⟨n,er,rfl,H2.out _ ⟨rfl,rfl,rfl,by simp,fun k hk hn=>?_⟩⟩
 ·rw [results_cellG rfl]
  simp [asAddr,Result.andThen,hld]
 ·have hk':k≠W.heap.size + 1:=fun e=>hn ⟨by omega,by rw [HS2.out];omega⟩
  rw [set_other hk',set_other hk',set_other hk',set_other hk']
set_option maxRecDepth 100000 in
set_option maxHeartbeats 2000000 in
theorem answerS {W:World} {lb:Nat} (A Bv Cv:Int) (S T:ByteArray) (R:Int→Int→World→Prop)
  (hq:∀ W2,Below W.heap.size W W2→TyB W W2→Calls Tryz.prog 206 #[ptrV lb, .int .i64 Bv] W2 fun e w'=>∃ n er,e=.returned (.tuple #[.int .i64 n, .int .i64 er])∧(∀ k,W.heap.size≤k→k < W2.heap.size→w'.heap[k]? = W2.heap[k]?)∧∀ w3,Tch (fun k=>W.heap.size≤k∧k < W2.heap.size) w' w3→R n er w3) :
  Calls Tryz.prog 134 #[ptrV lb,oV ⟨15,A,Bv,Cv,S,T⟩] W fun e w3=>∃ n er,e=.returned (.agg (toA n er (.slice none 0 0) (.slice none 0 0)))∧R n er w3:=by
 obtain ⟨W2,hW2,hb2,k0,k1,hs2⟩:=two_more W ⟨15,A,Bv,Cv,S,T⟩
 simp only [oV] at hW2 k0 ⊢
 have CQ:=hide (hq W2 hb2 (two_ty k0 k1 hs2))
 have hN:∀ er w,Calls Tryz.prog 114 #[.int .i64 er] w fun e w'=>e=.returned (.int .i64 er)∧w'=w:=fun er w=>num_any er w
 have HNM:=hide hN
 obtain ⟨o0,_⟩:=cell_of (j:=0) (u:=.int .i64 15) k0 rfl
 obtain ⟨o2,_⟩:=cell_of (j:=2) (u:=.int .i64 Bv) k0 rfl
 have HW2:=hide hW2
 have HK1:=hide k1
 have HS2:=hide hs2
 clear hW2 hq hN hb2 k0 k1 hs2
 go_enter Tryz.func134,Tryz.ntmps134
 go_upto_region 1 with fail
 rw [← HW2.out]
 go_wp2_with (first
  | (go_at_call 206;refine CQ.out.mono ?_;rintro e w2 ⟨n,er,rfl,h1,h2⟩;have k2:=(h1 (W.heap.size + 1) (by omega) (by rw [HS2.out];omega)).trans HK1.out;obtain ⟨y0,f0⟩:=cell_of (j:=0) (u:=.int .i64 0) k2 rfl;obtain ⟨y1,f1⟩:=cell_of (j:=1) (u:=.int .i64 0) k2 rfl;obtain ⟨y2,f2⟩:=cell_of (j:=2) (u:=.slice none 0 0) k2 rfl;obtain ⟨y3,f3⟩:=cell_of (j:=3) (u:=.slice none 0 0) k2 rfl;have HK2:=hide k2;have H2:=hide h2;clear h1 h2 k2)
  | (go_at_call 114;refine (HNM.out _ _).mono ?_;rintro e W ⟨rfl,hW⟩;rw [hW];clear hW W))
 have hset:=set_blk (j:=3) (v:=.slice none 0 0) (set_blk (j:=2) (v:=.slice none 0 0) (set_blk (j:=1) (v:=.int .i64 er) (set_blk (j:=0) (v:=.int .i64 n) HK2.out)))
 have hld:=run_loadVar_row (P:=Tryz.prog) _ (W.heap.size + 1) 245 245 _ (0,0) _ hset Tryz.underlying245 rfl Tryz.sizeTold
 refine bodyPost_ret (v:=.agg (#[.int .i64 n, .int .i64 er, .slice none 0 0, .slice none 0 0])) ?_ rfl ⟨n,er,rfl,H2.out _ ⟨rfl,rfl,rfl,by simp,fun k hk hn=>?_⟩⟩
 ·rw [results_cellG rfl]
  simp [asAddr,Result.andThen,hld]
 ·have hk':k≠W.heap.size + 1:=fun e=>hn ⟨by omega,by rw [HS2.out];omega⟩
  rw [set_other hk',set_other hk',set_other hk',set_other hk']
set_option maxRecDepth 100000 in
set_option maxHeartbeats 2000000 in
theorem askedL {W:World} {lb:Nat} (A Bv Cv:Int) (S T:ByteArray) (n:Int) (R:Value→World→Prop)
  (hp:∀ W2,Below W.heap.size W W2→Calls Tryz.prog 24 #[ptrV lb] W2 fun e w'=>e=.returned (.int .i64 n)∧Below W2.heap.size W2 w')
  (hq:∀ W2,Below W.heap.size W W2→Calls Tryz.prog 25 #[ptrV lb] W2 fun e w'=>∃ v,e=.returned v∧isS v∧Below W2.heap.size W2 w'∧∀ w3,Tch (fun k=>W.heap.size≤k∧k < W2.heap.size) w' w3→R v w3) :
  Calls Tryz.prog 133 #[ptrV lb,oV ⟨16,A,Bv,Cv,S,T⟩] W fun e w3=>∃ v,e=.returned (.agg (toA n 0 (.slice none 0 0) v))∧isS v∧R v w3:=by
 obtain ⟨W2,hW2,hb2,k0,k1,hs2⟩:=two_more W ⟨16,A,Bv,Cv,S,T⟩
 simp only [oV] at hW2 k0 ⊢
 have CP:=hide (hp W2 hb2)
 have HQ:=hide hq
 have HB2:=hide hb2
 obtain ⟨o0,_⟩:=cell_of (j:=0) (u:=.int .i64 16) k0 rfl
 have HW2:=hide hW2
 have HK1:=hide k1
 have HS2:=hide hs2
 clear hW2 hq hp hb2 k0 k1 hs2
 go_enter Tryz.func133,Tryz.ntmps133
 go_upto_region 1 with fail
 rw [← HW2.out]
 go_wp2_with (first
  | (go_at_call 24;refine CP.out.mono ?_;rintro e wp ⟨rfl,hbp⟩;have HBP:=hide (HB2.out.trans (hbp.mono HB2.out.size));have HKP:=hide ((hbp.block _ (by rw [HS2.out];omega)).trans HK1.out);have CQ:=hide (HQ.out wp HBP.out);have HSP:=hide hbp.size;clear hbp)
  | (go_at_call 25;refine CQ.out.mono ?_;rintro e w2 ⟨v,rfl,⟨va,vn,vc,rfl⟩,h1,h2⟩;have k2:=(h1.block (W.heap.size + 1) (by have:=HSP.out;rw [HS2.out] at this;omega)).trans HKP.out;obtain ⟨y0,f0⟩:=cell_of (j:=0) (u:=.int .i64 0) k2 rfl;obtain ⟨y1,f1⟩:=cell_of (j:=1) (u:=.int .i64 0) k2 rfl;obtain ⟨y2,f2⟩:=cell_of (j:=2) (u:=.slice none 0 0) k2 rfl;obtain ⟨y3,f3⟩:=cell_of (j:=3) (u:=.slice none 0 0) k2 rfl;have HK2:=hide k2;have H2:=hide h2;clear h1 h2 k2))
 have hset:=set_blk (j:=3) (v:=.slice va vn vc) (set_blk (j:=2) (v:=.slice none 0 0) (set_blk (j:=1) (v:=.int .i64 0) (set_blk (j:=0) (v:=.int .i64 n) HK2.out)))
 have hld:=run_loadVar_row (P:=Tryz.prog) _ (W.heap.size + 1) 245 245 _ (0,0) _ hset Tryz.underlying245 rfl Tryz.sizeTold
 refine bodyPost_ret (v:=.agg (#[.int .i64 n, .int .i64 0, .slice none 0 0, .slice va vn vc])) ?_ rfl ⟨_,rfl,⟨_,_,_,rfl⟩,H2.out _ ⟨rfl,rfl,rfl,by simp,fun k hk hn=>?_⟩⟩
 ·rw [results_cellG rfl]
  simp [asAddr,Result.andThen,hld]
 ·have hk':k≠W.heap.size + 1:=fun e=>hn ⟨by omega,by have:=HSP.out;rw [HS2.out] at this;omega⟩
  rw [set_other hk',set_other hk',set_other hk',set_other hk']
set_option maxRecDepth 100000 in
set_option maxHeartbeats 2000000 in
theorem answerL {W:World} {lb:Nat} (A Bv Cv:Int) (S T:ByteArray) (n:Int) (R:Value→World→Prop)
  (hp:∀ W2,Below W.heap.size W W2→Calls Tryz.prog 207 #[ptrV lb] W2 fun e w'=>e=.returned (.int .i64 n)∧Below W2.heap.size W2 w')
  (hq:∀ W2,Below W.heap.size W W2→Calls Tryz.prog 208 #[ptrV lb] W2 fun e w'=>∃ v,e=.returned v∧isS v∧Below W2.heap.size W2 w'∧∀ w3,Tch (fun k=>W.heap.size≤k∧k < W2.heap.size) w' w3→R v w3) :
  Calls Tryz.prog 134 #[ptrV lb,oV ⟨16,A,Bv,Cv,S,T⟩] W fun e w3=>∃ v,e=.returned (.agg (toA n 0 (.slice none 0 0) v))∧isS v∧R v w3:=by
 obtain ⟨W2,hW2,hb2,k0,k1,hs2⟩:=two_more W ⟨16,A,Bv,Cv,S,T⟩
 simp only [oV] at hW2 k0 ⊢
 have CP:=hide (hp W2 hb2)
 have HQ:=hide hq
 have HB2:=hide hb2
 obtain ⟨o0,_⟩:=cell_of (j:=0) (u:=.int .i64 16) k0 rfl
 have HW2:=hide hW2
 have HK1:=hide k1
 have HS2:=hide hs2
 clear hW2 hq hp hb2 k0 k1 hs2
 go_enter Tryz.func134,Tryz.ntmps134
 go_upto_region 1 with fail
 rw [← HW2.out]
 go_wp2_with (first
  | (go_at_call 207;refine CP.out.mono ?_;rintro e wp ⟨rfl,hbp⟩;have HBP:=hide (HB2.out.trans (hbp.mono HB2.out.size));have HKP:=hide ((hbp.block _ (by rw [HS2.out];omega)).trans HK1.out);have CQ:=hide (HQ.out wp HBP.out);have HSP:=hide hbp.size;clear hbp)
  | (go_at_call 208;refine CQ.out.mono ?_;rintro e w2 ⟨v,rfl,⟨va,vn,vc,rfl⟩,h1,h2⟩;have k2:=(h1.block (W.heap.size + 1) (by have:=HSP.out;rw [HS2.out] at this;omega)).trans HKP.out;obtain ⟨y0,f0⟩:=cell_of (j:=0) (u:=.int .i64 0) k2 rfl;obtain ⟨y1,f1⟩:=cell_of (j:=1) (u:=.int .i64 0) k2 rfl;obtain ⟨y2,f2⟩:=cell_of (j:=2) (u:=.slice none 0 0) k2 rfl;obtain ⟨y3,f3⟩:=cell_of (j:=3) (u:=.slice none 0 0) k2 rfl;have HK2:=hide k2;have H2:=hide h2;clear h1 h2 k2))
 have hset:=set_blk (j:=3) (v:=.slice va vn vc) (set_blk (j:=2) (v:=.slice none 0 0) (set_blk (j:=1) (v:=.int .i64 0) (set_blk (j:=0) (v:=.int .i64 n) HK2.out)))
 have hld:=run_loadVar_row (P:=Tryz.prog) _ (W.heap.size + 1) 245 245 _ (0,0) _ hset Tryz.underlying245 rfl Tryz.sizeTold
 refine bodyPost_ret (v:=.agg (#[.int .i64 n, .int .i64 0, .slice none 0 0, .slice va vn vc])) ?_ rfl ⟨_,rfl,⟨_,_,_,rfl⟩,H2.out _ ⟨rfl,rfl,rfl,by simp,fun k hk hn=>?_⟩⟩
 ·rw [results_cellG rfl]
  simp [asAddr,Result.andThen,hld]
 ·have hk':k≠W.heap.size + 1:=fun e=>hn ⟨by omega,by have:=HSP.out;rw [HS2.out] at this;omega⟩
  rw [set_other hk',set_other hk',set_other hk',set_other hk']
end Go.Proofs.YtkncboinfcnklaaGreatDoor.Lw

namespace Go.Proofs.YtkncboinfcnklaaGreatDoor.Rl
open Go.RowKit Go.Deep Go.Shelf Go.Proofs.YtkncboinfcnklaaGreatDoor.Mth
set_option maxRecDepth 100000 in
set_option maxHeartbeats 4000000 in
theorem pendR_any {w:World} {B cb:Nat} {V:Rv} {L:Lg} (hb:w.heap[cb]? = some (Obj.cells (rfC V L) 234 (0,0))) (h:w.ownsRow B 304 3 V.wv L.wks.length (wkRs L.wks V.wl V.rd)) (hls:∀ q,q < L.wks.length→w.ownsRow B 3 1 (V.wl q) (L.wks.getD q wk0).list.length ((L.wks.getD q wk0).list.map iV)) (hw:L.wks.length≤4) (hwl:∀ q,q < L.wks.length→(L.wks.getD q wk0).list.length≤1000) :
  Calls Tryz.prog 207 #[ptrV cb] w fun e w'=>e=.returned (.int .i64 (pends L.wks:Int))∧w'=w:=by
 have c15:=(cell_of (j:=15) (u:=V.wv) hb rfl).1
 obtain ⟨aw,cw,hwv,hcw,hcm⟩:=own_slice h
 rw [hwv] at c15 h
 have HR:=hide h
 have HLS:=hide hls
 have HWL:=hide hwl
 have HP:Hid (∀ k,k < L.wks.length→pends (L.wks.take (k + 1))=pends (L.wks.take k) + pnd (L.wks.getD k wk0)):=fun k hk=>pends_snoc hk
 have HE:Hid (pends (L.wks.take L.wks.length)=pends L.wks):=by show _=_;rw [List.take_length]
 have HZ:Hid (pends (L.wks.take 0)=0):=rfl
 have HB:Hid (∀ k,k≤L.wks.length→pends (L.wks.take k)≤k * 1001):=by
  intro k
  induction k with
  | zero=>intro _;rw [HZ.out];exact Nat.zero_le _
  | succ k ih=>
   intro hk
   have:=ih (by omega)
   rw [HP.out k hk]
   have h1:pnd (L.wks.getD k wk0)≤1001:=by
    have:=HWL.out k hk
    unfold pnd
    split <;> omega
   omega
 unfold maxLen at hcm
 clear hb h hls hwl hwv
 generalize hpw:pends L.wks=pw at *
 generalize hpt:(fun k=>pends (L.wks.take k))=pt at *
 have HPT:Hid (∀ k,pends (L.wks.take k)=pt k):=fun k=>by rw [← hpt]
 simp only [HPT.out] at HP HE HZ HB
 generalize hnw:L.wks.length=nw at *
 have HNW:=hide hnw
 clear hnw hpw hpt
 go_enter Tryz.func207,Tryz.ntmps207
 go_wp2_with fail
 go_loopw [3,4] (fun n x wr=>∃ q:Nat,q≤nw∧x=.int .i64 q∧wr=w∧n=.int .i64 (pt q)) (fun _ x _=>nw - (intOf x).toNat)
 case atStart=>exact ⟨0,Nat.zero_le _,rfl,rfl,by rw [HZ.out];rfl⟩
 case round=>
  obtain ⟨q,hqn,rfl,hwr,rfl⟩:=hrel
  rw [hwr]
  have HWR:=hide hwr
  clear hwr
  have hbq:=HB.out q (by omega)
  by_cases hlt:q < nw
  ·obtain ⟨g,rfl⟩:=own_some HR.out (by omega)
   obtain ⟨r0,r1,r2⟩:=wkRs_at (ks:=L.wks) (wl:=V.wl) (rd:=V.rd) (q:=q) (by rw [HNW.out];exact hlt)
   have k0:=own_get HR.out r0
   have k1:=own_get HR.out r1
   have hl0:=HLS.out q hlt
   have hll:=HWL.out q hlt
   obtain ⟨al,cl,hvl,hcl,hcm2⟩:=own_slice hl0
   rw [hvl] at k0
   unfold maxLen at hcm2
   have hpq:=HP.out q hlt
   unfold pnd at hpq
   clear r0 r1 r2 hl0 hvl
   generalize L.wks.getD q wk0=kq at *
   generalize hnl:kq.list.length=nl at *
   have HPQ:=hide hpq
   clear hpq
   cases hr:kq.runs with
   | none=>
    rw [hr] at HPQ k1
    simp only [rnV] at k1
    have HPQ2:Hid (pt (q + 1)=pt q + nl):=by
     show _=_
     have:=HPQ.out
     simpa using this
    generalize pt q=pq at *
    clear HPQ
    go_wp2_with fail
    go_roundw
    case rel=>exact ⟨q + 1,by omega,by go_num,trivial,by rw [HPQ2.out];go_num⟩
    case measure=>simp [intOf];omega
   | some i=>
    rw [hr] at HPQ k1
    simp only [rnV] at k1
    have HPQ2:Hid (pt (q + 1)=pt q + nl + 1):=by
     show _=_
     have:=HPQ.out
     simpa [Nat.add_assoc] using this
    have hi0:¬ ((i:Int) < 0):=by omega
    generalize (i:Int)=ii at *
    generalize pt q=pq at *
    clear HPQ
    go_wp2_with fail
    go_roundw
    case rel=>exact ⟨q + 1,by omega,by go_num,trivial,by rw [HPQ2.out];go_num⟩
    case measure=>simp [intOf];omega
  ·obtain rfl:q=nw:=by omega
   have HEE:=HE.out
   generalize pt q=pq at *
   subst HEE
   go_wp2_with fail
   go_ret
   exact ⟨rfl,HWR.out.symm ▸ rfl⟩
theorem tlC_at:∀ {l:List Tl} {j:Nat},j < l.length→(l.flatMap tlC)[j * 3]? = some (.int .i64 ((l.getD j tl0).num:Int))∧(l.flatMap tlC)[j * 3 + 1]? = some (.string (l.getD j tl0).word)∧(l.flatMap tlC)[j * 3 + 2]? = some (.int .i64 ((l.getD j tl0).place:Int))
 | f :: l,0,_=>by simp [tlC]
 | f :: l,j + 1,h=>by
  obtain ⟨a,b,c⟩:=tlC_at (l:=l) (j:=j) (by simpa using h)
  rw [List.flatMap_cons]
  refine ⟨?_,?_,?_⟩
  ·rw [List.getElem?_append_right (by simp [tlC];omega)];simpa [tlC,show (j + 1) * 3 - 3=j * 3 by omega] using a
  ·rw [List.getElem?_append_right (by simp [tlC];omega)];simpa [tlC,show (j + 1) * 3 + 1 - 3=j * 3 + 1 by omega] using b
  ·rw [List.getElem?_append_right (by simp [tlC];omega)];simpa [tlC,show (j + 1) * 3 + 2 - 3=j * 3 + 2 by omega] using c
def ndT (n:Nat):List Tl→Nat
 | []=>n
 | t :: l=>ndT (if t.place < n then t.place else n) l
theorem ndT_snoc (t:Tl):∀ (l:List Tl) (n:Nat),ndT n (l ++ [t])=if t.place < ndT n l then t.place else ndT n l
 | [],n=>rfl
 | s :: l,n=>by simp only [List.cons_append,ndT];exact ndT_snoc t l _
set_option maxRecDepth 100000 in
set_option maxHeartbeats 4000000 in
theorem needR_any {w:World} {B cb:Nat} {V:Rv} {L:Lg} {all:List Ent} {ts:List Tl} (hb:w.heap[cb]? = some (Obj.cells (rfC V L) 234 (0,0))) (ha:w.ownsRow B 66 3 V.av all.length (all.flatMap eC)) (h:w.ownsRow B 341 3 V.tv ts.length (ts.flatMap tlC)) :
  Calls Tryz.prog 276 #[ptrV cb] w fun e w'=>e=.returned (.int .i64 (ndT all.length ts:Int))∧w'=w:=by
 have c7:=(cell_of (j:=7) (u:=V.av) hb rfl).1
 have c16:=(cell_of (j:=16) (u:=V.tv) hb rfl).1
 obtain ⟨aa,ca,hav,hca,hcam⟩:=own_slice ha
 obtain ⟨at_,ct,htv,hct,hctm⟩:=own_slice h
 rw [hav] at c7
 rw [htv] at c16 h
 have HR:=hide h
 have HS:Hid (∀ k,k < ts.length→ndT all.length (ts.take (k + 1))=if (ts.getD k tl0).place < ndT all.length (ts.take k) then (ts.getD k tl0).place else ndT all.length (ts.take k)):=fun k hk=>by
  rw [take_snoc hk tl0,ndT_snoc]
 have HE:Hid (ndT all.length (ts.take ts.length)=ndT all.length ts):=by show _=_;rw [List.take_length]
 have HZ:Hid (ndT all.length (ts.take 0)=all.length):=rfl
 unfold maxLen at hcam hctm
 clear hb ha h hav htv
 generalize hnd:ndT all.length ts=nd at *
 generalize hpt:(fun k=>ndT all.length (ts.take k))=pt at *
 have HPT:Hid (∀ k,ndT all.length (ts.take k)=pt k):=fun k=>by rw [← hpt]
 simp only [HPT.out] at HS HE HZ
 generalize hna:all.length=na at *
 generalize hnt:ts.length=nt at *
 have HNT:=hide hnt
 clear hnd hpt hna hnt HPT
 go_enter Tryz.func276,Tryz.ntmps276
 go_wp2_with fail
 go_loopw [3,4] (fun n x wr=>∃ q:Nat,q≤nt∧x=.int .i64 q∧wr=w∧n=.int .i64 (pt q)) (fun _ x _=>nt - (intOf x).toNat)
 case atStart=>exact ⟨0,Nat.zero_le _,rfl,rfl,by rw [HZ.out]⟩
 case round=>
  obtain ⟨q,hqn,rfl,hwr,rfl⟩:=hrel
  rw [hwr]
  have HWR:=hide hwr
  clear hwr
  by_cases hlt:q < nt
  ·obtain ⟨g,rfl⟩:=own_some HR.out (by omega)
   obtain ⟨_,_,r2⟩:=tlC_at (l:=ts) (j:=q) (by rw [HNT.out];exact hlt)
   have k2:=own_get HR.out r2
   have hsn:=HS.out q hlt
   clear r2
   generalize (ts.getD q tl0).place=pl at *
   by_cases hc:pl < pt q
   ·rw [if_pos hc] at hsn
    have HSN:=hide hsn
    have hc2:(pl:Int) < (pt q:Int):=by omega
    clear hsn hc
    generalize pt q=pq at *
    go_wp2_with fail
    go_roundw
    case rel=>exact ⟨q + 1,by omega,by go_num,trivial,by rw [HSN.out]⟩
    case measure=>simp [intOf];omega
   ·rw [if_neg hc] at hsn
    have HSN:=hide hsn
    have hc2:¬ (pl:Int) < (pt q:Int):=by omega
    clear hsn hc
    generalize pt q=pq at *
    go_wp2_with fail
    go_roundw
    case rel=>exact ⟨q + 1,by omega,by go_num,trivial,by rw [HSN.out]⟩
    case measure=>simp [intOf];omega
  ·obtain rfl:q=nt:=by omega
   have HEE:=HE.out
   generalize pt q=pq at *
   subst HEE
   go_wp2_with fail
   go_ret
   exact ⟨rfl,HWR.out.symm ▸ rfl⟩
end Go.Proofs.YtkncboinfcnklaaGreatDoor.Rl
