import Derived.Test.YtkncboinfcnklaaGreatDoorQ28
import Derived.Test.YtkncboinfcnklaaGreatDoorQ27
import Derived.Deep.MidRow
import Derived.Deep.WholeRow
set_option maxRecDepth 100000
set_option maxHeartbeats 8000000
namespace Go.Proofs.YtkncboinfcnklaaGreatDoor.Lw
open Go.RowKit Go.Deep Go.Shelf Go.Proofs.YtkncboinfcnklaaGreatDoor.Mth Go.Proofs.YtkncboinfcnklaaGreatDoor.Rl
theorem HI.punch {P:Lg→List Tl→Prop}{Z:Nat→Prop}{w:World}{B wb:Nat}{g0 g1 g2 g3 hv ke ks kr:Value}{Ne Ns Nr M:Nat}{hs:List Ho}(h:HI P Z w B wb g0 g1 g2 g3 hv ke ks kr Ne Ns Nr M hs none){i:Nat}(hi:i<hs.length):HI P Z w B wb g0 g1 g2 g3 hv ke ks kr Ne Ns Nr M hs (some i)∧HoAt P Z w M (hs.getD i h0):=
 ⟨⟨h.blk,h.ge,h.be,h.bs,h.br,h.row,h.hob,fun j hj _=>h.one j hj (by simp),h.hge,h.lt,h.dis,h.zm,h.rm,h.mb⟩,h.one i hi (by simp)⟩
theorem HI.fill {P:Lg→List Tl→Prop}{Z:Nat→Prop}{w:World}{B wb:Nat}{g0 g1 g2 g3 hv ke ks kr:Value}{Ne Ns Nr M:Nat}{hs:List Ho}{i:Nat}(h:HI P Z w B wb g0 g1 g2 g3 hv ke ks kr Ne Ns Nr M hs (some i)) (hx:HoAt P Z w M (hs.getD i h0)):HI P Z w B wb g0 g1 g2 g3 hv ke ks kr Ne Ns Nr M hs none:=
 ⟨h.blk,h.ge,h.be,h.bs,h.br,h.row,h.hob,fun j hj _=>by
  by_cases e:j=i
  ·rw[e];exact hx
  ·exact h.one j hj (fun q=>e (by injection q)),h.hge,h.lt,h.dis,h.zm,h.rm,h.mb⟩
theorem zU {hs:List Ho}{i j:Nat}{x:Ho}(hi:i<hs.length):(hs.set i x).getD j h0=if j=i then x else hs.getD j h0:=by
 by_cases e:j=i
 ·subst e;rw[if_pos rfl,List.getD_eq_getElem?_getD,List.getElem?_set_self hi];rfl
 ·rw[if_neg e,List.getD_eq_getElem?_getD,List.getElem?_set_ne (fun q=>e q.symm),←List.getD_eq_getElem?_getD]
theorem xi {hs:List Ho}{i:Nat}{x:Ho}(hi:i<hs.length) (hx:x.hb=(hs.getD i h0).hb):(hs.set i x).map Ho.hb=hs.map Ho.hb:=by
 apply List.ext_getElem?;intro j;rw[List.getElem?_map,List.getElem?_map];by_cases e:j=i
 ·subst e;rw[List.getElem?_set_self hi,List.getElem?_eq_getElem hi,List.getElem_eq_getD h0];simp[hx]
 ·rw[List.getElem?_set_ne (fun q=>e q.symm)]
theorem mq {hs:List Ho}{i:Nat}{x:Ho}(hi:i<hs.length) (hx:x.hb=(hs.getD i h0).hb):(hs.set i x).map (fun x=>zr x.hb)=hs.map (fun x=>zr x.hb):=by
 have:=congrArg (List.map zr) (xi hi hx)
 simpa [List.map_map,Function.comp_def] using this
theorem HI.step {P:Lg→List Tl→Prop}{Z:Nat→Prop}{w w1:World}{B wb:Nat}{g0 g1 g2 g3 hv ke ks kr:Value}{Ne Ns Nr M:Nat}{hs:List Ho}{i:Nat}(h:HI P Z w B wb g0 g1 g2 g3 hv ke ks kr Ne Ns Nr M hs (some i)) (hi:i<hs.length){S:Nat→Prop}(ht:Tch S w w1)
  (hS:∀g,S g→g<w.heap.size→¬Z g∧(Mu wb hv ke ks kr (hs.map Ho.hb) g→g=(hs.getD i h0).hb)∧(∀j,j<hs.length→j≠i→(hs.getD j h0).ρ g=0)∧¬wM w g) (x:Ho) (e1:x.hb=(hs.getD i h0).hb) (e2:x.B=(hs.getD i h0).B) (hb:w1.heap[x.hb]? = some (Obj.cells (kL x) 155 (0,0)))
  (hold:∀k,k<w.heap.size→(hs.getD i h0).ρ k=0→x.ρ k=0) (hlt:∀k,x.ρ k≠0→k<w1.heap.size∧x.B≤k):HI P Z w1 B wb g0 g1 g2 g3 hv ke ks kr Ne Ns Nr M (hs.set i x) (some i):=by
 have hz:∀g,Z g→w1.heap[g]? = w.heap[g]? := fun g hg=>ht.block g (h.zm g hg).1 (fun q=>(hS g q (h.zm g hg).1).1 hg)
 have hm:∀g,Mu wb hv ke ks kr (hs.map Ho.hb) g→g≠(hs.getD i h0).hb→w1.heap[g]? = w.heap[g]? := fun g hg hne=>ht.block g (h.mlt hg) (fun q=>hne ((hS g q (h.mlt hg)).2.1 hg))
 have hbm:Mu wb hv ke ks kr (hs.map Ho.hb) (hs.getD i h0).hb:=Or.inr (Or.inr (Or.inr (Or.inr (Or.inr (xQ hi)))))
 have hty:∀g C t,w.heap[g]? = some (Obj.cells C t (0,0))→t≠155→g≠(hs.getD i h0).hb:=fun g C t hg hne e=>by
  rw[e,h.hob i hi]at hg
  injection hg with hg
  injection hg with _ hg _
  exact hne hg.symm
 have hown:∀ {T:TypeId}{sz n:Nat}{v:Value}{xs:List Value},w.ownsRow B T sz v n xs→T≠155→(∀g,some g=v.ownBlock→Mu wb hv ke ks kr (hs.map Ho.hb) g)→∀g,some g=v.ownBlock→w1.heap[g]? = w.heap[g]? := fun ho hT hM g hg=>by
  obtain⟨_,_,D,hD⟩:=zw ho hg;exact hm g (hM g hg) (hty g D _ hD hT)
 have hsl:(hs.set i x).length=hs.length:=List.length_set;have em:=xi (x:=x) hi e1
 have gd:∀j,(hs.set i x).getD j h0=if j=i then x else hs.getD j h0:=fun j=>zU hi
 have hle:=ht.size;refine⟨?_,h.ge,?_,?_,?_,?_,fun j hj=>?_,fun j hj hne=>?_,fun j hj=>?_,fun j hj k hk=>?_,fun a b ha hb' hne=>?_,fun g hg=>?_,fun g hg j hj=>?_,by have:=h.mb;rw[hsl];exact this⟩
 ·exact(hm wb (Or.inl rfl) (hty wb _ _ h.blk (by decide))).trans h.blk
 ·obtain⟨q,h1,h2⟩:=h.be;exact Bok.same ⟨q,h1,h2⟩ (hown h1 (by decide) (fun g hg=>by simp[Mu,hg])) hz (fun _ q=>q)
 ·obtain⟨q,h1,h2⟩:=h.bs;exact Bok.same ⟨q,h1,h2⟩ (hown h1 (by decide) (fun g hg=>by simp[Mu,hg])) hz (fun _ q=>q)
 ·obtain⟨F,hF,q,h1,h2⟩:=h.br;exact⟨F,hF,Bok.same ⟨q,h1,h2⟩ (hown h1 (by decide) (fun g hg=>by simp[Mu,hg])) hz (fun _ q=>q)⟩
 ·rw[mq hi e1,hsl];exact zn h.row (hown h.row (by decide) (fun g hg=>by simp[Mu,hg]))
 ·rw[hsl]at hj;rw[gd j];by_cases e:j=i
  ·rw[if_pos e];exact hb
  ·rw[if_neg e];exact(hm _ (Or.inr (Or.inr (Or.inr (Or.inr (Or.inr (xQ hj)))))) (h.dis j i hj hi e).1).trans (h.hob j hj)
 ·rw[hsl]at hj
  have e:j≠i:=fun q=>hne (by rw[q])
  rw[gd j,if_neg e];refine(h.one j hj (fun q=>e (by injection q))).same (fun g q=>?_) hz hle (fun _ q=>q) (Nat.le_refl _)
  rcases q with q|q
  ·have hgl:=(h.lt j hj g q).1;exact ht.block g hgl (fun s=>q ((hS g s hgl).2.2.1 j hj e))
  ·exact ht.block g (yw q) (fun s=>(hS g s (yw q)).2.2.2 q)
 ·rw[hsl]at hj;rw[gd j];by_cases e:j=i
  ·rw[if_pos e,e1,e2];exact h.hge i hi
  ·rw[if_neg e];exact h.hge j hj
 ·rw[hsl]at hj;rw[gd j]at hk ⊢;by_cases e:j=i
  ·rw[if_pos e]at hk ⊢;exact hlt k hk
  ·rw[if_neg e]at hk ⊢;have:=h.lt j hj k hk;exact⟨Nat.lt_of_lt_of_le this.1 hle,this.2⟩
 ·rw[hsl]at ha hb';rw[gd a,gd b];by_cases ea:a=i
  ·have eb:b≠i:=fun q=>hne (by rw[ea,q])
   rw[if_pos ea,if_neg eb,e1];subst ea;refine⟨(h.dis a b ha hb' hne).1,fun k hk=>?_⟩;by_cases hk2:k<w.heap.size
   ·exact(h.dis a b ha hb' hne).2 k (fun q=>hk (hold k hk2 q))
   ·by_cases q:(hs.getD b h0).ρ k=0
    ·exact q
    ·exact absurd (h.lt b hb' k q).1 hk2
  ·by_cases eb:b=i
   ·rw[if_neg ea,if_pos eb,e1];subst eb;refine⟨(h.dis a b ha hb' hne).1,fun k hk=>?_⟩;exact hold k (h.lt a ha k hk).1 ((h.dis a b ha hb' hne).2 k hk)
   ·rw[if_neg ea,if_neg eb];exact h.dis a b ha hb' hne
 ·rw[em,hsl];obtain⟨z1,z2,z3⟩:=h.zm g hg;refine⟨Nat.lt_of_lt_of_le z1 hle,z2,fun j hj=>?_⟩;rw[gd j];by_cases e:j=i
  ·rw[if_pos e];exact hold g z1 (z3 i hi)
  ·rw[if_neg e];exact z3 j hj
 ·rw[em]at hg;rw[hsl]at hj;rw[gd j];by_cases e:j=i
  ·rw[if_pos e];exact hold g (h.mlt hg) (h.rm g hg i hi)
  ·rw[if_neg e];exact h.rm g hg j hj
theorem HI.prog {P:Lg→List Tl→Prop}{Z:Nat→Prop}{w w1:World}{B wb:Nat}{g0 g1 g2 g3 hv ke ks kr:Value}{Ne Ns Nr M:Nat}{hs:List Ho}{i:Nat}(h:HI P Z w B wb g0 g1 g2 g3 hv ke ks kr Ne Ns Nr M hs (some i)) (hi:i<hs.length){ρ':Nat→Nat}(hl:LStp w w1 (hs.getD i h0).ρ ρ') (G':Gh) (L':Lg) (N':Nat) (al:List Ent) (ts':List Tl)
  (hc:kL { (hs.getD i h0)with ρ:=ρ',G:=G',L:=L',N:=N',all:=al,ts:=ts' }=kL (hs.getD i h0)) (hlt:∀k,ρ' k≠0→k<w1.heap.size∧(hs.getD i h0).B≤k) :
  HI P Z w1 B wb g0 g1 g2 g3 hv ke ks kr Ne Ns Nr M (hs.set i { (hs.getD i h0)with ρ:=ρ',G:=G',L:=L',N:=N',all:=al,ts:=ts' }) (some i)∧(∀g,Z g→w1.heap[g]? = w.heap[g]?):=by
 have hbm:Mu wb hv ke ks kr (hs.map Ho.hb) (hs.getD i h0).hb:=Or.inr (Or.inr (Or.inr (Or.inr (Or.inr (xQ hi)))));refine⟨h.step hi hl.tch (fun g hS hg=>⟨fun hz=>hS.1 ((h.zm g hz).2.2 i hi),fun hm=>absurd (h.rm g hm i hi) hS.1,fun j hj hne=>(h.dis i j hi hj (fun q=>hne q.symm)).2 g hS.1,hS.2⟩) _ rfl rfl ?_ hl.old hlt,fun g hz=>hl.tch.block g (h.zm g hz).1 (fun q=>q.1 ((h.zm g hz).2.2 i hi))⟩;rw[hc];exact(hl.tch.block _ (h.mlt hbm) (fun q=>q.1 (h.rm _ hbm i hi))).trans (h.hob i hi)
theorem HI.setMay {P:Lg→List Tl→Prop}{Z:Nat→Prop}{w:World}{B wb:Nat}{g0 g1 g2 g3 hv ke ks kr:Value}{Ne Ns Nr M:Nat}{hs:List Ho}{i:Nat}(h:HI P Z w B wb g0 g1 g2 g3 hv ke ks kr Ne Ns Nr M hs (some i)) (hi:i<hs.length) (mv:Value) (V':Rv) :
  HI P Z (w.setCell ⟨(hs.getD i h0).hb,9,none⟩ mv) B wb g0 g1 g2 g3 hv ke ks kr Ne Ns Nr M (hs.set i { (hs.getD i h0)with mv:=mv,V:=V' }) (some i):=by
 have hbm:Mu wb hv ke ks kr (hs.map Ho.hb) (hs.getD i h0).hb:=Or.inr (Or.inr (Or.inr (Or.inr (Or.inr (xQ hi)))));have htc:Tch (fun g=>g=(hs.getD i h0).hb) w (w.setCell ⟨(hs.getD i h0).hb,9,none⟩ mv):=⟨rfl,rfl,rfl,by simp,fun k _ hn=>zt hn⟩;refine h.step hi htc (fun g hS hg=>?_) _ rfl rfl ?_ (fun _ _ q=>q) (fun k hk=>⟨by simpa using (h.lt i hi k hk).1,(h.lt i hi k hk).2⟩)
 ·subst hS;exact⟨fun hz=>(h.zm _ hz).2.1 hbm,fun _=>rfl,fun j hj _=>h.rm _ hbm j hj,h.mn hbm⟩
 ·exact zh (h.hob i hi)
end Go.Proofs.YtkncboinfcnklaaGreatDoor.Lw
namespace Go.Proofs.YtkncboinfcnklaaGreatDoor
open Go.RowKit Go.Deep Go.Proofs.YtkncboinfcnklaaGreatDoor.Mth
theorem sK (c n:Int) (h0:-9223372036854775808≤c) (h1:c<9223372036854775808) (hn:0<n) (hn1:n≤4611686018427387904) :
  ∃r:Int,0≤r∧r<n∧∀w,Calls Tryz.prog 15 #[.int .i64 c, .int .i64 n] w fun e w'=>e=.returned (.int .i64 r)∧w'=w:=by
 have hz:(n == 0)=false:=by simp;omega
 by_cases hc:c<0
 ·have hm:0≤(-(c+1)).tmod n∧(-(c+1)).tmod n<n:=⟨Int.tmod_nonneg _ (by omega),Int.tmod_lt_of_pos _ hn⟩;rw[Int.neg_tmod]at hm;refine⟨_,hm.1,hm.2,fun w=>?_⟩;clear hm
  go_enter Tryz.func15,Tryz.ntmps15
  go_wp2;go_ret;exact⟨rfl,rfl⟩
 ·refine⟨_,Int.emod_nonneg c (show n≠0 by omega),Int.emod_lt_of_pos _ hn,fun w=>?_⟩
  go_enter Tryz.func15,Tryz.ntmps15
  go_wp2;go_ret;exact⟨rfl,rfl⟩
structure Opr where
 k:Int
 A:Int
 B:Int
 C:Int
 S:ByteArray
 T:ByteArray
def o0:Opr:=⟨0,0,0,0,⟨#[]⟩,⟨#[]⟩⟩
def oV (o:Opr):Value:=.agg #[.int .i64 o.k, .int .i64 o.A, .int .i64 o.B, .int .i64 o.C, .string o.S, .string o.T]
def OkO (o:Opr):Prop:=-9223372036854775808≤o.A∧o.A<9223372036854775808∧o.S.size≤1048576
def RdO (w:World) (v:Value) (l:List Opr):Prop:=
 ∃(a:Option Addr) (c:Nat),v=.slice a l.length c∧l.length≤c∧c≤maxLen∧(l=[]∨∃b o,a=some ⟨b,o,none⟩∧∀j,j<l.length→w.cell? ⟨b,o+j*6,none⟩=some (.int .i64 (l.getD j o0).k)∧w.cell? ⟨b,o+j*6+1,none⟩=some (.int .i64 (l.getD j o0).A)∧w.cell? ⟨b,o+j*6+2,none⟩=some (.int .i64 (l.getD j o0).B)∧w.cell? ⟨b,o+j*6+3,none⟩=some (.int .i64 (l.getD j o0).C)∧w.cell? ⟨b,o+j*6+4,none⟩=some (.string (l.getD j o0).S)∧w.cell? ⟨b,o+j*6+5,none⟩=some (.string (l.getD j o0).T))
theorem RdO.below {w w':World}{v:Value}{l:List Opr}(h:RdO w v l) (hb:Below w.heap.size w w'):RdO w' v l:=by
 obtain⟨a,c,rfl,hc,hm,h⟩:=h;refine⟨a,c,rfl,hc,hm,?_⟩
 rcases h with h|⟨b,o,rfl,h⟩
 ·exact Or.inl h
 ·refine Or.inr ⟨b,o,rfl,fun j hj=>?_⟩;obtain⟨h0,h1,h2,h3,h4,h5⟩:=h j hj;have hlt:b<w.heap.size:=World.block_lt_of_cell? _ _ h0;exact⟨(hb.cell (p:=⟨b,_,none⟩) hlt).trans h0,(hb.cell (p:=⟨b,_,none⟩) hlt).trans h1,(hb.cell (p:=⟨b,_,none⟩) hlt).trans h2,(hb.cell (p:=⟨b,_,none⟩) hlt).trans h3,(hb.cell (p:=⟨b,_,none⟩) hlt).trans h4,(hb.cell (p:=⟨b,_,none⟩) hlt).trans h5⟩
theorem jz {w:World}{v:Value}{l:List Opr}(h:RdO w v l):∃a c,v=.slice a l.length c∧l.length≤c∧c≤maxLen:=by
 obtain⟨a,c,rfl,hc,hm,_⟩:=h;exact⟨a,c,rfl,hc,hm⟩
theorem gL {w:World}{a:Option Addr}{n c:Nat}{l:List Opr}(h:RdO w (.slice a n c) l) (j:Nat) (hj:j<l.length):∃b o,a=some ⟨b,o,none⟩∧b<w.heap.size∧w.cell? ⟨b,o+j*6,none⟩=some (.int .i64 (l.getD j o0).k)∧w.cell? ⟨b,o+j*6+1,none⟩=some (.int .i64 (l.getD j o0).A)∧w.cell? ⟨b,o+j*6+2,none⟩=some (.int .i64 (l.getD j o0).B)∧w.cell? ⟨b,o+j*6+3,none⟩=some (.int .i64 (l.getD j o0).C)∧w.cell? ⟨b,o+j*6+4,none⟩=some (.string (l.getD j o0).S)∧w.cell? ⟨b,o+j*6+5,none⟩=some (.string (l.getD j o0).T):=by
 obtain⟨a',c',e,_,_,h⟩:=h
 injection e with e1 e2 e3
 rcases h with h|⟨b,o,e4,h⟩
 ·subst h;simp at hj
 ·exact⟨b,o,e1.trans e4,World.block_lt_of_cell? _ _ (h j hj).1,h j hj⟩
end Go.Proofs.YtkncboinfcnklaaGreatDoor
namespace Go.Proofs.YtkncboinfcnklaaGreatDoor.Lw
open Go.RowKit Go.Deep Go.Shelf Go.Proofs.YtkncboinfcnklaaGreatDoor.Mth Go.Proofs.YtkncboinfcnklaaGreatDoor.Rl
theorem Tryz.infoLogR:(Tryz.prog.info? 234).map (fun i=>(i.zero,i.size,i.bytes))=some (some (.agg zrC),20,336):=by kernel_rfl
theorem RfV.zz2 {Z Z':Nat→Prop}{B:Nat}{w:World}{V:Rv}{L:Lg}{all:List Ent}{ts:List Tl}(h:RfV Z B w V L all ts) (hZ:∀g,B≤g→g<w.heap.size→Z' g):RfZ Z' V L.wks.length:=
 ⟨fun g q=>hZ g (zw h.all q).1 (zw h.all q).2.1,fun g q=>hZ g (zw h.mem q).1 (zw h.mem q).2.1,fun i hi g q=>hZ g (zw (h.lev i hi) q).1 (zw (h.lev i hi) q).2.1,fun g q=>hZ g (zw h.wks q).1 (zw h.wks q).2.1,fun i hi g q=>hZ g (zw (h.lst i hi) q).1 (zw (h.lst i hi) q).2.1,fun g q=>hZ g (zw h.tls q).1 (zw h.tls q).2.1⟩
structure RfT (Z:Nat→Prop) (w2 w10:World) (L':Lg) (al:List Ent) (ts:List Tl) (mv:Value) (V2:Rv):Prop where
 bel:Below w2.heap.size w2 w10
 own:w10.ownsRow w2.heap.size 234 20 mv 1 (zR V2 L').toList
 ref:RfV (fun g=>Z g∨w2.heap.size≤g) w2.heap.size w10 V2 L' al ts
theorem uR {P:Lg→List Tl→Prop}{Z:Nat→Prop}{w2 w10:World}{B wb:Nat}{g0 g1 g2 g3 hv ke ks kr:Value}{Ne Ns Nr M:Nat}{hs:List Ho}{i:Nat}(h:HI P Z w2 B wb g0 g1 g2 g3 hv ke ks kr Ne Ns Nr M hs (some i)) (hi:i<hs.length){mv:Value}{V2:Rv}(hr:RfT Z w2 w10 (hs.getD i h0).L (hs.getD i h0).all (hs.getD i h0).ts mv V2)
  (hl:LogAt w2 (hs.getD i h0).ρ (hs.getD i h0).B (hs.getD i h0).N (hs.getD i h0).lb (hs.getD i h0).G (hs.getD i h0).L) (hI:Inv (hs.getD i h0).L (hs.getD i h0).all) (h1:(hs.getD i h0).G.left=-1) (h2:(hs.getD i h0).G.db=(hs.getD i h0).d) (h3:(hs.getD i h0).G.dt.size≤64*(M+1)∧(hs.getD i h0).all.length≤M+1∧(hs.getD i h0).N+(hs.getD i h0).L.subs≤2*(M+1)) (hP:P (hs.getD i h0).L (hs.getD i h0).ts) :
  HI P (fun g=>Z g∨(w2.heap.size≤g∧g<w10.heap.size)) (w10.setCell ⟨(hs.getD i h0).hb,9,none⟩ mv) B wb g0 g1 g2 g3 hv ke ks kr Ne Ns Nr (M+1) (hs.set i { (hs.getD i h0)with mv:=mv,V:=V2 }) none:=by
 have hb10:=h.below hr.bel
 have hY:∀g,(w2.heap.size≤g∧g<w10.heap.size)→g<w10.heap.size∧¬Mu wb hv ke ks kr (hs.map Ho.hb) g∧∀j,j<hs.length→(hs.getD j h0).ρ g=0:=fun g hg=>⟨hg.2,fun hm=>by have:=h.mlt hm;omega,fun j hj=>by
  by_cases q:(hs.getD j h0).ρ g=0
  ·exact q
  ·have:=(h.lt j hj g q).1;omega⟩
 have hmo:=hb10.more (M':=M+1) (by omega) hY;have hse:=hmo.setMay hi mv V2;refine hse.fill ?_;rw[zU hi,if_pos rfl];have hbm:Mu wb hv ke ks kr (hs.map Ho.hb) (hs.getD i h0).hb:=Or.inr (Or.inr (Or.inr (Or.inr (Or.inr (xQ hi)))));have hsz:=hr.bel.size;have hbl:=h.mlt hbm
 have hset:∀g,g≠(hs.getD i h0).hb→(w10.setCell ⟨(hs.getD i h0).hb,9,none⟩ mv).heap[g]? = w10.heap[g]? := fun g hg=>zt hg
 have kz:∀g,w2.heap.size≤g→g≠(hs.getD i h0).hb:=fun g hg e=>by omega
 have hZs:∀g,(Z g∨w2.heap.size≤g)→(w10.setCell ⟨(hs.getD i h0).hb,9,none⟩ mv).heap[g]? = w10.heap[g]? := fun g hg=>hset g (fun e=>by
  rcases hg with hg|hg
  ·exact(h.zm g hg).2.1 (by rw[e];exact hbm)
  ·omega)
 have hrz:RfZ (fun g=>Z g∨w2.heap.size≤g) V2 (hs.getD i h0).L.wks.length:=hr.ref.zz (fun g hg _=>Or.inr hg);have hzz:RfZ (fun g=>Z g∨(w2.heap.size≤g∧g<w10.heap.size)) V2 (hs.getD i h0).L.wks.length:=RfV.zz2 hr.ref (fun g hg hg2=>Or.inr ⟨hg,hg2⟩);have href:=(hr.ref.same hrz hZs).base (Nat.zero_le _);have hl10:=hl.below hr.bel;refine⟨hl10.same (fun g q=>hset g (fun e=>?_)) (by simp),hI,h1,h2,h3,zW (zn hr.own (fun g hg=>hset g (kz g (zw hr.own hg).1))) (Nat.zero_le _),fun g hg=>Or.inr ⟨(zw hr.own hg).1,(zw hr.own hg).2.1⟩,⟨href.all,href.mem,href.lev,href.seg,fun a ha b hb' g hg=>?_,href.wks,href.lst,href.run,href.tls⟩,hzz,hP⟩
 ·subst e
  rcases q with q|q
  ·exact q (h.rm _ hbm i hi)
  ·exact hb10.mn hbm q
 ·rcases hr.ref.sz a ha b hb' g hg with q|q
  ·exact Or.inl q
  ·exact Or.inr ⟨q,(zw (hr.ref.seg a ha b hb') hg).2.1⟩
theorem ja:∀(l:List Value) (k:Nat) (cs:Array Value),k+l.length≤cs.size→∀j,((l.zipIdx k).foldl (fun cs x=>cs.setIfInBounds x.2 x.1) cs)[j]? = if k≤j∧j<k+l.length then l[j-k]? else cs[j]?
 | [],k,cs,_,j=>by simp;omega
 | a::l,k,cs,h,j=>by
  rw[List.zipIdx_cons,List.foldl_cons,ja l (k+1) _ (by simp at h ⊢;omega) j];simp only[List.length_cons]at h ⊢;by_cases h1:k+1≤j∧j<k+1+l.length
  ·rw[if_pos h1,if_pos (by omega),show j-k=(j-(k+1))+1 by omega,List.getElem?_cons_succ]
  ·rw[if_neg h1,Array.getElem?_setIfInBounds];by_cases h2:k=j
   ·subst h2;rw[if_pos rfl,if_pos (by omega),if_pos (by omega)];simp
   ·rw[if_neg h2,if_neg (by omega)]
theorem uO {z c:Array Value}(h:z.size=c.size):Array.foldl (fun cs x=>cs.setIfInBounds x.2 x.1) z c.zipIdx 0 c.size=c:=by
 have h1:Array.foldl (fun(cs:Array Value) (x:Value × Nat)=>cs.setIfInBounds x.2 x.1) z c.zipIdx 0 c.size=(c.toList.zipIdx 0).foldl (fun cs x=>cs.setIfInBounds x.2 x.1) z:=by
  rw[←Array.toList_zipIdx,Array.foldl_toList];simp
 rw[h1];apply Array.ext_getElem?;intro j;rw[ja c.toList 0 z (by simp;omega) j];split
 ·simp
 ·rename_i hn
  simp at hn;rw[Array.getElem?_eq_none (by omega),Array.getElem?_eq_none (by omega)]
theorem pQ {c:Array Value}(h:c.all (·.oneCell')=true):∀u∈c.toList,u.oneCell'=true:=fun u hu=>Array.all_eq_true_iff_forall_mem.1 h u (by simpa using hu)
theorem oL {C:Array Value}{j:Nat}{v:Value}(h:C[j]? = some v):C.setIfInBounds j v=C:=by
 apply Array.ext_getElem?;intro k;rw[Array.getElem?_setIfInBounds];by_cases e:j=k
 ·subst e;rw[if_pos rfl];split
  ·exact h.symm
  ·rename_i hn
   rw[Array.getElem?_eq_none (by omega)]
 ·rw[if_neg e]
structure LyC (w2 w3:World) (cs:Array Value) (S:ByteArray) (n er:Int) (FP:Value→World→Prop):Prop where
 sz:cs.size=20
 one:cs.all (·.oneCell')=true
 dn:cs[18]? = some (.bool false)
 bel:Below w2.heap.size w2 w3
 af:∀W,Below w3.heap.size w3 W→W.heap[w3.heap.size]? = some (Obj.cells cs 234 (0,0))→Calls Tryz.prog 128 #[zr w3.heap.size, .string S] W fun e W'=>∃ck a l c,e=.returned (.agg #[.int .i64 ck, .slice a l c])∧Below W.heap.size W W'
 ap:∀W,Below w3.heap.size w3 W→W.heap[w3.heap.size]? = some (Obj.cells cs 234 (0,0))→Calls Tryz.prog 129 #[zr w3.heap.size, .string S] W fun e W'=>e=.returned (.tuple #[.int .i64 n, .int .i64 er])∧∃c9:Array Value,c9.size=20∧c9.all (·.oneCell')=true∧W'.heap[w3.heap.size]? = some (Obj.cells c9 234 (0,0))∧Below w2.heap.size w2 W'∧∀W10 mv,Below w2.heap.size w2 W10→Below W'.heap.size W' W10→W10.ownsRow w2.heap.size 234 20 mv 1 c9.toList→FP mv W10
structure LyQ (w2:World) (hb ob d mb mc:Nat) (S:ByteArray) (C:Array Value) (n er:Int) (FP:Value→World→Prop):Prop where
 c1:w2.cell? ⟨hb,1,none⟩=some (zr d)
 c9:w2.cell? ⟨hb,9,none⟩=some (.slice (some ⟨mb,0,none⟩) 1 mc)∧w2.frozen? ⟨hb,9,none⟩=false
 o0:w2.cell? ⟨ob,0,none⟩=some (.int .i64 12)
 o4:w2.cell? ⟨ob,4,none⟩=some (.string S)
 st:Calls Tryz.prog 41 #[zr d] w2 fun e w'=>e=.returned (.bool false)∧w'=w2
 rg:w2.rangeAt mb 0 C.toList
 sz:C.size=20
 mc:1≤mc∧mc≤maxLen
 cp:Calls Tryz.prog 127 #[.agg C] w2 fun e w3=>∃cs,e=.returned (.agg cs)∧LyC w2 w3 cs S n er FP
theorem iT {w W0:World}{wb hb ob lb d:Nat}(A B' C':Int) (S T:ByteArray) (n er:Int) (FP:Value→World→World→Prop) (hW0:W0=w.alloc (Obj.cells #[.int .i64 12, .int .i64 A, .int .i64 B', .int .i64 C', .string S, .string T] 94)) (hob:ob=w.heap.size)
  (d0:W0.cell? ⟨hb,0,none⟩=some (zr lb)) (d1:W0.cell? ⟨hb,1,none⟩=some (zr d)) (o0:W0.cell? ⟨ob,0,none⟩=some (.int .i64 12)) (o4:W0.cell? ⟨ob,4,none⟩=some (.string S))
  (cs:Calls Tryz.prog 41 #[zr d] W0 fun e w'=>e=.returned (.bool false)∧w'=W0)
  (cp:Calls Tryz.prog 26 #[zr lb, .string S] W0.drew fun e w2=>e=.returned (.tuple #[.int .i64 n, .int .i64 er])∧∃mb mc C,LyQ w2 hb ob d mb mc S C n er (fun mv W=>FP mv w2 W)) :
  Calls Tryz.prog 68 #[zr wb,zr hb,oV ⟨12,A,B',C',S,T⟩] w fun e w'=>e=.returned (.bool true)∧∃mv w2 W10,FP mv w2 W10∧w'=W10.setCell ⟨hb,9,none⟩ mv:=by
 have CS:=zx cs;have CP:=zx cp;have HW:=zx hW0;have HOB:=zx hob;clear cs cp hW0 hob;simp only[oV]
 go_enter Tryz.func68,Tryz.ntmps68
 go_upto_region 1 with fail
 rw[←HW.out,←HOB.out]
 go_upto_region 5 with(first|(go_at_call 41;refine CS.out.mono ?_;rintro e W ⟨rfl,hW⟩;rw[hW];clear hW W))
 go_cut [10,11] from 29 (fun a b wq=>a=.int .i64 n∧b=.int .i64 er∧∃mb mc C,LyQ wq hb ob d mb mc S C n er (fun mv W=>FP mv wq W))
 case first=>
  go_region_law (first|(rw[if_pos (by simp[Region.wanted])];go_simp;go_at_call 26;refine CP.out.mono ?_;rintro e w2 ⟨rfl,hq⟩;have HQ:=zx hq;clear hq))
  all_goals (go_wp2_with fail;go_meet;exact⟨rfl,rfl,HQ.out⟩)
 case rest=>
  obtain⟨rfl,rfl,mb,mc,C,hq⟩:=hcut;have q1:=hq.c1;obtain⟨q9,f9⟩:=hq.c9;have p0:=hq.o0;have p4:=hq.o4;obtain⟨hm1,hm2⟩:=hq.mc;unfold maxLen at hm2;have ST:=zx hq.st;have HQ:=zx hq
  have hN:∀w,Calls Tryz.prog 114 #[.int .i64 er] w fun e w'=>e=.returned (.int .i64 er)∧w'=w:=fun w=>yO er w
  have HNM:=zx hN;clear hq hN d0 d1 o0 o4 CS CP
  go_wp2_with (first
   | (go_at_call 114;refine(HNM.out _).mono ?_;rintro e W ⟨rfl,hW⟩;rw[hW];clear hW W)
   | (go_at_call 41;refine ST.out.mono ?_;rintro e W ⟨rfl,hW⟩;rw[hW];clear hW W))
  go_loopw [14,15] (fun v j wr=>(j=.int .i64 0∧v=.slice none 0 0∧wr=wc)∨(j=.int .i64 1∧FP v wc wr∧Below wc.heap.size wc wr∧∃a c,v=.slice a 1 c)) (fun _ j _=>1-(intOf j).toNat)
  case atStart=>exact Or.inl ⟨rfl,rfl,rfl⟩
  case round=>
   rcases hrel with⟨rfl,rfl,hwr⟩|⟨rfl,hfp,hbl,va,vc,rfl⟩
   ·rw[hwr];clear hwr
    have hszC:(Tryz.prog.info? 234).map (·.size)=some C.toList.length:=by rw[Array.length_toList,HQ.out.sz];exact Tryz.sizeLog
    have HRG:=zx HQ.out.rg;have HCP:=zx HQ.out.cp
    go_upto_region 15 with fail
    go_upto_region 16 with(first
     | (refine wpList_load_mid rfl 234 (.tmp 70) rfl mb 0 rfl C.toList _ HRG.out Tryz.underlying234 rfl hszC ?_;rw[Array.toArray_toList])
     | (go_at_call 127;refine HCP.out.mono ?_;rintro e w3 ⟨cs,rfl,hc3⟩;have HC3:=zx hc3;have hsz3:(Tryz.prog.info? 234).map (·.size)=some cs.size:=(by rw[hc3.sz];exact Tryz.sizeLog);have hz3:zrC.size=cs.size:=(by rw[hc3.sz];rfl);have h13:=hc3.one;have hlz3:(w3.alloc (Obj.cells zrC 234)).heap[w3.heap.size]? = some (Obj.cells zrC 234 (0,0)):=heap_alloc_last _ _;clear hc3)
     | (refine wpList_store_row rfl 234 (.tmp 16) (.tmp 72) rfl w3.heap.size cs rfl rfl 234 zrC hlz3 hsz3 hz3 h13 ?_))
    have hsr:=World.setRow_alloc_new w3 zrC cs 234;unfold zrC at hsr;rw[hsr];clear hsr hlz3;have b4:=zv w3 (Obj.cells cs 234);have e4:=zj w3 cs 234
    have s4:(w3.alloc (Obj.cells cs 234)).heap.size=w3.heap.size+1:=by simp
    generalize w3.alloc (Obj.cells cs 234)=W4 at *;obtain⟨m18,n18⟩:=zy e4 HC3.out.dn;have hb3:=HC3.out.bel;have hcs:cs.setIfInBounds 18 (.bool false)=cs:=oL HC3.out.dn;have e5:=zh (j:=18) (v:=.bool false) e4;rw[hcs]at e5;have b5:Below w3.heap.size w3 (W4.setCell ⟨w3.heap.size,18,none⟩ (.bool false)):=zZ b4 (Nat.le_refl _)
    have s5:(W4.setCell ⟨w3.heap.size,18,none⟩ (.bool false)).heap.size=w3.heap.size+1:=by simpa using s4
    clear hcs e4 b4
    go_upto_region 19 with fail
    generalize W4.setCell ⟨w3.heap.size,18,none⟩ (.bool false)=W5 at *;have b6:=zv W5 (Obj.cells #[.int .i64 0, .slice none 0 0] 228);have k6:=zj W5 #[.int .i64 0, .slice none 0 0] 228;rw[s5]at k6
    go_upto_region 20 with fail
    generalize W5.alloc (Obj.cells #[.int .i64 0, .slice none 0 0] 228)=W6 at *;have b36:Below w3.heap.size w3 W6:=b5.trans (b6.mono b5.size);have e6:=(b6.block w3.heap.size (by omega)).trans e5;have s6:=b6.size;have bc6:Below wc.heap.size wc W6:=hb3.trans (b36.mono hb3.size);have HAF:=zx (HC3.out.af W6 b36 e6)
    have FK:Hid (∀W7,Below W6.heap.size W6 W7→W7.heap[w3.heap.size]? = some (Obj.cells cs 234 (0,0))∧W7.heap[w3.heap.size+1]? = some (Obj.cells #[.int .i64 0, .slice none 0 0] 228 (0,0))∧Below w3.heap.size w3 W7):=fun W7 hb7=>by
     have hz:=(Mth.gI k6);exact⟨(hb7.block _ (by omega)).trans e6,(hb7.block _ hz).trans k6,b36.trans (hb7.mono b36.size)⟩
    have FO:Hid (∀W,Below w3.heap.size w3 W→W.cell? ⟨ob,0,none⟩=some (.int .i64 12)∧W.cell? ⟨ob,4,none⟩=some (.string S)):=fun W hW=>by
     have hbw:Below wc.heap.size wc W:=hb3.trans (hW.mono hb3.size);exact⟨(hbw.cell (p:=⟨ob,0,none⟩) (World.block_lt_of_cell? _ _ p0)).trans p0,(hbw.cell (p:=⟨ob,4,none⟩) (World.block_lt_of_cell? _ _ p4)).trans p4⟩
    obtain⟨u0,u4⟩:=FO.out W6 b36
    have FA:Hid (∀W7 ck a l c,Below W6.heap.size W6 W7→∀W8,W8=(W7.setCell ⟨w3.heap.size+1,0,none⟩ (.int .i64 ck)).setCell ⟨w3.heap.size+1,1,none⟩ (.slice a l c)→(W8.cell? ⟨ob,4,none⟩=some (.string S))∧Calls Tryz.prog 129 #[zr w3.heap.size, .string S] W8 fun e W'=>e=.returned (.tuple #[.int .i64 n, .int .i64 er])∧∃c9:Array Value,c9.size=20∧c9.all (·.oneCell')=true∧W'.heap[w3.heap.size]? = some (Obj.cells c9 234 (0,0))∧Below wc.heap.size wc W'∧∀W10 mv,Below wc.heap.size wc W10→Below W'.heap.size W' W10→W10.ownsRow wc.heap.size 234 20 mv 1 c9.toList→FP mv wc W10):=fun W7 ck a l c hb7 W8 hW8=>by
     obtain⟨x1,x2,x3⟩:=FK.out W7 hb7;subst hW8;have y3:Below w3.heap.size w3 ((W7.setCell ⟨w3.heap.size+1,0,none⟩ (.int .i64 ck)).setCell ⟨w3.heap.size+1,1,none⟩ (.slice a l c)):=zZ (zZ x3 (by omega)) (by omega);refine⟨(FO.out _ y3).2,HC3.out.ap _ y3 ?_⟩;rw[zt (by omega),zt (by omega)];exact x1
    have HB3:=zx hb3;clear e5 e6 b5 b6 k6 s4 s5 b36 m18 n18 bc6 hb3 HQ
    go_upto_region 22 with(first
     | (go_at_call 128;refine HAF.out.mono ?_;rintro e W7 ⟨ck,a7,l7,c7,rfl,hb7⟩;obtain⟨_,x2,_⟩:=FK.out W7 hb7;obtain⟨y0,y1⟩:=zy (j:=0) (u:=.int .i64 0) x2 rfl;obtain⟨y2,y3⟩:=zy (j:=1) (u:=.slice none 0 0) x2 rfl;have HFA:=zx (FA.out W7 ck a7 l7 c7 hb7);clear x2 hb7))
    obtain⟨W8,hW8⟩:∃W8,W8=(W7.setCell ⟨w3.heap.size+1,0,none⟩ (.int .i64 ck)).setCell ⟨w3.heap.size+1,1,none⟩ (.slice a7 l7 c7):=⟨_,rfl⟩;obtain⟨v4,hap⟩:=HFA.out W8 hW8;rw[←hW8];have HAP:=zx hap;clear hap hW8 HFA FA HAF y0 y1 y2 y3 u0 u4
    go_upto_region 26 with(first
     | (go_at_call 129;refine HAP.out.mono ?_;rintro e W9 ⟨rfl,c9,z9,w9,e9,b9,hfp⟩;have HE9:=zx e9;have HB9:=zx b9;have HFP:=zx hfp;have hs9:(Tryz.prog.info? 234).map (·.size)=some c9.size:=(by rw[z9];exact Tryz.sizeLog);have HZ9:=zx z9;have HW9:=zx w9;clear e9 b9 hfp z9 w9))
    have hfold:=uO (z:=zrC) (c:=c9) (by rw[HZ9.out];rfl);unfold zrC at hfold;have hz9:=HZ9.out;rw[hz9]at hfold;obtain⟨bz,hbz⟩:∃bz,(er == 0)=bz:=⟨_,rfl⟩;have hwc:wc.heap.size≤W9.heap.size:=HB9.out.size;obtain⟨l0,hl0,hl1,hl2,hl3⟩:=info_parts Tryz.infoLogR;clear HAP v4 FK FO HC3
    go_wp2_with (first
     | (refine wpList_load_row rfl 234 (.tmp 16) rfl w3.heap.size rfl 234 c9 (0,0) _ HE9.out Tryz.underlying234 rfl hs9 ?_)
     | (at_builtin;refine zb _ rfl (.tmp 105) (.tmp 107) 153 rfl wc.heap.size 0 234 l0 (.agg zrC) 20 336 Tryz.underlying153 hl0 hl1 hl2 hl3 rfl (by decide) _ _ _ rfl (World.ownsRow_nil _ _ _ _) _ _ _ rfl (World.ownsRow_lit W9 c9 1 (Nat.zero_le _) (by decide) (by rw[HZ9.out])) (pQ HW9.out) (by unfold maxLen;omega) (by omega) (by simp;omega) ?_;intro v10 W10 o10 g10 n10;have o11:W10.ownsRow wc.heap.size 234 20 v10 1 c9.toList:=(by simpa using o10);have b10:Below W9.heap.size W9 W10:=(zv W9 _).trans ((zI g10).mono (by simp));have HBT:=zx (HB9.out.trans (b10.mono HB9.out.size));have HFP2:=zx (HFP.out W10 v10 HBT.out b10 o11);obtain⟨a10,c10,rfl,_,_⟩:=zu o11;clear o10 o11 g10 n10 b10))
    all_goals (
     go_roundw
     case rel=>exact Or.inr ⟨by go_num,HFP2.out,HBT.out,_,_,rfl⟩
     case measure=>simp[intOf])
   ·have hfp2:=zx hfp;have x9:=(hbl.cell (p:=⟨hb,9,none⟩) (World.block_lt_of_cell? _ _ q9)).trans q9
    have y9:wr.frozen? ⟨hb,9,none⟩=false:=by rw[World.frozen?_of_block (w':=wr) (w:=wc) (hbl.block hb (World.block_lt_of_cell? _ _ q9))];exact f9
    clear hfp hbl q9 f9 HQ;go_wp2_with fail;go_ret;exact⟨rfl,_,wc,wr,hfp2.out,rfl⟩
structure LtC (w2 w3:World) (cs:Array Value) (bb er:Int) (FP:Value→World→Prop):Prop where
 sz:cs.size=20
 one:cs.all (·.oneCell')=true
 dn:cs[18]? = some (.bool false)
 bel:Below w2.heap.size w2 w3
 af:∀W,Below w3.heap.size w3 W→W.heap[w3.heap.size]? = some (Obj.cells cs 234 (0,0))→Calls Tryz.prog 130 #[zr w3.heap.size, .int .i64 bb] W fun e W'=>∃ck a l c,e=.returned (.agg #[.int .i64 ck, .slice a l c])∧Below W.heap.size W W'
 ap:∀W,Below w3.heap.size w3 W→W.heap[w3.heap.size]? = some (Obj.cells cs 234 (0,0))→Calls Tryz.prog 131 #[zr w3.heap.size, .int .i64 bb] W fun e W'=>e=.returned (.int .i64 er)∧∃c9:Array Value,c9.size=20∧c9.all (·.oneCell')=true∧W'.heap[w3.heap.size]? = some (Obj.cells c9 234 (0,0))∧Below w2.heap.size w2 W'∧∀W10 mv,Below w2.heap.size w2 W10→Below W'.heap.size W' W10→W10.ownsRow w2.heap.size 234 20 mv 1 c9.toList→FP mv W10
structure LtQ (w2:World) (hb ob d mb mc:Nat) (bb:Int) (C:Array Value) (er:Int) (FP:Value→World→Prop):Prop where
 c1:w2.cell? ⟨hb,1,none⟩=some (zr d)
 c9:w2.cell? ⟨hb,9,none⟩=some (.slice (some ⟨mb,0,none⟩) 1 mc)∧w2.frozen? ⟨hb,9,none⟩=false
 o0:w2.cell? ⟨ob,0,none⟩=some (.int .i64 13)
 o4:w2.cell? ⟨ob,2,none⟩=some (.int .i64 bb)
 st:Calls Tryz.prog 41 #[zr d] w2 fun e w'=>e=.returned (.bool false)∧w'=w2
 rg:w2.rangeAt mb 0 C.toList
 sz:C.size=20
 mc:1≤mc∧mc≤maxLen
 cp:Calls Tryz.prog 127 #[.agg C] w2 fun e w3=>∃cs,e=.returned (.agg cs)∧LtC w2 w3 cs bb er FP
theorem lg {w W0:World}{wb hb ob lb d:Nat}(A bb C':Int) (S T:ByteArray) (er:Int) (FP:Value→World→World→Prop) (hW0:W0=w.alloc (Obj.cells #[.int .i64 13, .int .i64 A, .int .i64 bb, .int .i64 C', .string S, .string T] 94)) (hob:ob=w.heap.size)
  (d0:W0.cell? ⟨hb,0,none⟩=some (zr lb)) (d1:W0.cell? ⟨hb,1,none⟩=some (zr d)) (o0:W0.cell? ⟨ob,0,none⟩=some (.int .i64 13)) (o4:W0.cell? ⟨ob,2,none⟩=some (.int .i64 bb))
  (cs:Calls Tryz.prog 41 #[zr d] W0 fun e w'=>e=.returned (.bool false)∧w'=W0)
  (cp:Calls Tryz.prog 126 #[zr lb, .int .i64 bb] W0.drew fun e w2=>e=.returned (.int .i64 er)∧∃mb mc C,LtQ w2 hb ob d mb mc bb C er (fun mv W=>FP mv w2 W)) :
  Calls Tryz.prog 68 #[zr wb,zr hb,oV ⟨13,A,bb,C',S,T⟩] w fun e w'=>e=.returned (.bool true)∧∃mv w2 W10,FP mv w2 W10∧w'=W10.setCell ⟨hb,9,none⟩ mv:=by
 have CS:=zx cs;have CP:=zx cp;have HW:=zx hW0;have HOB:=zx hob;clear cs cp hW0 hob;simp only[oV]
 go_enter Tryz.func68,Tryz.ntmps68
 go_upto_region 1 with fail
 rw[←HW.out,←HOB.out]
 go_upto_region 8 with(first|(go_at_call 41;refine CS.out.mono ?_;rintro e W ⟨rfl,hW⟩;rw[hW];clear hW W))
 go_cut [12] from 42 (fun a wq=>a=.int .i64 er∧∃mb mc C,LtQ wq hb ob d mb mc bb C er (fun mv W=>FP mv wq W))
 case first=>
  go_region_law (first|(rw[if_pos (by simp[Region.wanted])];go_simp;go_at_call 126;refine CP.out.mono ?_;rintro e w2 ⟨rfl,hq⟩;have HQ:=zx hq;clear hq))
  all_goals (go_wp2_with fail;go_meet;exact⟨rfl,HQ.out⟩)
 case rest=>
  obtain⟨rfl,mb,mc,C,hq⟩:=hcut;have q1:=hq.c1;obtain⟨q9,f9⟩:=hq.c9;have p0:=hq.o0;have p4:=hq.o4;obtain⟨hm1,hm2⟩:=hq.mc;unfold maxLen at hm2;have ST:=zx hq.st;have HQ:=zx hq
  have hN:∀w,Calls Tryz.prog 114 #[.int .i64 er] w fun e w'=>e=.returned (.int .i64 er)∧w'=w:=fun w=>yO er w
  have HNM:=zx hN;clear hq hN d0 d1 o0 o4 CS CP
  go_wp2_with (first
   | (go_at_call 114;refine(HNM.out _).mono ?_;rintro e W ⟨rfl,hW⟩;rw[hW];clear hW W)
   | (go_at_call 41;refine ST.out.mono ?_;rintro e W ⟨rfl,hW⟩;rw[hW];clear hW W))
  go_loopw [14,15] (fun v j wr=>(j=.int .i64 0∧v=.slice none 0 0∧wr=wc)∨(j=.int .i64 1∧FP v wc wr∧Below wc.heap.size wc wr∧∃a c,v=.slice a 1 c)) (fun _ j _=>1-(intOf j).toNat)
  case atStart=>exact Or.inl ⟨rfl,rfl,rfl⟩
  case round=>
   rcases hrel with⟨rfl,rfl,hwr⟩|⟨rfl,hfp,hbl,va,vc,rfl⟩
   ·rw[hwr];clear hwr
    have hszC:(Tryz.prog.info? 234).map (·.size)=some C.toList.length:=by rw[Array.length_toList,HQ.out.sz];exact Tryz.sizeLog
    have HRG:=zx HQ.out.rg;have HCP:=zx HQ.out.cp
    go_upto_region 15 with fail
    go_upto_region 16 with(first
     | (refine wpList_load_mid rfl 234 (.tmp 70) rfl mb 0 rfl C.toList _ HRG.out Tryz.underlying234 rfl hszC ?_;rw[Array.toArray_toList])
     | (go_at_call 127;refine HCP.out.mono ?_;rintro e w3 ⟨cs,rfl,hc3⟩;have HC3:=zx hc3;have hsz3:(Tryz.prog.info? 234).map (·.size)=some cs.size:=(by rw[hc3.sz];exact Tryz.sizeLog);have hz3:zrC.size=cs.size:=(by rw[hc3.sz];rfl);have h13:=hc3.one;have hlz3:(w3.alloc (Obj.cells zrC 234)).heap[w3.heap.size]? = some (Obj.cells zrC 234 (0,0)):=heap_alloc_last _ _;clear hc3)
     | (refine wpList_store_row rfl 234 (.tmp 16) (.tmp 72) rfl w3.heap.size cs rfl rfl 234 zrC hlz3 hsz3 hz3 h13 ?_))
    have hsr:=World.setRow_alloc_new w3 zrC cs 234;unfold zrC at hsr;rw[hsr];clear hsr hlz3;have b4:=zv w3 (Obj.cells cs 234);have e4:=zj w3 cs 234
    have s4:(w3.alloc (Obj.cells cs 234)).heap.size=w3.heap.size+1:=by simp
    generalize w3.alloc (Obj.cells cs 234)=W4 at *;obtain⟨m18,n18⟩:=zy e4 HC3.out.dn;have hb3:=HC3.out.bel;have hcs:cs.setIfInBounds 18 (.bool false)=cs:=oL HC3.out.dn;have e5:=zh (j:=18) (v:=.bool false) e4;rw[hcs]at e5;have b5:Below w3.heap.size w3 (W4.setCell ⟨w3.heap.size,18,none⟩ (.bool false)):=zZ b4 (Nat.le_refl _)
    have s5:(W4.setCell ⟨w3.heap.size,18,none⟩ (.bool false)).heap.size=w3.heap.size+1:=by simpa using s4
    clear hcs e4 b4
    go_upto_region 19 with fail
    generalize W4.setCell ⟨w3.heap.size,18,none⟩ (.bool false)=W5 at *;have b6:=zv W5 (Obj.cells #[.int .i64 0, .slice none 0 0] 228);have k6:=zj W5 #[.int .i64 0, .slice none 0 0] 228;rw[s5]at k6
    go_upto_region 20 with fail
    generalize W5.alloc (Obj.cells #[.int .i64 0, .slice none 0 0] 228)=W6 at *;have b36:Below w3.heap.size w3 W6:=b5.trans (b6.mono b5.size);have e6:=(b6.block w3.heap.size (by omega)).trans e5;have s6:=b6.size;have bc6:Below wc.heap.size wc W6:=hb3.trans (b36.mono hb3.size);have HAF:=zx (HC3.out.af W6 b36 e6)
    have FK:Hid (∀W7,Below W6.heap.size W6 W7→W7.heap[w3.heap.size]? = some (Obj.cells cs 234 (0,0))∧W7.heap[w3.heap.size+1]? = some (Obj.cells #[.int .i64 0, .slice none 0 0] 228 (0,0))∧Below w3.heap.size w3 W7):=fun W7 hb7=>by
     have hz:=(Mth.gI k6);exact⟨(hb7.block _ (by omega)).trans e6,(hb7.block _ hz).trans k6,b36.trans (hb7.mono b36.size)⟩
    have FO:Hid (∀W,Below w3.heap.size w3 W→W.cell? ⟨ob,0,none⟩=some (.int .i64 13)∧W.cell? ⟨ob,2,none⟩=some (.int .i64 bb)):=fun W hW=>by
     have hbw:Below wc.heap.size wc W:=hb3.trans (hW.mono hb3.size);exact⟨(hbw.cell (p:=⟨ob,0,none⟩) (World.block_lt_of_cell? _ _ p0)).trans p0,(hbw.cell (p:=⟨ob,2,none⟩) (World.block_lt_of_cell? _ _ p4)).trans p4⟩
    obtain⟨u0,u4⟩:=FO.out W6 b36
    have FA:Hid (∀W7 ck a l c,Below W6.heap.size W6 W7→∀W8,W8=(W7.setCell ⟨w3.heap.size+1,0,none⟩ (.int .i64 ck)).setCell ⟨w3.heap.size+1,1,none⟩ (.slice a l c)→(W8.cell? ⟨ob,2,none⟩=some (.int .i64 bb))∧Calls Tryz.prog 131 #[zr w3.heap.size, .int .i64 bb] W8 fun e W'=>e=.returned (.int .i64 er)∧∃c9:Array Value,c9.size=20∧c9.all (·.oneCell')=true∧W'.heap[w3.heap.size]? = some (Obj.cells c9 234 (0,0))∧Below wc.heap.size wc W'∧∀W10 mv,Below wc.heap.size wc W10→Below W'.heap.size W' W10→W10.ownsRow wc.heap.size 234 20 mv 1 c9.toList→FP mv wc W10):=fun W7 ck a l c hb7 W8 hW8=>by
     obtain⟨x1,x2,x3⟩:=FK.out W7 hb7;subst hW8;have y3:Below w3.heap.size w3 ((W7.setCell ⟨w3.heap.size+1,0,none⟩ (.int .i64 ck)).setCell ⟨w3.heap.size+1,1,none⟩ (.slice a l c)):=zZ (zZ x3 (by omega)) (by omega);refine⟨(FO.out _ y3).2,HC3.out.ap _ y3 ?_⟩;rw[zt (by omega),zt (by omega)];exact x1
    have HB3:=zx hb3;clear e5 e6 b5 b6 k6 s4 s5 b36 m18 n18 bc6 hb3 HQ
    go_upto_region 24 with(first
     | (go_at_call 130;refine HAF.out.mono ?_;rintro e W7 ⟨ck,a7,l7,c7,rfl,hb7⟩;obtain⟨_,x2,_⟩:=FK.out W7 hb7;obtain⟨y0,y1⟩:=zy (j:=0) (u:=.int .i64 0) x2 rfl;obtain⟨y2,y3⟩:=zy (j:=1) (u:=.slice none 0 0) x2 rfl;have HFA:=zx (FA.out W7 ck a7 l7 c7 hb7);clear x2 hb7))
    obtain⟨W8,hW8⟩:∃W8,W8=(W7.setCell ⟨w3.heap.size+1,0,none⟩ (.int .i64 ck)).setCell ⟨w3.heap.size+1,1,none⟩ (.slice a7 l7 c7):=⟨_,rfl⟩;obtain⟨v4,hap⟩:=HFA.out W8 hW8;rw[←hW8];have HAP:=zx hap;clear hap hW8 HFA FA HAF y0 y1 y2 y3 u0 u4
    go_upto_region 26 with(first
     | (go_at_call 131;refine HAP.out.mono ?_;rintro e W9 ⟨rfl,c9,z9,w9,e9,b9,hfp⟩;have HE9:=zx e9;have HB9:=zx b9;have HFP:=zx hfp;have hs9:(Tryz.prog.info? 234).map (·.size)=some c9.size:=(by rw[z9];exact Tryz.sizeLog);have HZ9:=zx z9;have HW9:=zx w9;clear e9 b9 hfp z9 w9))
    have hfold:=uO (z:=zrC) (c:=c9) (by rw[HZ9.out];rfl);unfold zrC at hfold;have hz9:=HZ9.out;rw[hz9]at hfold;obtain⟨bz,hbz⟩:∃bz,(er == 0)=bz:=⟨_,rfl⟩;have hwc:wc.heap.size≤W9.heap.size:=HB9.out.size;obtain⟨l0,hl0,hl1,hl2,hl3⟩:=info_parts Tryz.infoLogR;clear HAP v4 FK FO HC3
    go_wp2_with (first
     | (refine wpList_load_row rfl 234 (.tmp 16) rfl w3.heap.size rfl 234 c9 (0,0) _ HE9.out Tryz.underlying234 rfl hs9 ?_)
     | (at_builtin;refine zb _ rfl (.tmp 105) (.tmp 107) 153 rfl wc.heap.size 0 234 l0 (.agg zrC) 20 336 Tryz.underlying153 hl0 hl1 hl2 hl3 rfl (by decide) _ _ _ rfl (World.ownsRow_nil _ _ _ _) _ _ _ rfl (World.ownsRow_lit W9 c9 1 (Nat.zero_le _) (by decide) (by rw[HZ9.out])) (pQ HW9.out) (by unfold maxLen;omega) (by omega) (by simp;omega) ?_;intro v10 W10 o10 g10 n10;have o11:W10.ownsRow wc.heap.size 234 20 v10 1 c9.toList:=(by simpa using o10);have b10:Below W9.heap.size W9 W10:=(zv W9 _).trans ((zI g10).mono (by simp));have HBT:=zx (HB9.out.trans (b10.mono HB9.out.size));have HFP2:=zx (HFP.out W10 v10 HBT.out b10 o11);obtain⟨a10,c10,rfl,_,_⟩:=zu o11;clear o10 o11 g10 n10 b10))
    all_goals (
     go_roundw
     case rel=>exact Or.inr ⟨by go_num,HFP2.out,HBT.out,_,_,rfl⟩
     case measure=>simp[intOf])
   ·have hfp2:=zx hfp;have x9:=(hbl.cell (p:=⟨hb,9,none⟩) (World.block_lt_of_cell? _ _ q9)).trans q9
    have y9:wr.frozen? ⟨hb,9,none⟩=false:=by rw[World.frozen?_of_block (w':=wr) (w:=wc) (hbl.block hb (World.block_lt_of_cell? _ _ q9))];exact f9
    clear hfp hbl q9 f9 HQ;go_wp2_with fail;go_ret;exact⟨rfl,_,wc,wr,hfp2.out,rfl⟩
end Go.Proofs.YtkncboinfcnklaaGreatDoor.Lw
