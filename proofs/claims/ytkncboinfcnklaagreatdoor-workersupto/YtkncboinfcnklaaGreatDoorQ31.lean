import Derived.Test.YtkncboinfcnklaaGreatDoorQ30
import Derived.Deep.RegionHeld3
namespace Go.Proofs.YtkncboinfcnklaaGreatDoor.Lw
open Go.RowKit Go.Deep Go.Shelf Go.Proofs.YtkncboinfcnklaaGreatDoor.Mth Go.Proofs.YtkncboinfcnklaaGreatDoor.Rl
theorem getD_app {hs:List Ho} {x:Ho} {j:Nat} (hj:j < hs.length + 1):(hs ++ [x]).getD j h0=if j=hs.length then x else hs.getD j h0:=by
 rw [List.getD_eq_getElem?_getD,List.getD_eq_getElem?_getD]
 by_cases e:j=hs.length
 ·subst e
  rw [if_pos rfl,List.getElem?_append_right (Nat.le_refl _),Nat.sub_self]
  rfl
 ·rw [if_neg e,List.getElem?_append_left (by omega)]
def NewZ (w w':World) (x:Ho) (hv':Value) (g:Nat):Prop:=w.heap.size≤g∧g < w'.heap.size∧x.ρ g=0∧g≠x.hb∧some g≠hv'.ownBlock
theorem HI.add {P:Lg→List Tl→Prop} {Z:Nat→Prop} {w w':World} {B wb:Nat} {g0 g1 g2 g3 hv hv' ke ks kr:Value} {Ne Ns Nr M:Nat} {hs:List Ho} (h:HI P Z w B wb g0 g1 g2 g3 hv ke ks kr Ne Ns Nr M hs none) (x:Ho)
  (ht:Tch (fun g=>g=wb∨some g=hv.ownBlock) w w') (hblk:w'.heap[wb]? = some (Obj.cells (wdC g0 g1 g2 g3 hv' ke ks kr) 91 (0,0)))
  (hrow:w'.ownsRow B 152 1 hv' (hs.length + 1) ((hs ++ [x]).map (fun x=>ptrV x.hb))) (hvb:∀ g,some g=hv'.ownBlock→some g=hv.ownBlock∨w.heap.size≤g)
  (hxb:w'.heap[x.hb]? = some (Obj.cells (hoC x) 155 (0,0))) (hx1:w.heap.size≤x.hb) (hxB:w.heap.size≤x.B) (hl:∀ k,x.ρ k≠0→k < w'.heap.size∧x.B≤k) (hr1:x.ρ x.hb=0) (hr2:∀ g,some g=hv'.ownBlock→x.ρ g=0)
  (hx:HoAt P (fun g=>Z g∨NewZ w w' x hv' g) w' (M + 1) x) (hBw:B≤w.heap.size) :
  HI P (fun g=>Z g∨NewZ w w' x hv' g) w' B wb g0 g1 g2 g3 hv' ke ks kr Ne Ns Nr (M + 1) (hs ++ [x]) none:=by
 have hsz:=ht.size
 have mwb:Mu wb hv ke ks kr (hs.map Ho.hb) wb:=Or.inl rfl
 have mhv:∀ g,some g=hv.ownBlock→Mu wb hv ke ks kr (hs.map Ho.hb) g:=fun g hg=>Or.inr (Or.inl hg)
 have hz:∀ g,Z g→w'.heap[g]? = w.heap[g]? := fun g hg=>ht.block g (h.zm g hg).1 (fun q=>by
  rcases q with rfl | q
  ·exact (h.zm _ hg).2.1 mwb
  ·exact (h.zm _ hg).2.1 (mhv g q))
 have hr0:∀ g,w.heap.size≤g→∀ j,j < hs.length→(hs.getD j h0).ρ g=0:=fun g hg j hj=>by
  by_cases q:(hs.getD j h0).ρ g=0
  ·exact q
  ·have:=(h.lt j hj g q).1;omega
 have hxr:∀ g,g < w.heap.size→x.ρ g=0:=fun g hg=>by
  by_cases q:x.ρ g=0
  ·exact q
  ·have:=(hl g q).2;omega
 have hown:∀ {T:TypeId} {sz n:Nat} {v:Value} {xs:List Value},w.ownsRow B T sz v n xs→T≠91→T≠152→∀ g,some g=v.ownBlock→w'.heap[g]? = w.heap[g]? := fun ho h1 h2 g hg=>by
  obtain ⟨_,hlt,D,hD⟩:=own_block ho hg
  refine ht.block g hlt (fun q=>?_)
  rcases q with rfl | q
  ·exact h1 (cells_ty hD h.blk)
  ·obtain ⟨_,_,E,hE⟩:=own_block h.row q
   exact h2 (cells_ty hD hE)
 have hmem:∀ {g:Nat},g ∈ (hs ++ [x]).map Ho.hb→g ∈ hs.map Ho.hb∨g=x.hb:=fun {g} hg=>by
  rw [List.map_append,List.mem_append] at hg
  rcases hg with hg | hg
  ·exact Or.inl hg
  ·exact Or.inr (by simpa using hg)
 have hmu:∀ {g:Nat},Mu wb hv' ke ks kr ((hs ++ [x]).map Ho.hb) g→Mu wb hv ke ks kr (hs.map Ho.hb) g∨g=x.hb∨some g=hv'.ownBlock:=fun {g} hg=>by
  rcases hg with q | q | q | q | q | q
  ·exact Or.inl (Or.inl q)
  ·exact Or.inr (Or.inr q)
  ·exact Or.inl (Or.inr (Or.inr (Or.inl q)))
  ·exact Or.inl (Or.inr (Or.inr (Or.inr (Or.inl q))))
  ·exact Or.inl (Or.inr (Or.inr (Or.inr (Or.inr (Or.inl q)))))
  ·rcases hmem q with q | q
   ·exact Or.inl (Or.inr (Or.inr (Or.inr (Or.inr (Or.inr q)))))
   ·exact Or.inr (Or.inl q)
 have hsl:(hs ++ [x]).length=hs.length + 1:=by rw [List.length_append,List.length_singleton]
 have hhb:∀ j,j < hs.length→(hs.getD j h0).hb < w.heap.size:=fun j hj=>h.mlt (Or.inr (Or.inr (Or.inr (Or.inr (Or.inr (hb_mem hj))))))
 refine ⟨hblk,h.ge,?_,?_,?_,?_,fun j hj=>?_,fun j hj hne=>?_,fun j hj=>?_,fun j hj k hk=>?_,fun a b ha hb' hne=>?_,fun g hg=>?_,fun g hg j hj=>?_,?_⟩
 ·obtain ⟨q,h1,h2⟩:=h.be
  exact Bok.same ⟨q,h1,h2⟩ (hown h1 (by decide) (by decide)) hz (fun _ q=>Or.inl q)
 ·obtain ⟨q,h1,h2⟩:=h.bs
  exact Bok.same ⟨q,h1,h2⟩ (hown h1 (by decide) (by decide)) hz (fun _ q=>Or.inl q)
 ·obtain ⟨F,hF,q,h1,h2⟩:=h.br
  exact ⟨F,hF,Bok.same ⟨q,h1,h2⟩ (hown h1 (by decide) (by decide)) hz (fun _ q=>Or.inl q)⟩
 ·rw [hsl];exact hrow
 ·rw [hsl] at hj
  rw [getD_app hj]
  by_cases e:j=hs.length
  ·rw [if_pos e];exact hxb
  ·rw [if_neg e]
   have hj':j < hs.length:=by omega
   refine (ht.block _ (hhb j hj') (fun q=>?_)).trans (h.hob j hj')
   rcases q with q | q
   ·have:=cells_ty (h.hob j hj') (q ▸ h.blk)
    exact absurd this (by decide)
   ·obtain ⟨_,_,E,hE⟩:=own_block h.row q
    have:=cells_ty (h.hob j hj') hE
    exact absurd this (by decide)
 ·rw [hsl] at hj
  rw [getD_app hj]
  by_cases e:j=hs.length
  ·rw [if_pos e];exact hx
  ·rw [if_neg e]
   have hj':j < hs.length:=by omega
   refine (h.one j hj' (by simp)).same (fun g q=>ht.block g (by rcases q with q | q;exact (h.lt j hj' g q).1;exact isN_lt q) (fun s=>?_)) hz hsz (fun _ q=>Or.inl q) (Nat.le_succ _)
   have hmg:Mu wb hv ke ks kr (hs.map Ho.hb) g:=s.elim (fun e=>Or.inl e) (mhv g)
   rcases q with q | q
   ·exact q (h.rm g hmg j hj')
   ·exact h.mn hmg q
 ·rw [hsl] at hj
  rw [getD_app hj]
  by_cases e:j=hs.length
  ·rw [if_pos e];exact ⟨by omega,by omega⟩
  ·rw [if_neg e];exact h.hge j (by omega)
 ·rw [hsl] at hj
  rw [getD_app hj] at hk ⊢
  by_cases e:j=hs.length
  ·rw [if_pos e] at hk ⊢;exact hl k hk
  ·rw [if_neg e] at hk ⊢
   have:=h.lt j (by omega) k hk
   exact ⟨by omega,this.2⟩
 ·rw [hsl] at ha hb'
  rw [getD_app ha,getD_app hb']
  by_cases ea:a=hs.length
  ·rw [if_pos ea,if_neg (by omega)]
   refine ⟨fun q=>by have:=hhb b (by omega);omega,fun k hk=>hr0 k (by have:=(hl k hk).2;omega) b (by omega)⟩
  ·by_cases eb:b=hs.length
   ·rw [if_neg ea,if_pos eb]
    exact ⟨fun q=>by have:=hhb a (by omega);omega,fun k hk=>hxr k (h.lt a (by omega) k hk).1⟩
   ·rw [if_neg ea,if_neg eb]
    exact h.dis a b (by omega) (by omega) hne
 ·rcases hg with hg | hg
  ·obtain ⟨z1,z2,z3⟩:=h.zm g hg
   refine ⟨by omega,fun hm=>?_,fun j hj=>?_⟩
   ·rcases hmu hm with q | q | q
    ·exact z2 q
    ·omega
    ·rcases hvb g q with q | q
     ·exact z2 (mhv g q)
     ·omega
   ·rw [hsl] at hj
    rw [getD_app hj]
    by_cases e:j=hs.length
    ·rw [if_pos e];exact hxr g z1
    ·rw [if_neg e];exact z3 j (by omega)
  ·obtain ⟨y1,y2,y3,y4,y5⟩:=hg
   refine ⟨y2,fun hm=>?_,fun j hj=>?_⟩
   ·rcases hmu hm with q | q | q
    ·have:=h.mlt q;omega
    ·exact y4 q
    ·exact y5 q
   ·rw [hsl] at hj
    rw [getD_app hj]
    by_cases e:j=hs.length
    ·rw [if_pos e];exact y3
    ·rw [if_neg e];exact hr0 g y1 j (by omega)
 ·rw [hsl] at hj
  rw [getD_app hj]
  by_cases e:j=hs.length
  ·rw [if_pos e]
   rcases hmu hg with q | q | q
   ·exact hxr g (h.mlt q)
   ·rw [q];exact hr1
   ·exact hr2 g q
  ·rw [if_neg e]
   have hj':j < hs.length:=by omega
   rcases hmu hg with q | q | q
   ·exact h.rm g q j hj'
   ·exact hr0 g (by omega) j hj'
   ·rcases hvb g q with q | q
    ·exact h.rm g (mhv g q) j hj'
    ·exact hr0 g q j hj'
 ·have:=h.mb
  rw [hsl]
  omega
theorem HS.idle {P:Lg→List Tl→Prop} {Z:Nat→Prop} {w w':World} {B wb:Nat} {g0 g1 g2 g3 hv ke ks kr:Value} {Ne Ns Nr M:Nat} {hs:List Ho} (h:HI P Z w B wb g0 g1 g2 g3 hv ke ks kr Ne Ns Nr M hs none) (hBw:B≤w.heap.size) (hb:Below w.heap.size w w'):HS P Z w w' B wb g0 g1 g2 g3 (M + 1):=
 ⟨hb.mono hBw,fun g hg=>hb.block g (h.zm g hg).1,_,hv,ke,ks,kr,Ne,Ns,Nr,hs,fun _g hg=>Or.inl hg,(h.below hb).more (M':=M + 1) (Nat.le_succ _) (Y:=fun _=>False) (fun _ q=>q.elim)⟩
end Go.Proofs.YtkncboinfcnklaaGreatDoor.Lw

namespace Go.Proofs.YtkncboinfcnklaaGreatDoor.Lw
open Go.RowKit Go.Deep Go.Shelf Go.Proofs.YtkncboinfcnklaaGreatDoor.Mth Go.Proofs.YtkncboinfcnklaaGreatDoor.Rl
structure Cf where
 m:Int
 f:Int
 b:Int
 n:Int
 k:Int
 t:Int
def cf0:Cf:=⟨0,0,0,0,0,0⟩
abbrev cfA (c:Cf):Array Value:=#[.int .i64 c.m, .int .i64 c.f, .int .i64 c.b, .int .i64 c.n, .int .i64 c.k, .int .i64 c.t]
def RdC (w:World) (v:Value) (l:List Cf):Prop:=
 ∃ (a:Option Addr) (c:Nat),v=.slice a l.length c∧l.length≤c∧c≤maxLen∧(l=[]∨∃ b o,a=some ⟨b,o,none⟩∧∀ j,j < l.length→w.cell? ⟨b,o + j * 6,none⟩=some (.int .i64 (l.getD j cf0).m)∧w.cell? ⟨b,o + j * 6 + 1,none⟩=some (.int .i64 (l.getD j cf0).f)∧w.cell? ⟨b,o + j * 6 + 2,none⟩=some (.int .i64 (l.getD j cf0).b)∧w.cell? ⟨b,o + j * 6 + 3,none⟩=some (.int .i64 (l.getD j cf0).n)∧w.cell? ⟨b,o + j * 6 + 4,none⟩=some (.int .i64 (l.getD j cf0).k)∧w.cell? ⟨b,o + j * 6 + 5,none⟩=some (.int .i64 (l.getD j cf0).t))
theorem RdC.below {w w':World} {v:Value} {l:List Cf} (h:RdC w v l) (hb:Below w.heap.size w w'):RdC w' v l:=by
 obtain ⟨a,c,rfl,hc,hm,h⟩:=h
 refine ⟨a,c,rfl,hc,hm,?_⟩
 rcases h with h | ⟨b,o,rfl,h⟩
 ·exact Or.inl h
 ·refine Or.inr ⟨b,o,rfl,fun j hj=>?_⟩
  have hc:∀ {k:Nat} {u:Value},w.cell? ⟨b,k,none⟩=some u→w'.cell? ⟨b,k,none⟩=some u:=fun {k u} q=>(hb.cell (p:=⟨b,k,none⟩) (World.block_lt_of_cell? _ _ q)).trans q
  obtain ⟨c0,c1,c2,c3,c4,c5⟩:=h j hj
  exact ⟨hc c0,hc c1,hc c2,hc c3,hc c4,hc c5⟩
theorem rdC_at {w:World} {a:Option Addr} {n c:Nat} {l:List Cf} (h:RdC w (.slice a n c) l) (j:Nat) (hj:j < l.length):∃ b o,a=some ⟨b,o,none⟩∧b < w.heap.size∧w.cell? ⟨b,o + j * 6,none⟩=some (.int .i64 (l.getD j cf0).m)∧w.cell? ⟨b,o + j * 6 + 1,none⟩=some (.int .i64 (l.getD j cf0).f)∧w.cell? ⟨b,o + j * 6 + 2,none⟩=some (.int .i64 (l.getD j cf0).b)∧w.cell? ⟨b,o + j * 6 + 3,none⟩=some (.int .i64 (l.getD j cf0).n)∧w.cell? ⟨b,o + j * 6 + 4,none⟩=some (.int .i64 (l.getD j cf0).k)∧w.cell? ⟨b,o + j * 6 + 5,none⟩=some (.int .i64 (l.getD j cf0).t):=by
 obtain ⟨a',c',e,_,_,h⟩:=h
 injection e with e1 e2 e3
 rcases h with h | ⟨b,o,e4,h⟩
 ·subst h;simp at hj
 ·exact ⟨b,o,e1.trans e4,World.block_lt_of_cell? _ _ (h j hj).1,h j hj⟩
set_option maxRecDepth 100000 in
set_option maxHeartbeats 2000000 in
theorem made_none {w:World} {wb:Nat} {C:Array Value} (hblk:w.heap[wb]? = some (Obj.cells C 91 (0,0))) (a:Option Addr) (c:Nat) (h3:C[3]? = some (.slice a 0 c)) (o:Opr) :
  Calls Tryz.prog 66 #[ptrV wb,oV o] w fun e w'=>e=.returned (.bool true)∧Below w.heap.size w w':=by
 obtain ⟨k,A,B,C',S,T⟩:=o
 simp only [oV]
 have HB:=hide (below_allocG w (Obj.cells #[.int .i64 k, .int .i64 A, .int .i64 B, .int .i64 C', .string S, .string T] 94))
 have d3:=(cell_of ((HB.out.block wb (Array.getElem?_eq_some_iff.1 hblk).1).trans hblk) h3).1
 clear hblk h3
 go_enter Tryz.func66,Tryz.ntmps66
 go_wp2
 go_ret
 exact ⟨rfl,HB.out⟩
set_option maxRecDepth 100000 in
set_option maxHeartbeats 4000000 in
theorem made_nob {w:World} {wb:Nat} {C:Array Value} (hblk:w.heap[wb]? = some (Obj.cells C 91 (0,0))) {g3:Value} (h3:C[3]? = some g3) {Cs:List Cf} (hG:RdC w g3 Cs) (hl:0 < Cs.length) (hl2:Cs.length≤1048576) (A B C':Int) (S T:ByteArray) (hA:-9223372036854775808≤A∧A < 9223372036854775808) :
  Calls Tryz.prog 66 #[ptrV wb,oV ⟨11,A,B,C',S,T⟩] w fun e w'=>e=.returned (.bool true)∧Below w.heap.size w w':=by
 simp only [oV]
 obtain ⟨W0,hW0⟩:∃ W0,W0=w.alloc (Obj.cells #[.int .i64 11, .int .i64 A, .int .i64 B, .int .i64 C', .string S, .string T] 94):=⟨_,rfl⟩
 have b0:Below w.heap.size w W0:=by rw [hW0];exact below_allocG _ _
 have k0:W0.heap[w.heap.size]? = some (Obj.cells #[.int .i64 11, .int .i64 A, .int .i64 B, .int .i64 C', .string S, .string T] 94 (0,0)):=by rw [hW0];exact new_blk _ _ _
 have hG0:=hG.below b0
 obtain ⟨ga,gc,rfl,hgc,hgm,hGx⟩:=hG
 clear hGx
 unfold maxLen at hgm
 have d3:=(cell_of ((b0.block wb (Array.getElem?_eq_some_iff.1 hblk).1).trans hblk) h3).1
 have dA:=(cell_of (j:=1) (u:=.int .i64 A) k0 rfl).1
 have d0:=(cell_of (j:=0) (u:=.int .i64 11) k0 rfl).1
 obtain ⟨r,hr0,hr1,hpk⟩:=pick_fix A (Cs.length:Int) hA.1 hA.2 (by omega) (by omega)
 obtain ⟨i,rfl⟩:=Int.eq_ofNat_of_zero_le hr0
 have hi:i < Cs.length:=by omega
 obtain ⟨cb,co,rfl,hcb,e0,e1,e2,e3,e4,e5⟩:=rdC_at hG0 i hi
 generalize Cs.getD i cf0=cf at *
 obtain ⟨cm,cf,cbk,cn,ck,ct⟩:=cf
 simp only at e0 e1 e2 e3 e4 e5
 generalize hCn:Cs.length=nC at *
 have HPK:=hide hpk
 have HW:=hide hW0
 have HB0:=hide b0
 have hnw:w.heap.size < W0.heap.size:=(Array.getElem?_eq_some_iff.1 k0).1
 have hwb:wb < W0.heap.size:=by have:=World.block_lt_of_cell? _ _ d3;exact this
 generalize hob:w.heap.size=ob at *
 have HOB:=hide hob
 clear hblk h3 hG0 hCn hpk hW0 hob b0 k0
 go_enter Tryz.func66,Tryz.ntmps66
 go_upto_region 1 with fail
 rw [HOB.out,← HW.out]
 go_upto_region 3 with fail
 go_cut [5] from 14 (fun v wq=>∃ q,v=ptrV q∧wq.heap[q]? = some (Obj.cells #[.int .i64 cm, .int .i64 cf, .int .i64 cbk, .int .i64 cn, .int .i64 ck, .int .i64 ct] 56 (0,0))∧Below W0.heap.size W0 wq)
 case first=>
  have n1:W0.heap.size≠wb:=by omega
  have n2:W0.heap.size≠ob:=by omega
  have n3:W0.heap.size≠cb:=by omega
  have HM1:Hid ((W0.alloc (Obj.cells #[.int .i64 cm, .int .i64 cf, .int .i64 cbk, .int .i64 cn, .int .i64 ck, .int .i64 ct] 56)).drew.heap[W0.heap.size]? = some (Obj.cells #[.int .i64 cm, .int .i64 cf, .int .i64 cbk, .int .i64 cn, .int .i64 ck, .int .i64 ct] 56 (0,0))):=new_blk W0 #[.int .i64 cm, .int .i64 cf, .int .i64 cbk, .int .i64 cn, .int .i64 ck, .int .i64 ct] 56
  have HM2:Hid (Below W0.heap.size W0 (W0.alloc (Obj.cells #[.int .i64 cm, .int .i64 cf, .int .i64 cbk, .int .i64 cn, .int .i64 ck, .int .i64 ct] 56)).drew):=(below_allocG W0 _).trans ((drewB _).mono (by simp))
  go_region_held3 (fun w'=>w'.cell? ⟨wb,3,none⟩=some (.slice (some ⟨cb,co,none⟩) nC gc)∧w'.cell? ⟨ob,1,none⟩=some (.int .i64 A)∧w'.cell? ⟨cb,co + i * 6,none⟩=some (.int .i64 cm)∧w'.cell? ⟨cb,co + i * 6 + 1,none⟩=some (.int .i64 cf)∧w'.cell? ⟨cb,co + i * 6 + 2,none⟩=some (.int .i64 cbk)∧w'.cell? ⟨cb,co + i * 6 + 3,none⟩=some (.int .i64 cn)∧w'.cell? ⟨cb,co + i * 6 + 4,none⟩=some (.int .i64 ck)∧w'.cell? ⟨cb,co + i * 6 + 5,none⟩=some (.int .i64 ct)) (go_keep) (first | (go_at_call 15;refine (HPK.out _).mono ?_;rintro e W ⟨rfl,hW⟩;rw [hW];clear hW W))
  all_goals (go_wp2_with fail;go_meet;exact ⟨_,rfl,HM1.out,HM2.out⟩)
 case rest=>
  obtain ⟨q,rfl,hq,hbq⟩:=hcut
  have o0:=(hbq.cell (p:=⟨ob,0,none⟩) hnw).trans d0
  obtain ⟨x0,_⟩:=cell_of (j:=0) (u:=.int .i64 cm) hq rfl
  obtain ⟨x1,_⟩:=cell_of (j:=1) (u:=.int .i64 cf) hq rfl
  obtain ⟨x2,_⟩:=cell_of (j:=2) (u:=.int .i64 cbk) hq rfl
  obtain ⟨x3,_⟩:=cell_of (j:=3) (u:=.int .i64 cn) hq rfl
  obtain ⟨x4,_⟩:=cell_of (j:=4) (u:=.int .i64 ck) hq rfl
  obtain ⟨x5,_⟩:=cell_of (j:=5) (u:=.int .i64 ct) hq rfl
  have HBQ:=hide hbq
  have CN:=hide (new_nobody (w:=wc) cm cf cbk cn ck ct)
  clear hbq hq e0 e1 e2 e3 e4 e5 d3 dA d0
  go_wp2_with (first
   | (go_at_call 85;refine CN.out.mono ?_;rintro e W ⟨rfl,hW⟩;have HBW:=hide hW;clear hW))
  go_ret
  refine ⟨rfl,?_⟩
  have h1:=HB0.out.size
  exact HB0.out.trans ((HBQ.out.mono (by omega)).trans (HBW.out.mono (by have:=HBQ.out.size;omega)))
end Go.Proofs.YtkncboinfcnklaaGreatDoor.Lw
