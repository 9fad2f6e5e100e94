import Derived.Test.YtkncboinfcnklaaGreatDoorQ11
namespace Go.Proofs.YtkncboinfcnklaaGreatDoor
open Go.RowKit Go.Deep Go.Proofs.YtkncboinfcnklaaGreatDoor.Mth
theorem cells_ne {w:World} {k k':Nat} {C C':Array Value} {t t':TypeId} {fr fr':Nat × Nat} (h:w.heap[k]? = some (Obj.cells C t fr)) (h':w.heap[k']? = some (Obj.cells C' t' fr')) (hne:t≠t'):k≠k':=by
 intro q
 rw [q,h'] at h
 injection h with h
 injection h with _ h _
 exact hne h.symm
theorem notN {w:World} {k:Nat} {C:Array Value} {t:TypeId} {fr:Nat × Nat} (h:w.heap[k]? = some (Obj.cells C t fr)) (hne:t≠325):¬ isN w k:=fun ⟨_C',_fr',q⟩=>cells_ne h q hne rfl
theorem head_set {w:World} {ρ:Nat→Nat} {B N lb:Nat} {G G':Gh} {L L':Lg} (hb:LHd w ρ lb G L) (hlt:∀ k,ρ k≠0→k < w.heap.size∧B≤k) (j:Nat) (v:Value) (hC:(lgC G L).setIfInBounds j v=lgC G' L') (hj:LJ w ρ B G' L') (hv:LV w ρ B G' L') (hk:LW w ρ B lb G' L') (ht:LT w ρ B N G' L') :
  LogX (w.setCell ⟨lb,j,none⟩ v) ρ B N lb G' L'∧LStp w (w.setCell ⟨lb,j,none⟩ v) ρ ρ:=by
 have hn:=notN hb.blk (by decide)
 have hs:∀ d:Nat→Prop,¬ d 1→Same w (w.setCell ⟨lb,j,none⟩ v) ρ d:=by
  intro d hd g q
  refine set_other (fun e=>?_)
  subst e
  rcases q with q | q
  ·rw [hb.rl] at q;exact hd q
  ·exact hn q
 refine ⟨⟨⟨?_,hb.rl⟩,hj.same (hs _ (by omega)),hv.same (hs _ (by omega)),hk.same (hs _ (by omega)),ht.same (hs _ (by omega)),fun k q=>by simpa using hlt k q⟩,⟨rfl,rfl,rfl,by simp,fun k _ q=>set_other (fun e=>q ⟨by rw [e,hb.rl];omega,by rw [e];exact hn⟩)⟩,fun _ _ q=>q⟩
 rw [setCell_blk hb.blk,hC]
theorem LogX.jStep {w w':World} {ρ:Nat→Nat} {B N lb:Nat} {G:Gh} {L:Lg} (h:LogX w ρ B N lb G L) (hB:B≤w.heap.size) {dt':ByteArray} {sf':Nat} {left':Int} {fv':Value} {clock' count':Nat} (hj:JStp w w' B G.jb G.db G.sb G.fv (jf dt' sf') left' fv' clock' count') :
  LogX w' (ext ρ w.heap.size (fun k=>some k=fv'.ownBlock) 2) B N lb { G with fv:=fv',dt:=dt',sf:=sf',left:=left' } { L with clock:=clock',count:=count' }∧LStp w w' ρ (ext ρ w.heap.size (fun k=>some k=fv'.ownBlock) 2)∧(∀ d:Nat→Prop,¬ d 2→¬ d 0→Same w w' ρ d):=by
 have hS:∀ k,ownJ G.jb G.db G.sb G.fv k→ρ k=2∧¬ isN w k:=fun k q=>⟨h.j.rl k q,(h.j.j.ownLt q).2.2⟩
 have hs:=h.others hj.tch hS
 have hk:=ext_keep (P:=fun k=>some k=fv'.ownBlock) (c:=2) h.lt
 have xb:=LHd.role (ρ:=ρ) (h.b.same (hs _ (by omega) (by omega))) (fun g q=>(hk g (by omega)).trans q)
 have xv:=LV.role (ρ:=ρ) (h.v.same (hs _ (by omega) (by omega))) (fun g q=>hk g (by rcases q with q | ⟨i,_,q⟩ <;> omega))
 have xk:=LW.role (ρ:=ρ) (h.k.same (hs _ (by omega) (by omega))) (fun g q=>hk g (by rcases q with q | ⟨i,_,q⟩ <;> omega))
 have xt:=LT.role (ρ:=ρ) (h.t.same (hs _ (by omega) (by omega))) (fun g q=>(hk g (by omega)).trans q)
 refine ⟨⟨⟨xb.blk,xb.rl⟩,⟨hj.j,fun k q=>?_⟩,⟨xv.row,xv.len,xv.seg,xv.rr,xv.rs⟩,⟨xk.row,xk.len,xk.one,xk.lst,xk.ok,xk.few,xk.ge,xk.rw,xk.rb,xk.rl⟩,⟨xt.map,xt.rl,xt.ge⟩,ext_lt h.lt hj.tch.size hB (fun k q=>(own_block hj.j.st.own q).2.1)⟩,⟨hj.tch.mono (fun k _ q=>⟨by rw [(hS k q).1];omega,(hS k q).2⟩),fun k hk2 q=>by rw [ext_old hk2];exact q⟩,hs⟩
 have hold:∀ g,ownJ G.jb G.db G.sb G.fv g→ext ρ w.heap.size (fun k=>some k=fv'.ownBlock) 2 g=2:=fun g q=>by rw [hk g (by rw [h.j.rl g q];omega)];exact h.j.rl g q
 rcases q with q | q | q | q
 ·exact hold k (Or.inl q)
 ·exact hold k (Or.inr (Or.inl q))
 ·exact hold k (Or.inr (Or.inr (Or.inl q)))
 ·rcases hj.new k q with q2 | q2
  ·exact hold k (Or.inr (Or.inr (Or.inr q2)))
  ·exact ext_new q2 q
theorem LogAt.jStep {w w':World} {ρ:Nat→Nat} {B N lb:Nat} {G:Gh} {L:Lg} (h:LogAt w ρ B N lb G L) (hB:B≤w.heap.size) {dt':ByteArray} {sf':Nat} {left':Int} {fv':Value} {clock' count':Nat} (hj:JStp w w' B G.jb G.db G.sb G.fv (jf dt' sf') left' fv' clock' count') :
  ∃ ρ',LogAt w' ρ' B N lb { G with fv:=fv',dt:=dt',sf:=sf',left:=left' } { L with clock:=clock',count:=count' }∧LStp w w' ρ ρ':=by
 obtain ⟨h1,h2,hs⟩:=h.x.jStep hB hj
 have hk:=ext_keep (P:=fun k=>some k=fv'.ownBlock) (c:=2) h.x.lt
 have xm:=LM.role (ρ:=ρ) (h.m.same (hs _ (by omega) (by omega))) (fun g q=>(hk g (by omega)).trans q)
 exact ⟨_,⟨h1,⟨xm.seg,xm.rl⟩⟩,h2⟩
theorem LogAt.mStep {w w':World} {ρ:Nat→Nat} {B N lb:Nat} {G:Gh} {L:Lg} (h:LogAt w ρ B N lb G L) (hB:B≤w.heap.size) {es':List Ent} {me':Value} (hm:SegStp w w' B G.ms G.mm G.me es' me') :
  ∃ ρ',LogAt w' ρ' B N lb { G with me:=me' } { L with mem:=es' }∧LStp w w' ρ ρ':=by
 have hS:∀ k,ownS G.ms G.mm G.me k→ρ k=3∧¬ isN w k:=fun k q=>⟨h.m.rl k q,(h.m.seg.ownLt q).2.2⟩
 have hs:=h.x.others hm.tch hS
 have hk:=ext_keep (P:=fun k=>some k=me'.ownBlock) (c:=3) h.x.lt
 have xb:=LHd.role (ρ:=ρ) (h.x.b.same (hs _ (by omega) (by omega))) (fun g q=>(hk g (by omega)).trans q)
 have xj:=LJ.role (ρ:=ρ) (h.x.j.same (hs _ (by omega) (by omega))) (fun g q=>(hk g (by omega)).trans q)
 have xv:=LV.role (ρ:=ρ) (h.x.v.same (hs _ (by omega) (by omega))) (fun g q=>hk g (by rcases q with q | ⟨i,_,q⟩ <;> omega))
 have xk:=LW.role (ρ:=ρ) (h.x.k.same (hs _ (by omega) (by omega))) (fun g q=>hk g (by rcases q with q | ⟨i,_,q⟩ <;> omega))
 have xt:=LT.role (ρ:=ρ) (h.x.t.same (hs _ (by omega) (by omega))) (fun g q=>(hk g (by omega)).trans q)
 refine ⟨ext ρ w.heap.size (fun k=>some k=me'.ownBlock) 3,⟨⟨⟨xb.blk,xb.rl⟩,⟨xj.j,xj.rl⟩,⟨xv.row,xv.len,xv.seg,xv.rr,xv.rs⟩,⟨xk.row,xk.len,xk.one,xk.lst,xk.ok,xk.few,xk.ge,xk.rw,xk.rb,xk.rl⟩,⟨xt.map,xt.rl,xt.ge⟩,ext_lt h.x.lt hm.tch.size hB (fun k q=>(own_block hm.seg.own q).2.1)⟩,⟨hm.seg,fun k q=>?_⟩⟩,⟨hm.tch.mono (fun k _ q=>⟨by rw [(hS k q).1];omega,(hS k q).2⟩),fun k hk2 q=>by rw [ext_old hk2];exact q⟩⟩
 have hold:∀ g,ownS G.ms G.mm G.me g→ext ρ w.heap.size (fun k=>some k=me'.ownBlock) 3 g=3:=fun g q=>by rw [hk g (by rw [h.m.rl g q];omega)];exact h.m.rl g q
 rcases q with q | q | q
 ·exact hold k (Or.inl q)
 ·rcases hm.new k q with q2 | q2
  ·exact hold k (Or.inr (Or.inl q2))
  ·exact ext_new q2 q
 ·exact hold k (Or.inr (Or.inr q))
noncomputable def Gh.put (G:Gh) (i:Nat) (v:Value) (s:Nat) (ev:Value) (mb:Nat):Gh:={ G with lr:=fun j=>if j=i then v else G.lr j,bs:=fun j=>if j=i then G.bs j ++ [s] else G.bs j,se:=fun b=>if b=s then ev else G.se b,sm:=fun b=>if b=s then mb else G.sm b }
def Lg.put (L:Lg) (i:Nat) (es:List Ent):Lg:={ L with lev:=fun j=>if j=i then L.lev j ++ [es] else L.lev j }
theorem lgC_put (G:Gh) (L:Lg) (i:Nat) (hi:i < 6) (v:Value) (s:Nat) (ev:Value) (mb:Nat) (es:List Ent):(lgC G L).setIfInBounds (8 + i) v=lgC (G.put i v s ev mb) (L.put i es):=by
 rcases (show i=0∨i=1∨i=2∨i=3∨i=4∨i=5 by omega) with rfl | rfl | rfl | rfl | rfl | rfl <;> simp [lgC,Gh.put,Lg.put]
theorem lgC_lr (G:Gh) (L:Lg) (i:Nat) (hi:i < 6):(lgC G L)[8 + i]? = some (G.lr i):=by
 rcases (show i=0∨i=1∨i=2∨i=3∨i=4∨i=5 by omega) with rfl | rfl | rfl | rfl | rfl | rfl <;> rfl
theorem LogX.putFin {w W5:World} {ρ:Nat→Nat} {B N lb:Nat} {G:Gh} {L:Lg} (h:LogX w ρ B N lb G L) (hB:B≤w.heap.size) {i:Nat} (hi:i < 6) {s mb:Nat} {es:List Ent} {ev v5:Value} {o:Obj} (hs:SegAt w B s es ev mb) (hr:∀ k,ownS s mb ev k→ρ k=4) (hn:∀ i,i < 6→¬ s ∈ G.bs i)
  (o5:W5.ownsRow B 128 1 v5 ((G.bs i).length + 1) ((G.bs i).map ptrV ++ [ptrV s])) (g6:(w.alloc o).grownBy W5 (G.lr i).ownBlock) (n5:v5.ownBlock=(G.lr i).ownBlock∨v5.ownBlock=some (w.alloc o).heap.size) :
  ∃ ρ',LogX (W5.setCell ⟨lb,8 + i,none⟩ v5) ρ' B N lb (G.put i v5 s ev mb) (L.put i es)∧LStp w (W5.setCell ⟨lb,8 + i,none⟩ v5) ρ ρ'∧(∀ g,ρ g≠0→ρ' g=ρ g)∧Same w (W5.setCell ⟨lb,8 + i,none⟩ v5) ρ (fun c=>c=3):=by
 have ht:Tch (fun k=>some k=(G.lr i).ownBlock) w W5:=⟨g6.os,g6.tape,g6.output,by have:=g6.size;simp at this;omega,fun k hk q=>by rw [g6.block k (by simp;omega) q,_root_.Go.heap_alloc_old w o (r:=k) hk]⟩
 have hS:∀ k,some k=(G.lr i).ownBlock→ρ k=10 + i∧¬ isN w k:=fun k q=>by
  obtain ⟨_,_,D,hD⟩:=own_block (h.v.row i hi) q
  exact ⟨h.v.rr i hi k q,notN hD (by decide)⟩
 have hsm:=h.others ht hS
 have hk:=ext_keep (P:=fun k=>some k=v5.ownBlock) (c:=10 + i) h.lt
 have hlt:=ext_lt (P:=fun k=>some k=v5.ownBlock) (c:=10 + i) h.lt ht.size hB (fun k q=>(own_block o5 q).2.1)
 have hstp:LStp w W5 ρ (ext ρ w.heap.size (fun k=>some k=v5.ownBlock) (10 + i)):=⟨ht.mono (fun k _ q=>⟨by rw [(hS k q).1];omega,(hS k q).2⟩),fun k hk2 q=>by rw [ext_old hk2];exact q⟩
 have hsegs:∀ {s' mb':Nat} {es':List Ent} {ev':Value},SegAt w B s' es' ev' mb'→(∀ k,ownS s' mb' ev' k→ρ k=4)→SegAt W5 B s' es' ev' mb':=fun hs' hr'=>hs'.same (fun g q=>hsm (fun c=>c=4) (by omega) (by omega) g (q.imp (fun q=>hr' g q) id))
 have hse:∀ i',i' < 6→∀ j,j < (G.bs i').length→(G.put i v5 s ev mb).se ((G.bs i').getD j 0)=G.se ((G.bs i').getD j 0)∧(G.put i v5 s ev mb).sm ((G.bs i').getD j 0)=G.sm ((G.bs i').getD j 0):=fun i' hi' j hj=>by
  have hne:(G.bs i').getD j 0≠s:=fun q=>hn i' hi' (by rw [← q];exact getDmem hj)
  exact ⟨if_neg hne,if_neg hne⟩
 have hV:LV W5 (ext ρ w.heap.size (fun k=>some k=v5.ownBlock) (10 + i)) B (G.put i v5 s ev mb) (L.put i es):=by
  refine ⟨fun i' hi'=>?_,fun i' hi'=>?_,fun i' hi' j hj=>?_,fun i' hi' g q=>?_,fun i' hi' j hj k q=>?_⟩
  ·by_cases e:i'=i
   ·subst e
    simp only [Gh.put,if_pos,List.length_append,List.length_singleton,List.map_append,List.map_cons,List.map_nil]
    exact o5
   ·simp only [Gh.put,if_neg e]
    exact own_same (h.v.row i' hi') (fun g q=>hsm (fun c=>c=10 + i') (by omega) (by omega) g (Or.inl (h.v.rr i' hi' g q)))
  ·have:=h.v.len i' hi'
   by_cases e:i'=i
   ·simp [Gh.put,Lg.put,e];rw [← e];exact this
   ·simp [Gh.put,Lg.put,e];exact this
  ·by_cases e:i'=i
   ·subst e
    simp only [Gh.put,if_pos] at hj
    simp only [List.length_append,List.length_singleton] at hj
    have hb:(G.put i' v5 s ev mb).bs i'=G.bs i' ++ [s]:=by simp [Gh.put]
    have hl:(L.put i' es).lev i'=L.lev i' ++ [es]:=by simp [Lg.put]
    rw [hb,hl]
    by_cases hjl:j < (G.bs i').length
    ·have g1:(G.bs i' ++ [s]).getD j 0=(G.bs i').getD j 0:=by simp [List.getD,List.getElem?_append_left hjl]
     have g2:(L.lev i' ++ [es]).getD j []=(L.lev i').getD j []:=by simp [List.getD,List.getElem?_append_left (show j < (L.lev i').length by rw [← h.v.len i' hi'];exact hjl)]
     rw [g1,g2,(hse i' hi' j hjl).1,(hse i' hi' j hjl).2]
     exact hsegs (h.v.seg i' hi' j hjl) (h.v.rs i' hi' j hjl)
    ·have hje:j=(G.bs i').length:=by omega
     have g1:(G.bs i' ++ [s]).getD j 0=s:=by rw [hje];simp [List.getD]
     have g2:(L.lev i' ++ [es]).getD j []=es:=by rw [hje,h.v.len i' hi'];simp [List.getD]
     rw [g1,g2]
     simp only [Gh.put,if_pos]
     exact hsegs hs hr
   ·have hb:(G.put i v5 s ev mb).bs i'=G.bs i':=by simp [Gh.put,e]
    have hl:(L.put i es).lev i'=L.lev i':=by simp [Lg.put,e]
    rw [hb] at hj ⊢
    rw [hl,(hse i' hi' j hj).1,(hse i' hi' j hj).2]
    exact hsegs (h.v.seg i' hi' j hj) (h.v.rs i' hi' j hj)
  ·by_cases e:i'=i
   ·subst e
    have q':some g=v5.ownBlock:=by simpa [Gh.put] using q
    rcases n5 with q5 | q5
    ·rw [q5] at q'
     have:=h.v.rr i' hi' g q'
     rw [hk g (by omega)]
     exact this
    ·rw [q5] at q'
     injection q' with q'
     exact ext_new (by rw [q'];simp) (by rw [q5,q'])
   ·have q':some g=(G.lr i').ownBlock:=by simpa [Gh.put,e] using q
    have:=h.v.rr i' hi' g q'
    rw [hk g (by omega)]
    exact this
  ·have h4:ρ k=4:=by
    by_cases e:i'=i
    ·subst e
     simp only [Gh.put,if_pos] at hj
     simp only [List.length_append,List.length_singleton] at hj
     have hb:(G.put i' v5 s ev mb).bs i'=G.bs i' ++ [s]:=by simp [Gh.put]
     rw [hb] at q
     by_cases hjl:j < (G.bs i').length
     ·have g1:(G.bs i' ++ [s]).getD j 0=(G.bs i').getD j 0:=by simp [List.getD,List.getElem?_append_left hjl]
      rw [g1,(hse i' hi' j hjl).1,(hse i' hi' j hjl).2] at q
      exact h.v.rs i' hi' j hjl k q
     ·have hje:j=(G.bs i').length:=by omega
      have g1:(G.bs i' ++ [s]).getD j 0=s:=by rw [hje];simp [List.getD]
      rw [g1] at q
      simp only [Gh.put,if_pos] at q
      exact hr k q
    ·have hb:(G.put i v5 s ev mb).bs i'=G.bs i':=by simp [Gh.put,e]
     rw [hb] at hj q
     rw [(hse i' hi' j hj).1,(hse i' hi' j hj).2] at q
     exact h.v.rs i' hi' j hj k q
   rw [hk k (by omega)]
   exact h4
 have hb5:LHd W5 (ext ρ w.heap.size (fun k=>some k=v5.ownBlock) (10 + i)) lb G L:=LHd.role (ρ:=ρ) (h.b.same (hsm _ (by omega) (by omega))) (fun g q=>by rw [hk g (by omega)];exact q)
 have xj:=LJ.role (ρ:=ρ) (h.j.same (hsm _ (by omega) (by omega))) (fun g q=>(hk g (by omega)).trans q)
 have xk:=LW.role (ρ:=ρ) (h.k.same (hsm _ (by omega) (by omega))) (fun g q=>hk g (by rcases q with q | ⟨i,_,q⟩ <;> omega))
 have xt:=LT.role (ρ:=ρ) (h.t.same (hsm _ (by omega) (by omega))) (fun g q=>(hk g (by omega)).trans q)
 obtain ⟨r1,r2⟩:=head_set (N:=N) hb5 hlt (8 + i) v5 (lgC_put G L i hi v5 s ev mb es) ⟨xj.j,xj.rl⟩ hV ⟨xk.row,xk.len,xk.one,xk.lst,xk.ok,xk.few,xk.ge,xk.rw,xk.rb,xk.rl⟩ ⟨xt.map,xt.rl,xt.ge⟩
 refine ⟨_,r1,hstp.trans r2,hk,fun g q=>?_⟩
 rw [set_other (fun e=>?_)]
 ·exact hsm (fun c=>c=3) (by omega) (by omega) g q
 ·subst e
  rcases q with q | q
  ·rw [h.b.rl] at q;omega
  ·exact notN h.b.blk (by decide) q
end Go.Proofs.YtkncboinfcnklaaGreatDoor

namespace Go.Proofs.YtkncboinfcnklaaGreatDoor
open Go.RowKit Go.Deep Go.Proofs.YtkncboinfcnklaaGreatDoor.Mth
theorem LogX.lr_ne {w:World} {ρ:Nat→Nat} {B N lb:Nat} {G:Gh} {L:Lg} (h:LogX w ρ B N lb G L) {i:Nat} (hi:i < 6):some lb≠(G.lr i).ownBlock:=fun q=>by
 have:=h.v.rr i hi lb q
 rw [h.b.rl] at this
 omega
set_option maxRecDepth 100000 in
set_option maxHeartbeats 4000000 in
theorem put_log {w:World} {ρ:Nat→Nat} {B N lb:Nat} {G:Gh} {L:Lg} (h:LogX w ρ B N lb G L) (hB:B≤w.heap.size) {i:Nat} (hi:i < 6) {s mb:Nat} {es:List Ent} {ev:Value} (hs:SegAt w B s es ev mb) (hr:∀ k,ownS s mb ev k→ρ k=4) (hn:∀ i,i < 6→¬ s ∈ G.bs i) (hl:(L.lev i).length≤4000000) :
  Calls Tryz.prog 59 #[ptrV lb, .int .i64 (i:Int),ptrV s] w fun e w'=>e=.returned (.tuple #[])∧∃ ρ' v5,LogX w' ρ' B N lb (G.put i v5 s ev mb) (L.put i es)∧LStp w w' ρ ρ'∧(∀ g,ρ g≠0→ρ' g=ρ g)∧Same w w' ρ (fun c=>c=3):=by
 obtain ⟨i0,hi0,hz0,hz1,hz2⟩:=info_parts Tryz.info128
 have hrow:=h.v.row i hi
 have hlen:=h.v.len i hi
 obtain ⟨a,c,hlr,hc,hm⟩:=own_slice hrow
 unfold maxLen at hm
 obtain ⟨c0,f0⟩:=cell_of (j:=8 + i) (u:=G.lr i) h.b.blk (lgC_lr G L i hi)
 have c1:=((below_allocG w (Obj.cells #[ptrV s] 128)).cell (p:=⟨lb,8 + i,none⟩) (World.block_lt_of_cell? _ _ c0)).trans c0
 have FIN:Hid (∀ v5 W5,W5.ownsRow B 128 1 v5 ((G.bs i).length + 1) ((G.bs i).map ptrV ++ [ptrV s])→(w.alloc (Obj.cells #[ptrV s] 128)).grownBy W5 (G.lr i).ownBlock→(v5.ownBlock=(G.lr i).ownBlock∨v5.ownBlock=some (w.alloc (Obj.cells #[ptrV s] 128)).heap.size)→(W5.cell? ⟨lb,8 + i,none⟩=some (G.lr i)∧W5.frozen? ⟨lb,8 + i,none⟩=false)∧∃ ρ',LogX (W5.setCell ⟨lb,8 + i,none⟩ v5) ρ' B N lb (G.put i v5 s ev mb) (L.put i es)∧LStp w (W5.setCell ⟨lb,8 + i,none⟩ v5) ρ ρ'∧(∀ g,ρ g≠0→ρ' g=ρ g)∧Same w (W5.setCell ⟨lb,8 + i,none⟩ v5) ρ (fun c=>c=3)):=fun v5 W5 o5 g6 n5=>⟨cell_of (beside g6 h.b.blk (h.lr_ne hi)) (lgC_lr G L i hi),h.putFin hB hi hs hr hn o5 g6 n5⟩
 have HROW:=hide hrow
 rw [hlr] at c0 c1 FIN HROW
 have hbl:(G.bs i).length≤4000000:=by omega
 have hi6:(i:Int) < 6:=by omega
 clear hrow hlen h hs hr hn hlr
 generalize (G.bs i).map ptrV=xs at *
 generalize hn:(G.bs i).length=n at *
 clear hn
 go_enter Tryz.func59,Tryz.ntmps59
 go_wp2_with fail
 go_region_law (refine step_own_at _ rfl _ _ 129 rfl B 128 i0 (.pointer none) 1 8 Tryz.underlying129 hi0 hz0 hz1 hz2 rfl (by decide) _ _ _ rfl (by exact HROW.out.alloc _) ⟨w.heap.size,0,none⟩ 1 1 [ptrV s] rfl rfl (by exact cells_new w.drew _ _ _ rfl) (by intro u hu;simp at hu;rw [hu];rfl) (by unfold maxLen;omega) (by omega) (by simp;omega) ?_;intro v5 W5 o5 g5 n5;obtain ⟨a5,c5,rfl,_,_⟩:=own_slice o5;have g6:(w.alloc (Obj.cells #[ptrV s] 128)).grownBy W5 (Value.slice a n c).ownBlock:=⟨g5.os,g5.tape,g5.output,g5.size,g5.block⟩;obtain ⟨⟨fb,ff⟩,ρ',hx⟩:=FIN.out _ W5 o5 g6 n5;have HX:=hide hx;clear o5 g5 g6 n5 hx)
 all_goals (
  go_wp2
  go_end0
  exact ⟨rfl,ρ',_,HX.out⟩)
end Go.Proofs.YtkncboinfcnklaaGreatDoor

namespace Go.Proofs.YtkncboinfcnklaaGreatDoor
open Go.RowKit Go.Deep Go.Proofs.YtkncboinfcnklaaGreatDoor.Mth
theorem getD_set {α:Type} {l:List α} {q:Nat} (hq:q < l.length) (x z:α) (i:Nat):(l.set q x).getD i z=if i=q then x else l.getD i z:=by
 by_cases h:i=q
 ·subst h
  rw [if_pos rfl]
  simp [List.getD,hq]
 ·rw [if_neg h]
  simp [List.getD,Ne.symm h]
theorem LogX.wkFin {w w':World} {ρ:Nat→Nat} {B N lb:Nat} {G:Gh} {L:Lg} (h:LogX w ρ B N lb G L) (hB:B≤w.heap.size) {q:Nat} (hq:q < L.wks.length) (k':Wk) (v':Value) (ht:Tch (fun g=>g=G.wb.getD q 0∨some g=(G.wl q).ownBlock) w w')
  (hblk:w'.heap[G.wb.getD q 0]? = some (Obj.cells (wkC lb (G.wb.getD q 0) k' v') 139 (0,0))) (hown:w'.ownsRow B 137 2 v' k'.list.length (k'.list.flatMap tkC)) (hnew:∀ g,some g=v'.ownBlock→some g=(G.wl q).ownBlock∨w.heap.size≤g) (hok:WkOk k'∧k'.list.Nodup) :
  ∃ ρ',LogX w' ρ' B N lb { G with wl:=fun j=>if j=q then v' else G.wl j } { L with wks:=L.wks.set q k' }∧LStp w w' ρ ρ'∧(∀ g,ρ g≠0→ρ' g=ρ g)∧Same w w' ρ (fun c=>c=3):=by
 have hS:∀ k,(k=G.wb.getD q 0∨some k=(G.wl q).ownBlock)→ρ k=20 + q∧¬ isN w k:=by
  rintro k (e | e)
  ·rw [e]
   exact ⟨h.k.rb q hq,notN (h.k.one q hq) (by decide)⟩
  ·obtain ⟨_,_,D,hD⟩:=own_block (h.k.lst q hq) e
   exact ⟨h.k.rl q hq k e,notN hD (by decide)⟩
 have hs:=h.others ht hS
 have hk:=ext_keep (P:=fun k=>some k=v'.ownBlock) (c:=20 + q) h.lt
 have xb:=LHd.role (ρ:=ρ) (h.b.same (hs _ (by omega) (by omega))) (fun g q=>(hk g (by omega)).trans q)
 have xj:=LJ.role (ρ:=ρ) (h.j.same (hs _ (by omega) (by omega))) (fun g q=>(hk g (by omega)).trans q)
 have xv:=LV.role (ρ:=ρ) (h.v.same (hs _ (by omega) (by omega))) (fun g q=>hk g (by rcases q with q | ⟨i,_,q⟩ <;> omega))
 have xt:=LT.role (ρ:=ρ) (h.t.same (hs _ (by omega) (by omega))) (fun g q=>(hk g (by omega)).trans q)
 have hlen:(L.wks.set q k').length=L.wks.length:=by simp
 have hsame:∀ i,i < L.wks.length→i≠q→Same w w' ρ (fun c=>c=20 + i):=fun i _ hne=>hs _ (by omega) (by omega)
 have xk:LW w' (ext ρ w.heap.size (fun k=>some k=v'.ownBlock) (20 + q)) B lb { G with wl:=fun j=>if j=q then v' else G.wl j } { L with wks:=L.wks.set q k' }:=by
  refine ⟨own_same h.k.row (fun g e=>hs (fun c=>c=5) (by omega) (by omega) g (Or.inl (h.k.rw g e))),by show G.wb.length=(L.wks.set q k').length;rw [hlen];exact h.k.len,fun i hi=>?_,fun i hi=>?_,fun i hi=>?_,by show 0 < (L.wks.set q k').length∧(L.wks.set q k').length≤4;rw [hlen];exact h.k.few,fun i hi=>?_,fun g e=>(hk g (by rw [h.k.rw g e];omega)).trans (h.k.rw g e),fun i hi=>?_,fun i hi g e=>?_⟩
  all_goals (
   have hi':i < L.wks.length:=by
    have hi2:i < (L.wks.set q k').length:=hi
    rw [hlen] at hi2
    exact hi2)
  ·show w'.heap[G.wb.getD i 0]? = some (Obj.cells (wkC lb (G.wb.getD i 0) ((L.wks.set q k').getD i wk0) (if i=q then v' else G.wl i)) 139 (0,0))
   rw [getD_set hq]
   by_cases e:i=q
   ·rw [if_pos e,if_pos e,e];exact hblk
   ·rw [if_neg e,if_neg e]
    exact (hsame i hi' e _ (Or.inl (h.k.rb i hi'))).trans (h.k.one i hi')
  ·show w'.ownsRow B 137 2 (if i=q then v' else G.wl i) ((L.wks.set q k').getD i wk0).list.length (((L.wks.set q k').getD i wk0).list.flatMap tkC)
   rw [getD_set hq]
   by_cases e:i=q
   ·rw [if_pos e,if_pos e];exact hown
   ·rw [if_neg e,if_neg e]
    exact own_same (h.k.lst i hi') (fun g e2=>hsame i hi' e g (Or.inl (h.k.rl i hi' g e2)))
  ·show WkOk ((L.wks.set q k').getD i wk0)∧((L.wks.set q k').getD i wk0).list.Nodup
   rw [getD_set hq]
   by_cases e:i=q
   ·rw [if_pos e];exact hok
   ·rw [if_neg e];exact h.k.ok i hi'
  ·exact h.k.ge i hi'
  ·show ext ρ w.heap.size (fun k=>some k=v'.ownBlock) (20 + q) (G.wb.getD i 0)=20 + i
   rw [hk _ (by rw [h.k.rb i hi'];omega)]
   exact h.k.rb i hi'
  ·have e':some g=(if i=q then v' else G.wl i).ownBlock:=e
   by_cases e2:i=q
   ·rw [if_pos e2] at e'
    rcases hnew g e' with e3 | e3
    ·have:=h.k.rl q hq g e3
     rw [hk g (by omega),e2]
     exact this
    ·rw [e2]
     exact ext_new e3 e'
   ·rw [if_neg e2] at e'
    have:=h.k.rl i hi' g e'
    rw [hk g (by omega)]
    exact this
 refine ⟨ext ρ w.heap.size (fun k=>some k=v'.ownBlock) (20 + q),⟨⟨?_,xb.rl⟩,⟨xj.j,xj.rl⟩,⟨xv.row,xv.len,xv.seg,xv.rr,xv.rs⟩,xk,⟨xt.map,xt.rl,xt.ge⟩,ext_lt h.lt ht.size hB (fun k e=>(own_block hown e).2.1)⟩,⟨ht.mono (fun k _ e=>⟨by rw [(hS k e).1];omega,(hS k e).2⟩),fun k hk2 e=>by rw [ext_old hk2];exact e⟩,hk,hs _ (by omega) (by omega)⟩
 have hC:lgC { G with wl:=fun j=>if j=q then v' else G.wl j } { L with wks:=L.wks.set q k' }=lgC G L:=by
  unfold lgC
  simp
 rw [hC]
 exact xb.blk
theorem nodup_len:∀ (n:Nat) (l:List Nat),l.Nodup→(∀ y ∈ l,y < n)→l.length≤n
 | 0,l,_,h=>by
  cases l with
  | nil=>simp
  | cons a l=>have:=h a (by simp);omega
 | n + 1,l,hd,h=>by
  by_cases hm:n ∈ l
  ·have h1:=nodup_len n (l.erase n) (hd.erase n) (fun y hy=>by
    have h2:=(List.Nodup.mem_erase_iff hd).1 hy
    have:=h y h2.2
    omega)
   rw [List.length_erase_of_mem hm] at h1
   omega
  ·have h1:=nodup_len n l hd (fun y hy=>by
    have:=h y hy
    have:y≠n:=fun e=>hm (by rw [← e];exact hy)
    omega)
   omega
theorem wk_len {k:Wk} (h:WkOk k∧k.list.Nodup):k.list.length≤5:=nodup_len 5 _ h.2 (fun y hy=>by have:=h.1.1 y hy;omega)
def hasT (ks:List Wk) (i:Nat):Bool:=ks.any (fun k=>tkIn k i)
def layOne (fan:Nat) (n:Nat→Nat) (ks:List Wk) (i:Nat):List Wk:=
 if fan≤n i∧hasT ks i=false then ks.set (i % ks.length) ⟨(ks.getD (i % ks.length) wk0).list ++ [i],(ks.getD (i % ks.length) wk0).runs,(ks.getD (i % ks.length) wk0).read⟩ else ks
def layTo (fan:Nat) (n:Nat→Nat) (ks:List Wk):Nat→List Wk
 | 0=>ks
 | i + 1=>layOne fan n (layTo fan n ks i) i
theorem tkC_at:∀ {l:List Nat} {j:Nat},j < l.length→(l.flatMap tkC)[j * 2]? = some (.int .i64 ((l.getD j 0:Nat):Int))∧(l.flatMap tkC)[j * 2 + 1]? = some (.int .i64 (((l.getD j 0:Nat):Int) + 1))
 | f :: l,0,_=>by simp [tkC]
 | f :: l,j + 1,h=>by
  obtain ⟨a,b⟩:=tkC_at (l:=l) (j:=j) (by simpa using h)
  rw [List.flatMap_cons]
  refine ⟨?_,?_⟩
  ·rw [List.getElem?_append_right (by simp [tkC];omega)];simpa [tkC,show (j + 1) * 2 - 2=j * 2 by omega] using a
  ·rw [List.getElem?_append_right (by simp [tkC];omega)];simpa [tkC,show (j + 1) * 2 + 1 - 2=j * 2 + 1 by omega] using b
theorem rdTk_own {w:World} {B:Nat} {v:Value} {l:List Nat} (h:w.ownsRow B 137 2 v l.length (l.flatMap tkC)):RdTk w v l:=by
 obtain ⟨a,c,rfl,hc,hm⟩:=own_slice h
 refine ⟨a,c,rfl,hc,hm,?_⟩
 by_cases h0:l=[]
 ·exact Or.inl h0
 ·obtain ⟨g,rfl⟩:=own_some h (List.length_pos_iff.2 h0)
  refine Or.inr ⟨g,rfl,fun j hj=>?_⟩
  obtain ⟨d0,d1⟩:=tkC_at (l:=l) hj
  exact ⟨own_get h d0,own_get h d1⟩
theorem rdP_own {w:World} {B:Nat} {e:TypeId} {v:Value} {bs:List Nat} (h:w.ownsRow B e 1 v bs.length (bs.map ptrV)):RdP w v bs:=by
 obtain ⟨a,c,rfl,hc,hm⟩:=own_slice h
 refine ⟨a,c,rfl,hc,hm,?_⟩
 by_cases h0:bs=[]
 ·exact Or.inl h0
 ·obtain ⟨g,rfl⟩:=own_some h (List.length_pos_iff.2 h0)
  refine Or.inr ⟨g,0,rfl,fun j hj=>?_⟩
  rw [Nat.zero_add]
  refine own_get h ?_
  rw [List.getElem?_map,List.getElem?_eq_getElem hj]
  simp [List.getD,hj]
theorem LogX.wksRd {w:World} {ρ:Nat→Nat} {B N lb:Nat} {G:Gh} {L:Lg} (h:LogX w ρ B N lb G L):WksRd w lb G.wr G.wb L.wks:=
 ⟨rdP_own h.k.row,h.k.len,fun i hi=>⟨G.wl i,h.k.one i hi,rdTk_own (h.k.lst i hi)⟩,fun i hi=>(h.k.ok i hi).1,h.k.few.2⟩
end Go.Proofs.YtkncboinfcnklaaGreatDoor

namespace Go.Proofs.YtkncboinfcnklaaGreatDoor
open Go.RowKit Go.Deep Go.Proofs.YtkncboinfcnklaaGreatDoor.Mth
set_option maxHeartbeats 1000000 in
theorem isFull_any {w:World} {ρ:Nat→Nat} {B N lb:Nat} {G:Gh} {L:Lg} (h:LogAt w ρ B N lb G L) :
  Calls Tryz.prog 57 #[ptrV lb] w fun e w'=>e=.returned (.bool (decide (L.memory≤L.mem.length)))∧Below w.heap.size w w':=by
 obtain ⟨c0,_⟩:=cell_of (j:=0) (u:=.int .i64 (L.memory:Int)) h.x.b.blk rfl
 obtain ⟨c7,_⟩:=cell_of (j:=7) (u:=ptrV G.ms) h.x.b.blk rfl
 obtain ⟨a,c,hme,hc,hm⟩:=own_slice h.m.seg.own
 obtain ⟨d0,_⟩:=cell_of (j:=0) (u:=G.me) h.m.seg.blk rfl
 rw [hme] at d0
 unfold maxLen at hm
 clear h hme
 generalize L.mem.length=n at *
 generalize L.memory=m at *
 have hd:decide ((m:Int)≤(n:Int))=decide (m≤n):=by simp
 go_enter Tryz.func57,Tryz.ntmps57
 go_wp2_with fail
 go_quiet (fail)
 go_wp2
 go_ret
 exact ⟨by first | rfl | (rw [← hd];rfl) | simp,drewG w _⟩
theorem layOne_len (fan:Nat) (n:Nat→Nat) (ks:List Wk) (i:Nat):(layOne fan n ks i).length=ks.length:=by
 unfold layOne
 split <;> simp
theorem layTo_len (fan:Nat) (n:Nat→Nat) (ks:List Wk):∀ i,(layTo fan n ks i).length=ks.length
 | 0=>rfl
 | i + 1=>by rw [layTo,layOne_len,layTo_len fan n ks i]
end Go.Proofs.YtkncboinfcnklaaGreatDoor

namespace Go.Proofs.YtkncboinfcnklaaGreatDoor
open Go.RowKit Go.Deep Go.Proofs.YtkncboinfcnklaaGreatDoor.Mth
structure Laid (w w':World) (ρ:Nat→Nat) (B N lb:Nat) (G:Gh) (L:Lg) (ks:List Wk):Prop where
 ex:∃ ρ' wl',LogX w' ρ' B N lb { G with wl:=wl' } { L with wks:=ks }∧LStp w w' ρ ρ'∧(∀ g,ρ g≠0→ρ' g=ρ g)∧Same w w' ρ (fun c=>c=3)
set_option maxRecDepth 100000 in
set_option maxHeartbeats 8000000 in
theorem lay_round {w:World} {ρ:Nat→Nat} {B N lb:Nat} {G:Gh} {L:Lg} (h:LogX w ρ B N lb G L) (hB:B≤w.heap.size) {k:Nat} (hk:k < 5) (hf:L.fan≤(L.lev k).length) (hh:hasT L.wks k=false) {v5:Value} {W5:World} {o:Obj}
  (o5:W5.ownsRow B 137 2 v5 ((L.wks.getD (k % L.wks.length) wk0).list.length + 1) ((L.wks.getD (k % L.wks.length) wk0).list.flatMap tkC ++ tkC k)) (g6:(w.alloc o).grownBy W5 (G.wl (k % L.wks.length)).ownBlock) (n5:v5.ownBlock=(G.wl (k % L.wks.length)).ownBlock∨v5.ownBlock=some (w.alloc o).heap.size) :
  Laid w (W5.setCell ⟨G.wb.getD (k % L.wks.length) 0,1,none⟩ v5) ρ B N lb G L (layOne L.fan (fun i=>(L.lev i).length) L.wks k):=by
 have hq:k % L.wks.length < L.wks.length:=Nat.mod_lt _ h.k.few.1
 generalize hqq:k % L.wks.length=q at *
 have hne:some (G.wb.getD q 0)≠(G.wl q).ownBlock:=fun e=>by
  obtain ⟨_,_,D,hD⟩:=own_block (h.k.lst q hq) e
  exact cells_ne (h.k.one q hq) hD (by decide) rfl
 have hb5:=beside g6 (h.k.one q hq) hne
 have hmem:¬ k ∈ (L.wks.getD q wk0).list:=fun hm=>by
  have:hasT L.wks k=true:=List.any_eq_true.2 ⟨L.wks.getD q wk0,getDmem hq,by unfold tkIn;rw [decide_eq_true hm,Bool.or_true]⟩
  rw [hh] at this
  cases this
 obtain ⟨ρ',r1,r2,r3,r4⟩:=h.wkFin (w':=W5.setCell ⟨G.wb.getD q 0,1,none⟩ v5) hB hq ⟨(L.wks.getD q wk0).list ++ [k],(L.wks.getD q wk0).runs,(L.wks.getD q wk0).read⟩ v5
  ⟨g6.os,g6.tape,g6.output,by have:=g6.size;simp at this ⊢;omega,fun g hg e=>by rw [set_other (fun q'=>e (Or.inl q')),g6.block g (by simp;omega) (fun q'=>e (Or.inr q')),_root_.Go.heap_alloc_old w o (r:=g) hg]⟩
  (by rw [setCell_blk hb5];rfl)
  (own_set_other (by simpa [List.flatMap_append] using o5) hb5 (by decide))
  (fun g e=>by
   rcases n5 with q5 | q5
   ·rw [q5] at e;exact Or.inl e
   ·rw [q5] at e;injection e with e;right;rw [e];simp)
  ⟨⟨fun y hy=>by
   rcases List.mem_append.1 hy with hy | hy
   ·exact (h.k.ok q hq).1.1 y hy
   ·simp at hy;omega,(h.k.ok q hq).1.2⟩,by
   rw [List.nodup_append]
   refine ⟨(h.k.ok q hq).2,by simp,fun a ha b hb e=>?_⟩
   simp at hb
   exact hmem (by rw [← hb,← e];exact ha)⟩
 have he:layOne L.fan (fun i=>(L.lev i).length) L.wks k=L.wks.set q ⟨(L.wks.getD q wk0).list ++ [k],(L.wks.getD q wk0).runs,(L.wks.getD q wk0).read⟩:=by
  unfold layOne
  rw [if_pos ⟨hf,hh⟩,hqq]
 rw [he]
 exact ⟨⟨ρ',_,r1,r2,r3,r4⟩⟩
theorem Laid.of_below {w w':World} {ρ:Nat→Nat} {B N lb:Nat} {G:Gh} {L:Lg} (h:LogX w ρ B N lb G L) (hb:Below w.heap.size w w') {ks:List Wk} (he:ks=L.wks):Laid w w' ρ B N lb G L ks:=by
 subst he
 exact ⟨⟨ρ,G.wl,h.below hb,⟨tch_below hb,fun _ _ q=>q⟩,fun _ _=>rfl,Same.below h.lt (by omega) hb⟩⟩
end Go.Proofs.YtkncboinfcnklaaGreatDoor
