import Derived.Test.YtkncboinfcnklaaGreatDoorQ11
set_option maxRecDepth 100000
set_option maxHeartbeats 8000000
namespace Go.Proofs.YtkncboinfcnklaaGreatDoor
open Go.RowKit Go.Deep Go.Proofs.YtkncboinfcnklaaGreatDoor.Mth
theorem yX {w:World}{k k':Nat}{C C':Array Value}{t t':TypeId}{fr fr':Nat × Nat}(h:w.heap[k]? = some (Obj.cells C t fr)) (h':w.heap[k']? = some (Obj.cells C' t' fr')) (hne:t≠t'):k≠k':=by
 intro q;rw[q,h']at h
 injection h with h
 injection h with _ h _
 exact hne h.symm
theorem qI {w:World}{k:Nat}{C:Array Value}{t:TypeId}{fr:Nat × Nat}(h:w.heap[k]? = some (Obj.cells C t fr)) (hne:t≠325):¬wM w k:=fun⟨_C',_fr',q⟩=>yX h q hne rfl
theorem uP {w:World}{ρ:Nat→Nat}{B N lb:Nat}{G G':Gh}{L L':Lg}(hb:LHd w ρ lb G L) (hlt:∀k,ρ k≠0→k<w.heap.size∧B≤k) (j:Nat) (v:Value) (hC:(mJ G L).setIfInBounds j v=mJ G' L') (hj:LJ w ρ B G' L') (hv:LV w ρ B G' L') (hk:LW w ρ B lb G' L') (ht:LT w ρ B N G' L') :
  LogX (w.setCell ⟨lb,j,none⟩ v) ρ B N lb G' L'∧LStp w (w.setCell ⟨lb,j,none⟩ v) ρ ρ:=by
 have hn:=qI hb.blk (by decide)
 have hs:∀d:Nat→Prop,¬d 1→Same w (w.setCell ⟨lb,j,none⟩ v) ρ d:=by
  intro d hd g q;refine zt (fun e=>?_);subst e
  rcases q with q|q
  ·rw[hb.rl]at q;exact hd q
  ·exact hn q
 refine⟨⟨⟨?_,hb.rl⟩,hj.same (hs _ (by omega)),hv.same (hs _ (by omega)),hk.same (hs _ (by omega)),ht.same (hs _ (by omega)),fun k q=>by simpa using hlt k q⟩,⟨rfl,rfl,rfl,by simp,fun k _ q=>zt (fun e=>q ⟨by rw[e,hb.rl];omega,by rw[e];exact hn⟩)⟩,fun _ _ q=>q⟩;rw[ze hb.blk,hC]
theorem LogX.jStep {w w':World}{ρ:Nat→Nat}{B N lb:Nat}{G:Gh}{L:Lg}(h:LogX w ρ B N lb G L) (hB:B≤w.heap.size){dt':ByteArray}{sf':Nat}{left':Int}{fv':Value}{clock' count':Nat}(hj:JStp w w' B G.jb G.db G.sb G.fv (jf dt' sf') left' fv' clock' count') :
  LogX w' (ext ρ w.heap.size (fun k=>some k=fv'.ownBlock) 2) B N lb { G with fv:=fv',dt:=dt',sf:=sf',left:=left' } { L with clock:=clock',count:=count' }∧LStp w w' ρ (ext ρ w.heap.size (fun k=>some k=fv'.ownBlock) 2)∧(∀d:Nat→Prop,¬d 2→¬d 0→Same w w' ρ d):=by
 have hS:∀k,vr G.jb G.db G.sb G.fv k→ρ k=2∧¬wM w k:=fun k q=>⟨h.j.rl k q,(h.j.j.ownLt q).2.2⟩
 have hs:=h.others hj.tch hS;have hk:=xC (P:=fun k=>some k=fv'.ownBlock) (c:=2) h.lt;have xb:=LHd.role (ρ:=ρ) (h.b.same (hs _ (by omega) (by omega))) (fun g q=>(hk g (by omega)).trans q);have xv:=LV.role (ρ:=ρ) (h.v.same (hs _ (by omega) (by omega))) (fun g q=>hk g (by rcases q with q|⟨i,_,q⟩ <;> omega));have xk:=LW.role (ρ:=ρ) (h.k.same (hs _ (by omega) (by omega))) (fun g q=>hk g (by rcases q with q|⟨i,_,q⟩ <;> omega));have xt:=LT.role (ρ:=ρ) (h.t.same (hs _ (by omega) (by omega))) (fun g q=>(hk g (by omega)).trans q);refine⟨⟨⟨xb.blk,xb.rl⟩,⟨hj.j,fun k q=>?_⟩,⟨xv.row,xv.len,xv.seg,xv.rr,xv.rs⟩,⟨xk.row,xk.len,xk.one,xk.lst,xk.ok,xk.few,xk.ge,xk.rw,xk.rb,xk.rl⟩,⟨xt.map,xt.rl,xt.ge⟩,tu h.lt hj.tch.size hB (fun k q=>(zw hj.j.st.own q).2.1)⟩,⟨hj.tch.mono (fun k _ q=>⟨by rw[(hS k q).1];omega,(hS k q).2⟩),fun k hk2 q=>by rw[wm hk2];exact q⟩,hs⟩
 have hold:∀g,vr G.jb G.db G.sb G.fv g→ext ρ w.heap.size (fun k=>some k=fv'.ownBlock) 2 g=2:=fun g q=>by rw[hk g (by rw[h.j.rl g q];omega)];exact h.j.rl g q
 rcases q with q|q|q|q
 ·exact hold k (Or.inl q)
 ·exact hold k (Or.inr (Or.inl q))
 ·exact hold k (Or.inr (Or.inr (Or.inl q)))
 ·rcases hj.new k q with q2|q2
  ·exact hold k (Or.inr (Or.inr (Or.inr q2)))
  ·exact vQ q2 q
theorem LogAt.jStep {w w':World}{ρ:Nat→Nat}{B N lb:Nat}{G:Gh}{L:Lg}(h:LogAt w ρ B N lb G L) (hB:B≤w.heap.size){dt':ByteArray}{sf':Nat}{left':Int}{fv':Value}{clock' count':Nat}(hj:JStp w w' B G.jb G.db G.sb G.fv (jf dt' sf') left' fv' clock' count') :
  ∃ρ',LogAt w' ρ' B N lb { G with fv:=fv',dt:=dt',sf:=sf',left:=left' } { L with clock:=clock',count:=count' }∧LStp w w' ρ ρ':=by
 obtain⟨h1,h2,hs⟩:=h.x.jStep hB hj;have hk:=xC (P:=fun k=>some k=fv'.ownBlock) (c:=2) h.x.lt;have xm:=LM.role (ρ:=ρ) (h.m.same (hs _ (by omega) (by omega))) (fun g q=>(hk g (by omega)).trans q);exact⟨_,⟨h1,⟨xm.seg,xm.rl⟩⟩,h2⟩
theorem LogAt.mStep {w w':World}{ρ:Nat→Nat}{B N lb:Nat}{G:Gh}{L:Lg}(h:LogAt w ρ B N lb G L) (hB:B≤w.heap.size){es':List Ent}{me':Value}(hm:SegStp w w' B G.ms G.mm G.me es' me') :
  ∃ρ',LogAt w' ρ' B N lb { G with me:=me' } { L with mem:=es' }∧LStp w w' ρ ρ':=by
 have hS:∀k,yA G.ms G.mm G.me k→ρ k=3∧¬wM w k:=fun k q=>⟨h.m.rl k q,(h.m.seg.ownLt q).2.2⟩
 have hs:=h.x.others hm.tch hS;have hk:=xC (P:=fun k=>some k=me'.ownBlock) (c:=3) h.x.lt;have xb:=LHd.role (ρ:=ρ) (h.x.b.same (hs _ (by omega) (by omega))) (fun g q=>(hk g (by omega)).trans q);have xj:=LJ.role (ρ:=ρ) (h.x.j.same (hs _ (by omega) (by omega))) (fun g q=>(hk g (by omega)).trans q);have xv:=LV.role (ρ:=ρ) (h.x.v.same (hs _ (by omega) (by omega))) (fun g q=>hk g (by rcases q with q|⟨i,_,q⟩ <;> omega));have xk:=LW.role (ρ:=ρ) (h.x.k.same (hs _ (by omega) (by omega))) (fun g q=>hk g (by rcases q with q|⟨i,_,q⟩ <;> omega));have xt:=LT.role (ρ:=ρ) (h.x.t.same (hs _ (by omega) (by omega))) (fun g q=>(hk g (by omega)).trans q);refine⟨ext ρ w.heap.size (fun k=>some k=me'.ownBlock) 3,⟨⟨⟨xb.blk,xb.rl⟩,⟨xj.j,xj.rl⟩,⟨xv.row,xv.len,xv.seg,xv.rr,xv.rs⟩,⟨xk.row,xk.len,xk.one,xk.lst,xk.ok,xk.few,xk.ge,xk.rw,xk.rb,xk.rl⟩,⟨xt.map,xt.rl,xt.ge⟩,tu h.x.lt hm.tch.size hB (fun k q=>(zw hm.seg.own q).2.1)⟩,⟨hm.seg,fun k q=>?_⟩⟩,⟨hm.tch.mono (fun k _ q=>⟨by rw[(hS k q).1];omega,(hS k q).2⟩),fun k hk2 q=>by rw[wm hk2];exact q⟩⟩
 have hold:∀g,yA G.ms G.mm G.me g→ext ρ w.heap.size (fun k=>some k=me'.ownBlock) 3 g=3:=fun g q=>by rw[hk g (by rw[h.m.rl g q];omega)];exact h.m.rl g q
 rcases q with q|q|q
 ·exact hold k (Or.inl q)
 ·rcases hm.new k q with q2|q2
  ·exact hold k (Or.inr (Or.inl q2))
  ·exact vQ q2 q
 ·exact hold k (Or.inr (Or.inr q))
noncomputable def Gh.put (G:Gh) (i:Nat) (v:Value) (s:Nat) (ev:Value) (mb:Nat):Gh:={ G with lr:=fun j=>if j=i then v else G.lr j,bs:=fun j=>if j=i then G.bs j++[s] else G.bs j,se:=fun b=>if b=s then ev else G.se b,sm:=fun b=>if b=s then mb else G.sm b }
def Lg.put (L:Lg) (i:Nat) (es:List Ent):Lg:={ L with lev:=fun j=>if j=i then L.lev j++[es] else L.lev j }
theorem cG (G:Gh) (L:Lg) (i:Nat) (hi:i<6) (v:Value) (s:Nat) (ev:Value) (mb:Nat) (es:List Ent):(mJ G L).setIfInBounds (8+i) v=mJ (G.put i v s ev mb) (L.put i es):=by
 rcases(show i=0∨i=1∨i=2∨i=3∨i=4∨i=5 by omega)with rfl|rfl|rfl|rfl|rfl|rfl <;> simp[mJ,Gh.put,Lg.put]
theorem ut (G:Gh) (L:Lg) (i:Nat) (hi:i<6):(mJ G L)[8+i]? = some (G.lr i):=by
 rcases(show i=0∨i=1∨i=2∨i=3∨i=4∨i=5 by omega)with rfl|rfl|rfl|rfl|rfl|rfl <;> rfl
theorem LogX.putFin {w W5:World}{ρ:Nat→Nat}{B N lb:Nat}{G:Gh}{L:Lg}(h:LogX w ρ B N lb G L) (hB:B≤w.heap.size){i:Nat}(hi:i<6){s mb:Nat}{es:List Ent}{ev v5:Value}{o:Obj}(hs:SegAt w B s es ev mb) (hr:∀k,yA s mb ev k→ρ k=4) (hn:∀i,i<6→¬s∈G.bs i)
  (o5:W5.ownsRow B 128 1 v5 ((G.bs i).length+1) ((G.bs i).map zr++[zr s])) (g6:(w.alloc o).grownBy W5 (G.lr i).ownBlock) (n5:v5.ownBlock=(G.lr i).ownBlock∨v5.ownBlock=some (w.alloc o).heap.size) :
  ∃ρ',LogX (W5.setCell ⟨lb,8+i,none⟩ v5) ρ' B N lb (G.put i v5 s ev mb) (L.put i es)∧LStp w (W5.setCell ⟨lb,8+i,none⟩ v5) ρ ρ'∧(∀g,ρ g≠0→ρ' g=ρ g)∧Same w (W5.setCell ⟨lb,8+i,none⟩ v5) ρ (fun c=>c=3):=by
 have ht:Tch (fun k=>some k=(G.lr i).ownBlock) w W5:=⟨g6.os,g6.tape,g6.output,by have:=g6.size;simp at this;omega,fun k hk q=>by rw[g6.block k (by simp;omega) q,Mth.uC w o (r:=k) hk]⟩
 have hS:∀k,some k=(G.lr i).ownBlock→ρ k=10+i∧¬wM w k:=fun k q=>by
  obtain⟨_,_,D,hD⟩:=zw (h.v.row i hi) q;exact⟨h.v.rr i hi k q,qI hD (by decide)⟩
 have hsm:=h.others ht hS;have hk:=xC (P:=fun k=>some k=v5.ownBlock) (c:=10+i) h.lt;have hlt:=tu (P:=fun k=>some k=v5.ownBlock) (c:=10+i) h.lt ht.size hB (fun k q=>(zw o5 q).2.1);have hstp:LStp w W5 ρ (ext ρ w.heap.size (fun k=>some k=v5.ownBlock) (10+i)):=⟨ht.mono (fun k _ q=>⟨by rw[(hS k q).1];omega,(hS k q).2⟩),fun k hk2 q=>by rw[wm hk2];exact q⟩
 have hsegs:∀ {s' mb':Nat}{es':List Ent}{ev':Value},SegAt w B s' es' ev' mb'→(∀k,yA s' mb' ev' k→ρ k=4)→SegAt W5 B s' es' ev' mb':=fun hs' hr'=>hs'.same (fun g q=>hsm (fun c=>c=4) (by omega) (by omega) g (q.imp (fun q=>hr' g q) id))
 have hse:∀i',i'<6→∀j,j<(G.bs i').length→(G.put i v5 s ev mb).se ((G.bs i').getD j 0)=G.se ((G.bs i').getD j 0)∧(G.put i v5 s ev mb).sm ((G.bs i').getD j 0)=G.sm ((G.bs i').getD j 0):=fun i' hi' j hj=>by
  have hne:(G.bs i').getD j 0≠s:=fun q=>hn i' hi' (by rw[←q];exact yI hj)
  exact⟨if_neg hne,if_neg hne⟩
 have hV:LV W5 (ext ρ w.heap.size (fun k=>some k=v5.ownBlock) (10+i)) B (G.put i v5 s ev mb) (L.put i es):=by
  refine⟨fun i' hi'=>?_,fun i' hi'=>?_,fun i' hi' j hj=>?_,fun i' hi' g q=>?_,fun i' hi' j hj k q=>?_⟩
  ·by_cases e:i'=i
   ·subst e;simp only[Gh.put,if_pos,List.length_append,List.length_singleton,List.map_append,List.map_cons,List.map_nil];exact o5
   ·simp only[Gh.put,if_neg e];exact zn (h.v.row i' hi') (fun g q=>hsm (fun c=>c=10+i') (by omega) (by omega) g (Or.inl (h.v.rr i' hi' g q)))
  ·have:=h.v.len i' hi';by_cases e:i'=i
   ·simp[Gh.put,Lg.put,e];rw[←e];exact this
   ·simp[Gh.put,Lg.put,e];exact this
  ·by_cases e:i'=i
   ·subst e;simp only[Gh.put,if_pos]at hj;simp only[List.length_append,List.length_singleton]at hj
    have hb:(G.put i' v5 s ev mb).bs i'=G.bs i'++[s]:=by simp[Gh.put]
    have hl:(L.put i' es).lev i'=L.lev i'++[es]:=by simp[Lg.put]
    rw[hb,hl];by_cases hjl:j<(G.bs i').length
    ·have g1:(G.bs i'++[s]).getD j 0=(G.bs i').getD j 0:=by simp[List.getD,List.getElem?_append_left hjl]
     have g2:(L.lev i'++[es]).getD j []=(L.lev i').getD j []:=by simp[List.getD,List.getElem?_append_left (show j<(L.lev i').length by rw[←h.v.len i' hi'];exact hjl)]
     rw[g1,g2,(hse i' hi' j hjl).1,(hse i' hi' j hjl).2];exact hsegs (h.v.seg i' hi' j hjl) (h.v.rs i' hi' j hjl)
    ·have hje:j=(G.bs i').length:=by omega
     have g1:(G.bs i'++[s]).getD j 0=s:=by rw[hje];simp[List.getD]
     have g2:(L.lev i'++[es]).getD j []=es:=by rw[hje,h.v.len i' hi'];simp[List.getD]
     rw[g1,g2];simp only[Gh.put,if_pos];exact hsegs hs hr
   ·have hb:(G.put i v5 s ev mb).bs i'=G.bs i':=by simp[Gh.put,e]
    have hl:(L.put i es).lev i'=L.lev i':=by simp[Lg.put,e]
    rw[hb]at hj ⊢;rw[hl,(hse i' hi' j hj).1,(hse i' hi' j hj).2];exact hsegs (h.v.seg i' hi' j hj) (h.v.rs i' hi' j hj)
  ·by_cases e:i'=i
   ·subst e
    have q':some g=v5.ownBlock:=by simpa [Gh.put] using q
    rcases n5 with q5|q5
    ·rw[q5]at q';have:=h.v.rr i' hi' g q';rw[hk g (by omega)];exact this
    ·rw[q5]at q'
     injection q' with q'
     exact vQ (by rw[q'];simp) (by rw[q5,q'])
   ·have q':some g=(G.lr i').ownBlock:=by simpa [Gh.put,e] using q
    have:=h.v.rr i' hi' g q';rw[hk g (by omega)];exact this
  ·have h4:ρ k=4:=by
    by_cases e:i'=i
    ·subst e;simp only[Gh.put,if_pos]at hj;simp only[List.length_append,List.length_singleton]at hj
     have hb:(G.put i' v5 s ev mb).bs i'=G.bs i'++[s]:=by simp[Gh.put]
     rw[hb]at q;by_cases hjl:j<(G.bs i').length
     ·have g1:(G.bs i'++[s]).getD j 0=(G.bs i').getD j 0:=by simp[List.getD,List.getElem?_append_left hjl]
      rw[g1,(hse i' hi' j hjl).1,(hse i' hi' j hjl).2]at q;exact h.v.rs i' hi' j hjl k q
     ·have hje:j=(G.bs i').length:=by omega
      have g1:(G.bs i'++[s]).getD j 0=s:=by rw[hje];simp[List.getD]
      rw[g1]at q;simp only[Gh.put,if_pos]at q;exact hr k q
    ·have hb:(G.put i v5 s ev mb).bs i'=G.bs i':=by simp[Gh.put,e]
     rw[hb]at hj q;rw[(hse i' hi' j hj).1,(hse i' hi' j hj).2]at q;exact h.v.rs i' hi' j hj k q
   rw[hk k (by omega)];exact h4
 have hb5:LHd W5 (ext ρ w.heap.size (fun k=>some k=v5.ownBlock) (10+i)) lb G L:=LHd.role (ρ:=ρ) (h.b.same (hsm _ (by omega) (by omega))) (fun g q=>by rw[hk g (by omega)];exact q);have xj:=LJ.role (ρ:=ρ) (h.j.same (hsm _ (by omega) (by omega))) (fun g q=>(hk g (by omega)).trans q);have xk:=LW.role (ρ:=ρ) (h.k.same (hsm _ (by omega) (by omega))) (fun g q=>hk g (by rcases q with q|⟨i,_,q⟩ <;> omega));have xt:=LT.role (ρ:=ρ) (h.t.same (hsm _ (by omega) (by omega))) (fun g q=>(hk g (by omega)).trans q);obtain⟨r1,r2⟩:=uP (N:=N) hb5 hlt (8+i) v5 (cG G L i hi v5 s ev mb es) ⟨xj.j,xj.rl⟩ hV ⟨xk.row,xk.len,xk.one,xk.lst,xk.ok,xk.few,xk.ge,xk.rw,xk.rb,xk.rl⟩ ⟨xt.map,xt.rl,xt.ge⟩;refine⟨_,r1,hstp.trans r2,hk,fun g q=>?_⟩;rw[zt (fun e=>?_)]
 ·exact hsm (fun c=>c=3) (by omega) (by omega) g q
 ·subst e
  rcases q with q|q
  ·rw[h.b.rl]at q;omega
  ·exact qI h.b.blk (by decide) q
theorem LogX.lr_ne {w:World}{ρ:Nat→Nat}{B N lb:Nat}{G:Gh}{L:Lg}(h:LogX w ρ B N lb G L){i:Nat}(hi:i<6):some lb≠(G.lr i).ownBlock:=fun q=>by
 have:=h.v.rr i hi lb q;rw[h.b.rl]at this;omega
theorem jt {w:World}{ρ:Nat→Nat}{B N lb:Nat}{G:Gh}{L:Lg}(h:LogX w ρ B N lb G L) (hB:B≤w.heap.size){i:Nat}(hi:i<6){s mb:Nat}{es:List Ent}{ev:Value}(hs:SegAt w B s es ev mb) (hr:∀k,yA s mb ev k→ρ k=4) (hn:∀i,i<6→¬s∈G.bs i) (hl:(L.lev i).length≤4000000) :
  Calls Tryz.prog 59 #[zr lb, .int .i64 (i:Int),zr s] w fun e w'=>e=.returned (.tuple #[])∧∃ρ' v5,LogX w' ρ' B N lb (G.put i v5 s ev mb) (L.put i es)∧LStp w w' ρ ρ'∧(∀g,ρ g≠0→ρ' g=ρ g)∧Same w w' ρ (fun c=>c=3):=by
 obtain⟨i0,hi0,hz0,hz1,hz2⟩:=info_parts Tryz.info128;have hrow:=h.v.row i hi;have hlen:=h.v.len i hi;obtain⟨a,c,hlr,hc,hm⟩:=zu hrow;unfold maxLen at hm;obtain⟨c0,f0⟩:=zy (j:=8+i) (u:=G.lr i) h.b.blk (ut G L i hi);have c1:=((zv w (Obj.cells #[zr s] 128)).cell (p:=⟨lb,8+i,none⟩) (World.block_lt_of_cell? _ _ c0)).trans c0
 have FIN:Hid (∀v5 W5,W5.ownsRow B 128 1 v5 ((G.bs i).length+1) ((G.bs i).map zr++[zr s])→(w.alloc (Obj.cells #[zr s] 128)).grownBy W5 (G.lr i).ownBlock→(v5.ownBlock=(G.lr i).ownBlock∨v5.ownBlock=some (w.alloc (Obj.cells #[zr s] 128)).heap.size)→(W5.cell? ⟨lb,8+i,none⟩=some (G.lr i)∧W5.frozen? ⟨lb,8+i,none⟩=false)∧∃ρ',LogX (W5.setCell ⟨lb,8+i,none⟩ v5) ρ' B N lb (G.put i v5 s ev mb) (L.put i es)∧LStp w (W5.setCell ⟨lb,8+i,none⟩ v5) ρ ρ'∧(∀g,ρ g≠0→ρ' g=ρ g)∧Same w (W5.setCell ⟨lb,8+i,none⟩ v5) ρ (fun c=>c=3)):=fun v5 W5 o5 g6 n5=>⟨zy (zN g6 h.b.blk (h.lr_ne hi)) (ut G L i hi),h.putFin hB hi hs hr hn o5 g6 n5⟩
 have HROW:=zx hrow;rw[hlr]at c0 c1 FIN HROW
 have hbl:(G.bs i).length≤4000000:=by omega
 have hi6:(i:Int)<6:=by omega
 clear hrow hlen h hs hr hn hlr;generalize (G.bs i).map zr=xs at *;generalize hn:(G.bs i).length=n at *;clear hn
 go_enter Tryz.func59,Tryz.ntmps59
 go_wp2_with fail
 go_region_law (refine zQ _ rfl _ _ 129 rfl B 128 i0 (.pointer none) 1 8 Tryz.underlying129 hi0 hz0 hz1 hz2 rfl (by decide) _ _ _ rfl (by exact HROW.out.alloc _) ⟨w.heap.size,0,none⟩ 1 1 [zr s] rfl rfl (by exact zM w.drew _ _ _ rfl) (by intro u hu;simp at hu;rw[hu];rfl) (by unfold maxLen;omega) (by omega) (by simp;omega) ?_;intro v5 W5 o5 g5 n5;obtain⟨a5,c5,rfl,_,_⟩:=zu o5;have g6:(w.alloc (Obj.cells #[zr s] 128)).grownBy W5 (Value.slice a n c).ownBlock:=⟨g5.os,g5.tape,g5.output,g5.size,g5.block⟩;obtain⟨⟨fb,ff⟩,ρ',hx⟩:=FIN.out _ W5 o5 g6 n5;have HX:=zx hx;clear o5 g5 g6 n5 hx)
 all_goals (
  go_wp2;go_end0
  exact⟨rfl,ρ',_,HX.out⟩)
theorem zU {α:Type}{l:List α}{q:Nat}(hq:q<l.length) (x z:α) (i:Nat):(l.set q x).getD i z=if i=q then x else l.getD i z:=by
 by_cases h:i=q
 ·subst h;rw[if_pos rfl];simp[List.getD,hq]
 ·rw[if_neg h];simp[List.getD,Ne.symm h]
theorem LogX.wkFin {w w':World}{ρ:Nat→Nat}{B N lb:Nat}{G:Gh}{L:Lg}(h:LogX w ρ B N lb G L) (hB:B≤w.heap.size){q:Nat}(hq:q<L.wks.length) (k':Wk) (v':Value) (ht:Tch (fun g=>g=G.wb.getD q 0∨some g=(G.wl q).ownBlock) w w')
  (hblk:w'.heap[G.wb.getD q 0]? = some (Obj.cells (mK lb (G.wb.getD q 0) k' v') 139 (0,0))) (hown:w'.ownsRow B 137 2 v' k'.list.length (k'.list.flatMap tE)) (hnew:∀g,some g=v'.ownBlock→some g=(G.wl q).ownBlock∨w.heap.size≤g) (hok:mF k'∧k'.list.Nodup) :
  ∃ρ',LogX w' ρ' B N lb { G with wl:=fun j=>if j=q then v' else G.wl j } { L with wks:=L.wks.set q k' }∧LStp w w' ρ ρ'∧(∀g,ρ g≠0→ρ' g=ρ g)∧Same w w' ρ (fun c=>c=3):=by
 have hS:∀k,(k=G.wb.getD q 0∨some k=(G.wl q).ownBlock)→ρ k=20+q∧¬wM w k:=by
  rintro k (e|e)
  ·rw[e];exact⟨h.k.rb q hq,qI (h.k.one q hq) (by decide)⟩
  ·obtain⟨_,_,D,hD⟩:=zw (h.k.lst q hq) e;exact⟨h.k.rl q hq k e,qI hD (by decide)⟩
 have hs:=h.others ht hS;have hk:=xC (P:=fun k=>some k=v'.ownBlock) (c:=20+q) h.lt;have xb:=LHd.role (ρ:=ρ) (h.b.same (hs _ (by omega) (by omega))) (fun g q=>(hk g (by omega)).trans q);have xj:=LJ.role (ρ:=ρ) (h.j.same (hs _ (by omega) (by omega))) (fun g q=>(hk g (by omega)).trans q);have xv:=LV.role (ρ:=ρ) (h.v.same (hs _ (by omega) (by omega))) (fun g q=>hk g (by rcases q with q|⟨i,_,q⟩ <;> omega));have xt:=LT.role (ρ:=ρ) (h.t.same (hs _ (by omega) (by omega))) (fun g q=>(hk g (by omega)).trans q)
 have hlen:(L.wks.set q k').length=L.wks.length:=by simp
 have hsame:∀i,i<L.wks.length→i≠q→Same w w' ρ (fun c=>c=20+i):=fun i _ hne=>hs _ (by omega) (by omega)
 have xk:LW w' (ext ρ w.heap.size (fun k=>some k=v'.ownBlock) (20+q)) B lb { G with wl:=fun j=>if j=q then v' else G.wl j } { L with wks:=L.wks.set q k' }:=by
  refine⟨zn h.k.row (fun g e=>hs (fun c=>c=5) (by omega) (by omega) g (Or.inl (h.k.rw g e))),by show G.wb.length=(L.wks.set q k').length;rw[hlen];exact h.k.len,fun i hi=>?_,fun i hi=>?_,fun i hi=>?_,by show 0<(L.wks.set q k').length∧(L.wks.set q k').length≤4;rw[hlen];exact h.k.few,fun i hi=>?_,fun g e=>(hk g (by rw[h.k.rw g e];omega)).trans (h.k.rw g e),fun i hi=>?_,fun i hi g e=>?_⟩
  all_goals (
   have hi':i<L.wks.length:=by
    have hi2:i<(L.wks.set q k').length:=hi;rw[hlen]at hi2
    exact hi2)
  ·show w'.heap[G.wb.getD i 0]? = some (Obj.cells (mK lb (G.wb.getD i 0) ((L.wks.set q k').getD i zo) (if i=q then v' else G.wl i)) 139 (0,0));rw[zU hq];by_cases e:i=q
   ·rw[if_pos e,if_pos e,e];exact hblk
   ·rw[if_neg e,if_neg e];exact(hsame i hi' e _ (Or.inl (h.k.rb i hi'))).trans (h.k.one i hi')
  ·show w'.ownsRow B 137 2 (if i=q then v' else G.wl i) ((L.wks.set q k').getD i zo).list.length (((L.wks.set q k').getD i zo).list.flatMap tE);rw[zU hq];by_cases e:i=q
   ·rw[if_pos e,if_pos e];exact hown
   ·rw[if_neg e,if_neg e];exact zn (h.k.lst i hi') (fun g e2=>hsame i hi' e g (Or.inl (h.k.rl i hi' g e2)))
  ·show mF ((L.wks.set q k').getD i zo)∧((L.wks.set q k').getD i zo).list.Nodup;rw[zU hq];by_cases e:i=q
   ·rw[if_pos e];exact hok
   ·rw[if_neg e];exact h.k.ok i hi'
  ·exact h.k.ge i hi'
  ·show ext ρ w.heap.size (fun k=>some k=v'.ownBlock) (20+q) (G.wb.getD i 0)=20+i;rw[hk _ (by rw[h.k.rb i hi'];omega)];exact h.k.rb i hi'
  ·have e':some g=(if i=q then v' else G.wl i).ownBlock:=e;by_cases e2:i=q
   ·rw[if_pos e2]at e'
    rcases hnew g e' with e3|e3
    ·have:=h.k.rl q hq g e3;rw[hk g (by omega),e2];exact this
    ·rw[e2];exact vQ e3 e'
   ·rw[if_neg e2]at e';have:=h.k.rl i hi' g e';rw[hk g (by omega)];exact this
 refine⟨ext ρ w.heap.size (fun k=>some k=v'.ownBlock) (20+q),⟨⟨?_,xb.rl⟩,⟨xj.j,xj.rl⟩,⟨xv.row,xv.len,xv.seg,xv.rr,xv.rs⟩,xk,⟨xt.map,xt.rl,xt.ge⟩,tu h.lt ht.size hB (fun k e=>(zw hown e).2.1)⟩,⟨ht.mono (fun k _ e=>⟨by rw[(hS k e).1];omega,(hS k e).2⟩),fun k hk2 e=>by rw[wm hk2];exact e⟩,hk,hs _ (by omega) (by omega)⟩
 have hC:mJ { G with wl:=fun j=>if j=q then v' else G.wl j } { L with wks:=L.wks.set q k' }=mJ G L:=by
  unfold mJ;simp
 rw[hC];exact xb.blk
theorem tp:∀(n:Nat) (l:List Nat),l.Nodup→(∀y∈l,y<n)→l.length≤n
 | 0,l,_,h=>by
  cases l with
  | nil=>simp
  | cons a l=>have:=h a (by simp);omega
 | n+1,l,hd,h=>by
  by_cases hm:n∈l
  ·have h1:=tp n (l.erase n) (hd.erase n) (fun y hy=>by
    have h2:=(List.Nodup.mem_erase_iff hd).1 hy;have:=h y h2.2
    omega)
   rw[List.length_erase_of_mem hm]at h1;omega
  ·have h1:=tp n l hd (fun y hy=>by
    have:=h y hy
    have:y≠n:=fun e=>hm (by rw[←e];exact hy)
    omega)
   omega
theorem xz {k:Wk}(h:mF k∧k.list.Nodup):k.list.length≤5:=tp 5 _ h.2 (fun y hy=>by have:=h.1.1 y hy;omega)
def wZ (ks:List Wk) (i:Nat):Bool:=ks.any (fun k=>xT k i)
def yf (fan:Nat) (n:Nat→Nat) (ks:List Wk) (i:Nat):List Wk:=
 if fan≤n i∧wZ ks i=false then ks.set (i % ks.length) ⟨(ks.getD (i % ks.length) zo).list++[i],(ks.getD (i % ks.length) zo).runs,(ks.getD (i % ks.length) zo).read⟩ else ks
def zO (fan:Nat) (n:Nat→Nat) (ks:List Wk):Nat→List Wk
 | 0=>ks
 | i+1=>yf fan n (zO fan n ks i) i
theorem mD:∀ {l:List Nat}{j:Nat},j<l.length→(l.flatMap tE)[j*2]? = some (.int .i64 ((l.getD j 0:Nat):Int))∧(l.flatMap tE)[j*2+1]? = some (.int .i64 (((l.getD j 0:Nat):Int)+1))
 | f::l,0,_=>by simp[tE]
 | f::l,j+1,h=>by
  obtain⟨a,b⟩:=mD (l:=l) (j:=j) (by simpa using h);rw[List.flatMap_cons];refine⟨?_,?_⟩
  ·rw[List.getElem?_append_right (by simp[tE];omega)];simpa [tE,show(j+1)*2-2=j*2 by omega] using a
  ·rw[List.getElem?_append_right (by simp[tE];omega)];simpa [tE,show(j+1)*2+1-2=j*2+1 by omega] using b
theorem ee {w:World}{B:Nat}{v:Value}{l:List Nat}(h:w.ownsRow B 137 2 v l.length (l.flatMap tE)):RdTk w v l:=by
 obtain⟨a,c,rfl,hc,hm⟩:=zu h;refine⟨a,c,rfl,hc,hm,?_⟩;by_cases h0:l=[]
 ·exact Or.inl h0
 ·obtain⟨g,rfl⟩:=zf h (List.length_pos_iff.2 h0);refine Or.inr ⟨g,rfl,fun j hj=>?_⟩;obtain⟨d0,d1⟩:=mD (l:=l) hj;exact⟨zg h d0,zg h d1⟩
theorem j8 {w:World}{B:Nat}{e:TypeId}{v:Value}{bs:List Nat}(h:w.ownsRow B e 1 v bs.length (bs.map zr)):RdP w v bs:=by
 obtain⟨a,c,rfl,hc,hm⟩:=zu h;refine⟨a,c,rfl,hc,hm,?_⟩;by_cases h0:bs=[]
 ·exact Or.inl h0
 ·obtain⟨g,rfl⟩:=zf h (List.length_pos_iff.2 h0);refine Or.inr ⟨g,0,rfl,fun j hj=>?_⟩;rw[Nat.zero_add];refine zg h ?_;rw[List.getElem?_map,List.getElem?_eq_getElem hj];simp[List.getD,hj]
theorem LogX.wksRd {w:World}{ρ:Nat→Nat}{B N lb:Nat}{G:Gh}{L:Lg}(h:LogX w ρ B N lb G L):WksRd w lb G.wr G.wb L.wks:=
 ⟨j8 h.k.row,h.k.len,fun i hi=>⟨G.wl i,h.k.one i hi,ee (h.k.lst i hi)⟩,fun i hi=>(h.k.ok i hi).1,h.k.few.2⟩
theorem wH {w:World}{ρ:Nat→Nat}{B N lb:Nat}{G:Gh}{L:Lg}(h:LogAt w ρ B N lb G L) :
  Calls Tryz.prog 57 #[zr lb] w fun e w'=>e=.returned (.bool (decide (L.memory≤L.mem.length)))∧Below w.heap.size w w':=by
 obtain⟨c0,_⟩:=zy (j:=0) (u:=.int .i64 (L.memory:Int)) h.x.b.blk rfl;obtain⟨c7,_⟩:=zy (j:=7) (u:=zr G.ms) h.x.b.blk rfl;obtain⟨a,c,hme,hc,hm⟩:=zu h.m.seg.own;obtain⟨d0,_⟩:=zy (j:=0) (u:=G.me) h.m.seg.blk rfl;rw[hme]at d0;unfold maxLen at hm;clear h hme;generalize L.mem.length=n at *;generalize L.memory=m at *
 have hd:decide ((m:Int)≤(n:Int))=decide (m≤n):=by simp
 go_enter Tryz.func57,Tryz.ntmps57
 go_wp2_with fail
 go_quiet (fail)
 go_wp2;go_ret;exact⟨by first|rfl|(rw[←hd];rfl)|simp,yR w _⟩
theorem lJ (fan:Nat) (n:Nat→Nat) (ks:List Wk) (i:Nat):(yf fan n ks i).length=ks.length:=by
 unfold yf
 split <;> simp
theorem yh (fan:Nat) (n:Nat→Nat) (ks:List Wk):∀i,(zO fan n ks i).length=ks.length
 | 0=>rfl
 | i+1=>by rw[zO,lJ,yh fan n ks i]
structure Laid (w w':World) (ρ:Nat→Nat) (B N lb:Nat) (G:Gh) (L:Lg) (ks:List Wk):Prop where
 ex:∃ρ' wl',LogX w' ρ' B N lb { G with wl:=wl' } { L with wks:=ks }∧LStp w w' ρ ρ'∧(∀g,ρ g≠0→ρ' g=ρ g)∧Same w w' ρ (fun c=>c=3)
theorem iQ {w:World}{ρ:Nat→Nat}{B N lb:Nat}{G:Gh}{L:Lg}(h:LogX w ρ B N lb G L) (hB:B≤w.heap.size){k:Nat}(hk:k<5) (hf:L.fan≤(L.lev k).length) (hh:wZ L.wks k=false){v5:Value}{W5:World}{o:Obj}
  (o5:W5.ownsRow B 137 2 v5 ((L.wks.getD (k % L.wks.length) zo).list.length+1) ((L.wks.getD (k % L.wks.length) zo).list.flatMap tE++tE k)) (g6:(w.alloc o).grownBy W5 (G.wl (k % L.wks.length)).ownBlock) (n5:v5.ownBlock=(G.wl (k % L.wks.length)).ownBlock∨v5.ownBlock=some (w.alloc o).heap.size) :
  Laid w (W5.setCell ⟨G.wb.getD (k % L.wks.length) 0,1,none⟩ v5) ρ B N lb G L (yf L.fan (fun i=>(L.lev i).length) L.wks k):=by
 have hq:k % L.wks.length<L.wks.length:=Nat.mod_lt _ h.k.few.1;generalize hqq:k % L.wks.length=q at *
 have hne:some (G.wb.getD q 0)≠(G.wl q).ownBlock:=fun e=>by
  obtain⟨_,_,D,hD⟩:=zw (h.k.lst q hq) e;exact yX (h.k.one q hq) hD (by decide) rfl
 have hb5:=zN g6 (h.k.one q hq) hne
 have hmem:¬k∈(L.wks.getD q zo).list:=fun hm=>by
  have:wZ L.wks k=true:=List.any_eq_true.2 ⟨L.wks.getD q zo,yI hq,by unfold xT;rw[decide_eq_true hm,Bool.or_true]⟩;rw[hh]at this;cases this
 obtain⟨ρ',r1,r2,r3,r4⟩:=h.wkFin (w':=W5.setCell ⟨G.wb.getD q 0,1,none⟩ v5) hB hq ⟨(L.wks.getD q zo).list++[k],(L.wks.getD q zo).runs,(L.wks.getD q zo).read⟩ v5
  ⟨g6.os,g6.tape,g6.output,by have:=g6.size;simp at this ⊢;omega,fun g hg e=>by rw[zt (fun q'=>e (Or.inl q')),g6.block g (by simp;omega) (fun q'=>e (Or.inr q')),Mth.uC w o (r:=g) hg]⟩
  (by rw[ze hb5];rfl)
  (zl (by simpa [List.flatMap_append] using o5) hb5 (by decide))
  (fun g e=>by
   rcases n5 with q5|q5
   ·rw[q5]at e;exact Or.inl e
   ·rw[q5]at e;injection e with e;right;rw[e];simp)
  ⟨⟨fun y hy=>by
   rcases List.mem_append.1 hy with hy|hy
   ·exact(h.k.ok q hq).1.1 y hy
   ·simp at hy;omega,(h.k.ok q hq).1.2⟩,by
   rw[List.nodup_append];refine⟨(h.k.ok q hq).2,by simp,fun a ha b hb e=>?_⟩;simp at hb
   exact hmem (by rw[←hb,←e];exact ha)⟩
 have he:yf L.fan (fun i=>(L.lev i).length) L.wks k=L.wks.set q ⟨(L.wks.getD q zo).list++[k],(L.wks.getD q zo).runs,(L.wks.getD q zo).read⟩:=by
  unfold yf;rw[if_pos ⟨hf,hh⟩,hqq]
 rw[he];exact⟨⟨ρ',_,r1,r2,r3,r4⟩⟩
theorem Laid.of_below {w w':World}{ρ:Nat→Nat}{B N lb:Nat}{G:Gh}{L:Lg}(h:LogX w ρ B N lb G L) (hb:Below w.heap.size w w'){ks:List Wk}(he:ks=L.wks):Laid w w' ρ B N lb G L ks:=by
 subst he;exact⟨⟨ρ,G.wl,h.below hb,⟨zH hb,fun _ _ q=>q⟩,fun _ _=>rfl,Same.below h.lt (by omega) hb⟩⟩
theorem Laid.trans {w w1 w2:World}{ρ ρ1:Nat→Nat}{B N lb:Nat}{G:Gh}{L:Lg}{wl1:Nat→Value}{ks ks':List Wk}(h2:LStp w w1 ρ ρ1) (h3:∀g,ρ g≠0→ρ1 g=ρ g) (h4:Same w w1 ρ (fun c=>c=3)) (h:Laid w1 w2 ρ1 B N lb { G with wl:=wl1 } { L with wks:=ks } ks'):Laid w w2 ρ B N lb G L ks':=by
 obtain⟨⟨ρ2,wl2,r1,r2,r3,r4⟩⟩:=h;exact⟨⟨ρ2,wl2,r1,h2.trans r2,fun g q=>(r3 g (by rw[h3 g q];exact q)).trans (h3 g q),h4.trans (by omega) h3 r4⟩⟩
theorem vL {fan:Nat}{n:Nat→Nat}{ks:List Wk}{i:Nat}(h:¬fan≤n i∨wZ ks i=true):yf fan n ks i=ks:=by
 unfold yf;rw[if_neg];rintro ⟨h1,h2⟩
 rcases h with h|h
 ·exact h h1
 ·rw[h]at h2;cases h2
theorem rH {w:World}{ρ:Nat→Nat}{B N lb:Nat}{G:Gh}{L:Lg}(h:LogX w ρ B N lb G L){q:Nat}(hq:q<L.wks.length):∃a c,G.wl q=.slice a (L.wks.getD q zo).list.length c∧(L.wks.getD q zo).list.length≤c∧c≤maxLen∧(L.wks.getD q zo).list.length≤5:=by
 obtain⟨a,c,h1,h2,h3⟩:=zu (h.k.lst q hq);exact⟨a,c,h1,h2,h3,xz (h.k.ok q hq)⟩
theorem uH {w:World}{ρ:Nat→Nat}{B N lb:Nat}{G:Gh}{L:Lg}(h:LogX w ρ B N lb G L) (hB:B≤w.heap.size) (_hfan:L.fan≤4) (hlv:∀i,i<6→(L.lev i).length≤4000000) :
  Calls Tryz.prog 61 #[zr lb] w fun e w'=>e=.returned (.tuple #[])∧Laid w w' ρ B N lb G L (zO L.fan (fun i=>(L.lev i).length) L.wks 5):=by
 obtain⟨i0,hi0,hz0,hz1,hz2⟩:=info_parts Tryz.info137;have H0:=zx h;have HLV:=zx hlv;clear h hlv
 go_enter Tryz.func61,Tryz.ntmps61
 go_wp2_with fail
 go_loopw [5] (fun i wr=>∃k:Nat,k≤5∧i=.int .i64 k∧Laid w wr ρ B N lb G L (zO L.fan (fun i=>(L.lev i).length) L.wks k)) (fun i _=>5-(intOf i).toNat)
 case atStart=>exact⟨0,by omega,rfl,Laid.of_below H0.out (Below.refl _ _) rfl⟩
 case round=>
  obtain⟨k,hk,rfl,hL⟩:=hrel;by_cases hlt:k<5
  ·obtain⟨⟨ρ1,wl1,hx,hst,hkp,hsm⟩⟩:=hL;have hlt1:=hx.lt;generalize hks:zO L.fan (fun i=>(L.lev i).length) L.wks k=ks at *
   have HNX:Hid (zO L.fan (fun i=>(L.lev i).length) L.wks (k+1)=yf L.fan (fun i=>(L.lev i).length) ks k):=by show _=_;rw[zO,hks]
   have hBr:B≤wr.heap.size:=Nat.le_trans hB hst.tch.size;obtain⟨W1,hW1⟩:∃W1,W1=wr.alloc (Obj.cells #[.int .i64 (k:Int), .int .i64 ((k:Int)+1)] 137):=⟨_,rfl⟩
   have hb1:Below wr.heap.size wr W1:=by rw[hW1];exact zv wr _
   have htb:W1.heap[wr.heap.size]? = some (Obj.cells #[.int .i64 (k:Int), .int .i64 ((k:Int)+1)] 137 (0,0)):=by rw[hW1];exact zj wr _ _
   have hx1:=hx.below hb1;obtain⟨ak,ck,hlr,hck,hmk⟩:=zu (hx1.v.row k (by omega));have hlk:(G.bs k).length=(L.lev k).length:=hx1.v.len k (by omega);obtain⟨d8,_⟩:=zy (j:=8+k) hx1.b.blk (ut _ _ k (by omega))
   have d8':W1.cell? ⟨lb,8+k,none⟩=some (.slice ak (L.lev k).length ck):=by rw[d8];show some (G.lr k)=_;rw[←hlk];exact congrArg some hlr
   obtain⟨d1,_⟩:=zy (j:=1) (u:=.int .i64 (L.fan:Int)) hx1.b.blk rfl;obtain⟨d14,_⟩:=zy (j:=14) (u:=G.wr) hx1.b.blk rfl;obtain⟨t0,_⟩:=zy (j:=0) (u:=.int .i64 (k:Int)) htb rfl;obtain⟨t1,_⟩:=zy (j:=1) (u:=.int .i64 ((k:Int)+1)) htb rfl
   have CH:Hid (∀d os,_):=fun d os=>Calls.regrown_of (w:=W1) (d:=d) (os:=os) ((mj ((hx1.below (below_regrown W1 d os)).wksRd) (cell_regrown d14 d os) k (by omega)).mono fun e w' q=>⟨q.1,q.2⟩)
   have e8:=cell_regrown d8';have e1:=cell_regrown d1;have r0:=cell_regrown t0;have r1:=cell_regrown t1;have HLN:=zx (HLV.out k (by omega));have HX1:=zx hx1;have HB1:=zx hb1;have HST:=zx hst;have HKP:=zx hkp;have HSM:=zx hsm;have HLT1:=zx hlt1;have HTB:=zx htb;have HW1:=zx hW1
   have hk6:(k:Int)<6:=by omega
   have HHT:Hid (wZ ks k=(ks.any fun k'=>xT k' k)):=rfl;clear d8 d8' d1 d14 t0 t1 hx1 hb1 hst hkp hx htb hW1 hlr hlk hsm hlt1
   have HFIN:Hid (∀dq osq,Laid w (Sort.grow (redrawn W1 dq) osq) ρ B N lb G L ks):=by
    intro dq osq;have hx2:=HX1.out.below (below_regrown W1 dq osq);have hb2:=HB1.out.trans ((below_regrown W1 dq osq).mono HB1.out.size);exact⟨⟨ρ1,wl1,hx2,HST.out.below hb2,HKP.out,HSM.out.trans (by omega) HKP.out (Same.below HLT1.out (by omega) hb2)⟩⟩
   by_cases hf:L.fan≤(L.lev k).length
   ·have hd2:decide ((L.fan:Int)≤((L.lev k).length:Int))=true:=decide_eq_true (by omega);cases hht:wZ ks k
    ·rw[HHT.out]at hht;have HF:=zx hf;have HH:=zx hht;simp only[hht]at CH;clear hht;have hq:k % ks.length<ks.length:=Nat.mod_lt _ HX1.out.k.few.1;have hkl:ks.length≤4:=HX1.out.k.few.2;have hkp:0<ks.length:=HX1.out.k.few.1
     have HR5:Hid (∀W,Below W1.heap.size W1 W→∃gw cw,G.wr=.slice (some ⟨gw,0,none⟩) ks.length cw∧ks.length≤cw∧cw≤maxLen∧W.cell? ⟨lb,14,none⟩=some G.wr∧W.cell? ⟨gw,k % ks.length,none⟩=some (zr (G.wb.getD (k % ks.length) 0))):=by
      intro W hW;have hxW:=HX1.out.below hW;have hrw:=hxW.k.row;have hln:G.wb.length=ks.length:=hxW.k.len;obtain⟨aw,cw,hwr,hcw,hmw⟩:=zu hrw;have hwr2:G.wr=.slice aw G.wb.length cw:=hwr;have hrw2:W.ownsRow B 140 1 G.wr G.wb.length (G.wb.map zr):=hrw;rw[hwr2]at hrw2;obtain⟨gw,rfl⟩:=zf hrw2 (by omega);refine⟨gw,cw,by rw[←hln];exact hwr2,by rw[←hln];exact hcw,hmw,(zy (j:=14) hxW.b.blk rfl).1,?_⟩;refine zg hrw2 ?_;rw[List.getElem?_map,List.getElem?_eq_getElem (by rw[hln];exact hq)];simp[List.getD,hln,hq]
     obtain⟨gw,cw,hwr,hcw,hmw,_,_⟩:=HR5.out W1 (Below.refl _ _);unfold maxLen at hmw
     have HYES:Hid (∀w3 v5 W5,Below W1.heap.size W1 w3→W5.ownsRow B 137 2 v5 ((ks.getD (k % ks.length) zo).list.length+1) ((ks.getD (k % ks.length) zo).list.flatMap tE++tE k)→(w3.alloc (Obj.cells #[.int .i64 (k:Int), .int .i64 ((k:Int)+1)] 137)).grownBy W5 (wl1 (k % ks.length)).ownBlock→(v5.ownBlock=(wl1 (k % ks.length)).ownBlock∨v5.ownBlock=some (w3.alloc (Obj.cells #[.int .i64 (k:Int), .int .i64 ((k:Int)+1)] 137)).heap.size)→Laid w (W5.setCell ⟨G.wb.getD (k % ks.length) 0,1,none⟩ v5) ρ B N lb G L (zO L.fan (fun i=>(L.lev i).length) L.wks (k+1))∧W5.cell? ⟨G.wb.getD (k % ks.length) 0,1,none⟩=some (wl1 (k % ks.length))∧W5.frozen? ⟨G.wb.getD (k % ks.length) 0,1,none⟩=false):=by
      intro w3 v5 W5 hb3 o5 g6 n5;have hx3:=HX1.out.below hb3;have hb13:=HB1.out.trans (hb3.mono HB1.out.size);rw[HNX.out];refine⟨Laid.trans (HST.out.below hb13) HKP.out (HSM.out.trans (by omega) HKP.out (Same.below HLT1.out (by omega) hb13)) (iQ hx3 (Nat.le_trans hBr hb13.size) hlt HF.out HH.out o5 g6 n5),?_⟩
      have hne:some (G.wb.getD (k % ks.length) 0)≠(wl1 (k % ks.length)).ownBlock:=fun e=>by
       obtain⟨_,_,D,hD⟩:=zw (hx3.k.lst _ hq) e;exact yX (hx3.k.one _ hq) hD (by decide) rfl
      exact zy (j:=1) (zN g6 (hx3.k.one _ hq) hne) rfl
     have HOW:Hid (∀w3,Below W1.heap.size W1 w3→w3.ownsRow B 137 2 (wl1 (k % ks.length)) (ks.getD (k % ks.length) zo).list.length ((ks.getD (k % ks.length) zo).list.flatMap tE)∧w3.cell? ⟨G.wb.getD (k % ks.length) 0,1,none⟩=some (wl1 (k % ks.length))∧w3.cell? ⟨wr.heap.size,0,none⟩=some (.int .i64 (k:Int))∧w3.cell? ⟨wr.heap.size,1,none⟩=some (.int .i64 ((k:Int)+1))∧B≤w3.heap.size):=by
      intro w3 hb3;have hx3:=HX1.out.below hb3;have ht3:=(hb3.block _ (Mth.gI HTB.out)).trans HTB.out;have hb13:=HB1.out.trans (hb3.mono HB1.out.size);exact⟨hx3.k.lst _ hq,(zy (j:=1) (hx3.k.one _ hq) rfl).1,(zy (j:=0) ht3 rfl).1,(zy (j:=1) ht3 rfl).1,Nat.le_trans hBr hb13.size⟩
     obtain⟨al,cl,hwl,hcl,hml,hl5⟩:=rH HX1.out hq;have hwl2:wl1 (k % ks.length)=.slice al (ks.getD (k % ks.length) zo).list.length cl:=hwl;rw[hwl2]at HYES HOW;have hl5':(ks.getD (k % ks.length) zo).list.length≤5:=hl5;have hcl':(ks.getD (k % ks.length) zo).list.length≤cl:=hcl;unfold maxLen at hml;clear hwl hwl2 HX1 HST HKP hl5 hcl HNX HFIN HB1;generalize hnk:(L.lev k).length=nk at *;generalize (ks.getD (k % ks.length) zo).list.flatMap tE=xs at *;generalize (ks.getD (k % ks.length) zo).list.length=ln at *;generalize hkk:zO L.fan (fun i=>(L.lev i).length) L.wks (k+1)=kk at *;have HKK:=zx hkk;clear hkk;generalize G.wb.getD (k % ks.length) 0=wbq at *
     have hrem:(k:Int) % (ks.length:Int)=((k % ks.length:Nat):Int):=by omega
     generalize hqq:k % ks.length=q at *;generalize ks.length=nks at *;rw[hwr]at HR5;go_wp2_with fail;rw[←HW1.out];refine wp_region_quiet_below (by kernel_rfl) (by kernel_rfl) ?_
     repeat(go_big_quiet_step (first|(go_at_call 99;exact CH.out _ _)))
     refine wpQuiet_nil ?_;intro _ hw';obtain⟨⟨dq,osq⟩,hw''⟩:=hw';subst hw'';have hb2:=below_regrown W1 dq osq;generalize Sort.grow (redrawn W1 dq) osq=w2 at *;obtain⟨_,_,hsl,_,_,c14,cq⟩:=HR5.out w2 hb2
     injection hsl with hsl1 hsl2 hsl3
     injection hsl1 with hsl1
     injection hsl1 with hsl1
     subst hsl1 hsl3;have HB2:=zx hb2;clear hb2 e8 e1 r0 r1 CH;go_wp2_with fail
     go_quiet (fail)
     have hb3:Below W1.heap.size W1 (w2.drewN nq):=HB2.out.trans ((yR w2 nq).mono HB2.out.size);generalize w2.drewN nq=w3 at *;obtain⟨ho3,c1,t0,t1,hB3⟩:=HOW.out w3 hb3;have HO3:=zx ho3;have HB3:=zx hb3;have b3:=zv w3 (Obj.cells #[.int .i64 (k:Int), .int .i64 ((k:Int)+1)] 137);have c1':=(b3.cell (p:=⟨wbq,1,none⟩) (World.block_lt_of_cell? _ _ c1)).trans c1;clear ho3 hb3 b3 c14 cq;go_wp2_with fail
     go_region_law (refine zQ _ rfl _ _ 135 rfl B 137 i0 (.agg #[.int .i64 0, .int .i64 0]) 2 16 Tryz.underlying135 hi0 hz0 hz1 hz2 rfl (by decide) _ _ _ rfl (by exact HO3.out.alloc _) ⟨w3.heap.size,0,none⟩ 1 1 [.int .i64 (k:Int), .int .i64 ((k:Int)+1)] rfl rfl (by exact zM w3.drew _ _ _ rfl) (by intro u hu;simp at hu;rcases hu with rfl|rfl <;> rfl) (by unfold maxLen;omega) (by omega) (by simp;omega) ?_;intro v5 W5 o5 g5 n5;obtain⟨a5,c5,rfl,_,_⟩:=zu o5;have g6:(w3.alloc (Obj.cells #[.int .i64 (k:Int), .int .i64 ((k:Int)+1)] 137)).grownBy W5 (Value.slice al ln cl).ownBlock:=⟨g5.os,g5.tape,g5.output,g5.size,g5.block⟩;obtain⟨hla,fb,ff⟩:=HYES.out w3 _ W5 HB3.out o5 g6 n5;have HLA:=zx hla;clear o5 g5 g6 n5 hla)
     all_goals (
      go_wp2
      go_roundw
      case rel=>exact⟨k+1,by omega,by go_num,by rw[HKK.out];exact HLA.out⟩
      case measure=>simp[intOf];omega)
    ·have HNO:Hid (zO L.fan (fun i=>(L.lev i).length) L.wks (k+1)=ks):=by show _=_;rw[HNX.out,vL (Or.inr hht)]
     rw[HHT.out]at hht
     have CH2:Hid (∀d os,_):=fun d os=>CH.out d os
     simp only[hht]at CH;clear hht CH2;clear HX1;generalize (L.lev k).length=nk at *;generalize L.fan=fan at *;go_wp2_with fail;rw[←HW1.out];refine wp_region_quiet_below (by kernel_rfl) (by kernel_rfl) ?_
     repeat(go_big_quiet_step (first|(go_at_call 99;exact CH.out _ _)))
     refine wpQuiet_nil ?_;intro _ hw';obtain⟨⟨dq,osq⟩,hw''⟩:=hw';subst hw'';go_wp2
     go_roundw
     case rel=>exact⟨k+1,by omega,by go_num,by rw[HNO.out];exact HFIN.out _ _⟩
     case measure=>simp[intOf];omega
   ·have HNO:Hid (zO L.fan (fun i=>(L.lev i).length) L.wks (k+1)=ks):=by show _=_;rw[HNX.out,vL (Or.inl hf)]
    have hd:¬(L.fan:Int)≤((L.lev k).length:Int):=by omega
    have hd2:decide ((L.fan:Int)≤((L.lev k).length:Int))=false:=decide_eq_false hd;clear HX1;generalize (L.lev k).length=nk at *;generalize L.fan=fan at *;go_wp2_with fail;rw[←HW1.out];refine wp_region_quiet_below (by kernel_rfl) (by kernel_rfl) ?_
    repeat(go_big_quiet_step (first|(go_at_call 99;exact CH.out _ _)))
    refine wpQuiet_nil ?_;intro _ hw';obtain⟨⟨dq,osq⟩,hw''⟩:=hw';subst hw'';go_wp2
    go_roundw
    case rel=>exact⟨k+1,by omega,by go_num,by rw[HNO.out];exact HFIN.out _ _⟩
    case measure=>simp[intOf];omega
  ·have hke:k=5:=by omega
   subst hke;go_wp2;go_end0;exact⟨rfl,hL⟩
end Go.Proofs.YtkncboinfcnklaaGreatDoor
