import Derived.Test.YtkncboinfcnklaaGreatDoorQ14
import Derived.Laws.EntriesVeiled
import Derived.Maps.RangeWalk
set_option maxRecDepth 100000
set_option maxHeartbeats 8000000
namespace Go.Proofs.YtkncboinfcnklaaGreatDoor
open Go.RowKit Go.Deep Go.Shelf Go.Proofs.YtkncboinfcnklaaGreatDoor.Mth
theorem Same.pre {w w1 w2:World}{ρ:Nat→Nat}{B N lb:Nat}{G:Gh}{L:Lg}(h:LogX w ρ B N lb G L) (hb:Below w.heap.size w w1) (b4:Same w1 w2 ρ (fun c=>c=3)):Same w w2 ρ (fun c=>c=3):=by
 intro g q
 have hl:g<w.heap.size:=by
  rcases q with q|q
  ·exact(h.lt g (by omega)).1
  ·exact yw q
 have e1:=hb.block g hl;refine(b4 g ?_).trans e1
 rcases q with q|q
 ·exact Or.inl q
 ·obtain⟨C,fr,hC⟩:=q;exact Or.inr ⟨C,fr,e1.trans hC⟩
theorem Laid.box {w wA w2 w3:World}{ρ:Nat→Nat}{B N lb:Nat}{G:Gh}{L:Lg}{ks:List Wk}(h:LogX w ρ B N lb G L) (hb:Below w.heap.size w wA) (h2:Laid wA w2 ρ B N lb G L ks){nb:Nat}(hnb:w.heap.size≤nb) (hl:nb<wA.heap.size) (hn:¬wM wA nb) (ht:Tch (fun k=>k=nb) w2 w3):Laid w w3 ρ B N lb G L ks:=by
 have h0:ρ nb=0:=by
  apply Classical.byContradiction;intro q;have:=(h.lt nb q).1;omega
 obtain⟨⟨ρ1,wl,a1,a2,a3,a4⟩⟩:=h2;have hz:ρ1 nb=0:=a2.old nb hl h0;have hkk:w2.heap[nb]? = wA.heap[nb]? := a2.tch.block nb hl (fun q=>q.1 h0)
 have hn1:¬wM w2 nb:=fun⟨C,fr,hC⟩=>hn ⟨C,fr,by rw[←hkk];exact hC⟩
 have hoth:∀g,(ρ1 g≠0∨wM w2 g)→w3.heap[g]? = w2.heap[g]? := fun g q=>by
  refine ht.block g ?_ (fun e=>?_)
  ·rcases q with q|q
   ·exact(a1.lt g q).1
   ·exact yw q
  ·subst e
   rcases q with q|q
   ·exact q hz
   ·exact hn1 q
 have hpre:LStp w w2 ρ ρ1:=LStp.pre hb a2;have hsm:=a4.pre h hb;refine⟨⟨ρ1,wl,a1.same hoth ht.size,⟨hpre.tch.trans ht (fun k hk e=>absurd hk (by omega)),hpre.old⟩,a3,fun g q=>?_⟩⟩
 have hl:g<w.heap.size:=by
  rcases q with q|q
  ·exact(h.lt g (by omega)).1
  ·exact yw q
 exact(ht.block g (Nat.lt_of_lt_of_le hl hpre.tch.size) (by omega)).trans (hsm g q)
theorem Laid.keep {w w2:World}{ρ:Nat→Nat}{B N lb:Nat}{G:Gh}{L:Lg}{ks:List Wk}(h:Laid w w2 ρ B N lb G L ks){k:Nat}(hk:k<w.heap.size) (h0:ρ k=0):w2.heap[k]? = w.heap[k]? := by
 obtain⟨⟨ρ1,wl,a1,a2,a3,a4⟩⟩:=h;exact a2.tch.block k hk (fun q=>q.1 h0)
theorem LogX.zero {w:World}{ρ:Nat→Nat}{B N lb:Nat}{G:Gh}{L:Lg}(h:LogX w ρ B N lb G L){k:Nat}(hk:w.heap.size≤k):ρ k=0:=by
 apply Classical.byContradiction;intro q;have:=(h.lt k q).1;omega
theorem qr:(Tryz.prog.info? 137).map (·.size)=some 2:=by
 have:=Tryz.info137
 cases h':Tryz.prog.info? 137 with
 | none=>rw[h']at this;cases this
 | some i=>rw[h']at this;simp at this;simp[this]
theorem nc {w wA w2:World}{ρ:Nat→Nat}{B N lb:Nat}{G:Gh}{L:Lg}{ks:List Wk}(h:LogX w ρ B N lb G L) (hb:Below w.heap.size w wA){nb:Nat}(hnb:w.heap.size≤nb) (hn0:wA.heap[nb]? = some (Obj.cells #[.int .i64 0, .int .i64 0] 137 (0,0))) (h2:Laid wA w2 ρ B N lb G L ks) (x:Nat) :
  (w2.cell? ⟨nb,0,none⟩=some (.int .i64 0)∧w2.frozen? ⟨nb,0,none⟩=false)∧(w2.cell? ⟨nb,1,none⟩=some (.int .i64 0)∧w2.frozen? ⟨nb,1,none⟩=false) ∧
  Hid (Laid w ((w2.setCell ⟨nb,0,none⟩ (.int .i64 (x:Int))).setCell ⟨nb,1,none⟩ (.int .i64 ((x:Int)+1))) ρ B N lb G L ks) ∧
  Hid ((loadVar 137 ⟨nb,0,none⟩).run Tryz.prog ((w2.setCell ⟨nb,0,none⟩ (.int .i64 (x:Int))).setCell ⟨nb,1,none⟩ (.int .i64 ((x:Int)+1)))=.ok (ol x) ((w2.setCell ⟨nb,0,none⟩ (.int .i64 (x:Int))).setCell ⟨nb,1,none⟩ (.int .i64 ((x:Int)+1)))):=by
 have hl:=(Mth.gI hn0);have hk:=(h2.keep hl (h.zero hnb)).trans hn0;refine⟨zy hk rfl,zy hk rfl,?_,?_⟩
 ·refine Laid.box h hb h2 hnb hl (fun⟨C,fr,q⟩=>?_) ⟨rfl,rfl,rfl,by simp,fun k _ e=>by rw[zt e,zt e]⟩;rw[hn0]at q
  injection q with q
  injection q with _ q _
  exact absurd q (by decide)
 ·exact run_loadVar_row (P:=Tryz.prog) _ nb 137 137 _ _ _ (ze (ze hk)) Tryz.underlying137 rfl qr
def xX (ks:List Wk) (q i:Nat):List Wk:=ks.set q ⟨(ks.getD q zo).list.eraseIdx i,(ks.getD q zo).runs,(ks.getD q zo).read⟩
theorem fK {w:World}{ρ:Nat→Nat}{B N lb:Nat}{G:Gh}{L:Lg}(h:LogX w ρ B N lb G L) (hB:B≤w.heap.size){q:Nat}(hq:q<L.wks.length) (hi:0<(L.wks.getD q zo).list.length) :
  Calls Tryz.prog 257 #[zr (G.wb.getD q 0)] w fun e w'=>e=.returned (ol ((L.wks.getD q zo).list.getD ((L.wks.getD q zo).list.length-1) 0))∧Laid w w' ρ B N lb G L (xX L.wks q ((L.wks.getD q zo).list.length-1)):=by
 obtain⟨a,c,hwl,hc,hm⟩:=zu (h.k.lst q hq);have hbA:=zv w (Obj.cells #[.int .i64 0, .int .i64 0] 137);have hn0:=zj w #[.int .i64 0, .int .i64 0] 137;have hl5:=xz (h.k.ok q hq);have hA:=h.below hbA;obtain⟨c1,f1⟩:=zA (j:=1) (u:=.slice a (L.wks.getD q zo).list.length c) (hA.k.one q hq) (by rw[hwl];rfl);have CG:=zx (nZ hA (Nat.le_trans hB hbA.size) hq (i:=(L.wks.getD q zo).list.length-1) (by omega));unfold maxLen at hm;have FIN:=zx (fun w2 ks hL=>nc (w2:=w2) (ks:=ks) h hbA (Nat.le_refl _) hn0 hL ((L.wks.getD q zo).list.getD ((L.wks.getD q zo).list.length-1) 0));clear hwl hA hbA hn0;change Hid (Calls _ _ _ _ fun e w'=>_∧Laid _ w' ρ B N lb G L (xX L.wks q ((L.wks.getD q zo).list.length-1)))at CG;generalize hks:xX L.wks q ((L.wks.getD q zo).list.length-1)=ks at *;generalize (L.wks.getD q zo).list.getD ((L.wks.getD q zo).list.length-1) 0=x at *;generalize (L.wks.getD q zo).list.length=n at *;generalize G.wb.getD q 0=b at *;rw[show((n-1:Nat):Int)=(n:Int)-1 by omega]at CG;obtain⟨W1,hW1⟩:∃W1,W1=w.alloc (Obj.cells #[.int .i64 0, .int .i64 0] 137):=⟨_,rfl⟩
 go_enter Tryz.func257,Tryz.ntmps257
 go_wp2_with (first
  | (go_at_call 278;refine CG.out.mono ?_;rintro e w2 ⟨rfl,hL⟩;obtain⟨⟨k1,k2⟩,⟨k3,k4⟩,k5,k6⟩:=FIN.out _ _ hL;clear hL))
 refine bodyPost_ret (v:=ol x) ?_ rfl ⟨rfl,k5.out⟩;have hld:=k6.out;rw[za rfl];simp[asAddr,Result.andThen,hld,ol]
theorem lX {w:World}{ρ:Nat→Nat}{B N lb:Nat}{G:Gh}{L:Lg}(h:LogX w ρ B N lb G L) (hB:B≤w.heap.size){q o:Nat}(hq:q<L.wks.length) (hi:(L.wks.getD q zo).list.length=0) (ho:xL L.wks L.wks.length=o) (hio:0<(L.wks.getD o zo).list.length) :
  Calls Tryz.prog 257 #[zr (G.wb.getD q 0)] w fun e w'=>e=.returned (ol ((L.wks.getD o zo).list.getD 0 0))∧Laid w w' ρ B N lb G L (xX L.wks o 0):=by
 have ho2:o<L.wks.length:=by rw[←ho];exact vo _ _ h.k.few.1
 obtain⟨a,c,hwl,hc,hm⟩:=zu (h.k.lst q hq);obtain⟨a2,c2,hwl2,hc2,hm2⟩:=zu (h.k.lst o ho2);have hbA:=zv w (Obj.cells #[.int .i64 0, .int .i64 0] 137);have hn0:=zj w #[.int .i64 0, .int .i64 0] 137;have hl5:=xz (h.k.ok o ho2);have hA:=h.below hbA;rw[hi]at hwl hc;obtain⟨c1,f1⟩:=zA (j:=1) (u:=.slice a 0 c) (hA.k.one q hq) (by rw[hwl];rfl);obtain⟨c0,f0⟩:=zA (j:=0) (u:=zr lb) (hA.k.one q hq) rfl;obtain⟨c14,_⟩:=zy (j:=14) (u:=G.wr) hA.b.blk rfl;obtain⟨a4,c4,hwr,_,_⟩:=zu h.k.row;have CM:=zx (qs hA.wksRd h.k.few.1 (fun j hj=>Nat.le_trans (xz (h.k.ok j hj)) (by omega)));rw[ho]at CM;rw[hwr]at c14 CM
 have HLO:Hid (∀w1,Below (w.alloc (Obj.cells #[.int .i64 0, .int .i64 0] 137)).heap.size (w.alloc (Obj.cells #[.int .i64 0, .int .i64 0] 137)) w1→w1.cell? ⟨G.wb.getD o 0,1,none⟩=some (.slice a2 (L.wks.getD o zo).list.length c2) ∧
   Calls Tryz.prog 278 #[zr (G.wb.getD o 0), .int .i64 ((0:Nat):Int)] w1 fun e w2=>e=.returned (ol ((L.wks.getD o zo).list.getD 0 0))∧Laid w1 w2 ρ B N lb G L (xX L.wks o 0)):=fun w1 hb1=>
  ⟨(zA (j:=1) ((hA.below hb1).k.one o ho2) (by rw[hwl2];rfl)).1,nZ (hA.below hb1) (Nat.le_trans hB (Nat.le_trans hbA.size hb1.size)) ho2 (i:=0) (by omega)⟩
 unfold maxLen at hm hm2;have FIN:=zx (fun w1 w2 ks (hb1:Below (w.alloc (Obj.cells #[.int .i64 0, .int .i64 0] 137)).heap.size (w.alloc (Obj.cells #[.int .i64 0, .int .i64 0] 137)) w1) hL=>nc (wA:=w1) (w2:=w2) (ks:=ks) h (hbA.trans (hb1.mono hbA.size)) (Nat.le_refl _) ((hb1.block w.heap.size (by simp)).trans hn0) hL ((L.wks.getD o zo).list.getD 0 0));clear hwl hwl2 hA hbA hn0 hwr ho;generalize hks:xX L.wks o 0=ks at *;generalize (L.wks.getD o zo).list.getD 0 0=x at *;generalize (L.wks.getD o zo).list.length=n at *;generalize G.wb.getD q 0=b at *;generalize G.wb.getD o 0=bo at *;generalize G.wb.length=nw at *
 have hne:¬((n:Int)=0):=by omega
 go_enter Tryz.func257,Tryz.ntmps257
 go_wp2_with (first
  | (go_at_call 279;refine CM.out.mono ?_;rintro e w1 ⟨rfl,hb1⟩;have HB1:=zx hb1;obtain⟨d1,hg⟩:=HLO.out _ hb1;rw[show(((0:Nat):Int))=0 from rfl]at hg;have CG:=zx hg;clear hb1 hg)
  | (go_at_call 278;refine CG.out.mono ?_;rintro e w2 ⟨rfl,hL⟩;obtain⟨⟨k1,k2⟩,⟨k3,k4⟩,k5,k6⟩:=FIN.out _ _ _ HB1.out hL;clear hL))
 refine bodyPost_ret (v:=ol x) ?_ rfl ⟨rfl,k5.out⟩;have hld:=k6.out;rw[za rfl];simp[asAddr,Result.andThen,hld,ol]
theorem jC {w:World}{ρ:Nat→Nat}{B N lb:Nat}{G:Gh}{L:Lg}(h:LogX w ρ B N lb G L){q o:Nat}(hq:q<L.wks.length) (hi:(L.wks.getD q zo).list.length=0) (ho:xL L.wks L.wks.length=o) (hio:(L.wks.getD o zo).list.length=0) :
  Calls Tryz.prog 257 #[zr (G.wb.getD q 0)] w fun e w'=>e=.returned (.agg #[.int .i64 0, .int .i64 0])∧Below w.heap.size w w':=by
 have ho2:o<L.wks.length:=by rw[←ho];exact vo _ _ h.k.few.1
 obtain⟨a,c,hwl,hc,hm⟩:=zu (h.k.lst q hq);obtain⟨a2,c2,hwl2,hc2,hm2⟩:=zu (h.k.lst o ho2);have hbA:=zv w (Obj.cells #[.int .i64 0, .int .i64 0] 137);have hn0:=zj w #[.int .i64 0, .int .i64 0] 137;have hA:=h.below hbA;rw[hi]at hwl hc;rw[hio]at hwl2 hc2;obtain⟨c1,f1⟩:=zA (j:=1) (u:=.slice a 0 c) (hA.k.one q hq) (by rw[hwl];rfl);obtain⟨c0,f0⟩:=zA (j:=0) (u:=zr lb) (hA.k.one q hq) rfl;obtain⟨c14,_⟩:=zy (j:=14) (u:=G.wr) hA.b.blk rfl;obtain⟨a4,c4,hwr,_,_⟩:=zu h.k.row;have CM:=zx (qs hA.wksRd h.k.few.1 (fun j hj=>Nat.le_trans (xz (h.k.ok j hj)) (by omega)));rw[ho]at CM;rw[hwr]at c14 CM
 have HLO:Hid (∀w1,Below (w.alloc (Obj.cells #[.int .i64 0, .int .i64 0] 137)).heap.size (w.alloc (Obj.cells #[.int .i64 0, .int .i64 0] 137)) w1→w1.cell? ⟨G.wb.getD o 0,1,none⟩=some (.slice a2 0 c2)∧w1.heap[w.heap.size]? = some (Obj.cells #[.int .i64 0, .int .i64 0] 137 (0,0))∧Below w.heap.size w w1):=fun w1 hb1=>
  ⟨(zA (j:=1) ((hA.below hb1).k.one o ho2) (by rw[hwl2];rfl)).1,(hb1.block w.heap.size (by simp)).trans hn0,hbA.trans (hb1.mono hbA.size)⟩
 unfold maxLen at hm hm2;clear hwl hwl2 hA hbA hn0 hwr ho h;generalize G.wb.getD q 0=b at *;generalize G.wb.getD o 0=bo at *;generalize G.wb.length=nw at *
 go_enter Tryz.func257,Tryz.ntmps257
 go_wp2_with (first
  | (go_at_call 279;refine CM.out.mono ?_;rintro e w1 ⟨rfl,hb1⟩;obtain⟨d1,k3,k4⟩:=HLO.out _ hb1;obtain⟨m0,g0⟩:=zy (j:=0) (u:=.int .i64 0) k3 rfl;obtain⟨m1,g1⟩:=zy (j:=1) (u:=.int .i64 0) k3 rfl;have K3:=zx k3;have K4:=zx k4;clear k3 k4 hb1))
 refine bodyPost_ret (v:=.agg #[.int .i64 0, .int .i64 0]) ?_ rfl ⟨rfl,zZ (zZ K4.out (Nat.le_refl _)) (Nat.le_refl _)⟩;have hld:=run_loadVar_row (P:=Tryz.prog) _ w.heap.size 137 137 _ _ _ (ze (j:=1) (v:=.int .i64 0) (ze (j:=0) (v:=.int .i64 0) K3.out)) Tryz.underlying137 rfl qr;rw[za rfl];simp[asAddr,Result.andThen,hld]
theorem qk {w:World}{ρ:Nat→Nat}{B N lb:Nat}{G:Gh}{L:Lg}(hB:B≤w.heap.size){q x:Nat}{ks:List Wk}(hq:q<ks.length) (hx:x≤4)
  (CT:Calls Tryz.prog 257 #[zr (G.wb.getD q 0)] w fun e w'=>e=.returned (ol x)∧Laid w w' ρ B N lb G L ks) :
  Calls Tryz.prog 215 #[zr (G.wb.getD q 0)] w fun e w'=>e=.returned (.int .i64 1)∧Laid w w' ρ B N lb G L (ks.set q ⟨(ks.getD q zo).list,some x,(ks.getD q zo).read⟩):=by
 have FIN:Hid (∀w1,Laid w w1 ρ B N lb G L ks →
   (((w1.alloc (Obj.cells #[.int .i64 (x:Int), .int .i64 ((x:Int)+1)] 137)).cell? ⟨G.wb.getD q 0,2,none⟩).isSome=true∧((w1.alloc (Obj.cells #[.int .i64 (x:Int), .int .i64 ((x:Int)+1)] 137)).cell? ⟨G.wb.getD q 0,3,none⟩).isSome=true∧((w1.alloc (Obj.cells #[.int .i64 (x:Int), .int .i64 ((x:Int)+1)] 137)).cell? ⟨G.wb.getD q 0,5,none⟩).isSome=true∧∀j,(w1.alloc (Obj.cells #[.int .i64 (x:Int), .int .i64 ((x:Int)+1)] 137)).frozen? ⟨G.wb.getD q 0,j,none⟩=false) ∧
   Laid w ((((w1.alloc (Obj.cells #[.int .i64 (x:Int), .int .i64 ((x:Int)+1)] 137)).setCell ⟨G.wb.getD q 0,2,none⟩ (.int .i64 (x:Int))).setCell ⟨G.wb.getD q 0,3,none⟩ (.int .i64 ((x:Int)+1))).setCell ⟨G.wb.getD q 0,5,none⟩ (au (G.wb.getD q 0) (some x))) ρ B N lb G L (ks.set q ⟨(ks.getD q zo).list,some x,(ks.getD q zo).read⟩)):=by
  intro w1 hL;obtain⟨⟨ρ1,wl1,a1,a2,a3,a4⟩⟩:=hL;have hBl:=zv w1 (Obj.cells #[.int .i64 (x:Int), .int .i64 ((x:Int)+1)] 137);have hA:=a1.below hBl;have hblk:=hA.k.one q hq;have hblk1:=a1.k.one q hq;have hbl:=(Mth.gI hblk1);have hbb:({ G with wl:=wl1 }:Gh).wb=G.wb:=rfl;refine⟨⟨?_,?_,?_,fun j=>?_⟩,?_⟩
  ·rw[(zA (j:=2) hblk rfl).1];rfl
  ·rw[(zA (j:=3) hblk rfl).1];rfl
  ·rw[(zA (j:=5) hblk rfl).1];rfl
  ·simp only[World.frozen?];rw[hblk];simp
  ·refine Laid.trans (wl1:=wl1) (ks:=ks) a2 a3 a4 ?_
   have hne:∀g,some g=(wl1 q).ownBlock→g≠G.wb.getD q 0:=fun g e e2=>by
    obtain⟨_,_,D,hD⟩:=zw (a1.k.lst q hq) e;rw[e2]at hD;exact yX hblk1 hD (by decide) rfl
   have ht:=a1.wkFin (w':=(((w1.alloc (Obj.cells #[.int .i64 (x:Int), .int .i64 ((x:Int)+1)] 137)).setCell ⟨G.wb.getD q 0,2,none⟩ (.int .i64 (x:Int))).setCell ⟨G.wb.getD q 0,3,none⟩ (.int .i64 ((x:Int)+1))).setCell ⟨G.wb.getD q 0,5,none⟩ (au (G.wb.getD q 0) (some x))) (Nat.le_trans hB a2.tch.size) hq ⟨(ks.getD q zo).list,some x,(ks.getD q zo).read⟩ (wl1 q)
    ⟨hBl.os,hBl.tape,hBl.output,by simp,fun k hk e=>by
     rw[zt (fun e'=>e (Or.inl e')),zt (fun e'=>e (Or.inl e')),zt (fun e'=>e (Or.inl e'))]
     exact hBl.block k hk⟩
    (by rw[ze (ze (ze hblk))];rfl)
    (zn (a1.k.lst q hq) (fun g e=>by
     rw[zt (hne g e),zt (hne g e),zt (hne g e)]
     exact hBl.block g (zw (a1.k.lst q hq) e).2.1))
    (fun g e=>Or.inl e)
    ⟨⟨(a1.k.ok q hq).1.1,fun y hy=>by injection hy with hy;omega⟩,(a1.k.ok q hq).2⟩
   obtain⟨ρ',r1,r2,r3,r4⟩:=ht;exact⟨⟨ρ',_,r1,r2,r3,r4⟩⟩
 have hne:¬((x:Int)+1=0):=by omega
 have HCT:=zx CT;clear CT;generalize ks.set q ⟨(ks.getD q zo).list,some x,(ks.getD q zo).read⟩=ks' at *;generalize G.wb.getD q 0=b at *
 go_enter Tryz.func215,Tryz.ntmps215
 go_wp2_with (first
  | (go_at_call 257;refine HCT.out.mono ?_;rintro e w1 ⟨rfl,hL⟩;obtain⟨⟨k2,k3,k5,kf⟩,hL2⟩:=FIN.out _ hL;obtain⟨u2,k2⟩:=Option.isSome_iff_exists.1 k2;obtain⟨u3,k3⟩:=Option.isSome_iff_exists.1 k3;obtain⟨u5,k5⟩:=Option.isSome_iff_exists.1 k5;have f2:=kf 2;have f3:=kf 3;have f5:=kf 5;have HL2:=zx hL2;clear hL hL2 kf))
 all_goals (
  go_ret
  exact⟨rfl,HL2.out⟩)
theorem iW {w:World}{b:Nat}(CT:Calls Tryz.prog 257 #[zr b] w fun e w'=>e=.returned (.agg #[.int .i64 0, .int .i64 0])∧Below w.heap.size w w') :
  Calls Tryz.prog 215 #[zr b] w fun e w'=>e=.returned (.int .i64 0)∧Below w.heap.size w w':=by
 have HCT:=zx CT;clear CT
 go_enter Tryz.func215,Tryz.ntmps215
 go_wp2_with (first
  | (go_at_call 257;refine HCT.out.mono ?_;rintro e w1 ⟨rfl,hL⟩;have HL:=zx hL;clear hL))
 go_ret;exact⟨rfl,HL.out.trans ((zv _ _).mono HL.out.size)⟩
def TlD (D:DataW Value) (tls:Int→Option (ByteArray × Nat)):Prop:=∀x:Int,(Maps.has D (.int .i64 x)=(tls x).isSome)∧∀p,tls x=some p→D.atKey (.int .i64 x) zT=.held (kN p)
theorem uF {P:Program}(w:World){ops:Array Oper}{rest:List Oper}{o:Oper}{a:Act}{Q:Exit→Act→World→Prop}(hg:o.guard=none) (it:Operand) (hop:o.op=Op.next it false) (hk3:P.underlying 3=some (.int .i64)) {tls:Int→Option (ByteArray × Nat)}
  (b r n:Nat) (D:DataW Value) (hD:TlD D tls) (left:Lit→Bool) (hleft:∀kl,left kl=true→Maps.has D kl=true) (cnt:Nat) (hit:a.eval it=.pointer (some ⟨r,0,none⟩)) (h:w.ranges P 3 dO b r n D left cnt)
  (hDone:cnt=0→(∀kl,left kl=false)→wpList P ops Q rest (a.put o.dst (.tuple #[.bool false])) w)
  (hMore:∀(x:Int) (p:ByteArray × Nat) (w':World) (cnt':Nat),tls x=some p→w'.ranges P 3 dO b r n D (fun z=>left z && !z.sameKey (.int .i64 x)) cnt'→cnt'<cnt →
   w.grownBy w' (some r)→w'.heap.size=w.heap.size→(Instr.entry (.pointer (some ⟨r,0,none⟩))).run P w'=.ok (.tuple #[.int .i64 x,kN p]) w'→wpList P ops Q rest (a.put o.dst (.tuple #[.bool true, .int .i64 x,kN p])) w') :
  wpList P ops Q (o::rest) a w:=
 wpList_next_ranges w hg it hop 3 (Maps.int_keyed hk3) dO (Value.int .i64) id (fun key kl hkey=>by obtain⟨x,rfl,_⟩:=Maps.keyOf_int_inv hk3 hkey;exact⟨x,rfl⟩) (fun v y hv=>⟨v,rfl⟩)
  b r n D left cnt hit h hDone (fun x c kl y w' cnt' hkey hlk hv hat hrg hlt hgr hsz hen=>by
   obtain⟨x',ex,rfl,hwx⟩:=Maps.keyOf_int_inv hk3 hkey;cases ex;have hh:=hleft _ hlk;rw[(hD x).1]at hh;obtain⟨p,hp⟩:=Option.isSome_iff_exists.1 hh;have h1:=(hD x).2 p hp;rw[hat zT]at h1;have h2:=pZ (d:=y.1) (ps:=y.2) hv;rw[h2]at h1
   injection h1 with h1
   have h3:c=kN p:=h1;subst h3
   exact hMore x p w' cnt' hp hrg hlt hgr hsz hen)
def Need (L:Lg) (m:Nat):Prop:=m≤L.count∧(∀x p,L.tls x=some p→m≤p.2)∧(m=L.count∨∃x p,L.tls x=some p∧m=p.2)
theorem kV {w wr w':World}{r:Nat}(hb:Below w.heap.size w wr) (hr:w.heap.size≤r) (hg:wr.grownBy w' (some r)):Below w.heap.size w w':=
 ⟨hg.os.trans hb.os,hg.tape.trans hb.tape,hg.output.trans hb.output,Nat.le_trans hb.size hg.size,fun k hk=>(hg.block k (Nat.lt_of_lt_of_le hk hb.size) (fun q=>by injection q with q;omega)).trans (hb.block k hk)⟩
theorem kU {w wr w':World}(hb:Below w.heap.size w wr) (hg:wr.grownBy w' none):Below w.heap.size w w':=
 ⟨hg.os.trans hb.os,hg.tape.trans hb.tape,hg.output.trans hb.output,Nat.le_trans hb.size hg.size,fun k hk=>(hg.block k (Nat.lt_of_lt_of_le hk hb.size) (fun q=>by cases q)).trans (hb.block k hk)⟩
theorem lN {w:World}{ρ:Nat→Nat}{B N lb:Nat}{G:Gh}{L:Lg}(h:LogX w ρ B N lb G L) :
  Calls Tryz.prog 327 #[zr lb] w fun e w'=>∃m:Nat,e=.returned (.int .i64 (m:Int))∧Need L m∧Below w.heap.size w w':=by
 obtain⟨c6,_⟩:=zy (j:=6) (u:=zr G.jb) h.b.blk rfl;obtain⟨c15,_⟩:=zy (j:=15) (u:=.map (some G.tm)) h.b.blk rfl;have CN:=zx (tg h.j.j);obtain⟨D,n,hown,_,_,hD⟩:=h.t.map;have hD:TlD D L.tls:=hD;have hlt:=hown.lt
 have HN:Hid (∀m:Nat,Need L m↔(m≤L.count∧(∀x p,L.tls x=some p→m≤p.2)∧(m=L.count∨∃x p,L.tls x=some p∧m=p.2))):=fun m=>Iff.rfl
 clear h;generalize G.jb=jb at *;generalize G.tm=tm at *;generalize L.count=ct at *;generalize L.tls=tls at *;have HD:=zx hD;clear hD
 go_enter Tryz.func327,Tryz.ntmps327
 go_wp2_with (first
  | (go_at_call 96;refine CN.out.mono ?_;rintro e w1 ⟨rfl,hw1⟩;subst hw1)
  | (at_range;refine wpList_range_own _ rfl _ 132 rfl 3 193 (Maps.int_keyed Tryz.underlying3) Tryz.underlying132 dO _ _ _ rfl hown ?_;intro w0 hrg0 hg0 hs0))
 go_frame
 go_loopw [3] (fun v wr=>∃(left:Lit→Bool) (cnt m:Nat),wr.ranges Tryz.prog 3 dO tm w1.heap.size n D left cnt∧v=.int .i64 (m:Int)∧(∀kl,left kl=true→Maps.has D kl=true)∧(m≤ct∧(∀x p,tls x=some p→left (.int .i64 x)=false→m≤p.2)∧(m=ct∨∃x p,tls x=some p∧m=p.2))∧Below w1.heap.size w1 wr) (fun _ wr=>wr.rangeLeft tm w1.heap.size)
 case atStart=>
  refine⟨_,_,ct,hrg0,rfl,fun _ q=>q,⟨Nat.le_refl _,fun x p q q2=>?_,Or.inl rfl⟩,kU (Below.refl _ _) hg0⟩;rw[(HD.out x).1,q]at q2;cases q2
 case round=>
  obtain⟨left,cnt,m,hrg,rfl,hlf,hm,hb⟩:=hrel;have HM:=zx hm;have HRG:=zx hrg;have HB:=zx hb;have HLF:=zx hlf;clear hm hb hlf
  go_wp2_with (first
   | (at_next;refine uF _ rfl _ rfl Tryz.underlying3 tm w1.heap.size n D HD.out left HLF.out cnt rfl hrg ?_ ?_))
  ·intro hc0 hl0;have HF:=zx ((HN.out m).2 ⟨HM.out.1,fun x p q=>HM.out.2.1 x p q (hl0 _),HM.out.2.2⟩);clear hl0;go_wp2;go_ret;exact⟨m,rfl,HF.out,HB.out⟩
  ·intro x px pn w2 cnt2 hp hrg2 hlt2 hg2 hs2 hen;have HB2:=zx (kV HB.out (Nat.le_refl _) hg2);have HR2:=zx hrg2;have HP:=zx hp;clear hg2 hrg2 hp hrg0 hg0 hs0 hrg;simp only[kN]at hen ⊢;go_wp2
   go_roundw
   case rel=>
    refine⟨_,cnt2,min m pn,HR2.out.alloc _,by go_num,fun kl q=>HLF.out kl (by simp at q;exact q.1),⟨Nat.le_trans (Nat.min_le_left _ _) HM.out.1,fun y p q q2=>?_,?_⟩,HB2.out.trans ((zv w2 _).mono HB2.out.size)⟩
    ·by_cases hyx:y=x
     ·subst hyx;rw[HP.out]at q
      injection q with q
      rw[←q];exact Nat.min_le_right _ _
     ·refine Nat.le_trans (Nat.min_le_left _ _) (HM.out.2.1 y p q ?_);simp only[Bool.and_eq_false_iff]at q2
      rcases q2 with q2|q2
      ·exact q2
      ·exfalso;simp[Lit.sameKey]at q2;exact hyx q2
    ·rcases Nat.le_total m pn with hle|hle
     ·rw[Nat.min_eq_left hle];exact HM.out.2.2
     ·rw[Nat.min_eq_right hle];exact Or.inr ⟨x,_,HP.out,rfl⟩
   case measure=>rw[(HR2.out.alloc _).left_eq,HRG.out.left_eq];exact hlt2
def kp (y:Int) (m:Nat) (e:Ent):Bool:=decide (y≤e.time) || decide ((m:Int)≤e.seq)
theorem tZ {es:List (List Ent)}{k:Nat}(h:k<es.length) (f:Ent→Bool):((es.take (k+1)).flatten).filter f=((es.take k).flatten).filter f++(es.getD k []).filter f:=by
 rw[zG h [],List.flatten_append,List.filter_append];simp
theorem tJ {l:List Ent}{k:Nat}(h:k<l.length) (f:Ent→Bool):(l.take (k+1)).filter f=(l.take k).filter f++(if f (l.getD k e0) then [l.getD k e0] else []):=by
 rw[zG h e0,List.filter_append];generalize l.getD k e0=e;simp only[List.filter_cons,List.filter_nil]
theorem uG (es:List (List Ent)) (k:Nat):(es.take k).flatten.length≤es.flatten.length:=by
 have:=congrArg List.length (congrArg List.flatten (List.take_append_drop k es));rw[List.flatten_append,List.length_append]at this;omega
theorem dv {w:World}{ρ:Nat→Nat}{B N lb:Nat}{G:Gh}{L:Lg}(h:LogX w ρ B N lb G L) (hc:L.clock≤1000000000000) (hk:L.keep≤1000000){sv:Value}{bs:List Nat}{es:List (List Ent)}(hR:RdP w sv bs) (hlen:bs.length=es.length)
  (hseg:∀j,j<es.length→∃ev mb,SegAt w B (bs.getD j 0) (es.getD j []) ev mb) (hT:es.flatten.length≤1048576) :
  Calls Tryz.prog 308 #[zr lb,sv] w fun e w'=>∃v m,e=.returned v∧Need L m∧CurE w w' v (es.flatten.filter (kp ((L.clock:Int)-(L.keep:Int)) m)):=by
 obtain⟨i0,hi0,hz0,hz1,hz2⟩:=info_parts Tryz.info66;have CY:=zx (qu h hc hk)
 have CN:Hid (∀w1,Below w.heap.size w w1→Calls Tryz.prog 327 #[zr lb] w1 fun e w'=>∃m:Nat,e=.returned (.int .i64 (m:Int))∧Need L m∧Below w1.heap.size w1 w'):=fun w1 hb=>lN (h.below hb)
 obtain⟨a,c,rfl,hcc,hm,hp⟩:=hR;have HP:=zx hp;have HS:=zx hseg;unfold maxLen at hm;clear h hp hseg;rw[hlen]at hcc HP ⊢;generalize (L.clock:Int)-(L.keep:Int)=Y at *;have HLEN:=zx hlen;clear hlen;generalize hn:es.length=n at *;have HN:=zx hn;clear hn
 go_enter Tryz.func308,Tryz.ntmps308
 go_wp2_with (first
  | (go_at_call 90;refine CY.out.mono ?_;rintro e w1 ⟨rfl,hb1⟩;have HB1:=zx hb1;clear hb1)
  | (go_at_call 327;refine(CN.out _ HB1.out).mono ?_;rintro e w2 ⟨m,rfl,hnd,hb2⟩;have HB2:=zx (HB1.out.trans (hb2.mono HB1.out.size));have HND:=zx hnd;clear hb2 hnd))
 go_loopw [7,18] (fun v i wr=>∃k:Nat,k≤n∧i=.int .i64 k∧CurE w wr v (((es.take k).flatten).filter (kp Y m))) (fun _ i _=>n-(intOf i).toNat)
 case atStart=>exact⟨0,Nat.zero_le _,rfl,HB2.out,World.ownsRow_nil _ _ _ _⟩
 case round=>
  obtain⟨k,hk',rfl,hcur⟩:=hrel;have HC:=zx hcur;clear hcur;by_cases hlt:k<n
  ·obtain⟨ev,mb,hsg⟩:=HS.out k hlt
   have hcell:∃b o,a=some ⟨b,o,none⟩∧wr.cell? ⟨b,o+k,none⟩=some (zr (bs.getD k 0)):=by
    rcases HP.out with e|⟨b,o,e,hq⟩
    ·have:=HLEN.out;rw[e]at this;simp at this;omega
    ·have:=hq k hlt;exact⟨b,o,e,(HC.out.1.cell (p:=⟨b,o+k,none⟩) (World.block_lt_of_cell? _ _ this)).trans this⟩
   obtain⟨b,o,rfl,hcell⟩:=hcell;have hsr:=hsg.below HC.out.1;obtain⟨a2,c2,rfl,hc2,hm2⟩:=zu hsr.own;unfold maxLen at hm2;obtain⟨q0,_⟩:=zy (j:=0) (u:=.slice a2 (es.getD k []).length c2) hsr.blk rfl;have hfs:=tZ (es:=es) (k:=k) (by rw[HN.out];exact hlt) (kp Y m)
   have hbk:((es.take k).flatten).length+(es.getD k []).length≤1048576:=by
    have h1:=uG es (k+1);rw[zG (by rw[HN.out];exact hlt) [],List.flatten_append,List.length_append]at h1;simp only[List.flatten_cons,List.flatten_nil,List.append_nil]at h1;omega
   have hfl:(((es.take k).flatten).filter (kp Y m)).length≤((es.take k).flatten).length:=List.length_filter_le _ _;have HFS:=zx hfs;have HSG:=zx hsg;clear hfs hsr hsg;generalize hek:es.getD k []=ek at *;generalize bs.getD k 0=pb at *;generalize hln:ek.length=ln at *;have HLN:=zx hln;clear hln hek;obtain⟨L0,hL0⟩:∃L0,L0=((es.take k).flatten).filter (kp Y m):=⟨_,rfl⟩;rw[←hL0]at hfl HC HFS;clear hL0;generalize ((es.take k).flatten).length=fl at *;obtain⟨va,vc,rfl,_,_⟩:=zu HC.out.2;go_wp2
   go_loopw [7,27] (fun v i wr'=>∃j:Nat,j≤ln∧i=.int .i64 j∧CurE w wr' v (L0++(ek.take j).filter (kp Y m))) (fun _ i _=>ln-(intOf i).toNat)
   case atStart=>exact⟨0,Nat.zero_le _,rfl,by simpa using HC.out⟩
   case round=>
    obtain⟨j,hj,rfl,hcur2⟩:=hrel;have HC2:=zx hcur2;clear hcur2;by_cases hlt2:j<ln
    ·have hsr:=HSG.out.below HC2.out.1;have ho:=hsr.own;rw[HLN.out]at ho;obtain⟨g,rfl⟩:=zf ho (by omega);obtain⟨e0',e1,e2⟩:=xR ho HLN.out hlt2;have hfs2:=tJ (l:=ek) (k:=j) (by rw[HLN.out];exact hlt2) (kp Y m);have hfl2:((ek.take j).filter (kp Y m)).length≤j:=Nat.le_trans (List.length_filter_le _ _) (by simp;omega)
     have hll:(L0++(ek.take j).filter (kp Y m)).length≤1048576:=by rw[List.length_append];omega
     obtain⟨f,hf⟩:∃f,f=ek.getD j e0:=⟨_,rfl⟩;rw[←hf]at e0' e1 e2 hfs2;clear hf hsr ho;obtain⟨fs,ft,fx⟩:=f;simp only at e0' e1 e2
     have HFS2:Hid (L0++(ek.take (j+1)).filter (kp Y m)=(L0++(ek.take j).filter (kp Y m))++(if kp Y m ⟨fs,ft,fx⟩ then [⟨fs,ft,fx⟩] else [])):=by
      show _=_;rw[hfs2,List.append_assoc]
     clear hfs2 hfl2;generalize L0++(ek.take j).filter (kp Y m)=L1 at *;have hsz4:=HC2.out.1.size;obtain⟨va2,vc2,rfl,_,_⟩:=zu HC2.out.2;by_cases h1:Y≤ft
     ·have hkp:kp Y m ⟨fs,ft,fx⟩=true:=by unfold kp;simp[h1]
      rw[hkp]at HFS2;clear hkp;go_wp2_with (first|(at_builtin;refine wpList_append_own _ rfl _ _ 57 rfl w.heap.size 66 i0 (.agg #[.int .i64 0, .int .i64 0, .string ByteArray.empty]) 3 32 Tryz.underlying57 hi0 hz0 hz1 hz2 rfl (by decide) _ _ _ rfl ((HC2.out.2.alloc _).alloc _) ⟨wr.heap.size+1,0,none⟩ 1 1 [.int .i64 fs, .int .i64 ft, .string fx] rfl rfl (by have:=yg (wr.alloc (Obj.cells #[.int .i64 fs, .int .i64 ft, .string fx] 66)) (.int .i64 fs) (.int .i64 ft) (.string fx) 66;rw[World.size_alloc]at this;exact this) (by intro u hu;simp at hu;rcases hu with rfl|rfl|rfl <;> rfl) (by unfold maxLen;omega) (by omega) (by simp;omega) ?_;intro v5 w5 hown5 hgrow5 _;have HC5:=zx (wk (e:=⟨fs,ft,fx⟩) (⟨HC2.out.1.trans ((zv _ _).mono HC2.out.1.size),HC2.out.2.alloc _⟩:CurE w (wr.alloc (Obj.cells #[.int .i64 fs, .int .i64 ft, .string fx] 66)) _ _) hown5 hgrow5);clear hown5 hgrow5))
      go_roundw
      case rel=>exact⟨j+1,by omega,by go_num,by rw[HFS2.out];exact HC5.out⟩
      case measure=>simp[intOf];omega
     ·by_cases h2:(m:Int)≤fs
      ·have hkp:kp Y m ⟨fs,ft,fx⟩=true:=by unfold kp;simp[h2]
       rw[hkp]at HFS2;clear hkp;go_wp2_with (first|(at_builtin;refine wpList_append_own _ rfl _ _ 57 rfl w.heap.size 66 i0 (.agg #[.int .i64 0, .int .i64 0, .string ByteArray.empty]) 3 32 Tryz.underlying57 hi0 hz0 hz1 hz2 rfl (by decide) _ _ _ rfl ((HC2.out.2.alloc _).alloc _) ⟨wr.heap.size+1,0,none⟩ 1 1 [.int .i64 fs, .int .i64 ft, .string fx] rfl rfl (by have:=yg (wr.alloc (Obj.cells #[.int .i64 fs, .int .i64 ft, .string fx] 66)) (.int .i64 fs) (.int .i64 ft) (.string fx) 66;rw[World.size_alloc]at this;exact this) (by intro u hu;simp at hu;rcases hu with rfl|rfl|rfl <;> rfl) (by unfold maxLen;omega) (by omega) (by simp;omega) ?_;intro v5 w5 hown5 hgrow5 _;have HC5:=zx (wk (e:=⟨fs,ft,fx⟩) (⟨HC2.out.1.trans ((zv _ _).mono HC2.out.1.size),HC2.out.2.alloc _⟩:CurE w (wr.alloc (Obj.cells #[.int .i64 fs, .int .i64 ft, .string fx] 66)) _ _) hown5 hgrow5);clear hown5 hgrow5))
       go_roundw
       case rel=>exact⟨j+1,by omega,by go_num,by rw[HFS2.out];exact HC5.out⟩
       case measure=>simp[intOf];omega
      ·have hkp:kp Y m ⟨fs,ft,fx⟩=false:=by unfold kp;simp[h1,h2]
       rw[hkp]at HFS2;clear hkp;go_wp2
       go_roundw
       case rel=>exact⟨j+1,by omega,by go_num,by rw[HFS2.out];simp only[Bool.false_eq_true,if_false,List.append_nil];exact⟨HC2.out.1.trans ((zv _ _).mono HC2.out.1.size),HC2.out.2.alloc _⟩⟩
       case measure=>simp[intOf];omega
    ·have hje:j=ln:=by omega
     subst hje;have HTK:Hid (ek.take j=ek):=List.take_of_length_le (Nat.le_of_eq HLN.out);go_wp2
     go_roundw
     case rel=>exact⟨k+1,by omega,by go_num,by rw[HFS.out];have:=HC2.out;rwa [HTK.out]at this⟩
     case measure=>simp[intOf];omega
  ·have hke:k=n:=by omega
   subst hke;have HTK:Hid (es.take k=es):=List.take_of_length_le (Nat.le_of_eq HN.out);go_wp2;go_ret;exact⟨_,m,rfl,HND.out,by have:=HC.out;rwa [HTK.out]at this⟩
theorem LogX.newSeg {w w':World}{ρ:Nat→Nat}{B N lb:Nat}{G:Gh}{L:Lg}(h:LogX w ρ B N lb G L) (hB:B≤w.heap.size){s mb:Nat}{es:List Ent}{ev:Value}(hn:NewSeg w w' B s es ev mb) :
  ∃ρ',LogX w' ρ' B N lb G L∧(∀k,yA s mb ev k→ρ' k=4)∧(∀i,i<6→¬s∈G.bs i)∧LStp w w' ρ ρ'∧(∀g,ρ g≠0→ρ' g=ρ g)∧Same w w' ρ (fun c=>c=3):=by
 have hx:=h.below hn.bel;have hk:=xC (P:=yA s mb ev) (c:=4) h.lt;have xb:=LHd.role (ρ:=ρ) hx.b (fun g q=>(hk g (by omega)).trans q);have xj:=LJ.role (ρ:=ρ) hx.j (fun g q=>(hk g (by omega)).trans q);have xv:=LV.role (ρ:=ρ) hx.v (fun g q=>hk g (by rcases q with q|⟨i,_,q⟩ <;> omega));have xk:=LW.role (ρ:=ρ) hx.k (fun g q=>hk g (by rcases q with q|⟨i,_,q⟩ <;> omega));have xt:=LT.role (ρ:=ρ) hx.t (fun g q=>(hk g (by omega)).trans q);have hlt:=tu (P:=yA s mb ev) (c:=4) h.lt hn.bel.size hB (fun k q=>(hn.seg.ownLt q).1);refine⟨_,⟨xb,xj,xv,xk,xt,hlt⟩,fun k q=>vQ (hn.new k q) q,fun i hi hm=>?_,⟨zH hn.bel,fun k hk2 e=>by rw[wm hk2];exact e⟩,hk,Same.below h.lt (by omega) hn.bel⟩;obtain⟨j,hj,e⟩:=List.getElem_of_mem hm;have h4:=h.v.rs i hi j hj ((G.bs i).getD j 0) (Or.inl rfl);rw[←List.getElem_eq_getD (h:=hj),e]at h4;have:=hn.new s (Or.inl rfl);have:=(h.lt s (by omega)).1;omega
noncomputable def Gh.cut (G:Gh) (i:Nat) (v:Value) (n:Nat):Gh:={ G with lr:=fun j=>if j=i then v else G.lr j,bs:=fun j=>if j=i then(G.bs j).drop n else G.bs j }
def Lg.cut (L:Lg) (i n:Nat):Lg:={ L with lev:=fun j=>if j=i then(L.lev j).drop n else L.lev j }
theorem cF (G:Gh) (L:Lg) (i:Nat) (hi:i<6) (v:Value) (n:Nat):(mJ G L).setIfInBounds (8+i) v=mJ (G.cut i v n) (L.cut i n):=by
 rcases(show i=0∨i=1∨i=2∨i=3∨i=4∨i=5 by omega)with rfl|rfl|rfl|rfl|rfl|rfl <;> simp[mJ,Gh.cut,Lg.cut]
theorem vJ {α:Type}(l:List α) (n j:Nat) (z:α):(l.drop n).getD j z=l.getD (n+j) z:=by simp[List.getD,List.getElem?_drop]
theorem LogX.cutFin {w W5:World}{ρ:Nat→Nat}{B N lb:Nat}{G:Gh}{L:Lg}(h:LogX w ρ B N lb G L){i n:Nat}(hi:i<6) {v5:Value}
  (o5:W5.ownsRow B 128 1 v5 ((G.bs i).drop n).length (((G.bs i).drop n).map zr)) (g6:w.grownBy W5 (G.lr i).ownBlock) (n5:v5.ownBlock=(G.lr i).ownBlock) :
  LogX (W5.setCell ⟨lb,8+i,none⟩ v5) ρ B N lb (G.cut i v5 n) (L.cut i n)∧LStp w (W5.setCell ⟨lb,8+i,none⟩ v5) ρ ρ∧Same w (W5.setCell ⟨lb,8+i,none⟩ v5) ρ (fun c=>c=3):=by
 have ht:Tch (fun k=>some k=(G.lr i).ownBlock) w W5:=⟨g6.os,g6.tape,g6.output,g6.size,fun k hk q=>g6.block k hk q⟩
 have hS:∀k,some k=(G.lr i).ownBlock→ρ k=10+i∧¬wM w k:=fun k q=>by
  obtain⟨_,_,D,hD⟩:=zw (h.v.row i hi) q;exact⟨h.v.rr i hi k q,qI hD (by decide)⟩
 have hsm:=h.others ht hS;have hstp:LStp w W5 ρ ρ:=⟨ht.mono (fun k _ q=>⟨by rw[(hS k q).1];omega,(hS k q).2⟩),fun k _ q=>q⟩
 have hsegs:∀ {s' mb':Nat}{es':List Ent}{ev':Value},SegAt w B s' es' ev' mb'→(∀k,yA s' mb' ev' k→ρ k=4)→SegAt W5 B s' es' ev' mb':=fun hs' hr'=>hs'.same (fun g q=>hsm (fun c=>c=4) (by omega) (by omega) g (q.imp (fun q=>hr' g q) id))
 have hV:LV W5 ρ B (G.cut i v5 n) (L.cut i n):=by
  refine⟨fun i' hi'=>?_,fun i' hi'=>?_,fun i' hi' j hj=>?_,fun i' hi' g q=>?_,fun i' hi' j hj k q=>?_⟩
  ·by_cases e:i'=i
   ·subst e;simp only[Gh.cut,if_pos];exact o5
   ·simp only[Gh.cut,if_neg e];exact zn (h.v.row i' hi') (fun g q=>hsm (fun c=>c=10+i') (by omega) (by omega) g (Or.inl (h.v.rr i' hi' g q)))
  ·have:=h.v.len i' hi';by_cases e:i'=i
   ·simp only[Gh.cut,Lg.cut,if_pos e,List.length_drop];rw[this]
   ·simp only[Gh.cut,Lg.cut,if_neg e];exact this
  ·by_cases e:i'=i
   ·simp only[Gh.cut,Lg.cut,if_pos e]at hj ⊢;rw[List.length_drop]at hj;rw[vJ,vJ];exact hsegs (h.v.seg i' hi' (n+j) (by omega)) (h.v.rs i' hi' (n+j) (by omega))
   ·simp only[Gh.cut,Lg.cut,if_neg e]at hj ⊢;exact hsegs (h.v.seg i' hi' j hj) (h.v.rs i' hi' j hj)
  ·by_cases e:i'=i
   ·simp only[Gh.cut,if_pos e]at q;rw[n5]at q;rw[e];exact h.v.rr i hi g q
   ·simp only[Gh.cut,if_neg e]at q;exact h.v.rr i' hi' g q
  ·by_cases e:i'=i
   ·simp only[Gh.cut,if_pos e]at hj q;rw[List.length_drop]at hj;rw[vJ]at q;exact h.v.rs i' hi' (n+j) (by omega) k q
   ·simp only[Gh.cut,if_neg e]at hj q;exact h.v.rs i' hi' j hj k q
 have hlt:∀k,ρ k≠0→k<W5.heap.size∧B≤k:=fun k q=>⟨Nat.lt_of_lt_of_le (h.lt k q).1 g6.size,(h.lt k q).2⟩
 have hb5:LHd W5 ρ lb G L:=h.b.same (hsm _ (by omega) (by omega));have xj:=h.j.same (hsm _ (by omega) (by omega));have xk:=h.k.same (hsm _ (by omega) (by omega));have xt:=h.t.same (hsm _ (by omega) (by omega));obtain⟨r1,r2⟩:=uP (N:=N) hb5 hlt (8+i) v5 (cF G L i hi v5 n) ⟨xj.j,xj.rl⟩ hV ⟨xk.row,xk.len,xk.one,xk.lst,xk.ok,xk.few,xk.ge,xk.rw,xk.rb,xk.rl⟩ ⟨xt.map,xt.rl,xt.ge⟩;refine⟨r1,hstp.trans r2,fun g q=>?_⟩;rw[zt (fun e=>?_)]
 ·exact hsm (fun c=>c=3) (by omega) (by omega) g q
 ·subst e
  rcases q with q|q
  ·rw[h.b.rl]at q;omega
  ·exact qI h.b.blk (by decide) q
def GK (G G':Gh):Prop:=G'={ G with lr:=G'.lr,bs:=G'.bs,se:=G'.se,sm:=G'.sm,wl:=G'.wl }
theorem GK.refl (G:Gh):GK G G:=rfl
theorem GK.trans {G G1 G2:Gh}(h1:GK G G1) (h2:GK G1 G2):GK G G2:=by
 unfold GK at *;rw[h1]at h2;exact h2
structure XStp (w w':World) (ρ:Nat→Nat) (B N lb:Nat) (G:Gh) (L':Lg):Prop where
 ex:∃ρ' G',LogX w' ρ' B N lb G' L'∧GK G G'∧LStp w w' ρ ρ'∧(∀g,ρ g≠0→ρ' g=ρ g)∧Same w w' ρ (fun c=>c=3)
theorem XStp.of_below {w w':World}{ρ:Nat→Nat}{B N lb:Nat}{G:Gh}{L:Lg}(h:LogX w ρ B N lb G L) (hb:Below w.heap.size w w'):XStp w w' ρ B N lb G L:=⟨⟨ρ,G,h.below hb,GK.refl G,⟨zH hb,fun _ _ q=>q⟩,fun _ _=>rfl,Same.below h.lt (by omega) hb⟩⟩
theorem XStp.pre {w w1 w2:World}{ρ:Nat→Nat}{B N lb:Nat}{G:Gh}{L L':Lg}(h:LogX w ρ B N lb G L) (hb:Below w.heap.size w w1) (h2:XStp w1 w2 ρ B N lb G L'):XStp w w2 ρ B N lb G L':=by
 obtain⟨⟨ρ2,G2,b1,b2,b3,b4,b5⟩⟩:=h2;exact⟨⟨ρ2,G2,b1,b2,LStp.pre hb b3,b4,b5.pre h hb⟩⟩
theorem Laid.xstp {w w':World}{ρ:Nat→Nat}{B N lb:Nat}{G:Gh}{L:Lg}{ks:List Wk}(h:Laid w w' ρ B N lb G L ks):XStp w w' ρ B N lb G { L with wks:=ks }:=by
 obtain⟨⟨ρ',wl',r1,r2,r3,r4⟩⟩:=h;exact⟨⟨ρ',_,r1,rfl,r2,r3,r4⟩⟩
theorem XStp.log {w w':World}{ρ:Nat→Nat}{B N lb:Nat}{G:Gh}{L L':Lg}(hm:LM w ρ B G L) (h:XStp w w' ρ B N lb G L') (hl:L'.mem=L.mem):∃ρ' G',LogAt w' ρ' B N lb G' L'∧LStp w w' ρ ρ'∧GK G G':=by
 obtain⟨⟨ρ',G',r1,r2,r3,r4,r5⟩⟩:=h;have xm:=LM.role (ρ':=ρ') (hm.same r5) (fun g q=>(r4 g (by omega)).trans q);refine⟨ρ',G',⟨r1,⟨?_,?_⟩⟩,r3,r2⟩
 ·rw[r2,hl];exact xm.seg
 ·rw[r2];exact xm.rl
def Lg.left (L:Lg) (i m:Nat):List Ent:=((L.lev i).take L.fan).flatten.filter (kp ((L.clock:Int)-(L.keep:Int)) m)
def Lg.mrg (L:Lg) (i m:Nat):Lg:=(if L.left i m=[] then L else L.put (i+1) (L.left i m)).cut i L.fan
def Lg.ends (L:Lg) (i m:Nat):Lg:={ L.mrg i m with wks:=zO L.fan (fun j=>((L.mrg i m).lev j).length) L.wks 5 }
end Go.Proofs.YtkncboinfcnklaaGreatDoor
