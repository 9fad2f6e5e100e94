import Derived.Test.YtkncboinfcnklaaGreatDoorQ29
namespace Go.Proofs.YtkncboinfcnklaaGreatDoor.Lw
open Go.RowKit Go.Deep Go.Shelf Go.Proofs.YtkncboinfcnklaaGreatDoor.Mth Go.Proofs.YtkncboinfcnklaaGreatDoor.Rl
theorem gY {w:World}{mv:Value}{C:Array Value}(h:w.ownsRow 0 234 20 mv 1 C.toList):∃mb mc,mv=.slice (some ⟨mb,0,none⟩) 1 mc∧(1≤mc∧mc≤maxLen)∧w.rangeAt mb 0 C.toList:=by
 obtain⟨a,c,rfl,h1,h2⟩:=zu h;obtain⟨g,rfl⟩:=zf h (by omega);refine⟨g,c,rfl,⟨h1,h2⟩,fun j v hv=>?_⟩;have:=zg h hv
 simpa using this
theorem bC {Z:Nat→Prop}{w2:World}{hb ob d:Nat}{mv:Value}{V:Rv}{L L':Lg}{all al:List Ent}{ts:List Tl}{S:ByteArray}{n er:Int}(c1:w2.cell? ⟨hb,1,none⟩=some (zr d)) (c9:w2.cell? ⟨hb,9,none⟩=some mv∧w2.frozen? ⟨hb,9,none⟩=false) (o0:w2.cell? ⟨ob,0,none⟩=some (.int .i64 12)) (o4:w2.cell? ⟨ob,4,none⟩=some (.string S))
  (st:Calls Tryz.prog 41 #[zr d] w2 fun e w'=>e=.returned (.bool false)∧w'=w2) (may:w2.ownsRow 0 234 20 mv 1 (zR V L).toList) (ref:RfV Z 0 w2 V L all ts) (hZ:∀g,Z g→g<w2.heap.size) (hI:Inv L all) (hM:all.length≤1000000) (hw4:L.wks.length≤4) (hwl:∀q,q<L.wks.length→(L.wks.getD q zo).list.length≤900) (hts:ts.length≤1000)
  (hcr:∀W cb V',W.heap[cb]? = some (Obj.cells (zR V' L) 234 (0,0))→RfV (fun g=>Z g∨w2.heap.size≤g) w2.heap.size W V' L all ts→RfD w2.heap.size V' L→w2.heap.size≤W.heap.size→w2.heap.size≤cb→Calls Tryz.prog 129 #[zr cb, .string S] W fun e W'=>e=.returned (.tuple #[.int .i64 n, .int .i64 er])∧Below w2.heap.size W W'∧∃V2,W'.heap[cb]? = some (Obj.cells (zR V2 L') 234 (0,0))∧RfV (fun g=>Z g∨w2.heap.size≤g) w2.heap.size W' V2 L' al ts) :
  ∃mb mc C,LyQ w2 hb ob d mb mc S C n er (fun mv W=>∃V2,RfT Z w2 W L' al ts mv V2):=by
 obtain⟨mb,mc,rfl,hmc,hrg⟩:=gY may;have hlv:=hI.lev;have hml:=hI.stoLen;refine⟨mb,mc,zR V L,c1,c9,o0,o4,st,hrg,rfl,hmc,(sE ref hZ (by omega) (by omega) (fun i hi=>by have:=hlv i hi;omega) hw4 (fun q hq=>by have:=hwl q hq;omega) hts).mono ?_⟩;rintro e w3 ⟨V',rfl,hr3,hd3,hb3⟩;refine⟨_,rfl,rfl,hr3.one,rfl,hb3,fun W hW hbk=>?_,fun W hW hbk=>?_⟩
 ·refine(qK hbk (zq hr3.all hW) S (by omega)).mono ?_;rintro e W' ⟨av',rfl,o',b'⟩;obtain⟨a,c,rfl,_,_⟩:=zu o';exact⟨_,_,_,_,rfl,b'⟩
 ·have hsz:=hb3.size;refine(hcr W _ V' hbk (hr3.below hW) hd3 (Nat.le_trans hsz hW.size) hsz).mono ?_;rintro e W' ⟨rfl,hbW,V2,hb2,hr2⟩;refine⟨rfl,_,rfl,hr2.one,hb2,hb3.trans ((hW.mono hsz).trans hbW),fun W10 mv h1 h2 h3=>⟨V2,h1,h3,hr2.below h2⟩⟩
theorem bB {Z:Nat→Prop}{w2:World}{hb ob d:Nat}{mv:Value}{V:Rv}{L L':Lg}{all al:List Ent}{ts:List Tl}{bb er:Int}(c1:w2.cell? ⟨hb,1,none⟩=some (zr d)) (c9:w2.cell? ⟨hb,9,none⟩=some mv∧w2.frozen? ⟨hb,9,none⟩=false) (o0:w2.cell? ⟨ob,0,none⟩=some (.int .i64 13)) (o4:w2.cell? ⟨ob,2,none⟩=some (.int .i64 bb))
  (st:Calls Tryz.prog 41 #[zr d] w2 fun e w'=>e=.returned (.bool false)∧w'=w2) (may:w2.ownsRow 0 234 20 mv 1 (zR V L).toList) (ref:RfV Z 0 w2 V L all ts) (hZ:∀g,Z g→g<w2.heap.size) (hI:Inv L all) (hM:all.length≤1000000) (hw4:L.wks.length≤4) (hwl:∀q,q<L.wks.length→(L.wks.getD q zo).list.length≤900) (hts:ts.length≤1000)
  (hcr:∀W cb V',W.heap[cb]? = some (Obj.cells (zR V' L) 234 (0,0))→RfV (fun g=>Z g∨w2.heap.size≤g) w2.heap.size W V' L all ts→RfD w2.heap.size V' L→w2.heap.size≤W.heap.size→w2.heap.size≤cb→Calls Tryz.prog 131 #[zr cb, .int .i64 bb] W fun e W'=>e=.returned (.int .i64 er)∧Below w2.heap.size W W'∧∃V2,W'.heap[cb]? = some (Obj.cells (zR V2 L') 234 (0,0))∧RfV (fun g=>Z g∨w2.heap.size≤g) w2.heap.size W' V2 L' al ts) :
  ∃mb mc C,LtQ w2 hb ob d mb mc bb C er (fun mv W=>∃V2,RfT Z w2 W L' al ts mv V2):=by
 obtain⟨mb,mc,rfl,hmc,hrg⟩:=gY may;have hlv:=hI.lev;have hml:=hI.stoLen;refine⟨mb,mc,zR V L,c1,c9,o0,o4,st,hrg,rfl,hmc,(sE ref hZ (by omega) (by omega) (fun i hi=>by have:=hlv i hi;omega) hw4 (fun q hq=>by have:=hwl q hq;omega) hts).mono ?_⟩;rintro e w3 ⟨V',rfl,hr3,hd3,hb3⟩;refine⟨_,rfl,rfl,hr3.one,rfl,hb3,fun W hW hbk=>?_,fun W hW hbk=>?_⟩
 ·refine(qZ hbk (zq hr3.all hW) bb (by omega) hI.clk).mono ?_;rintro e W' ⟨c',av',rfl,_,o',b'⟩;obtain⟨a,c,rfl,_,_⟩:=zu o';exact⟨_,_,_,_,rfl,b'⟩
 ·have hsz:=hb3.size;refine(hcr W _ V' hbk (hr3.below hW) hd3 (Nat.le_trans hsz hW.size) hsz).mono ?_;rintro e W' ⟨rfl,hbW,V2,hb2,hr2⟩;refine⟨rfl,_,rfl,hr2.one,hb2,hb3.trans ((hW.mono hsz).trans hbW),fun W10 mv h1 h2 h3=>⟨V2,h1,h3,hr2.below h2⟩⟩
structure HS (P:Lg→List Tl→Prop) (Z:Nat→Prop) (w w':World) (B wb:Nat) (g0 g1 g2 g3:Value) (M:Nat):Prop where
 bel:Below B w w'
 zk:∀g,Z g→w'.heap[g]? = w.heap[g]?
 ex:∃Z' hv ke ks kr Ne Ns Nr hs,(∀g,Z g→Z' g)∧HI P Z' w' B wb g0 g1 g2 g3 hv ke ks kr Ne Ns Nr M hs none
theorem uQ {P:Lg→List Tl→Prop}{Z:Nat→Prop}{w w2:World}{B wb:Nat}{g0 g1 g2 g3 hv ke ks kr:Value}{Ne Ns Nr M:Nat}{hs:List Ho}{i:Nat}(h:HI P Z w2 B wb g0 g1 g2 g3 hv ke ks kr Ne Ns Nr M hs (some i)) (hi:i<hs.length) (hb:Below B w w2) (hz:∀g,Z g→w2.heap[g]? = w.heap[g]?)
  (hl:LogAt w2 (hs.getD i h0).ρ (hs.getD i h0).B (hs.getD i h0).N (hs.getD i h0).lb (hs.getD i h0).G (hs.getD i h0).L) (hI:Inv (hs.getD i h0).L (hs.getD i h0).all) (h1:(hs.getD i h0).G.left=-1) (h2:(hs.getD i h0).G.db=(hs.getD i h0).d) (h3:(hs.getD i h0).G.dt.size≤64*(M+1)∧(hs.getD i h0).all.length≤M+1∧(hs.getD i h0).N+(hs.getD i h0).L.subs≤2*(M+1)) (hP:P (hs.getD i h0).L (hs.getD i h0).ts) (hBw:B≤w2.heap.size)
  {mv:Value}{w10:World}(hr:∃V2,RfT Z w2 w10 (hs.getD i h0).L (hs.getD i h0).all (hs.getD i h0).ts mv V2):HS P Z w (w10.setCell ⟨(hs.getD i h0).hb,9,none⟩ mv) B wb g0 g1 g2 g3 (M+1):=by
 obtain⟨V2,hr⟩:=hr;have hf:=uR h hi hr hl hI h1 h2 h3 hP;have hbm:Mu wb hv ke ks kr (hs.map Ho.hb) (hs.getD i h0).hb:=Or.inr (Or.inr (Or.inr (Or.inr (Or.inr (xQ hi)))));have b210:Below B w2 w10:=hr.bel.mono hBw;refine⟨hb.trans (Rl.zZ b210 (h.hge i hi).2),fun g hg=>?_,_,_,_,_,_,_,_,_,_,fun g hg=>Or.inl hg,hf⟩;rw[zt (fun e=>(h.zm g hg).2.1 (by rw[e];exact hbm)),hr.bel.block g (h.zm g hg).1];exact hz g hg
theorem TabB.mono {B B':Nat}{w:World}(h:TabB B w) (hB:B≤B'):TabB B' w:=fun w' hb=>h w' (hb.mono hB)
theorem xq {w:World}{ρ:Nat→Nat}{B N lb d:Nat}{G:Gh}{L:Lg}(h:LogAt w ρ B N lb G L) (hl:G.left=-1) (hd:G.db=d):Calls Tryz.prog 41 #[zr d] w fun e w'=>e=.returned (.bool false)∧w'=w:=by
 have:=vj h.x.j.j.st h.x.j.j.ptr;rw[hl,hd]at this;exact this
theorem cA (x:Ho) (s:ByteArray) (ρ':Nat→Nat) (G':Gh) (N':Nat) (al:List Ent) (ts':List Tl):kL { x with ρ:=ρ',G:=G',L:=x.L.app s,N:=N',all:=al,ts:=ts' }=kL x:=by
 unfold kL Lg.app Lg.more;split
 ·simp[Lg.roll,yh]
 ·rfl
theorem iR {P:Lg→List Tl→Prop}{Z:Nat→Prop}{w:World}{B wb:Nat}{g0 g1 g2 g3 hv ke ks kr:Value}{Ne Ns Nr M:Nat}{hs:List Ho}{i:Nat}(h:HI P Z w B wb g0 g1 g2 g3 hv ke ks kr Ne Ns Nr M hs none) (hi:i<hs.length) (ht:TabB B w) (hBw:B≤w.heap.size) (A B' C':Int) (S T:ByteArray) (hS:S.size≤1048576) (hM:M≤400000) (hPa:∀L ts s,P L ts→P (L.app s) ts) (hPt:∀L ts,P L ts→ts.length≤1000) :
  Calls Tryz.prog 68 #[zr wb,zr (hs.getD i h0).hb,oV ⟨12,A,B',C',S,T⟩] w fun e w'=>e=.returned (.bool true)∧HS P Z w w' B wb g0 g1 g2 g3 (M+1):=by
 obtain⟨W0,hW0⟩:∃W0,W0=w.alloc (Obj.cells #[.int .i64 12, .int .i64 A, .int .i64 B', .int .i64 C', .string S, .string T] 94):=⟨_,rfl⟩
 have b0:Below w.heap.size w W0:=by rw[hW0];exact zv _ _
 have k0:W0.heap[w.heap.size]? = some (Obj.cells #[.int .i64 12, .int .i64 A, .int .i64 B', .int .i64 C', .string S, .string T] 94 (0,0)):=by rw[hW0];exact zj _ _ _
 have bd:Below W0.heap.size W0 W0.drew:=zE W0;obtain⟨hp0,hx0⟩:=(h.below b0).punch hi;obtain⟨hp,hx⟩:=((h.below b0).below bd).punch hi;have hob0:=hp0.hob i hi;have b0d:Below w.heap.size w W0.drew:=b0.trans (bd.mono b0.size)
 have hzd:∀g,Z g→W0.drew.heap[g]? = w.heap[g]? := fun g hg=>b0d.block g (h.zm g hg).1
 have hbd:=hx.bud;have hw4:=hx.log.x.k.few
 have hwl:∀q,q<(hs.getD i h0).L.wks.length→((hs.getD i h0).L.wks.getD q zo).list.length≤900:=fun q hq=>by have:=xz (hx.log.x.k.ok q hq);omega
 have hcf:=hx.inv.cfg;have hml:=hx.inv.ml;have hlv:=hx.inv.lev;have hge:=h.hge i hi;have hwsz:=b0d.size
 have hr0:∀g,w.heap.size≤g→(hs.getD i h0).ρ g=0:=fun g hg=>by
  by_cases q:(hs.getD i h0).ρ g=0
  ·exact q
  ·have:=(h.lt i hi g q).1;omega
 have key:∀(n er:Int) (FP:Value→World→World→Prop),Calls Tryz.prog 26 #[zr (hs.getD i h0).lb, .string S] W0.drew (fun e w2=>e=.returned (.tuple #[.int .i64 n, .int .i64 er])∧∃mb mc C,LyQ w2 (hs.getD i h0).hb w.heap.size (hs.getD i h0).d mb mc S C n er (fun mv W=>FP mv w2 W))→(∀mv w2 W10,FP mv w2 W10→HS P Z w (W10.setCell ⟨(hs.getD i h0).hb,9,none⟩ mv) B wb g0 g1 g2 g3 (M+1))→Calls Tryz.prog 68 #[zr wb,zr (hs.getD i h0).hb,oV ⟨12,A,B',C',S,T⟩] w fun e w'=>e=.returned (.bool true)∧HS P Z w w' B wb g0 g1 g2 g3 (M+1):=by
  intro n er FP hcp hfin;refine(iT A B' C' S T n er FP hW0 rfl (zy (j:=0) hob0 rfl).1 (zy (j:=1) hob0 rfl).1 (zy (j:=0) k0 rfl).1 (zy (j:=4) k0 rfl).1 (xq hx0.log hx0.left hx0.db) hcp).mono ?_;rintro e w' ⟨rfl,mv,w2,W10,hf,rfl⟩;exact⟨rfl,hfin mv w2 W10 hf⟩
 have same:∀(n er:Int),(∀w2,Below W0.drew.heap.size W0.drew w2→∀W cb V',W.heap[cb]? = some (Obj.cells (zR V' (hs.getD i h0).L) 234 (0,0))→RfV (fun g=>Z g∨w2.heap.size≤g) w2.heap.size W V' (hs.getD i h0).L (hs.getD i h0).all (hs.getD i h0).ts→Calls Tryz.prog 129 #[zr cb, .string S] W fun e W'=>e=.returned (.tuple #[.int .i64 n, .int .i64 er])∧Below W.heap.size W W')→(Calls Tryz.prog 26 #[zr (hs.getD i h0).lb, .string S] W0.drew fun e w2=>e=.returned (.tuple #[.int .i64 n, .int .i64 er])∧Below W0.drew.heap.size W0.drew w2)→Calls Tryz.prog 68 #[zr wb,zr (hs.getD i h0).hb,oV ⟨12,A,B',C',S,T⟩] w fun e w'=>e=.returned (.bool true)∧HS P Z w w' B wb g0 g1 g2 g3 (M+1):=by
  intro n er hcr hcp;refine key n er (fun mv w2 W=>Below W0.drew.heap.size W0.drew w2∧∃V2,RfT Z w2 W (hs.getD i h0).L (hs.getD i h0).all (hs.getD i h0).ts mv V2) (hcp.mono ?_) ?_
  ·rintro e w2 ⟨rfl,hb2⟩;have hp2:=hp.below hb2;have hx2:=hx.same (fun g q=>hb2.block g (by rcases q with q|q;exact(hx.log.x.lt g q).1;exact yw q)) (fun g hg=>hb2.block g (hp.zm g hg).1) hb2.size (fun _ q=>q) (Nat.le_refl M);have hob2:=hp2.hob i hi;have k2:=(hb2.block _ (by have:=b0.size;have:=(Mth.gI k0);exact Nat.lt_of_lt_of_le this bd.size)).trans ((bd.block _ (Mth.gI k0)).trans k0)
   obtain⟨mb,mc,C,hq⟩:=bC (L':=(hs.getD i h0).L) (al:=(hs.getD i h0).all) (n:=n) (er:=er) (zy (j:=1) hob2 rfl).1 (zy (j:=9) hob2 rfl) (zy (j:=0) k2 rfl).1 (zy (j:=4) k2 rfl).1 (xq hx2.log hx2.left hx2.db) hx2.may hx2.ref (fun g hg=>(hp2.zm g hg).1) hx2.inv (by omega) hw4.2 hwl (hPt _ _ hx2.tl) (fun W cb V' h1 h2 h3 h4 h5=>(hcr w2 hb2 W cb V' h1 h2).mono (by
    rintro e W' ⟨rfl,hbW⟩
    exact⟨rfl,hbW.mono h4,V',(hbW.block cb (Mth.gI h1)).trans h1,h2.below hbW⟩))
   exact⟨rfl,mb,mc,C,hq.c1,hq.c9,hq.o0,hq.o4,hq.st,hq.rg,hq.sz,hq.mc,hq.cp.mono (by
    rintro e w3 ⟨cs,rfl,hc⟩
    exact⟨cs,rfl,hc.sz,hc.one,hc.dn,hc.bel,hc.af,fun W h1 h2=>(hc.ap W h1 h2).mono (by
     rintro e W' ⟨rfl,c9,a1,a2,a3,a4,a5⟩
     exact⟨rfl,c9,a1,a2,a3,a4,fun W10 mv b1 b2 b3=>⟨hb2,a5 W10 mv b1 b2 b3⟩⟩)⟩)⟩
  ·rintro mv w2 W10 ⟨hb2,hr⟩;have hp2:=hp.below hb2;have hx2:=hx.same (fun g q=>hb2.block g (by rcases q with q|q;exact(hx.log.x.lt g q).1;exact yw q)) (fun g hg=>hb2.block g (hp.zm g hg).1) hb2.size (fun _ q=>q) (Nat.le_refl M);have hb02:Below w.heap.size w w2:=b0d.trans (hb2.mono b0d.size);exact uQ hp2 hi (hb02.mono hBw) (fun g hg=>hb02.block g (h.zm g hg).1) hx2.log hx2.inv hx2.left hx2.db ⟨by omega,by omega,by omega⟩ hx2.tl (Nat.le_trans hBw hb02.size) hr
 by_cases hl:60<S.size
 ·refine same 0 4 (fun w2 _ W cb V' h1 h2=>ot h1 h2 S hl (by omega) (by omega) (by omega)) ((mX hx.log S (by rw[hx.left];omega) hl (by omega)).mono ?_);rintro e w' ⟨rfl,rfl⟩;exact⟨rfl,Below.refl _ _⟩
 ·by_cases hbz:(hs.getD i h0).L.memory≤(hs.getD i h0).L.mem.length∧(hs.getD i h0).L.fan+(hs.getD i h0).L.back≤((hs.getD i h0).L.lev 0).length
  ·have hl0:=hlv 0 (by omega);refine same 0 5 (fun w2 _ W cb V' h1 h2=>oq h1 h2 S (by omega) (by omega) (by omega) (by omega) (by omega) (by omega) (by omega) hbz.2) (mV hx.log S (by rw[hx.left];omega) (by omega) hbz.1 hbz.2 (by omega) (by omega) (by omega))
  ·have hcnt:=hx.inv.cnt
   have hBd:(hs.getD i h0).B≤W0.drew.heap.size:=by
    have:=(hx.log.x.lt _ (by rw[hx.log.x.b.rl];omega:(hs.getD i h0).ρ (hs.getD i h0).lb≠0));omega
   have htd:TabB (hs.getD i h0).B W0.drew:=TabB.mono (ht.next (b0d.mono hBw)) hge.1;have hca:=gm hx.log hBd htd S (by rw[hx.left];omega) (by rw[hx.left];omega) (by rw[hx.left];omega) (by rw[hx.left];omega) (by omega) hbz (by omega) (by omega) (fun j hj=>by have:=hlv j hj;omega) (by omega) (by omega) (by omega);have hnx:vG (hs.getD i h0).L (hs.getD i h0).all S=⟨((hs.getD i h0).all.length:Int),((hs.getD i h0).L.clock:Int),S⟩:=rfl;have hI':=hx.inv.app (s:=S) (by omega);rw[←hnx]at hI'
   have core:∀w2,Apd W0.drew w2 (hs.getD i h0).ρ (hs.getD i h0).B (hs.getD i h0).N (hs.getD i h0).lb (hs.getD i h0).G ((hs.getD i h0).L.app S) ((hs.getD i h0).G.dt++yU 0 S) (yx (yx (hs.getD i h0).G.left))→∃x1:Ho,x1.hb=(hs.getD i h0).hb∧x1.d=(hs.getD i h0).d∧x1.mv=(hs.getD i h0).mv∧x1.L=(hs.getD i h0).L.app S∧x1.all=(hs.getD i h0).all++[vG (hs.getD i h0).L (hs.getD i h0).all S]∧x1.ts=(hs.getD i h0).ts∧x1.N=(hs.getD i h0).N∧HI P Z w2 B wb g0 g1 g2 g3 hv ke ks kr Ne Ns Nr M (hs.set i x1) (some i)∧LogAt w2 x1.ρ x1.B x1.N x1.lb x1.G x1.L∧x1.G.left=-1∧x1.G.db=x1.d∧x1.G.dt.size≤64*(M+1)∧(∀g,Z g→w2.heap[g]? = W0.drew.heap[g]?)∧Below B W0.drew w2∧w2.heap[w.heap.size]? = W0.drew.heap[w.heap.size]? ∧ W0.drew.heap.size≤w2.heap.size:=by
    rintro w2 ⟨ρ',G',a1,a2,a3,a4,a5⟩;obtain⟨p1,p2⟩:=hp.prog hi a2 G' ((hs.getD i h0).L.app S) (hs.getD i h0).N ((hs.getD i h0).all++[vG (hs.getD i h0).L (hs.getD i h0).all S]) (hs.getD i h0).ts (cA _ _ _ _ _ _ _) a1.x.lt;refine⟨{ (hs.getD i h0)with ρ:=ρ',G:=G',L:=(hs.getD i h0).L.app S,N:=(hs.getD i h0).N,all:=(hs.getD i h0).all++[vG (hs.getD i h0).L (hs.getD i h0).all S],ts:=(hs.getD i h0).ts },rfl,rfl,rfl,rfl,rfl,rfl,rfl,p1,a1,?_,a3.db.trans hx.db,?_,p2,?_,?_,a2.tch.size⟩
    ·show G'.left=-1;rw[a5,hx.left];decide
    ·show G'.dt.size≤_;rw[a4,ByteArray.size_append,tq];omega
    ·exact Rl.zK a2.tch (fun k q=>Nat.le_trans hge.1 (hx.log.x.lt k q.1).2) (Nat.le_trans hBw hwsz)
    ·exact a2.tch.block _ (by have:=(Mth.gI k0);exact Nat.lt_of_lt_of_le this bd.size) (fun q=>q.1 (hr0 _ (Nat.le_refl _)))
   refine key ((hs.getD i h0).L.count:Int) 0 (fun mv w2 W=>Apd W0.drew w2 (hs.getD i h0).ρ (hs.getD i h0).B (hs.getD i h0).N (hs.getD i h0).lb (hs.getD i h0).G ((hs.getD i h0).L.app S) ((hs.getD i h0).G.dt++yU 0 S) (yx (yx (hs.getD i h0).G.left))∧∃V2,RfT Z w2 W ((hs.getD i h0).L.app S) ((hs.getD i h0).all++[vG (hs.getD i h0).L (hs.getD i h0).all S]) (hs.getD i h0).ts mv V2) (hca.mono ?_) ?_
   ·rintro e w2 ⟨rfl,hapd⟩;obtain⟨x1,e1,e2,e3,e4,e5,e6,e7,p1,a1,a2,a3,a4,a5,a6,a7,a8⟩:=core w2 hapd;have hob2:=p1.hob i (by simpa using hi);rw[zU hi,if_pos rfl,e1]at hob2;have k2:=a7.trans ((bd.block _ (Mth.gI k0)).trans k0);have c1:=(zy (j:=1) (u:=zr x1.d) hob2 rfl).1;have c9:=zy (j:=9) (u:=x1.mv) hob2 rfl;rw[e2]at c1;rw[e3]at c9;have hst2:=xq a1 a2 (a3.trans e2)
    obtain⟨mb,mc,C,hq⟩:=bC (L':=(hs.getD i h0).L.app S) (al:=(hs.getD i h0).all++[vG (hs.getD i h0).L (hs.getD i h0).all S]) (n:=((hs.getD i h0).L.count:Int)) (er:=0) c1 c9 (zy (j:=0) k2 rfl).1 (zy (j:=4) k2 rfl).1 hst2 (zn hx.may (fun g hg=>a5 g (hx.mz g hg))) (hx.ref.same hx.rz a5) (fun g hg=>(p1.zm g hg).1) hx.inv (by omega) hw4.2 hwl (hPt _ _ hx.tl) (fun W cb V' q1 q2 q3 q4 q5=>by
     rw[hcnt]
     exact kR q1 q2 q3 (fun g hg=>Or.inr hg) q4 q5 S (by omega) hx.inv (by omega) hw4.2 hwl hbz)
    exact⟨rfl,mb,mc,C,hq.c1,hq.c9,hq.o0,hq.o4,hq.st,hq.rg,hq.sz,hq.mc,hq.cp.mono (by
     rintro e w3 ⟨cs,rfl,hc⟩
     exact⟨cs,rfl,hc.sz,hc.one,hc.dn,hc.bel,hc.af,fun W h1 h2=>(hc.ap W h1 h2).mono (by
      rintro e W' ⟨rfl,c9,b1,b2,b3,b4,b5⟩
      exact⟨rfl,c9,b1,b2,b3,b4,fun W10 mv b1 b2 b3=>⟨hapd,b5 W10 mv b1 b2 b3⟩⟩)⟩)⟩
   ·rintro mv w2 W10 ⟨hapd,hr⟩;obtain⟨x1,e1,e2,e3,e4,e5,e6,e7,p1,a1,a2,a3,a4,a5,a6,a7,a8⟩:=core w2 hapd
    have hgd:(hs.set i x1).getD i h0=x1:=by rw[zU hi,if_pos rfl]
    rw[←e4,←e5,←e6]at hr;have hend:=uQ (w:=w) (i:=i) p1 (by simpa using hi) ((b0d.mono hBw).trans a6) (fun g hg=>(a5 g hg).trans (hzd g hg)) (by rw[hgd];exact a1) (by rw[hgd,e4,e5];exact hI') (by rw[hgd];exact a2) (by rw[hgd];exact a3) (by rw[hgd];exact⟨a4,by rw[e5,List.length_append,List.length_singleton];omega,by rw[e7,e4,(sZ _ _).2.1];omega⟩) (by rw[hgd,e4,e6];exact hPa _ _ _ hx.tl) (Nat.le_trans hBw (Nat.le_trans hwsz a8)) (mv:=mv) (w10:=W10) (by rw[hgd];exact hr);rw[hgd,e1]at hend;exact hend
theorem iS {P:Lg→List Tl→Prop}{Z:Nat→Prop}{w:World}{B wb:Nat}{g0 g1 g2 g3 hv ke ks kr:Value}{Ne Ns Nr M:Nat}{hs:List Ho}{i:Nat}(h:HI P Z w B wb g0 g1 g2 g3 hv ke ks kr Ne Ns Nr M hs none) (hi:i<hs.length) (ht:Tab10B B w) (hBw:B≤w.heap.size) (A bb C':Int) (S T:ByteArray) (hS:-9223372036854775808≤bb∧bb≤9223372036854775807) (hM:M≤400000) (hPa:∀(L:Lg) ts (n:Nat),P L ts→P { L with clock:=L.clock+n } ts) (hPt:∀L ts,P L ts→ts.length≤1000) :
  Calls Tryz.prog 68 #[zr wb,zr (hs.getD i h0).hb,oV ⟨13,A,bb,C',S,T⟩] w fun e w'=>e=.returned (.bool true)∧HS P Z w w' B wb g0 g1 g2 g3 (M+1):=by
 obtain⟨W0,hW0⟩:∃W0,W0=w.alloc (Obj.cells #[.int .i64 13, .int .i64 A, .int .i64 bb, .int .i64 C', .string S, .string T] 94):=⟨_,rfl⟩
 have b0:Below w.heap.size w W0:=by rw[hW0];exact zv _ _
 have k0:W0.heap[w.heap.size]? = some (Obj.cells #[.int .i64 13, .int .i64 A, .int .i64 bb, .int .i64 C', .string S, .string T] 94 (0,0)):=by rw[hW0];exact zj _ _ _
 have bd:Below W0.heap.size W0 W0.drew:=zE W0;obtain⟨hp0,hx0⟩:=(h.below b0).punch hi;obtain⟨hp,hx⟩:=((h.below b0).below bd).punch hi;have hob0:=hp0.hob i hi;have b0d:Below w.heap.size w W0.drew:=b0.trans (bd.mono b0.size)
 have hzd:∀g,Z g→W0.drew.heap[g]? = w.heap[g]? := fun g hg=>b0d.block g (h.zm g hg).1
 have hbd:=hx.bud;have hw4:=hx.log.x.k.few
 have hwl:∀q,q<(hs.getD i h0).L.wks.length→((hs.getD i h0).L.wks.getD q zo).list.length≤900:=fun q hq=>by have:=xz (hx.log.x.k.ok q hq);omega
 have hcf:=hx.inv.cfg;have hml:=hx.inv.ml;have hlv:=hx.inv.lev;have hge:=h.hge i hi;have hwsz:=b0d.size
 have hr0:∀g,w.heap.size≤g→(hs.getD i h0).ρ g=0:=fun g hg=>by
  by_cases q:(hs.getD i h0).ρ g=0
  ·exact q
  ·have:=(h.lt i hi g q).1;omega
 have key:∀(er:Int) (FP:Value→World→World→Prop),Calls Tryz.prog 126 #[zr (hs.getD i h0).lb, .int .i64 bb] W0.drew (fun e w2=>e=.returned (.int .i64 er)∧∃mb mc C,LtQ w2 (hs.getD i h0).hb w.heap.size (hs.getD i h0).d mb mc bb C er (fun mv W=>FP mv w2 W))→(∀mv w2 W10,FP mv w2 W10→HS P Z w (W10.setCell ⟨(hs.getD i h0).hb,9,none⟩ mv) B wb g0 g1 g2 g3 (M+1))→Calls Tryz.prog 68 #[zr wb,zr (hs.getD i h0).hb,oV ⟨13,A,bb,C',S,T⟩] w fun e w'=>e=.returned (.bool true)∧HS P Z w w' B wb g0 g1 g2 g3 (M+1):=by
  intro er FP hcp hfin;refine(lg A bb C' S T er FP hW0 rfl (zy (j:=0) hob0 rfl).1 (zy (j:=1) hob0 rfl).1 (zy (j:=0) k0 rfl).1 (zy (j:=2) k0 rfl).1 (xq hx0.log hx0.left hx0.db) hcp).mono ?_;rintro e w' ⟨rfl,mv,w2,W10,hf,rfl⟩;exact⟨rfl,hfin mv w2 W10 hf⟩
 have same:∀(er:Int),(∀w2,Below W0.drew.heap.size W0.drew w2→∀W cb V',W.heap[cb]? = some (Obj.cells (zR V' (hs.getD i h0).L) 234 (0,0))→RfV (fun g=>Z g∨w2.heap.size≤g) w2.heap.size W V' (hs.getD i h0).L (hs.getD i h0).all (hs.getD i h0).ts→Calls Tryz.prog 131 #[zr cb, .int .i64 bb] W fun e W'=>e=.returned (.int .i64 er)∧Below W.heap.size W W')→(Calls Tryz.prog 126 #[zr (hs.getD i h0).lb, .int .i64 bb] W0.drew fun e w2=>e=.returned (.int .i64 er)∧Below W0.drew.heap.size W0.drew w2)→Calls Tryz.prog 68 #[zr wb,zr (hs.getD i h0).hb,oV ⟨13,A,bb,C',S,T⟩] w fun e w'=>e=.returned (.bool true)∧HS P Z w w' B wb g0 g1 g2 g3 (M+1):=by
  intro er hcr hcp;refine key er (fun mv w2 W=>Below W0.drew.heap.size W0.drew w2∧∃V2,RfT Z w2 W (hs.getD i h0).L (hs.getD i h0).all (hs.getD i h0).ts mv V2) (hcp.mono ?_) ?_
  ·rintro e w2 ⟨rfl,hb2⟩;have hp2:=hp.below hb2;have hx2:=hx.same (fun g q=>hb2.block g (by rcases q with q|q;exact(hx.log.x.lt g q).1;exact yw q)) (fun g hg=>hb2.block g (hp.zm g hg).1) hb2.size (fun _ q=>q) (Nat.le_refl M);have hob2:=hp2.hob i hi;have k2:=(hb2.block _ (by have:=b0.size;have:=(Mth.gI k0);exact Nat.lt_of_lt_of_le this bd.size)).trans ((bd.block _ (Mth.gI k0)).trans k0)
   obtain⟨mb,mc,C,hq⟩:=bB (L':=(hs.getD i h0).L) (al:=(hs.getD i h0).all) (er:=er) (zy (j:=1) hob2 rfl).1 (zy (j:=9) hob2 rfl) (zy (j:=0) k2 rfl).1 (zy (j:=2) k2 rfl).1 (xq hx2.log hx2.left hx2.db) hx2.may hx2.ref (fun g hg=>(hp2.zm g hg).1) hx2.inv (by omega) hw4.2 hwl (hPt _ _ hx2.tl) (fun W cb V' h1 h2 h3 h4 h5=>(hcr w2 hb2 W cb V' h1 h2).mono (by
    rintro e W' ⟨rfl,hbW⟩
    exact⟨rfl,hbW.mono h4,V',(hbW.block cb (Mth.gI h1)).trans h1,h2.below hbW⟩))
   exact⟨rfl,mb,mc,C,hq.c1,hq.c9,hq.o0,hq.o4,hq.st,hq.rg,hq.sz,hq.mc,hq.cp.mono (by
    rintro e w3 ⟨cs,rfl,hc⟩
    exact⟨cs,rfl,hc.sz,hc.one,hc.dn,hc.bel,hc.af,fun W h1 h2=>(hc.ap W h1 h2).mono (by
     rintro e W' ⟨rfl,c9,a1,a2,a3,a4,a5⟩
     exact⟨rfl,c9,a1,a2,a3,a4,fun W10 mv b1 b2 b3=>⟨hb2,a5 W10 mv b1 b2 b3⟩⟩)⟩)⟩
  ·rintro mv w2 W10 ⟨hb2,hr⟩;have hp2:=hp.below hb2;have hx2:=hx.same (fun g q=>hb2.block g (by rcases q with q|q;exact(hx.log.x.lt g q).1;exact yw q)) (fun g hg=>hb2.block g (hp.zm g hg).1) hb2.size (fun _ q=>q) (Nat.le_refl M);have hb02:Below w.heap.size w w2:=b0d.trans (hb2.mono b0d.size);exact uQ hp2 hi (hb02.mono hBw) (fun g hg=>hb02.block g (h.zm g hg).1) hx2.log hx2.inv hx2.left hx2.db ⟨by omega,by omega,by omega⟩ hx2.tl (Nat.le_trans hBw hb02.size) hr
 cases hct:yd (hs.getD i h0).L.clock bb
 ·refine same 1 (fun w2 _ W cb V' h1 h2=>fM h1 bb hS hx.inv.clk hct) ((dB hx.log bb hx.inv.clk hct).mono ?_);rintro e w' ⟨rfl,rfl⟩;exact⟨rfl,Below.refl _ _⟩
 ·have hb1:1≤bb∧bb≤1000∧((hs.getD i h0).L.clock:Int)+bb≤1000000000000:=by
   unfold yd at hct;simp only[Bool.and_eq_true,decide_eq_true_eq]at hct;omega
  obtain⟨n,rfl⟩:∃n:Nat,bb=(n:Int):=⟨bb.toNat,by omega⟩
  have hBd:(hs.getD i h0).B≤W0.drew.heap.size:=by
   have:=(hx.log.x.lt _ (by rw[hx.log.x.b.rl];omega:(hs.getD i h0).ρ (hs.getD i h0).lb≠0));omega
  have htd:Tab10 W0.drew:=ht W0.drew (b0d.mono hBw);have hca:=dC hx.log hBd htd (by rw[hx.left];omega) (by rw[hx.left];omega) (by rw[hx.left];omega) (by rw[hx.left];omega) n hx.inv.clk hct (by omega);have hI':=hx.inv.tick (n:=n) (by omega);have hit:=rv (n:Int) (by omega) (by omega)
  have core:∀w2,Apd W0.drew w2 (hs.getD i h0).ρ (hs.getD i h0).B (hs.getD i h0).N (hs.getD i h0).lb (hs.getD i h0).G { (hs.getD i h0).L with clock:=(hs.getD i h0).L.clock+n } ((hs.getD i h0).G.dt++yU 1 (wY n)) (yx (yx (hs.getD i h0).G.left))→∃x1:Ho,x1.hb=(hs.getD i h0).hb∧x1.d=(hs.getD i h0).d∧x1.mv=(hs.getD i h0).mv∧x1.L={ (hs.getD i h0).L with clock:=(hs.getD i h0).L.clock+n }∧x1.all=(hs.getD i h0).all∧x1.ts=(hs.getD i h0).ts∧x1.N=(hs.getD i h0).N∧HI P Z w2 B wb g0 g1 g2 g3 hv ke ks kr Ne Ns Nr M (hs.set i x1) (some i)∧LogAt w2 x1.ρ x1.B x1.N x1.lb x1.G x1.L∧x1.G.left=-1∧x1.G.db=x1.d∧x1.G.dt.size≤64*(M+1)∧(∀g,Z g→w2.heap[g]? = W0.drew.heap[g]?)∧Below B W0.drew w2∧w2.heap[w.heap.size]? = W0.drew.heap[w.heap.size]? ∧ W0.drew.heap.size≤w2.heap.size:=by
   rintro w2 ⟨ρ',G',a1,a2,a3,a4,a5⟩;obtain⟨p1,p2⟩:=hp.prog hi a2 G' { (hs.getD i h0).L with clock:=(hs.getD i h0).L.clock+n } (hs.getD i h0).N (hs.getD i h0).all (hs.getD i h0).ts rfl a1.x.lt;refine⟨{ (hs.getD i h0)with ρ:=ρ',G:=G',L:={ (hs.getD i h0).L with clock:=(hs.getD i h0).L.clock+n },N:=(hs.getD i h0).N,all:=(hs.getD i h0).all,ts:=(hs.getD i h0).ts },rfl,rfl,rfl,rfl,rfl,rfl,rfl,p1,a1,?_,a3.db.trans hx.db,?_,p2,?_,?_,a2.tch.size⟩
   ·show G'.left=-1;rw[a5,hx.left];decide
   ·show G'.dt.size≤_;rw[a4,ByteArray.size_append,tq];omega
   ·exact Rl.zK a2.tch (fun k q=>Nat.le_trans hge.1 (hx.log.x.lt k q.1).2) (Nat.le_trans hBw hwsz)
   ·exact a2.tch.block _ (by have:=(Mth.gI k0);exact Nat.lt_of_lt_of_le this bd.size) (fun q=>q.1 (hr0 _ (Nat.le_refl _)))
  refine key 0 (fun mv w2 W=>Apd W0.drew w2 (hs.getD i h0).ρ (hs.getD i h0).B (hs.getD i h0).N (hs.getD i h0).lb (hs.getD i h0).G { (hs.getD i h0).L with clock:=(hs.getD i h0).L.clock+n } ((hs.getD i h0).G.dt++yU 1 (wY n)) (yx (yx (hs.getD i h0).G.left))∧∃V2,RfT Z w2 W { (hs.getD i h0).L with clock:=(hs.getD i h0).L.clock+n } (hs.getD i h0).all (hs.getD i h0).ts mv V2) (hca.mono ?_) ?_
  ·rintro e w2 ⟨rfl,hapd⟩;obtain⟨x1,e1,e2,e3,e4,e5,e6,e7,p1,a1,a2,a3,a4,a5,a6,a7,a8⟩:=core w2 hapd;have hob2:=p1.hob i (by simpa using hi);rw[zU hi,if_pos rfl,e1]at hob2;have k2:=a7.trans ((bd.block _ (Mth.gI k0)).trans k0);have c1:=(zy (j:=1) (u:=zr x1.d) hob2 rfl).1;have c9:=zy (j:=9) (u:=x1.mv) hob2 rfl;rw[e2]at c1;rw[e3]at c9;have hst2:=xq a1 a2 (a3.trans e2)
   obtain⟨mb,mc,C,hq⟩:=bB (L':={ (hs.getD i h0).L with clock:=(hs.getD i h0).L.clock+n }) (al:=(hs.getD i h0).all) (er:=0) c1 c9 (zy (j:=0) k2 rfl).1 (zy (j:=2) k2 rfl).1 hst2 (zn hx.may (fun g hg=>a5 g (hx.mz g hg))) (hx.ref.same hx.rz a5) (fun g hg=>(p1.zm g hg).1) hx.inv (by omega) hw4.2 hwl (hPt _ _ hx.tl) (fun W cb V' q1 q2 q3 q4 q5=>(fN q1 q2 q4 n (by omega) hx.inv.clk hct).mono (by
    rintro e W' ⟨rfl,t1,V2,t2,t3⟩
    exact⟨rfl,Rl.zK t1 (fun k q=>by rw[q];exact q5) q4,V2,t2,t3⟩))
   exact⟨rfl,mb,mc,C,hq.c1,hq.c9,hq.o0,hq.o4,hq.st,hq.rg,hq.sz,hq.mc,hq.cp.mono (by
    rintro e w3 ⟨cs,rfl,hc⟩
    exact⟨cs,rfl,hc.sz,hc.one,hc.dn,hc.bel,hc.af,fun W h1 h2=>(hc.ap W h1 h2).mono (by
     rintro e W' ⟨rfl,c9,b1,b2,b3,b4,b5⟩
     exact⟨rfl,c9,b1,b2,b3,b4,fun W10 mv b1 b2 b3=>⟨hapd,b5 W10 mv b1 b2 b3⟩⟩)⟩)⟩
  ·rintro mv w2 W10 ⟨hapd,hr⟩;obtain⟨x1,e1,e2,e3,e4,e5,e6,e7,p1,a1,a2,a3,a4,a5,a6,a7,a8⟩:=core w2 hapd
   have hgd:(hs.set i x1).getD i h0=x1:=by rw[zU hi,if_pos rfl]
   rw[←e4,←e5,←e6]at hr;have hend:=uQ (w:=w) (i:=i) p1 (by simpa using hi) ((b0d.mono hBw).trans a6) (fun g hg=>(a5 g hg).trans (hzd g hg)) (by rw[hgd];exact a1) (by rw[hgd,e4,e5];exact hI') (by rw[hgd];exact a2) (by rw[hgd];exact a3) (by rw[hgd];exact⟨a4,by rw[e5];omega,by rw[e7,e4];dsimp only;omega⟩) (by rw[hgd,e4,e6];exact hPa _ _ _ hx.tl) (Nat.le_trans hBw (Nat.le_trans hwsz a8)) (mv:=mv) (w10:=W10) (by rw[hgd];exact hr);rw[hgd,e1]at hend;exact hend
theorem yF {hs:List Ho}{x:Ho}{j:Nat}(hj:j<hs.length+1):(hs++[x]).getD j h0=if j=hs.length then x else hs.getD j h0:=by
 rw[List.getD_eq_getElem?_getD,List.getD_eq_getElem?_getD];by_cases e:j=hs.length
 ·subst e;rw[if_pos rfl,List.getElem?_append_right (Nat.le_refl _),Nat.sub_self];rfl
 ·rw[if_neg e,List.getElem?_append_left (by omega)]
def ag (w w':World) (x:Ho) (hv':Value) (g:Nat):Prop:=w.heap.size≤g∧g<w'.heap.size∧x.ρ g=0∧g≠x.hb∧some g≠hv'.ownBlock
theorem HI.add {P:Lg→List Tl→Prop}{Z:Nat→Prop}{w w':World}{B wb:Nat}{g0 g1 g2 g3 hv hv' ke ks kr:Value}{Ne Ns Nr M:Nat}{hs:List Ho}(h:HI P Z w B wb g0 g1 g2 g3 hv ke ks kr Ne Ns Nr M hs none) (x:Ho)
  (ht:Tch (fun g=>g=wb∨some g=hv.ownBlock) w w') (hblk:w'.heap[wb]? = some (Obj.cells (dP g0 g1 g2 g3 hv' ke ks kr) 91 (0,0)))
  (hrow:w'.ownsRow B 152 1 hv' (hs.length+1) ((hs++[x]).map (fun x=>zr x.hb))) (hvb:∀g,some g=hv'.ownBlock→some g=hv.ownBlock∨w.heap.size≤g)
  (hxb:w'.heap[x.hb]? = some (Obj.cells (kL x) 155 (0,0))) (hx1:w.heap.size≤x.hb) (hxB:w.heap.size≤x.B) (hl:∀k,x.ρ k≠0→k<w'.heap.size∧x.B≤k) (hr1:x.ρ x.hb=0) (hr2:∀g,some g=hv'.ownBlock→x.ρ g=0)
  (hx:HoAt P (fun g=>Z g∨ag w w' x hv' g) w' (M+1) x) (hBw:B≤w.heap.size) :
  HI P (fun g=>Z g∨ag w w' x hv' g) w' B wb g0 g1 g2 g3 hv' ke ks kr Ne Ns Nr (M+1) (hs++[x]) none:=by
 have hsz:=ht.size;have mwb:Mu wb hv ke ks kr (hs.map Ho.hb) wb:=Or.inl rfl
 have mhv:∀g,some g=hv.ownBlock→Mu wb hv ke ks kr (hs.map Ho.hb) g:=fun g hg=>Or.inr (Or.inl hg)
 have hz:∀g,Z g→w'.heap[g]? = w.heap[g]? := fun g hg=>ht.block g (h.zm g hg).1 (fun q=>by
  rcases q with rfl|q
  ·exact(h.zm _ hg).2.1 mwb
  ·exact(h.zm _ hg).2.1 (mhv g q))
 have hr0:∀g,w.heap.size≤g→∀j,j<hs.length→(hs.getD j h0).ρ g=0:=fun g hg j hj=>by
  by_cases q:(hs.getD j h0).ρ g=0
  ·exact q
  ·have:=(h.lt j hj g q).1;omega
 have hxr:∀g,g<w.heap.size→x.ρ g=0:=fun g hg=>by
  by_cases q:x.ρ g=0
  ·exact q
  ·have:=(hl g q).2;omega
 have hown:∀ {T:TypeId}{sz n:Nat}{v:Value}{xs:List Value},w.ownsRow B T sz v n xs→T≠91→T≠152→∀g,some g=v.ownBlock→w'.heap[g]? = w.heap[g]? := fun ho h1 h2 g hg=>by
  obtain⟨_,hlt,D,hD⟩:=zw ho hg;refine ht.block g hlt (fun q=>?_)
  rcases q with rfl|q
  ·exact h1 (zc hD h.blk)
  ·obtain⟨_,_,E,hE⟩:=zw h.row q;exact h2 (zc hD hE)
 have hmem:∀ {g:Nat},g∈(hs++[x]).map Ho.hb→g∈hs.map Ho.hb∨g=x.hb:=fun {g} hg=>by
  rw[List.map_append,List.mem_append]at hg
  rcases hg with hg|hg
  ·exact Or.inl hg
  ·exact Or.inr (by simpa using hg)
 have hmu:∀ {g:Nat},Mu wb hv' ke ks kr ((hs++[x]).map Ho.hb) g→Mu wb hv ke ks kr (hs.map Ho.hb) g∨g=x.hb∨some g=hv'.ownBlock:=fun {g} hg=>by
  rcases hg with q|q|q|q|q|q
  ·exact Or.inl (Or.inl q)
  ·exact Or.inr (Or.inr q)
  ·exact Or.inl (Or.inr (Or.inr (Or.inl q)))
  ·exact Or.inl (Or.inr (Or.inr (Or.inr (Or.inl q))))
  ·exact Or.inl (Or.inr (Or.inr (Or.inr (Or.inr (Or.inl q)))))
  ·rcases hmem q with q|q
   ·exact Or.inl (Or.inr (Or.inr (Or.inr (Or.inr (Or.inr q)))))
   ·exact Or.inr (Or.inl q)
 have hsl:(hs++[x]).length=hs.length+1:=by rw[List.length_append,List.length_singleton]
 have hhb:∀j,j<hs.length→(hs.getD j h0).hb<w.heap.size:=fun j hj=>h.mlt (Or.inr (Or.inr (Or.inr (Or.inr (Or.inr (xQ hj))))))
 refine⟨hblk,h.ge,?_,?_,?_,?_,fun j hj=>?_,fun j hj hne=>?_,fun j hj=>?_,fun j hj k hk=>?_,fun a b ha hb' hne=>?_,fun g hg=>?_,fun g hg j hj=>?_,?_⟩
 ·obtain⟨q,h1,h2⟩:=h.be;exact Bok.same ⟨q,h1,h2⟩ (hown h1 (by decide) (by decide)) hz (fun _ q=>Or.inl q)
 ·obtain⟨q,h1,h2⟩:=h.bs;exact Bok.same ⟨q,h1,h2⟩ (hown h1 (by decide) (by decide)) hz (fun _ q=>Or.inl q)
 ·obtain⟨F,hF,q,h1,h2⟩:=h.br;exact⟨F,hF,Bok.same ⟨q,h1,h2⟩ (hown h1 (by decide) (by decide)) hz (fun _ q=>Or.inl q)⟩
 ·rw[hsl];exact hrow
 ·rw[hsl]at hj;rw[yF hj];by_cases e:j=hs.length
  ·rw[if_pos e];exact hxb
  ·rw[if_neg e]
   have hj':j<hs.length:=by omega
   refine(ht.block _ (hhb j hj') (fun q=>?_)).trans (h.hob j hj')
   rcases q with q|q
   ·have:=zc (h.hob j hj') (q ▸ h.blk);exact absurd this (by decide)
   ·obtain⟨_,_,E,hE⟩:=zw h.row q;have:=zc (h.hob j hj') hE;exact absurd this (by decide)
 ·rw[hsl]at hj;rw[yF hj];by_cases e:j=hs.length
  ·rw[if_pos e];exact hx
  ·rw[if_neg e]
   have hj':j<hs.length:=by omega
   refine(h.one j hj' (by simp)).same (fun g q=>ht.block g (by rcases q with q|q;exact(h.lt j hj' g q).1;exact yw q) (fun s=>?_)) hz hsz (fun _ q=>Or.inl q) (Nat.le_succ _);have hmg:Mu wb hv ke ks kr (hs.map Ho.hb) g:=s.elim (fun e=>Or.inl e) (mhv g)
   rcases q with q|q
   ·exact q (h.rm g hmg j hj')
   ·exact h.mn hmg q
 ·rw[hsl]at hj;rw[yF hj];by_cases e:j=hs.length
  ·rw[if_pos e];exact⟨by omega,by omega⟩
  ·rw[if_neg e];exact h.hge j (by omega)
 ·rw[hsl]at hj;rw[yF hj]at hk ⊢;by_cases e:j=hs.length
  ·rw[if_pos e]at hk ⊢;exact hl k hk
  ·rw[if_neg e]at hk ⊢;have:=h.lt j (by omega) k hk;exact⟨by omega,this.2⟩
 ·rw[hsl]at ha hb';rw[yF ha,yF hb'];by_cases ea:a=hs.length
  ·rw[if_pos ea,if_neg (by omega)];refine⟨fun q=>by have:=hhb b (by omega);omega,fun k hk=>hr0 k (by have:=(hl k hk).2;omega) b (by omega)⟩
  ·by_cases eb:b=hs.length
   ·rw[if_neg ea,if_pos eb];exact⟨fun q=>by have:=hhb a (by omega);omega,fun k hk=>hxr k (h.lt a (by omega) k hk).1⟩
   ·rw[if_neg ea,if_neg eb];exact h.dis a b (by omega) (by omega) hne
 ·rcases hg with hg|hg
  ·obtain⟨z1,z2,z3⟩:=h.zm g hg;refine⟨by omega,fun hm=>?_,fun j hj=>?_⟩
   ·rcases hmu hm with q|q|q
    ·exact z2 q
    ·omega
    ·rcases hvb g q with q|q
     ·exact z2 (mhv g q)
     ·omega
   ·rw[hsl]at hj;rw[yF hj];by_cases e:j=hs.length
    ·rw[if_pos e];exact hxr g z1
    ·rw[if_neg e];exact z3 j (by omega)
  ·obtain⟨y1,y2,y3,y4,y5⟩:=hg;refine⟨y2,fun hm=>?_,fun j hj=>?_⟩
   ·rcases hmu hm with q|q|q
    ·have:=h.mlt q;omega
    ·exact y4 q
    ·exact y5 q
   ·rw[hsl]at hj;rw[yF hj];by_cases e:j=hs.length
    ·rw[if_pos e];exact y3
    ·rw[if_neg e];exact hr0 g y1 j (by omega)
 ·rw[hsl]at hj;rw[yF hj];by_cases e:j=hs.length
  ·rw[if_pos e]
   rcases hmu hg with q|q|q
   ·exact hxr g (h.mlt q)
   ·rw[q];exact hr1
   ·exact hr2 g q
  ·rw[if_neg e]
   have hj':j<hs.length:=by omega
   rcases hmu hg with q|q|q
   ·exact h.rm g q j hj'
   ·exact hr0 g (by omega) j hj'
   ·rcases hvb g q with q|q
    ·exact h.rm g (mhv g q) j hj'
    ·exact hr0 g q j hj'
 ·have:=h.mb;rw[hsl];omega
theorem HS.idle {P:Lg→List Tl→Prop}{Z:Nat→Prop}{w w':World}{B wb:Nat}{g0 g1 g2 g3 hv ke ks kr:Value}{Ne Ns Nr M:Nat}{hs:List Ho}(h:HI P Z w B wb g0 g1 g2 g3 hv ke ks kr Ne Ns Nr M hs none) (hBw:B≤w.heap.size) (hb:Below w.heap.size w w'):HS P Z w w' B wb g0 g1 g2 g3 (M+1):=
 ⟨hb.mono hBw,fun g hg=>hb.block g (h.zm g hg).1,_,hv,ke,ks,kr,Ne,Ns,Nr,hs,fun _g hg=>Or.inl hg,(h.below hb).more (M':=M+1) (Nat.le_succ _) (Y:=fun _=>False) (fun _ q=>q.elim)⟩
end Go.Proofs.YtkncboinfcnklaaGreatDoor.Lw
