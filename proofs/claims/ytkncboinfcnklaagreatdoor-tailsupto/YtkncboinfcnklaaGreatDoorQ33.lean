import Derived.Test.YtkncboinfcnklaaGreatDoorQ32
import Derived.Test.YtkncboinfcnklaaGreatDoorQ29
set_option maxRecDepth 100000
set_option maxHeartbeats 8000000
namespace Go.Proofs.YtkncboinfcnklaaGreatDoor.Lw
open Go.RowKit Go.Deep Go.Shelf Go.Proofs.YtkncboinfcnklaaGreatDoor.Mth Go.Proofs.YtkncboinfcnklaaGreatDoor.Rl
theorem HS.pre {P:Lg→List Tl→Prop}{Z Z1:Nat→Prop}{w w1 w':World}{B wb:Nat}{g0 g1 g2 g3:Value}{M:Nat}(h:HS P Z1 w1 w' B wb g0 g1 g2 g3 M) (hb:Below B w w1) (hz:∀g,Z g→Z1 g) (hs:∀g,Z g→w1.heap[g]? = w.heap[g]?):HS P Z w w' B wb g0 g1 g2 g3 M:=by
 obtain⟨Z',hv,ke,ks,kr,Ne,Ns,Nr,hs',h1,h2⟩:=h.ex;exact⟨hb.trans h.bel,fun g hg=>(h.zk g (hz g hg)).trans (hs g hg),Z',hv,ke,ks,kr,Ne,Ns,Nr,hs',fun g hg=>h1 g (hz g hg),h2⟩
theorem HS.mono {P:Lg→List Tl→Prop}{Z:Nat→Prop}{w w':World}{B wb:Nat}{g0 g1 g2 g3:Value}{M M':Nat}(h:HS P Z w w' B wb g0 g1 g2 g3 M) (hM:M≤M'):HS P Z w w' B wb g0 g1 g2 g3 M':=by
 obtain⟨Z',hv,ke,ks,kr,Ne,Ns,Nr,hs',h1,h2⟩:=h.ex;exact⟨h.bel,h.zk,_,hv,ke,ks,kr,Ne,Ns,Nr,hs',fun g hg=>Or.inl (h1 g hg),h2.more hM (Y:=fun _=>False) (fun _ q=>q.elim)⟩
theorem gF {P:Lg→List Tl→Prop}{Z:Nat→Prop}{w:World}{B wb B0 tb:Nat}{g0 g1 g2 g3 hv ke ks kr:Value}{Ne Ns Nr M:Nat}{hs:List Ho}(h:HI P Z w B wb g0 g1 g2 g3 hv ke ks kr Ne Ns Nr M hs none){v:Value}{n:Nat}{ys:List Value}(hown:w.ownsRow B0 66 3 v n ys) (hn:n≤1100000) (hM:M+1≤400000) (hB0:B0≤w.heap.size) (hBB:B≤B0) (hmu:∀g,Mu wb hv ke ks kr (hs.map Ho.hb) g→g<B0)
  (hX:∀g,some g=v.ownBlock→¬Z g∧∀j,j<hs.length→(hs.getD j h0).ρ g=0){tc:Array Value}(htb:w.heap[tb]? = some (Obj.cells tc 245 (0,0))) (htn:B0≤tb) :
  Calls Tryz.prog 121 #[.pointer (some ⟨wb,9,none⟩),v] w fun e W12=>e=.returned (.tuple #[])∧W12.heap[tb]? = some (Obj.cells tc 245 (0,0))∧Calls Tryz.prog 136 #[.pointer (some ⟨wb,9,none⟩), .slice none 0 0] W12.drew fun e W13=>e=.returned (.tuple #[])∧HS P Z w W13 B wb g0 g1 g2 g3 (M+1):=by
 have hmb:=h.mb;have htl:=(Mth.gI htb);refine(iM h hown hn (by omega) hB0 hBB hmu hX).mono ?_;rintro e W12 ⟨rfl,Z',ke',hZ',h12,hb12,hfr,hmu'⟩;refine⟨rfl,(hfr tb htl (fun e=>?_) (fun q=>by have:=hmu tb q;omega)).trans htb,?_⟩
 ·obtain⟨_,_,D,hD⟩:=zw hown e;exact absurd (zc htb hD) (by decide)
 ·have bd:Below W12.heap.size W12 W12.drew:=zE W12;have hBW:B≤W12.heap.size:=Nat.le_trans (Nat.le_trans hBB hB0) hb12.size;refine(lH (h12.below bd) hM (by omega) hBW).mono ?_;rintro e W13 ⟨rfl,Z2,kr',hZ2,h13,hb13,hfr2⟩;refine⟨rfl,hb12.trans ((bd.mono hBW).trans hb13),fun g hg=>?_,Z2,hv,ke',ks,kr',_,_,_,hs,fun g hg=>hZ2 g (hZ' g hg),h13⟩;obtain⟨z1,z2,z3⟩:=h.zm g hg;have e1:W12.heap[g]? = w.heap[g]? := hfr g z1 (fun e=>(hX g e).1 hg) z2
  have e2:W13.heap[g]? = W12.heap[g]? := hfr2 g (Nat.lt_of_lt_of_le z1 hb12.size) (fun q=>by
   rcases hmu' g q with q|q
   ·exact z2 q
   ·omega)
  exact e2.trans e1
theorem gW {Z:Nat→Prop}{w2:World}{hb ob wb tb:Nat}{mv:Value}{V:Rv}{L L':Lg}{all al:List Ent}{ts ts':List Tl}{o:Opr}{a b:Int}{te tr:Value}{FQ:World→Prop}(tl:w2.heap[tb]? = some (Obj.cells (wO a b te tr) 245 (0,0))) (hs2:vv te∧vv tr) (c9:w2.cell? ⟨hb,9,none⟩=some mv∧w2.frozen? ⟨hb,9,none⟩=false)
  (op:w2.heap[ob]? = some (Obj.cells #[.int .i64 o.k, .int .i64 o.A, .int .i64 o.B, .int .i64 o.C, .string o.S, .string o.T] 94 (0,0)))
  (may:w2.ownsRow 0 234 20 mv 1 (zR V L).toList) (ref:RfV Z 0 w2 V L all ts) (hZ:∀g,Z g→g<w2.heap.size) (hI:Inv L all) (hM:all.length≤1000000) (hw4:L.wks.length≤4) (hwl:∀q,q<L.wks.length→(L.wks.getD q zo).list.length≤900) (hts:ts.length≤1000)
  (han:∀W cb V',Below w2.heap.size w2 W→W.heap[cb]? = some (Obj.cells (zR V' L) 234 (0,0))→RfV (fun g=>Z g∨w2.heap.size≤g) w2.heap.size W V' L all ts→RfD w2.heap.size V' L→w2.heap.size≤cb→Calls Tryz.prog 134 #[zr cb,oV o] W fun e W'=>∃ue ur,e=.returned (.agg (wO a b ue ur))∧vv ue∧vv ur∧(∀W6,Below W'.heap.size W' W6→Calls Tryz.prog 120 #[te,ue] W6 fun e W'=>e=.returned (.bool true)∧Below W6.heap.size W6 W')∧(∀W6,Below W'.heap.size W' W6→Calls Tryz.prog 135 #[tr,ur] W6 fun e W'=>e=.returned (.bool true)∧Below W6.heap.size W6 W') ∧
   Below w2.heap.size W W'∧∃V2,W'.heap[cb]? = some (Obj.cells (zR V2 L') 234 (0,0))∧RfV (fun g=>Z g∨w2.heap.size≤g) w2.heap.size W' V2 L' al ts')
  (hke:∀mv W10,(∃V2,RfT Z w2 W10 L' al ts' mv V2)→Calls Tryz.prog 121 #[.pointer (some ⟨wb,9,none⟩),te] (W10.setCell ⟨hb,9,none⟩ mv).drew fun e W12=>e=.returned (.tuple #[])∧W12.heap[tb]? = some (Obj.cells (wO a b te tr) 245 (0,0))∧Calls Tryz.prog 136 #[.pointer (some ⟨wb,9,none⟩),tr] W12.drew fun e W13=>e=.returned (.tuple #[])∧FQ W13) :
  ∃mb mc C,AkQ w2 hb ob wb tb mb mc o C a b te tr (fun mv W=>∃V2,RfT Z w2 W L' al ts' mv V2) FQ:=by
 obtain⟨mb,mc,rfl,hmc,hrg⟩:=gY may;have hlv:=hI.lev;have hml:=hI.stoLen;refine⟨mb,mc,zR V L,tl,hs2,c9,op,hrg,rfl,hmc,(sE ref hZ (by omega) (by omega) (fun i hi=>by have:=hlv i hi;omega) hw4 (fun q hq=>by have:=hwl q hq;omega) hts).mono ?_,fun mv W10 hr _=>hke mv W10 hr⟩;rintro e w3 ⟨V',rfl,hr3,hd3,hb3⟩;have hsz:=hb3.size;refine⟨_,rfl,rfl,hr3.one,hb3,fun W hW hbk=>(han W _ V' (hb3.trans (hW.mono hsz)) hbk (hr3.below hW) hd3 hsz).mono ?_⟩;rintro e W' ⟨ue,ur,rfl,s1,s2,se,sr,hbW,V2,hb2,hr2⟩;exact⟨ue,ur,rfl,s1,s2,se,sr,_,rfl,hr2.one,hb2,hb3.trans ((hW.mono hsz).trans hbW),fun W10 mv h1 h2 h3=>⟨V2,h1,h3,hr2.below h2⟩⟩
theorem dG (f:Ent→Bool) (all:List Ent):uf f all 0 (all.length+1)=all.filter f:=by
 unfold uf;rw[List.drop_zero];exact List.take_of_length_le (Nat.le_succ_of_le (List.length_filter_le _ _))
theorem lR {L:Lg}{all:List Ent}(h:Inv L all) (x:ByteArray) (lo hi:Int):uB x (jR L lo) hi (yv L.lev)++kK L.mem x (jR L lo) hi=all.filter (qP L x lo hi):=by
 rw[h.query,dG];congr 1;funext e;exact(qP_gq L x lo hi e).symm
def qN (L:Lg) (S:ByteArray) (lo hi:Int):Int:=if yB S then(vt S lo hi (yv L.lev):Int) else 0
def qE (S:ByteArray):Int:=if yB S then 0 else 6
def qL (L:Lg) (all:List Ent) (S:ByteArray) (lo hi:Int):List Ent:=if yB S then all.filter (qP L S lo hi) else []
theorem aR (L:Lg) (all:List Ent) (S:ByteArray) (lo hi:Int):(qL L all S lo hi).length≤all.length:=by
 unfold qL;split
 ·exact List.length_filter_le _ _
 ·exact Nat.zero_le _
theorem sY {W W2 w' w3:World}{v:Value}{l:List Ent}(hb:Below W.heap.size W W2) (hc:CurE W2 w' v l) (ht:Tch (fun k=>W.heap.size≤k∧k<W2.heap.size) w' w3):Below W.heap.size W w3∧w3.ownsRow W.heap.size 66 3 v l.length (l.flatMap eC):=by
 have h1:=hb.size;have h2:=hc.1.size;refine⟨zP (hb.trans (hc.1.mono h1)) ht (fun k q=>q.1) (by omega),zW (zn hc.2 (fun g hg=>?_)) h1⟩;obtain⟨q1,q2,_⟩:=zw hc.2 hg;exact ht.block g q2 (fun q=>by omega)
theorem yJ {w:World}{B:Nat}{e:TypeId}{sz n:Nat}{v:Value}{xs:List Value}(h:w.ownsRow B e sz v n xs):vv v:=by
 obtain⟨a,c,rfl,_,_⟩:=zu h;exact⟨_,_,_,rfl⟩
theorem kT {W:World}{ρ:Nat→Nat}{B N lb:Nat}{G:Gh}{L:Lg}{all:List Ent}(h:LogAt W ρ B N lb G L) (hI:Inv L all) (ht:TabB W.heap.size W) (hM:all.length≤400000) (A Bv Cv:Int) (S T:ByteArray) (hS:S.size≤1048576) :
  Calls Tryz.prog 133 #[zr lb,oV ⟨14,A,Bv,Cv,S,T⟩] W fun e w3=>∃v,e=.returned (.agg (wO (qN L S Bv Cv) (qE S) v (.slice none 0 0)))∧Below W.heap.size W w3∧w3.ownsRow W.heap.size 66 3 v (qL L all S Bv Cv).length ((qL L all S Bv Cv).flatMap eC):=by
 have key:=Zw (W:=W) (lb:=lb) A Bv Cv S T (fun v n er w3=>n=qN L S Bv Cv∧er=qE S∧Below W.heap.size W w3∧w3.ownsRow W.heap.size 66 3 v (qL L all S Bv Cv).length ((qL L all S Bv Cv).flatMap eC)) (fun W2 hb=>by
  cases hw:yB S
  ·refine(eY (ht.next hb).now S (by unfold maxLen;omega) hw Bv Cv).mono ?_;rintro e w' ⟨rfl,hb'⟩;refine⟨_,_,_,rfl,⟨_,_,_,rfl⟩,fun k _ hk=>hb'.block k hk,fun w3 ht3=>?_⟩;have:=sY (l:=[]) hb ⟨hb',World.ownsRow_nil _ _ _ _⟩ ht3;exact⟨by simp[qN,hw],by simp[qE,hw],this.1,by simp only[qL,hw];exact this.2⟩
  ·have hcf:=hI.cfg;refine(ik (h.below hb) (ht.next hb).now S (by unfold maxLen;omega) hw Bv Cv hI.clk hcf.2.2.2.1.2 (fun k hk=>by have:=hI.lev k hk;omega) (by have:=hI.stoLen;omega) (fun es hes=>hI.tmsOf (hI.segSub hes)) (hI.tmsOf hI.memSub)).mono ?_;rintro e w' ⟨v,rfl,hc⟩;rw[lR hI]at hc;refine⟨_,_,_,rfl,yJ hc.2,fun k _ hk=>hc.1.block k hk,fun w3 ht3=>?_⟩;have:=sY hb hc ht3
   exact⟨by simp[qN,hw],by simp[qE,hw],this.1,by simp only[qL,hw];exact this.2⟩)
 refine key.mono ?_;rintro e w3 ⟨v,n,er,rfl,_,rfl,rfl,h1,h2⟩;exact⟨v,rfl,h1,h2⟩
theorem mU {Z:Nat→Prop}{B:Nat}{W:World}{cb:Nat}{V:Rv}{L:Lg}{all:List Ent}{ts:List Tl}(hb:W.heap[cb]? = some (Obj.cells (zR V L) 234 (0,0))) (h:RfV Z B W V L all ts) (hI:Inv L all) (hM:all.length≤400000) (A Bv Cv:Int) (S T:ByteArray) (hS:S.size≤1048576) :
  Calls Tryz.prog 134 #[zr cb,oV ⟨14,A,Bv,Cv,S,T⟩] W fun e w3=>∃v,e=.returned (.agg (wO (qN L S Bv Cv) (qE S) v (.slice none 0 0)))∧Below W.heap.size W w3∧w3.ownsRow W.heap.size 66 3 v (qL L all S Bv Cv).length ((qL L all S Bv Cv).flatMap eC):=by
 have key:=bP (W:=W) (lb:=cb) A Bv Cv S T (fun v n er w3=>n=qN L S Bv Cv∧er=qE S∧Below W.heap.size W w3∧w3.ownsRow W.heap.size 66 3 v (qL L all S Bv Cv).length ((qL L all S Bv Cv).flatMap eC)) (fun W2 hb2=>by
  cases hw:yB S
  ·refine(ij S (by omega) hw Bv Cv).mono ?_;rintro e w' ⟨rfl,rfl⟩;refine⟨_,_,_,rfl,⟨_,_,_,rfl⟩,fun k _ hk=>rfl,fun w3 ht3=>?_⟩;have:=sY (l:=[]) hb2 ⟨Below.refl _ _,World.ownsRow_nil _ _ _ _⟩ ht3;exact⟨by simp[qN,hw],by simp[qE,hw],this.1,by simp only[qL,hw];exact this.2⟩
  ·refine(lQ ((hb2.block cb (Mth.gI hb)).trans hb) (h.below hb2) hI (by omega) S (by omega) hw Bv Cv).mono ?_;rintro e w' ⟨v,rfl,hc⟩;refine⟨_,_,_,rfl,yJ hc.2,fun k _ hk=>hc.1.block k hk,fun w3 ht3=>?_⟩;have:=sY hb2 hc ht3
   exact⟨by simp[qN,hw],by simp[qE,hw],this.1,by simp only[qL,hw];exact this.2⟩)
 refine key.mono ?_;rintro e w3 ⟨v,n,er,rfl,_,rfl,rfl,h1,h2⟩;exact⟨v,rfl,h1,h2⟩
theorem gt {P:Lg→List Tl→Prop}{Z:Nat→Prop}{w:World}{B wb:Nat}{g0 g1 g2 g3 hv ke ks kr:Value}{Ne Ns Nr M:Nat}{hs:List Ho}{i:Nat}(h:HI P Z w B wb g0 g1 g2 g3 hv ke ks kr Ne Ns Nr M hs none) (hi:i<hs.length) (ht:TabB B w) (hBw:B≤w.heap.size) (A Bv Cv:Int) (S T:ByteArray) (hS:S.size≤1048576) (hM:M+2≤400000) (hPt:∀L ts,P L ts→ts.length≤1000) :
  Calls Tryz.prog 69 #[zr wb,zr (hs.getD i h0).hb,oV ⟨14,A,Bv,Cv,S,T⟩] w fun e w'=>e=.returned (.bool true)∧HS P Z w w' B wb g0 g1 g2 g3 (M+2):=by
 obtain⟨W0,hW0⟩:∃W0,W0=w.alloc (Obj.cells #[.int .i64 14, .int .i64 A, .int .i64 Bv, .int .i64 Cv, .string S, .string T] 94):=⟨_,rfl⟩
 have b0:Below w.heap.size w W0:=by rw[hW0];exact zv _ _
 have s0:W0.heap.size=w.heap.size+1:=by rw[hW0];simp
 have k0:W0.heap[w.heap.size]? = some (Obj.cells #[.int .i64 14, .int .i64 A, .int .i64 Bv, .int .i64 Cv, .string S, .string T] 94 (0,0)):=by rw[hW0];exact zj _ _ _
 have hbm:Mu wb hv ke ks kr (hs.map Ho.hb) (hs.getD i h0).hb:=Or.inr (Or.inr (Or.inr (Or.inr (Or.inr (xQ hi)))));have hbl:=h.mlt hbm;have hob0:=(h.below b0).hob i hi;have hmb:=h.mb
 have hne:(hs.getD i h0).hb≠wb:=fun e=>by
  have h1:=h.hob i hi;rw[e]at h1;exact absurd (zc h1 h.blk) (by decide)
 refine tY ⟨14,A,Bv,Cv,S,T⟩ (fun w'=>HS P Z w w' B wb g0 g1 g2 g3 (M+2)) hW0 rfl hbl hne (zy (j:=0) hob0 rfl).1 (fun W hW _=>?_);have bW:Below w.heap.size w W:=b0.trans (hW.mono b0.size);have vu:=hW.size;obtain⟨hpW,hxW⟩:=(h.below bW).punch hi;have hbd:=hxW.bud;refine(kT hxW.log hxW.inv (TabB.mono (ht.next (bW.mono hBw)) (Nat.le_trans hBw bW.size)) (by omega) A Bv Cv S T hS).mono ?_;rintro e w2 ⟨v,rfl,b2,o2⟩;have hs2:=b2.size;refine⟨_,_,v,_,rfl,yJ o2,⟨_,_,_,rfl⟩,fun g _ hg=>b2.block g hg,hs2,(b2.block _ (by omega)).trans (hW.block _ (by omega)),(b2.block _ (by omega)).trans (hW.block _ (by omega)),?_⟩;intro w2' tb htc htl htb;have b2':Below W0.heap.size W0 w2':=zP (hW.trans (b2.mono vu)) htc (fun k q=>q.1) (by omega);have bw2:Below w.heap.size w w2':=b0.trans (b2'.mono b0.size);have hs2':=htc.size;have o2':w2'.ownsRow W.heap.size 66 3 v (qL (hs.getD i h0).L (hs.getD i h0).all S Bv Cv).length ((qL (hs.getD i h0).L (hs.getD i h0).all S Bv Cv).flatMap eC):=zn o2 (fun g hg=>htc.block g (zw o2 hg).2.1 (fun q=>by have:=(zw o2 hg).1;omega));obtain⟨hp,hx⟩:=(h.below bw2).punch hi;have hob2:=hp.hob i hi;have k2:=(b2'.block _ (by omega)).trans k0;have hw4:=hx.log.x.k.few
 have hwl:∀q,q<(hs.getD i h0).L.wks.length→((hs.getD i h0).L.wks.getD q zo).list.length≤900:=fun q hq=>by have:=xz (hx.log.x.k.ok q hq);omega
 have hql:=aR (hs.getD i h0).L (hs.getD i h0).all S Bv Cv
 obtain⟨mb,mc,C,hq⟩:=gW (wb:=wb) (FQ:=fun w'=>HS P Z w w' B wb g0 g1 g2 g3 (M+2)) (L':=(hs.getD i h0).L) (al:=(hs.getD i h0).all) (ts':=(hs.getD i h0).ts) (o:=⟨14,A,Bv,Cv,S,T⟩) htl ⟨yJ o2,⟨_,_,_,rfl⟩⟩ (zy (j:=9) hob2 rfl) k2 hx.may hx.ref (fun g hg=>(hp.zm g hg).1) hx.inv (by omega) hw4.2 hwl (hPt _ _ hx.tl) (fun W1 cb V' hbW hcb hr hd hc=>by
  refine(mU hcb hr hx.inv (by omega) A Bv Cv S T hS).mono ?_;rintro e W' ⟨ue,rfl,b3,o3⟩;refine⟨ue,_,rfl,yJ o3,⟨_,_,_,rfl⟩,fun W6 h6=>?_,fun W6 _=>qo W6,b3.mono hbW.size,V',(b3.block cb (Mth.gI hcb)).trans hcb,hr.below b3⟩;have b6:Below w2'.heap.size w2' W6:=hbW.trans ((b3.mono hbW.size).trans (h6.mono (Nat.le_trans hbW.size b3.size)))
  exact xN (vS (zq o2' b6)) (vS (zq o3 h6))) (fun mv W10 hr=>by
  obtain⟨V2,hr⟩:=hr;have hf:=uR hp hi hr hx.log hx.inv hx.left hx.db ⟨by omega,by omega,by omega⟩ hx.tl;have bd:=zE (W10.setCell ⟨(hs.getD i h0).hb,9,none⟩ mv);have hf2:=hf.below bd;have em:=xi (x:={ (hs.getD i h0)with mv:=mv,V:=V2 }) hi rfl;have hsl:(hs.set i { (hs.getD i h0)with mv:=mv,V:=V2 }).length=hs.length:=List.length_set
  have hv1:∀g,some g=v.ownBlock→W.heap.size≤g∧g<w2'.heap.size:=fun g hg=>⟨(zw o2' hg).1,(zw o2' hg).2.1⟩
  have hr10:=hr.bel.size;have o10:(W10.setCell ⟨(hs.getD i h0).hb,9,none⟩ mv).drew.ownsRow w.heap.size 66 3 v (qL (hs.getD i h0).L (hs.getD i h0).all S Bv Cv).length ((qL (hs.getD i h0).L (hs.getD i h0).all S Bv Cv).flatMap eC):=zq (zW (zn (zq o2' hr.bel) (fun g hg=>zt (fun e=>by have:=hv1 g hg;omega))) bW.size) bd
  have htl10:(W10.setCell ⟨(hs.getD i h0).hb,9,none⟩ mv).drew.heap[tb]? = some (Obj.cells (wO (qN (hs.getD i h0).L S Bv Cv) (qE S) v (.slice none 0 0)) 245 (0,0)):=by
   have e1:(W10.setCell ⟨(hs.getD i h0).hb,9,none⟩ mv).heap[tb]? = W10.heap[tb]? := zt (fun e=>by omega);exact e1.trans ((hr.bel.block tb (Mth.gI htl)).trans htl)
  have hsz10:(W10.setCell ⟨(hs.getD i h0).hb,9,none⟩ mv).drew.heap.size=W10.heap.size:=by show(W10.setCell _ _).heap.size=_;simp
  refine(gF (B0:=w.heap.size) (tb:=tb) hf2 o10 (by omega) (by omega) (by have:=bw2.size;omega) hBw (fun g hg=>by rw[em]at hg;exact h.mlt hg) (fun g hg=>?_) htl10 (by omega)).mono ?_
  ·obtain⟨q1,q2⟩:=hv1 g hg;refine⟨fun hz=>?_,fun j hj=>?_⟩
   ·rcases hz with hz|hz
    ·have:=(h.zm g hz).1;omega
    ·omega
   ·rw[hsl]at hj
    have hr0:(hs.getD j h0).ρ g=0:=by
     by_cases q:(hs.getD j h0).ρ g=0
     ·exact q
     ·have:=(h.lt j hj g q).1;omega
    rw[zU hi];by_cases e:j=i
    ·subst e;rw[if_pos rfl];exact hr0
    ·rw[if_neg e];exact hr0
  ·rintro e W12 ⟨rfl,h1,h2⟩;refine⟨rfl,h1,h2.mono ?_⟩;rintro e W13 ⟨rfl,h3⟩;refine⟨rfl,h3.pre ?_ (fun g hg=>Or.inl hg) (fun g hg=>?_)⟩
   ·exact(bw2.mono hBw).trans (Rl.zZ (hr.bel.mono (Nat.le_trans hBw bw2.size)) (h.hge i hi).2 |>.trans (bd.mono (by have:=bw2.size;simp;omega)))
   ·have e1:(W10.setCell ⟨(hs.getD i h0).hb,9,none⟩ mv).heap[g]? = W10.heap[g]? := zt (fun e=>(h.zm g hg).2.1 (by rw[e];exact hbm))
    exact e1.trans ((hr.bel.block g (Nat.lt_of_lt_of_le (h.zm g hg).1 bw2.size)).trans (bw2.block g (h.zm g hg).1)))
 exact⟨mb,mc,C,_,hq⟩
theorem iy {w:World}{wb:Nat}{C:Array Value}(hblk:w.heap[wb]? = some (Obj.cells C 91 (0,0))) (a:Option Addr) (c:Nat) (h8:C[8]? = some (.slice a 0 c)) (o:Opr) (hk:12≤o.k∧o.k≤19) :
  Calls Tryz.prog 29 #[zr wb,oV o] w fun e w'=>e=.returned (.bool true)∧Below w.heap.size w w':=by
 obtain⟨k,A,B,C',S,T⟩:=o;simp only[oV]at hk ⊢;obtain⟨hk1,hk2⟩:=hk;have HB:=zx (zv w (Obj.cells #[.int .i64 k, .int .i64 A, .int .i64 B, .int .i64 C', .string S, .string T] 94));have d3:=(zy ((HB.out.block wb (Mth.gI hblk)).trans hblk) h8).1
 have q1:¬k<1:=by omega
 have q2:¬22<k:=by omega
 have q3:¬k≤6:=by omega
 have q4:¬k≤9:=by omega
 have q5:¬k≤11:=by omega
 clear hblk h8
 go_enter Tryz.func29,Tryz.ntmps29
 go_wp2;go_ret;exact⟨rfl,HB.out⟩
theorem i6 {w:World}{wb:Nat}{C:Array Value}(hblk:w.heap[wb]? = some (Obj.cells C 91 (0,0))) (gb n c:Nat) (h8:C[8]? = some (.slice (some ⟨gb,0,none⟩) n c)) (hn:0<n) (hn2:n≤400000) (hc:n≤c∧c≤maxLen) (f g:Nat→Nat) (hcl:∀i,i<n→w.cell? ⟨gb,i,none⟩=some (zr (f i))) (hx:∀i,i<n→w.cell? ⟨f i,0,none⟩=some (zr (g i)))
  (o:Opr) (hk:12≤o.k∧o.k≤19) (hA:-9223372036854775808≤o.A∧o.A<9223372036854775808) (Q:World→Prop)
  (hl:∀i,i<n→∀W,Below w.heap.size w W→o.k≤13→Calls Tryz.prog 68 #[zr wb,zr (f i),oV o] W fun e w'=>e=.returned (.bool true)∧Q w')
  (ha:∀i,i<n→∀W,Below w.heap.size w W→14≤o.k→Calls Tryz.prog 69 #[zr wb,zr (f i),oV o] W fun e w'=>e=.returned (.bool true)∧Q w') :
  Calls Tryz.prog 29 #[zr wb,oV o] w fun e w'=>e=.returned (.bool true)∧Q w':=by
 obtain⟨k,A,B,C',S,T⟩:=o;simp only[oV]at hk hA hl ha ⊢;obtain⟨hk1,hk2⟩:=hk;obtain⟨hc1,hc2⟩:=hc;unfold maxLen at hc2;obtain⟨W0,hW0⟩:∃W0,W0=w.alloc (Obj.cells #[.int .i64 k, .int .i64 A, .int .i64 B, .int .i64 C', .string S, .string T] 94):=⟨_,rfl⟩
 have b0:Below w.heap.size w W0:=by rw[hW0];exact zv _ _
 have k0:W0.heap[w.heap.size]? = some (Obj.cells #[.int .i64 k, .int .i64 A, .int .i64 B, .int .i64 C', .string S, .string T] 94 (0,0)):=by rw[hW0];exact zj _ _ _
 have d8:=(zy ((b0.block wb (Mth.gI hblk)).trans hblk) h8).1;obtain⟨r,hr0,hr1,hpk⟩:=sK A (n:Int) hA.1 hA.2 (by omega) (by omega);obtain⟨i,rfl⟩:=Int.eq_ofNat_of_zero_le hr0
 have hi:i<n:=by omega
 have e0:=(b0.cell (p:=⟨gb,i,none⟩) (World.block_lt_of_cell? _ _ (hcl i hi))).trans (hcl i hi);have x0:=(b0.cell (p:=⟨f i,0,none⟩) (World.block_lt_of_cell? _ _ (hx i hi))).trans (hx i hi);have HL:=zx (hl i hi);have HA:=zx (ha i hi);generalize f i=p at *;generalize g i=lb at *;have d0:=(zy (j:=0) (u:=.int .i64 k) k0 rfl).1;have d1:=(zy (j:=1) (u:=.int .i64 A) k0 rfl).1;have d2:=(zy (j:=2) (u:=.int .i64 B) k0 rfl).1;have d3:=(zy (j:=3) (u:=.int .i64 C') k0 rfl).1;have d4:=(zy (j:=4) (u:=.string S) k0 rfl).1;have d5:=(zy (j:=5) (u:=.string T) k0 rfl).1;have HPK:=zx hpk;have HW:=zx hW0;have HB0:=zx b0;generalize hob:w.heap.size=ob at *;have HOB:=zx hob
 have q1:¬k<1:=by omega
 have q2:¬22<k:=by omega
 have q3:¬k≤6:=by omega
 have q4:¬k≤9:=by omega
 have q5:¬k≤11:=by omega
 have q6:k≠20:=by omega
 have q7:¬21≤k:=by omega
 have qn:((n:Int) == 0)=false:=by simp;omega
 clear hblk h8 hpk hW0 hob b0 k0 hcl hx hl ha
 go_enter Tryz.func29,Tryz.ntmps29
 go_upto_region 1 with fail
 rw[HOB.out,←HW.out]
 go_upto_region 11 with fail
 go_cut [5] from 43 (fun v wq=>v=zr p∧Below W0.heap.size W0 wq)
 case first=>
  have HM:Hid (Below W0.heap.size W0 W0.drew):=zE _
  go_region_held3 (fun w'=>w'.cell? ⟨wb,8,none⟩=some (.slice (some ⟨gb,0,none⟩) n c)∧w'.cell? ⟨ob,1,none⟩=some (.int .i64 A)∧w'.cell? ⟨gb,i,none⟩=some (zr p)) (go_keep) (first|(go_at_call 15;refine(HPK.out _).mono ?_;rintro e W ⟨rfl,hW⟩;rw[hW];clear hW W))
  all_goals (go_wp2_with fail;go_meet;exact⟨rfl,HM.out⟩)
 case rest=>
  obtain⟨rfl,hbq⟩:=hcut;have hnw:=World.block_lt_of_cell? _ _ d0;have y0:=(hbq.cell (p:=⟨ob,0,none⟩) hnw).trans d0;have y1:=(hbq.cell (p:=⟨ob,1,none⟩) hnw).trans d1;have y2:=(hbq.cell (p:=⟨ob,2,none⟩) hnw).trans d2;have y3:=(hbq.cell (p:=⟨ob,3,none⟩) hnw).trans d3;have y4:=(hbq.cell (p:=⟨ob,4,none⟩) hnw).trans d4;have y5:=(hbq.cell (p:=⟨ob,5,none⟩) hnw).trans d5;have z0:=(hbq.cell (p:=⟨p,0,none⟩) (World.block_lt_of_cell? _ _ x0)).trans x0;have hs0:=HB0.out.size;have HBW:Hid (Below ob w wc):=HB0.out.trans (hbq.mono (by have:=HOB.out;omega));clear hbq d0 d1 d2 d3 d4 d5 d8 e0 x0;by_cases q8:k≤13
  ·have CL:=zx (HL.out wc HBW.out q8)
   go_wp2_with (first
    | (go_at_call 68;refine CL.out.mono ?_;rintro e W ⟨rfl,hW⟩;have HQ:=zx hW;clear hW))
   go_ret;exact⟨rfl,HQ.out⟩
  ·have CL:=zx (HA.out wc HBW.out (by omega))
   go_wp2_with (first
    | (go_at_call 69;refine CL.out.mono ?_;rintro e W ⟨rfl,hW⟩;have HQ:=zx hW;clear hW))
   go_ret;exact⟨rfl,HQ.out⟩
theorem iz {w:World}{wb:Nat}(o:Opr) (hk:o.k=10∨o.k=11) (Q:World→Prop)
  (hm:∀W,Below w.heap.size w W→Calls Tryz.prog 66 #[zr wb,oV o] W fun e w'=>e=.returned (.bool true)∧Q w') :
  Calls Tryz.prog 29 #[zr wb,oV o] w fun e w'=>e=.returned (.bool true)∧Q w':=by
 have HB:=zx (zv w (Obj.cells #[.int .i64 o.k, .int .i64 o.A, .int .i64 o.B, .int .i64 o.C, .string o.S, .string o.T] 94));have CM:=zx (hm _ HB.out);obtain⟨k,A,B,C',S,T⟩:=o;simp only[oV]at hk CM ⊢
 have q1:¬k<1:=by omega
 have q2:¬22<k:=by omega
 have q3:¬k≤6:=by omega
 have q4:¬k≤9:=by omega
 have q5:k≤11:=by omega
 clear hm hk
 go_enter Tryz.func29,Tryz.ntmps29
 go_wp2_with fail;refine CM.out.mono ?_;rintro e w' ⟨rfl,h1⟩;have HF:=zx h1;clear h1 CM;go_wp2;go_ret;exact⟨rfl,HF.out⟩
end Go.Proofs.YtkncboinfcnklaaGreatDoor.Lw
namespace Go.Proofs.YtkncboinfcnklaaGreatDoor
open Go.RowKit Go.Deep Go.Proofs.YtkncboinfcnklaaGreatDoor.Mth
def jN:Ent:=⟨5,7,⟨#[97,45,65]⟩⟩
theorem kC:dQ [jN]:=by
 refine⟨by simp,by simp,fun i hi=>?_⟩
 have:i=0:=by simp at hi;exact hi
 subst this;unfold vq dR;simp[jN,ByteArray.size]
theorem yu (w:World) (o:Obj) (k:Nat) (hk:k=w.heap.size):(w.alloc o).heap[k]? = some o:=by
 subst hk;show(w.heap.push o)[w.heap.size]? = _;rw[Array.getElem?_push,if_pos rfl]
def oC (o:Opr):List Value:=[.int .i64 o.k, .int .i64 o.A, .int .i64 o.B, .int .i64 o.C, .string o.S, .string o.T]
theorem qw {l:List Opr}{j t:Nat}(h:j<l.length) (ht:t<6):(l.flatMap oC)[j*6+t]? = (oC (l.getD j o0))[t]? := by
 induction l generalizing j with
 | nil=>simp at h
 | cons e l ih=>
  rw[List.flatMap_cons]
  cases j with
  | zero=>rw[List.getElem?_append_left (by simp[oC];omega)];simp[List.getD]
  | succ j=>
   rw[List.getElem?_append_right (by simp[oC];omega),show(j+1)*6+t-(oC e).length=j*6+t by simp[oC];omega,ih (by simpa using h)];simp[List.getD]
theorem cV {w:World}{g:Nat}{l:List Opr}(h:Blk w g 94 (l.flatMap oC)) (hl:l.length≤1048576):RdO w (.slice (some ⟨g,0,none⟩) l.length l.length) l:=by
 refine⟨_,l.length,rfl,Nat.le_refl _,by unfold maxLen;omega,Or.inr ⟨g,0,rfl,fun j hj=>?_⟩⟩;rw[Nat.zero_add];have k0:=qw (t:=0) hj (by omega);rw[Nat.add_zero]at k0;exact⟨(h.at (k0.trans rfl)).1,(h.at ((qw (t:=1) hj (by omega)).trans rfl)).1,(h.at ((qw (t:=2) hj (by omega)).trans rfl)).1,(h.at ((qw (t:=3) hj (by omega)).trans rfl)).1,(h.at ((qw (t:=4) hj (by omega)).trans rfl)).1,(h.at ((qw (t:=5) hj (by omega)).trans rfl)).1⟩
def ax (P:ByteArray):List Opr:=
 [⟨1,0,1,1,⟨#[]⟩,⟨#[]⟩⟩,⟨2,0,1,0,⟨#[]⟩,⟨#[]⟩⟩,⟨4,0,5,0,⟨#[120]⟩,⟨#[]⟩⟩,⟨5,0,5,0,⟨#[120]⟩,⟨#[]⟩⟩,⟨6,0,5,5,⟨#[97]⟩,⟨#[122]⟩⟩,
  ⟨7,0,0,0,⟨#[68,105,115,107,32,50]⟩,⟨#[]⟩⟩,⟨8,0,0,0,⟨#[]⟩,⟨#[]⟩⟩,⟨9,0,0,0,P,⟨#[]⟩⟩,
  ⟨10,1,0,0,⟨#[]⟩,⟨#[]⟩⟩,⟨11,0,0,0,⟨#[]⟩,⟨#[]⟩⟩,⟨10,0,0,0,⟨#[]⟩,⟨#[]⟩⟩,⟨12,0,0,0,⟨#[111,110,101]⟩,⟨#[]⟩⟩,⟨12,0,0,0,⟨#[116,119,111,32,111,110,101]⟩,⟨#[]⟩⟩,⟨12,0,0,0,⟨#[116,104,114,101,101]⟩,⟨#[]⟩⟩,⟨12,0,0,0,⟨#[102,111,117,114]⟩,⟨#[]⟩⟩,⟨13,0,3,0,⟨#[]⟩,⟨#[]⟩⟩,
  ⟨14,0,0,9,⟨#[111,110,101]⟩,⟨#[]⟩⟩,⟨15,0,0,0,⟨#[]⟩,⟨#[]⟩⟩,⟨15,0,0,0,⟨#[]⟩,⟨#[]⟩⟩,⟨15,0,0,0,⟨#[]⟩,⟨#[]⟩⟩,⟨16,0,0,0,⟨#[]⟩,⟨#[]⟩⟩,
  ⟨17,0,0,0,⟨#[102,105,118,101]⟩,⟨#[]⟩⟩,⟨18,0,0,0,⟨#[]⟩,⟨#[]⟩⟩,⟨18,0,1,0,⟨#[]⟩,⟨#[]⟩⟩,⟨19,0,1,0,⟨#[]⟩,⟨#[]⟩⟩,⟨21,0,0,0,⟨#[]⟩,⟨#[]⟩⟩,⟨14,0,0,9,⟨#[116,119,111]⟩,⟨#[]⟩⟩]
theorem aO (P:ByteArray) (h:P.size≤1048576):∀o∈ax P,OkO o:=by
 have hs:∀a:Array UInt8,a.size≤100→(ByteArray.mk a).size≤1048576:=fun a ha=>by show a.size≤1048576;omega
 intro o ho;unfold ax at ho;simp only[List.mem_cons,List.not_mem_nil,or_false]at ho
 rcases ho with rfl|rfl|rfl|rfl|rfl|rfl|rfl|rfl|rfl|rfl|rfl|rfl|rfl|rfl|rfl|rfl|rfl|rfl|rfl|rfl|rfl|rfl|rfl|rfl|rfl|rfl|rfl
 all_goals first|exact⟨by simp,by simp,h⟩|exact⟨by simp,by simp,hs _ (by simp)⟩
def pkS:ByteArray:=strOfNums (pk [jN])
theorem eT:pkS.size≤1048576:=by
 unfold pkS;rw[wS];have:=nS kC;unfold pk;rw[List.length_append,yo];omega
theorem nY {α:Type}{l:List α}{j:Nat}(h:j<l.length) (z:α):l.getD j z∈l:=by
 rw[List.getD,List.getElem?_eq_getElem h];exact List.getElem_mem _
end Go.Proofs.YtkncboinfcnklaaGreatDoor
namespace Go.Proofs.YtkncboinfcnklaaGreatDoor.Lw
open Go.RowKit Go.Deep Go.Shelf Go.Proofs.YtkncboinfcnklaaGreatDoor.Mth Go.Proofs.YtkncboinfcnklaaGreatDoor.Rl
def I6 (x:Int):Prop:=-9223372036854775808≤x∧x<9223372036854775808
def bH (o:Opr):Prop:=I6 o.A∧I6 o.B∧I6 o.C∧o.S.size≤1048576
def LH (P:Lg→List Tl→Prop) (Z0:Nat→Prop) (w:World) (B wb:Nat) (g0 g1 g2 g3:Value) (M:Nat):Prop:=
 ∃Z hv ke ks kr Ne Ns Nr hs,(∀g,Z0 g→Z g)∧HI P Z w B wb g0 g1 g2 g3 hv ke ks kr Ne Ns Nr M hs none
theorem LH.below {P:Lg→List Tl→Prop}{Z0:Nat→Prop}{w w':World}{B wb:Nat}{g0 g1 g2 g3:Value}{M:Nat}(h:LH P Z0 w B wb g0 g1 g2 g3 M) (hb:Below w.heap.size w w'):LH P Z0 w' B wb g0 g1 g2 g3 M:=by
 obtain⟨Z,hv,ke,ks,kr,Ne,Ns,Nr,hs,h1,h2⟩:=h;exact⟨Z,hv,ke,ks,kr,Ne,Ns,Nr,hs,h1,h2.below hb⟩
theorem LH.mono {P:Lg→List Tl→Prop}{Z0:Nat→Prop}{w:World}{B wb:Nat}{g0 g1 g2 g3:Value}{M M':Nat}(h:LH P Z0 w B wb g0 g1 g2 g3 M) (hM:M≤M'):LH P Z0 w B wb g0 g1 g2 g3 M':=by
 obtain⟨Z,hv,ke,ks,kr,Ne,Ns,Nr,hs,h1,h2⟩:=h;exact⟨_,hv,ke,ks,kr,Ne,Ns,Nr,hs,fun g hg=>Or.inl (h1 g hg),h2.more hM (Y:=fun _=>False) (fun _ q=>q.elim)⟩
theorem LH.keep {P:Lg→List Tl→Prop}{w:World}{B wb:Nat}{g0 g1 g2 g3:Value}{M k:Nat}(h:LH P (fun _=>False) w B wb g0 g1 g2 g3 M){w':World}(hb:Below w.heap.size w w') (hk:w.heap.size≤k) (hk2:k<w'.heap.size):LH P (fun g=>g=k) w' B wb g0 g1 g2 g3 M:=by
 obtain⟨Z,hv,ke,ks,kr,Ne,Ns,Nr,hs,h1,h2⟩:=h;refine⟨_,hv,ke,ks,kr,Ne,Ns,Nr,hs,fun g hg=>Or.inr hg,(h2.below hb).more (Nat.le_refl _) (Y:=fun g=>g=k) (fun g hg=>?_)⟩;subst hg;refine⟨hk2,fun hm=>by have:=h2.mlt hm;omega,fun j hj=>?_⟩;by_cases q:(hs.getD j h0).ρ g=0
 ·exact q
 ·have:=(h2.lt j hj g q).1;omega
theorem LH.new (P:Lg→List Tl→Prop) (w:World) (g0 g1 g2 g3:Value):LH P (fun _=>False) (w.alloc (Obj.cells #[g0,g1,g2,g3, .slice none 0 0, .slice none 0 0, .slice none 0 0, .slice none 0 0, .slice none 0 0, .slice none 0 0, .slice none 0 0, .slice none 0 0, .slice none 0 0, .slice none 0 0, .slice none 0 0] 91)) w.heap.size w.heap.size g0 g1 g2 g3 0:=by
 refine⟨fun _=>False, .slice none 0 0, .slice none 0 0, .slice none 0 0, .slice none 0 0,0,0,0,[],fun _ q=>q,zj w _ _,Nat.le_refl _,Bok.nil _ _ _ _ _ _ _,Bok.nil _ _ _ _ _ _ _,⟨fun i _=>.slice none (i+1) 0,fun i _=>⟨_,_,rfl⟩,Bok.nil _ _ _ _ _ _ _⟩,World.ownsRow_nil _ _ _ _,fun j hj=>absurd hj (Nat.not_lt_zero _),fun j hj=>absurd hj (Nat.not_lt_zero _),fun j hj=>absurd hj (Nat.not_lt_zero _),fun j hj=>absurd hj (Nat.not_lt_zero _),fun i j hi=>absurd hi (Nat.not_lt_zero _),fun g hg=>hg.elim,fun g _ j hj=>absurd hj (Nat.not_lt_zero _),Nat.le_refl _,Nat.le_refl _,Nat.le_refl _,Nat.le_refl _⟩
theorem HS.lh {P:Lg→List Tl→Prop}{Z Z0:Nat→Prop}{w w':World}{B wb:Nat}{g0 g1 g2 g3:Value}{M:Nat}(h:HS P Z w w' B wb g0 g1 g2 g3 M) (hz:∀g,Z0 g→Z g):LH P Z0 w' B wb g0 g1 g2 g3 M:=by
 obtain⟨Z',hv,ke,ks,kr,Ne,Ns,Nr,hs',h1,h2⟩:=h.ex;exact⟨Z',hv,ke,ks,kr,Ne,Ns,Nr,hs',fun g hg=>h1 g (hz g hg),h2⟩
structure SH (P:Lg→List Tl→Prop) (hi:Int):Prop where
 st:∀ {Z:Nat→Prop}{w:World}{B wb:Nat}{g0 g1 g2 g3 hv ke ks kr:Value}{Ne Ns Nr M:Nat}{hs:List Ho}{Cs:List Cf}(o:Opr),HI P Z w B wb g0 g1 g2 g3 hv ke ks kr Ne Ns Nr M hs none→TabB B w→Tab10B B w→B≤w.heap.size→RdC w g3 Cs→Cs.length≤1048576→bH o→10≤o.k→o.k≤hi→M+2≤400000→Calls Tryz.prog 29 #[zr wb,oV o] w fun e w'=>e=.returned (.bool true)∧HS P Z w w' B wb g0 g1 g2 g3 (M+2)
theorem SH.lh {P:Lg→List Tl→Prop}{hi:Int}(hS:SH P hi){Z0:Nat→Prop}{w:World}{B wb:Nat}{g0 g1 g2 g3:Value}{M:Nat}(h:LH P Z0 w B wb g0 g1 g2 g3 M){Cs:List Cf}(o:Opr) (ht:TabB B w) (ht':Tab10B B w) (hB:B≤w.heap.size) (hG:RdC w g3 Cs) (hC:Cs.length≤1048576) (hO:bH o) (h1:10≤o.k) (h2:o.k≤hi) (hM:M+2≤400000) :
  Calls Tryz.prog 29 #[zr wb,oV o] w fun e w'=>e=.returned (.bool true)∧LH P Z0 w' B wb g0 g1 g2 g3 (M+2)∧Below B w w'∧(∀g,Z0 g→w'.heap[g]? = w.heap[g]?):=by
 obtain⟨Z,hv,ke,ks,kr,Ne,Ns,Nr,hs,hz,hI⟩:=h;refine(hS.st o hI ht ht' hB hG hC hO h1 h2 hM).mono ?_;rintro e w' ⟨rfl,hs'⟩;exact⟨rfl,hs'.lh hz,hs'.bel,fun g hg=>hs'.zk g (hz g hg)⟩
theorem sh_of {P:Lg→List Tl→Prop}{hi:Int}(hhi:hi≤19) (hP0:∀m f bk n kp bt,P (Lg.new m f bk n kp bt) []) (hPa:∀L ts s,P L ts→P (L.app s) ts) (hPc:∀(L:Lg) ts (n:Nat),P L ts→P { L with clock:=L.clock+n } ts) (hPt:∀L ts,P L ts→ts.length≤1000)
  (hask:∀ {Z:Nat→Prop}{w:World}{B wb:Nat}{g0 g1 g2 g3 hv ke ks kr:Value}{Ne Ns Nr M:Nat}{hs:List Ho}{i:Nat}(o:Opr),HI P Z w B wb g0 g1 g2 g3 hv ke ks kr Ne Ns Nr M hs none→i<hs.length→TabB B w→B≤w.heap.size→bH o→14≤o.k→o.k≤hi→M+2≤400000→Calls Tryz.prog 69 #[zr wb,zr (hs.getD i h0).hb,oV o] w fun e w'=>e=.returned (.bool true)∧HS P Z w w' B wb g0 g1 g2 g3 (M+2)):SH P hi:=by
 refine⟨?_⟩;intro Z w B wb g0 g1 g2 g3 hv ke ks kr Ne Ns Nr M hs Cs o h ht ht' hBw hG hC hO hk1 hk2 hM;obtain⟨hA,hB',hC',hS⟩:=hO;by_cases hm:o.k≤11
 ·refine iz o (by omega) _ (fun W hW=>?_);refine(dz (h.below hW) (ht.next (hW.mono hBw)) (Nat.le_trans hBw hW.size) (hG.below hW) hC o (by omega) hA (by omega) hP0).mono ?_;rintro e w' ⟨rfl,hs'⟩;exact⟨rfl,(hs'.mono (by omega)).pre (hW.mono hBw) (fun _ q=>q) (fun g hg=>hW.block g (h.zm g hg).1)⟩
 ·by_cases hn:hs.length=0
  ·obtain⟨a,c,e,_,_⟩:=zu h.row;rw[hn]at e;refine(iy h.blk a c (by rw[e];rfl) o (by omega)).mono ?_;rintro e w' ⟨rfl,hb⟩;refine⟨rfl,hb.mono hBw,fun g hg=>hb.block g (h.zm g hg).1,_,hv,ke,ks,kr,Ne,Ns,Nr,hs,fun g hg=>Or.inl hg,(h.below hb).more (Y:=fun _=>False) (by omega) (fun _ q=>q.elim)⟩
  ·obtain⟨a,c,e,hc⟩:=zu h.row;have hrow:=h.row;rw[e]at hrow;obtain⟨gb,rfl⟩:=zf hrow (by omega);have hmb:=h.mb
   have hcl:∀i,i<hs.length→w.cell? ⟨gb,i,none⟩=some (zr (hs.getD i h0).hb):=fun i hi=>by
    have h1:(hs.map (fun x=>zr x.hb))[i]? = some (zr (hs.getD i h0).hb):=by
     rw[List.getElem?_map,List.getElem?_eq_getElem hi,List.getElem_eq_getD h0];rfl
    exact zg hrow h1
   refine i6 h.blk gb hs.length c (by rw[e];rfl) (by omega) (by omega) hc (fun i=>(hs.getD i h0).hb) (fun i=>(hs.getD i h0).lb) hcl (fun i hi=>(zy (j:=0) (h.hob i hi) rfl).1) o (by omega) hA _ (fun i hi W hW hk=>?_) (fun i hi W hW hk=>?_)
   ·have hz:∀g,Z g→W.heap[g]? = w.heap[g]? := fun g hg=>hW.block g (h.zm g hg).1
    have hBW:=Nat.le_trans hBw hW.size;obtain⟨k,A,Bv,Cv,S,T⟩:=o;simp only at hk hm hk1 hA hB' hS;by_cases h12:k=12
    ·subst h12;refine(iR (h.below hW) hi (ht.next (hW.mono hBw)) hBW A Bv Cv S T hS (by omega) hPa hPt).mono ?_;rintro e w' ⟨rfl,hs'⟩;exact⟨rfl,(hs'.mono (by omega)).pre (hW.mono hBw) (fun _ q=>q) hz⟩
    ·have h13:k=13:=by omega
     subst h13;refine(iS (h.below hW) hi (ht'.next (hW.mono hBw)) hBW A Bv Cv S T ⟨hB'.1,by have:=hB'.2;omega⟩ (by omega) hPc hPt).mono ?_;rintro e w' ⟨rfl,hs'⟩;exact⟨rfl,(hs'.mono (by omega)).pre (hW.mono hBw) (fun _ q=>q) hz⟩
   ·refine(hask o (h.below hW) hi (ht.next (hW.mono hBw)) (Nat.le_trans hBw hW.size) ⟨hA,hB',hC',hS⟩ hk hk2 hM).mono ?_;rintro e w' ⟨rfl,hs'⟩;exact⟨rfl,hs'.pre (hW.mono hBw) (fun _ q=>q) (fun g hg=>hW.block g (h.zm g hg).1)⟩
theorem li {P:Lg→List Tl→Prop}{Z0:Nat→Prop}{w:World}{B wb:Nat}{g0 g1 g2 g3:Value}{M:Nat}(h:LH P Z0 w B wb g0 g1 g2 g3 M) (hM:M≤400000):Calls Tryz.prog 30 #[.pointer (some ⟨wb,9,none⟩)] w fun e w'=>e=.returned (.bool true)∧Below w.heap.size w w':=by
 obtain⟨Z,hv,ke,ks,kr,Ne,Ns,Nr,hs,_,h⟩:=h;have hmb:=h.mb;obtain⟨F,hF,hbr⟩:=h.br;exact pO w B wb g0 g1 g2 g3 _ _ _ _ hv _ _ _ ke ks kr 0 0 0 Ne Ns Nr h.blk ⟨Book.nil _ _ _ _ _ _,Book.nil _ _ _ _ _ _,Book.nil _ _ _ _ _ _,h.be.book,h.bs.book,⟨F,hF,hbr.book⟩⟩ (Nat.zero_le _) (Nat.zero_le _) (Nat.zero_le _) (by omega) (by omega) (by omega)
theorem lI (w:World) :
  Calls Tryz.prog 27 #[] w fun e w'=>∃s0 s1 s2 s3:Value,vv s0∧vv s1∧vv s2∧vv s3∧e=.returned (.agg #[s0,s1,s2,s3])∧Below w.heap.size w w'∧RdC w' s3 [⟨1,2,0,1,5,2⟩,⟨0,0,0,0,0,0⟩]:=by
 go_enter Tryz.func27,Tryz.ntmps27
 go_wp2;refine bodyPost_ret (v:=.agg #[.slice (some ⟨w.heap.size+1+1+1,0,none⟩) 2 2, .slice (some ⟨w.heap.size+1+1+1+1+1+1,0,none⟩) 2 2, .slice (some ⟨w.heap.size+1+1+1+1+1+1+1+1,0,none⟩) 1 1, .slice (some ⟨w.heap.size+1+1+1+1+1+1+1+1+1,0,none⟩) 2 2]) (by simp[results,Tryz.results27,go_sem]) rfl ⟨_,_,_,_,⟨_,_,_,rfl⟩,⟨_,_,_,rfl⟩,⟨_,_,_,rfl⟩,⟨_,_,_,rfl⟩,rfl,?_,?_⟩
 ·repeat(first|exact zi w _|refine Below.alloc ?_ (by simp;try omega) _)
 ·refine⟨_,2,rfl,by simp,by unfold maxLen;simp,Or.inr ⟨_,0,rfl,fun i hi=>?_⟩⟩
  have hi2:i<2:=by simpa using hi
  match i,hi2 with
  | 0,_=>exact⟨(zy (j:=0) (yu _ _ _ (by simp)) rfl).1,(zy (j:=1) (yu _ _ _ (by simp)) rfl).1,(zy (j:=2) (yu _ _ _ (by simp)) rfl).1,(zy (j:=3) (yu _ _ _ (by simp)) rfl).1,(zy (j:=4) (yu _ _ _ (by simp)) rfl).1,(zy (j:=5) (yu _ _ _ (by simp)) rfl).1⟩
  | 1,_=>exact⟨(zy (j:=6) (yu _ _ _ (by simp)) rfl).1,(zy (j:=7) (yu _ _ _ (by simp)) rfl).1,(zy (j:=8) (yu _ _ _ (by simp)) rfl).1,(zy (j:=9) (yu _ _ _ (by simp)) rfl).1,(zy (j:=10) (yu _ _ _ (by simp)) rfl).1,(zy (j:=11) (yu _ _ _ (by simp)) rfl).1⟩
theorem pC (w:World) :
  Calls Tryz.prog 28 #[] w fun e w'=>∃g,e=.returned (.slice (some ⟨g,0,none⟩) 27 27)∧Below w.heap.size w w'∧w.heap.size≤g∧Blk w' g 94 ((ax pkS).flatMap oC):=by
 have hrd:RdE (w.alloc (Obj.cells #[.int .i64 5, .int .i64 7, .string ⟨#[97,45,65]⟩] 66)) (.slice (some ⟨w.heap.size,0,none⟩) 1 1) [jN]:=by
  refine⟨_,1,rfl,by simp,by unfold maxLen;simp,Or.inr ⟨_,0,rfl,fun j hj=>?_⟩⟩
  have hj0:j=0:=by simp at hj;exact hj
  subst hj0;refine⟨?_,?_,?_⟩
  all_goals simp[jN,List.getD]
 have HB:=zx (zi w (Obj.cells #[.int .i64 5, .int .i64 7, .string ⟨#[97,45,65]⟩] 66));have CP:=zx (nB _ _ _ hrd kC);have HP:Hid (pkS=strOfNums (pk [jN])):=rfl;rw[←HP.out]at CP;clear hrd
 go_enter Tryz.func28,Tryz.ntmps28
 go_wp2_with fail;refine CP.out.mono ?_;rintro e w2 ⟨rfl,hb2⟩;have HB2:=zx (HB.out.trans (hb2.mono HB.out.size));clear hb2 CP HB;generalize pkS=PS at *;go_wp2;go_ret;refine⟨_,rfl,HB2.out.alloc (by have:=HB2.out.size;omega) _,HB2.out.size,?_⟩;show(w2.heap.push _)[w2.heap.size]? = _;rw[Array.getElem?_push,if_pos rfl];simp[ax,oC];exact HP.out
end Go.Proofs.YtkncboinfcnklaaGreatDoor.Lw
