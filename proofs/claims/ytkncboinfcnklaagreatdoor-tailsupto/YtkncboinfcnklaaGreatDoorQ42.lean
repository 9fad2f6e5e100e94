import Derived.Test.YtkncboinfcnklaaGreatDoorQ41
import Derived.Test.YtkncboinfcnklaaGreatDoorQ37
import Derived.Test.YtkncboinfcnklaaGreatDoorQ34
import Derived.Test.YtkncboinfcnklaaGreatDoorQ40
import Derived.Test.YtkncboinfcnklaaGreatDoorRows
import Derived.Test.YtkncboinfcnklaaGreatDoorQ31
import Derived.Test.YtkncboinfcnklaaGreatDoorQ33
import Derived.ProofKit
import Derived.OpenShut
import Derived.ShutString
import Derived.ChangeOld
import Derived.JoinedCond
import Derived.Deep.Slices
import Derived.Deep.Strs
import Derived.Deep.DeepHandedRow
import Derived.Deep.DeepWitnessRowRef
import Derived.Lib.LaidTab
import Derived.Lib.LaidU8
set_option maxRecDepth 100000
set_option maxHeartbeats 8000000
namespace Go.Proofs.YtkncboinfcnklaaGreatDoor.Lw
open Go.RowKit Go.Deep Go.Shelf Go.Proofs.YtkncboinfcnklaaGreatDoor.Mth Go.Proofs.YtkncboinfcnklaaGreatDoor.Rl
theorem gx {Z:Nat→Prop}{w:World}{B wb:Nat}{g0 g1 g2 g3 hv ke ks kr:Value}{Ne Ns Nr M:Nat}{hs:List Ho}{i:Nat}(h:HI P19 Z w B wb g0 g1 g2 g3 hv ke ks kr Ne Ns Nr M hs none) (hi:i<hs.length) (ht:TabB B w) (hBw:B≤w.heap.size) (A Bv Cv:Int) (S T:ByteArray) (hS:S.size≤1048576) (hM:M+2≤400000) :
  Calls Tryz.prog 69 #[zr wb,zr (hs.getD i h0).hb,oV ⟨17,A,Bv,Cv,S,T⟩] w fun e w'=>e=.returned (.bool true)∧HS P19 Z w w' B wb g0 g1 g2 g3 (M+2):=by
 refine vH h hi hBw ⟨17,A,Bv,Cv,S,T⟩ hM (fun _ _ hp=>by have:=hp.few;omega) (fun W bW hx=>?_);generalize hs.getD i h0=x at *;have hbd:=hx.bud;have hP:=hx.tl;have htn:=hP.tn;have hfew:=hP.few
 have hTab:∀W2,Below W.heap.size W W2→Tab W2:=fun W2 hb=>((ht.next (bW.mono hBw)).next (hb.mono (Nat.le_trans hBw bW.size))).now
 cases hw:yB S
 ·refine(lu A Bv Cv S T (fun n er w3=>n=0∧er=6∧Below W.heap.size W w3) (fun W2 hb hty=>?_)).mono ?_
  ·refine(fG (hTab W2 hb) S (by unfold maxLen;omega) hw).mono ?_;rintro e w' ⟨rfl,hb'⟩;exact⟨0,6,rfl,fun k _ h2=>hb'.block k h2,fun w3 ht3=>⟨rfl,rfl,zP (hb.trans (hb'.mono hb.size)) ht3 (fun k q=>q.1) (Nat.le_trans hb.size hb'.size)⟩⟩
  ·rintro e w3 ⟨n,er,rfl,rfl,rfl,hb3⟩;refine⟨0,6,_,x.L,x.ts,x.ρ,x.G,x.N,[],rfl,AkR.same hx hb3 (fun W1 cb V' B1 Z1 h1 h2=>?_)⟩;refine(pR A Bv Cv S T (fun n er w3=>n=0∧er=6∧Below W1.heap.size W1 w3) (fun W2 hb hty=>?_)).mono ?_
   ·refine(i8 S (by omega) hw).mono ?_;rintro e w' ⟨rfl,rfl⟩;exact⟨0,6,rfl,fun k _ _=>rfl,fun w3 ht3=>⟨rfl,rfl,zP hb ht3 (fun k q=>q.1) hb.size⟩⟩
   ·rintro e w4 ⟨n,er,rfl,rfl,rfl,hb4⟩;exact⟨rfl,hb4⟩
 ·by_cases hn:x.L.tn<4
  ·obtain⟨L',hL'⟩:∃L':Lg,L'={ x.L with tls:=fun y=>if y=(x.L.subs:Int) then some (S,x.L.count) else x.L.tls y,tn:=x.L.tn+1,subs:=x.L.subs+1 }:=⟨_,rfl⟩;refine(lu A Bv Cv S T (fun n er w3=>n=(x.L.subs:Int)∧er=0∧LogAt w3 x.ρ x.B (x.N+1) x.lb x.G L'∧LStp W w3 x.ρ x.ρ) (fun W2 hb hty=>?_)).mono ?_
   ·refine(cu (hx.log.below hb) (hTab W2 hb) S hS hw hn (by unfold maxLen;omega) (by omega) hP.free).mono ?_;rintro e w' ⟨rfl,hT⟩;refine⟨_,_,rfl,fun k h1 h2=>hT.stp.tch.block k h2 (fun z=>?_),fun w3 ht3=>?_⟩
    ·have:=(hx.log.x.lt k z.1).1;omega
    ·obtain⟨p1,p2⟩:=uZ (fun k hk=>(hx.log.x.lt k hk).1) hb hty.non hT.stp hT.log ht3;exact⟨rfl,rfl,by rw[hL'];exact p1,p2⟩
   ·rintro e w3 ⟨n,er,rfl,rfl,rfl,p1,p2⟩;refine⟨_,0,_,L',x.ts++[⟨x.L.subs,S,x.all.length⟩],x.ρ,x.G,x.N+1,[],rfl,p1,?_,p2,hx.left,hx.db,by omega,?_,?_,by rw[hL'];exact⟨rfl,rfl,rfl,rfl,rfl,rfl⟩,World.ownsRow_nil _ _ _ _,Nat.zero_le _,(fun g hg=>by cases hg),fun Z1 B1 W1 cb V' h1 h2 h3 h4 h5 h6=>?_⟩
    ·rw[hL'];dsimp only;omega
    ·rw[hL'];refine hx.inv.tail (fun y p hy=>?_);by_cases e:y=(x.L.subs:Int)
     ·rw[if_pos e]at hy;cases hy;exact⟨Nat.le_refl _,Or.inl rfl⟩
     ·rw[if_neg e]at hy;exact⟨hx.inv.plc y p hy,Or.inr ⟨p,hy,Nat.le_refl _⟩⟩
    ·rw[hL',←hx.inv.cnt];exact hP.sub S hS x.L.count hn
    ·refine(pR A Bv Cv S T (fun n er w4=>n=(x.L.subs:Int)∧er=0∧Below B1 W1 w4∧∃V2,w4.heap[cb]? = some (Obj.cells (zR V2 L') 234 (0,0))∧RfV Z1 B1 w4 V2 L' x.all (x.ts++[⟨x.L.subs,S,x.all.length⟩])) (fun W2 hb hty=>?_)).mono ?_
     ·refine(fD ((hb.block cb (Mth.gI h1)).trans h1) (h2.below hb) (Nat.le_trans h5 hb.size) h6 S (by omega) hw (by omega) (by omega) (L':=L') (by rw[hL'])).mono ?_;rintro e w' ⟨rfl,b,ty,V2,f1,f2⟩;exact⟨_,0,rfl,sp hty ty,fun w4 ht4=>⟨rfl,rfl,(wt h5 hb hty b ty f1 f2 ht4).1,V2,(wt h5 hb hty b ty f1 f2 ht4).2⟩⟩
     ·rintro e w4 ⟨n,er,rfl,rfl,rfl,b,V2,f1,f2⟩;exact⟨_,rfl,World.ownsRow_nil _ _ _ _,b,V2,f1,f2⟩
  ·refine(lu A Bv Cv S T (fun n er w3=>n=0∧er=7∧Below W.heap.size W w3) (fun W2 hb hty=>?_)).mono ?_
   ·refine(fF (hx.log.below hb).x (hTab W2 hb) S (by unfold maxLen;omega) hw (by omega) (by omega)).mono ?_;rintro e w' ⟨rfl,hb'⟩;exact⟨0,7,rfl,fun k _ h2=>hb'.block k h2,fun w3 ht3=>⟨rfl,rfl,zP (hb.trans (hb'.mono hb.size)) ht3 (fun k q=>q.1) (Nat.le_trans hb.size hb'.size)⟩⟩
   ·rintro e w3 ⟨n,er,rfl,rfl,rfl,hb3⟩;refine⟨0,7,_,x.L,x.ts,x.ρ,x.G,x.N,[],rfl,AkR.same hx hb3 (fun W1 cb V' B1 Z1 h1 h2=>?_)⟩;refine(pR A Bv Cv S T (fun n er w3=>n=0∧er=7∧Below W1.heap.size W1 w3) (fun W2 hb hty=>?_)).mono ?_
    ·refine(i7 ((hb.block cb (Mth.gI h1)).trans h1) (h2.below hb).tls S (by omega) hw (by omega)).mono ?_;rintro e w' ⟨rfl,rfl⟩;exact⟨0,7,rfl,fun k _ _=>rfl,fun w3 ht3=>⟨rfl,rfl,zP hb ht3 (fun k q=>q.1) hb.size⟩⟩
    ·rintro e w4 ⟨n,er,rfl,rfl,rfl,hb4⟩;exact⟨rfl,hb4⟩
theorem gy {Z:Nat→Prop}{w:World}{B wb:Nat}{g0 g1 g2 g3 hv ke ks kr:Value}{Ne Ns Nr M:Nat}{hs:List Ho}{i:Nat}(h:HI P19 Z w B wb g0 g1 g2 g3 hv ke ks kr Ne Ns Nr M hs none) (hi:i<hs.length) (hBw:B≤w.heap.size) (A Bv Cv:Int) (S T:ByteArray) (hB6:-9223372036854775808≤Bv∧Bv<9223372036854775808) (hM:M+2≤400000) :
  Calls Tryz.prog 69 #[zr wb,zr (hs.getD i h0).hb,oV ⟨19,A,Bv,Cv,S,T⟩] w fun e w'=>e=.returned (.bool true)∧HS P19 Z w w' B wb g0 g1 g2 g3 (M+2):=by
 refine vH h hi hBw ⟨19,A,Bv,Cv,S,T⟩ hM (fun _ _ hp=>by have:=hp.few;omega) (fun W bW hx=>?_);generalize hs.getD i h0=x at *;have hbd:=hx.bud;have hP:=hx.tl;have hfew:=hP.few;have hwf:=bA hB6;by_cases hf:∃j,j<x.ts.length∧((x.ts.getD j yY).num:Int)=Bv
 ·obtain⟨j,hj,hjx⟩:=hf;have hat:=hP.yes j hj;rw[hjx]at hat;obtain⟨L',hL'⟩:∃L':Lg,L'={ x.L with tls:=fun y=>if y=Bv then none else x.L.tls y,tn:=x.L.tn-1 }:=⟨_,rfl⟩;refine(gA A Bv Cv S T (fun er w3=>er=0∧LogAt w3 x.ρ x.B x.N x.lb x.G L'∧LStp W w3 x.ρ x.ρ) (fun W2 hb hty=>?_)).mono ?_
  ·refine(jE (hx.log.below hb) hwf hat).mono ?_;rintro e w' ⟨rfl,hT⟩;refine⟨_,rfl,fun k h1 h2=>hT.stp.tch.block k h2 (fun z=>?_),fun w3 ht3=>?_⟩
   ·have:=(hx.log.x.lt k z.1).1;omega
   ·obtain⟨p1,p2⟩:=uZ (fun k hk=>(hx.log.x.lt k hk).1) hb hty.non hT.stp hT.log ht3;exact⟨rfl,by rw[hL'];exact p1,p2⟩
  ·rintro e w3 ⟨er,rfl,rfl,p1,p2⟩;refine⟨0,0,_,L',x.ts.eraseIdx j,x.ρ,x.G,x.N,[],rfl,p1,?_,p2,hx.left,hx.db,by omega,?_,?_,by rw[hL'];exact⟨rfl,rfl,rfl,rfl,rfl,rfl⟩,World.ownsRow_nil _ _ _ _,Nat.zero_le _,(fun g hg=>by cases hg),fun Z1 B1 W1 cb V' h1 h2 h3 h4 h5 h6=>?_⟩
   ·rw[hL'];dsimp only;omega
   ·rw[hL'];refine hx.inv.tail (fun y p hy=>?_);by_cases e:y=Bv
    ·rw[if_pos e]at hy;cases hy
    ·rw[if_neg e]at hy;exact⟨hx.inv.plc y p hy,Or.inr ⟨p,hy,Nat.le_refl _⟩⟩
   ·rw[hL'];exact hP.unsub hj hjx
   ·refine(jV A Bv Cv S T (fun er w4=>er=0∧Below B1 W1 w4∧∃V2,w4.heap[cb]? = some (Obj.cells (zR V2 L') 234 (0,0))∧RfV Z1 B1 w4 V2 L' x.all (x.ts.eraseIdx j)) (fun W2 hb hty=>?_)).mono ?_
    ·refine(sB ((hb.block cb (Mth.gI h1)).trans h1) (h2.below hb) (Nat.le_trans h5 hb.size) h6 Bv (by omega)).mono ?_;rintro e w' (⟨_,_,hno⟩|⟨k,hk,hkx,rfl,b,ty,hLL⟩)
     ·exact absurd hjx (hno j hj)
     ·obtain rfl:=hP.dis k j hk hj (by omega);obtain⟨V2,f1,f2⟩:=hLL L' (by rw[hL']);exact⟨0,rfl,sp hty ty,fun w4 ht4=>⟨rfl,(wt h5 hb hty b ty f1 f2 ht4).1,V2,(wt h5 hb hty b ty f1 f2 ht4).2⟩⟩
    ·rintro e w4 ⟨er,rfl,rfl,b,V2,f1,f2⟩;exact⟨_,rfl,World.ownsRow_nil _ _ _ _,b,V2,f1,f2⟩
 ·have hno:∀j,j<x.ts.length→((x.ts.getD j yY).num:Int)≠Bv:=fun j hj e=>hf ⟨j,hj,e⟩
  refine(gA A Bv Cv S T (fun er w3=>er=8∧Below W.heap.size W w3) (fun W2 hb hty=>?_)).mono ?_
  ·refine(fY (hx.log.below hb).x hwf (hP.no Bv hno)).mono ?_;rintro e w' ⟨rfl,hb'⟩;exact⟨8,rfl,fun k _ h2=>hb'.block k h2,fun w3 ht3=>⟨rfl,zP (hb.trans (hb'.mono hb.size)) ht3 (fun k q=>q.1) (Nat.le_trans hb.size hb'.size)⟩⟩
  ·rintro e w3 ⟨er,rfl,rfl,hb3⟩;refine⟨0,8,_,x.L,x.ts,x.ρ,x.G,x.N,[],rfl,AkR.same hx hb3 (fun W1 cb V' B1 Z1 h1 h2=>?_)⟩;refine(jV A Bv Cv S T (fun er w3=>er=8∧Below W1.heap.size W1 w3) (fun W2 hb hty=>?_)).mono ?_
   ·have hbk:=(hb.block cb (Mth.gI h1)).trans h1;refine(sB (B:=0) hbk ((h2.below hb).base (Nat.zero_le _)) (Nat.zero_le _) (Nat.zero_le _) Bv (by omega)).mono ?_;rintro e w' (⟨rfl,rfl,_⟩|⟨k,hk,hkx,_⟩)
    ·exact⟨8,rfl,fun k _ _=>rfl,fun w3 ht3=>⟨rfl,zP hb ht3 (fun k q=>q.1) hb.size⟩⟩
    ·exact absurd hkx (hno k hk)
   ·rintro e w4 ⟨er,rfl,rfl,hb4⟩;exact⟨rfl,hb4⟩
theorem gr {Z:Nat→Prop}{w:World}{B wb:Nat}{g0 g1 g2 g3 hv ke ks kr:Value}{Ne Ns Nr M:Nat}{hs:List Ho}{i:Nat}(h:HI P19 Z w B wb g0 g1 g2 g3 hv ke ks kr Ne Ns Nr M hs none) (hi:i<hs.length) (hBw:B≤w.heap.size) (A Bv Cv:Int) (S T:ByteArray) (hB6:-9223372036854775808≤Bv∧Bv<9223372036854775808) (hM:M+2≤400000) :
  Calls Tryz.prog 69 #[zr wb,zr (hs.getD i h0).hb,oV ⟨18,A,Bv,Cv,S,T⟩] w fun e w'=>e=.returned (.bool true)∧HS P19 Z w w' B wb g0 g1 g2 g3 (M+2):=by
 refine vH h hi hBw ⟨18,A,Bv,Cv,S,T⟩ hM (fun _ _ hp=>by have:=hp.few;omega) (fun W bW hx=>?_);generalize hs.getD i h0=x at *;have hbd:=hx.bud;have hP:=hx.tl;have hfew:=hP.few;have hcf:=hx.inv.cfg;have hwf:=bA hB6
 have hpl:∀t∈x.ts,t.place≤x.all.length:=fun t ht=>by
  obtain⟨j,hj,rfl⟩:=List.getElem_of_mem ht;have h1:=hx.inv.plc _ _ (hP.yes j hj);rw[hx.inv.cnt]at h1;rw[List.getElem_eq_getD yY];exact h1
 by_cases hf:∃j,j<x.ts.length∧((x.ts.getD j yY).num:Int)=Bv
 ·obtain⟨j,hj,hjx⟩:=hf;have hat:=hP.yes j hj;rw[hjx]at hat;obtain⟨y,hy⟩:∃y,y=(x.ts.getD j yY).word:=⟨_,rfl⟩;obtain⟨p,hp⟩:∃p,p=(x.ts.getD j yY).place:=⟨_,rfl⟩
  have hysz:y.size≤1048576:=by rw[hy];exact hP.sz j hj
  have hpp:p≤x.all.length:=by
   have h1:=hx.inv.plc _ _ hat;rw[hx.inv.cnt]at h1;rw[hp];exact h1
  rw[←hy,←hp]at hat;have htold:=hx.inv.told hat x.L.batch;obtain⟨q1,q2⟩:=aQ (f:=vu y) hx.inv.ok hpp hcf.2.2.2.2.1.1
  have hseq:=fun e he=>hx.inv.toldSeq (f:=vu y) (p:=p) (b:=x.L.batch) e he
  obtain⟨LE,hLE⟩:∃LE,LE=uf (vu y) x.all p x.L.batch:=⟨_,rfl⟩;obtain⟨p',hp'⟩:∃p',p'=plc LE x.L.batch x.all.length:=⟨_,rfl⟩
  have hlen:LE.length≤x.L.batch:=by rw[hLE,py];exact Nat.min_le_left _ _
  rw[←hLE,←hp']at q1 q2;obtain⟨L',hL'⟩:∃L':Lg,L'={ x.L with tls:=fun z=>if z=Bv then some (y,p') else x.L.tls z }:=⟨_,rfl⟩;refine(fy A Bv Cv S T (fun v er w3=>er=0∧LogAt w3 x.ρ x.B (x.N+1) x.lb x.G L'∧LStp W w3 x.ρ x.ρ∧w3.ownsRow W.heap.size 66 3 v LE.length (LE.flatMap eC)) (fun W2 hb hty=>?_)).mono ?_
  ·have hpy:=eU (hx.log.below hb) hwf hat (by unfold maxLen;omega) hcf.2.2.2.2.1.1 hcf.2.2.2.2.1.2 (fun k hk=>by have:=hx.inv.lev k hk;omega) (Inv.psegs hx.inv (by omega)) (by unfold maxLen;omega) (fun e he=>by
    rw[htold]at he;have:=hseq e he
    omega)
   rw[htold,←hLE,show plc LE x.L.batch x.L.count=p' by rw[hp',hx.inv.cnt]]at hpy;refine hpy.mono ?_;rintro e w' ⟨v,rfl,hT,ho⟩;refine⟨v,0,rfl,yJ ho,fun k h1 h2=>hT.stp.tch.block k h2 (fun z=>?_),fun w3 ht3=>?_⟩
   ·have:=(hx.log.x.lt k z.1).1;omega
   ·obtain⟨p1,p2⟩:=uZ (fun k hk=>(hx.log.x.lt k hk).1) hb hty.non hT.stp hT.log ht3;exact⟨rfl,by rw[hL'];exact p1,p2,zW (zn ho (fun g hg=>ht3.block g (zw ho hg).2.1 (fun q=>by have:=(zw ho hg).1;omega))) hb.size⟩
  ·rintro e w3 ⟨v,er,rfl,_,rfl,p1,p2,ho⟩;refine⟨0,0,v,L',x.ts.set j { x.ts.getD j yY with place:=p' },x.ρ,x.G,x.N+1,LE,rfl,p1,?_,p2,hx.left,hx.db,by omega,?_,?_,by rw[hL'];exact⟨rfl,rfl,rfl,rfl,rfl,rfl⟩,ho,by omega,(fun g hg=>?_),fun Z1 B1 W1 cb V' h1 h2 h3 h4 h5 h6=>?_⟩
   ·rw[hL'];dsimp only;omega
   ·rw[hL'];refine hx.inv.tail (tn':=x.L.tn) (subs':=x.L.subs) (fun z q hz=>?_);by_cases e:z=Bv
    ·rw[if_pos e]at hz;cases hz;refine⟨by rw[hx.inv.cnt];exact q2,Or.inr ⟨_,by rw[e];exact hat,q1⟩⟩
    ·rw[if_neg e]at hz;exact⟨hx.inv.plc z q hz,Or.inr ⟨q,hz,Nat.le_refl _⟩⟩
   ·rw[hL',hy];exact hP.poll hj hjx p'
   ·by_cases q:x.ρ g=0
    ·exact q
    ·have:=(hx.log.x.lt g q).1;have:=(zw ho hg).1;omega
   ·refine(jT A Bv Cv S T (fun v er w4=>er=0∧w4.ownsRow W1.heap.size 66 3 v LE.length (LE.flatMap eC)∧Below B1 W1 w4∧∃V2,w4.heap[cb]? = some (Obj.cells (zR V2 L') 234 (0,0))∧RfV Z1 B1 w4 V2 L' x.all (x.ts.set j { x.ts.getD j yY with place:=p' })) (fun W2 hb hty=>?_)).mono ?_
    ·refine(ql ((hb.block cb (Mth.gI h1)).trans h1) (h2.below hb) (Nat.le_trans h5 hb.size) hx.inv.ok (by omega) Bv (by omega) hpl hcf.2.2.2.2.1.1 (by have:=hcf.2.2.2.2.1.2;omega) (fun v er w'=>vv v∧(∀k,W1.heap.size≤k→k<W2.heap.size→w'.heap[k]? = W2.heap[k]?)∧∀w3,Tch (fun k=>W1.heap.size≤k∧k<W2.heap.size) w' w3→er=0∧w3.ownsRow W1.heap.size 66 3 v LE.length (LE.flatMap eC)∧Below B1 W1 w3∧∃V2,w3.heap[cb]? = some (Obj.cells (zR V2 L') 234 (0,0))∧RfV Z1 B1 w3 V2 L' x.all (x.ts.set j { x.ts.getD j yY with place:=p' })) (fun hno=>absurd hjx (hno j hj)) (fun k v w' hk hkx ho b ty hLL=>?_)).mono ?_
     ·obtain rfl:=hP.dis k j hk hj (by omega);rw[←hy,←hp,←hLE]at ho;rw[←hy,←hp,←hLE,←hp']at hLL;obtain⟨V2,f1,f2⟩:=hLL L' (by rw[hL']);refine⟨yJ ho,sp hty ty,fun w4 ht4=>⟨rfl,zW (zn ho (fun g hg=>ht4.block g (zw ho hg).2.1 (fun q=>by have:=(zw ho hg).1;omega))) hb.size,(wt h5 hb hty b ty f1 f2 ht4).1,V2,(wt h5 hb hty b ty f1 f2 ht4).2⟩⟩
     ·rintro e w' ⟨v,r,rfl,hq⟩;exact⟨v,r,rfl,hq⟩
    ·rintro e w4 ⟨v,er,rfl,_,rfl,o4,b,V2,f1,f2⟩;exact⟨v,rfl,o4,b,V2,f1,f2⟩
 ·have hno:∀j,j<x.ts.length→((x.ts.getD j yY).num:Int)≠Bv:=fun j hj e=>hf ⟨j,hj,e⟩
  refine(fy A Bv Cv S T (fun v er w3=>v=.slice none 0 0∧er=8∧Below W.heap.size W w3) (fun W2 hb hty=>?_)).mono ?_
  ·refine(cO (hx.log.below hb).x hwf (hP.no Bv hno)).mono ?_;rintro e w' ⟨rfl,hb'⟩;exact⟨_,8,rfl,⟨_,_,_,rfl⟩,fun k _ h2=>hb'.block k h2,fun w3 ht3=>⟨rfl,rfl,zP (hb.trans (hb'.mono hb.size)) ht3 (fun k q=>q.1) (Nat.le_trans hb.size hb'.size)⟩⟩
  ·rintro e w3 ⟨v,er,rfl,_,rfl,rfl,hb3⟩;refine⟨0,8,_,x.L,x.ts,x.ρ,x.G,x.N,[],rfl,AkR.same hx hb3 (fun W1 cb V' B1 Z1 h1 h2=>?_)⟩;refine(jT A Bv Cv S T (fun v er w3=>v=.slice none 0 0∧er=8∧Below W1.heap.size W1 w3) (fun W2 hb hty=>?_)).mono ?_
   ·refine(ql ((hb.block cb (Mth.gI h1)).trans h1) ((h2.below hb).base (Nat.zero_le _)) (Nat.zero_le _) hx.inv.ok (by omega) Bv (by omega) hpl hcf.2.2.2.2.1.1 (by have:=hcf.2.2.2.2.1.2;omega) (fun v er w'=>vv v∧(∀k,W1.heap.size≤k→k<W2.heap.size→w'.heap[k]? = W2.heap[k]?)∧∀w3,Tch (fun k=>W1.heap.size≤k∧k<W2.heap.size) w' w3→v=.slice none 0 0∧er=8∧Below W1.heap.size W1 w3) (fun _=>⟨⟨_,_,_,rfl⟩,fun _ _ _=>rfl,fun w3 ht3=>⟨rfl,rfl,zP hb ht3 (fun k q=>q.1) hb.size⟩⟩) (fun k v w' hk hkx ho b ty hLL=>absurd hkx (hno k hk))).mono ?_;rintro e w' ⟨v,r,rfl,hq⟩;exact⟨v,r,rfl,hq⟩
   ·rintro e w4 ⟨v,er,rfl,_,rfl,rfl,hb4⟩;exact⟨rfl,hb4⟩
theorem sh19:SH P19 19:=by
 have hPt:∀L ts,P19 L ts→ts.length≤1000:=fun _ ts h=>by have:=h.few;omega
 refine sh_of (by omega) cN (fun L _ s h=>h.same (sZ L s).1 (sZ L s).2.1 (sZ L s).2.2) (fun _ _ _ h=>h.same rfl rfl rfl) hPt ?_;intro Z w B wb g0 g1 g2 g3 hv ke ks kr Ne Ns Nr M hs i o h hi ht hBw hO hk1 hk2 hM;obtain⟨k,A,Bv,Cv,S,T⟩:=o;obtain⟨_,hB6,_,hS⟩:=hO;simp only at hk1 hk2 hS hB6
 rcases(show k=14∨k=15∨k=16∨k=17∨k=18∨k=19 by omega)with rfl|rfl|rfl|rfl|rfl|rfl
 ·exact gt h hi ht hBw A Bv Cv S T hS hM hPt
 ·exact gu h hi ht hBw A Bv Cv S T hM hPt (fun L L' ts hp e1 e2 e3 _=>hp.same e1 e2 e3) (fun L all ts hI hp=>hp.need hI)
 ·exact gp h hi hBw A Bv Cv S T hM hPt
 ·exact gx h hi ht hBw A Bv Cv S T hS hM
 ·exact gr h hi hBw A Bv Cv S T hB6 hM
 ·exact gy h hi hBw A Bv Cv S T hB6 hM
theorem o8 (W0:World) (g0 g1 g2 g3 sv:Value) (Cs:List Cf) (ops:List Opr) (hs0:vv g0) (hs1:vv g1) (hs2:vv g2) (hG:RdC W0 g3 Cs) (hCl:Cs.length≤1048576) (ht:TabB W0.heap.size W0) (ht':Tab10B W0.heap.size W0) (hO:RdO W0 sv ops) (hOk:∀o∈ops,bH o) (hn:ops.length≤190000) :
  Calls Tryz.prog 8 #[.agg #[g0,g1,g2,g3],sv] W0 fun e w'=>e=.returned (.bool true)∧Below W0.heap.size W0 w':=by
 have HB1:=zx (zi W0 (Obj.cells #[g0,g1,g2,g3] 27));have CP:=zx (lP (hi:=19) (by omega) sh19 _ g0 g1 g2 g3 sv Cs ops hs0 hs1 hs2 (hG.below HB1.out) hCl (TabB.mono (ht.next HB1.out) HB1.out.size) (Tab10B.mono (ht'.next HB1.out) HB1.out.size) (hO.below HB1.out) hOk hn);obtain⟨sa,sc,rfl,_,_⟩:=jz hO;obtain⟨a3,c3,rfl,_,_,_⟩:=hG;obtain⟨a0,n0,c0,rfl⟩:=hs0;obtain⟨a1,n1,c1,rfl⟩:=hs1;obtain⟨ga,gn,gc,rfl⟩:=hs2;clear hO hOk ht ht'
 go_enter Tryz.func8,Tryz.ntmps8
 go_wp2_with fail;refine CP.out.mono ?_;rintro e w' ⟨rfl,hb⟩;have HB:=zx (HB1.out.trans (hb.mono HB1.out.size));clear hb CP;go_wp2;go_ret;exact⟨rfl,HB.out⟩
end Go.Proofs.YtkncboinfcnklaaGreatDoor.Lw
namespace Go.Proofs.YtkncboinfcnklaaGreatDoor.lwin
open Go.ChangeShapes Go.WideShapes Go.ChangeAt Go.RowKit Go.Deep Go.Proofs.YtkncboinfcnklaaGreatDoor.Mth
open Go.ChangeMaps (open_string shut_string)
theorem gB:Tryz.prog.cellsOf 3=1:=by kernel_rfl
theorem Zy:Tryz.prog.cellsOf 9=1:=by kernel_rfl
theorem Z5:Tryz.prog.cellsOf 94=6:=by kernel_rfl
theorem ba:Tryz.prog.cellsOf 56=6:=by kernel_rfl
theorem bnd {n:Int}(h:(Lit.int .i64 n).wf=true):-9223372036854775808≤n∧n<9223372036854775808:=by
 simp[Lit.wf,IntKind.min,IntKind.max,IntKind.signed,IntKind.bits]at h;omega
theorem uu {H:Type}(d:DataW H):1≤Rows.uptoBulk d:=by
 cases d with
 | lit l=>cases l <;> simp[Rows.uptoBulk]
 | nil=>simp[Rows.uptoBulk]
 | ptr d=>simp[Rows.uptoBulk]
 | slice elems spare=>simp[Rows.uptoBulk]
 | agg parts=>simp[Rows.uptoBulk]
 | iface t d=>simp[Rows.uptoBulk]
 | map entries=>simp[Rows.uptoBulk]
 | held h=>simp[Rows.uptoBulk]
theorem length_le {H:Type}(l:List (DataW H)):l.length≤Rows.uptoBulkAll l:=by
 induction l with
 | nil=>simp[Rows.uptoBulkAll]
 | cons x r ih=>have:=uu x;simp only[Rows.uptoBulkAll,List.length_cons];omega
theorem jr {H:Type}{l:List (DataW H)}{x:DataW H}(h:x∈l):Rows.uptoBulk x≤Rows.uptoBulkAll l:=by
 induction l with
 | nil=>cases h
 | cons y r ih=>
  simp only[Rows.uptoBulkAll]
  rcases List.mem_cons.1 h with e|e
  ·subst e;omega
  ·have:=ih e;omega
theorem eu {H:Type}(elems spare:List (DataW H)):elems.length≤Rows.uptoBulk (.slice elems spare):=by
 have h1:=length_le elems;simp only[Rows.uptoBulk];omega
theorem bn {H:Type}{elems spare:List (DataW H)}{x:DataW H}(h:x∈elems):Rows.uptoBulk x≤Rows.uptoBulk (.slice elems spare):=by
 have h1:=jr h;simp only[Rows.uptoBulk];omega
theorem agg_le {H:Type}{parts:List (DataW H)}{x:DataW H}(h:x∈parts):Rows.uptoBulk x≤Rows.uptoBulk (.agg parts):=by
 have h1:=jr h;simp only[Rows.uptoBulk];omega
theorem eo {H:Type}(d0 d1 d2 d3 d4 d5:DataW H):7≤Rows.uptoBulk (.agg [d0,d1,d2,d3,d4,d5]:DataW H):=by
 have h0:=uu d0;have h1:=uu d1;have h2:=uu d2;have h3:=uu d3;have h4:=uu d4;have h5:=uu d5;simp only[Rows.uptoBulk,Rows.uptoBulkAll];omega
theorem gN {H:Type}(n:Nat):∀(l:List (DataW H)),(∀x∈l,n≤Rows.uptoBulk x)→n*l.length≤Rows.uptoBulkAll l
 | [],_=>by simp[Rows.uptoBulkAll]
 | x::r,h=>by
  have h1:=h x (by simp);have h2:=gN n r (fun y hy=>h y (by simp[hy]));simp only[Rows.uptoBulkAll,List.length_cons,Nat.mul_add];omega
section
variable {H:Type}{enc:TypeId × Value→H}{W:World}
theorem trod4 {t:TypeId}{f0 f1 f2 f3:Field}{fuel:Nat}{cs:List Value}{x:DataW H × List MemPlace}(ht:Tryz.prog.underlying t=some (.struct #[f0,f1,f2,f3])) (h:DataW.trod enc Tryz.prog W 0 (fun _=>true) true fuel t cs=some x) :
  ∃y0 y1 y2 y3 n,x=(.agg [y0.1,y1.1,y2.1,y3.1],y0.2++(y1.2++(y2.2++y3.2)))∧cs.length=Tryz.prog.cellsOf t∧DataW.trod enc Tryz.prog W 0 (fun _=>true) true n f0.type ((cs.drop f0.offset).take (Tryz.prog.cellsOf f0.type))=some y0∧DataW.trod enc Tryz.prog W 0 (fun _=>true) true n f1.type ((cs.drop f1.offset).take (Tryz.prog.cellsOf f1.type))=some y1∧DataW.trod enc Tryz.prog W 0 (fun _=>true) true n f2.type ((cs.drop f2.offset).take (Tryz.prog.cellsOf f2.type))=some y2∧DataW.trod enc Tryz.prog W 0 (fun _=>true) true n f3.type ((cs.drop f3.offset).take (Tryz.prog.cellsOf f3.type))=some y3:=by
 obtain⟨xs,n,_,rfl,hl,hlen,hf⟩:=DataW.trod_struct ht h
 match xs,hlen with
 | [y0,y1,y2,y3],_=>exact⟨y0,y1,y2,y3,n,by simp,hl,by simpa using hf 0 f0 rfl,by simpa using hf 1 f1 rfl,by simpa using hf 2 f2 rfl,by simpa using hf 3 f3 rfl⟩
theorem bF {t:TypeId}{f0 f1 f2 f3 f4 f5:Field}{fuel:Nat}{cs:List Value}{x:DataW H × List MemPlace}(ht:Tryz.prog.underlying t=some (.struct #[f0,f1,f2,f3,f4,f5])) (h:DataW.trod enc Tryz.prog W 0 (fun _=>true) true fuel t cs=some x) :
  ∃y0 y1 y2 y3 y4 y5 n,x.1=.agg [y0.1,y1.1,y2.1,y3.1,y4.1,y5.1]∧cs.length=Tryz.prog.cellsOf t∧DataW.trod enc Tryz.prog W 0 (fun _=>true) true n f0.type ((cs.drop f0.offset).take (Tryz.prog.cellsOf f0.type))=some y0∧DataW.trod enc Tryz.prog W 0 (fun _=>true) true n f1.type ((cs.drop f1.offset).take (Tryz.prog.cellsOf f1.type))=some y1∧DataW.trod enc Tryz.prog W 0 (fun _=>true) true n f2.type ((cs.drop f2.offset).take (Tryz.prog.cellsOf f2.type))=some y2∧DataW.trod enc Tryz.prog W 0 (fun _=>true) true n f3.type ((cs.drop f3.offset).take (Tryz.prog.cellsOf f3.type))=some y3∧DataW.trod enc Tryz.prog W 0 (fun _=>true) true n f4.type ((cs.drop f4.offset).take (Tryz.prog.cellsOf f4.type))=some y4∧DataW.trod enc Tryz.prog W 0 (fun _=>true) true n f5.type ((cs.drop f5.offset).take (Tryz.prog.cellsOf f5.type))=some y5:=by
 obtain⟨xs,n,_,rfl,hl,hlen,hf⟩:=DataW.trod_struct ht h
 match xs,hlen with
 | [y0,y1,y2,y3,y4,y5],_=>exact⟨y0,y1,y2,y3,y4,y5,n,by simp,hl,by simpa using hf 0 f0 rfl,by simpa using hf 1 f1 rfl,by simpa using hf 2 f2 rfl,by simpa using hf 3 f3 rfl,by simpa using hf 4 f4 rfl,by simpa using hf 5 f5 rfl⟩
theorem slice_in {t e:TypeId}{fuel:Nat}{cs:List Value}{x:DataW H × List MemPlace}(ht:Tryz.prog.underlying t=some (.slice e)) (h:DataW.trod enc Tryz.prog W 0 (fun _=>true) true fuel t cs=some x):∃a n c,cs=[.slice a n c]:=by
 rcases open_slice ht h with⟨hcs,_⟩|⟨a,l,c,m,n,D,Pl,hcs,_⟩
 ·exact⟨_,_,_,hcs⟩
 ·exact⟨_,_,_,hcs⟩
theorem cfs_in {fuel:Nat}{v:Value}{d:DataW H}{p:List MemPlace}(hf:DataW.trod enc Tryz.prog W 0 (fun _=>true) true fuel 25 [v]=some (d,p)) :
  ∃l:List Lw.Cf,Lw.RdC W v l∧l.length≤Rows.uptoBulk d:=by
 rcases open_slice Tryz.underlying25 hf with⟨hcs,hx⟩|⟨x,len,cap,m,n,D,Pl,hcs,_,hl,hm,hmm,hx,hcell⟩
 ·injection hcs with hcs _
  subst hcs;exact⟨[],⟨none,0,rfl,Nat.le_refl _,by unfold maxLen;omega,Or.inl rfl⟩,Nat.zero_le _⟩
 ·injection hcs with hcs _
  subst hcs
  injection hx with hx _
  have hlm:len≤m:=by rw[hmm];split <;> omega
  have each:∀i,i<len→∃e:(Int × Int × Int) × (Int × Int × Int),W.cell? (x.add (i*6))=some (.int .i64 e.1.1)∧W.cell? (x.add (i*6+1))=some (.int .i64 e.1.2.1)∧W.cell? (x.add (i*6+2))=some (.int .i64 e.1.2.2)∧W.cell? (x.add (i*6+3))=some (.int .i64 e.2.1)∧W.cell? (x.add (i*6+4))=some (.int .i64 e.2.2.1)∧W.cell? (x.add (i*6+5))=some (.int .i64 e.2.2.2):=by
   intro i hi;obtain⟨cs',h1,h2⟩:=hcell i (by omega);rw[ba]at h1;obtain⟨_,hlen,hc⟩:=World.cells?_some h1;obtain⟨y0,y1,y2,y3,y4,y5,n',_,_,g0,g1,g2,g3,g4,g5⟩:=bF Tryz.underlying56 h2;simp only[gB]at g0 g1 g2 g3 g4 g5;have e0':=hc 0 (by omega);have e1':=hc 1 (by omega);have e2':=hc 2 (by omega);have e3':=hc 3 (by omega);have e4':=hc 4 (by omega);have e5':=hc 5 (by omega);rw[add_add]at e0' e1' e2' e3' e4' e5'
   match cs',hlen,g0,g1,g2,g3,g4,g5,e0',e1',e2',e3',e4',e5' with
   | [v0,v1,v2,v3,v4,v5],_,g0,g1,g2,g3,g4,g5,e0',e1',e2',e3',e4',e5'=>
    obtain⟨a0,f0,_,_⟩:=DataW.trod_int Tryz.underlying3 g0;obtain⟨a1,f1,_,_⟩:=DataW.trod_int Tryz.underlying3 g1;obtain⟨a2,f2,_,_⟩:=DataW.trod_int Tryz.underlying3 g2;obtain⟨a3,f3,_,_⟩:=DataW.trod_int Tryz.underlying3 g3;obtain⟨a4,f4,_,_⟩:=DataW.trod_int Tryz.underlying3 g4;obtain⟨a5,f5,_,_⟩:=DataW.trod_int Tryz.underlying3 g5;simp at f0 f1 f2 f3 f4 f5;subst f0 f1 f2 f3 f4 f5;exact⟨((a0,a1,a2),(a3,a4,a5)),by simpa using e0',by simpa using e1',by simpa using e2',by simpa using e3',by simpa using e4',by simpa using e5'⟩
  obtain⟨q,hq⟩:=choose_lt each
  have hget:∀j,j<len→((List.range len).map (fun i=>(⟨(q i).1.1,(q i).1.2.1,(q i).1.2.2,(q i).2.1,(q i).2.2.1,(q i).2.2.2⟩:Lw.Cf))).getD j Lw.mI=⟨(q j).1.1,(q j).1.2.1,(q j).1.2.2,(q j).2.1,(q j).2.2.1,(q j).2.2.2⟩:=fun j hj=>by simp[List.getD,hj]
  refine⟨(List.range len).map (fun i=>⟨(q i).1.1,(q i).1.2.1,(q i).1.2.2,(q i).2.1,(q i).2.2.1,(q i).2.2.2⟩),⟨some x,cap,by simp,by simpa using hl,hm,?_⟩,?_⟩
  ·by_cases h0:len=0
   ·subst h0;exact Or.inl rfl
   ·right;obtain⟨xb,xo,xs⟩:=x
    have hsp:xs=none:=by simpa [Addr.add] using World.cell?_spot (hq 0 (by omega)).1
    subst hsp;refine⟨xb,xo,rfl,fun j hj=>?_⟩
    have hj':j<len:=by simpa using hj
    obtain⟨c0,c1,c2,c3,c4,c5⟩:=hq j hj';rw[add_plain]at c0 c1 c2 c3 c4 c5;rw[hget j hj'];exact⟨c0,by rw[Nat.add_assoc];exact c1,by rw[Nat.add_assoc];exact c2,by rw[Nat.add_assoc];exact c3,by rw[Nat.add_assoc];exact c4,by rw[Nat.add_assoc];exact c5⟩
  ·rw[hx];have:=eu ((List.range len).map D) ((List.range (m-len)).map fun j=>D (len+j));simp only[List.length_map,List.length_range]at this ⊢;exact this
theorem opsH_in {fuel:Nat}{v:Value}{d:DataW H}{p:List MemPlace}(hf:DataW.trod enc Tryz.prog W 0 (fun _=>true) true fuel 28 [v]=some (d,p)) (hb:Rows.uptoBulk d≤1048576) :
  ∃l:List Opr,RdO W v l∧(∀o∈l,Lw.bH o)∧l.length≤149797:=by
 rcases open_slice Tryz.underlying28 hf with⟨hcs,hx⟩|⟨x,len,cap,m,n,D,Pl,hcs,_,hl,hm,hmm,hx,hcell⟩
 ·injection hcs with hcs _
  subst hcs;exact⟨[],⟨none,0,rfl,Nat.le_refl _,by unfold maxLen;omega,Or.inl rfl⟩,(fun E hE=>by cases hE),Nat.zero_le _⟩
 ·injection hcs with hcs _
  subst hcs
  injection hx with hx _
  have hlm:len≤m:=by rw[hmm];split <;> omega
  have each:∀i,i<len→∃e:(Int × Int × Int × Int) × (ByteArray × ByteArray),(W.cell? (x.add (i*6))=some (.int .i64 e.1.1)∧W.cell? (x.add (i*6+1))=some (.int .i64 e.1.2.1)∧W.cell? (x.add (i*6+2))=some (.int .i64 e.1.2.2.1)∧W.cell? (x.add (i*6+3))=some (.int .i64 e.1.2.2.2)∧W.cell? (x.add (i*6+4))=some (.string e.2.1)∧W.cell? (x.add (i*6+5))=some (.string e.2.2))∧Lw.bH ⟨e.1.1,e.1.2.1,e.1.2.2.1,e.1.2.2.2,e.2.1,e.2.2⟩∧7≤Rows.uptoBulk (D i):=by
   intro i hi;obtain⟨cs',h1,h2⟩:=hcell i (by omega);rw[Z5]at h1;obtain⟨_,hlen,hc⟩:=World.cells?_some h1;obtain⟨y0,y1,y2,y3,y4,y5,n',hagg,_,g0,g1,g2,g3,g4,g5⟩:=bF Tryz.underlying94 h2;simp only[gB,Zy]at g0 g1 g2 g3 g4 g5;have e0':=hc 0 (by omega);have e1':=hc 1 (by omega);have e2':=hc 2 (by omega);have e3':=hc 3 (by omega);have e4':=hc 4 (by omega);have e5':=hc 5 (by omega);rw[add_add]at e0' e1' e2' e3' e4' e5'
   match cs',hlen,g0,g1,g2,g3,g4,g5,e0',e1',e2',e3',e4',e5' with
   | [v0,v1,v2,v3,v4,v5],_,g0,g1,g2,g3,g4,g5,e0',e1',e2',e3',e4',e5'=>
    obtain⟨a0,f0,_,_⟩:=DataW.trod_int Tryz.underlying3 g0;obtain⟨a1,f1,_,w1⟩:=DataW.trod_int Tryz.underlying3 g1;obtain⟨a2,f2,_,w2⟩:=DataW.trod_int Tryz.underlying3 g2;obtain⟨a3,f3,_,w3⟩:=DataW.trod_int Tryz.underlying3 g3;obtain⟨a4,f4,x4,_⟩:=DataW.trod_string Tryz.underlying9 g4;obtain⟨a5,f5,_,_⟩:=DataW.trod_string Tryz.underlying9 g5;simp at f0 f1 f2 f3 f4 f5;subst f0 f1 f2 f3 f4 f5;have b1:=bnd w1;have b2:=bnd w2;have b3:=bnd w3
    have h7:7≤Rows.uptoBulk (D i):=by
     have e:D i=.agg [y0.1,y1.1,y2.1,y3.1,y4.1,y5.1]:=hagg;rw[e];exact eo _ _ _ _ _ _
    have hS:a4.size≤1048576:=by
     have q1:Rows.uptoBulk y4.1≤Rows.uptoBulk (D i):=by
      have e:D i=.agg [y0.1,y1.1,y2.1,y3.1,y4.1,y5.1]:=hagg;rw[e];exact agg_le (by simp)
     have q2:Rows.uptoBulk (D i)≤Rows.uptoBulk d:=by
      rw[hx];exact bn (List.mem_map.2 ⟨i,List.mem_range.2 hi,rfl⟩)
     rw[x4]at q1;simp only[Rows.uptoBulk]at q1
     have q3:a4.data.toList.length=a4.size:=by simp
     omega
    exact⟨((a0,a1,a2,a3),(a4,a5)),⟨by simpa using e0',by simpa using e1',by simpa using e2',by simpa using e3',by simpa using e4',by simpa using e5'⟩,⟨b1,b2,b3,hS⟩,h7⟩
  obtain⟨q,hq⟩:=choose_lt each
  have hget:∀j,j<len→((List.range len).map (fun i=>(⟨(q i).1.1,(q i).1.2.1,(q i).1.2.2.1,(q i).1.2.2.2,(q i).2.1,(q i).2.2⟩:Opr))).getD j o0=⟨(q j).1.1,(q j).1.2.1,(q j).1.2.2.1,(q j).1.2.2.2,(q j).2.1,(q j).2.2⟩:=fun j hj=>by simp[List.getD,hj]
  refine⟨(List.range len).map (fun i=>⟨(q i).1.1,(q i).1.2.1,(q i).1.2.2.1,(q i).1.2.2.2,(q i).2.1,(q i).2.2⟩),⟨some x,cap,by simp,by simpa using hl,hm,?_⟩,?_,?_⟩
  ·by_cases h0:len=0
   ·subst h0;exact Or.inl rfl
   ·right;obtain⟨xb,xo,xs⟩:=x
    have hsp:xs=none:=by simpa [Addr.add] using World.cell?_spot (hq 0 (by omega)).1.1
    subst hsp;refine⟨xb,xo,rfl,fun j hj=>?_⟩
    have hj':j<len:=by simpa using hj
    obtain⟨⟨c0,c1,c2,c3,c4,c5⟩,_⟩:=hq j hj';rw[add_plain]at c0 c1 c2 c3 c4 c5;rw[hget j hj'];exact⟨c0,by rw[Nat.add_assoc];exact c1,by rw[Nat.add_assoc];exact c2,by rw[Nat.add_assoc];exact c3,by rw[Nat.add_assoc];exact c4,by rw[Nat.add_assoc];exact c5⟩
  ·intro o ho;obtain⟨i,hi,rfl⟩:=List.mem_map.1 ho;exact(hq i (List.mem_range.1 hi)).2.1
  ·have h1:=gN 7 ((List.range len).map D) (fun y hy=>by
    obtain⟨i,hi,rfl⟩:=List.mem_map.1 hy
    exact(hq i (List.mem_range.1 hi)).2.2)
   have h2:Rows.uptoBulkAll ((List.range len).map D)≤Rows.uptoBulk d:=by
    rw[hx];simp only[Rows.uptoBulk];omega
   simp only[List.length_map,List.length_range]at h1 ⊢;omega
end
end Go.Proofs.YtkncboinfcnklaaGreatDoor.lwin
