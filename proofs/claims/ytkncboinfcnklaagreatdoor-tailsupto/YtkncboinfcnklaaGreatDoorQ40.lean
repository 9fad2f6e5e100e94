import Derived.Test.YtkncboinfcnklaaGreatDoorQ39
import Derived.Test.YtkncboinfcnklaaGreatDoorQ35
import Derived.Test.YtkncboinfcnklaaGreatDoorQ34
set_option maxRecDepth 100000
set_option maxHeartbeats 8000000
namespace Go.Proofs.YtkncboinfcnklaaGreatDoor.Lw
open Go.RowKit Go.Deep Go.Shelf Go.Proofs.YtkncboinfcnklaaGreatDoor.Mth Go.Proofs.YtkncboinfcnklaaGreatDoor.Rl Go.Proofs.YtkncboinfcnklaaGreatDoor.Kp
theorem Inv.lens {L:Lg}{all:List Ent}(h:Inv L all) (hM:all.length≤400000):(∀i,i<6→∀j,j<(L.lev i).length→0<((L.lev i).getD j []).length∧((L.lev i).getD j []).length≤1048576)∧∀i,i<6→(L.lev i).length≤500000:=by
 refine⟨fun i hi j hj=>?_,fun i hi=>by have:=h.lev i hi;omega⟩
 have hm:(L.lev i).getD j []∈L.lev i:=by rw[←List.getElem_eq_getD (h:=hj)];exact List.getElem_mem hj
 have hs:=yG hi hm;have h1:=h.ne _ hs;have h2:=(h.segSub hs).length_le;exact⟨List.length_pos_iff.2 h1,by omega⟩
theorem kS {P:Lg→List Tl→Prop}{Z:Nat→Prop}{M:Nat}{W:World}{x:Ho}(hx:HoAt P Z W M x) (hM:M≤400000) (A Bv Cv:Int) (S T:ByteArray) :
  Calls Tryz.prog 133 #[zr x.lb,oV ⟨16,A,Bv,Cv,S,T⟩] W fun e w3=>∃rb vs,e=.returned (.agg (wO (yS x.L.wks:Int) 0 (.slice none 0 0) (.slice (some ⟨rb,0,none⟩) 6 6)))∧Below W.heap.size W w3∧RwA W.heap.size w3 rb x.L.lev vs:=by
 have hbd:=hx.bud;obtain⟨l1,l2⟩:=Inv.lens hx.inv (by omega);refine(Zv A Bv Cv S T (yS x.L.wks:Int) (fun v w3=>∃rb vs,v=.slice (some ⟨rb,0,none⟩) 6 6∧Below W.heap.size W w3∧RwA W.heap.size w3 rb x.L.lev vs) (fun W2 hb=>eR (hx.log.below hb).x) (fun W2 hb=>?_)).mono ?_
 ·refine(mo (hx.log.below hb).x l1 l2).mono ?_;rintro e w' ⟨rb,vs,rfl,hD⟩;have hb2:=hD.lv.bel;refine⟨_,rfl,⟨_,_,_,rfl⟩,hb2,fun w3 ht3=>⟨rb,vs,rfl,zP (hb.trans (hb2.mono hb.size)) ht3 (fun k q=>q.1) (Nat.le_trans hb.size hb2.size),?_⟩⟩;have h1:RwA W2.heap.size w' rb x.L.lev vs:=⟨hD.lv.ge,hD.lv.blk,fun k hk=>hD.lv.row k hk,fun a b ha hb' hne=>hD.dis a b ha hb' hne⟩;exact(h1.same (fun g h1 h2=>ht3.block g h2 (fun q=>by omega))).base hb.size
 ·rintro e w3 ⟨v,rfl,_,rb,vs,rfl,h1,h2⟩;exact⟨rb,vs,rfl,h1,h2⟩
theorem mQ {Z:Nat→Prop}{B:Nat}{W:World}{cb:Nat}{V:Rv}{L:Lg}{all:List Ent}{ts:List Tl}(hb:W.heap[cb]? = some (Obj.cells (zR V L) 234 (0,0))) (h:RfV Z B W V L all ts) (hI:Inv L all) (hM:all.length≤400000) (hw4:L.wks.length≤4) (hwl:∀q,q<L.wks.length→(L.wks.getD q zo).list.length≤1000) (A Bv Cv:Int) (S T:ByteArray) :
  Calls Tryz.prog 134 #[zr cb,oV ⟨16,A,Bv,Cv,S,T⟩] W fun e w3=>∃v us,e=.returned (.agg (wO (yS L.wks:Int) 0 (.slice none 0 0) v))∧vv v∧Below W.heap.size W w3∧w3.ownsRow W.heap.size 75 1 v 6 ((List.range 6).map us)∧∀k,k<6→w3.ownsRow W.heap.size 142 3 (us k) (L.lev k).length ((L.lev k).flatMap ud):=by
 obtain⟨l1,l2⟩:=Inv.lens hI hM;refine(bM A Bv Cv S T (yS L.wks:Int) (fun v w3=>∃us,Below W.heap.size W w3∧w3.ownsRow W.heap.size 75 1 v 6 ((List.range 6).map us)∧∀k,k<6→w3.ownsRow W.heap.size 142 3 (us k) (L.lev k).length ((L.lev k).flatMap ud)) (fun W2 hb2=>?_) (fun W2 hb2=>?_)).mono ?_
 ·have h2:=h.below hb2;refine(ie ((hb2.block cb (Mth.gI hb)).trans hb) h2.wks h2.lst hw4 hwl).mono ?_;rintro e w' ⟨rfl,rfl⟩;exact⟨rfl,Below.refl _ _⟩
 ·refine(nF ((hb2.block cb (Mth.gI hb)).trans hb) (h.below hb2) l1 l2).mono ?_;rintro e w' ⟨v,us,rfl,hs⟩;have hb3:=hs.bel;refine⟨v,rfl,yJ hs.row,hb3,fun w3 ht3=>⟨us,zP (hb2.trans (hb3.mono hb2.size)) ht3 (fun k q=>q.1) (Nat.le_trans hb2.size hb3.size),?_,fun k hk=>?_⟩⟩
  ·exact zW (zn hs.row (fun g hg=>ht3.block g (zw hs.row hg).2.1 (fun q=>by have:=(zw hs.row hg).1;omega))) hb2.size
  ·exact zW (zn (hs.one k hk) (fun g hg=>ht3.block g (zw (hs.one k hk) hg).2.1 (fun q=>by have:=(zw (hs.one k hk) hg).1;omega))) hb2.size
 ·rintro e w3 ⟨v,rfl,hv,us,h1,h2,h3⟩;exact⟨v,us,rfl,hv,h1,h2,h3⟩
theorem gp {P:Lg→List Tl→Prop}{Z:Nat→Prop}{w:World}{B wb:Nat}{g0 g1 g2 g3 hv ke ks kr:Value}{Ne Ns Nr M:Nat}{hs:List Ho}{i:Nat}(h:HI P Z w B wb g0 g1 g2 g3 hv ke ks kr Ne Ns Nr M hs none) (hi:i<hs.length) (hBw:B≤w.heap.size) (A Bv Cv:Int) (S T:ByteArray) (hM:M+2≤400000) (hPt:∀L ts,P L ts→ts.length≤1000) :
  Calls Tryz.prog 69 #[zr wb,zr (hs.getD i h0).hb,oV ⟨16,A,Bv,Cv,S,T⟩] w fun e w'=>e=.returned (.bool true)∧HS P Z w w' B wb g0 g1 g2 g3 (M+2):=by
 obtain⟨W0,hW0⟩:∃W0,W0=w.alloc (Obj.cells #[.int .i64 16, .int .i64 A, .int .i64 Bv, .int .i64 Cv, .string S, .string T] 94):=⟨_,rfl⟩
 have b0:Below w.heap.size w W0:=by rw[hW0];exact zv _ _
 have s0:W0.heap.size=w.heap.size+1:=by rw[hW0];simp
 have k0:W0.heap[w.heap.size]? = some (Obj.cells #[.int .i64 16, .int .i64 A, .int .i64 Bv, .int .i64 Cv, .string S, .string T] 94 (0,0)):=by rw[hW0];exact zj _ _ _
 have hbm:Mu wb hv ke ks kr (hs.map Ho.hb) (hs.getD i h0).hb:=Or.inr (Or.inr (Or.inr (Or.inr (Or.inr (xQ hi)))));have hbl:=h.mlt hbm;have hob0:=(h.below b0).hob i hi;have hmb:=h.mb
 have hne:(hs.getD i h0).hb≠wb:=fun e=>by
  have h1:=h.hob i hi;rw[e]at h1;exact absurd (zc h1 h.blk) (by decide)
 refine tY ⟨16,A,Bv,Cv,S,T⟩ (fun w'=>HS P Z w w' B wb g0 g1 g2 g3 (M+2)) hW0 rfl hbl hne (zy (j:=0) hob0 rfl).1 (fun W hW _=>?_);have bW:Below w.heap.size w W:=b0.trans (hW.mono b0.size);have vu:=hW.size;obtain⟨hpW,hxW⟩:=(h.below bW).punch hi;have hbd:=hxW.bud;refine(kS hxW (by omega) A Bv Cv S T).mono ?_;rintro e w2 ⟨rb,vs,rfl,b2,o2⟩;have hs2:=b2.size;refine⟨_,_,_,_,rfl,⟨_,_,_,rfl⟩,⟨_,_,_,rfl⟩,fun g _ hg=>b2.block g hg,hs2,(b2.block _ (by omega)).trans (hW.block _ (by omega)),(b2.block _ (by omega)).trans (hW.block _ (by omega)),?_⟩;intro w2' tb htc htl htb;have b2':Below W0.heap.size W0 w2':=zP (hW.trans (b2.mono vu)) htc (fun k q=>q.1) (by omega);have bw2:Below w.heap.size w w2':=b0.trans (b2'.mono b0.size);have hs2':=htc.size;have o2':RwA W.heap.size w2' rb (hs.getD i h0).L.lev vs:=o2.same (fun g h1 h2=>htc.block g h2 (fun q=>by omega));obtain⟨hp,hx⟩:=(h.below bw2).punch hi;obtain⟨l1,l2⟩:=Inv.lens hx.inv (by omega);have hob2:=hp.hob i hi;have k2:=(b2'.block _ (by omega)).trans k0;have hw4:=hx.log.x.k.few
 have hwl:∀q,q<(hs.getD i h0).L.wks.length→((hs.getD i h0).L.wks.getD q zo).list.length≤900:=fun q hq=>by have:=xz (hx.log.x.k.ok q hq);omega
 obtain⟨mb,mc,C,hq⟩:=gW (wb:=wb) (FQ:=fun w'=>HS P Z w w' B wb g0 g1 g2 g3 (M+2)) (L':=(hs.getD i h0).L) (al:=(hs.getD i h0).all) (ts':=(hs.getD i h0).ts) (o:=⟨16,A,Bv,Cv,S,T⟩) htl ⟨⟨_,_,_,rfl⟩,⟨_,_,_,rfl⟩⟩ (zy (j:=9) hob2 rfl) k2 hx.may hx.ref (fun g hg=>(hp.zm g hg).1) hx.inv (by omega) hw4.2 hwl (hPt _ _ hx.tl) (fun W1 cb V' hbW hcb hr hd hc=>by
  refine(mQ hcb hr hx.inv (by omega) hw4.2 (fun q hq=>by have:=hwl q hq;omega) A Bv Cv S T).mono ?_;rintro e W' ⟨v,us,rfl,hv',b3,o3,o4⟩
  have hnil:∀W6:World,RdE W6 (.slice none 0 0) []:=fun W6=>vS (B:=0) (World.ownsRow_nil _ _ _ _)
  refine⟨_,v,rfl,⟨_,_,_,rfl⟩,hv',fun W6 h6=>xN (hnil W6) (hnil W6),fun W6 h6=>?_,b3.mono hbW.size,V',(b3.block cb (Mth.gI hcb)).trans hcb,hr.below b3⟩;have b6:Below w2'.heap.size w2' W6:=hbW.trans ((b3.mono hbW.size).trans (h6.mono (Nat.le_trans hbW.size b3.size)));have o6:=o2'.same (fun g _ h2=>b6.block g h2)
  exact ip o6.blk o6.row (zq o3 h6) (fun k hk=>zq (o4 k hk) h6)) (fun mv W10 hr=>by
  obtain⟨V2,hr⟩:=hr;have hf:=uR hp hi hr hx.log hx.inv hx.left hx.db ⟨by omega,by omega,by omega⟩ hx.tl;have bd:=zE (W10.setCell ⟨(hs.getD i h0).hb,9,none⟩ mv);have hf2:=hf.below bd;have em:=xi (x:={ (hs.getD i h0)with mv:=mv,V:=V2 }) hi rfl;have hsl:(hs.set i { (hs.getD i h0)with mv:=mv,V:=V2 }).length=hs.length:=List.length_set;have hr10:=hr.bel.size
  have hs10:W10.heap.size=(W10.setCell ⟨(hs.getD i h0).hb,9,none⟩ mv).drew.heap.size:=by show _=(W10.setCell _ _).heap.size;simp
  have hblk:∀g,w.heap.size≤g→g<w2'.heap.size→(W10.setCell ⟨(hs.getD i h0).hb,9,none⟩ mv).drew.heap[g]? = w2'.heap[g]? := fun g h1 h2=>by
   have e1:(W10.setCell ⟨(hs.getD i h0).hb,9,none⟩ mv).heap[g]? = W10.heap[g]? := zt (fun e=>by omega);exact e1.trans (hr.bel.block g h2)
  have o10:RwA W.heap.size (W10.setCell ⟨(hs.getD i h0).hb,9,none⟩ mv).drew rb (hs.getD i h0).L.lev vs:=o2'.same (fun g h1 h2=>hblk g (by have:=bW.size;omega) h2);have htl2:=(Mth.gI htl);have hbw2:=bw2.size
  have hroles:∀g,w.heap.size≤g→∀j,j<(hs.set i { (hs.getD i h0)with mv:=mv,V:=V2 }).length→((hs.set i { (hs.getD i h0)with mv:=mv,V:=V2 }).getD j h0).ρ g=0:=fun g hg j hj=>by
   rw[hsl]at hj
   have hr0:(hs.getD j h0).ρ g=0:=by
    by_cases q:(hs.getD j h0).ρ g=0
    ·exact q
    ·have:=(h.lt j hj g q).1;omega
   rw[zU hi];by_cases e:j=i
   ·subst e;rw[if_pos rfl];exact hr0
   ·rw[if_neg e];exact hr0
  have hmuw:∀g,Mu wb hv ke ks kr ((hs.set i { (hs.getD i h0)with mv:=mv,V:=V2 }).map Ho.hb) g→g<w.heap.size:=fun g hg=>by rw[em]at hg;exact h.mlt hg
  obtain⟨W11,hW11⟩:∃W11,W11=(W10.setCell ⟨(hs.getD i h0).hb,9,none⟩ mv).drew:=⟨_,rfl⟩
  have b11:Below B w W11:=by
   rw[hW11];exact(bw2.mono hBw).trans (Rl.zZ (hr.bel.mono (Nat.le_trans hBw bw2.size)) (h.hge i hi).2 |>.trans (bd.mono (by simp;omega)))
  have z11:∀g,Z g→W11.heap[g]? = w.heap[g]? := fun g hg=>by
   rw[hW11];have e1:(W10.setCell ⟨(hs.getD i h0).hb,9,none⟩ mv).heap[g]? = W10.heap[g]? := zt (fun e=>(h.zm g hg).2.1 (by rw[e];exact hbm));exact e1.trans ((hr.bel.block g (Nat.lt_of_lt_of_le (h.zm g hg).1 bw2.size)).trans (bw2.block g (h.zm g hg).1))
  rw[←hW11]at hf2 hblk o10 hs10;rw[←hW11];clear hW11
  have hsz11:w2'.heap.size≤W11.heap.size:=by omega
  refine(lF (B0:=w.heap.size) hf2 (World.ownsRow_nil _ _ _ _) (by omega) (by omega) (by omega) hBw hmuw (fun g hg=>by cases hg)).mono ?_;rintro e W12 ⟨rfl,Z2,ke2,c1,c2,c3,c4,c5,c6⟩;have hsz12:=c3.size
  have hfr12:∀g,w.heap.size≤g→g<W11.heap.size→W12.heap[g]? = W11.heap[g]? := fun g h1 h2=>c4 g h2 (by simp[Value.ownBlock]) (fun q=>by have:=hmuw g q;omega)
  refine⟨rfl,(hfr12 tb (by omega) (by omega)).trans ((hblk tb (by omega) htl2).trans htl),?_⟩;have bd12:=zE W12;have o12:RwA W.heap.size W12.drew rb (hs.getD i h0).L.lev vs:=(o10.same (fun g h1 h2=>hfr12 g (by have:=bW.size;omega) h2)).same (fun g _ h2=>bd12.block g h2)
  have hrwb:∀g,(g=rb∨∃k,k<6∧some g=(vs k).ownBlock)→W.heap.size≤g∧g<w2'.heap.size:=fun g hg=>by
   rcases hg with rfl|⟨k,hk,hg⟩
   ·exact⟨o2'.ge,(Mth.gI o2'.blk)⟩
   ·exact⟨(zw (o2'.row k hk) hg).1,(zw (o2'.row k hk) hg).2.1⟩
  have hBW:=bW.size
  have hnm:∀g,(g=rb∨∃k,k<6∧some g=(vs k).ownBlock)→¬Mu wb hv ke2 ks kr ((hs.set i { (hs.getD i h0)with mv:=mv,V:=V2 }).map Ho.hb) g:=fun g hg hm=>by
   have h1:=hrwb g hg
   rcases c5 g hm with q|q
   ·have:=hmuw g q;omega
   ·omega
  refine(lG (B0:=w.heap.size) (c2.below bd12) (o12.base hBW) (fun k hk=>l2 k hk) (by omega) (by omega) (by omega) (by show w.heap.size≤W12.heap.size;omega) hBw (h.mlt (Or.inl rfl)) (fun g hg=>h.mlt (Or.inr (Or.inr (Or.inr (Or.inr (Or.inl hg)))))) hnm (fun g hg=>⟨fun hz=>?_,hroles g (by have:=hrwb g hg;omega)⟩)).mono ?_
  ·have h1:=hrwb g hg
   rcases c6 g hz with q|q|q
   ·rcases q with q|q
    ·have:=(h.zm g q).1;omega
    ·omega
   ·cases q
   ·omega
  ·rintro e W13 ⟨rfl,h3⟩;refine⟨rfl,h3.pre (b11.trans (c3.trans (bd12.mono (by omega)))) (fun g hg=>c1 g (Or.inl hg)) (fun g hg=>?_)⟩;have hzl:=(h.zm g hg).1;have e1:W12.heap[g]? = W11.heap[g]? := c4 g (by omega) (by simp[Value.ownBlock]) (fun q=>by rw[em]at q;exact(h.zm g hg).2.1 q)
   exact e1.trans (z11 g hg))
 exact⟨mb,mc,C,_,hq⟩
end Go.Proofs.YtkncboinfcnklaaGreatDoor.Lw
namespace Go.Proofs.YtkncboinfcnklaaGreatDoor.Rl
open Go.RowKit Go.Deep Go.Shelf Go.Proofs.YtkncboinfcnklaaGreatDoor.Mth
theorem pv (l:List Tl):(l.flatMap xg).length=l.length*3:=by
 induction l with
 | nil=>rfl
 | cons e l ih=>rw[List.flatMap_cons,List.length_append,ih];simp[xg];omega
theorem kF (l:List Tl):∀u∈l.flatMap xg,u.oneCell'=true:=fun u hu=>by
 obtain⟨t,_,h⟩:=List.mem_flatMap.1 hu;unfold xg at h;simp at h
 rcases h with rfl|rfl|rfl <;> rfl
theorem qR {w:World}{B cb:Nat}{V:Rv}{L:Lg}{ts:List Tl}(hb:w.heap[cb]? = some (Obj.cells (zR V L) 234 (0,0))) (h:w.ownsRow B 341 3 V.tv ts.length (ts.flatMap xg)) (x:Int) :
  Calls Tryz.prog 253 #[zr cb, .int .i64 x] w fun e w'=>w'=w∧((e=.returned (.int .i64 (-1))∧∀j,j<ts.length→((ts.getD j yY).num:Int)≠x)∨∃i:Nat,i<ts.length∧e=.returned (.int .i64 (i:Int))∧((ts.getD i yY).num:Int)=x∧∀j,j<i→((ts.getD j yY).num:Int)≠x):=by
 have c16:=(zy (j:=16) (u:=V.tv) hb rfl).1;obtain⟨at_,ct,htv,hct,hctm⟩:=zu h;rw[htv]at c16 h;have HR:=zx h;unfold maxLen at hctm;clear hb h htv;generalize hnt:ts.length=nt at *;have HNT:=zx hnt;clear hnt
 go_enter Tryz.func253,Tryz.ntmps253
 go_wp2_with fail
 go_loopw [5] (fun i wr=>∃q:Nat,q≤nt∧i=.int .i64 q∧wr=w∧∀j,j<q→((ts.getD j yY).num:Int)≠x) (fun i _=>nt-(intOf i).toNat)
 case atStart=>exact⟨0,Nat.zero_le _,rfl,rfl,fun j hj=>absurd hj (Nat.not_lt_zero _)⟩
 case round=>
  obtain⟨q,hq,rfl,hwr,hno⟩:=hrel;rw[hwr];have HWR:=zx hwr;have HNO:=zx hno;clear hwr hno;by_cases hlt:q<nt
  ·obtain⟨g,rfl⟩:=zf HR.out (by omega);obtain⟨r0,_,_⟩:=qF (l:=ts) (j:=q) (by rw[HNT.out];exact hlt);have k0:=zg HR.out r0;clear r0;generalize hnum:((ts.getD q yY).num:Int)=num at *;have HNUM:=zx hnum;clear hnum;by_cases he:num=x
   ·have HE:=zx he
    have he2:(num == x)=true:=by simp[he]
    clear he;go_wp2_with fail;go_ret;exact⟨rfl,Or.inr ⟨q,hlt,rfl,HNUM.out.trans HE.out,HNO.out⟩⟩
   ·have HE:=zx he
    have he2:(num == x)=false:=by simp[he]
    clear he;go_wp2_with fail
    go_roundw
    case rel=>exact⟨q+1,by omega,by go_num,trivial,fun j hj=>by
     by_cases e:j=q
     ·subst e;rw[HNUM.out];exact HE.out
     ·exact HNO.out j (by omega)⟩
    case measure=>simp[intOf];omega
  ·obtain rfl:nt=q:=by omega
   go_wp2_with fail;go_ret;exact⟨rfl,Or.inl ⟨rfl,HNO.out⟩⟩
theorem RfV.tls1 {Z:Nat→Prop}{B cb:Nat}{w w':World}{V:Rv}{L L':Lg}{all:List Ent}{ts ts':List Tl}(hb:w.heap[cb]? = some (Obj.cells (zR V L) 234 (0,0))) (h:RfV Z B w V L all ts) (ht:Tch (fun g=>g=cb∨some g=V.tv.ownBlock) w w'){tv:Value}(hrow:w'.ownsRow B 341 3 tv ts'.length (ts'.flatMap xg)) (e1:L'.mem=L.mem) (e2:L'.lev=L.lev) (e3:L'.wks=L.wks):RfV Z B w' { V with tv:=tv } L' all ts':=by
 have kp:∀ {B':Nat}{e:TypeId}{sz:Nat}{u:Value}{m:Nat}{xs:List Value},w.ownsRow B' e sz u m xs→e≠234→e≠341→w'.ownsRow B' e sz u m xs:=fun ho h1 h2=>xK ho ht (fun g hg q=>by
  rcases q with q|q
  ·exact xM ho hb (Ne.symm h1) (by rw[←q];exact hg)
  ·exact yr ho h.tls h2 g hg q)
 refine⟨kp h.all (by decide) (by decide),by rw[e1];exact kp h.mem (by decide) (by decide),by rw[e2];exact fun i hi=>kp (h.lev i hi) (by decide) (by decide),by rw[e2];exact fun i hi j hj=>kp (h.seg i hi j hj) (by decide) (by decide),by rw[e2];exact h.sz,by rw[e3];exact kp h.wks (by decide) (by decide),by rw[e3];exact fun q hq=>kp (h.lst q hq) (by decide) (by decide),by rw[e3];exact h.run,hrow⟩
theorem i8 {w:World}{cb:Nat}(x:ByteArray) (hx:x.size≤1099511627776) (hw:yB x=false):Calls Tryz.prog 209 #[zr cb, .string x] w fun e w'=>e=.returned (.tuple #[.int .i64 0, .int .i64 6])∧w'=w:=by
 have CW:=zx (xU x w hx);rw[hw]at CW
 go_enter Tryz.func209,Tryz.ntmps209
 go_wp2_with (first|(go_at_call 248;refine CW.out.mono ?_;rintro e W ⟨rfl,hW⟩;rw[hW];clear hW W));go_ret2;exact⟨rfl,rfl⟩
theorem i7 {w:World}{B cb:Nat}{V:Rv}{L:Lg}{ts:List Tl}(hb:w.heap[cb]? = some (Obj.cells (zR V L) 234 (0,0))) (h:w.ownsRow B 341 3 V.tv ts.length (ts.flatMap xg)) (x:ByteArray) (hx:x.size≤1099511627776) (hw:yB x=true) (hn:4≤ts.length):Calls Tryz.prog 209 #[zr cb, .string x] w fun e w'=>e=.returned (.tuple #[.int .i64 0, .int .i64 7])∧w'=w:=by
 have CW:=zx (xU x w hx);rw[hw]at CW;have c16:=(zy (j:=16) (u:=V.tv) hb rfl).1;obtain⟨at_,ct,htv,hct,hctm⟩:=zu h;rw[htv]at c16;clear hb h htv hctm;generalize ts.length=nt at *
 have hn2:(4:Int)≤(nt:Int):=by omega
 go_enter Tryz.func209,Tryz.ntmps209
 go_wp2_with (first|(go_at_call 248;refine CW.out.mono ?_;rintro e W ⟨rfl,hW⟩;rw[hW];clear hW W));go_ret2;exact⟨rfl,rfl⟩
theorem fD {Z:Nat→Prop}{w:World}{B cb:Nat}{V:Rv}{L:Lg}{all:List Ent}{ts:List Tl}(hb:w.heap[cb]? = some (Obj.cells (zR V L) 234 (0,0))) (h:RfV Z B w V L all ts) (hB:B≤w.heap.size) (hcbB:B≤cb) (x:ByteArray) (hx:x.size≤1099511627776) (hw:yB x=true) (hn:ts.length<4) (hs:L.subs≤1000000000){L':Lg}(hL:L'={ L with tls:=L'.tls,tn:=L'.tn,subs:=L.subs+1 }) :
  Calls Tryz.prog 209 #[zr cb, .string x] w fun e w'=>e=.returned (.tuple #[.int .i64 (L.subs:Int), .int .i64 0])∧Below B w w'∧TyF w w'∧∃V',w'.heap[cb]? = some (Obj.cells (zR V' L') 234 (0,0))∧RfV Z B w' V' L' all (ts++[⟨L.subs,x,all.length⟩]):=by
 obtain⟨tsN,htsN⟩:∃tsN,tsN=ts++[(⟨L.subs,x,all.length⟩:Tl)]:=⟨_,rfl⟩;rw[←htsN];obtain⟨u0,hu0,hv0,hv1,hv2⟩:=info_parts Tryz.infoTail;have CW:=zx (xU x w hx);rw[hw]at CW;have hcb:cb<w.heap.size:=(Mth.gI hb);have c16:=(zy (j:=16) (u:=V.tv) hb rfl).1;have c17:=(zy (j:=17) (u:=.int .i64 (L.subs:Int)) hb rfl).1;have c7:=(zy (j:=7) (u:=V.av) hb rfl).1;obtain⟨aa,ca,hav,hca,hcam⟩:=zu h.all;obtain⟨at_,ct,htv,hct,hctm⟩:=zu h.tls;have htl:=h.tls;rw[hav]at c7;rw[htv]at c16 htl;have HTL:=zx htl;obtain⟨sb,hsb⟩:∃sb,sb=L.subs:=⟨_,rfl⟩;rw[←hsb]at c17 hs
 have FN:Hid (∀W5 v5,(w.alloc (Obj.cells #[.int .i64 (sb:Int), .string x, .int .i64 (all.length:Int)] 341)).grownBy W5 (Value.slice at_ ts.length ct).ownBlock→W5.ownsRow B 341 3 v5 (ts.length+1) (ts.flatMap xg++[.int .i64 (sb:Int), .string x, .int .i64 (all.length:Int)])→(∃u,W5.cell? ⟨cb,16,none⟩=some u∧W5.frozen? ⟨cb,16,none⟩=false)∧((W5.setCell ⟨cb,16,none⟩ v5).cell? ⟨cb,17,none⟩=some (.int .i64 (sb:Int))∧(W5.setCell ⟨cb,16,none⟩ v5).frozen? ⟨cb,17,none⟩=false)∧∀W7,W7=(W5.setCell ⟨cb,16,none⟩ v5).setCell ⟨cb,17,none⟩ (.int .i64 ((sb:Int)+1))→W7.cell? ⟨cb,17,none⟩=some (.int .i64 ((sb:Int)+1))∧Below B w W7∧TyF w W7∧∃V',W7.heap[cb]? = some (Obj.cells (zR V' L') 234 (0,0))∧RfV Z B W7 V' L' all tsN):=by
  intro W5 v5 g5 o5;rw[←htv]at g5;have t5:=xG g5;have e5:=(t5.block cb hcb (xM h.tls hb (by decide))).trans hb;obtain⟨x16,y16⟩:=zy (j:=16) (u:=V.tv) e5 rfl;have e6:=zh (j:=16) (v:=v5) e5;obtain⟨x17,y17⟩:=zy (j:=17) (u:=.int .i64 (L.subs:Int)) e6 rfl;refine⟨⟨_,x16,y16⟩,⟨by rw[hsb];exact x17,y17⟩,fun W7 hW7=>?_⟩;have e7:=zh (j:=17) (v:=.int .i64 ((sb:Int)+1)) e6;rw[←hW7]at e7
  have ht7:Tch (fun g=>g=cb∨some g=V.tv.ownBlock) w W7:=by
   rw[hW7]
   exact⟨t5.os,t5.tape,t5.output,by simpa using t5.size,fun k hk hne=>by
    rw[zt (fun e=>hne (Or.inl e)),zt (fun e=>hne (Or.inl e))]
    exact t5.block k hk (fun e=>hne (Or.inr e))⟩
  have o7:W7.ownsRow B 341 3 v5 tsN.length (tsN.flatMap xg):=by
   rw[hW7,htsN];have:=zl (o:=17) (y:=.int .i64 ((sb:Int)+1)) (zl (o:=16) (y:=v5) o5 e5 (by decide)) e6 (by decide);rw[List.length_append,List.flatMap_append,←hsb]
   simpa [xg] using this
  refine⟨(zy (j:=17) (u:=.int .i64 ((sb:Int)+1)) e7 rfl).1,zK ht7 (fun k q=>?_) hB,TyF.tch ht7 (fun k q=>?_),{ V with tv:=v5 },?_,RfV.tls1 hb h ht7 o7 (by rw[hL]) (by rw[hL]) (by rw[hL])⟩
  ·rcases q with q|q
   ·rw[q];exact hcbB
   ·exact(zw h.tls q).1
  ·rcases q with q|q
   ·rw[q];exact⟨_,_,hb,by decide,by decide⟩
   ·exact uW h.tls (by decide) (by decide) q
  ·rw[e7,hL,hsb];rfl
 have hwrp:IntKind.i64.wrap ((sb:Int)+1)=(sb:Int)+1:=by rw[IntKind.wrap_i64];omega
 have hwrm:IntKind.i64.wrap ((sb:Int)+1-1)=(sb:Int):=by rw[IntKind.wrap_i64];omega
 unfold maxLen at hcam hctm;have b3:=zv w (Obj.cells #[.int .i64 (sb:Int), .string x, .int .i64 (all.length:Int)] 341);have c16':=(b3.cell (p:=⟨cb,16,none⟩) (World.block_lt_of_cell? _ _ c16)).trans c16;have c17':=(b3.cell (p:=⟨cb,17,none⟩) (World.block_lt_of_cell? _ _ c17)).trans c17;have c7':=(b3.cell (p:=⟨cb,7,none⟩) (World.block_lt_of_cell? _ _ c7)).trans c7;clear b3 hb h htl hav htv hL htsN;rw[←hsb];clear hsb;generalize ts.flatMap xg=xt at *;generalize ts.length=nt at *;generalize all.length=na at *
 have hn2:¬(4:Int)≤(nt:Int):=by omega
 go_enter Tryz.func209,Tryz.ntmps209
 go_upto_region 6 with(first|(go_at_call 248;refine CW.out.mono ?_;rintro e W ⟨rfl,hW⟩;rw[hW];clear hW W))
 go_region_law (refine zQ _ rfl _ _ 231 rfl B 341 u0 (.agg #[.int .i64 0, .string ⟨#[]⟩, .int .i64 0]) 3 32 Tryz.underlying231 hu0 hv0 hv1 hv2 rfl (by decide) _ _ _ rfl (by exact HTL.out.alloc _) ⟨w.heap.size,0,none⟩ 1 1 [.int .i64 (sb:Int), .string x, .int .i64 (na:Int)] rfl rfl (by exact zM w.drew _ _ _ rfl) (by intro u hu;simp at hu;rcases hu with rfl|rfl|rfl <;> rfl) (by unfold maxLen;omega) (by omega) (by simp;omega) ?_;intro v5 W5 o5 g5 n5;have g6:(w.alloc (Obj.cells #[.int .i64 (sb:Int), .string x, .int .i64 (na:Int)] 341)).grownBy W5 (Value.slice at_ nt ct).ownBlock:=⟨g5.os,g5.tape,g5.output,g5.size,g5.block⟩;obtain⟨⟨u9,x16,y16⟩,⟨x17,y17⟩,hf7⟩:=FN.out W5 v5 g6 o5;have HF7:=zx hf7;obtain⟨a5,c5,rfl,_,_⟩:=zu o5;clear o5 g5 g6 n5 hf7)
 all_goals (
  obtain⟨z17,hfin⟩:=HF7.out _ rfl;have HFIN:=zx hfin;clear hfin;go_wp2_with fail;go_ret2
  exact⟨rfl,HFIN.out⟩)
theorem dF {w:World}{B g n c:Nat}{l:List Tl}(h:w.ownsRow B 341 3 (.slice (some ⟨g,0,none⟩) n c) n (l.flatMap xg)) (a:Nat):∀j u,((l.take a).flatMap xg)[j]? = some u→w.cell? ((⟨g,0,none⟩:Addr).add j)=some u:=fun j u hu=>by
 refine h.cells (g:=g) rfl j u ?_
 have hs:l.flatMap xg=(l.take a).flatMap xg++(l.drop a).flatMap xg:=by rw[←List.flatMap_append,List.take_append_drop]
 rw[hs,List.getElem?_append_left]
 ·exact hu
 ·exact(List.getElem?_eq_some_iff.1 hu).1
theorem dE {w:World}{B g n c k:Nat}{l:List Tl}(h:w.ownsRow B 341 3 (.slice (some ⟨g,0,none⟩) n c) n (l.flatMap xg)) (hk:k≤l.length){ad:Addr}(had:ad=⟨g,k*3,none⟩∨c=k):∀j u,((l.drop k).flatMap xg)[j]? = some u→w.cell? (ad.add j)=some u:=fun j u hu=>by
 refine sP (k:=k) h had j u ?_
 have hs:l.flatMap xg=(l.take k).flatMap xg++(l.drop k).flatMap xg:=by rw[←List.flatMap_append,List.take_append_drop]
 rw[hs,List.drop_left' (by rw[pv,List.length_take_of_le hk])];exact hu
theorem sB {Z:Nat→Prop}{w:World}{B cb:Nat}{V:Rv}{L:Lg}{all:List Ent}{ts:List Tl}(hb:w.heap[cb]? = some (Obj.cells (zR V L) 234 (0,0))) (h:RfV Z B w V L all ts) (hB:B≤w.heap.size) (hcbB:B≤cb) (x:Int) (hts:ts.length≤1000) :
  Calls Tryz.prog 211 #[zr cb, .int .i64 x] w fun e w'=>(e=.returned (.int .i64 8)∧w'=w∧∀j,j<ts.length→((ts.getD j yY).num:Int)≠x)∨∃i:Nat,i<ts.length∧((ts.getD i yY).num:Int)=x∧e=.returned (.int .i64 0)∧Below B w w'∧TyF w w'∧∀L':Lg,L'={ L with tls:=L'.tls,tn:=L'.tn }→∃V',w'.heap[cb]? = some (Obj.cells (zR V' L') 234 (0,0))∧RfV Z B w' V' L' all (ts.eraseIdx i):=by
 obtain⟨u0,hu0,hv0,hv1,hv2⟩:=info_parts Tryz.infoTail;have CF:=zx (qR hb h.tls x);have hcb:cb<w.heap.size:=(Mth.gI hb);obtain⟨at_,ct,htv,hct,hctm⟩:=zu h.tls;have htl:=h.tls;rw[htv]at htl;have HTL:=zx htl
 have F16:Hid (∀W,Below w.heap.size w W→W.cell? ⟨cb,16,none⟩=some (.slice at_ ts.length ct)∧W.frozen? ⟨cb,16,none⟩=false):=fun W hW=>by
  have:=zy (j:=16) (u:=V.tv) ((hW.block cb hcb).trans hb) rfl;rw[htv]at this;exact this
 have FN:Hid (∀i,i<ts.length→∀W4 v4,Below w.heap.size w W4→W4.ownsRow w.heap.size 341 3 v4 (i+(ts.length-(i+1))) ((ts.take i).flatMap xg++(ts.drop (i+1)).flatMap xg)→Below B w (W4.setCell ⟨cb,16,none⟩ v4)∧TyF w (W4.setCell ⟨cb,16,none⟩ v4)∧∀L':Lg,L'={ L with tls:=L'.tls,tn:=L'.tn }→∃V',(W4.setCell ⟨cb,16,none⟩ v4).heap[cb]? = some (Obj.cells (zR V' L') 234 (0,0))∧RfV Z B (W4.setCell ⟨cb,16,none⟩ v4) V' L' all (ts.eraseIdx i)):=by
  intro i hi W4 v4 b4 o4;have e4:=(b4.block cb hcb).trans hb;have e5:=zh (j:=16) (v:=v4) e4;have ht5:Tch (fun g=>g=cb) w (W4.setCell ⟨cb,16,none⟩ v4):=⟨b4.os,b4.tape,b4.output,by simpa using b4.size,fun k hk hne=>(zt hne).trans (b4.block k hk)⟩;have her:ts.eraseIdx i=ts.take i++ts.drop (i+1):=List.eraseIdx_eq_take_drop_succ _ _
  have o5:(W4.setCell ⟨cb,16,none⟩ v4).ownsRow B 341 3 v4 (ts.eraseIdx i).length ((ts.eraseIdx i).flatMap xg):=by
   rw[her,List.length_append,List.length_take_of_le (by omega),List.length_drop,List.flatMap_append];exact zW (zl o4 e4 (by decide)) hB
  refine⟨zK ht5 (fun k q=>by rw[q];exact hcbB) hB,TyF.tch ht5 (fun k q=>by rw[q];exact⟨_,_,hb,by decide,by decide⟩),fun L' hL=>⟨{ V with tv:=v4 },?_,RfV.tls1 hb h (ht5.mono (fun k _ q=>Or.inl q)) o5 (by rw[hL]) (by rw[hL]) (by rw[hL])⟩⟩;rw[e5,hL];rfl
 unfold maxLen at hctm
 have HTD:Hid (∀i,i<ts.length→((ts.take i).flatMap xg).length=i*3∧((ts.drop (i+1)).flatMap xg).length=(ts.length-(i+1))*3):=fun i hi=>⟨by rw[pv,List.length_take_of_le (by omega)],by rw[pv,List.length_drop]⟩
 have HOT:Hid (∀i,(∀u∈(ts.take i).flatMap xg,u.oneCell'=true)∧∀u∈(ts.drop (i+1)).flatMap xg,u.oneCell'=true):=fun i=>⟨kF _,kF _⟩
 have HTK:Hid (∀g,at_=some ⟨g,0,none⟩→∀i,∀j u,((ts.take i).flatMap xg)[j]? = some u→w.cell? ((⟨g,0,none⟩:Addr).add j)=some u):=fun g hg i=>by
  have:=HTL.out;rw[hg]at this;exact dF this i
 have HDR:Hid (∀g,at_=some ⟨g,0,none⟩→∀i,i<ts.length→∀W3,Below w.heap.size w W3→∀ad:Addr,(ad=⟨g,(i+1)*u0.size,none⟩∨ct=i+1)→∀j u,((ts.drop (i+1)).flatMap xg)[j]? = some u→W3.cell? (ad.add j)=some u):=fun g hg i hi W3 b3 ad had=>by
  have:=zq HTL.out b3;rw[hg]at this;rw[hv1]at had;exact dE this (by omega) had
 have HSM:Hid (0<ts.length→∃g,at_=some ⟨g,0,none⟩):=fun h0=>zf HTL.out h0
 clear hb h htl htv;generalize hnt:ts.length=nt at *;clear hnt
 go_enter Tryz.func211,Tryz.ntmps211
 go_upto_region 2 with(first|(go_at_call 253;refine CF.out.mono ?_;rintro e W ⟨hW,hfd⟩;rw[hW];clear hW;rcases hfd with⟨rfl,hno⟩|⟨i,hi,rfl,he,hno⟩))
 ·have HNO:=zx hno;clear hno;go_wp2_with fail;go_ret;exact Or.inl ⟨rfl,rfl,HNO.out⟩
 ·obtain⟨g,rfl⟩:=HSM.out (by omega);obtain⟨c16,f16⟩:=F16.out w (Below.refl _ _);have HE:=zx he;obtain⟨l1,l2⟩:=HTD.out i hi;obtain⟨n1,n2⟩:=HOT.out i;have HL1:=zx l1;have HL2:=zx l2;have HN1:=zx n1;have HN2:=zx n2;have HT:=zx (HTK.out g rfl i);have HD:=zx (HDR.out g rfl i hi);have HF:=zx (FN.out i hi);clear he hno l1 l2 n1 n2 FN HTK HDR HTD HOT;generalize (ts.take i).flatMap xg=xt at *;generalize (ts.drop (i+1)).flatMap xg=xd at *
  have hi0:¬(i:Int)<0:=by omega
  go_wp2_with (first
   | (at_builtin;refine wpList_append_own_at _ rfl (.tmp 12) (.tmp 18) 231 rfl w.heap.size 341 u0 (.agg #[.int .i64 0, .string ⟨#[]⟩, .int .i64 0]) 3 32 Tryz.underlying231 hu0 hv0 hv1 hv2 rfl (by decide) _ _ _ rfl (World.ownsRow_nil _ _ _ _) ⟨g,0,none⟩ i _ xt rfl HL1.out HT.out HN1.out (by unfold maxLen;omega) (by omega) (Nat.le_refl _) ?_;intro v3 W3 o3 g3 _ n3;rw[Nat.zero_add,List.nil_append]at o3;have HO3:=zx o3;have hb3:Below w.heap.size w W3:=zI g3;have HB3:=zx hb3;obtain⟨d16,e16⟩:=F16.out W3 hb3;obtain⟨a3,c3,rfl,_,_⟩:=zu o3;clear o3 g3 n3 hb3)
   | (refine xO rfl 231 (.tmp 24) (.tmp 26) rfl 341 Tryz.underlying231 hu0 g nt ct (i+1) rfl (by go_num) (by omega) ?_;intro ad had;have HAD:=zx had;clear had)
   | (at_builtin;refine wpList_append_own_at _ rfl (.tmp 20) (.tmp 27) 231 rfl w.heap.size 341 u0 (.agg #[.int .i64 0, .string ⟨#[]⟩, .int .i64 0]) 3 32 Tryz.underlying231 hu0 hv0 hv1 hv2 rfl (by decide) _ _ _ rfl HO3.out ad _ _ xd rfl HL2.out (HD.out _ HB3.out ad HAD.out) HN2.out (by unfold maxLen;omega) (by omega) HB3.out.size ?_;intro v4 W4 o4 g4 _ n4;have hb4:Below w.heap.size w W4:=yk HB3.out ⟨g4.os,g4.tape,g4.output,g4.size,fun k hk hne=>g4.block k hk hne⟩ HO3.out;obtain⟨p16,q16⟩:=F16.out W4 hb4;have HFIN:=zx (HF.out W4 v4 hb4 o4);obtain⟨a4,c4,rfl,_,_⟩:=zu o4;clear o4 g4 n4 hb4))
  go_ret;exact Or.inr ⟨i,hi,HE.out,rfl,HFIN.out⟩
end Go.Proofs.YtkncboinfcnklaaGreatDoor.Rl
