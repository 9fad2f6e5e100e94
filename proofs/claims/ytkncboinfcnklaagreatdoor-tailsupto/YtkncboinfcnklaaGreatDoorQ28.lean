import Derived.Test.YtkncboinfcnklaaGreatDoorQ27
import Derived.Test.YtkncboinfcnklaaGreatDoorQ20
import Derived.Test.YtkncboinfcnklaaGreatDoorQ21
import Derived.Test.YtkncboinfcnklaaGreatDoorQ24
import Derived.Test.YtkncboinfcnklaaGreatDoorQ25
import Derived.Test.YtkncboinfcnklaaGreatDoorQ19
import Derived.Test.YtkncboinfcnklaaGreatDoorQ9
set_option maxRecDepth 100000
set_option maxHeartbeats 8000000
namespace Go.Proofs.YtkncboinfcnklaaGreatDoor
open Go.RowKit Go.Deep Go.Proofs.YtkncboinfcnklaaGreatDoor.Mth
theorem wi {v:Value}{len n:Nat}{w:World}(h:RdM w 3 1 v len (fI n)) (hn:n≤4194304) :
  Calls Tryz.prog 71 #[v, .int .i64 n] w fun e w'=>e=.returned (.bool true)∧Below w.heap.size w w':=by
 obtain⟨a,c,rfl,hc,hm⟩:=xe h;unfold maxLen at hm;have HR:=zx h;clear h
 go_enter Tryz.func71,Tryz.ntmps71
 go_wp2_with fail
 go_loop [5] (fun i=>∃k:Nat,k≤len∧i=.int .i64 k) (fun i=>len-(intOf i).toNat)
 case atStart=>exact⟨0,Nat.zero_le _,rfl⟩
 case round=>
  obtain⟨k,hk,rfl⟩:=hrel;by_cases hlt:k<len
  ·obtain⟨g,rfl,_,hcl⟩:=tw HR.out (by omega);have d0:=hcl k (by omega);unfold fI at d0;clear hcl;go_wp2
   go_round
   case rel=>exact⟨k+1,by omega,by go_num⟩
   case measure=>simp[intOf];omega
  ·go_wp2;go_ret;exact⟨rfl,Below.refl _ _⟩
def fS (n:Nat) (j:Nat):Value:=if j % 3=0 then .int .i64 (-1000-(n:Int)) else .int .i64 0
theorem xY {v:Value}{len n:Nat}{w:World}(h:RdM w 142 3 v len (fS n)) (hn:n≤4194304) :
  Calls Tryz.prog 74 #[v, .int .i64 n] w fun e w'=>e=.returned (.bool true)∧Below w.heap.size w w':=by
 obtain⟨a,c,rfl,hc,hm⟩:=xe h;unfold maxLen at hm;have HR:=zx h;clear h
 go_enter Tryz.func74,Tryz.ntmps74
 go_wp2_with fail
 go_loop [5] (fun i=>∃k:Nat,k≤len∧i=.int .i64 k) (fun i=>len-(intOf i).toNat)
 case atStart=>exact⟨0,Nat.zero_le _,rfl⟩
 case round=>
  obtain⟨k,hk,rfl⟩:=hrel;by_cases hlt:k<len
  ·obtain⟨g,rfl,_,hcl⟩:=tw HR.out (by omega);have d0:=hcl (k*3) (by omega);have d1:=hcl (k*3+1) (by omega);have d2:=hcl (k*3+2) (by omega);unfold fS at d0 d1 d2;rw[if_pos (by omega)]at d0;rw[if_neg (by omega)]at d1;rw[if_neg (by omega)]at d2;clear hcl;go_wp2
   go_round
   case rel=>exact⟨k+1,by omega,by go_num⟩
   case measure=>simp[intOf];omega
  ·go_wp2;go_ret;exact⟨rfl,Below.refl _ _⟩
def sX (F:Nat→Nat→Value):Prop:=∀i j,∃a c,F i j=.slice a (i+1) c
theorem wj {v:Value}{len n:Nat}{w:World}{F:Nat→Nat→Value}(hF:sX F) (h:RdM w 75 1 v len (F n)) (hn:n≤4194304) :
  Calls Tryz.prog 75 #[v, .int .i64 n] w fun e w'=>e=.returned (.bool true)∧Below w.heap.size w w':=by
 obtain⟨a,c,rfl,hc,hm⟩:=xe h;unfold maxLen at hm;have HR:=zx h;have HF:=zx hF;clear h hF
 go_enter Tryz.func75,Tryz.ntmps75
 go_wp2_with fail
 go_loop [5] (fun i=>∃k:Nat,k≤len∧i=.int .i64 k) (fun i=>len-(intOf i).toNat)
 case atStart=>exact⟨0,Nat.zero_le _,rfl⟩
 case round=>
  obtain⟨k,hk,rfl⟩:=hrel;by_cases hlt:k<len
  ·obtain⟨g,rfl,_,hcl⟩:=tw HR.out (by omega);have d0:=hcl k (by omega);obtain⟨fa,fc,e⟩:=HF.out n k;rw[e]at d0;clear hcl e;go_wp2
   go_round
   case rel=>exact⟨k+1,by omega,by go_num⟩
   case measure=>simp[intOf];omega
  ·go_wp2;go_ret;exact⟨rfl,Below.refl _ _⟩
structure Bks (w:World) (B:Nat) (kb ki kt ke ks kr:Value) (Nb Ni Nt Ne Ns Nr:Nat):Prop where
 bb:Book w B 160 5 1 fB kb Nb
 bi:Book w B 163 3 1 fI ki Ni
 bt:Book w B 166 9 1 fT kt Nt
 be:Book w B 169 66 3 fE ke Ne
 bs:Book w B 172 142 3 fS ks Ns
 br:∃F,sX F∧Book w B 175 75 1 F kr Nr
theorem Book.nil (W:World) (B:Nat) (T e:TypeId) (sz:Nat) (F:Nat→Nat→Value):Book W B T e sz F (.slice none 0 0) 0:=⟨fun _=>⟨.slice none 0 0, .slice none 0 0, .slice none 0 0, .slice none 0 0⟩,World.ownsRow_nil _ _ _ _,fun _ hi=>absurd hi (Nat.not_lt_zero _)⟩
theorem pO (w:World) (B wb:Nat) (c0 c1 c2 c3 c4 c5 c6 c7 c8 kb ki kt ke ks kr:Value) (Nb Ni Nt Ne Ns Nr:Nat) (hblk:w.heap[wb]? = some (Obj.cells #[c0,c1,c2,c3,c4,c5,c6,c7,c8,kb,ki,kt,ke,ks,kr] 91 (0,0))) (h:Bks w B kb ki kt ke ks kr Nb Ni Nt Ne Ns Nr) (hNb:Nb≤4194304) (hNi:Ni≤4194304) (hNt:Nt≤4194304) (hNe:Ne≤4194304) (hNs:Ns≤4194304) (hNr:Nr≤4194304) :
  Calls Tryz.prog 30 #[.pointer (some ⟨wb,9,none⟩)] w fun e w'=>e=.returned (.bool true)∧Below w.heap.size w w':=by
 obtain⟨hbb,hbi,hbt,hbe,hbs,⟨FR,hFR,hbr⟩⟩:=h;have hwlt:wb<w.heap.size:=(Mth.gI hblk);have cw9:=(zy (j:=9) (u:=kb) hblk rfl).1;have cw10:=(zy (j:=10) (u:=ki) hblk rfl).1;have cw11:=(zy (j:=11) (u:=kt) hblk rfl).1;have cw12:=(zy (j:=12) (u:=ke) hblk rfl).1;have cw13:=(zy (j:=13) (u:=ks) hblk rfl).1;have cw14:=(zy (j:=14) (u:=kr) hblk rfl).1;obtain⟨ab,cb,rfl,hb1,hb2⟩:=wT hbb;obtain⟨ai,ci,rfl,hi1,hi2⟩:=wT hbi;obtain⟨at_,ct,rfl,ht1,ht2⟩:=wT hbt;obtain⟨ae,ce,rfl,he1,he2⟩:=wT hbe;obtain⟨as_,cs_,rfl,hs1,hs2⟩:=wT hbs;obtain⟨ar,cr_,rfl,hr1,hr2⟩:=wT hbr;unfold maxLen at hb2 hi2 ht2 he2 hs2 hr2;have BB:=zx hbb;have BI:=zx hbi;have BT:=zx hbt;have BE:=zx hbe;have BS:=zx hbs;have BR:=zx hbr;have HFR:=zx hFR;clear hbb hbi hbt hbe hbs hbr hblk hFR
 go_enter Tryz.func30,Tryz.ntmps30
 go_wp2_with fail
 go_loopw [3,4] (fun ok i wr=>∃k:Nat,k≤Nb∧i=.int .i64 k∧ok=.bool true∧Below w.heap.size w wr) (fun _ i _=>Nb-(intOf i).toNat)
 case atStart=>exact⟨0,Nat.zero_le _,rfl,rfl,Below.refl _ _⟩
 case round=>
  obtain⟨k,hk,rfl,rfl,hb⟩:=hrel;have HB:=zx hb;have hw9:=(hb.cell (p:=⟨wb,9,none⟩) hwlt).trans cw9;clear hb;by_cases hlt:k<Nb
  ·obtain⟨g,a0,n0,c0,a1,n1,c1,a2,n2,c2,a3,n3,c3,rfl,hgl,x0,x1,x2,x3,x4,⟨l0,r0⟩,⟨l1,r1⟩,⟨l2,r2⟩,⟨l3,r3⟩⟩:=vP (BB.out.below HB.out) k hlt;have R0:=zx r0;have R1:=zx r1;have R2:=zx r2;have R3:=zx r3;clear r0 r1 r2 r3
   have HX0:Hid ((wr.alloc (Obj.cells #[.slice a0 n0 c0, .slice a1 n1 c1, .slice a2 n2 c2, .slice a3 n3 c3, .int .i64 (k:Int)] 160)).heap[wr.heap.size]? = some (Obj.cells #[.slice a0 n0 c0, .slice a1 n1 c1, .slice a2 n2 c2, .slice a3 n3 c3, .int .i64 (k:Int)] 160 (0,0))):=by
    show(wr.heap.push _)[wr.heap.size]? = _;rw[Array.getElem?_push,if_pos rfl]
   have HA0:=zx (zi wr (Obj.cells #[.slice a0 n0 c0, .slice a1 n1 c1, .slice a2 n2 c2, .slice a3 n3 c3, .int .i64 (k:Int)] 160));go_wp2_with fail;generalize wr.alloc (Obj.cells #[.slice a0 n0 c0, .slice a1 n1 c1, .slice a2 n2 c2, .slice a3 n3 c3, .int .i64 (k:Int)] 160)=W0 at *;generalize hxb:wr.heap.size=xb at *;have HXB:=zx hxb;clear hxb x0 x1 x2 x3 x4 hw9;refine(xI (R0.out.below (by have:=HA0.out;rwa [←HXB.out]at this)) (by omega) (by omega)).mono ?_;rintro e W1 ⟨rfl,hb0⟩;have HX1:=zx ((hb0.block xb (Mth.gI HX0.out)).trans HX0.out);have HA1:=zx (HA0.out.trans (hb0.mono (by have:=HA0.out.size;have q:=HXB.out;omega)));clear hb0;obtain⟨y0,_⟩:=zy (j:=1) (u:=.slice a1 n1 c1) HX1.out rfl;obtain⟨z0,_⟩:=zy (j:=4) (u:=.int .i64 (k:Int)) HX1.out rfl;go_wp2_with fail;clear y0 z0;refine(xI (R1.out.below (by have:=HA1.out;rwa [←HXB.out]at this)) (by omega) (by omega)).mono ?_;rintro e W2 ⟨rfl,hb1⟩;have HX2:=zx ((hb1.block xb (Mth.gI HX1.out)).trans HX1.out);have HA2:=zx (HA1.out.trans (hb1.mono (by have:=HA1.out.size;have q:=HXB.out;omega)));clear hb1;obtain⟨y1,_⟩:=zy (j:=2) (u:=.slice a2 n2 c2) HX2.out rfl;obtain⟨z1,_⟩:=zy (j:=4) (u:=.int .i64 (k:Int)) HX2.out rfl;go_wp2_with fail;clear y1 z1;refine(xI (R2.out.below (by have:=HA2.out;rwa [←HXB.out]at this)) (by omega) (by omega)).mono ?_;rintro e W3 ⟨rfl,hb2⟩;have HX3:=zx ((hb2.block xb (Mth.gI HX2.out)).trans HX2.out);have HA3:=zx (HA2.out.trans (hb2.mono (by have:=HA2.out.size;have q:=HXB.out;omega)));clear hb2;obtain⟨y2,_⟩:=zy (j:=3) (u:=.slice a3 n3 c3) HX3.out rfl;obtain⟨z2,_⟩:=zy (j:=4) (u:=.int .i64 (k:Int)) HX3.out rfl;go_wp2_with fail;clear y2 z2;refine(xI (R3.out.below (by have:=HA3.out;rwa [←HXB.out]at this)) (by omega) (by omega)).mono ?_;rintro e W4 ⟨rfl,hb3⟩;have HX4:=zx ((hb3.block xb (Mth.gI HX3.out)).trans HX3.out);have HA4:=zx (HA3.out.trans (hb3.mono (by have:=HA3.out.size;have q:=HXB.out;omega)));clear hb3;go_wp2
   go_roundw
   case rel=>exact⟨k+1,by omega,by go_num,rfl,HB.out.trans ((by have:=HA4.out;rwa [←HXB.out]at this:Below wr.heap.size wr W4).mono HB.out.size)⟩
   case measure=>simp[intOf];omega
  ·have hke:k=Nb:=by omega
   subst hke;go_wp2_with fail
   go_loopw [3,6] (fun ok i wr=>∃k:Nat,k≤Ni∧i=.int .i64 k∧ok=.bool true∧Below w.heap.size w wr) (fun _ i _=>Ni-(intOf i).toNat)
   case atStart=>exact⟨0,Nat.zero_le _,rfl,rfl,HB.out⟩
   case round=>
    obtain⟨k,hk,rfl,rfl,hb⟩:=hrel;have HB:=zx hb;have hw10:=(hb.cell (p:=⟨wb,10,none⟩) hwlt).trans cw10;clear hb;by_cases hlt:k<Ni
    ·obtain⟨g,a0,n0,c0,a1,n1,c1,a2,n2,c2,a3,n3,c3,rfl,hgl,x0,x1,x2,x3,x4,⟨l0,r0⟩,⟨l1,r1⟩,⟨l2,r2⟩,⟨l3,r3⟩⟩:=vP (BI.out.below HB.out) k hlt;have R0:=zx r0;have R1:=zx r1;have R2:=zx r2;have R3:=zx r3;clear r0 r1 r2 r3
     have HX0:Hid ((wr.alloc (Obj.cells #[.slice a0 n0 c0, .slice a1 n1 c1, .slice a2 n2 c2, .slice a3 n3 c3, .int .i64 (k:Int)] 163)).heap[wr.heap.size]? = some (Obj.cells #[.slice a0 n0 c0, .slice a1 n1 c1, .slice a2 n2 c2, .slice a3 n3 c3, .int .i64 (k:Int)] 163 (0,0))):=by
      show(wr.heap.push _)[wr.heap.size]? = _;rw[Array.getElem?_push,if_pos rfl]
     have HA0:=zx (zi wr (Obj.cells #[.slice a0 n0 c0, .slice a1 n1 c1, .slice a2 n2 c2, .slice a3 n3 c3, .int .i64 (k:Int)] 163));go_wp2_with fail;generalize wr.alloc (Obj.cells #[.slice a0 n0 c0, .slice a1 n1 c1, .slice a2 n2 c2, .slice a3 n3 c3, .int .i64 (k:Int)] 163)=W0 at *;generalize hxb:wr.heap.size=xb at *;have HXB:=zx hxb;clear hxb x0 x1 x2 x3 x4 hw10;refine(wi (R0.out.below (by have:=HA0.out;rwa [←HXB.out]at this)) (by omega)).mono ?_;rintro e W1 ⟨rfl,hb0⟩;have HX1:=zx ((hb0.block xb (Mth.gI HX0.out)).trans HX0.out);have HA1:=zx (HA0.out.trans (hb0.mono (by have:=HA0.out.size;have q:=HXB.out;omega)));clear hb0;obtain⟨y0,_⟩:=zy (j:=1) (u:=.slice a1 n1 c1) HX1.out rfl;obtain⟨z0,_⟩:=zy (j:=4) (u:=.int .i64 (k:Int)) HX1.out rfl;go_wp2_with fail;clear y0 z0;refine(wi (R1.out.below (by have:=HA1.out;rwa [←HXB.out]at this)) (by omega)).mono ?_;rintro e W2 ⟨rfl,hb1⟩;have HX2:=zx ((hb1.block xb (Mth.gI HX1.out)).trans HX1.out);have HA2:=zx (HA1.out.trans (hb1.mono (by have:=HA1.out.size;have q:=HXB.out;omega)));clear hb1;obtain⟨y1,_⟩:=zy (j:=2) (u:=.slice a2 n2 c2) HX2.out rfl;obtain⟨z1,_⟩:=zy (j:=4) (u:=.int .i64 (k:Int)) HX2.out rfl;go_wp2_with fail;clear y1 z1;refine(wi (R2.out.below (by have:=HA2.out;rwa [←HXB.out]at this)) (by omega)).mono ?_;rintro e W3 ⟨rfl,hb2⟩;have HX3:=zx ((hb2.block xb (Mth.gI HX2.out)).trans HX2.out);have HA3:=zx (HA2.out.trans (hb2.mono (by have:=HA2.out.size;have q:=HXB.out;omega)));clear hb2;obtain⟨y2,_⟩:=zy (j:=3) (u:=.slice a3 n3 c3) HX3.out rfl;obtain⟨z2,_⟩:=zy (j:=4) (u:=.int .i64 (k:Int)) HX3.out rfl;go_wp2_with fail;clear y2 z2;refine(wi (R3.out.below (by have:=HA3.out;rwa [←HXB.out]at this)) (by omega)).mono ?_;rintro e W4 ⟨rfl,hb3⟩;have HX4:=zx ((hb3.block xb (Mth.gI HX3.out)).trans HX3.out);have HA4:=zx (HA3.out.trans (hb3.mono (by have:=HA3.out.size;have q:=HXB.out;omega)));clear hb3;go_wp2
     go_roundw
     case rel=>exact⟨k+1,by omega,by go_num,rfl,HB.out.trans ((by have:=HA4.out;rwa [←HXB.out]at this:Below wr.heap.size wr W4).mono HB.out.size)⟩
     case measure=>simp[intOf];omega
    ·have hke:k=Ni:=by omega
     subst hke;go_wp2_with fail
     go_loopw [3,8] (fun ok i wr=>∃k:Nat,k≤Nt∧i=.int .i64 k∧ok=.bool true∧Below w.heap.size w wr) (fun _ i _=>Nt-(intOf i).toNat)
     case atStart=>exact⟨0,Nat.zero_le _,rfl,rfl,HB.out⟩
     case round=>
      obtain⟨k,hk,rfl,rfl,hb⟩:=hrel;have HB:=zx hb;have hw11:=(hb.cell (p:=⟨wb,11,none⟩) hwlt).trans cw11;clear hb;by_cases hlt:k<Nt
      ·obtain⟨g,a0,n0,c0,a1,n1,c1,a2,n2,c2,a3,n3,c3,rfl,hgl,x0,x1,x2,x3,x4,⟨l0,r0⟩,⟨l1,r1⟩,⟨l2,r2⟩,⟨l3,r3⟩⟩:=vP (BT.out.below HB.out) k hlt;have R0:=zx r0;have R1:=zx r1;have R2:=zx r2;have R3:=zx r3;clear r0 r1 r2 r3
       have HX0:Hid ((wr.alloc (Obj.cells #[.slice a0 n0 c0, .slice a1 n1 c1, .slice a2 n2 c2, .slice a3 n3 c3, .int .i64 (k:Int)] 166)).heap[wr.heap.size]? = some (Obj.cells #[.slice a0 n0 c0, .slice a1 n1 c1, .slice a2 n2 c2, .slice a3 n3 c3, .int .i64 (k:Int)] 166 (0,0))):=by
        show(wr.heap.push _)[wr.heap.size]? = _;rw[Array.getElem?_push,if_pos rfl]
       have HA0:=zx (zi wr (Obj.cells #[.slice a0 n0 c0, .slice a1 n1 c1, .slice a2 n2 c2, .slice a3 n3 c3, .int .i64 (k:Int)] 166));go_wp2_with fail;generalize wr.alloc (Obj.cells #[.slice a0 n0 c0, .slice a1 n1 c1, .slice a2 n2 c2, .slice a3 n3 c3, .int .i64 (k:Int)] 166)=W0 at *;generalize hxb:wr.heap.size=xb at *;have HXB:=zx hxb;clear hxb x0 x1 x2 x3 x4 hw11;refine(xJ (R0.out.below (by have:=HA0.out;rwa [←HXB.out]at this)) (by omega)).mono ?_;rintro e W1 ⟨rfl,hb0⟩;have HX1:=zx ((hb0.block xb (Mth.gI HX0.out)).trans HX0.out);have HA1:=zx (HA0.out.trans (hb0.mono (by have:=HA0.out.size;have q:=HXB.out;omega)));clear hb0;obtain⟨y0,_⟩:=zy (j:=1) (u:=.slice a1 n1 c1) HX1.out rfl;obtain⟨z0,_⟩:=zy (j:=4) (u:=.int .i64 (k:Int)) HX1.out rfl;go_wp2_with fail;clear y0 z0;refine(xJ (R1.out.below (by have:=HA1.out;rwa [←HXB.out]at this)) (by omega)).mono ?_;rintro e W2 ⟨rfl,hb1⟩;have HX2:=zx ((hb1.block xb (Mth.gI HX1.out)).trans HX1.out);have HA2:=zx (HA1.out.trans (hb1.mono (by have:=HA1.out.size;have q:=HXB.out;omega)));clear hb1;obtain⟨y1,_⟩:=zy (j:=2) (u:=.slice a2 n2 c2) HX2.out rfl;obtain⟨z1,_⟩:=zy (j:=4) (u:=.int .i64 (k:Int)) HX2.out rfl;go_wp2_with fail;clear y1 z1;refine(xJ (R2.out.below (by have:=HA2.out;rwa [←HXB.out]at this)) (by omega)).mono ?_;rintro e W3 ⟨rfl,hb2⟩;have HX3:=zx ((hb2.block xb (Mth.gI HX2.out)).trans HX2.out);have HA3:=zx (HA2.out.trans (hb2.mono (by have:=HA2.out.size;have q:=HXB.out;omega)));clear hb2;obtain⟨y2,_⟩:=zy (j:=3) (u:=.slice a3 n3 c3) HX3.out rfl;obtain⟨z2,_⟩:=zy (j:=4) (u:=.int .i64 (k:Int)) HX3.out rfl;go_wp2_with fail;clear y2 z2;refine(xJ (R3.out.below (by have:=HA3.out;rwa [←HXB.out]at this)) (by omega)).mono ?_;rintro e W4 ⟨rfl,hb3⟩;have HX4:=zx ((hb3.block xb (Mth.gI HX3.out)).trans HX3.out);have HA4:=zx (HA3.out.trans (hb3.mono (by have:=HA3.out.size;have q:=HXB.out;omega)));clear hb3;go_wp2
       go_roundw
       case rel=>exact⟨k+1,by omega,by go_num,rfl,HB.out.trans ((by have:=HA4.out;rwa [←HXB.out]at this:Below wr.heap.size wr W4).mono HB.out.size)⟩
       case measure=>simp[intOf];omega
      ·have hke:k=Nt:=by omega
       subst hke;go_wp2_with fail
       go_loopw [3,10] (fun ok i wr=>∃k:Nat,k≤Ne∧i=.int .i64 k∧ok=.bool true∧Below w.heap.size w wr) (fun _ i _=>Ne-(intOf i).toNat)
       case atStart=>exact⟨0,Nat.zero_le _,rfl,rfl,HB.out⟩
       case round=>
        obtain⟨k,hk,rfl,rfl,hb⟩:=hrel;have HB:=zx hb;have hw12:=(hb.cell (p:=⟨wb,12,none⟩) hwlt).trans cw12;clear hb;by_cases hlt:k<Ne
        ·obtain⟨g,a0,n0,c0,a1,n1,c1,a2,n2,c2,a3,n3,c3,rfl,hgl,x0,x1,x2,x3,x4,⟨l0,r0⟩,⟨l1,r1⟩,⟨l2,r2⟩,⟨l3,r3⟩⟩:=vP (BE.out.below HB.out) k hlt;have R0:=zx r0;have R1:=zx r1;have R2:=zx r2;have R3:=zx r3;clear r0 r1 r2 r3
         have HX0:Hid ((wr.alloc (Obj.cells #[.slice a0 n0 c0, .slice a1 n1 c1, .slice a2 n2 c2, .slice a3 n3 c3, .int .i64 (k:Int)] 169)).heap[wr.heap.size]? = some (Obj.cells #[.slice a0 n0 c0, .slice a1 n1 c1, .slice a2 n2 c2, .slice a3 n3 c3, .int .i64 (k:Int)] 169 (0,0))):=by
          show(wr.heap.push _)[wr.heap.size]? = _;rw[Array.getElem?_push,if_pos rfl]
         have HA0:=zx (zi wr (Obj.cells #[.slice a0 n0 c0, .slice a1 n1 c1, .slice a2 n2 c2, .slice a3 n3 c3, .int .i64 (k:Int)] 169));go_wp2_with fail;generalize wr.alloc (Obj.cells #[.slice a0 n0 c0, .slice a1 n1 c1, .slice a2 n2 c2, .slice a3 n3 c3, .int .i64 (k:Int)] 169)=W0 at *;generalize hxb:wr.heap.size=xb at *;have HXB:=zx hxb;clear hxb x0 x1 x2 x3 x4 hw12;refine(yD (R0.out.below (by have:=HA0.out;rwa [←HXB.out]at this)) (by omega)).mono ?_;rintro e W1 ⟨rfl,hb0⟩;have HX1:=zx ((hb0.block xb (Mth.gI HX0.out)).trans HX0.out);have HA1:=zx (HA0.out.trans (hb0.mono (by have:=HA0.out.size;have q:=HXB.out;omega)));clear hb0;obtain⟨y0,_⟩:=zy (j:=1) (u:=.slice a1 n1 c1) HX1.out rfl;obtain⟨z0,_⟩:=zy (j:=4) (u:=.int .i64 (k:Int)) HX1.out rfl;go_wp2_with fail;clear y0 z0;refine(yD (R1.out.below (by have:=HA1.out;rwa [←HXB.out]at this)) (by omega)).mono ?_;rintro e W2 ⟨rfl,hb1⟩;have HX2:=zx ((hb1.block xb (Mth.gI HX1.out)).trans HX1.out);have HA2:=zx (HA1.out.trans (hb1.mono (by have:=HA1.out.size;have q:=HXB.out;omega)));clear hb1;obtain⟨y1,_⟩:=zy (j:=2) (u:=.slice a2 n2 c2) HX2.out rfl;obtain⟨z1,_⟩:=zy (j:=4) (u:=.int .i64 (k:Int)) HX2.out rfl;go_wp2_with fail;clear y1 z1;refine(yD (R2.out.below (by have:=HA2.out;rwa [←HXB.out]at this)) (by omega)).mono ?_;rintro e W3 ⟨rfl,hb2⟩;have HX3:=zx ((hb2.block xb (Mth.gI HX2.out)).trans HX2.out);have HA3:=zx (HA2.out.trans (hb2.mono (by have:=HA2.out.size;have q:=HXB.out;omega)));clear hb2;obtain⟨y2,_⟩:=zy (j:=3) (u:=.slice a3 n3 c3) HX3.out rfl;obtain⟨z2,_⟩:=zy (j:=4) (u:=.int .i64 (k:Int)) HX3.out rfl;go_wp2_with fail;clear y2 z2;refine(yD (R3.out.below (by have:=HA3.out;rwa [←HXB.out]at this)) (by omega)).mono ?_;rintro e W4 ⟨rfl,hb3⟩;have HX4:=zx ((hb3.block xb (Mth.gI HX3.out)).trans HX3.out);have HA4:=zx (HA3.out.trans (hb3.mono (by have:=HA3.out.size;have q:=HXB.out;omega)));clear hb3;go_wp2
         go_roundw
         case rel=>exact⟨k+1,by omega,by go_num,rfl,HB.out.trans ((by have:=HA4.out;rwa [←HXB.out]at this:Below wr.heap.size wr W4).mono HB.out.size)⟩
         case measure=>simp[intOf];omega
        ·have hke:k=Ne:=by omega
         subst hke;go_wp2_with fail
         go_loopw [3,12] (fun ok i wr=>∃k:Nat,k≤Ns∧i=.int .i64 k∧ok=.bool true∧Below w.heap.size w wr) (fun _ i _=>Ns-(intOf i).toNat)
         case atStart=>exact⟨0,Nat.zero_le _,rfl,rfl,HB.out⟩
         case round=>
          obtain⟨k,hk,rfl,rfl,hb⟩:=hrel;have HB:=zx hb;have hw13:=(hb.cell (p:=⟨wb,13,none⟩) hwlt).trans cw13;clear hb;by_cases hlt:k<Ns
          ·obtain⟨g,a0,n0,c0,a1,n1,c1,a2,n2,c2,a3,n3,c3,rfl,hgl,x0,x1,x2,x3,x4,⟨l0,r0⟩,⟨l1,r1⟩,⟨l2,r2⟩,⟨l3,r3⟩⟩:=vP (BS.out.below HB.out) k hlt;have R0:=zx r0;have R1:=zx r1;have R2:=zx r2;have R3:=zx r3;clear r0 r1 r2 r3
           have HX0:Hid ((wr.alloc (Obj.cells #[.slice a0 n0 c0, .slice a1 n1 c1, .slice a2 n2 c2, .slice a3 n3 c3, .int .i64 (k:Int)] 172)).heap[wr.heap.size]? = some (Obj.cells #[.slice a0 n0 c0, .slice a1 n1 c1, .slice a2 n2 c2, .slice a3 n3 c3, .int .i64 (k:Int)] 172 (0,0))):=by
            show(wr.heap.push _)[wr.heap.size]? = _;rw[Array.getElem?_push,if_pos rfl]
           have HA0:=zx (zi wr (Obj.cells #[.slice a0 n0 c0, .slice a1 n1 c1, .slice a2 n2 c2, .slice a3 n3 c3, .int .i64 (k:Int)] 172));go_wp2_with fail;generalize wr.alloc (Obj.cells #[.slice a0 n0 c0, .slice a1 n1 c1, .slice a2 n2 c2, .slice a3 n3 c3, .int .i64 (k:Int)] 172)=W0 at *;generalize hxb:wr.heap.size=xb at *;have HXB:=zx hxb;clear hxb x0 x1 x2 x3 x4 hw13;refine(xY (R0.out.below (by have:=HA0.out;rwa [←HXB.out]at this)) (by omega)).mono ?_;rintro e W1 ⟨rfl,hb0⟩;have HX1:=zx ((hb0.block xb (Mth.gI HX0.out)).trans HX0.out);have HA1:=zx (HA0.out.trans (hb0.mono (by have:=HA0.out.size;have q:=HXB.out;omega)));clear hb0;obtain⟨y0,_⟩:=zy (j:=1) (u:=.slice a1 n1 c1) HX1.out rfl;obtain⟨z0,_⟩:=zy (j:=4) (u:=.int .i64 (k:Int)) HX1.out rfl;go_wp2_with fail;clear y0 z0;refine(xY (R1.out.below (by have:=HA1.out;rwa [←HXB.out]at this)) (by omega)).mono ?_;rintro e W2 ⟨rfl,hb1⟩;have HX2:=zx ((hb1.block xb (Mth.gI HX1.out)).trans HX1.out);have HA2:=zx (HA1.out.trans (hb1.mono (by have:=HA1.out.size;have q:=HXB.out;omega)));clear hb1;obtain⟨y1,_⟩:=zy (j:=2) (u:=.slice a2 n2 c2) HX2.out rfl;obtain⟨z1,_⟩:=zy (j:=4) (u:=.int .i64 (k:Int)) HX2.out rfl;go_wp2_with fail;clear y1 z1;refine(xY (R2.out.below (by have:=HA2.out;rwa [←HXB.out]at this)) (by omega)).mono ?_;rintro e W3 ⟨rfl,hb2⟩;have HX3:=zx ((hb2.block xb (Mth.gI HX2.out)).trans HX2.out);have HA3:=zx (HA2.out.trans (hb2.mono (by have:=HA2.out.size;have q:=HXB.out;omega)));clear hb2;obtain⟨y2,_⟩:=zy (j:=3) (u:=.slice a3 n3 c3) HX3.out rfl;obtain⟨z2,_⟩:=zy (j:=4) (u:=.int .i64 (k:Int)) HX3.out rfl;go_wp2_with fail;clear y2 z2;refine(xY (R3.out.below (by have:=HA3.out;rwa [←HXB.out]at this)) (by omega)).mono ?_;rintro e W4 ⟨rfl,hb3⟩;have HX4:=zx ((hb3.block xb (Mth.gI HX3.out)).trans HX3.out);have HA4:=zx (HA3.out.trans (hb3.mono (by have:=HA3.out.size;have q:=HXB.out;omega)));clear hb3;go_wp2
           go_roundw
           case rel=>exact⟨k+1,by omega,by go_num,rfl,HB.out.trans ((by have:=HA4.out;rwa [←HXB.out]at this:Below wr.heap.size wr W4).mono HB.out.size)⟩
           case measure=>simp[intOf];omega
          ·have hke:k=Ns:=by omega
           subst hke;go_wp2_with fail
           go_loopw [3,14] (fun ok i wr=>∃k:Nat,k≤Nr∧i=.int .i64 k∧ok=.bool true∧Below w.heap.size w wr) (fun _ i _=>Nr-(intOf i).toNat)
           case atStart=>exact⟨0,Nat.zero_le _,rfl,rfl,HB.out⟩
           case round=>
            obtain⟨k,hk,rfl,rfl,hb⟩:=hrel;have HB:=zx hb;have hw14:=(hb.cell (p:=⟨wb,14,none⟩) hwlt).trans cw14;clear hb;by_cases hlt:k<Nr
            ·obtain⟨g,a0,n0,c0,a1,n1,c1,a2,n2,c2,a3,n3,c3,rfl,hgl,x0,x1,x2,x3,x4,⟨l0,r0⟩,⟨l1,r1⟩,⟨l2,r2⟩,⟨l3,r3⟩⟩:=vP (BR.out.below HB.out) k hlt;have R0:=zx r0;have R1:=zx r1;have R2:=zx r2;have R3:=zx r3;clear r0 r1 r2 r3
             have HX0:Hid ((wr.alloc (Obj.cells #[.slice a0 n0 c0, .slice a1 n1 c1, .slice a2 n2 c2, .slice a3 n3 c3, .int .i64 (k:Int)] 175)).heap[wr.heap.size]? = some (Obj.cells #[.slice a0 n0 c0, .slice a1 n1 c1, .slice a2 n2 c2, .slice a3 n3 c3, .int .i64 (k:Int)] 175 (0,0))):=by
              show(wr.heap.push _)[wr.heap.size]? = _;rw[Array.getElem?_push,if_pos rfl]
             have HA0:=zx (zi wr (Obj.cells #[.slice a0 n0 c0, .slice a1 n1 c1, .slice a2 n2 c2, .slice a3 n3 c3, .int .i64 (k:Int)] 175));go_wp2_with fail;generalize wr.alloc (Obj.cells #[.slice a0 n0 c0, .slice a1 n1 c1, .slice a2 n2 c2, .slice a3 n3 c3, .int .i64 (k:Int)] 175)=W0 at *;generalize hxb:wr.heap.size=xb at *;have HXB:=zx hxb;clear hxb x0 x1 x2 x3 x4 hw14;refine(wj HFR.out (R0.out.below (by have:=HA0.out;rwa [←HXB.out]at this)) (by omega)).mono ?_;rintro e W1 ⟨rfl,hb0⟩;have HX1:=zx ((hb0.block xb (Mth.gI HX0.out)).trans HX0.out);have HA1:=zx (HA0.out.trans (hb0.mono (by have:=HA0.out.size;have q:=HXB.out;omega)));clear hb0;obtain⟨y0,_⟩:=zy (j:=1) (u:=.slice a1 n1 c1) HX1.out rfl;obtain⟨z0,_⟩:=zy (j:=4) (u:=.int .i64 (k:Int)) HX1.out rfl;go_wp2_with fail;clear y0 z0;refine(wj HFR.out (R1.out.below (by have:=HA1.out;rwa [←HXB.out]at this)) (by omega)).mono ?_;rintro e W2 ⟨rfl,hb1⟩;have HX2:=zx ((hb1.block xb (Mth.gI HX1.out)).trans HX1.out);have HA2:=zx (HA1.out.trans (hb1.mono (by have:=HA1.out.size;have q:=HXB.out;omega)));clear hb1;obtain⟨y1,_⟩:=zy (j:=2) (u:=.slice a2 n2 c2) HX2.out rfl;obtain⟨z1,_⟩:=zy (j:=4) (u:=.int .i64 (k:Int)) HX2.out rfl;go_wp2_with fail;clear y1 z1;refine(wj HFR.out (R2.out.below (by have:=HA2.out;rwa [←HXB.out]at this)) (by omega)).mono ?_;rintro e W3 ⟨rfl,hb2⟩;have HX3:=zx ((hb2.block xb (Mth.gI HX2.out)).trans HX2.out);have HA3:=zx (HA2.out.trans (hb2.mono (by have:=HA2.out.size;have q:=HXB.out;omega)));clear hb2;obtain⟨y2,_⟩:=zy (j:=3) (u:=.slice a3 n3 c3) HX3.out rfl;obtain⟨z2,_⟩:=zy (j:=4) (u:=.int .i64 (k:Int)) HX3.out rfl;go_wp2_with fail;clear y2 z2;refine(wj HFR.out (R3.out.below (by have:=HA3.out;rwa [←HXB.out]at this)) (by omega)).mono ?_;rintro e W4 ⟨rfl,hb3⟩;have HX4:=zx ((hb3.block xb (Mth.gI HX3.out)).trans HX3.out);have HA4:=zx (HA3.out.trans (hb3.mono (by have:=HA3.out.size;have q:=HXB.out;omega)));clear hb3;go_wp2
             go_roundw
             case rel=>exact⟨k+1,by omega,by go_num,rfl,HB.out.trans ((by have:=HA4.out;rwa [←HXB.out]at this:Below wr.heap.size wr W4).mono HB.out.size)⟩
             case measure=>simp[intOf];omega
            ·have hke:k=Nr:=by omega
             subst hke;go_wp2_with fail;go_ret;exact⟨rfl,HB.out⟩
end Go.Proofs.YtkncboinfcnklaaGreatDoor
namespace Go.Proofs.YtkncboinfcnklaaGreatDoor.Lw
open Go.RowKit Go.Deep Go.Shelf Go.Proofs.YtkncboinfcnklaaGreatDoor.Mth Go.Proofs.YtkncboinfcnklaaGreatDoor.Rl
structure Ho where
 hb:Nat
 lb:Nat
 d:Nat
 h:Nat
 mv:Value
 ρ:Nat→Nat
 B:Nat
 N:Nat
 G:Gh
 L:Lg
 all:List Ent
 ts:List Tl
 V:Rv
def kL (x:Ho):Array Value:=#[zr x.lb,zr x.d,zr x.h, .int .i64 (x.L.memory:Int), .int .i64 (x.L.fan:Int), .int .i64 (x.L.back:Int), .int .i64 (x.L.wks.length:Int), .int .i64 (x.L.keep:Int), .int .i64 (x.L.batch:Int),x.mv]
theorem sZ (L:Lg) (s:ByteArray):(L.app s).tls=L.tls∧(L.app s).subs=L.subs∧(L.app s).tn=L.tn:=by
 unfold Lg.app Lg.more
 split <;> exact⟨rfl,rfl,rfl⟩
structure HoAt (P:Lg→List Tl→Prop) (Z:Nat→Prop) (w:World) (M:Nat) (x:Ho):Prop where
 log:LogAt w x.ρ x.B x.N x.lb x.G x.L
 inv:Inv x.L x.all
 left:x.G.left=-1
 db:x.G.db=x.d
 bud:x.G.dt.size≤64*M∧x.all.length≤M∧x.N+x.L.subs≤2*M
 may:w.ownsRow 0 234 20 x.mv 1 (zR x.V x.L).toList
 mz:∀g,some g=x.mv.ownBlock→Z g
 ref:RfV Z 0 w x.V x.L x.all x.ts
 rz:RfZ Z x.V x.L.wks.length
 tl:P x.L x.ts
theorem HoAt.same {P:Lg→List Tl→Prop}{Z Z':Nat→Prop}{w w':World}{M M':Nat}{x:Ho}(h:HoAt P Z w M x) (hl:∀g,(x.ρ g≠0∨wM w g)→w'.heap[g]? = w.heap[g]?) (hz:∀g,Z g→w'.heap[g]? = w.heap[g]?) (hs:w.heap.size≤w'.heap.size) (hZ:∀g,Z g→Z' g) (hM:M≤M'):HoAt P Z' w' M' x:=
 ⟨h.log.same hl hs,h.inv,h.left,h.db,⟨by have:=h.bud.1;omega,by have:=h.bud.2.1;omega,by have:=h.bud.2.2;omega⟩,zn h.may (fun g hg=>hz g (h.mz g hg)),fun g hg=>hZ g (h.mz g hg),(h.ref.same h.rz hz).zmono hZ,h.rz.mono hZ,h.tl⟩
theorem RdM.same' {w w':World}{e:TypeId}{sz:Nat}{v:Value}{n:Nat}{f:Nat→Value}(h:RdM w e sz v n f) (hs:∀g,some g=v.ownBlock→w'.heap[g]? = w.heap[g]?):RdM w' e sz v n f:=by
 obtain⟨a,c,rfl,h1,h2,h3⟩:=h;refine⟨a,c,rfl,h1,h2,h3.imp id ?_⟩;rintro ⟨g,C,rfl,h4,h5⟩;have e:=hs g rfl;exact⟨g,C,rfl,e.trans h4,fun j hj=>by rw[World.cell?_of_block (w':=w') (a:=⟨g,j,none⟩) e];exact h5 j hj⟩
def Bok (Z:Nat→Prop) (w:World) (B:Nat) (T e:TypeId) (sz:Nat) (F:Nat→Nat→Value) (v:Value) (N:Nat):Prop:=
 ∃q:Nat→Qd,w.ownsRow B T 5 v N ((List.range N).flatMap (qc q))∧∀i,i<N→∀u,(u=(q i).l∨u=(q i).a∨u=(q i).b∨u=(q i).c)→(∃n,n≤4194304∧RdM w e sz u n (F i))∧∀g,some g=u.ownBlock→Z g
theorem Bok.same {Z Z':Nat→Prop}{w w':World}{B:Nat}{T e:TypeId}{sz:Nat}{F:Nat→Nat→Value}{v:Value}{N:Nat}(h:Bok Z w B T e sz F v N) (hv:∀g,some g=v.ownBlock→w'.heap[g]? = w.heap[g]?) (hz:∀g,Z g→w'.heap[g]? = w.heap[g]?) (hZ:∀g,Z g→Z' g):Bok Z' w' B T e sz F v N:=by
 obtain⟨q,h1,h2⟩:=h;refine⟨q,zn h1 hv,fun i hi u hu=>?_⟩;obtain⟨⟨n,hn,hr⟩,hg⟩:=h2 i hi u hu;exact⟨⟨n,hn,RdM.same' hr (fun g hg'=>hz g (hg g hg'))⟩,fun g hg'=>hZ g (hg g hg')⟩
theorem Bok.book {Z:Nat→Prop}{w:World}{B:Nat}{T e:TypeId}{sz:Nat}{F:Nat→Nat→Value}{v:Value}{N:Nat}(h:Bok Z w B T e sz F v N):Book w B T e sz F v N:=by
 obtain⟨q,h1,h2⟩:=h;exact⟨q,h1,fun i hi=>⟨(h2 i hi _ (Or.inl rfl)).1,(h2 i hi _ (Or.inr (Or.inl rfl))).1,(h2 i hi _ (Or.inr (Or.inr (Or.inl rfl)))).1,(h2 i hi _ (Or.inr (Or.inr (Or.inr rfl)))).1⟩⟩
theorem Bok.nil (Z:Nat→Prop) (w:World) (B:Nat) (T e:TypeId) (sz:Nat) (F:Nat→Nat→Value):Bok Z w B T e sz F (.slice none 0 0) 0:=⟨fun _=>⟨.slice none 0 0, .slice none 0 0, .slice none 0 0, .slice none 0 0⟩,World.ownsRow_nil _ _ _ _,fun _ hi=>absurd hi (Nat.not_lt_zero _)⟩
def Mu (wb:Nat) (hv ke ks kr:Value) (hs:List Nat) (g:Nat):Prop:=g=wb∨some g=hv.ownBlock∨some g=ke.ownBlock∨some g=ks.ownBlock∨some g=kr.ownBlock∨g∈hs
def h0:Ho:=⟨0,0,0,0, .slice none 0 0,fun _=>0,0,0,⟨0,0,0, .slice none 0 0,⟨#[]⟩,0,0,0,0, .slice none 0 0,fun _=>.slice none 0 0,fun _=>[],fun _=>.slice none 0 0,fun _=>0, .slice none 0 0,[],fun _=>.slice none 0 0,0⟩,Lg.new 0 0 0 0 0 0,[],[],⟨.slice none 0 0, .slice none 0 0,fun _=>.slice none 0 0,fun _ _=>.slice none 0 0, .slice none 0 0,fun _=>.slice none 0 0,fun _=>0, .slice none 0 0⟩⟩
def dP (g0 g1 g2 g3 hv ke ks kr:Value):Array Value:=#[g0,g1,g2,g3, .slice none 0 0, .slice none 0 0, .slice none 0 0, .slice none 0 0,hv, .slice none 0 0, .slice none 0 0, .slice none 0 0,ke,ks,kr]
structure HI (P:Lg→List Tl→Prop) (Z:Nat→Prop) (w:World) (B wb:Nat) (g0 g1 g2 g3 hv ke ks kr:Value) (Ne Ns Nr M:Nat) (hs:List Ho) (hole:Option Nat):Prop where
 blk:w.heap[wb]? = some (Obj.cells (dP g0 g1 g2 g3 hv ke ks kr) 91 (0,0))
 ge:B≤wb
 be:Bok Z w B 169 66 3 fE ke Ne
 bs:Bok Z w B 172 142 3 fS ks Ns
 br:∃F,sX F∧Bok Z w B 175 75 1 F kr Nr
 row:w.ownsRow B 152 1 hv hs.length (hs.map (fun x=>zr x.hb))
 hob:∀j,j<hs.length→w.heap[(hs.getD j h0).hb]? = some (Obj.cells (kL (hs.getD j h0)) 155 (0,0))
 one:∀j,j<hs.length→some j≠hole→HoAt P Z w M (hs.getD j h0)
 hge:∀j,j<hs.length→B≤(hs.getD j h0).B∧B≤(hs.getD j h0).hb
 lt:∀j,j<hs.length→∀k,(hs.getD j h0).ρ k≠0→k<w.heap.size∧(hs.getD j h0).B≤k
 dis:∀i j,i<hs.length→j<hs.length→i≠j→(hs.getD i h0).hb≠(hs.getD j h0).hb∧∀k,(hs.getD i h0).ρ k≠0→(hs.getD j h0).ρ k=0
 zm:∀g,Z g→g<w.heap.size∧¬Mu wb hv ke ks kr (hs.map Ho.hb) g∧∀j,j<hs.length→(hs.getD j h0).ρ g=0
 rm:∀g,Mu wb hv ke ks kr (hs.map Ho.hb) g→∀j,j<hs.length→(hs.getD j h0).ρ g=0
 mb:Ne≤M∧Ns≤8*M∧Nr≤M∧hs.length≤M
theorem xQ {hs:List Ho}{j:Nat}(hj:j<hs.length):(hs.getD j h0).hb∈hs.map Ho.hb:=by
 rw[←List.getElem_eq_getD (h:=hj)];exact List.mem_map.2 ⟨_,List.getElem_mem hj,rfl⟩
theorem aL {hs:List Ho}{g:Nat}(h:g∈hs.map Ho.hb):∃j,j<hs.length∧g=(hs.getD j h0).hb:=by
 obtain⟨x,hx,rfl⟩:=List.mem_map.1 h;obtain⟨j,hj,e⟩:=List.mem_iff_getElem.1 hx;exact⟨j,hj,by rw[←List.getElem_eq_getD (h:=hj),e]⟩
theorem HI.mty {P:Lg→List Tl→Prop}{Z:Nat→Prop}{w:World}{B wb:Nat}{g0 g1 g2 g3 hv ke ks kr:Value}{Ne Ns Nr M:Nat}{hs:List Ho}{hole:Option Nat}(h:HI P Z w B wb g0 g1 g2 g3 hv ke ks kr Ne Ns Nr M hs hole){g:Nat}(hg:Mu wb hv ke ks kr (hs.map Ho.hb) g):B≤g∧∃C t,w.heap[g]? = some (Obj.cells C t (0,0))∧(t=91∨t=152∨t=169∨t=172∨t=175∨t=155):=by
 rcases hg with rfl|hg|hg|hg|hg|hg
 ·exact⟨h.ge,_,_,h.blk,by simp⟩
 ·obtain⟨h1,_,D,hD⟩:=zw h.row hg;exact⟨h1,_,_,hD,by simp⟩
 ·obtain⟨q,h1,_⟩:=h.be;obtain⟨h1,_,D,hD⟩:=zw h1 hg;exact⟨h1,_,_,hD,by simp⟩
 ·obtain⟨q,h1,_⟩:=h.bs;obtain⟨h1,_,D,hD⟩:=zw h1 hg;exact⟨h1,_,_,hD,by simp⟩
 ·obtain⟨F,_,q,h1,_⟩:=h.br;obtain⟨h1,_,D,hD⟩:=zw h1 hg;exact⟨h1,_,_,hD,by simp⟩
 ·obtain⟨j,hj,rfl⟩:=aL hg;exact⟨(h.hge j hj).2,_,_,h.hob j hj,by simp⟩
theorem HI.mn {P:Lg→List Tl→Prop}{Z:Nat→Prop}{w:World}{B wb:Nat}{g0 g1 g2 g3 hv ke ks kr:Value}{Ne Ns Nr M:Nat}{hs:List Ho}{hole:Option Nat}(h:HI P Z w B wb g0 g1 g2 g3 hv ke ks kr Ne Ns Nr M hs hole){g:Nat}(hg:Mu wb hv ke ks kr (hs.map Ho.hb) g):¬wM w g:=by
 obtain⟨_,C,t,h1,h2⟩:=h.mty hg;rintro ⟨C',fr,h3⟩;have:=zc h1 h3;subst this
 rcases h2 with h2|h2|h2|h2|h2|h2 <;> exact absurd h2 (by decide)
theorem HI.mlt {P:Lg→List Tl→Prop}{Z:Nat→Prop}{w:World}{B wb:Nat}{g0 g1 g2 g3 hv ke ks kr:Value}{Ne Ns Nr M:Nat}{hs:List Ho}{hole:Option Nat}(h:HI P Z w B wb g0 g1 g2 g3 hv ke ks kr Ne Ns Nr M hs hole){g:Nat}(hg:Mu wb hv ke ks kr (hs.map Ho.hb) g):g<w.heap.size:=by
 obtain⟨_,C,t,h1,_⟩:=h.mty hg;exact(Mth.gI h1)
theorem HI.below {P:Lg→List Tl→Prop}{Z:Nat→Prop}{w w':World}{B wb:Nat}{g0 g1 g2 g3 hv ke ks kr:Value}{Ne Ns Nr M:Nat}{hs:List Ho}{hole:Option Nat}(h:HI P Z w B wb g0 g1 g2 g3 hv ke ks kr Ne Ns Nr M hs hole) (hb:Below w.heap.size w w'):HI P Z w' B wb g0 g1 g2 g3 hv ke ks kr Ne Ns Nr M hs hole:=by
 have hz:∀g,Z g→w'.heap[g]? = w.heap[g]? := fun g hg=>hb.block g (h.zm g hg).1
 have hm:∀g,Mu wb hv ke ks kr (hs.map Ho.hb) g→w'.heap[g]? = w.heap[g]? := fun g hg=>hb.block g (h.mlt hg)
 refine⟨(hm wb (Or.inl rfl)).trans h.blk,h.ge,h.be.same (fun g hg=>hm g (by simp[Mu,hg])) hz (fun _ q=>q),h.bs.same (fun g hg=>hm g (by simp[Mu,hg])) hz (fun _ q=>q),?_,zq h.row hb,fun j hj=>(hm _ (by simp only[Mu];exact Or.inr (Or.inr (Or.inr (Or.inr (Or.inr (xQ hj))))))).trans (h.hob j hj),fun j hj hne=>(h.one j hj hne).same (fun g q=>hb.block g (by rcases q with q|q;exact(h.lt j hj g q).1;exact yw q)) hz hb.size (fun _ q=>q) (Nat.le_refl _),h.hge,fun j hj k hk=>⟨Nat.lt_of_lt_of_le (h.lt j hj k hk).1 hb.size,(h.lt j hj k hk).2⟩,h.dis,fun g hg=>⟨Nat.lt_of_lt_of_le (h.zm g hg).1 hb.size,(h.zm g hg).2⟩,h.rm,h.mb⟩;obtain⟨F,h1,h2⟩:=h.br;exact⟨F,h1,h2.same (fun g hg=>hm g (by simp[Mu,hg])) hz (fun _ q=>q)⟩
theorem HI.more {P:Lg→List Tl→Prop}{Z:Nat→Prop}{w:World}{B wb:Nat}{g0 g1 g2 g3 hv ke ks kr:Value}{Ne Ns Nr M M':Nat}{hs:List Ho}{hole:Option Nat}(h:HI P Z w B wb g0 g1 g2 g3 hv ke ks kr Ne Ns Nr M hs hole) (hM:M≤M'){Y:Nat→Prop}(hY:∀g,Y g→g<w.heap.size∧¬Mu wb hv ke ks kr (hs.map Ho.hb) g∧∀j,j<hs.length→(hs.getD j h0).ρ g=0):HI P (fun g=>Z g∨Y g) w B wb g0 g1 g2 g3 hv ke ks kr Ne Ns Nr M' hs hole:=by
 refine⟨h.blk,h.ge,h.be.same (fun _ _=>rfl) (fun _ _=>rfl) (fun _ q=>Or.inl q),h.bs.same (fun _ _=>rfl) (fun _ _=>rfl) (fun _ q=>Or.inl q),?_,h.row,h.hob,fun j hj hne=>(h.one j hj hne).same (fun _ _=>rfl) (fun _ _=>rfl) (Nat.le_refl _) (fun _ q=>Or.inl q) hM,h.hge,h.lt,h.dis,fun g hg=>hg.elim (h.zm g) (hY g),h.rm,?_⟩
 ·obtain⟨F,h1,h2⟩:=h.br;exact⟨F,h1,h2.same (fun _ _=>rfl) (fun _ _=>rfl) (fun _ q=>Or.inl q)⟩
 ·have:=h.mb;omega
end Go.Proofs.YtkncboinfcnklaaGreatDoor.Lw
