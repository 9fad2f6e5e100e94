import Derived.Test.YtkncboinfcnklaaGreatDoorQ5
import Derived.Deep.RegionHeld3
import Derived.Test.YtkncboinfcnklaaGreatDoorProg
import Derived.Test.YtkncboinfcnklaaGreatDoorQ1
import Derived.WalkKit
import Derived.WalkSpells
import Derived.WalkLawsBesides
import Derived.Deep.LoopGhost
import Derived.Deep.QuietTactic
import Derived.BigQuiet
import Derived.Deep.DeepFit
import Derived.Outline
set_option maxRecDepth 100000
set_option maxHeartbeats 8000000
namespace Go.Proofs.YtkncboinfcnklaaGreatDoor
open Go.RowKit Go.Deep Go.Proofs.YtkncboinfcnklaaGreatDoor.Mth
def dN (fs:List Fl) (k y:Nat):List Fl:=fs.set k ⟨(fs.getD k wL).name,(fs.getD k wL).data,y⟩
def gV (fs:List Fl) (r:Int):List Fl:=if r<0 then fs else dN fs r.toNat (fs.getD r.toNat wL).data.size
theorem zE (w:World):Below w.heap.size w w.drew:=⟨rfl,rfl,rfl,Nat.le_refl _,fun _ _=>rfl⟩
theorem jc {w w1 w2:World}{B b d:Nat}{fs fs':List Fl}{l1:Int}{fv fv1 v2:Value}(HT:Stp 100 109 B b w w1 fv fs l1 fv1) (HP:Ptr 102 w1 d b) (hB:B≤w.heap.size) (hc:CurF 109 w1.drew w2 v2 fs') :
  Stp 100 109 B b w (w2.setCell ⟨b,0,none⟩ v2) fv fs' l1 v2∧w2.cell? ⟨b,0,none⟩=some fv1∧w2.frozen? ⟨b,0,none⟩=false∧w2.cell? ⟨d,0,none⟩=some (.pointer (some ⟨b,0,none⟩)):=by
 have hsz:=HT.tch.size;have hd:=zE w1;have hc1:=hc.pre hd;have hb:=(HT.st.below hc1.1).blk;obtain⟨k0,k1⟩:=zy (j:=0) (u:=fv1) hb rfl;exact⟨HT.trans (HT.st.setFresh (by decide) (by omega) hc1),k0,k1,(zy (j:=0) (u:=.pointer (some ⟨b,0,none⟩)) (HP.below hc1.1) rfl).1⟩
theorem rA {w:World}{B b d:Nat}{fs:List Fl}{left:Int}{fv:Value}(h:St 100 109 w B b fs left fv) (hp:Ptr 102 w d b) (hB:B≤w.heap.size) (h1:-1≤left) (h2:left<9223372036854775808) (q:left≠0) (hl:fs.length≤4194304) (x:ByteArray) :
  Calls Tryz.prog 37 #[.pointer (some ⟨d,0,none⟩), .string x] w fun e w'=>e=.returned (.bool true)∧∃fv',Stp 100 109 B b w w' fv (wo x fs) (yx left) fv':=by
 have CS:=zx (wh h h1 h2);rw[decide_eq_true q]at CS;obtain⟨p0,_⟩:=zy (j:=0) (u:=.pointer (some ⟨b,0,none⟩)) hp rfl;have HP:=zx hp;have HS:=zx h;generalize yx left=l1 at *;clear h h1 h2 q hp
 go_enter Tryz.func37,Tryz.ntmps37
 go_wp2_with fail;refine CS.out.mono ?_;rintro e w1 ⟨rfl,hs⟩;have HT:=zx hs;have HP1:=zx (HP.out.keep HS.out hs.tch (by decide) (by decide));obtain⟨p1,_⟩:=zy (j:=0) (u:=.pointer (some ⟨b,0,none⟩)) HP1.out rfl;have CW:=zx (wz (hs.st.below (zE w1)) x hl);have hsz1:=hs.tch.size;clear hs CS p0 HP HS;go_wp2_with fail
 go_region_with (go_at_call 80;refine CW.out.mono ?_;rintro e w2 ⟨v2,rfl,hc2⟩;obtain⟨a2,c2,rfl,_,_⟩:=zu hc2.2;obtain⟨ht2,kb,kf,kd⟩:=jc HT.out HP1.out hB hc2;have HT2:=zx ht2;clear ht2 hc2)
 all_goals (go_wp2;go_ret;exact⟨rfl,_,HT2.out⟩)
end Go.Proofs.YtkncboinfcnklaaGreatDoor
namespace Go.Proofs.YtkncboinfcnklaaGreatDoor.WI
open Go.RowKit Go.Deep Mth
abbrev eI:Int→Value:=Value.int .i64
theorem ptr_pointer {α:Type}(T:BT α):∃u,T.ptr=.pointer u:=by
 cases T with
 | nil=>exact⟨none,rfl⟩
 | node b o a l r=>exact⟨_,rfl⟩
theorem vk (T:BT Int) (w:World) (h:InT eI w T) :
  Calls Tryz.prog 218 #[T.ptr] w fun e w'=>e=.returned (.int .i64 (lst T).length)∧w'=w:=by
 cases T with
 | nil=>
  show Calls Tryz.prog 218 #[.pointer none] w _
  go_enter Tryz.func218,Tryz.ntmps218
  go_wp2;go_ret;exact⟨rfl,rfl⟩
 | node b o a l r=>
  obtain⟨rfl,h0,⟨h1,_⟩,h2,h3,hl,hr⟩:=h;show Calls Tryz.prog 218 #[.pointer (some ⟨b,0,none⟩)] w _;clear h0 h2 h3 hl hr
  have e:(lst (.node b 0 a l r)).length=(lst l).length+1+(lst r).length:=by simp[lst];omega
  rw[e];clear e;generalize (lst l).length+1+(lst r).length=k at *
  go_enter Tryz.func218,Tryz.ntmps218
  go_wp2;go_ret;exact⟨rfl,rfl⟩
theorem zx {p:Prop}(h:p):Hid p:=h
theorem iK (u v:Option Addr) (m n:Nat) (x:Int) (w:World) (sL:Hid (Calls Tryz.prog 218 #[.pointer u] w fun e w'=>e=.returned (.int .i64 m)∧w'=w)) (sR:Hid (Calls Tryz.prog 218 #[.pointer v] w fun e w'=>e=.returned (.int .i64 n)∧w'=w)) (hb:m+1+n≤4611686018427387904) :
  Calls Tryz.prog 230 #[.pointer u, .int .i64 x, .pointer v] w fun e w'=>e=.returned (.pointer (some ⟨w.heap.size,0,none⟩))∧w'=w.alloc (.cells #[.int .i64 x, .int .i64 (m+1+n:Nat), .pointer u, .pointer v] 325):=by
 go_enter Tryz.func230,Tryz.ntmps230
 go_wp2_with fail;refine sL.out.mono ?_;rintro e w' ⟨rfl,hw⟩;subst hw;go_wp2_with fail;refine sR.out.mono ?_;rintro e w' ⟨rfl,hw⟩;subst hw;go_wp2;go_ret;exact⟨rfl,by rw[show((m+1+n:Nat):Int)=(m:Int)+1+(n:Int) by omega]⟩
theorem ns (L R:BT Int) (x:Int) (w:World) (hL:InT eI w L) (hR:InT eI w R) (hb:(lst L).length+1+(lst R).length≤4611686018427387904) :
  Calls Tryz.prog 230 #[L.ptr, .int .i64 x,R.ptr] w fun e w'=>e=.returned (.pointer (some ⟨w.heap.size,0,none⟩))∧InT eI w' (.node w.heap.size 0 x L R)∧Below w.heap.size w w':=by
 have sL:=vk L w hL;have sR:=vk R w hR;obtain⟨u,hu⟩:=ptr_pointer L;obtain⟨v,hv⟩:=ptr_pointer R;rw[hu]at sL ⊢;rw[hv]at sR ⊢;refine(iK u v _ _ x w sL sR hb).mono ?_;rintro e w' ⟨rfl,rfl⟩;have hB:=(Below.refl w.heap.size w).alloc (Nat.le_refl _) (.cells #[.int .i64 x, .int .i64 ((lst L).length+1+(lst R).length:Nat), .pointer u, .pointer v] 325);refine⟨rfl,⟨rfl,?_,?_,?_,?_,InT.below hB hL,InT.below hB hR⟩,hB⟩
 ·simp
 ·exact⟨by simp,_,(0,0),by
   show(w.heap.push _)[w.heap.size]? = _
   rw[Array.getElem?_push,if_pos rfl];rfl⟩
 ·simp[hu]
 ·simp[hv]
theorem wJ {α:Type} [NTy α] {enc:α→Value}{w:World}{b o:Nat}{a:α}{l r:BT α}(h:InT enc w (.node b o a l r)):b<w.heap.size:=World.block_lt_of_cell? _ _ h.2.1
theorem inT_drewN {α:Type} [NTy α] {enc:α→Value}{w:World}{n:Nat}{T:BT α}(h:InT enc w T):InT enc (w.drewN n) T:=InT.drewN (w:=w) (w':=w.drewN n) rfl h
theorem xf {T:BT Int}{u:Option Addr}(hu:T.ptr=.pointer u){w:World}(h:InT eI w T) :
  Calls Tryz.prog 218 #[.pointer u] w fun e w'=>e=.returned (.int .i64 (lst T).length)∧w'=w:=by
 have:=vk T w h
 rwa [hu]at this
theorem yK {L R:BT Int}{u v:Option Addr}(hu:L.ptr=.pointer u) (hv:R.ptr=.pointer v) (x:Int){w:World}(hL:InT eI w L) (hR:InT eI w R) (hb:(lst L).length+1+(lst R).length≤4611686018427387904) :
  Calls Tryz.prog 230 #[.pointer u, .int .i64 x, .pointer v] w fun e w'=>e=.returned (.pointer (some ⟨w.heap.size,0,none⟩))∧InT eI w' (.node w.heap.size 0 x L R)∧Below w.heap.size w w':=by
 have:=ns L R x w hL hR hb
 rwa [hu,hv]at this
def rR (w:World) (l:List Int) (e:Ending) (w':World):Prop:=∃T:BT Int,e=.returned T.ptr∧InT eI w' T∧Below w.heap.size w w'∧lst T=l
theorem zJ {w w':World}{n:Nat}(h:Below (w.drewN n).heap.size (w.drewN n) w'):Below w.heap.size w w':=⟨h.os,h.tape,h.output,h.size,h.block⟩
theorem pM (L Rl Rr:BT Int) (x a:Int) (b:Nat) (w:World) (hL:InT eI w L) (hR:InT eI w (.node b 0 a Rl Rr)) (hb:(lst L).length+2+(lst Rl).length+(lst Rr).length≤4611686018427387) (hlt:(lst Rl).length<2*(lst Rr).length) :
  Calls Tryz.prog 265 #[L.ptr, .int .i64 x, .pointer (some ⟨b,0,none⟩)] w (rR w (lst L++x::lst (.node b 0 a Rl Rr))):=by
 have hblt:=wJ hR;have HR:Hid (InT eI w (.node b 0 a Rl Rr)):=hR;obtain⟨_,c0,c1,c2,c3,hl,hr⟩:=hR;obtain⟨u,hu⟩:=ptr_pointer L;obtain⟨ul,hul⟩:=ptr_pointer Rl;obtain⟨ur,hur⟩:=ptr_pointer Rr;rw[hu];rw[hul]at c2;rw[hur]at c3;have HU:=zx hu;have HUL:=zx hul;have HUR:=zx hur;have HL:Hid (InT eI w L):=hL;have Hl:Hid (InT eI w Rl):=hl;have Hr:Hid (InT eI w Rr):=hr
 have hq:((lst Rl).length:Int)<2*((lst Rr).length:Int):=by omega
 clear hu hul hur hL hl hr c1 hlt
 go_enter Tryz.func265,Tryz.ntmps265
 go_wp2_with fail
 go_quiet (first
  | (go_at_call_of 218 (Value.pointer ul);refine Calls.quiet_of_same (xf HUL.out ?_);exact inT_drewN Hl.out)
  | (go_at_call_of 218 (Value.pointer ur);refine Calls.quiet_of_same (xf HUR.out ?_);exact inT_drewN Hr.out))
 go_wp2_with fail;clear c2
 go_region_held3 (fun w'=>w'.cell? ⟨b,0,none⟩=some (.int .i64 a)∧w'.cell? ⟨b,3,none⟩=some (.pointer ur)) (first|exact⟨by assumption,by assumption⟩|go_keep)
  (first
   | (go_at_call_of 230 (Value.pointer ul);refine(yK HU.out HUL.out x (by exact inT_drewN HL.out) (by exact inT_drewN Hl.out) (by omega)).mono ?_;rintro e w1 ⟨rfl,hT1,hB1⟩;have k0:w1.cell? ⟨b,0,none⟩=some (.int .i64 a):=(hB1.cell (p:=⟨b,0,none⟩) hblt).trans c0;have k3:w1.cell? ⟨b,3,none⟩=some (.pointer ur):=(hB1.cell (p:=⟨b,3,none⟩) hblt).trans c3;have hlt1:b<w1.heap.size:=World.block_lt_of_cell? _ _ k0;have HT1:=zx hT1;have HB1:=zx hB1;clear hT1 hB1)
   | (go_at_call_of 230 (Value.pointer ur);refine(yK (L:=.node _ 0 x L Rl) rfl HUR.out a (by exact HT1.out) (by exact InT.below HB1.out (inT_drewN Hr.out)) (by simp[lst];omega)).mono ?_;rintro e w2 ⟨rfl,hT2,hB2⟩;have j0:w2.cell? ⟨b,0,none⟩=some (.int .i64 a):=(hB2.cell (p:=⟨b,0,none⟩) hlt1).trans k0;have j3:w2.cell? ⟨b,3,none⟩=some (.pointer ur):=(hB2.cell (p:=⟨b,3,none⟩) hlt1).trans k3;have HT2:=zx hT2;have HB2:=zx hB2;clear hT2 hB2))
 go_wp2;go_ret;exact⟨.node _ 0 a (.node _ 0 x L Rl) Rr,rfl,HT2.out,(zJ HB1.out).trans (HB2.out.mono (zJ HB1.out).size),by simp[lst]⟩
theorem pN (L l2 r2 Rr:BT Int) (x a a2:Int) (b b2:Nat) (w:World) (hL:InT eI w L) (hR:InT eI w (.node b 0 a (.node b2 0 a2 l2 r2) Rr)) (hb:(lst L).length+3+(lst l2).length+(lst r2).length+(lst Rr).length≤4611686018427387) (hlt:¬(lst (.node b2 0 a2 l2 r2)).length<2*(lst Rr).length) :
  Calls Tryz.prog 265 #[L.ptr, .int .i64 x, .pointer (some ⟨b,0,none⟩)] w (rR w (lst L++x::lst (.node b 0 a (.node b2 0 a2 l2 r2) Rr))):=by
 have hblt:=wJ hR;obtain⟨_,c0,c1,c2,c3,hl,hr⟩:=hR;have hblt2:=wJ hl;have Hl:Hid (InT eI w (.node b2 0 a2 l2 r2)):=hl;obtain⟨_,d0,d1,d2,d3,hl2,hr2⟩:=hl;obtain⟨u,hu⟩:=ptr_pointer L;obtain⟨ul,hul⟩:=ptr_pointer l2;obtain⟨um,hum⟩:=ptr_pointer r2;obtain⟨ur,hur⟩:=ptr_pointer Rr;rw[hu];have c2':w.cell? ⟨b,2,none⟩=some (.pointer (some ⟨b2,0,none⟩)):=c2;rw[hul]at d2;rw[hum]at d3;rw[hur]at c3;have HU:=zx hu;have HUL:=zx hul;have HUM:=zx hum;have HUR:=zx hur;have HL:Hid (InT eI w L):=hL;have Hl2:Hid (InT eI w l2):=hl2;have Hr2:Hid (InT eI w r2):=hr2;have Hr:Hid (InT eI w Rr):=hr
 have hq:¬((lst (.node b2 0 a2 l2 r2)).length:Int)<2*((lst Rr).length:Int):=by omega
 have hqs:(lst (.node b2 0 a2 l2 r2)).length≤4611686018427387:=by simp[lst];omega
 clear hu hul hum hur hL hl2 hr2 hr c1 c2 d1 hlt
 go_enter Tryz.func265,Tryz.ntmps265
 go_wp2_with fail
 go_quiet (first
  | (go_at_call_of 218 (Value.pointer (some ⟨b2,0,none⟩));refine Calls.quiet_of_same (xf (T:=.node b2 0 a2 l2 r2) rfl ?_);exact inT_drewN Hl.out)
  | (go_at_call_of 218 (Value.pointer ur);refine Calls.quiet_of_same (xf HUR.out ?_);exact inT_drewN Hr.out))
 go_wp2_with fail;clear c2'
 go_region_held3 (fun w'=>w'.cell? ⟨b,0,none⟩=some (.int .i64 a)∧w'.cell? ⟨b,3,none⟩=some (.pointer ur)∧w'.cell? ⟨b2,0,none⟩=some (.int .i64 a2)∧w'.cell? ⟨b2,2,none⟩=some (.pointer ul)∧w'.cell? ⟨b2,3,none⟩=some (.pointer um)) (first|exact⟨by assumption,by assumption,by assumption,by assumption,by assumption⟩|go_keep)
  (first
   | (go_at_call_of 230 (Value.pointer ul);refine(yK HU.out HUL.out x (by exact inT_drewN HL.out) (by exact inT_drewN Hl2.out) (by omega)).mono ?_;rintro e w1 ⟨rfl,hT1,hB1⟩;have k0:w1.cell? ⟨b,0,none⟩=some (.int .i64 a):=(hB1.cell (p:=⟨b,0,none⟩) hblt).trans c0;have k3:w1.cell? ⟨b,3,none⟩=some (.pointer ur):=(hB1.cell (p:=⟨b,3,none⟩) hblt).trans c3;have i0:w1.cell? ⟨b2,0,none⟩=some (.int .i64 a2):=(hB1.cell (p:=⟨b2,0,none⟩) hblt2).trans d0;have i2:w1.cell? ⟨b2,2,none⟩=some (.pointer ul):=(hB1.cell (p:=⟨b2,2,none⟩) hblt2).trans d2;have i3:w1.cell? ⟨b2,3,none⟩=some (.pointer um):=(hB1.cell (p:=⟨b2,3,none⟩) hblt2).trans d3;have hlt1:b<w1.heap.size:=World.block_lt_of_cell? _ _ k0;have hlt2:b2<w1.heap.size:=World.block_lt_of_cell? _ _ i0;have HT1:=zx hT1;have HB1:=zx hB1;clear hT1 hB1)
   | (go_at_call_of 230 (Value.pointer um);refine(yK HUM.out HUR.out a (by exact InT.below HB1.out (inT_drewN Hr2.out)) (by exact InT.below HB1.out (inT_drewN Hr.out)) (by omega)).mono ?_;rintro e w2 ⟨rfl,hT2,hB2⟩;have j0:w2.cell? ⟨b,0,none⟩=some (.int .i64 a):=(hB2.cell (p:=⟨b,0,none⟩) hlt1).trans k0;have j3:w2.cell? ⟨b,3,none⟩=some (.pointer ur):=(hB2.cell (p:=⟨b,3,none⟩) hlt1).trans k3;have f0:w2.cell? ⟨b2,0,none⟩=some (.int .i64 a2):=(hB2.cell (p:=⟨b2,0,none⟩) hlt2).trans i0;have f2:w2.cell? ⟨b2,2,none⟩=some (.pointer ul):=(hB2.cell (p:=⟨b2,2,none⟩) hlt2).trans i2;have f3:w2.cell? ⟨b2,3,none⟩=some (.pointer um):=(hB2.cell (p:=⟨b2,3,none⟩) hlt2).trans i3;have hlt3:b<w2.heap.size:=World.block_lt_of_cell? _ _ j0;have hlt4:b2<w2.heap.size:=World.block_lt_of_cell? _ _ f0;have HT2:=zx hT2;have HB2:=zx hB2;clear hT2 hB2)
   | (go_at_call_of 230 (Value.int .i64 a2);refine(yK (L:=.node _ 0 x L l2) (R:=.node _ 0 a r2 Rr) rfl rfl a2 (by exact InT.below HB2.out HT1.out) (by exact HT2.out) (by simp[lst];omega)).mono ?_;rintro e w3 ⟨rfl,hT3,hB3⟩;have j0':w3.cell? ⟨b,0,none⟩=some (.int .i64 a):=(hB3.cell (p:=⟨b,0,none⟩) hlt3).trans j0;have j3':w3.cell? ⟨b,3,none⟩=some (.pointer ur):=(hB3.cell (p:=⟨b,3,none⟩) hlt3).trans j3;have f0':w3.cell? ⟨b2,0,none⟩=some (.int .i64 a2):=(hB3.cell (p:=⟨b2,0,none⟩) hlt4).trans f0;have f2':w3.cell? ⟨b2,2,none⟩=some (.pointer ul):=(hB3.cell (p:=⟨b2,2,none⟩) hlt4).trans f2;have f3':w3.cell? ⟨b2,3,none⟩=some (.pointer um):=(hB3.cell (p:=⟨b2,3,none⟩) hlt4).trans f3;have HT3:=zx hT3;have HB3:=zx hB3;clear hT3 hB3))
 go_wp2;go_ret;exact⟨.node _ 0 a2 (.node _ 0 x L l2) (.node _ 0 a r2 Rr),rfl,HT3.out,((zJ HB1.out).trans (HB2.out.mono (zJ HB1.out).size)).trans (HB3.out.mono (Nat.le_trans (zJ HB1.out).size HB2.out.size)),by simp[lst]⟩
theorem rP (R Ll Lr:BT Int) (x a:Int) (b:Nat) (w:World) (hR:InT eI w R) (hL:InT eI w (.node b 0 a Ll Lr)) (hb:(lst R).length+2+(lst Ll).length+(lst Lr).length≤4611686018427387) (hlt:(lst Lr).length<2*(lst Ll).length) :
  Calls Tryz.prog 266 #[.pointer (some ⟨b,0,none⟩), .int .i64 x,R.ptr] w (rR w (lst (.node b 0 a Ll Lr)++x::lst R)):=by
 have hblt:=wJ hL;obtain⟨_,c0,c1,c2,c3,hl,hr⟩:=hL;obtain⟨u,hu⟩:=ptr_pointer R;obtain⟨ul,hul⟩:=ptr_pointer Ll;obtain⟨ur,hur⟩:=ptr_pointer Lr;rw[hu];rw[hul]at c2;rw[hur]at c3;have HU:=zx hu;have HUL:=zx hul;have HUR:=zx hur;have HR:Hid (InT eI w R):=hR;have Hl:Hid (InT eI w Ll):=hl;have Hr:Hid (InT eI w Lr):=hr
 have hq:((lst Lr).length:Int)<2*((lst Ll).length:Int):=by omega
 clear hu hul hur hR hl hr c1 hlt
 go_enter Tryz.func266,Tryz.ntmps266
 go_wp2_with fail
 go_quiet (first
  | (go_at_call_of 218 (Value.pointer ul);refine Calls.quiet_of_same (xf HUL.out ?_);exact inT_drewN Hl.out)
  | (go_at_call_of 218 (Value.pointer ur);refine Calls.quiet_of_same (xf HUR.out ?_);exact inT_drewN Hr.out))
 go_wp2_with fail;clear c3
 go_region_held3 (fun w'=>w'.cell? ⟨b,0,none⟩=some (.int .i64 a)∧w'.cell? ⟨b,2,none⟩=some (.pointer ul)) (first|exact⟨by assumption,by assumption⟩|go_keep)
  (first
   | (go_at_call_of 230 (Value.pointer ur);refine(yK HUR.out HU.out x (by exact inT_drewN Hr.out) (by exact inT_drewN HR.out) (by omega)).mono ?_;rintro e w1 ⟨rfl,hT1,hB1⟩;have k0:w1.cell? ⟨b,0,none⟩=some (.int .i64 a):=(hB1.cell (p:=⟨b,0,none⟩) hblt).trans c0;have k2:w1.cell? ⟨b,2,none⟩=some (.pointer ul):=(hB1.cell (p:=⟨b,2,none⟩) hblt).trans c2;have hlt1:b<w1.heap.size:=World.block_lt_of_cell? _ _ k0;have HT1:=zx hT1;have HB1:=zx hB1;clear hT1 hB1)
   | (go_at_call_of 230 (Value.pointer ul);refine(yK (R:=.node _ 0 x Lr R) HUL.out rfl a (by exact InT.below HB1.out (inT_drewN Hl.out)) (by exact HT1.out) (by simp[lst];omega)).mono ?_;rintro e w2 ⟨rfl,hT2,hB2⟩;have j0:w2.cell? ⟨b,0,none⟩=some (.int .i64 a):=(hB2.cell (p:=⟨b,0,none⟩) hlt1).trans k0;have j2:w2.cell? ⟨b,2,none⟩=some (.pointer ul):=(hB2.cell (p:=⟨b,2,none⟩) hlt1).trans k2;have HT2:=zx hT2;have HB2:=zx hB2;clear hT2 hB2))
 go_wp2;go_ret;exact⟨.node _ 0 a Ll (.node _ 0 x Lr R),rfl,HT2.out,(zJ HB1.out).trans (HB2.out.mono (zJ HB1.out).size),by simp[lst]⟩
theorem rQ (R l2 r2 Ll:BT Int) (x a a2:Int) (b b2:Nat) (w:World) (hR:InT eI w R) (hL:InT eI w (.node b 0 a Ll (.node b2 0 a2 l2 r2))) (hb:(lst R).length+3+(lst l2).length+(lst r2).length+(lst Ll).length≤4611686018427387) (hlt:¬(lst (.node b2 0 a2 l2 r2)).length<2*(lst Ll).length) :
  Calls Tryz.prog 266 #[.pointer (some ⟨b,0,none⟩), .int .i64 x,R.ptr] w (rR w (lst (.node b 0 a Ll (.node b2 0 a2 l2 r2))++x::lst R)):=by
 have hblt:=wJ hL;obtain⟨_,c0,c1,c2,c3,hl,hr⟩:=hL;have hblt2:=wJ hr;have Hr:Hid (InT eI w (.node b2 0 a2 l2 r2)):=hr;obtain⟨_,d0,d1,d2,d3,hl2,hr2⟩:=hr;obtain⟨u,hu⟩:=ptr_pointer R;obtain⟨ul,hul⟩:=ptr_pointer l2;obtain⟨um,hum⟩:=ptr_pointer r2;obtain⟨ur,hur⟩:=ptr_pointer Ll;rw[hu];have c3':w.cell? ⟨b,3,none⟩=some (.pointer (some ⟨b2,0,none⟩)):=c3;rw[hul]at d2;rw[hum]at d3;rw[hur]at c2;have HU:=zx hu;have HUL:=zx hul;have HUM:=zx hum;have HUR:=zx hur;have HR:Hid (InT eI w R):=hR;have Hl2:Hid (InT eI w l2):=hl2;have Hr2:Hid (InT eI w r2):=hr2;have Hl:Hid (InT eI w Ll):=hl
 have hq:¬((lst (.node b2 0 a2 l2 r2)).length:Int)<2*((lst Ll).length:Int):=by omega
 have hqs:(lst (.node b2 0 a2 l2 r2)).length≤4611686018427387:=by simp[lst];omega
 clear hu hul hum hur hR hl2 hr2 hl c1 c3 d1 hlt
 go_enter Tryz.func266,Tryz.ntmps266
 go_wp2_with fail
 go_quiet (first
  | (go_at_call_of 218 (Value.pointer (some ⟨b2,0,none⟩));refine Calls.quiet_of_same (xf (T:=.node b2 0 a2 l2 r2) rfl ?_);exact inT_drewN Hr.out)
  | (go_at_call_of 218 (Value.pointer ur);refine Calls.quiet_of_same (xf HUR.out ?_);exact inT_drewN Hl.out))
 go_wp2_with fail;clear c3'
 go_region_held3 (fun w'=>w'.cell? ⟨b,0,none⟩=some (.int .i64 a)∧w'.cell? ⟨b,2,none⟩=some (.pointer ur)∧w'.cell? ⟨b2,0,none⟩=some (.int .i64 a2)∧w'.cell? ⟨b2,2,none⟩=some (.pointer ul)∧w'.cell? ⟨b2,3,none⟩=some (.pointer um)) (first|exact⟨by assumption,by assumption,by assumption,by assumption,by assumption⟩|go_keep)
  (first
   | (go_at_call_of 230 (Value.pointer ul);refine(yK HUR.out HUL.out a (by exact inT_drewN Hl.out) (by exact inT_drewN Hl2.out) (by omega)).mono ?_;rintro e w1 ⟨rfl,hT1,hB1⟩;have k0:w1.cell? ⟨b,0,none⟩=some (.int .i64 a):=(hB1.cell (p:=⟨b,0,none⟩) hblt).trans c0;have k2:w1.cell? ⟨b,2,none⟩=some (.pointer ur):=(hB1.cell (p:=⟨b,2,none⟩) hblt).trans c2;have i0:w1.cell? ⟨b2,0,none⟩=some (.int .i64 a2):=(hB1.cell (p:=⟨b2,0,none⟩) hblt2).trans d0;have i2:w1.cell? ⟨b2,2,none⟩=some (.pointer ul):=(hB1.cell (p:=⟨b2,2,none⟩) hblt2).trans d2;have i3:w1.cell? ⟨b2,3,none⟩=some (.pointer um):=(hB1.cell (p:=⟨b2,3,none⟩) hblt2).trans d3;have hlt1:b<w1.heap.size:=World.block_lt_of_cell? _ _ k0;have hlt2:b2<w1.heap.size:=World.block_lt_of_cell? _ _ i0;have HT1:=zx hT1;have HB1:=zx hB1;clear hT1 hB1)
   | (go_at_call_of 230 (Value.pointer um);refine(yK HUM.out HU.out x (by exact InT.below HB1.out (inT_drewN Hr2.out)) (by exact InT.below HB1.out (inT_drewN HR.out)) (by omega)).mono ?_;rintro e w2 ⟨rfl,hT2,hB2⟩;have j0:w2.cell? ⟨b,0,none⟩=some (.int .i64 a):=(hB2.cell (p:=⟨b,0,none⟩) hlt1).trans k0;have j2:w2.cell? ⟨b,2,none⟩=some (.pointer ur):=(hB2.cell (p:=⟨b,2,none⟩) hlt1).trans k2;have f0:w2.cell? ⟨b2,0,none⟩=some (.int .i64 a2):=(hB2.cell (p:=⟨b2,0,none⟩) hlt2).trans i0;have f2:w2.cell? ⟨b2,2,none⟩=some (.pointer ul):=(hB2.cell (p:=⟨b2,2,none⟩) hlt2).trans i2;have f3:w2.cell? ⟨b2,3,none⟩=some (.pointer um):=(hB2.cell (p:=⟨b2,3,none⟩) hlt2).trans i3;have hlt3:b<w2.heap.size:=World.block_lt_of_cell? _ _ j0;have hlt4:b2<w2.heap.size:=World.block_lt_of_cell? _ _ f0;have HT2:=zx hT2;have HB2:=zx hB2;clear hT2 hB2)
   | (go_at_call_of 230 (Value.int .i64 a2);refine(yK (L:=.node _ 0 a Ll l2) (R:=.node _ 0 x r2 R) rfl rfl a2 (by exact InT.below HB2.out HT1.out) (by exact HT2.out) (by simp[lst];omega)).mono ?_;rintro e w3 ⟨rfl,hT3,hB3⟩;have j0':w3.cell? ⟨b,0,none⟩=some (.int .i64 a):=(hB3.cell (p:=⟨b,0,none⟩) hlt3).trans j0;have j2':w3.cell? ⟨b,2,none⟩=some (.pointer ur):=(hB3.cell (p:=⟨b,2,none⟩) hlt3).trans j2;have f0':w3.cell? ⟨b2,0,none⟩=some (.int .i64 a2):=(hB3.cell (p:=⟨b2,0,none⟩) hlt4).trans f0;have f2':w3.cell? ⟨b2,2,none⟩=some (.pointer ul):=(hB3.cell (p:=⟨b2,2,none⟩) hlt4).trans f2;have f3':w3.cell? ⟨b2,3,none⟩=some (.pointer um):=(hB3.cell (p:=⟨b2,3,none⟩) hlt4).trans f3;have HT3:=zx hT3;have HB3:=zx hB3;clear hT3 hB3))
 go_wp2;go_ret;exact⟨.node _ 0 a2 (.node _ 0 a Ll l2) (.node _ 0 x r2 R),rfl,HT3.out,((zJ HB1.out).trans (HB2.out.mono (zJ HB1.out).size)).trans (HB3.out.mono (Nat.le_trans (zJ HB1.out).size HB2.out.size)),by simp[lst]⟩
theorem pL (L R:BT Int) (x:Int) (w:World) (hL:InT eI w L) (hR:InT eI w R) (hb:(lst L).length+1+(lst R).length≤4611686018427) (hgt:3*(lst L).length<(lst R).length) (h2:2≤(lst L).length+(lst R).length) :
  Calls Tryz.prog 265 #[L.ptr, .int .i64 x,R.ptr] w (rR w (lst L++x::lst R)):=by
 cases R with
 | nil=>simp[lst]at hgt
 | node b o a Rl Rr=>
  have ho:o=0:=hR.1;subst ho
  have hlen:(lst (.node b 0 a Rl Rr)).length=(lst Rl).length+1+(lst Rr).length:=by simp[lst];omega
  rw[hlen]at hb hgt h2;clear hlen;by_cases c:(lst Rl).length<2*(lst Rr).length
  ·exact pM L Rl Rr x a b w hL hR (by omega) c
  ·cases Rl with
   | nil=>exfalso;simp only[lst,List.length_nil]at c hb hgt h2;omega
   | node b2 o2 a2 l2 r2=>
    have ho:o2=0:=hR.2.2.2.2.2.1.1;subst ho
    have hlen:(lst (.node b2 0 a2 l2 r2)).length=(lst l2).length+1+(lst r2).length:=by simp[lst];omega
    exact pN L l2 r2 Rr x a a2 b b2 w hL hR (by omega) c
theorem rN (L R:BT Int) (x:Int) (w:World) (hL:InT eI w L) (hR:InT eI w R) (hb:(lst L).length+1+(lst R).length≤4611686018427) (hgt:3*(lst R).length<(lst L).length) (h2:2≤(lst L).length+(lst R).length) :
  Calls Tryz.prog 266 #[L.ptr, .int .i64 x,R.ptr] w (rR w (lst L++x::lst R)):=by
 cases L with
 | nil=>simp[lst]at hgt
 | node b o a Ll Lr=>
  have ho:o=0:=hL.1;subst ho
  have hlen:(lst (.node b 0 a Ll Lr)).length=(lst Ll).length+1+(lst Lr).length:=by simp[lst];omega
  rw[hlen]at hb hgt h2;clear hlen;by_cases c:(lst Lr).length<2*(lst Ll).length
  ·exact rP R Ll Lr x a b w hR hL (by omega) c
  ·cases Lr with
   | nil=>exfalso;simp only[lst,List.length_nil]at c hb hgt h2;omega
   | node b2 o2 a2 l2 r2=>
    have ho:o2=0:=hL.2.2.2.2.2.2.1;subst ho
    have hlen:(lst (.node b2 0 a2 l2 r2)).length=(lst l2).length+1+(lst r2).length:=by simp[lst];omega
    exact rQ R l2 r2 Ll x a a2 b b2 w hR hL (by omega) c
theorem iL (L R:BT Int) (x:Int) (w:World) (hL:InT eI w L) (hR:InT eI w R) (hb:(lst L).length+1+(lst R).length≤4611686018427) :
  Calls Tryz.prog 230 #[L.ptr, .int .i64 x,R.ptr] w (rR w (lst L++x::lst R)):=by
 refine(ns L R x w hL hR (by omega)).mono ?_;rintro e w' ⟨rfl,hT,hB⟩;exact⟨.node w.heap.size 0 x L R,rfl,hT,hB,rfl⟩
theorem ou (u v:Option Addr) (m n:Nat) (x:Int) (w:World) (Q:Ending→World→Prop) (hm:m≤4611686018427) (hn:n≤4611686018427)
  (sL:Hid (Calls Tryz.prog 218 #[.pointer u] w fun e w'=>e=.returned (.int .i64 m)∧w'=w)) (sR:Hid (Calls Tryz.prog 218 #[.pointer v] w fun e w'=>e=.returned (.int .i64 n)∧w'=w))
  (jn:Hid (Calls Tryz.prog 230 #[.pointer u, .int .i64 x, .pointer v] w fun e w'=>(∃p,e=.returned (.pointer p))∧Q e w'))
  (tl:Hid (3*m<n→2≤m+n→Calls Tryz.prog 265 #[.pointer u, .int .i64 x, .pointer v] w fun e w'=>(∃p,e=.returned (.pointer p))∧Q e w'))
  (tr:Hid (3*n<m→2≤m+n→Calls Tryz.prog 266 #[.pointer u, .int .i64 x, .pointer v] w fun e w'=>(∃p,e=.returned (.pointer p))∧Q e w')) :
  Calls Tryz.prog 232 #[.pointer u, .int .i64 x, .pointer v] w Q:=by
 go_enter Tryz.func232,Tryz.ntmps232
 go_wp2_with fail;refine sL.out.mono ?_;rintro e w' ⟨rfl,hw⟩;subst hw;go_wp2_with fail;refine sR.out.mono ?_;rintro e w' ⟨rfl,hw⟩;subst hw
 go_wp2_with (first
  | (go_at_call 230;refine jn.out.mono ?_;rintro e w1 ⟨⟨p,rfl⟩,hQ⟩)
  | (go_at_call 265;refine(tl.out (by omega) (by omega)).mono ?_;rintro e w1 ⟨⟨p,rfl⟩,hQ⟩)
  | (go_at_call 266;refine(tr.out (by omega) (by omega)).mono ?_;rintro e w1 ⟨⟨p,rfl⟩,hQ⟩))
 all_goals exact hQ
theorem wG {w:World}{l:List Int}{e:Ending}{w':World}(h:rR w l e w'):(∃p,e=.returned (.pointer p))∧rR w l e w':=by
 refine⟨?_,h⟩;obtain⟨T,rfl,_⟩:=h;obtain⟨p,hp⟩:=ptr_pointer T;exact⟨p,by rw[hp]⟩
theorem mY (L R:BT Int) (x:Int) (w:World) (hL:InT eI w L) (hR:InT eI w R) (hb:(lst L).length+1+(lst R).length≤4611686018427) :
  Calls Tryz.prog 232 #[L.ptr, .int .i64 x,R.ptr] w (rR w (lst L++x::lst R)):=by
 have sL:=vk L w hL;have sR:=vk R w hR
 have jn:=(iL L R x w hL hR hb).mono fun e w' h=>wG h
 have tl:=fun h1 h2=>(pL L R x w hL hR hb h1 h2).mono fun e w' h=>wG h
 have tr:=fun h1 h2=>(rN L R x w hL hR hb h1 h2).mono fun e w' h=>wG h
 obtain⟨u,hu⟩:=ptr_pointer L;obtain⟨v,hv⟩:=ptr_pointer R;rw[hu]at sL;rw[hv]at sR;simp only[hu,hv]at jn tl tr ⊢;exact ou u v _ _ x w _ (by omega) (by omega) sL sR jn tl tr
theorem ny (x y:Int) (w:World):Calls Tryz.prog 231 #[.int .i64 x, .int .i64 y] w fun e w'=>e=.returned (.bool (decide (x<y)))∧w'=w:=by
 go_enter Tryz.func231,Tryz.ntmps231
 go_wp2
 all_goals go_ret
 all_goals exact⟨by simp,rfl⟩
theorem cmp_lt (x y:Int) (w:World) (h:x<y):Calls Tryz.prog 229 #[.int .i64 x, .int .i64 y] w fun e w'=>e=.returned (.int .i64 (-1))∧w'=w:=by
 go_enter Tryz.func229,Tryz.ntmps229
 go_wp2;go_ret;exact⟨rfl,rfl⟩
theorem cmp_gt (x y:Int) (w:World) (h:y<x):Calls Tryz.prog 229 #[.int .i64 x, .int .i64 y] w fun e w'=>e=.returned (.int .i64 1)∧w'=w:=by
 have h':¬x<y:=by omega
 go_enter Tryz.func229,Tryz.ntmps229
 go_wp2;go_ret;exact⟨rfl,rfl⟩
theorem cmp_eq (x:Int) (w:World):Calls Tryz.prog 229 #[.int .i64 x, .int .i64 x] w fun e w'=>e=.returned (.int .i64 0)∧w'=w:=by
 have h':¬x<x:=by omega
 go_enter Tryz.func229,Tryz.ntmps229
 go_wp2;go_ret;exact⟨rfl,rfl⟩
def TreeP (w:World) (l:List Int) (e:Ending) (w':World):Prop:=∃p,∃T:BT Int,e=.returned (.pointer p)∧T.ptr=.pointer p∧InT eI w' T∧Below w.heap.size w w'∧lst T=l
theorem rk {L R:BT Int}{u v:Option Addr}(hu:L.ptr=.pointer u) (hv:R.ptr=.pointer v) (x:Int){w:World}(hL:InT eI w L) (hR:InT eI w R) (hb:(lst L).length+1+(lst R).length≤4611686018427) :
  Calls Tryz.prog 232 #[.pointer u, .int .i64 x, .pointer v] w (TreeP w (lst L++x::lst R)):=by
 have:=mY L R x w hL hR hb;rw[hu,hv]at this;refine this.mono ?_;rintro e w' ⟨T,rfl,h1,h2,h3⟩;obtain⟨p,hp⟩:=ptr_pointer T;exact⟨p,T,by rw[hp],hp,h1,h2,h3⟩
def gg (w:World) (l:List Int) (x:Int) (e:Ending) (w':World):Prop:=∃p,∃T:BT Int,e=.returned (.pointer p)∧T.ptr=.pointer p∧InT eI w' T∧Below w.heap.size w w'∧bI (fun a b:Int=>a<b) l x (lst T)
def uK (x:Int) (T:BT Int):Prop:=∀(u:Option Addr) (w:World),T.ptr=.pointer u→InT eI w T→(lst T).Pairwise (fun a b:Int=>a<b)→¬x∈lst T→(lst T).length+1≤4611686018427 →
 Calls Tryz.prog 164 #[.pointer u, .int .i64 x] w (gg w (lst T) x)
theorem fh (x:Int):uK x .nil:=by
 intro u w hu _ _ _ _
 have hu':u=none:=by
  have:Value.pointer none=.pointer u:=hu
  injection this with h
  exact h.symm
 subst hu';clear hu
 go_enter Tryz.func164,Tryz.ntmps164
 go_wp2_with fail;refine(yK (L:=.nil) (R:=.nil) rfl rfl x trivial trivial (by simp[lst])).mono ?_;rintro e w1 ⟨rfl,hT1,hB1⟩;have HT1:=zx hT1;have HB1:=zx hB1;clear hT1 hB1;go_wp2;go_ret;exact⟨_, .node _ 0 x .nil .nil,rfl,rfl,HT1.out,HB1.out,cR x⟩
theorem jF (x a:Int) (b:Nat) (l r:BT Int) (ih:uK x l) (u:Option Addr) (w:World) (hu:(BT.node b 0 a l r).ptr=.pointer u) (h:InT eI w (.node b 0 a l r)) (hup:(lst (.node b 0 a l r)).Pairwise (fun a b:Int=>a<b)) (hx:¬x∈lst (.node b 0 a l r)) (hb:(lst (.node b 0 a l r)).length+1≤4611686018427) (hxa:x<a) :
  Calls Tryz.prog 164 #[.pointer u, .int .i64 x] w (gg w (lst (.node b 0 a l r)) x):=by
 have hu':u=some ⟨b,0,none⟩:=by
  have:Value.pointer (some ⟨b,0,none⟩)=.pointer u:=hu
  injection this with h
  exact h.symm
 subst hu';have hblt:=wJ h;obtain⟨_,c0,c1,c2,c3,hl,hr⟩:=h;obtain⟨ul,hul⟩:=ptr_pointer l;obtain⟨ur,hur⟩:=ptr_pointer r;rw[hul]at c2;rw[hur]at c3
 have hlen:(lst (.node b 0 a l r)).length=(lst l).length+1+(lst r).length:=by simp[lst];omega
 rw[hlen]at hb;have HUR:=zx hur;have Hr:Hid (InT eI w r):=hr
 have IH:Hid (∀n,Calls Tryz.prog 164 #[.pointer ul, .int .i64 x] (w.drewN n) (gg (w.drewN n) (lst l) x)):=
  fun n=>ih ul _ hul (inT_drewN hl) (by have:=hup;rw[lst,List.pairwise_append]at this;exact this.1) (fun hm=>hx (by rw[lst];simp[hm])) (by omega)
 have HUP:=zx hup;clear hu ih hul hur hl hr c1 hup hx hlen
 go_enter Tryz.func164,Tryz.ntmps164
 go_wp2_with (go_at_call 231;refine(ny _ _ _).mono ?_;rintro e w' ⟨rfl,rfl⟩)
 go_region_held3 (fun w'=>w'.cell? ⟨b,0,none⟩=some (.int .i64 a)∧w'.cell? ⟨b,2,none⟩=some (.pointer ul)∧w'.cell? ⟨b,3,none⟩=some (.pointer ur)) (first|exact⟨by assumption,by assumption,by assumption⟩|go_keep)
  (first
   | (go_at_call 164;refine(IH.out 1).mono ?_;rintro e w1 ⟨p1,T1,rfl,hp1,hT1,hB1,hP1⟩;have k0:w1.cell? ⟨b,0,none⟩=some (.int .i64 a):=(hB1.cell (p:=⟨b,0,none⟩) hblt).trans c0;have k2:w1.cell? ⟨b,2,none⟩=some (.pointer ul):=(hB1.cell (p:=⟨b,2,none⟩) hblt).trans c2;have k3:w1.cell? ⟨b,3,none⟩=some (.pointer ur):=(hB1.cell (p:=⟨b,3,none⟩) hblt).trans c3;have hlt1:b<w1.heap.size:=World.block_lt_of_cell? _ _ k0;have hn1:=hP1.2.2;have HT1:=zx hT1;have HB1:=zx hB1;have HP1:=zx hP1;have Hp1:=zx hp1;clear hT1 hB1 hP1 hp1)
   | (go_at_call 232;refine(rk Hp1.out HUR.out a (by exact HT1.out) (by exact InT.below HB1.out (inT_drewN Hr.out)) (by omega)).mono ?_;rintro e w2 ⟨p2,T2,rfl,hp2,hT2,hB2,hL2⟩;have j0:w2.cell? ⟨b,0,none⟩=some (.int .i64 a):=(hB2.cell (p:=⟨b,0,none⟩) hlt1).trans k0;have j2:w2.cell? ⟨b,2,none⟩=some (.pointer ul):=(hB2.cell (p:=⟨b,2,none⟩) hlt1).trans k2;have j3:w2.cell? ⟨b,3,none⟩=some (.pointer ur):=(hB2.cell (p:=⟨b,3,none⟩) hlt1).trans k3;have HT2:=zx hT2;have HB2:=zx hB2;have HL2:=zx hL2;have Hp2:=zx hp2;clear hT2 hB2 hL2 hp2))
 go_wp2;go_ret;exact⟨p2,T2,rfl,Hp2.out,HT2.out,(zJ HB1.out).trans (HB2.out.mono (zJ HB1.out).size),by rw[HL2.out,lst];exact eW (by have:=HUP.out;rwa [lst]at this) vT hxa HP1.out⟩
theorem lj (x a:Int) (b:Nat) (l r:BT Int) (ih:uK x r) (u:Option Addr) (w:World) (hu:(BT.node b 0 a l r).ptr=.pointer u) (h:InT eI w (.node b 0 a l r)) (hup:(lst (.node b 0 a l r)).Pairwise (fun a b:Int=>a<b)) (hx:¬x∈lst (.node b 0 a l r)) (hb:(lst (.node b 0 a l r)).length+1≤4611686018427) (hxa:a<x) :
  Calls Tryz.prog 164 #[.pointer u, .int .i64 x] w (gg w (lst (.node b 0 a l r)) x):=by
 have hu':u=some ⟨b,0,none⟩:=by
  have:Value.pointer (some ⟨b,0,none⟩)=.pointer u:=hu
  injection this with h
  exact h.symm
 subst hu';have hblt:=wJ h;obtain⟨_,c0,c1,c2,c3,hl,hr⟩:=h;obtain⟨ul,hul⟩:=ptr_pointer l;obtain⟨ur,hur⟩:=ptr_pointer r;rw[hul]at c2;rw[hur]at c3
 have hlen:(lst (.node b 0 a l r)).length=(lst l).length+1+(lst r).length:=by simp[lst];omega
 rw[hlen]at hb;have HUL:=zx hul;have Hl:Hid (InT eI w l):=hl
 have IH:Hid (∀n,Calls Tryz.prog 164 #[.pointer ur, .int .i64 x] (w.drewN n) (gg (w.drewN n) (lst r) x)):=
  fun n=>ih ur _ hur (inT_drewN hr) (by have:=hup;rw[lst,List.pairwise_append,List.pairwise_cons]at this;exact this.2.1.2) (fun hm=>hx (by rw[lst];simp[hm])) (by omega)
 have HUP:=zx hup
 have hnx:¬x<a:=by omega
 clear hu ih hul hur hl hr c1 hup hx hlen
 go_enter Tryz.func164,Tryz.ntmps164
 go_wp2_with (go_at_call 231;refine(ny _ _ _).mono ?_;rintro e w' ⟨rfl,rfl⟩)
 go_region_held3 (fun w'=>w'.cell? ⟨b,0,none⟩=some (.int .i64 a)∧w'.cell? ⟨b,2,none⟩=some (.pointer ul)∧w'.cell? ⟨b,3,none⟩=some (.pointer ur)) (first|exact⟨by assumption,by assumption,by assumption⟩|go_keep)
  (first
   | (go_at_call 164;refine(IH.out 1).mono ?_;rintro e w1 ⟨p1,T1,rfl,hp1,hT1,hB1,hP1⟩;have k0:w1.cell? ⟨b,0,none⟩=some (.int .i64 a):=(hB1.cell (p:=⟨b,0,none⟩) hblt).trans c0;have k2:w1.cell? ⟨b,2,none⟩=some (.pointer ul):=(hB1.cell (p:=⟨b,2,none⟩) hblt).trans c2;have k3:w1.cell? ⟨b,3,none⟩=some (.pointer ur):=(hB1.cell (p:=⟨b,3,none⟩) hblt).trans c3;have hlt1:b<w1.heap.size:=World.block_lt_of_cell? _ _ k0;have hn1:=hP1.2.2;have HT1:=zx hT1;have HB1:=zx hB1;have HP1:=zx hP1;have Hp1:=zx hp1;clear hT1 hB1 hP1 hp1)
   | (go_at_call 232;refine(rk HUL.out Hp1.out a (by exact InT.below HB1.out (inT_drewN Hl.out)) (by exact HT1.out) (by omega)).mono ?_;rintro e w2 ⟨p2,T2,rfl,hp2,hT2,hB2,hL2⟩;have j0:w2.cell? ⟨b,0,none⟩=some (.int .i64 a):=(hB2.cell (p:=⟨b,0,none⟩) hlt1).trans k0;have j2:w2.cell? ⟨b,2,none⟩=some (.pointer ul):=(hB2.cell (p:=⟨b,2,none⟩) hlt1).trans k2;have j3:w2.cell? ⟨b,3,none⟩=some (.pointer ur):=(hB2.cell (p:=⟨b,3,none⟩) hlt1).trans k3;have HT2:=zx hT2;have HB2:=zx hB2;have HL2:=zx hL2;have Hp2:=zx hp2;clear hT2 hB2 hL2 hp2))
 go_wp2;go_ret;exact⟨p2,T2,rfl,Hp2.out,HT2.out,(zJ HB1.out).trans (HB2.out.mono (zJ HB1.out).size),by rw[HL2.out,lst];exact ig (by have:=HUP.out;rwa [lst]at this) vT hxa HP1.out⟩
theorem fg (x:Int) (T:BT Int):uK x T:=by
 induction T with
 | nil=>exact fh x
 | node b o a l r ihl ihr=>
  intro u w hu h hup hx hb;have ho:o=0:=h.1;subst ho
  rcases Int.lt_trichotomy x a with c|c|c
  ·exact jF x a b l r ihl u w hu h hup hx hb c
  ·exact absurd (by rw[lst];simp[c]) hx
  ·exact lj x a b l r ihr u w hu h hup hx hb c
def SetAt (w:World) (sb:Nat) (T:BT Int):Prop:=w.cell? ⟨sb,0,none⟩=some T.ptr∧w.frozen? ⟨sb,0,none⟩=false∧InT eI w T∧(lst T).Pairwise (fun a b:Int=>a<b)
theorem jd (sb:Nat) (T:BT Int) (x:Int) (w:World) (h:SetAt w sb T) :
  Calls Tryz.prog 163 #[.pointer (some ⟨sb,0,none⟩), .int .i64 x] w fun e w'=>e=.returned (.bool (decide (x∈lst T)))∧w'=w:=by
 obtain⟨hc,_,hT,hup⟩:=h;obtain⟨u,hu⟩:=ptr_pointer T;rw[hu]at hc;have HT:Hid (T.ptr=.pointer u∧InT eI w T∧(lst T).Pairwise (fun a b:Int=>a<b)):=⟨hu,hT,hup⟩;clear hu hT hup
 go_enter Tryz.func163,Tryz.ntmps163
 go_wp2_with fail
 go_loopg [5] (lst T).length (fun k p wr=>wr=w∧∃u',∃S:BT Int,p=.pointer u'∧(lst S).length=k∧S.ptr=.pointer u'∧InT eI w S∧(lst S).Pairwise (fun a b:Int=>a<b)∧decide (x∈lst S)=decide (x∈lst T))
 case atStart=>exact⟨rfl,u,T,rfl,rfl,HT.out.1,HT.out.2.1,HT.out.2.2,rfl⟩
 case round=>
  obtain⟨rfl,u',S,rfl,hk,hu',hS,hups,hin⟩:=hrel;have HIN:=zx hin;have HK:=zx hk;clear hin hk HT
  cases S with
  | nil=>
   have e:u'=none:=by
    have:Value.pointer none=.pointer u':=hu'
    injection this with h
    exact h.symm
   subst e;clear hu' hS hups;go_wp2;go_ret;exact⟨by rw[←HIN.out];simp[lst],rfl⟩
  | node b o a l r=>
   have ho:o=0:=hS.1;subst ho
   have e:u'=some ⟨b,0,none⟩:=by
    have:Value.pointer (some ⟨b,0,none⟩)=.pointer u':=hu'
    injection this with h
    exact h.symm
   subst e;obtain⟨_,c0,c1,c2,c3,hl,hr⟩:=hS;obtain⟨ul,hul⟩:=ptr_pointer l;obtain⟨ur,hur⟩:=ptr_pointer r;rw[hul]at c2;rw[hur]at c3;rw[lst]at hups;have HUPS:=zx hups;have HL:Hid (l.ptr=.pointer ul∧InT eI wr l):=⟨hul,hl⟩;have HR:Hid (r.ptr=.pointer ur∧InT eI wr r):=⟨hur,hr⟩;clear hu' c1 hul hur hl hr hups hc
   rcases Int.lt_trichotomy x a with c|c|c
   ·go_wp2_with (go_at_call 229;refine(cmp_lt _ _ _ c).mono ?_;rintro e w' ⟨rfl,rfl⟩)
    go_roundg (lst l).length
    case measure=>have:=HK.out;simp[lst]at this;omega
    case rel=>exact⟨rfl,ul,l,rfl,rfl,HL.out.1,HL.out.2,(List.pairwise_append.1 HUPS.out).1,by rw[←HIN.out,lst];exact decide_eq_decide.2 (eD HUPS.out vT c).symm⟩
   ·subst c;go_wp2_with (go_at_call 229;refine(cmp_eq _ _).mono ?_;rintro e w' ⟨rfl,rfl⟩);go_ret;exact⟨by rw[←HIN.out];simp[lst],rfl⟩
   ·go_wp2_with (go_at_call 229;refine(cmp_gt _ _ _ c).mono ?_;rintro e w' ⟨rfl,rfl⟩)
    go_roundg (lst r).length
    case measure=>have:=HK.out;simp[lst]at this;omega
    case rel=>exact⟨rfl,ur,r,rfl,rfl,HR.out.1,HR.out.2,(List.pairwise_cons.1 (List.pairwise_append.1 HUPS.out).2.1).2,by rw[←HIN.out,lst];exact decide_eq_decide.2 (eE HUPS.out vT c).symm⟩
end Go.Proofs.YtkncboinfcnklaaGreatDoor.WI
