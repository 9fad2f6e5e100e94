import Derived.Test.YtkncboinfcnklaaGreatDoorQ12
import Derived.RangeFuncBox
import Derived.RangeFuncLeaves
import Derived.Shelf.Abstract
import Derived.WalkKit
import Derived.OwnWalkIn
import Derived.TacticsInMore
import Derived.LoopNIn
import Derived.LoopIn
import Derived.Laws.OwnMore
import Derived.Test.YtkncboinfcnklaaGreatDoorQ5
import Derived.Deep.RegionLaw
set_option maxRecDepth 100000
set_option maxHeartbeats 8000000
namespace Go.Proofs.YtkncboinfcnklaaGreatDoor
open Go.RowKit Go.Deep Go.Proofs.YtkncboinfcnklaaGreatDoor.Mth
def oW (ρ:Nat→Nat) (g:Nat):Nat:=if ρ g=3 then 4 else ρ g
theorem xV {ρ:Nat→Nat}{g:Nat}(h:ρ g≠3):oW ρ g=ρ g:=if_neg h
theorem LogAt.toSeg {w:World}{ρ:Nat→Nat}{B N lb:Nat}{G:Gh}{L:Lg}(h:LogAt w ρ B N lb G L):LogX w (oW ρ) B N lb G L∧(∀k,yA G.ms G.mm G.me k→oW ρ k=4)∧(∀i,i<6→¬G.ms∈G.bs i)∧LStp w w ρ (oW ρ):=by
 refine⟨⟨LHd.role (ρ:=ρ) h.x.b (fun g q=>(xV (by omega)).trans q),LJ.role (ρ:=ρ) h.x.j (fun g q=>(xV (by omega)).trans q),LV.role (ρ:=ρ) h.x.v (fun g q=>xV (by rcases q with q|⟨i,_,q⟩ <;> omega)),LW.role (ρ:=ρ) h.x.k (fun g q=>xV (by rcases q with q|⟨i,_,q⟩ <;> omega)),LT.role (ρ:=ρ) h.x.t (fun g q=>(xV (by omega)).trans q),fun k q=>h.x.lt k (fun e=>?_)⟩,fun k q=>if_pos (h.m.rl k q),fun i hi q=>?_,Tch.refl _ _,fun k _ e=>?_⟩
 ·exact q (by rw[xV (by omega)];exact e)
 ·obtain⟨j,hj,e⟩:=List.mem_iff_getElem.1 q;have h4:=h.x.v.rs i hi j hj G.ms (Or.inl (by simp[List.getD,hj,e]));have h3:=h.m.rl G.ms (Or.inl rfl);omega
 ·rw[xV (by omega)];exact e
theorem LogX.newMem {w w':World}{ρ:Nat→Nat}{B N lb:Nat}{G:Gh}{L:Lg}(h:LogX w ρ B N lb G L) (hB:B≤w.heap.size){s mb:Nat}{es:List Ent}{ev:Value}(hn:NewSeg w w' B s es ev mb) :
  ∃ρ',LogAt (w'.setCell ⟨lb,7,none⟩ (zr s)) ρ' B N lb { G with ms:=s,mm:=mb,me:=ev } { L with mem:=es }∧LStp w (w'.setCell ⟨lb,7,none⟩ (zr s)) ρ ρ':=by
 have hx:=h.below hn.bel;have hk:=xC (P:=yA s mb ev) (c:=3) h.lt;have xb:=LHd.role (ρ:=ρ) hx.b (fun g q=>(hk g (by omega)).trans q);have xj:=LJ.role (ρ:=ρ) hx.j (fun g q=>(hk g (by omega)).trans q);have xv:=LV.role (ρ:=ρ) hx.v (fun g q=>hk g (by rcases q with q|⟨i,_,q⟩ <;> omega));have xk:=LW.role (ρ:=ρ) hx.k (fun g q=>hk g (by rcases q with q|⟨i,_,q⟩ <;> omega));have xt:=LT.role (ρ:=ρ) hx.t (fun g q=>(hk g (by omega)).trans q);have hlt:=tu (P:=yA s mb ev) (c:=3) h.lt hn.bel.size hB (fun k q=>(hn.seg.ownLt q).1);obtain⟨r1,r2⟩:=uP (N:=N) (G':={ G with ms:=s,mm:=mb,me:=ev }) (L':={ L with mem:=es }) xb hlt 7 (zr s) rfl ⟨xj.j,xj.rl⟩ ⟨xv.row,xv.len,xv.seg,xv.rr,xv.rs⟩ ⟨xk.row,xk.len,xk.one,xk.lst,xk.ok,xk.few,xk.ge,xk.rw,xk.rb,xk.rl⟩ ⟨xt.map,xt.rl,xt.ge⟩;have hlbw:lb<w.heap.size:=(h.lt lb (by rw[h.b.rl];omega)).1;refine⟨_,⟨r1,⟨hn.seg.same (fun g q=>zt (fun e=>?_)),fun k q=>vQ (hn.new k q) q⟩⟩,(⟨zH hn.bel,fun k hk2 e=>by rw[wm hk2];exact e⟩:LStp w w' ρ _).trans r2⟩;subst e
 rcases q with q|q
 ·have:=hn.new g q;omega
 ·exact qI xb.blk (by decide) q
theorem Laid.log {w w':World}{ρ:Nat→Nat}{B N lb:Nat}{G:Gh}{L:Lg}{ks:List Wk}(h:LM w ρ B G L) (hl:Laid w w' ρ B N lb G L ks):∃ρ' wl',LogAt w' ρ' B N lb { G with wl:=wl' } { L with wks:=ks }∧LStp w w' ρ ρ':=by
 obtain⟨⟨ρ',wl',r1,r2,r3,r4⟩⟩:=hl;have xm:=LM.role (ρ':=ρ') (h.same r4) (fun g q=>(r3 g (by omega)).trans q);exact⟨ρ',wl',⟨r1,⟨xm.seg,xm.rl⟩⟩,r2⟩
def Lg.roll (L:Lg):Lg:={ L with lev:=fun j=>if j=0 then L.lev j++[L.mem] else L.lev j,mem:=[],wks:=zO L.fan (fun i=>(if i=0 then L.lev i++[L.mem] else L.lev i).length) L.wks 5 }
def Lg.more (L:Lg) (e:Ent):Lg:={ L with mem:=L.mem++[e] }
def Lg.app (L:Lg) (s:ByteArray):Lg:={ (if L.memory≤L.mem.length then L.roll else L).more ⟨L.count,L.clock,s⟩with count:=L.count+1 }
structure GSame (G G':Gh):Prop where
 jb:G'.jb=G.jb
 db:G'.db=G.db
 sb:G'.sb=G.sb
theorem GSame.trans {G G1 G2:Gh}(h1:GSame G G1) (h2:GSame G1 G2):GSame G G2:=⟨h2.jb.trans h1.jb,h2.db.trans h1.db,h2.sb.trans h1.sb⟩
theorem LStp.box {w w':World}{ρ ρ':Nat→Nat}(h:LStp w w' ρ ρ'){bx:Nat}{D:Obj}(h0:ρ bx=0) (hb:w.heap[bx]? = some D):w'.heap[bx]? = some D∧ρ' bx=0:=by
 have hlt:=(Mth.gI hb);exact⟨(h.tch.block bx hlt (fun q=>q.1 h0)).trans hb,h.old bx hlt h0⟩
theorem LogAt.free {w:World}{ρ:Nat→Nat}{B N lb:Nat}{G:Gh}{L:Lg}(h:LogAt w ρ B N lb G L){k:Nat}(hk:w.heap.size≤k):ρ k=0:=by
 by_cases e:ρ k=0
 ·exact e
 ·have:=(h.x.lt k e).1;omega
theorem mX {w:World}{ρ:Nat→Nat}{B N lb:Nat}{G:Gh}{L:Lg}(h:LogAt w ρ B N lb G L) (s:ByteArray) (q:G.left≠0) (hs:60<s.size) (hs2:s.size≤1099511627776) :
  Calls Tryz.prog 26 #[zr lb, .string s] w fun e w'=>e=.returned (.tuple #[.int .i64 0, .int .i64 4])∧w'=w:=by
 have CS:=zx (wE h.x.j.j);rw[show(G.left == 0)=false from by simpa using q]at CS;obtain⟨c6,_⟩:=zy (j:=6) (u:=zr G.jb) h.x.b.blk rfl;clear h q
 have h60:(60:Int)<(s.size:Int):=by omega
 go_enter Tryz.func26,Tryz.ntmps26
 go_wp2_with (first|(go_at_call 56;refine CS.out.mono ?_;rintro e w2 ⟨rfl,hw⟩;rw[hw];clear hw w2));go_ret2;exact⟨rfl,rfl⟩
theorem mV {w:World}{ρ:Nat→Nat}{B N lb:Nat}{G:Gh}{L:Lg}(h:LogAt w ρ B N lb G L) (s:ByteArray) (q:G.left≠0) (hs:s.size≤60) (hf:L.memory≤L.mem.length) (hb:L.fan+L.back≤(L.lev 0).length) (hfan:L.fan≤4) (hback:L.back≤4) (hlv:(L.lev 0).length≤4000000) :
  Calls Tryz.prog 26 #[zr lb, .string s] w fun e w'=>e=.returned (.tuple #[.int .i64 0, .int .i64 5])∧Below w.heap.size w w':=by
 have CS:=zx (wE h.x.j.j);rw[show(G.left == 0)=false from by simpa using q]at CS;obtain⟨c6,_⟩:=zy (j:=6) (u:=zr G.jb) h.x.b.blk rfl;obtain⟨c1,_⟩:=zy (j:=1) (u:=.int .i64 (L.fan:Int)) h.x.b.blk rfl;obtain⟨c2,_⟩:=zy (j:=2) (u:=.int .i64 (L.back:Int)) h.x.b.blk rfl;obtain⟨a0,k0,hlr,hc0,hm0⟩:=zu (h.x.v.row 0 (by omega));obtain⟨c8,_⟩:=zy (j:=8) (u:=G.lr 0) h.x.b.blk rfl;rw[hlr,h.x.v.len 0 (by omega)]at c8
 have CF:Hid (∀d os,_):=fun d os=>Calls.regrown_of (w:=w) (d:=d) (os:=os) ((wH (h.below (below_regrown w d os))).mono fun e w' q=>⟨q.1,q.2⟩)
 rw[decide_eq_true hf]at CF;have e1:=cell_regrown c1;have e2:=cell_regrown c2;have e8:=cell_regrown c8;clear h q c1 c2 c8 hlr hc0 hm0;generalize (L.lev 0).length=nl at *;generalize L.fan=fan at *;generalize L.back=back at *;have hd:decide ((fan:Int)+(back:Int)≤(nl:Int))=true:=decide_eq_true (by omega)
 have hd2:(fan:Int)+(back:Int)≤(nl:Int):=by omega
 have h60:¬(60:Int)<(s.size:Int):=by omega
 go_enter Tryz.func26,Tryz.ntmps26
 go_wp2_with (first|(go_at_call 56;refine CS.out.mono ?_;rintro e w2 ⟨rfl,hw⟩;rw[hw];clear hw w2));refine wp_region_quiet_below (by kernel_rfl) (by kernel_rfl) ?_
 repeat(go_big_quiet_step (first|(go_at_call 57;exact CF.out _ _)))
 refine wpQuiet_nil ?_;intro _ hw';obtain⟨⟨dq,osq⟩,hw''⟩:=hw';subst hw'';go_wp2;go_ret2;exact⟨rfl,below_regrown w dq osq⟩
def TabB (B:Nat) (w:World):Prop:=∀w',Below B w w'→Tab w'
theorem TabB.now {B:Nat}{w:World}(h:TabB B w):Tab w:=h w (Below.refl _ _)
theorem TabB.next {B:Nat}{w w':World}(h:TabB B w) (hb:Below B w w'):TabB B w':=fun w2 h2=>h w2 (hb.trans h2)
structure Apd (w w':World) (ρ:Nat→Nat) (B N lb:Nat) (G:Gh) (L':Lg) (dt:ByteArray) (left:Int):Prop where
 ex:∃ρ' G',LogAt w' ρ' B N lb G' L'∧LStp w w' ρ ρ'∧GSame G G'∧G'.dt=dt∧G'.left=left
theorem Apd.pre {w w1 w2:World}{ρ ρ1:Nat→Nat}{B N lb:Nat}{G G1:Gh}{L':Lg}{dt:ByteArray}{left:Int}(h1:LStp w w1 ρ ρ1) (hg:GSame G G1) (h:Apd w1 w2 ρ1 B N lb G1 L' dt left):Apd w w2 ρ B N lb G L' dt left:=by
 obtain⟨⟨ρ',G',r1,r2,r3,r4,r5⟩⟩:=h;exact⟨⟨ρ',G',r1,h1.trans r2,hg.trans r3,r4,r5⟩⟩
theorem fH {w w':World}{ρ:Nat→Nat}{B N lb:Nat}{G:Gh}{L:Lg}(h:LogAt w ρ B N lb G L) (hB:B≤w.heap.size){e:Ent}{me':Value}(hm:SegStp w w' B G.ms G.mm G.me (L.mem++[e]) me'):Apd w w' ρ B N lb G (L.more e) G.dt G.left:=by
 obtain⟨ρ',r1,r2⟩:=h.mStep hB hm;exact⟨⟨ρ',_,r1,r2,⟨rfl,rfl,rfl⟩,rfl,rfl⟩⟩
theorem jS {w:World}{ρ:Nat→Nat}{B N lb bx:Nat}{G:Gh}{L:Lg}(h:LogAt w ρ B N lb G L) (hB:B≤w.heap.size) (ht:Tab w) (e:Ent) (hx:e.text.size≤60) (hl:L.mem.length≤1048576) (hbx:w.heap[bx]? = some (Obj.cells #[.int .i64 e.seq, .int .i64 e.time, .string e.text] 66 (0,0))) (h0:ρ bx=0) :
  Calls Tryz.prog 62 #[zr G.ms,eV e] w fun r w'=>r=.returned (.tuple #[])∧Apd w w' ρ B N lb G (L.more e) G.dt G.left∧w'.cell? ⟨bx,0,none⟩=some (.int .i64 e.seq):=by
 refine(rj h.m.seg hB ht e hx hl).mono ?_;rintro r w' ⟨rfl,ev',hs⟩;refine⟨rfl,fH h hB hs,?_⟩;obtain⟨ρ',_,r2⟩:=h.mStep hB hs;exact(zy (j:=0) (r2.box h0 hbx).1 rfl).1
theorem uT {w w':World}{ρ:Nat→Nat}{B N lb:Nat}{G:Gh}{L:Lg}{ks:List Wk}(h:LogAt w ρ B N lb G L) (hl:Laid w w' ρ B N lb G L ks):∃ρ' G',LogAt w' ρ' B N lb G' { L with wks:=ks }∧LStp w w' ρ ρ'∧GSame G G'∧G'.dt=G.dt∧G'.left=G.left∧G'.ms=G.ms:=by
 obtain⟨ρ',wl',r1,r2⟩:=hl.log h.m;exact⟨ρ',_,r1,r2,⟨rfl,rfl,rfl⟩,rfl,rfl,rfl⟩
theorem gm {w:World}{ρ:Nat→Nat}{B N lb:Nat}{G:Gh}{L:Lg}(h:LogAt w ρ B N lb G L) (hB:B≤w.heap.size) (ht:TabB B w) (s:ByteArray) (q0:G.left≠0) (q1:G.left≠1) (q2:-1≤G.left) (q3:G.left<9223372036854775808) (hs:s.size≤60) (hn:¬(L.memory≤L.mem.length∧L.fan+L.back≤(L.lev 0).length)) (hfan:L.fan≤4) (hback:L.back≤4) (hlv:∀i,i<6→(L.lev i).length<4000000) (hd:G.dt.size≤1099511627776) (hct:L.count≤1000000000000) (hml:L.mem.length≤1048576) :
  Calls Tryz.prog 26 #[zr lb, .string s] w fun e w'=>e=.returned (.tuple #[.int .i64 (L.count:Int), .int .i64 0])∧Apd w w' ρ B N lb G (L.app s) (G.dt++yU 0 s) (yx (yx G.left)):=by
 have CS:=zx (wE h.x.j.j);rw[show(G.left == 0)=false from by simpa using q0]at CS;obtain⟨c6,_⟩:=zy (j:=6) (u:=zr G.jb) h.x.b.blk rfl;obtain⟨c1,_⟩:=zy (j:=1) (u:=.int .i64 (L.fan:Int)) h.x.b.blk rfl;obtain⟨c2,_⟩:=zy (j:=2) (u:=.int .i64 (L.back:Int)) h.x.b.blk rfl;obtain⟨a0,k0,hlr,hc0,hm0⟩:=zu (h.x.v.row 0 (by omega));obtain⟨c8,_⟩:=zy (j:=8) (u:=G.lr 0) h.x.b.blk rfl;rw[hlr,h.x.v.len 0 (by omega)]at c8
 have CF:Hid (∀d os,_):=fun d os=>Calls.regrown_of (w:=w) (d:=d) (os:=os) ((wH (h.below (below_regrown w d os))).mono fun e w' q=>⟨q.1,q.2⟩)
 have e1:=cell_regrown c1;have e2:=cell_regrown c2;have e8:=cell_regrown c8
 have CL:Hid (∀w1,Below w.heap.size w w1→w1.cell? ⟨lb,6,none⟩=some (zr G.jb)∧Calls Tryz.prog 58 #[zr G.jb, .string s] w1 fun e w2=>e=.returned (.tuple #[.agg #[.int .i64 (L.count:Int), .int .i64 (L.clock:Int), .string s], .bool true])∧∃ρ2 G2,LogAt w2 ρ2 B N lb G2 { L with count:=L.count+1 }∧LStp w w2 ρ ρ2∧GSame G G2∧G2.dt=G.dt++yU 0 s∧G2.left=yx (yx G.left)):=by
  intro w1 hb1;have h1:=h.below hb1;refine⟨(zy (j:=6) h1.x.b.blk rfl).1,(du h1.x.j.j (Nat.le_trans hB hb1.size) q2 q3 q0 q1 s hs hd hct).mono ?_⟩;rintro e w2 ⟨rfl,fv',hj⟩;obtain⟨ρ2,r1,r2⟩:=h1.jStep (Nat.le_trans hB hb1.size) hj;exact⟨rfl,ρ2,_,r1,LStp.pre hb1 r2,⟨rfl,rfl,rfl⟩,rfl,rfl⟩
 have HT:Hid (∀w' ρ',LStp w w' ρ ρ'→Below B w w'):=fun w' ρ' hw=>rp (Below.refl B w) hw h.x.lt hB
 have HTB:=zx ht
 have h60:¬(60:Int)<(s.size:Int):=by omega
 have HLT:=zx h.x.lt;clear h q0 q1 q2 q3 hd hct c1 c2 c8 hlr hc0 hm0 ht;by_cases hf:L.memory≤L.mem.length
 ·rw[decide_eq_true hf]at CF
  have hnl:¬L.fan+L.back≤(L.lev 0).length:=fun q=>hn ⟨hf,q⟩
  have hd2:¬(L.fan:Int)+(L.back:Int)≤((L.lev 0).length:Int):=by omega
  have hd3:decide ((L.fan:Int)+(L.back:Int)≤((L.lev 0).length:Int))=false:=decide_eq_false hd2;have hl0:=hlv 0 (by omega)
  have HAPP:Hid (L.app s=({ L.roll with count:=L.count+1 }:Lg).more ⟨L.count,L.clock,s⟩):=by
   show _=_;unfold Lg.app;rw[if_pos hf];rfl
  have HF:=zx hf;have HLV:=zx hlv;clear hf hn hlv
  go_enter Tryz.func26,Tryz.ntmps26
  go_wp2_with (first|(go_at_call 56;refine CS.out.mono ?_;rintro e w2 ⟨rfl,hw⟩;rw[hw];clear hw w2));refine wp_region_quiet_below (by kernel_rfl) (by kernel_rfl) ?_
  repeat(go_big_quiet_step (first|(go_at_call 57;exact CF.out _ _)))
  refine wpQuiet_nil ?_;intro _ hw';obtain⟨⟨dq,osq⟩,hw''⟩:=hw';subst hw'';obtain⟨d6,hlay⟩:=CL.out _ (below_regrown w dq osq);generalize Sort.grow (redrawn w dq) osq=w1 at *;have HLAY:=zx hlay;clear hlay CL CF e1 e2 e8 CS hd2 hd3 hnl;go_wp2_with fail;refine HLAY.out.mono ?_;rintro e w2 ⟨rfl,ρ2,G2,h2,hst2,hgs2,hdt2,hlf2⟩;have hb3:=zv w2 (Obj.cells #[.int .i64 (L.count:Int), .int .i64 (L.clock:Int), .string s] 66);have h3:=h2.below hb3;have hbx:=zj w2 #[.int .i64 (L.count:Int), .int .i64 (L.clock:Int), .string s] 66;have hst3:=hst2.below hb3;have CF2:=zx (wH h3);rw[show decide (({ L with count:=L.count+1 }:Lg).memory≤({ L with count:=L.count+1 }:Lg).mem.length)=true from decide_eq_true HF.out]at CF2;have hf0:=h2.free (Nat.le_refl _);have H3:=zx h3;have HBX:=zx hbx;have HST3:=zx hst3;have HGS:=zx (⟨hgs2,hdt2,hlf2⟩:GSame G G2∧_∧_);clear h2 h3 hbx hst2 hst3 hgs2 hdt2 hlf2 hb3 HLAY;go_wp2_with (first|(go_at_call 57;refine CF2.out.mono ?_;rintro e w4 ⟨rfl,hb4⟩;have HB4:=zx hb4;have k7:=(zy (j:=7) (u:=zr G2.ms) (H3.out.below hb4).x.b.blk rfl).1;clear hb4));have h4:=H3.out.below HB4.out;have hst4:=HST3.out.below HB4.out;have hbx4:w4.heap[w2.heap.size]? = some (Obj.cells #[.int .i64 (L.count:Int), .int .i64 (L.clock:Int), .string s] 66 (0,0)):=(HB4.out.block _ (Mth.gI HBX.out)).trans HBX.out;obtain⟨hx4,hr4,hn4,hs4⟩:=h4.toSeg;have hB4:=(HT.out _ _ hst4).size;have CP0:=jt hx4 (Nat.le_trans hB hB4) (i:=0) (by omega) h4.m.seg hr4 hn4 (by show(L.lev 0).length≤4000000;omega);rw[show((0:Nat):Int)=0 from rfl]at CP0;have CP:=zx CP0;clear CP0;have hst4':=hst4.trans hs4
  have hf4:oW ρ2 w2.heap.size=0:=by rw[xV (by omega)];exact hf0
  have HST4:=zx hst4';have HBX4:=zx hbx4;clear h4 hst4 hbx4 hx4 hr4 hn4 hs4 hst4' CF2 H3 HST3 HBX HB4;refine Calls.mono CP.out ?_;rintro e w5 ⟨rfl,ρ5,v5,hx5,hst5,_,_⟩;obtain⟨hbx5,hf5⟩:=hst5.box hf4 HBX4.out;have hst5':=HST4.out.trans hst5;have hBw5:=HT.out _ _ hst5';have CN:=zx (uj w5 B (Nat.le_trans hB hBw5.size) (HTB.out.next hBw5).now (jy w5) (fun e he=>by cases he) (by simp));have HX5:=zx hx5;have HST5:=zx hst5';have HBX5:=zx hbx5;clear hx5 hst5 hst5' hbx5 CP HST4 HBX4 hf4 k7;go_wp2_with fail;refine CN.out.mono ?_;rintro e w6 ⟨s6,m6,ev6,rfl,hn6⟩;obtain⟨j7,f7⟩:=zy (j:=7) (u:=zr G2.ms) (HX5.out.below hn6.bel).b.blk rfl;obtain⟨ρ7,h7,hst7⟩:=HX5.out.newMem (Nat.le_trans hB hBw5.size) hn6;obtain⟨hbx7,hf7⟩:=hst7.box hf5 HBX5.out;have hst7':=HST5.out.trans hst7;have hBw7:=HT.out _ _ hst7'
  have CT:=zx (uH h7.x (Nat.le_trans hB hBw7.size) hfan (fun i hi=>by
   show(if i=0 then L.lev i++[L.mem] else L.lev i).length≤4000000;have:=HLV.out i hi;split
   ·rw[List.length_append,List.length_singleton];omega
   ·omega))
  have H7:=zx h7;have HST7:=zx hst7';have HBX7:=zx hbx7;clear hn6 h7 hst7 hst7' hbx7 CN HX5 HST5 HBX5 hf5;go_wp2_with fail;refine CT.out.mono ?_;rintro e w8 ⟨rfl,hla8⟩;obtain⟨ρ8,G8,h8,hst8,hg8,hdt8,hlf8,hms8⟩:=uT H7.out hla8;obtain⟨hbx8,hf8⟩:=hst8.box hf7 HBX7.out;have hst8':=HST7.out.trans hst8;have HG8:Hid (GSame G G8∧G8.dt=G.dt++yU 0 s∧G8.left=yx (yx G.left)):=⟨⟨hg8.jb.trans HGS.out.1.jb,hg8.db.trans HGS.out.1.db,hg8.sb.trans HGS.out.1.sb⟩,hdt8.trans HGS.out.2.1,hlf8.trans HGS.out.2.2⟩;have hbb:Below w8.heap.size w8 w8.drew:=⟨rfl,rfl,rfl,Nat.le_refl _,fun _ _=>rfl⟩;have h8':LogAt w8 ρ8 B N lb G8 { L.roll with count:=L.count+1 }:=h8
  have hm8:({ L.roll with count:=L.count+1 }:Lg).mem.length≤1048576:=by show([]:List Ent).length≤1048576;simp
  generalize ({ L.roll with count:=L.count+1 }:Lg)=L8 at *;have h9:=h8'.below hbb;have hst9:=hst8'.below hbb;have hbx9:w8.drew.heap[w2.heap.size]? = some (Obj.cells #[.int .i64 (L.count:Int), .int .i64 (L.clock:Int), .string s] 66 (0,0)):=hbx8;have hBw:=HT.out _ _ hst9;have CA:=zx (jS h9 (Nat.le_trans hB hBw.size) (HTB.out.next hBw).now ⟨L.count,L.clock,s⟩ hs hm8 hbx9 hf8);obtain⟨x0,_⟩:=zy (w:=w8) (j:=0) (u:=.int .i64 (L.count:Int)) hbx9 rfl;obtain⟨x1,_⟩:=zy (w:=w8) (j:=1) (u:=.int .i64 (L.clock:Int)) hbx9 rfl;obtain⟨x2,_⟩:=zy (w:=w8) (j:=2) (u:=.string s) hbx9 rfl;obtain⟨x7,_⟩:=zy (w:=w8) (j:=7) (u:=zr G8.ms) h9.x.b.blk rfl;have HST9:=zx hst9;clear h8 h8' h9 hst8 hst8' hst9 hbx8 hbx9 hBw hbb CT hla8 H7 HST7 HBX7 hg8 hdt8 hlf8 hms8;go_wp2_with fail
  go_region_with (first
   | (go_at_call 62;refine CA.out.mono ?_;rintro e w9 ⟨rfl,ha9,y0⟩;have HA9:=zx ha9;clear ha9))
  all_goals (
   go_wp2;go_ret2;refine⟨rfl,?_⟩;rw[HAPP.out];have hg:=HG8.out;have hr:=Apd.pre HST9.out hg.1 HA9.out;rw[hg.2.1,hg.2.2]at hr
   exact hr)
 ·rw[decide_eq_false hf]at CF
  have HAPP:Hid (L.app s=({ L with count:=L.count+1 }:Lg).more ⟨L.count,L.clock,s⟩):=by
   show _=_;unfold Lg.app;rw[if_neg hf];rfl
  have HF:=zx hf;clear hf hn
  go_enter Tryz.func26,Tryz.ntmps26
  go_wp2_with (first|(go_at_call 56;refine CS.out.mono ?_;rintro e w2 ⟨rfl,hw⟩;rw[hw];clear hw w2));refine wp_region_quiet_below (by kernel_rfl) (by kernel_rfl) ?_
  repeat(go_big_quiet_step (first|(go_at_call 57;exact CF.out _ _)))
  refine wpQuiet_nil ?_;intro _ hw';obtain⟨⟨dq,osq⟩,hw''⟩:=hw';subst hw'';obtain⟨d6,hlay⟩:=CL.out _ (below_regrown w dq osq);generalize Sort.grow (redrawn w dq) osq=w1 at *;have HLAY:=zx hlay;clear hlay CL CF e1 e2 e8 CS;go_wp2_with fail;refine HLAY.out.mono ?_;rintro e w2 ⟨rfl,ρ2,G2,h2,hst2,hgs2,hdt2,hlf2⟩;have hb3:=zv w2 (Obj.cells #[.int .i64 (L.count:Int), .int .i64 (L.clock:Int), .string s] 66);have h3:=h2.below hb3;have hbx:=zj w2 #[.int .i64 (L.count:Int), .int .i64 (L.clock:Int), .string s] 66;have hst3:=hst2.below hb3;have CF2:=zx (wH h3);rw[show decide (({ L with count:=L.count+1 }:Lg).memory≤({ L with count:=L.count+1 }:Lg).mem.length)=false from decide_eq_false HF.out]at CF2;have hf0:=h2.free (Nat.le_refl _);have H3:=zx h3;have HBX:=zx hbx;have HST3:=zx hst3;have HGS:=zx (⟨hgs2,hdt2,hlf2⟩:GSame G G2∧_∧_);clear h2 h3 hbx hst2 hst3 hgs2 hdt2 hlf2 hb3 HLAY;go_wp2_with (first|(go_at_call 57;refine CF2.out.mono ?_;rintro e w4 ⟨rfl,hb4⟩;have HB4:=zx hb4;clear hb4));have hbb:Below w4.heap.size w4 w4.drew:=⟨rfl,rfl,rfl,Nat.le_refl _,fun _ _=>rfl⟩;have h4:=(H3.out.below HB4.out).below hbb;have hb4:=HB4.out.trans (hbb.mono HB4.out.size);have hst4:=HST3.out.below hb4;have hbx4:w4.drew.heap[w2.heap.size]? = some (Obj.cells #[.int .i64 (L.count:Int), .int .i64 (L.clock:Int), .string s] 66 (0,0)):=(hb4.block _ (Mth.gI HBX.out)).trans HBX.out;have hBw:=HT.out _ _ hst4;have CA:=zx (jS h4 (Nat.le_trans hB hBw.size) (HTB.out.next hBw).now ⟨L.count,L.clock,s⟩ hs (by show L.mem.length≤1048576;exact hml) hbx4 hf0);obtain⟨x0,_⟩:=zy (w:=w4) (j:=0) (u:=.int .i64 (L.count:Int)) hbx4 rfl;obtain⟨x1,_⟩:=zy (w:=w4) (j:=1) (u:=.int .i64 (L.clock:Int)) hbx4 rfl;obtain⟨x2,_⟩:=zy (w:=w4) (j:=2) (u:=.string s) hbx4 rfl;obtain⟨x7,_⟩:=zy (w:=w4) (j:=7) (u:=zr G2.ms) h4.x.b.blk rfl;have HST4:=zx hst4;clear h4 hb4 hst4 hbx4 hBw hbb CF2
  go_region_with (first
   | (go_at_call 62;refine CA.out.mono ?_;rintro e w5 ⟨rfl,ha5,y0⟩;have HA5:=zx ha5;clear ha5))
  all_goals (
   go_wp2;go_ret2;refine⟨rfl,?_⟩;rw[HAPP.out];have hg:=HGS.out;have hr:=Apd.pre HST4.out hg.1 HA5.out;rw[hg.2.1,hg.2.2]at hr
   exact hr)
def Tab10B (B:Nat) (w:World):Prop:=∀w',Below B w w'→Tab10 w'
theorem Tab10B.next {B:Nat}{w w':World}(h:Tab10B B w) (hb:Below B w w'):Tab10B B w':=fun w2 h2=>h w2 (hb.trans h2)
theorem dB {w:World}{ρ:Nat→Nat}{B N lb:Nat}{G:Gh}{L:Lg}(h:LogAt w ρ B N lb G L) (n:Int) (hc:L.clock≤1000000000000) (hn:yd L.clock n=false) :
  Calls Tryz.prog 126 #[zr lb, .int .i64 n] w fun e w'=>e=.returned (.int .i64 1)∧w'=w:=by
 have CC:=zx (nr h.x.j.j n hc);rw[hn]at CC;obtain⟨c6,_⟩:=zy (j:=6) (u:=zr G.jb) h.x.b.blk rfl;clear h hn
 go_enter Tryz.func126,Tryz.ntmps126
 go_wp2_with (first|(go_at_call 201;refine CC.out.mono ?_;rintro e w2 ⟨rfl,hw⟩;rw[hw];clear hw w2));go_ret;exact⟨rfl,rfl⟩
theorem dC {w:World}{ρ:Nat→Nat}{B N lb:Nat}{G:Gh}{L:Lg}(h:LogAt w ρ B N lb G L) (hB:B≤w.heap.size) (ht:Tab10 w) (q0:G.left≠0) (q1:G.left≠1) (q2:-1≤G.left) (q3:G.left<9223372036854775808) (n:Nat) (hc:L.clock≤1000000000000) (hn:yd L.clock (n:Int)=true) (hd:G.dt.size≤1099511627776) :
  Calls Tryz.prog 126 #[zr lb, .int .i64 (n:Int)] w fun e w'=>e=.returned (.int .i64 0)∧Apd w w' ρ B N lb G { L with clock:=L.clock+n } (G.dt++yU 1 (wY n)) (yx (yx G.left)):=by
 have CC:=zx (nr h.x.j.j (n:Int) hc)
 have hn1:n≤1000:=by
  unfold yd at hn;simp at hn;omega
 rw[hn]at CC
 have CT:Hid (Calls Tryz.prog 202 #[zr G.jb, .int .i64 (n:Int)] w fun e w2=>e=.returned (.bool true)∧Apd w w2 ρ B N lb G { L with clock:=L.clock+n } (G.dt++yU 1 (wY n)) (yx (yx G.left))):=by
  refine(iJ h.x.j.j hB q2 q3 q0 q1 n hn1 hd hc ht).mono ?_;rintro e w2 ⟨rfl,fv',hj⟩;obtain⟨ρ2,r1,r2⟩:=h.jStep hB hj;exact⟨rfl,⟨⟨ρ2,_,r1,r2,⟨rfl,rfl,rfl⟩,rfl,rfl⟩⟩⟩
 obtain⟨c6,_⟩:=zy (j:=6) (u:=zr G.jb) h.x.b.blk rfl;clear h hn ht q0 q1 q2 q3 hd;generalize (G.dt++yU 1 (wY n))=dd at *;generalize ({ L with clock:=L.clock+n }:Lg)=L2 at *
 go_enter Tryz.func126,Tryz.ntmps126
 go_wp2_with (first
  | (go_at_call 201;refine CC.out.mono ?_;rintro e w2 ⟨rfl,hw⟩;rw[hw];clear hw w2)
  | (go_at_call 202;refine CT.out.mono ?_;rintro e w3 ⟨rfl,ha⟩;have HA:=zx ha;clear ha))
 go_ret;exact⟨rfl,HA.out⟩
theorem qu {w:World}{ρ:Nat→Nat}{B N lb:Nat}{G:Gh}{L:Lg}(h:LogX w ρ B N lb G L) (hc:L.clock≤1000000000000) (hk:L.keep≤1000000) :
  Calls Tryz.prog 90 #[zr lb] w fun e w'=>e=.returned (.int .i64 ((L.clock:Int)-(L.keep:Int)))∧Below w.heap.size w w':=by
 have CC:Hid (∀d os,_):=fun d os=>Calls.regrown_of (w:=w) (d:=d) (os:=os) ((lD (h.j.j.below (below_regrown w d os))).mono fun e w' q=>⟨q.1,by rw[q.2];exact Below.refl _ _⟩)
 obtain⟨c6,_⟩:=zy (j:=6) (u:=zr G.jb) h.b.blk rfl;obtain⟨c4,_⟩:=zy (j:=4) (u:=.int .i64 (L.keep:Int)) h.b.blk rfl;have e6:=cell_regrown c6;have e4:=cell_regrown c4;clear h c6 c4;generalize L.clock=ck at *;generalize L.keep=kp at *
 go_enter Tryz.func90,Tryz.ntmps90
 go_wp2_with fail;refine wp_region_quiet_below (by kernel_rfl) (by kernel_rfl) ?_
 repeat(go_big_quiet_step (first|(go_at_call 147;exact CC.out _ _)))
 refine wpQuiet_nil ?_;intro _ hw';obtain⟨⟨dq,osq⟩,hw''⟩:=hw';subst hw'';go_wp2;go_ret;exact⟨rfl,below_regrown w dq osq⟩
end Go.Proofs.YtkncboinfcnklaaGreatDoor
namespace Go.Proofs.YtkncboinfcnklaaGreatDoor
open Go.RowKit Go.Deep Go.Shelf Go.Proofs.YtkncboinfcnklaaGreatDoor.Mth
attribute [local go_sem] Oper.semAt_some
def zL (k:Nat):List (Fin 6):=(List.range k).map (fun j=>⟨5-j,by omega⟩)
theorem tH (k:Nat):zL (k+1)=zL k++[⟨5-k,by omega⟩]:=by simp[zL,List.range_succ]
theorem rD (k:Nat):(zL k).length=k:=by simp[zL]
def Kb (bo n₀:Nat) (W W':World):Prop:=W.heap.size≤W'.heap.size∧∀k,k<n₀→k≠bo→W'.heap[k]? = W.heap[k]?
theorem Kb.trans {bo n₀:Nat}{A B C:World}(h:Kb bo n₀ A B) (k:Kb bo n₀ B C):Kb bo n₀ A C:=⟨Nat.le_trans h.1 k.1,fun i hi hne=>(k.2 i hi hne).trans (h.2 i hi hne)⟩
theorem Kb.refl (bo n₀:Nat) (A:World):Kb bo n₀ A A:=⟨Nat.le_refl _,fun _ _ _=>rfl⟩
theorem Kb.cell {bo n₀:Nat}{A B:World}(h:Kb bo n₀ A B){a:Addr}(ha:a.block<n₀) (hne:a.block≠bo):B.cell? a=A.cell? a:=World.cell?_of_block (h.2 a.block ha hne)
theorem Kb.put {bo n₀:Nat}{w:World}(hn:n₀≤w.heap.size) (W:World) (l:Nat) (o o':Obj) (hl:w.heap.size≤l) (h:W.heap[l]? = some o) (h1:o.isCells=false) (h2:o.isWalk=false):Kb bo n₀ W (W.putObj l o'):=by
 have hb:=belowK_b (n₀:=n₀) hn W l o o' hl h h1 h2;exact⟨hb.size,fun k hk _=>hb.block k hk⟩
theorem dS (F:Fence) (n:Nat) (hf:F.fn 216) (hro:F.round=none) (hn:1≤n) (l Bs bo n₀ b:Nat) (lr:Nat→Value) (hb:b<n₀) (hbo:b≠bo) (hB:Bs<n₀) (hBo:Bs≠bo) (J Jx:List (Fin 6)→World→Prop)
  (hY:∀pre x W,J pre W→pre.length<6→YieldAt F (n-1) Tryz.prog l #[.int .i64 (x.1:Int),lr x.1] W fun e W'=>
   (e=.returned (.bool true)∧J (pre++[x]) W'∧Kb bo n₀ W W')∨(e=.returned (.bool false)∧Jx (pre++[x]) W'))
  (W:World) (hBs:W.cell? ⟨Bs,0,none⟩=some (.slice (some ⟨b,8,none⟩) 6 6)) (hc:∀j,j<6→W.cell? ⟨b,8+j,none⟩=some (lr j)) (h0:J [] W) :
  CallsIn F n Tryz.prog 216 #[.func (.yield l) #[] #[], .pointer (some ⟨Bs,0,none⟩)] W fun e W'=>(∃v,e=.returned v) ∧
   ((∃ys,ys=zL 6∧J ys W')∨(∃pre,(∃k,k≤6∧pre=zL k)∧Jx pre W')):=by
 refine callsIn_of_wp Tryz.func216 rfl hf ?_ hro;simp only[Tryz.ntmps216,List.size_toArray,List.length_cons,List.length_nil,Nat.reduceAdd,Nat.reduceSub,Array.replicate_succ,Array.replicate_zero,List.push_toArray,List.append_toArray,List.nil_append,List.cons_append]
 gi_wp2
 gi_loopw [3] (fun i wr=>∃k:Nat,k≤6∧i=.int .i64 (5-(k:Int))∧J (zL k) wr∧Kb bo n₀ W wr)
  (fun i _=>(intOf i+1).toNat)
 case atStart=>exact⟨0,Nat.zero_le _,rfl,h0,Kb.refl _ _ _⟩
 case round=>
  obtain⟨k,hk,rfl,hJs,hnx⟩:=hrel;have hBsr:=(hnx.cell (a:=⟨Bs,0,none⟩) hB hBo).trans hBs;by_cases hlt:k<6
  ·obtain⟨j,hj⟩:∃j:Nat,j=5-k:=⟨_,rfl⟩
   have hj6:j<6:=by omega
   have hji:(5:Int)-(k:Int)=(j:Int):=by omega
   obtain⟨fn,tmps,assign,wy,hy,hR⟩:=hY _ ⟨j,hj6⟩ wr hJs (by rw[rD];exact hlt);dsimp only at hy;have hcx:=(hnx.cell (a:=⟨b,8+j,none⟩) hb hbo).trans (hc j hj6);rw[hji]
   have hji6:(j:Int)<6:=by omega
   have HJ:=zx hj;have HJI:=zx hji;clear hj hji
   gi_wp2
   refine hR.mono ?_;rintro e W3 (⟨rfl,hJ3,hk3⟩|⟨rfl,hJx3⟩)
   ·gi_wp2
    go_roundw
    case rel=>exact⟨k+1,by omega,by have:=HJI.out;rw[show(5:Int)-((k+1:Nat):Int)=(j:Int)-1 by omega],by rw[tH];simpa [←HJ.out] using hJ3,hnx.trans hk3⟩
    case measure=>simp[intOf]
   ·gi_wp2
    refine bodyPost_ret (results_none rfl _ _ _) rfl ?_;exact⟨⟨_,rfl⟩, .inr ⟨_,⟨k+1,by omega,by rw[tH];simp[←HJ.out]⟩,hJx3⟩⟩
  ·obtain rfl:k=6:=by omega
   gi_wp2
   go_end0;exact⟨⟨_,rfl⟩, .inl ⟨_,rfl,hJs⟩⟩
theorem bT (F:Fence) (n:Nat) (hf:F.fn 148) (hro:F.round=none) (a:Option Addr) (len cap:Nat) (w:World) :
  CallsIn F n Tryz.prog 148 #[.slice a len cap] w fun e w'=>e=.returned (.func (.func 216) #[] #[.pointer (some ⟨w.heap.size,0,none⟩)])∧w'=w.alloc (.cells #[.slice a len cap] 261):=by
 refine callsIn_of_wp Tryz.func148 rfl hf ?_ hro;simp only[Tryz.ntmps148,List.size_toArray,List.length_cons,List.length_nil,Nat.reduceAdd,Nat.reduceSub,Array.replicate_succ,Array.replicate_zero,List.push_toArray,List.append_toArray,List.nil_append,List.cons_append]
 gi_wp2
 go_ret;exact⟨rfl,rfl⟩
end Go.Proofs.YtkncboinfcnklaaGreatDoor
namespace Go.Proofs.YtkncboinfcnklaaGreatDoor
open Go.RowKit Go.Deep Go.Shelf
theorem vX {P:Program}(w:World) (base base2:Nat) (t ty e:TypeId) (i:TypeInfo) (z:Value) (size bytes:Nat) (h1:P.underlying t=some (.slice e)) (h2:P.info? e=some i) (h3:i.zero=some z) (h4:i.size=size) (h5:i.bytes=bytes) (h6:z.cells.size=size) (h7:0<size)
  (v:Value) (k:Nat) (xs:List Value) (hown:w.ownsRow base e size v k xs) (u:Value) (m:Nat) (news:List Value) (hu:w.ownsRow base2 e size u m news) (h1c:∀u∈news,u.oneCell'=true) (b1:k+m≤maxLen) (b2:(k+m)*bytes≤140737488355328) (b3:base≤w.heap.size) :
  ∃v' w',(Builtin.append_ #[t,t] ty #[v,u]).run P w=.ok v' w'∧w'.ownsRow base e size v' (k+m) (xs++news)∧w.grownBy w' v.ownBlock:=by
 rcases hu.2 with⟨rfl,rfl⟩|⟨g,cap,cur,rfl,_,hgb,hcc,hmm,_,_⟩
 ·have hn:news=[]:=List.eq_nil_of_length_eq_zero (by simpa using hu.1);subst hn;exact⟨v,w,run_append_owned_none w base t ty e i size h1 h2 v k xs hown,by simpa using hown,World.grownBy.refl _ _⟩
 ·obtain⟨v',w',hr,r1,r2,_⟩:=run_append_own (P:=P) w base t ty e i z size bytes h1 h2 h3 h4 h5 h6 h7 v k xs hown ⟨g,0,none⟩ m cap news hu.1 (fun j u hj=>by
   rw[Addr.add_lit,Nat.zero_add]
   exact zg hu hj) h1c b1 b2 b3
  exact⟨v',w',hr,r1,r2⟩
theorem vD {F:Fence}{n:Nat}{P:Program}(w:World){ops:Array Oper}{rest:List Oper}{o:Oper}{a:Act}{Q:Exit→Act→World→Prop}
  (hg:o.guard=none) (s x:Operand) (t:TypeId) (hop:o.op=Op.call { callee:=Callee.builtin Builtin.append,args:=#[s,x],argTypes:=#[t,t] })
  (base base2:Nat) (e:TypeId) (i:TypeInfo) (z:Value) (size bytes:Nat) (h1:P.underlying t=some (.slice e)) (h2:P.info? e=some i) (h3:i.zero=some z) (h4:i.size=size) (h5:i.bytes=bytes) (h6:z.cells.size=size) (h7:0<size)
  (v:Value) (k:Nat) (xs:List Value) (hs:a.eval s=v) (hown:w.ownsRow base e size v k xs) (u:Value) (m:Nat) (news:List Value) (hx:a.eval x=u) (hu:w.ownsRow base2 e size u m news) (h1c:∀u∈news,u.oneCell'=true) (b1:k+m≤maxLen) (b2:(k+m)*bytes≤140737488355328) (b3:base≤w.heap.size)
  (hK:∀v' w',w'.ownsRow base e size v' (k+m) (xs++news)→w.grownBy w' v.ownBlock→wpListIn F n P ops Q rest (a.put o.dst v') w') :
  wpListIn F n P ops Q (o::rest) a w:=by
 refine wpListIn_plain hg fun K hK'=>?_
 obtain⟨v',w',hrun,r1,r2⟩:=vX (P:=P) w base base2 t o.type e i z size bytes h1 h2 h3 h4 h5 h6 h7 v k xs hown u m news hu h1c b1 b2 b3;unfold Oper.wpIn;refine⟨?_,?_⟩
 ·simp[Oper.about,hop,resolve,Target.leads,Sem.run_pure]
 ·rw[Oper.semAt_plain F _ _ (by rw[hop];intro c hc';cases hc')];simp[execOp,hop,resolve,invoke,builtin,hs,hx,hrun,Result.andThen];exact hK' _ _ (hK v' w' r1 r2)
theorem yC {P:Program}(w:World){ops:Array Oper}{rest:List Oper}{o:Oper}{a:Act}{Q:Exit→Act→World→Prop}
  (hg:o.guard=none) (s x:Operand) (t:TypeId) (hop:o.op=Op.call { callee:=Callee.builtin Builtin.append,args:=#[s,x],argTypes:=#[t,t] })
  (base base2:Nat) (e:TypeId) (i:TypeInfo) (z:Value) (size bytes:Nat) (h1:P.underlying t=some (.slice e)) (h2:P.info? e=some i) (h3:i.zero=some z) (h4:i.size=size) (h5:i.bytes=bytes) (h6:z.cells.size=size) (h7:0<size)
  (v:Value) (k:Nat) (xs:List Value) (hs:a.eval s=v) (hown:w.ownsRow base e size v k xs) (u:Value) (m:Nat) (news:List Value) (hx:a.eval x=u) (hu:w.ownsRow base2 e size u m news) (h1c:∀u∈news,u.oneCell'=true) (b1:k+m≤maxLen) (b2:(k+m)*bytes≤140737488355328) (b3:base≤w.heap.size)
  (hK:∀v' w',w'.ownsRow base e size v' (k+m) (xs++news)→w.grownBy w' v.ownBlock→wpList P ops Q rest (a.put o.dst v') w') :
  wpList P ops Q (o::rest) a w:=by
 refine wpList_plain hg fun K hK'=>?_
 obtain⟨v',w',hrun,r1,r2⟩:=vX (P:=P) w base base2 t o.type e i z size bytes h1 h2 h3 h4 h5 h6 h7 v k xs hown u m news hu h1c b1 b2 b3;unfold Oper.wp execOp;simp only[hop,resolve,invoke,builtin,Sem.run_bind,Sem.run_pure,Result.andThen_ok,List.map_toArray,List.map_cons,List.map_nil,hs,hx,hrun];exact hK' _ _ (hK v' w' r1 r2)
end Go.Proofs.YtkncboinfcnklaaGreatDoor
namespace Go.Proofs.YtkncboinfcnklaaGreatDoor
open Go.RowKit Go.Deep Go.Shelf Go.Proofs.YtkncboinfcnklaaGreatDoor.Mth
attribute [local go_sem] Oper.semAt_some
def wP (bs:Nat→List Nat) (l:List (Fin 6)):List Nat:=l.flatMap (fun x=>bs x.1)
theorem et (bs:Nat→List Nat) (l:List (Fin 6)) (x:Fin 6):wP bs (l++[x])=wP bs l++bs x.1:=by simp[wP]
theorem nE {w:World}{ρ:Nat→Nat}{B N lb:Nat}{G:Gh}{L:Lg}(h:LogX w ρ B N lb G L) (hl:∀i,i<6→(L.lev i).length≤500000) :
  CallsIn Fence.wide 3 Tryz.prog 91 #[zr lb] w fun e w'=>∃v,e=.returned v∧w'.ownsRow w.heap.size 128 1 v (wP G.bs (zL 6)).length ((wP G.bs (zL 6)).map zr)∧Below w.heap.size w w':=by
 obtain⟨i0,hi0,hz0,hz1,hz2⟩:=info_parts Tryz.info128;have hlbw:lb<w.heap.size:=(h.lt lb (by rw[h.b.rl];omega)).1
 have hlr:∀j,j<6→w.cell? ⟨lb,8+j,none⟩=some (G.lr j):=fun j hj=>(zy h.b.blk (ut G L j hj)).1
 have hrow:Hid (∀j,j<6→w.ownsRow B 128 1 (G.lr j) (G.bs j).length ((G.bs j).map zr)):=fun j hj=>h.v.row j hj
 have hlen:Hid (∀j,j<6→(G.bs j).length≤500000):=fun j hj=>by rw[h.v.len j hj];exact hl j hj
 clear h hl;refine callsIn_of_wp_marks Tryz.func91 rfl trivial ?_ rfl;simp only[Tryz.ntmps91,List.size_toArray,List.length_cons,List.length_nil,Nat.reduceAdd,Nat.reduceSub,Array.replicate_succ,Array.replicate_zero,List.push_toArray,List.append_toArray,List.nil_append,List.cons_append]
 gi_wp2_with (refine⟨trivial,?_⟩;gi_at_call 148;refine(bT Fence.wide 2 trivial rfl _ _ _ _).mono ?_;rintro e w' ⟨rfl,rfl⟩)
 have bO:=Boxed.new w 129 (.slice none 0 0);have bN:=Boxed.new (w.alloc (.cells #[.slice none 0 0] 129)) 261 (.slice (some ⟨lb,8,none⟩) 6 6);rw[World.size_alloc]at bN;have hB0:Below w.heap.size w ((w.alloc (.cells #[.slice none 0 0] 129)).alloc (.cells #[.slice (some ⟨lb,8,none⟩) 6 6] 261)):=((Below.refl _ w).alloc (Nat.le_refl _) _).alloc (by simp) _
 have hSK:SeqStopsK Fence.wide 2 Tryz.prog 216 #[.pointer (some ⟨w.heap.size+1,0,none⟩)] (fun x:Fin 6=>#[Value.int .i64 (x.1:Int),G.lr x.1]) (Kb w.heap.size (w.heap.size+2)) (fun ys=>ys=zL 6) (fun pre=>∃k,k≤6∧pre=zL k) 6 ((w.alloc (.cells #[.slice none 0 0] 129)).alloc (.cells #[.slice (some ⟨lb,8,none⟩) 6 6] 261)):=by
  intro l J Jx W hW _ _ hY h0;have hb:=hW.cell (p:=⟨w.heap.size+1,0,none⟩) (by simp)
  exact dS Fence.wide 2 trivial rfl (by omega) l (w.heap.size+1) w.heap.size (w.heap.size+2) lb G.lr (by omega) (by omega) (by omega) (by omega) J Jx hY W (hb.trans bN.cell) (fun j hj=>by
   rw[hW.cell (p:=⟨lb,8+j,none⟩) (by simp;omega),hB0.cell (p:=⟨lb,8+j,none⟩) hlbw]
   exact hlr j hj) h0
 refine wpIn_rangeFunc_ownG rfl (by omega) (gf:=216) (lb:=#[.pointer (some ⟨w.heap.size+1,0,none⟩)]) rfl trivial (enters_of Tryz.func216 (by kernel_rfl) rfl)
  hSK (fun h k=>h.trans k) (Kb.put (by simp)) (Below.refl _ _) (fun _=>rfl)
  (fun pre W=>(w.heap.size+2≤W.heap.size∧∃v,Boxed W w.heap.size 129 v∧W.ownsRow (w.heap.size+2) 128 1 v (wP G.bs pre).length ((wP G.bs pre).map zr)∧((wP G.bs pre).length≤500000*pre.length))∧Below w.heap.size w W)
  (fun _ _ _=>False)
  (OwnFrom.and (OwnFrom.and (fun s X Y row h hg _=>Nat.le_trans h hg.size) (Own.from (holdsRow_own (w.heap.size+2) w.heap.size 129 128 1 (fun pre=>(wP G.bs pre).length) (fun pre=>(wP G.bs pre).map zr) (fun pre _=>(wP G.bs pre).length≤500000*pre.length)) _)) (ownFrom_below (Nat.le_refl _) (by simp;omega)))
  (fun _ _ _ _ _ hs _ _=>hs)
  ⟨⟨by simp,_,bO.alloc _,World.ownsRow_nil _ _ _ _,by simp[wP]⟩,hB0⟩
  (fun x=>{ tmps:=#[zr lb,undef, .slice none 0 0, .pointer (some ⟨w.heap.size,0,none⟩),undef,G.lr x.1,zr lb, .pointer (some ⟨lb,0,none⟩), .pointer (some ⟨lb,8,none⟩), .slice (some ⟨lb,8,none⟩) 6 6, .func (.func 216) #[] #[.pointer (some ⟨w.heap.size+1,0,none⟩)], .int .i64 (x.1:Int),G.lr x.1,undef,undef,undef,undef],defers:=[] }) ?assign ?wy ?done ?stop
 case assign=>
  intro l x W K hK
  gi_wp2
  exact hK
 case wy=>
  rintro l pre x W ⟨⟨hsz2,v,hv,hrw,hln⟩,hB⟩ hlt;have hc:=hv.cell;have hfz:=hv.frozen;have hx:=hrow.out x.1 x.2;have hxl:=hlen.out x.1 x.2;have hrwW:W.ownsRow B 128 1 (G.lr x.1) (G.bs x.1).length ((G.bs x.1).map zr):=zn hx (fun g q=>hB.block g (zw hx q).2.1)
  have hpl:(wP G.bs pre).length≤3000000:=by omega
  have hsn:=et G.bs pre x
  have hlen2:(wP G.bs (pre++[x])).length=(wP G.bs pre).length+(G.bs x.1).length:=by rw[hsn,List.length_append]
  have FIN:Hid (∀v' w1,w1.ownsRow (w.heap.size+2) 128 1 v' ((wP G.bs pre).length+(G.bs x.1).length) ((wP G.bs pre).map zr++(G.bs x.1).map zr)→W.grownBy w1 v.ownBlock→(w1.cell? ⟨w.heap.size,0,none⟩=some v∧w1.frozen? ⟨w.heap.size,0,none⟩=false)∧KeepsOthers W (w1.setCell ⟨w.heap.size,0,none⟩ v')∧Kb w.heap.size (w.heap.size+2) W (w1.setCell ⟨w.heap.size,0,none⟩ v')∧(w.heap.size+2≤(w1.setCell ⟨w.heap.size,0,none⟩ v').heap.size∧∃v,Boxed (w1.setCell ⟨w.heap.size,0,none⟩ v') w.heap.size 129 v∧(w1.setCell ⟨w.heap.size,0,none⟩ v').ownsRow (w.heap.size+2) 128 1 v (wP G.bs (pre++[x])).length ((wP G.bs (pre++[x])).map zr)∧(wP G.bs (pre++[x])).length≤500000*(pre++[x]).length)∧Below w.heap.size w (w1.setCell ⟨w.heap.size,0,none⟩ v')):=by
   intro v' w1 ho hg;have hv1:Boxed w1 w.heap.size 129 v:=hv.kept hg (hv.not_row (by decide) hrw);have hsz1:=hg.size
   have hoth:∀k,k<w.heap.size+2→k≠w.heap.size→(w1.setCell ⟨w.heap.size,0,none⟩ v').heap[k]? = W.heap[k]? := fun k hk hne=>by
    rw[zt hne];exact hg.block k (by omega) (fun q=>by have:=(zw hrw q).1;omega)
   refine⟨⟨hv1.cell,hv1.frozen⟩,?_,⟨by simpa using hsz1,hoth⟩,⟨by simp;omega,v',hv1.set v',?_,?_⟩,⟨hg.os.trans hB.os,hg.tape.trans hB.tape,hg.output.trans hB.output,by have:=hB.size;simp;omega,fun k hk=>(hoth k (by omega) (by omega)).trans (hB.block k hk)⟩⟩
   ·refine(KeepsOthers.of_grownBy hg fun j o ej hj=>?_).trans (KeepsOthers.setCell _ _ _);obtain⟨_,_,D,hD⟩:=zw hrw ej.symm;rw[hD]at hj;cases hj;rfl
   ·rw[hlen2,hsn,List.map_append];exact ho.kept (grownBy_setCell' w1 w.heap.size v') (.inr (hv1.not_row (by decide) ho).symm)
   ·rw[hlen2,List.length_append,List.length_singleton];omega
  clear hx hxl
  have h1c:∀u∈(G.bs x.1).map zr,u.oneCell'=true:=by intro u hu;obtain⟨b,_,rfl⟩:=List.mem_map.1 hu;rfl
  have hxl:=hlen.out x.1 x.2;obtain⟨a1,c1,e1,_,_⟩:=zu hrwW;rw[e1]at hrwW ⊢
  gi_wp2_with (gi_at_builtin;refine vD _ rfl _ _ 129 rfl (w.heap.size+2) B 128 i0 (.pointer none) 1 8 Tryz.underlying129 hi0 hz0 hz1 hz2 rfl (by decide) _ _ _ rfl hrw _ _ _ rfl hrwW h1c (by unfold maxLen;omega) (by omega) hsz2 ?_;intro v' w1 hown' hgrow;obtain⟨a',c',rfl,_,_⟩:=zu hown';obtain⟨⟨k1,k2⟩,hfin⟩:=FIN.out _ w1 hown' hgrow;have HFIN:=zx hfin;clear hfin hown' hgrow)
  exact⟨HFIN.out.1.from _,HFIN.out.2.1,HFIN.out.2.2.1,HFIN.out.2.2.2⟩
 case done=>
  rintro D ys W hD rfl ⟨⟨_,v,hv,hrw,hln⟩,hB⟩ hK;have hc:=hv.cell
  gi_wp2
  refine⟨by simp, .inl ⟨_,_,rfl,run_takeDeferred hK,?_⟩⟩;exact⟨_,results_tmp rfl _ _ _,v,rfl,yH (ownsRow_putObj hrw _ hK rfl) (by omega),hB.trans (belowK_b (w:=w) (Nat.le_refl _) W D _ _ (by simp at hD;omega) hK rfl rfl)⟩
 case stop=>
  rintro D c pre W _ _ h _;exact h.elim
theorem uJ {w:World}{ρ:Nat→Nat}{B N lb:Nat}{G:Gh}{L:Lg}(h:LogX w ρ B N lb G L) (hl:∀i,i<6→(L.lev i).length≤500000) :
  Calls Tryz.prog 91 #[zr lb] w fun e w'=>∃v,e=.returned v∧w'.ownsRow w.heap.size 128 1 v (wP G.bs (zL 6)).length ((wP G.bs (zL 6)).map zr)∧Below w.heap.size w w':=
 callsIn_wide.1 (nE h hl)
end Go.Proofs.YtkncboinfcnklaaGreatDoor
namespace Go.Proofs.YtkncboinfcnklaaGreatDoor
open Go.RowKit Go.Deep Go.Proofs.YtkncboinfcnklaaGreatDoor.Mth
def sT (f:Nat→Value) (xs:List Value) (k:Nat):List Value:=rU f k++xs.drop k
theorem xD {f:Nat→Value}{xs:List Value}{k:Nat}(h:k<xs.length):(sT f xs k).set k (f k)=sT f xs (k+1):=by
 unfold sT;rw[List.set_append_right _ _ (by rw[jk];exact Nat.le_refl _),jk,Nat.sub_self,List.drop_eq_getElem_cons h,List.set_cons_zero];unfold rU;rw[List.range_succ,List.map_append,List.append_assoc];rfl
theorem tk {f:Nat→Value}{xs:List Value}{k:Nat}(h:xs.length≤k):sT f xs k=rU f k:=by
 unfold sT;rw[List.drop_eq_nil_of_le h,List.append_nil]
end Go.Proofs.YtkncboinfcnklaaGreatDoor
