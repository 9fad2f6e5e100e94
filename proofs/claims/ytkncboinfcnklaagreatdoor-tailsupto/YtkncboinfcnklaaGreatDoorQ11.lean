import Derived.Test.YtkncboinfcnklaaGreatDoorQ10
import Derived.Test.YtkncboinfcnklaaGreatDoorQ8
import Derived.Test.YtkncboinfcnklaaGreatDoorQ6
set_option maxRecDepth 100000
set_option maxHeartbeats 8000000
namespace Go.Proofs.YtkncboinfcnklaaGreatDoor
open Go.RowKit Go.Deep Go.Proofs.YtkncboinfcnklaaGreatDoor.Mth
theorem JAt.setNums {w:World}{B jb db sb:Nat}{fs:List Fl}{left:Int}{fv:Value}{clock count:Nat}(h:JAt w B jb db sb fs left fv clock count) (j:Nat) (x:Nat) (clock' count':Nat) (hj:(j=1∧clock'=x∧count'=count)∨(j=2∧clock'=clock∧count'=x)) :
  JStp w (w.setCell ⟨jb,j,none⟩ (.int .i64 (x:Int))) B jb db sb fv fs left fv clock' count':=by
 have hne:∀g,(g=db∨oY sb fv g)→g≠jb:=by
  rintro g (q|q|q) e
  ·have:=h.blk;rw[←e,q,h.ptr]at this
   injection this with this
   injection this with _ this _
   exact absurd this (by decide)
  ·have:=h.blk;rw[←e,q,h.st.blk]at this
   injection this with this
   injection this with _ this _
   exact absurd this (by decide)
  ·obtain⟨_,_,D,hD⟩:=zw h.st.own q;rw[e,h.blk]at hD
   injection hD with hD
   injection hD with _ hD _
   exact absurd hD (by decide)
 refine⟨⟨?_,(zt (hne db (Or.inl rfl))).trans h.ptr,h.st.same (fun g hg=>zt (hne g (Or.inr hg))),h.ge⟩,⟨rfl,rfl,rfl,by simp,fun k _ hn=>zt (fun q=>hn (Or.inl q))⟩,fun _ q=>Or.inl q⟩;rw[ze h.blk]
 rcases hj with⟨rfl,rfl,rfl⟩|⟨rfl,rfl,rfl⟩ <;> rfl
theorem du {w:World}{B jb db sb:Nat}{dt:ByteArray}{sf:Nat}{left:Int}{fv:Value}{clock count:Nat}(h:JAt w B jb db sb (jf dt sf) left fv clock count) (hB:B≤w.heap.size) (h1:-1≤left) (h2:left<9223372036854775808) (q0:left≠0) (q1:left≠1)
  (s:ByteArray) (hs:s.size≤60) (hd:dt.size≤1099511627776) (hn:count≤1000000000000) :
  Calls Tryz.prog 58 #[.pointer (some ⟨jb,0,none⟩), .string s] w fun e w'=>e=.returned (.tuple #[.agg #[.int .i64 (count:Int), .int .i64 (clock:Int), .string s], .bool true])∧∃fv',JStp w w' B jb db sb fv (jf (dt++yU 0 s) (dt++yU 0 s).size) (yx (yx left)) fv' clock (count+1):=by
 have hsz:(Tryz.prog.info? 66).map (·.size)=some 3:=by
  have:=Tryz.info66
  cases h':Tryz.prog.info? 66 with
  | none=>rw[h']at this;cases this
  | some i=>rw[h']at this;simp at this;simp[this]
 obtain⟨W1,hW1⟩:∃W1,W1=w.alloc (Obj.cells #[.int .i64 0, .int .i64 0, .string ⟨#[]⟩] 66):=⟨_,rfl⟩
 have HB1:Hid (Below w.heap.size w W1):=by rw[hW1];exact zv w _
 have HBK:Hid (W1.heap[w.heap.size]? = some (Obj.cells #[.int .i64 0, .int .i64 0, .string ⟨#[]⟩] 66 (0,0))):=by rw[hW1];exact zj w _ _
 have CW:=zx (rx (h.below HB1.out) (Nat.le_trans hB HB1.out.size) h1 h2 q0 q1 0 (by omega) (by omega) s (by omega) hd);have HJ0:=zx h;have HW1:=zx hW1;have hjb:jb<w.heap.size:=(Mth.gI h.blk);clear h hd h1 h2 q0 q1 hW1;generalize dt++yU 0 s=dd at *;generalize yx (yx left)=l2 at *
 go_enter Tryz.func58,Tryz.ntmps58
 go_wp2_with fail;rw[←HW1.out];refine CW.out.mono ?_;rintro e w2 ⟨rfl,fv2,hj2⟩;obtain⟨c1,_⟩:=zy (j:=1) (u:=.int .i64 (clock:Int)) hj2.j.blk rfl;obtain⟨c2,_⟩:=zy (j:=2) (u:=.int .i64 (count:Int)) hj2.j.blk rfl;have HJ2:=zx (JStp.pre HB1.out hj2)
 have HBK2:Hid (w2.heap[w.heap.size]? = some (Obj.cells #[.int .i64 0, .int .i64 0, .string ⟨#[]⟩] 66 (0,0))):=by
  refine(hj2.tch.block w.heap.size (Mth.gI HBK.out) (fun q=>?_)).trans HBK.out;have:=(HJ0.out.ownLt q).1;omega
 have CE:Hid (∀W,Calls Tryz.prog 98 #[.int .i64 (count:Int), .int .i64 (clock:Int), .string s] W fun e w'=>e=.returned (.agg #[.int .i64 (count:Int), .int .i64 (clock:Int), .string s])∧Below W.heap.size W w'):=fun W=>lE _ _ s W (by omega)
 clear hj2 CW HBK HW1;have HZ:=zx (zj w2 #[.int .i64 0, .int .i64 0, .string ⟨#[]⟩] 66);have HBZ:=zx (zv w2 (Obj.cells #[.int .i64 0, .int .i64 0, .string ⟨#[]⟩] 66));have hz1:=(HBZ.out.cell (p:=⟨jb,1,none⟩) (World.block_lt_of_cell? _ _ c1)).trans c1;have hz2:=(HBZ.out.cell (p:=⟨jb,2,none⟩) (World.block_lt_of_cell? _ _ c2)).trans c2;go_wp2_with fail
 go_cut [6] from 12 (fun p wx=>∃nb,p=.pointer (some ⟨nb,0,none⟩)∧Below w2.heap.size w2 wx∧w2.heap.size≤nb∧wx.heap[nb]? = some (Obj.cells #[.int .i64 (count:Int), .int .i64 (clock:Int), .string s] 66 (0,0)))
 case first=>
  go_region_with (first
   | (go_at_call 98;refine(CE.out _).mono ?_;rintro e w3 ⟨rfl,hb3⟩;have HB3:Hid (Below w2.heap.size w2 w3):=yV hb3;have HFIN:Hid (Below w2.heap.size w2 (w3.alloc (Obj.cells #[.int .i64 (count:Int), .int .i64 (clock:Int), .string s] 66))∧w2.heap.size≤w3.heap.size∧(w3.alloc (Obj.cells #[.int .i64 (count:Int), .int .i64 (clock:Int), .string s] 66)).heap[w3.heap.size]? = some (Obj.cells #[.int .i64 (count:Int), .int .i64 (clock:Int), .string s] 66 (0,0))):=⟨HB3.out.trans ((zv w3 _).mono HB3.out.size),HB3.out.size,zj w3 _ _⟩;clear hb3)
   | (go_at_call 98;refine(CE.out _).mono ?_;rintro e w3 ⟨rfl,hb3⟩;have hb4:Below (w2.alloc (Obj.cells #[.int .i64 0, .int .i64 0, .string ⟨#[]⟩] 66)).heap.size (w2.alloc (Obj.cells #[.int .i64 0, .int .i64 0, .string ⟨#[]⟩] 66)) w3:=yV hb3;have hk4:=(hb4.block w2.heap.size (by simp)).trans HZ.out;obtain⟨z0,y0⟩:=zy (j:=0) (u:=.int .i64 0) hk4 rfl;obtain⟨z1,y1⟩:=zy (j:=1) (u:=.int .i64 0) hk4 rfl;obtain⟨z2,y2⟩:=zy (j:=2) (u:=.string ⟨#[]⟩) hk4 rfl;have HFIN:Hid (Below w2.heap.size w2 (((w3.setCell ⟨w2.heap.size,0,none⟩ (.int .i64 (count:Int))).setCell ⟨w2.heap.size,1,none⟩ (.int .i64 (clock:Int))).setCell ⟨w2.heap.size,2,none⟩ (.string s))∧w2.heap.size≤w2.heap.size∧(((w3.setCell ⟨w2.heap.size,0,none⟩ (.int .i64 (count:Int))).setCell ⟨w2.heap.size,1,none⟩ (.int .i64 (clock:Int))).setCell ⟨w2.heap.size,2,none⟩ (.string s)).heap[w2.heap.size]? = some (Obj.cells #[.int .i64 (count:Int), .int .i64 (clock:Int), .string s] 66 (0,0))):=⟨zZ (zZ (zZ (HBZ.out.trans (hb4.mono HBZ.out.size)) (Nat.le_refl _)) (Nat.le_refl _)) (Nat.le_refl _),Nat.le_refl _,ze (ze (ze hk4))⟩;clear hb3 hb4 hk4))
  all_goals (go_wp2_with fail;go_meet;exact⟨_,rfl,HFIN.out.1,HFIN.out.2.1,HFIN.out.2.2⟩)
 case rest=>
  obtain⟨nb,rfl,hbx,hnb,hkx⟩:=hcut;have hj3:=HJ2.out.below hbx;have hlt2:w.heap.size<w2.heap.size:=(Mth.gI HBK2.out);have hkw:wc.heap[w.heap.size]? = some (Obj.cells #[.int .i64 0, .int .i64 0, .string ⟨#[]⟩] 66 (0,0)):=(hbx.block _ hlt2).trans HBK2.out;obtain⟨d2,f2⟩:=zy (j:=2) (u:=.int .i64 (count:Int)) hj3.j.blk rfl
  have hjn:nb≠jb:=fun q=>by
   have:=hj3.j.blk;rw[←q,hkx]at this
   injection this with this
   injection this with _ this _
   exact absurd this (by decide)
  have HJ5:=zx (hj3.trans (hj3.j.setNums 2 (count+1) clock (count+1) (Or.inr ⟨rfl,rfl,rfl⟩)));obtain⟨W5,hW5⟩:∃W5,W5=wc.setCell ⟨jb,2,none⟩ (.int .i64 ((count:Int)+1)):=⟨_,rfl⟩
  have HJ6:Hid (JStp w W5 B jb db sb fv (jf dd dd.size) l2 fv2 clock (count+1)):=by rw[hW5];exact HJ5.out
  have hk5:W5.heap[nb]? = some (Obj.cells #[.int .i64 (count:Int), .int .i64 (clock:Int), .string s] 66 (0,0)):=by rw[hW5,zt hjn];exact hkx
  have hkw5:W5.heap[w.heap.size]? = some (Obj.cells #[.int .i64 0, .int .i64 0, .string ⟨#[]⟩] 66 (0,0)):=by rw[hW5,zt (by omega)];exact hkw
  clear HJ5 hj3 hbx hkx hkw HJ2 HBK2 hz1 hz2 c1 c2 CE HZ HBZ;obtain⟨e0',_⟩:=zy (j:=0) (u:=.int .i64 (count:Int)) hk5 rfl;obtain⟨e1,_⟩:=zy (j:=1) (u:=.int .i64 (clock:Int)) hk5 rfl;obtain⟨e2,_⟩:=zy (j:=2) (u:=.string s) hk5 rfl;obtain⟨z0,y0⟩:=zy (j:=0) (u:=.int .i64 0) hkw5 rfl;obtain⟨z1,y1⟩:=zy (j:=1) (u:=.int .i64 0) hkw5 rfl;obtain⟨z2,y2⟩:=zy (j:=2) (u:=.string ⟨#[]⟩) hkw5 rfl;have hfin:(((W5.setCell ⟨w.heap.size,0,none⟩ (.int .i64 (count:Int))).setCell ⟨w.heap.size,1,none⟩ (.int .i64 (clock:Int))).setCell ⟨w.heap.size,2,none⟩ (.string s)).heap[w.heap.size]? = some (Obj.cells #[.int .i64 (count:Int), .int .i64 (clock:Int), .string s] 66 (0,0)):=ze (ze (ze hkw5))
  have HJ7:Hid (JStp w (((W5.setCell ⟨w.heap.size,0,none⟩ (.int .i64 (count:Int))).setCell ⟨w.heap.size,1,none⟩ (.int .i64 (clock:Int))).setCell ⟨w.heap.size,2,none⟩ (.string s)) B jb db sb fv (jf dd dd.size) l2 fv2 clock (count+1)):=by
   have hoth:∀g,g≠w.heap.size→(((W5.setCell ⟨w.heap.size,0,none⟩ (.int .i64 (count:Int))).setCell ⟨w.heap.size,1,none⟩ (.int .i64 (clock:Int))).setCell ⟨w.heap.size,2,none⟩ (.string s)).heap[g]? = W5.heap[g]? := fun g hg=>by rw[zt hg,zt hg,zt hg]
   refine⟨HJ6.out.j.same (fun g hg=>hoth g (fun q=>?_)),⟨HJ6.out.tch.os,HJ6.out.tch.tape,HJ6.out.tch.output,by have:=HJ6.out.tch.size;simpa using this,fun k hk hn=>(hoth k (by omega)).trans (HJ6.out.tch.block k hk hn)⟩,HJ6.out.new⟩;subst q
   rcases hg with q|q|q|q
   ·omega
   ·have:=HJ6.out.j.ptr;rw[←q,Ptr,hkw5]at this
    injection this with this
    injection this with _ this _
    exact absurd this (by decide)
   ·have:=HJ6.out.j.st.blk;rw[←q,hkw5]at this
    injection this with this
    injection this with _ this _
    exact absurd this (by decide)
   ·obtain⟨_,_,D,hD⟩:=zw HJ6.out.j.st.own q;rw[hkw5]at hD
    injection hD with hD
    injection hD with _ hD _
    exact absurd hD (by decide)
  have hld:=run_loadVar_row (P:=Tryz.prog) _ w.heap.size 66 66 _ _ _ hfin Tryz.underlying66 rfl hsz;have HLD:=zx hld;have HW5:=zx hW5;clear hld hfin hW5
  go_upto_region 5 with fail
  rw[←HW5.out];go_wp2
  (try simp only[Exit.inBlock,Exit.then])
  refine bodyPost_ret (v:=.tuple #[.agg #[.int .i64 (count:Int), .int .i64 (clock:Int), .string s], .bool true]) ?_ rfl ⟨rfl,fv2,HJ7.out⟩;have hld:=HLD.out;rw[results_cell_tmp rfl];simp[asAddr,Result.andThen,hld]
def yd (clock:Nat) (n:Int):Bool:=decide (1≤n)&&(decide (n≤1000)&&decide (n≤1000000000000-(clock:Int)))
theorem nr {w:World}{B jb db sb:Nat}{fs:List Fl}{left:Int}{fv:Value}{clock count:Nat}(h:JAt w B jb db sb fs left fv clock count) (n:Int) (hc:clock≤1000000000000) :
  Calls Tryz.prog 201 #[.pointer (some ⟨jb,0,none⟩), .int .i64 n] w fun e w'=>e=.returned (.bool (yd clock n))∧w'=w:=by
 obtain⟨c1,_⟩:=zy (j:=1) (u:=.int .i64 (clock:Int)) h.blk rfl;clear h;obtain⟨bb,hbb⟩:∃bb,bb=yd clock n:=⟨_,rfl⟩;rw[←hbb];have HBB:=zx hbb;clear hbb;by_cases a:1≤n
 ·by_cases b:n≤1000
  ·by_cases c:n≤1000000000000-(clock:Int)
   ·have HT:Hid (bb=true):=by rw[HBB.out];unfold yd;show _=_;rw[decide_eq_true a,decide_eq_true b,decide_eq_true c];rfl
    go_enter Tryz.func201,Tryz.ntmps201
    go_wp2;go_ret;exact⟨by rw[HT.out];simp,rfl⟩
   ·have HT:Hid (bb=false):=by rw[HBB.out];unfold yd;show _=_;rw[decide_eq_true a,decide_eq_true b,decide_eq_false c];rfl
    go_enter Tryz.func201,Tryz.ntmps201
    go_wp2;go_ret;exact⟨by rw[HT.out];simp,rfl⟩
  ·have HT:Hid (bb=false):=by rw[HBB.out];unfold yd;show _=_;rw[decide_eq_true a,decide_eq_false b];rfl
   go_enter Tryz.func201,Tryz.ntmps201
   go_wp2;go_ret;exact⟨by rw[HT.out];simp,rfl⟩
 ·have HT:Hid (bb=false):=by rw[HBB.out];unfold yd;show _=_;rw[decide_eq_false a];rfl
  go_enter Tryz.func201,Tryz.ntmps201
  go_wp2;go_ret;exact⟨by rw[HT.out];simp,rfl⟩
theorem iJ {w:World}{B jb db sb:Nat}{dt:ByteArray}{sf:Nat}{left:Int}{fv:Value}{clock count:Nat}(h:JAt w B jb db sb (jf dt sf) left fv clock count) (hB:B≤w.heap.size) (h1:-1≤left) (h2:left<9223372036854775808) (q0:left≠0) (q1:left≠1)
  (n:Nat) (hn:n≤1000) (hd:dt.size≤1099511627776) (hc:clock≤1000000000000) (ht:Tab10 w) :
  Calls Tryz.prog 202 #[.pointer (some ⟨jb,0,none⟩), .int .i64 (n:Int)] w fun e w'=>e=.returned (.bool true)∧∃fv',JStp w w' B jb db sb fv (jf (dt++yU 1 (wY n)) (dt++yU 1 (wY n)).size) (yx (yx left)) fv' (clock+n) count:=by
 have CI:=zx (dp (n:Int) (by omega) (by omega) w ht);have hsz:=rv (n:Int) (by omega) (by omega)
 have CW:Hid (∀W,Below w.heap.size w W→_):=fun W hW=>rx (h.below hW) (Nat.le_trans hB hW.size) h1 h2 q0 q1 1 (by omega) (by omega) (wY n) (by omega) hd
 clear h hd h1 h2 q0 q1 ht hsz;generalize dt++yU 1 (wY n)=dd at *;generalize wY n=it at *;generalize yx (yx left)=l2 at *
 go_enter Tryz.func202,Tryz.ntmps202
 go_wp2_with (first
  | (go_at_call 246;refine CI.out.mono ?_;rintro e w2 ⟨rfl,hb2⟩;have HB2:=zx hb2;clear hb2)
  | (go_at_call 97;refine(CW.out _ HB2.out).mono ?_;rintro e w3 ⟨rfl,fv3,hj3⟩;have HJ3:=zx (JStp.pre HB2.out hj3);obtain⟨d1,f1⟩:=zy (j:=1) (u:=.int .i64 (clock:Int)) hj3.j.blk rfl;clear hj3))
 go_ret;exact⟨rfl,fv3,HJ3.out.trans (HJ3.out.j.setNums 1 (clock+n) (clock+n) count (Or.inl ⟨rfl,rfl,rfl⟩))⟩
def xL (ks:List Wk):Nat→Nat
 | 0=>0
 | i+1=>if (ks.getD (xL ks i) zo).list.length<(ks.getD i zo).list.length then i else xL ks i
theorem vo (ks:List Wk):∀k,0<k→xL ks k<k
 | 0,h=>by omega
 | 1,_=>by simp[xL]
 | i+2,_=>by
  have:=vo ks (i+1) (by omega);rw[xL]
  split <;> omega
theorem jA {w:World}{lb b1 b2:Nat}{k1 k2:Wk}(h1:WkRd w lb b1 k1) (h2:WkRd w lb b2 k2) (_hl1:k1.list.length≤100) (_hl2:k2.list.length≤100) :
  Calls Tryz.prog 280 #[.pointer (some ⟨b1,0,none⟩), .pointer (some ⟨b2,0,none⟩)] w fun e w'=>∃r:Int,e=.returned (.int .i64 r)∧decide (0<r)=decide (k2.list.length<k1.list.length)∧Below w.heap.size w w':=by
 obtain⟨lv1,hb1,hr1⟩:=h1;obtain⟨lv2,hb2,hr2⟩:=h2;obtain⟨a1,c1,rfl,hc1,hm1,_⟩:=hr1;obtain⟨a2,c2,rfl,hc2,hm2,_⟩:=hr2;obtain⟨q1,_⟩:=zA (j:=1) (u:=.slice a1 k1.list.length c1) hb1 rfl;obtain⟨q2,_⟩:=zA (j:=1) (u:=.slice a2 k2.list.length c2) hb2 rfl
 obtain⟨r,hr0,hr⟩:∃r:Int,(∀w,Calls Tryz.prog 229 #[.int .i64 (k1.list.length:Int), .int .i64 (k2.list.length:Int)] w fun e w'=>e=.returned (.int .i64 r)∧w'=w)∧decide (0<r)=decide (k2.list.length<k1.list.length):=by
  rcases Nat.lt_trichotomy k1.list.length k2.list.length with h|h|h
  ·exact⟨-1,fun w=>WI.cmp_lt _ _ w (by omega),by rw[decide_eq_false (by omega),decide_eq_false (by omega)]⟩
  ·exact⟨0,fun w=>by rw[h];exact WI.cmp_eq _ w,by rw[decide_eq_false (by omega),decide_eq_false (by omega)]⟩
  ·exact⟨1,fun w=>WI.cmp_gt _ _ w (by omega),by rw[decide_eq_true (by omega),decide_eq_true (by omega)]⟩
 have HR:=zX hr;have CM:=zX hr0;clear hr hr0 hb1 hb2;generalize k1.list.length=n1 at *;generalize k2.list.length=n2 at *
 go_enter Tryz.func280,Tryz.ntmps280
 go_wp2_with fail
 go_quiet (first
  | (go_at_call 229;exact Calls.quiet_of_same (CM.out _)))
 go_wp2;go_ret;exact⟨r,rfl,HR.out,yR w _⟩
theorem qs {w:World}{lb:Nat}{v:Value}{bs:List Nat}{ks:List Wk}(h:WksRd w lb v bs ks) (h0:0<ks.length) (hl:∀j,j<ks.length→(ks.getD j zo).list.length≤100) :
  Calls Tryz.prog 279 #[v, .func (.func 280) #[] #[]] w fun e w'=>e=.returned (.pointer (some ⟨bs.getD (xL ks ks.length) 0,0,none⟩))∧Below w.heap.size w w':=by
 obtain⟨a,c,rfl,hc,hm,hp⟩:=h.row;unfold maxLen at hm;have hln:=h.len;have HH:=zX h;have HLL:=zX hl
 rcases hp with hp|⟨b,o,rfl,hp⟩
 ·rw[hp]at hln;simp at hln;omega
 have HP:=zX hp;clear h hl;rw[hln]at hc;generalize hn:ks.length=n at *;have HN:=zX hn;clear hn;rw[hln];have HLN:=zX hln;have d0:=hp 0 (by omega);rw[Nat.add_zero]at d0;clear hln hp
 have HB1:Hid (xL ks 1=0):=by show xL ks 1=0;simp[xL]
 have hb0:Hid (bs.getD (xL ks 1) 0=bs.getD 0 0):=by show _=_;rw[HB1.out]
 go_enter Tryz.func279,Tryz.ntmps279
 go_wp2_with fail
 go_loopw [5,6] (fun m i wr=>∃k:Nat,1≤k∧k≤n∧i=.int .i64 k∧m=.pointer (some ⟨bs.getD (xL ks k) 0,0,none⟩)∧Below w.heap.size w wr) (fun _ i _=>n-(intOf i).toNat)
 case atStart=>exact⟨1,by omega,by omega,rfl,by rw[hb0.out];rfl,Below.refl _ _⟩
 case round=>
  obtain⟨k,hk1,hk,rfl,rfl,hb⟩:=hrel;have HBW:=zX hb;clear hb d0;by_cases hlt:k<n
  ·have hbl:=vo ks k hk1;have C1:=zX (jA ((HH.out.one k (by rw[HN.out];exact hlt)).below HBW.out) ((HH.out.one (xL ks k) (by rw[HN.out];omega)).below HBW.out) (HLL.out k hlt) (HLL.out _ (by omega)));have d1:=HP.out k (by rw[HLN.out];exact hlt);have d2:wr.cell? ⟨b,o+k,none⟩=some (.pointer (some ⟨bs.getD k 0,0,none⟩)):=(HBW.out.cell (p:=⟨b,o+k,none⟩) (World.block_lt_of_cell? _ _ d1)).trans d1;clear d1
   have HS:Hid (xL ks (k+1)=if (ks.getD (xL ks k) zo).list.length<(ks.getD k zo).list.length then k else xL ks k):=by show _=_;rw[xL]
   by_cases hq:(ks.getD (xL ks k) zo).list.length<(ks.getD k zo).list.length
   ·rw[decide_eq_true hq]at C1
    have HS2:Hid (xL ks (k+1)=k):=by show _=_;rw[HS.out,if_pos hq]
    clear hq HS hbl;generalize xL ks k=m at *;generalize hpb:bs.getD k 0=pb at *;have HPB:=zX hpb;clear hpb;generalize bs.getD m 0=mb at *;go_wp2_with (first|(go_at_call 280;refine C1.out.mono ?_;rintro e w2 ⟨r,rfl,hr,hb⟩;have hr2:0<r:=of_decide_eq_true hr;have HB2:=zX (HBW.out.trans (hb.mono HBW.out.size));have d3:w2.cell? ⟨b,o+k,none⟩=some (.pointer (some ⟨pb,0,none⟩)):=(hb.cell (p:=⟨b,o+k,none⟩) (World.block_lt_of_cell? _ _ d2)).trans d2;clear hb hr))
    go_roundw
    case rel=>exact⟨k+1,by omega,by omega,by go_num,by rw[HS2.out,HPB.out],HB2.out⟩
    case measure=>simp[intOf];omega
   ·rw[decide_eq_false hq]at C1
    have HS2:Hid (xL ks (k+1)=xL ks k):=by show _=_;rw[HS.out,if_neg hq]
    clear hq HS hbl;generalize xL ks k=m at *;generalize bs.getD k 0=pb at *;generalize hmb:bs.getD m 0=mb at *;have HMB:=zX hmb;clear hmb;go_wp2_with (first|(go_at_call 280;refine C1.out.mono ?_;rintro e w2 ⟨r,rfl,hr,hb⟩;have hr2:¬0<r:=of_decide_eq_false hr;have HB2:=zX (HBW.out.trans (hb.mono HBW.out.size));clear hb hr))
    go_roundw
    case rel=>exact⟨k+1,by omega,by omega,by go_num,by rw[HS2.out,HMB.out],HB2.out⟩
    case measure=>simp[intOf];omega
  ·have:k=n:=by omega
   subst this;go_wp2;go_ret;exact⟨rfl,HBW.out⟩
structure Lg where
 memory:Nat
 fan:Nat
 back:Nat
 keep:Nat
 batch:Nat
 clock:Nat
 count:Nat
 mem:List Ent
 lev:Nat→List (List Ent)
 wks:List Wk
 tls:Int→Option (ByteArray × Nat)
 tn:Nat
 subs:Nat
structure Gh where
 jb:Nat
 db:Nat
 sb:Nat
 fv:Value
 dt:ByteArray
 sf:Nat
 left:Int
 ms:Nat
 mm:Nat
 me:Value
 lr:Nat→Value
 bs:Nat→List Nat
 se:Nat→Value
 sm:Nat→Nat
 wr:Value
 wb:List Nat
 wl:Nat→Value
 tm:Nat
abbrev zr (b:Nat):Value:=.pointer (some ⟨b,0,none⟩)
def mJ (G:Gh) (L:Lg):Array Value:=#[.int .i64 (L.memory:Int), .int .i64 (L.fan:Int), .int .i64 (L.back:Int), .int .i64 (L.wks.length:Int), .int .i64 (L.keep:Int), .int .i64 (L.batch:Int),zr G.jb,zr G.ms,G.lr 0,G.lr 1,G.lr 2,G.lr 3,G.lr 4,G.lr 5,G.wr, .map (some G.tm), .int .i64 (L.subs:Int)]
def tE (x:Nat):List Value:=[.int .i64 (x:Int), .int .i64 ((x:Int)+1)]
def kN (p:ByteArray × Nat):Value:=.agg #[.string p.1, .int .i64 (p.2:Int)]
abbrev zT:DataW Value:=.held (.agg #[.string ⟨#[]⟩, .int .i64 0])
structure LHd (w:World) (ρ:Nat→Nat) (lb:Nat) (G:Gh) (L:Lg):Prop where
 blk:w.heap[lb]? = some (Obj.cells (mJ G L) 134 (0,0))
 rl:ρ lb=1
structure LJ (w:World) (ρ:Nat→Nat) (B:Nat) (G:Gh) (L:Lg):Prop where
 j:JAt w B G.jb G.db G.sb (jf G.dt G.sf) G.left G.fv L.clock L.count
 rl:∀k,vr G.jb G.db G.sb G.fv k→ρ k=2
structure LM (w:World) (ρ:Nat→Nat) (B:Nat) (G:Gh) (L:Lg):Prop where
 seg:SegAt w B G.ms L.mem G.me G.mm
 rl:∀k,yA G.ms G.mm G.me k→ρ k=3
structure LV (w:World) (ρ:Nat→Nat) (B:Nat) (G:Gh) (L:Lg):Prop where
 row:∀i,i<6→w.ownsRow B 128 1 (G.lr i) (G.bs i).length ((G.bs i).map zr)
 len:∀i,i<6→(G.bs i).length=(L.lev i).length
 seg:∀i,i<6→∀j,j<(G.bs i).length→SegAt w B ((G.bs i).getD j 0) ((L.lev i).getD j []) (G.se ((G.bs i).getD j 0)) (G.sm ((G.bs i).getD j 0))
 rr:∀i,i<6→∀g,some g=(G.lr i).ownBlock→ρ g=10+i
 rs:∀i,i<6→∀j,j<(G.bs i).length→∀k,yA ((G.bs i).getD j 0) (G.sm ((G.bs i).getD j 0)) (G.se ((G.bs i).getD j 0)) k→ρ k=4
structure LW (w:World) (ρ:Nat→Nat) (B lb:Nat) (G:Gh) (L:Lg):Prop where
 row:w.ownsRow B 140 1 G.wr G.wb.length (G.wb.map zr)
 len:G.wb.length=L.wks.length
 one:∀i,i<L.wks.length→w.heap[G.wb.getD i 0]? = some (Obj.cells (mK lb (G.wb.getD i 0) (L.wks.getD i zo) (G.wl i)) 139 (0,0))
 lst:∀i,i<L.wks.length→w.ownsRow B 137 2 (G.wl i) (L.wks.getD i zo).list.length ((L.wks.getD i zo).list.flatMap tE)
 ok:∀i,i<L.wks.length→mF (L.wks.getD i zo)∧(L.wks.getD i zo).list.Nodup
 few:0<L.wks.length∧L.wks.length≤4
 ge:∀i,i<L.wks.length→B≤G.wb.getD i 0
 rw:∀g,some g=G.wr.ownBlock→ρ g=5
 rb:∀i,i<L.wks.length→ρ (G.wb.getD i 0)=20+i
 rl:∀i,i<L.wks.length→∀g,some g=(G.wl i).ownBlock→ρ g=20+i
def TlsAt (w:World) (tm N:Nat) (tls:Int→Option (ByteArray × Nat)) (tn:Nat):Prop:=
 ∃D n,w.ownsMap Tryz.prog 3 dO tm n D∧n≤N∧Maps.size D=tn∧∀x:Int,(Maps.has D (.int .i64 x)=(tls x).isSome)∧∀p,tls x=some p→D.atKey (.int .i64 x) zT=.held (kN p)
structure LT (w:World) (ρ:Nat→Nat) (B N:Nat) (G:Gh) (L:Lg):Prop where
 map:TlsAt w G.tm N L.tls L.tn
 rl:ρ G.tm=6
 ge:B≤G.tm
structure LogX (w:World) (ρ:Nat→Nat) (B N lb:Nat) (G:Gh) (L:Lg):Prop where
 b:LHd w ρ lb G L
 j:LJ w ρ B G L
 v:LV w ρ B G L
 k:LW w ρ B lb G L
 t:LT w ρ B N G L
 lt:∀k,ρ k≠0→k<w.heap.size∧B≤k
structure LogAt (w:World) (ρ:Nat→Nat) (B N lb:Nat) (G:Gh) (L:Lg):Prop where
 x:LogX w ρ B N lb G L
 m:LM w ρ B G L
def Same (w w':World) (ρ:Nat→Nat) (c:Nat→Prop):Prop:=∀g,(c (ρ g)∨wM w g)→w'.heap[g]? = w.heap[g]?
theorem Same.trans {w w1 w2:World}{ρ ρ1:Nat→Nat}{c:Nat}(hc:c≠0) (h1:Same w w1 ρ (fun d=>d=c)) (hk:∀g,ρ g≠0→ρ1 g=ρ g) (h2:Same w1 w2 ρ1 (fun d=>d=c)):Same w w2 ρ (fun d=>d=c):=by
 intro g q;have e1:=h1 g q;refine(h2 g ?_).trans e1
 rcases q with q|q
 ·exact Or.inl ((hk g (by rw[q];exact hc)).trans q)
 ·obtain⟨C,fr,hC⟩:=q;exact Or.inr ⟨C,fr,e1.trans hC⟩
theorem Same.below {w w':World}{ρ:Nat→Nat}{B c:Nat}(hl:∀k,ρ k≠0→k<w.heap.size∧B≤k) (hc:c≠0) (hb:Below w.heap.size w w'):Same w w' ρ (fun d=>d=c):=by
 intro g q;refine hb.block g ?_
 rcases q with q|q
 ·exact(hl g (by rw[q];exact hc)).1
 ·exact yw q
theorem LHd.same {w w':World}{ρ:Nat→Nat}{lb:Nat}{G:Gh}{L:Lg}(h:LHd w ρ lb G L) (hs:Same w w' ρ (fun c=>c=1)):LHd w' ρ lb G L:=⟨(hs lb (Or.inl h.rl)).trans h.blk,h.rl⟩
theorem LJ.same {w w':World}{ρ:Nat→Nat}{B:Nat}{G:Gh}{L:Lg}(h:LJ w ρ B G L) (hs:Same w w' ρ (fun c=>c=2)):LJ w' ρ B G L:=⟨h.j.same (fun g hg=>hs g (Or.inl (h.rl g hg))),h.rl⟩
theorem LM.same {w w':World}{ρ:Nat→Nat}{B:Nat}{G:Gh}{L:Lg}(h:LM w ρ B G L) (hs:Same w w' ρ (fun c=>c=3)):LM w' ρ B G L:=⟨h.seg.same (fun g hg=>hs g (hg.imp (fun q=>h.rl g q) id)),h.rl⟩
theorem LV.same {w w':World}{ρ:Nat→Nat}{B:Nat}{G:Gh}{L:Lg}(h:LV w ρ B G L) (hs:Same w w' ρ (fun c=>c=4∨∃i,i<6∧c=10+i)):LV w' ρ B G L:=
 ⟨fun i hi=>zn (h.row i hi) (fun g hg=>hs g (Or.inl (Or.inr ⟨i,hi,h.rr i hi g hg⟩))),h.len,fun i hi j hj=>(h.seg i hi j hj).same (fun g hg=>hs g (hg.imp (fun q=>Or.inl (h.rs i hi j hj g q)) id)),h.rr,h.rs⟩
theorem LW.same {w w':World}{ρ:Nat→Nat}{B lb:Nat}{G:Gh}{L:Lg}(h:LW w ρ B lb G L) (hs:Same w w' ρ (fun c=>c=5∨∃i,i<L.wks.length∧c=20+i)):LW w' ρ B lb G L:=
 ⟨zn h.row (fun g hg=>hs g (Or.inl (Or.inl (h.rw g hg)))),h.len,fun i hi=>(hs _ (Or.inl (Or.inr ⟨i,hi,h.rb i hi⟩))).trans (h.one i hi),fun i hi=>zn (h.lst i hi) (fun g hg=>hs g (Or.inl (Or.inr ⟨i,hi,h.rl i hi g hg⟩))),h.ok,h.few,h.ge,h.rw,h.rb,h.rl⟩
theorem TlsAt.same {w w':World}{tm N:Nat}{tls:Int→Option (ByteArray × Nat)}{tn:Nat}(h:TlsAt w tm N tls tn) (hs:w'.heap[tm]? = w.heap[tm]?):TlsAt w' tm N tls tn:=by
 obtain⟨D,n,⟨es,c,hb,F⟩,h2⟩:=h;exact⟨D,n,⟨es,c,hs.trans hb,F⟩,h2⟩
theorem LT.same {w w':World}{ρ:Nat→Nat}{B N:Nat}{G:Gh}{L:Lg}(h:LT w ρ B N G L) (hs:Same w w' ρ (fun c=>c=6)):LT w' ρ B N G L:=⟨h.map.same (hs G.tm (Or.inl h.rl)),h.rl,h.ge⟩
theorem LHd.role {w:World}{ρ ρ':Nat→Nat}{lb:Nat}{G:Gh}{L:Lg}(h:LHd w ρ lb G L) (hr:∀g,ρ g=1→ρ' g=1):LHd w ρ' lb G L:=⟨h.blk,hr _ h.rl⟩
theorem LJ.role {w:World}{ρ ρ':Nat→Nat}{B:Nat}{G:Gh}{L:Lg}(h:LJ w ρ B G L) (hr:∀g,ρ g=2→ρ' g=2):LJ w ρ' B G L:=⟨h.j,fun k q=>hr k (h.rl k q)⟩
theorem LM.role {w:World}{ρ ρ':Nat→Nat}{B:Nat}{G:Gh}{L:Lg}(h:LM w ρ B G L) (hr:∀g,ρ g=3→ρ' g=3):LM w ρ' B G L:=⟨h.seg,fun k q=>hr k (h.rl k q)⟩
theorem LV.role {w:World}{ρ ρ':Nat→Nat}{B:Nat}{G:Gh}{L:Lg}(h:LV w ρ B G L) (hr:∀g,(ρ g=4∨∃i,i<6∧ρ g=10+i)→ρ' g=ρ g):LV w ρ' B G L:=
 ⟨h.row,h.len,h.seg,fun i hi g hg=>(hr g (Or.inr ⟨i,hi,h.rr i hi g hg⟩)).trans (h.rr i hi g hg),fun i hi j hj k hk=>(hr k (Or.inl (h.rs i hi j hj k hk))).trans (h.rs i hi j hj k hk)⟩
theorem LW.role {w:World}{ρ ρ':Nat→Nat}{B lb:Nat}{G:Gh}{L:Lg}(h:LW w ρ B lb G L) (hr:∀g,(ρ g=5∨∃i,i<L.wks.length∧ρ g=20+i)→ρ' g=ρ g):LW w ρ' B lb G L:=
 ⟨h.row,h.len,h.one,h.lst,h.ok,h.few,h.ge,fun g hg=>(hr g (Or.inl (h.rw g hg))).trans (h.rw g hg),fun i hi=>(hr _ (Or.inr ⟨i,hi,h.rb i hi⟩)).trans (h.rb i hi),fun i hi g hg=>(hr g (Or.inr ⟨i,hi,h.rl i hi g hg⟩)).trans (h.rl i hi g hg)⟩
theorem LT.role {w:World}{ρ ρ':Nat→Nat}{B N:Nat}{G:Gh}{L:Lg}(h:LT w ρ B N G L) (hr:∀g,ρ g=6→ρ' g=6):LT w ρ' B N G L:=⟨h.map,hr _ h.rl,h.ge⟩
structure LStp (w w':World) (ρ ρ':Nat→Nat):Prop where
 tch:Tch (fun k=>ρ k≠0∧¬wM w k) w w'
 old:∀k,k<w.heap.size→ρ k=0→ρ' k=0
theorem LStp.nodes {w w':World}{ρ ρ':Nat→Nat}(h:LStp w w' ρ ρ'):∀g,wM w g→w'.heap[g]? = w.heap[g]? := fun g hg=>h.tch.block g (yw hg) (fun q=>q.2 hg)
theorem LStp.trans {w w1 w2:World}{ρ ρ1 ρ2:Nat→Nat}(h1:LStp w w1 ρ ρ1) (h2:LStp w1 w2 ρ1 ρ2):LStp w w2 ρ ρ2:=by
 refine⟨h1.tch.trans h2.tch (fun k hk q=>?_),fun k hk q=>h2.old k (Nat.lt_of_lt_of_le hk h1.tch.size) (h1.old k hk q)⟩;refine⟨fun q0=>q.1 (h1.old k hk q0),fun qn=>q.2 ?_⟩;obtain⟨C,fr,hC⟩:=qn;exact⟨C,fr,(h1.nodes k ⟨C,fr,hC⟩).trans hC⟩
theorem LStp.below {w w1 w2:World}{ρ ρ1:Nat→Nat}(h1:LStp w w1 ρ ρ1) (hb:Below w1.heap.size w1 w2):LStp w w2 ρ ρ1:=h1.trans ⟨zH hb,fun _ _ q=>q⟩
theorem LStp.pre {w w1 w2:World}{ρ ρ1:Nat→Nat}(hb:Below w.heap.size w w1) (h1:LStp w1 w2 ρ ρ1):LStp w w2 ρ ρ1:=(⟨zH hb,fun _ _ q=>q⟩:LStp w w1 ρ ρ).trans h1
theorem rp {w w' W0:World}{ρ ρ':Nat→Nat}{B:Nat}(hb:Below B W0 w) (h:LStp w w' ρ ρ') (hl:∀k,ρ k≠0→k<w.heap.size∧B≤k) (hB:B≤w.heap.size):Below B W0 w':=zP hb h.tch (fun k q=>(hl k q.1).2) hB
theorem LogX.same {w w':World}{ρ:Nat→Nat}{B N lb:Nat}{G:Gh}{L:Lg}(h:LogX w ρ B N lb G L) (hs:∀g,(ρ g≠0∨wM w g)→w'.heap[g]? = w.heap[g]?) (hz:w.heap.size≤w'.heap.size):LogX w' ρ B N lb G L:=
 ⟨h.b.same fun g q=>hs g (q.imp (fun q=>by omega) id),h.j.same fun g q=>hs g (q.imp (fun q=>by omega) id),h.v.same fun g q=>hs g (q.imp (fun q=>by rcases q with q|⟨i,_,q⟩ <;> omega) id),h.k.same fun g q=>hs g (q.imp (fun q=>by rcases q with q|⟨i,_,q⟩ <;> omega) id),h.t.same fun g q=>hs g (q.imp (fun q=>by omega) id),fun k q=>⟨Nat.lt_of_lt_of_le (h.lt k q).1 hz,(h.lt k q).2⟩⟩
theorem LogX.below {w w':World}{ρ:Nat→Nat}{B N lb:Nat}{G:Gh}{L:Lg}(h:LogX w ρ B N lb G L) (hb:Below w.heap.size w w'):LogX w' ρ B N lb G L:=
 h.same (fun g q=>hb.block g (by rcases q with q|q;exact(h.lt g q).1;exact yw q)) hb.size
theorem LogAt.same {w w':World}{ρ:Nat→Nat}{B N lb:Nat}{G:Gh}{L:Lg}(h:LogAt w ρ B N lb G L) (hs:∀g,(ρ g≠0∨wM w g)→w'.heap[g]? = w.heap[g]?) (hz:w.heap.size≤w'.heap.size):LogAt w' ρ B N lb G L:=
 ⟨h.x.same hs hz,h.m.same fun g q=>hs g (q.imp (fun q=>by omega) id)⟩
theorem LogAt.below {w w':World}{ρ:Nat→Nat}{B N lb:Nat}{G:Gh}{L:Lg}(h:LogAt w ρ B N lb G L) (hb:Below w.heap.size w w'):LogAt w' ρ B N lb G L:=
 h.same (fun g q=>hb.block g (by rcases q with q|q;exact(h.x.lt g q).1;exact yw q)) hb.size
noncomputable def ext (ρ:Nat→Nat) (n:Nat) (P:Nat→Prop) (c:Nat) (k:Nat):Nat:=by
 classical
 exact if k<n then ρ k else if P k then c else 0
theorem wm {ρ:Nat→Nat}{n:Nat}{P:Nat→Prop}{c k:Nat}(h:k<n):ext ρ n P c k=ρ k:=by
 unfold ext;rw[if_pos h]
theorem vQ {ρ:Nat→Nat}{n:Nat}{P:Nat→Prop}{c k:Nat}(h:n≤k) (hp:P k):ext ρ n P c k=c:=by
 unfold ext;rw[if_neg (by omega),if_pos hp]
theorem tu {ρ:Nat→Nat}{n m B:Nat}{P:Nat→Prop}{c:Nat}(h:∀k,ρ k≠0→k<n∧B≤k) (hm:n≤m) (hB:B≤n) (hP:∀k,P k→k<m):∀k,ext ρ n P c k≠0→k<m∧B≤k:=by
 intro k q;by_cases hk:k<n
 ·rw[wm hk]at q;have:=h k q;omega
 ·by_cases hp:P k
  ·have:=hP k hp;omega
  ·unfold ext at q;rw[if_neg hk,if_neg hp]at q;exact absurd rfl q
theorem xC {ρ:Nat→Nat}{n B:Nat}{P:Nat→Prop}{c:Nat}(h:∀k,ρ k≠0→k<n∧B≤k):∀g,ρ g≠0→ext ρ n P c g=ρ g:=fun g q=>wm (h g q).1
theorem LogX.others {w w':World}{ρ:Nat→Nat}{B N lb:Nat}{G:Gh}{L:Lg}(h:LogX w ρ B N lb G L){S:Nat→Prop}(ht:Tch S w w'){c:Nat}(hS:∀k,S k→ρ k=c∧¬wM w k) :
  (∀d:Nat→Prop,¬d c→¬d 0→Same w w' ρ d):=by
 intro d hd h0 g q
 have hlt:g<w.heap.size:=by
  rcases q with q|q
  ·exact(h.lt g (fun e=>h0 (by rw[e]at q;exact q))).1
  ·exact yw q
 refine ht.block g hlt (fun s=>?_);obtain⟨s1,s2⟩:=hS g s
 rcases q with q|q
 ·rw[s1]at q;exact hd q
 ·exact s2 q
end Go.Proofs.YtkncboinfcnklaaGreatDoor
