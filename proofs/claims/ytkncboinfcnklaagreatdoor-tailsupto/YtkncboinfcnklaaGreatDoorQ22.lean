import Derived.Test.YtkncboinfcnklaaGreatDoorQ19
import Derived.Test.YtkncboinfcnklaaGreatDoorQ5
import Derived.Laws.AppendOwnNone
set_option maxRecDepth 100000
set_option maxHeartbeats 8000000
namespace Go.Proofs.YtkncboinfcnklaaGreatDoor.Rl
open Go.RowKit Go.Deep Go.Shelf Go.Proofs.YtkncboinfcnklaaGreatDoor.Mth
theorem aF (n lo hi:Int) (w:World):Calls Tryz.prog 198 #[.int .i64 n, .int .i64 lo, .int .i64 hi] w fun e w'=>e=.returned (.bool (decide (lo≤n∧n≤hi)))∧w'=w:=by
 by_cases h1:lo≤n
 ·go_enter Tryz.func198,Tryz.ntmps198
  go_wp2;go_ret;refine⟨?_,rfl⟩;simp[h1]
 ·go_enter Tryz.func198,Tryz.ntmps198
  go_wp2;go_ret;refine⟨?_,rfl⟩;rw[decide_eq_false (show ¬lo≤n by omega)];rfl
theorem uz (c0 c1 c2 c3 c4 c5:Int) (w:World):Calls Tryz.prog 123 #[.agg #[.int .i64 c0, .int .i64 c1, .int .i64 c2, .int .i64 c3, .int .i64 c4, .int .i64 c5]] w fun e w'=>e=.returned (.bool (ux c0 c1 c2 c3 c4 c5))∧Below w.heap.size w w':=by
 have HB:=zx (zv w (Obj.cells #[.int .i64 c0, .int .i64 c1, .int .i64 c2, .int .i64 c3, .int .i64 c4, .int .i64 c5] 56));have hk1:=zj w #[.int .i64 c0, .int .i64 c1, .int .i64 c2, .int .i64 c3, .int .i64 c4, .int .i64 c5] 56;obtain⟨w1,hw1⟩:∃w1,w1=w.alloc (Obj.cells #[.int .i64 c0, .int .i64 c1, .int .i64 c2, .int .i64 c3, .int .i64 c4, .int .i64 c5] 56):=⟨_,rfl⟩;rw[←hw1]at HB hk1;obtain⟨nb,hnb⟩:∃nb,nb=w.heap.size:=⟨_,rfl⟩;rw[←hnb]at hk1;have CI:=zx (fun n lo hi=>aF n lo hi w1);obtain⟨a0,_⟩:=zy (j:=0) (u:=.int .i64 c0) hk1 rfl;obtain⟨a1,_⟩:=zy (j:=1) (u:=.int .i64 c1) hk1 rfl;obtain⟨a2,_⟩:=zy (j:=2) (u:=.int .i64 c2) hk1 rfl;obtain⟨a3,_⟩:=zy (j:=3) (u:=.int .i64 c3) hk1 rfl;obtain⟨a4,_⟩:=zy (j:=4) (u:=.int .i64 c4) hk1 rfl;obtain⟨a5,_⟩:=zy (j:=5) (u:=.int .i64 c5) hk1 rfl;have HW1:=zx hw1;have HNB:=zx hnb;clear hk1 hw1 hnb;unfold ux;generalize e0:decide (1≤c0∧c0≤8)=b0;generalize e1:decide (2≤c1∧c1≤4)=b1;generalize e2:decide (0≤c2∧c2≤4)=b2;generalize e3:decide (1≤c3∧c3≤4)=b3;generalize e4:decide (1≤c4∧c4≤1000000)=b4;generalize e5:decide (1≤c5∧c5≤8)=b5;have D0:=zx (CI.out c0 1 8);have D1:=zx (CI.out c1 2 4);have D2:=zx (CI.out c2 0 4);have D3:=zx (CI.out c3 1 4);have D4:=zx (CI.out c4 1 1000000);have D5:=zx (CI.out c5 1 8);rw[e0]at D0;rw[e1]at D1;rw[e2]at D2;rw[e3]at D3;rw[e4]at D4;rw[e5]at D5;clear e0 e1 e2 e3 e4 e5 CI
 go_enter Tryz.func123,Tryz.ntmps123
 go_upto_region 1 with fail
 rw[←HW1.out,←HNB.out]
 go_upto_region 7 with(first
  | (go_at_call_of 198 (Value.int .i64 c0);refine D0.out.mono ?_;rintro e w' ⟨rfl,hw'⟩;rw[hw'];clear hw' w')
  | (go_at_call_of 198 (Value.int .i64 c1);refine D1.out.mono ?_;rintro e w' ⟨rfl,hw'⟩;rw[hw'];clear hw' w')
  | (go_at_call_of 198 (Value.int .i64 c2);refine D2.out.mono ?_;rintro e w' ⟨rfl,hw'⟩;rw[hw'];clear hw' w')
  | (go_at_call_of 198 (Value.int .i64 c3);refine D3.out.mono ?_;rintro e w' ⟨rfl,hw'⟩;rw[hw'];clear hw' w')
  | (go_at_call_of 198 (Value.int .i64 c4);refine D4.out.mono ?_;rintro e w' ⟨rfl,hw'⟩;rw[hw'];clear hw' w')
  | (go_at_call_of 198 (Value.int .i64 c5);refine D5.out.mono ?_;rintro e w' ⟨rfl,hw'⟩;rw[hw'];clear hw' w'))
 have HF:Hid (Below w.heap.size w w1):=HB.out;clear D0 D1 D2 D3 D4 D5
 have hcase:b0=false∨(b0=true∧b1=false)∨(b0=true∧b1=true∧b2=false)∨(b0=true∧b1=true∧b2=true∧b3=false)∨(b0=true∧b1=true∧b2=true∧b3=true∧b4=false)∨(b0=true∧b1=true∧b2=true∧b3=true∧b4=true):=by
  cases b0 <;> cases b1 <;> cases b2 <;> cases b3 <;> cases b4 <;> simp
 rcases hcase with rfl|⟨rfl,rfl⟩|⟨rfl,rfl,rfl⟩|⟨rfl,rfl,rfl,rfl⟩|⟨rfl,rfl,rfl,rfl,rfl⟩|⟨rfl,rfl,rfl,rfl,rfl⟩
 all_goals (
  go_wp2_with fail;go_ret
  exact⟨rfl,HF.out⟩)
theorem eP {w:World}{B:Nat}{e:TypeId}{sz:Nat}{v:Value}{n:Nat}{xs:List Value}(h:w.ownsRow B e sz v n xs):(v=.slice none 0 0∧n=0∧xs=[])∨∃g c,v=.slice (some ⟨g,0,none⟩) n c∧∀j u,xs[j]? = some u→w.cell? ((⟨g,0,none⟩:Addr).add j)=some u:=by
 rcases h.2 with⟨h1,h2⟩|⟨g,c,cur,h1,_⟩
 ·exact Or.inl ⟨h1,h2,List.eq_nil_of_length_eq_zero (by rw[h.1,h2];simp)⟩
 ·exact Or.inr ⟨g,c,h1,h.cells (g:=g) (by rw[h1];rfl)⟩
theorem vx {P:Program}(w:World) (base B2:Nat) (t ty e:TypeId) (i:TypeInfo) (z:Value) (size bytes:Nat) (ht:P.underlying t=some (.slice e)) (hi:P.info? e=some i) (hz:i.zero=some z)
  (hsize:i.size=size) (hby:i.bytes=bytes) (hzs:z.cells.size=size) (hsz:0<size)
  (v:Value) (n:Nat) (xs:List Value) (hown:w.ownsRow base e size v n xs)
  (x:Value) (m:Nat) (news:List Value) (hx:w.ownsRow B2 e size x m news) (h1:∀u∈news,u.oneCell'=true)
  (h63:n+m≤maxLen) (hbytes:(n+m)*bytes≤140737488355328) (hbase:base≤w.heap.size) :
  ∃v' w',(Builtin.append_ #[t,t] ty #[v,x]).run P w=.ok v' w'∧w'.ownsRow base e size v' (n+m) (xs++news)∧w.grownBy w' v.ownBlock∧(v'.ownBlock=v.ownBlock∨v'.ownBlock=some w.heap.size):=by
 rcases eP hx with⟨rfl,rfl,rfl⟩|⟨g,c,rfl,hc⟩
 ·refine⟨v,w,run_append_owned_none (P:=P) (w:=w) base t ty e i size ht hi v n xs hown,by simpa using hown,⟨rfl,rfl,rfl,Nat.le_refl _,fun _ _ _=>rfl⟩,Or.inl rfl⟩
 ·obtain⟨v',w',hr,h2,h3,_,h5⟩:=run_append_own_at (P:=P) w base t ty e i z size bytes ht hi hz hsize hby hzs hsz v n xs hown ⟨g,0,none⟩ m c news hx.1 hc h1 h63 hbytes hbase;exact⟨v',w',hr,h2,h3,h5⟩
theorem zb {P:Program}(w:World){ops:Array Oper}{rest:List Oper}{o:Oper}{a:Act}{Q:Exit→Act→World→Prop}(hgd:o.guard=none) (s x:Operand) (t:TypeId)
  (ho:o.op=.call { callee:=.builtin .append,args:=#[s,x],argTypes:=#[t,t] })
  (base B2:Nat) (e:TypeId) (i:TypeInfo) (z:Value) (size bytes:Nat) (ht:P.underlying t=some (.slice e)) (hi:P.info? e=some i) (hz:i.zero=some z)
  (hsize:i.size=size) (hby:i.bytes=bytes) (hzs:z.cells.size=size) (hsz:0<size)
  (v:Value) (n:Nat) (xs:List Value) (hs:a.eval s=v) (hown:w.ownsRow base e size v n xs)
  (xv:Value) (m:Nat) (news:List Value) (hx:a.eval x=xv) (hxo:w.ownsRow B2 e size xv m news) (h1:∀u∈news,u.oneCell'=true)
  (h63:n+m≤maxLen) (hbytes:(n+m)*bytes≤140737488355328) (hbase:base≤w.heap.size)
  (h:∀v' w',w'.ownsRow base e size v' (n+m) (xs++news)→w.grownBy w' v.ownBlock→(v'.ownBlock=v.ownBlock∨v'.ownBlock=some w.heap.size)→wpList P ops Q rest (a.put o.dst v') w') :
  wpList P ops Q (o::rest) a w:=by
 refine wpList_plain hgd fun K hK=>?_
 obtain⟨v',w',hr,h2,h3,h5⟩:=vx (P:=P) w base B2 t o.type e i z size bytes ht hi hz hsize hby hzs hsz v n xs hown xv m news hxo h1 h63 hbytes hbase;unfold Oper.wp execOp;simp only[ho,resolve,invoke,builtin,Sem.run_bind,Sem.run_pure,Result.andThen_ok,List.map_toArray,List.map_cons,List.map_nil,hs,hx,hr];exact hK _ _ (h v' w' h2 h3 h5)
theorem xh {P:Program}(w:World){ops:Array Oper}{o:Oper}{a:Act}{K:Act→World→Prop}{Q:Exit→Act→World→Prop}{E:Prop}(hgd:o.guard=none) (s x:Operand) (t:TypeId)
  (ho:o.op=.call { callee:=.builtin .append,args:=#[s,x],argTypes:=#[t,t] })
  (base B2:Nat) (e:TypeId) (i:TypeInfo) (z:Value) (size bytes:Nat) (ht:P.underlying t=some (.slice e)) (hi:P.info? e=some i) (hz:i.zero=some z)
  (hsize:i.size=size) (hby:i.bytes=bytes) (hzs:z.cells.size=size) (hsz:0<size)
  (v:Value) (n:Nat) (xs:List Value) (hs:a.eval s=v) (hown:w.ownsRow base e size v n xs)
  (xv:Value) (m:Nat) (news:List Value) (hx:a.eval x=xv) (hxo:w.ownsRow B2 e size xv m news) (h1:∀u∈news,u.oneCell'=true)
  (h63:n+m≤maxLen) (hbytes:(n+m)*bytes≤140737488355328) (hbase:base≤w.heap.size)
  (h:∀v' w',w'.ownsRow base e size v' (n+m) (xs++news)→w.grownBy w' v.ownBlock→(v'.ownBlock=v.ownBlock∨v'.ownBlock=some w.heap.size)→K (a.put o.dst v') w') :
  if Region.wanted o (yielded ops a.tmps)=true then Oper.wp P o a w K Q else E:=by
 have hw:Region.wanted o (yielded ops a.tmps)=true:=by simp[Region.wanted,hgd]
 rw[if_pos hw];obtain⟨v',w',hr,h2,h3,h5⟩:=vx (P:=P) w base B2 t o.type e i z size bytes ht hi hz hsize hby hzs hsz v n xs hown xv m news hxo h1 h63 hbytes hbase;unfold Oper.wp execOp;simp only[ho,resolve,invoke,builtin,Sem.run_bind,Sem.run_pure,Result.andThen_ok,List.map_toArray,List.map_cons,List.map_nil,hs,hx,hr];exact h v' w' h2 h3 h5
theorem zq {w w':World}{B:Nat}{e:TypeId}{sz:Nat}{v:Value}{n:Nat}{xs:List Value}(h:w.ownsRow B e sz v n xs) (hb:Below w.heap.size w w'):w'.ownsRow B e sz v n xs:=
 zn h (fun g hg=>hb.block g (zw h hg).2.1)
def uD:Option Nat→Int
 | none=>-1
 | some i=>(i:Int)
def mL (k:Wk) (v:Value) (r:Int):List Value:=[v, .int .i64 (uD k.runs), .int .i64 r]
structure Tl where
 num:Nat
 word:ByteArray
 place:Nat
def yY:Tl:=⟨0,⟨#[]⟩,0⟩
def xg (t:Tl):List Value:=[.int .i64 (t.num:Int), .string t.word, .int .i64 (t.place:Int)]
structure Rv where
 av:Value
 mv:Value
 lv:Nat→Value
 sv:Nat→Nat→Value
 wv:Value
 wl:Nat→Value
 rd:Nat→Int
 tv:Value
def zR (V:Rv) (L:Lg):Array Value:=#[.int .i64 (L.memory:Int), .int .i64 (L.fan:Int), .int .i64 (L.back:Int), .int .i64 (L.wks.length:Int), .int .i64 (L.keep:Int), .int .i64 (L.batch:Int), .int .i64 (L.clock:Int),V.av,V.mv,V.lv 0,V.lv 1,V.lv 2,V.lv 3,V.lv 4,V.lv 5,V.wv,V.tv, .int .i64 (L.subs:Int), .bool false, .slice none 0 0]
def yz (ks:List Wk) (wl:Nat→Value) (rd:Nat→Int):List Value:=(List.range ks.length).flatMap (fun q=>mL (ks.getD q zo) (wl q) (rd q))
abbrev iV (x:Nat):Value:=.int .i64 (x:Int)
structure RfV (Z:Nat→Prop) (B:Nat) (w:World) (V:Rv) (L:Lg) (all:List Ent) (ts:List Tl):Prop where
 all:w.ownsRow B 66 3 V.av all.length (all.flatMap eC)
 mem:w.ownsRow B 66 3 V.mv L.mem.length (L.mem.flatMap eC)
 lev:∀i,i<6→w.ownsRow B 57 1 (V.lv i) (L.lev i).length ((List.range (L.lev i).length).map (V.sv i))
 seg:∀i,i<6→∀j,j<(L.lev i).length→w.ownsRow 0 66 3 (V.sv i j) ((L.lev i).getD j []).length (((L.lev i).getD j []).flatMap eC)
 sz:∀i,i<6→∀j,j<(L.lev i).length→∀g,some g=(V.sv i j).ownBlock→Z g
 wks:w.ownsRow B 304 3 V.wv L.wks.length (yz L.wks V.wl V.rd)
 lst:∀q,q<L.wks.length→w.ownsRow B 3 1 (V.wl q) (L.wks.getD q zo).list.length ((L.wks.getD q zo).list.map iV)
 run:∀q,q<L.wks.length→∀i,(L.wks.getD q zo).runs=some i→V.rd q=((L.wks.getD q zo).read:Int)
 tls:w.ownsRow B 341 3 V.tv ts.length (ts.flatMap xg)
structure RfZ (Z:Nat→Prop) (V:Rv) (nw:Nat):Prop where
 all:∀g,some g=V.av.ownBlock→Z g
 mem:∀g,some g=V.mv.ownBlock→Z g
 lev:∀i,i<6→∀g,some g=(V.lv i).ownBlock→Z g
 wks:∀g,some g=V.wv.ownBlock→Z g
 lst:∀q,q<nw→∀g,some g=(V.wl q).ownBlock→Z g
 tls:∀g,some g=V.tv.ownBlock→Z g
structure RfD (B:Nat) (V:Rv) (L:Lg):Prop where
 am:∀g,some g=V.av.ownBlock→some g≠V.mv.ownBlock
 lev:∀i j,i<6→j<6→i≠j→∀g,some g=(V.lv i).ownBlock→some g≠(V.lv j).ownBlock
 lst:∀p q,p<L.wks.length→q<L.wks.length→p≠q→∀g,some g=(V.wl p).ownBlock→some g≠(V.wl q).ownBlock
 sg:∀i,i<6→∀j,j<(L.lev i).length→∀g,some g=(V.sv i j).ownBlock→g<B
theorem RfV.below {Z:Nat→Prop}{B:Nat}{w w':World}{V:Rv}{L:Lg}{all:List Ent}{ts:List Tl}(h:RfV Z B w V L all ts) (hb:Below w.heap.size w w'):RfV Z B w' V L all ts:=
 ⟨zq h.all hb,zq h.mem hb,fun i hi=>zq (h.lev i hi) hb,fun i hi j hj=>zq (h.seg i hi j hj) hb,h.sz,zq h.wks hb,fun q hq=>zq (h.lst q hq) hb,h.run,zq h.tls hb⟩
theorem RfV.base {Z:Nat→Prop}{B B':Nat}{w:World}{V:Rv}{L:Lg}{all:List Ent}{ts:List Tl}(h:RfV Z B w V L all ts) (hB:B'≤B):RfV Z B' w V L all ts:=
 ⟨zW h.all hB,zW h.mem hB,fun i hi=>zW (h.lev i hi) hB,h.seg,h.sz,zW h.wks hB,fun q hq=>zW (h.lst q hq) hB,h.run,zW h.tls hB⟩
theorem RfV.zmono {Z Z':Nat→Prop}{B:Nat}{w:World}{V:Rv}{L:Lg}{all:List Ent}{ts:List Tl}(h:RfV Z B w V L all ts) (hZ:∀g,Z g→Z' g):RfV Z' B w V L all ts:=
 ⟨h.all,h.mem,h.lev,h.seg,fun i hi j hj g hg=>hZ g (h.sz i hi j hj g hg),h.wks,h.lst,h.run,h.tls⟩
theorem RfZ.mono {Z Z':Nat→Prop}{V:Rv}{nw:Nat}(h:RfZ Z V nw) (hZ:∀g,Z g→Z' g):RfZ Z' V nw:=
 ⟨fun g q=>hZ g (h.all g q),fun g q=>hZ g (h.mem g q),fun i hi g q=>hZ g (h.lev i hi g q),fun g q=>hZ g (h.wks g q),fun i hi g q=>hZ g (h.lst i hi g q),fun g q=>hZ g (h.tls g q)⟩
theorem RfV.zz {Z:Nat→Prop}{B:Nat}{w:World}{V:Rv}{L:Lg}{all:List Ent}{ts:List Tl}(h:RfV Z B w V L all ts) (hZ:∀g,B≤g→g<w.heap.size→Z g):RfZ Z V L.wks.length:=
 ⟨fun g q=>hZ g (zw h.all q).1 (zw h.all q).2.1,fun g q=>hZ g (zw h.mem q).1 (zw h.mem q).2.1,fun i hi g q=>hZ g (zw (h.lev i hi) q).1 (zw (h.lev i hi) q).2.1,fun g q=>hZ g (zw h.wks q).1 (zw h.wks q).2.1,fun i hi g q=>hZ g (zw (h.lst i hi) q).1 (zw (h.lst i hi) q).2.1,fun g q=>hZ g (zw h.tls q).1 (zw h.tls q).2.1⟩
theorem RfV.same {Z:Nat→Prop}{B:Nat}{w w':World}{V:Rv}{L:Lg}{all:List Ent}{ts:List Tl}(h:RfV Z B w V L all ts) (hz:RfZ Z V L.wks.length) (hs:∀g,Z g→w'.heap[g]? = w.heap[g]?):RfV Z B w' V L all ts:=
 ⟨zn h.all fun g q=>hs g (hz.all g q),zn h.mem fun g q=>hs g (hz.mem g q),fun i hi=>zn (h.lev i hi) fun g q=>hs g (hz.lev i hi g q),fun i hi j hj=>zn (h.seg i hi j hj) fun g q=>hs g (h.sz i hi j hj g q),h.sz,zn h.wks fun g q=>hs g (hz.wks g q),fun i hi=>zn (h.lst i hi) fun g q=>hs g (hz.lst i hi g q),h.run,zn h.tls fun g q=>hs g (hz.tls g q)⟩
theorem xW (ks:List Wk) (wl:Nat→Value) (rd:Nat→Int):(yz ks wl rd).length=ks.length*3:=by
 unfold yz;generalize ks.length=n
 induction n with
 | zero=>rfl
 | succ n ih=>rw[List.range_succ,List.flatMap_append,List.length_append,ih];simp[mL];omega
theorem xZ {f:Nat→List Value}{k:Nat}(hf:∀q,(f q).length=k):∀ {n j t:Nat},j<n→t<k→((List.range n).flatMap f)[j*k+t]? = (f j)[t]?
 | 0,_,_,h,_=>absurd h (Nat.not_lt_zero _)
 | n+1,j,t,h,ht=>by
  have hl:((List.range n).flatMap f).length=n*k:=by
   clear h ht
   induction n with
   | zero=>simp
   | succ n ih=>rw[List.range_succ,List.flatMap_append,List.length_append,ih];simp[hf,Nat.succ_mul]
  rw[List.range_succ,List.flatMap_append];by_cases hj:j<n
  ·have:j*k+t<n*k:=by
    have:(j+1)*k≤n*k:=Nat.mul_le_mul_right _ hj;rw[Nat.succ_mul]at this;omega
   rw[List.getElem?_append_left (by rw[hl];exact this)];exact xZ hf hj ht
  ·obtain rfl:j=n:=by omega
   rw[List.getElem?_append_right (by rw[hl];omega),hl];simp[show j*k+t-j*k=t by omega]
theorem yp {ks:List Wk}{wl:Nat→Value}{rd:Nat→Int}{q:Nat}(h:q<ks.length):(yz ks wl rd)[q*3]? = some (wl q)∧(yz ks wl rd)[q*3+1]? = some (.int .i64 (uD (ks.getD q zo).runs))∧(yz ks wl rd)[q*3+2]? = some (.int .i64 (rd q)):=by
 have hf:∀q,(mL (ks.getD q zo) (wl q) (rd q)).length=3:=fun _=>rfl
 have a:=xZ (f:=fun q=>mL (ks.getD q zo) (wl q) (rd q)) hf h (show 0<3 by omega);have b:=xZ (f:=fun q=>mL (ks.getD q zo) (wl q) (rd q)) hf h (show 1<3 by omega);have c:=xZ (f:=fun q=>mL (ks.getD q zo) (wl q) (rd q)) hf h (show 2<3 by omega);exact⟨a,b,c⟩
theorem zI {w w':World}(h:w.grownBy w' none):Below w.heap.size w w':=⟨h.os,h.tape,h.output,h.size,fun k hk=>h.block k hk (by simp)⟩
theorem zZ {n:Nat}{w w':World}{b j:Nat}{v:Value}(h:Below n w w') (hb:n≤b):Below n w (w'.setCell ⟨b,j,none⟩ v):=
 ⟨h.os,h.tape,h.output,by simpa using h.size,fun k hk=>(zt (by omega)).trans (h.block k hk)⟩
theorem fu (w:World) (C1 C2:Array Value) (t1 t2:TypeId):∃W,W=(w.alloc (Obj.cells C1 t1)).alloc (Obj.cells C2 t2)∧Below w.heap.size w W∧W.heap[w.heap.size]? = some (Obj.cells C1 t1 (0,0))∧W.heap[w.heap.size+1]? = some (Obj.cells C2 t2 (0,0))∧W.heap.size=w.heap.size+1+1:=by
 have hb1:=zv w (Obj.cells C1 t1);have hb2:=zv (w.alloc (Obj.cells C1 t1)) (Obj.cells C2 t2);have k1:=zj w C1 t1;have k2:=zj (w.alloc (Obj.cells C1 t1)) C2 t2;rw[World.size_alloc]at k2;exact⟨_,rfl,hb1.trans (hb2.mono hb1.size),(hb2.block _ (by simp)).trans k1,k2,by simp⟩
theorem lp (w:World) (C1 C2 C3:Array Value) (t1 t2 t3:TypeId):∃W,W=((w.alloc (Obj.cells C1 t1)).alloc (Obj.cells C2 t2)).alloc (Obj.cells C3 t3)∧Below w.heap.size w W∧W.heap[w.heap.size]? = some (Obj.cells C1 t1 (0,0))∧W.heap[w.heap.size+1]? = some (Obj.cells C2 t2 (0,0))∧W.heap[w.heap.size+1+1]? = some (Obj.cells C3 t3 (0,0))∧W.heap.size=w.heap.size+1+1+1:=by
 obtain⟨W2,rfl,b2,c1,c2,s2⟩:=fu w C1 C2 t1 t2;have hb3:=zv ((w.alloc (Obj.cells C1 t1)).alloc (Obj.cells C2 t2)) (Obj.cells C3 t3);have k3:=zj ((w.alloc (Obj.cells C1 t1)).alloc (Obj.cells C2 t2)) C3 t3;rw[s2]at k3;exact⟨_,rfl,b2.trans (hb3.mono b2.size),(hb3.block _ (by rw[s2];omega)).trans c1,(hb3.block _ (by rw[s2];omega)).trans c2,k3,by simp⟩
theorem zh {w:World}{b j:Nat}{C:Array Value}{t:TypeId}{v:Value}(h:w.heap[b]? = some (Obj.cells C t (0,0))):(w.setCell ⟨b,j,none⟩ v).heap[b]? = some (Obj.cells (C.setIfInBounds j v) t (0,0)):=by
 simp[World.setCell,Array.getElem?_modify,h]
theorem Tryz.sizeKept:(Tryz.prog.info? 228).map (·.size)=some 2:=by kernel_rfl
theorem vI {w:World}{B:Nat}{c:Int}{av:Value}{all:List Ent}(h:w.ownsRow B 66 3 av all.length (all.flatMap eC)) (hl:all.length≤4194304):Calls Tryz.prog 199 #[.agg #[.int .i64 c,av]] w fun e w'=>∃av',e=.returned (.agg #[.int .i64 c,av'])∧w'.ownsRow w.heap.size 66 3 av' all.length (all.flatMap eC)∧Below w.heap.size w w':=by
 obtain⟨i0,hi0,hz0,hz1,hz2⟩:=info_parts Tryz.info66;obtain⟨a,k,rfl,_,_⟩:=zu h;obtain⟨W,hW,hbb,e1,e2,e3,hs⟩:=lp w #[.int .i64 c, .slice a all.length k] #[.int .i64 0, .slice none 0 0] #[.int .i64 c, .slice none 0 0] 228 228 228;have HO:=zx (zq h hbb);have HBB:=zx hbb;have HW:=zx hW;obtain⟨f1,_⟩:=zy (j:=1) (u:=.slice a all.length k) e1 rfl;obtain⟨f3,f4⟩:=zy (j:=1) (u:=.slice none 0 0) e3 rfl;have HE2:=zx e2;have HE3:=zx e3;have HS:=zx hs;clear hbb e1 e2 e3 hW h hs
 go_enter Tryz.func199,Tryz.ntmps199
 go_upto_region 2 with fail
 rw[←HW.out];generalize hn:w.heap.size=n at *;have HN:=zx hn;clear hn;go_wp2_with (first|(at_builtin;refine zb _ rfl _ _ 57 rfl n B 66 i0 (.agg #[.int .i64 0, .int .i64 0, .string ByteArray.empty]) 3 32 Tryz.underlying57 hi0 hz0 hz1 hz2 rfl (by decide) _ _ _ rfl (World.ownsRow_nil _ _ _ _) _ _ _ rfl HO.out (sQ _) (by unfold maxLen;omega) (by omega) (by have:=HS.out;omega) ?_;intro v5 W5 o5 g5 n5;have g6:W.grownBy W5 none:=g5;have o6:W5.ownsRow n 66 3 v5 all.length (all.flatMap eC):=(by simpa using o5);clear o5 g5 n5;obtain⟨a5,c5,rfl,_,_⟩:=zu o6;have HB5:=zx (HBB.out.trans ((zI g6).mono (by have:=HS.out;omega)));have q2:=(zI g6).block (n+1) (by have:=HS.out;omega) |>.trans HE2.out;have q3:=(zI g6).block (n+1+1) (by have:=HS.out;omega) |>.trans HE3.out;obtain⟨d0,_⟩:=zy (j:=0) (u:=.int .i64 c) q3 rfl;obtain⟨d1,d2⟩:=zy (j:=1) (u:=.slice none 0 0) q3 rfl;obtain⟨p0,p1⟩:=zy (j:=0) (u:=.int .i64 0) q2 rfl;obtain⟨p2,p3⟩:=zy (j:=1) (u:=.slice none 0 0) q2 rfl;have O5:=zx o6;have Q2:=zx q2;have Q3:=zx q3;clear o6 g6 q2 q3));have r2:(W5.setCell ⟨n+1+1,1,none⟩ (.slice a5 all.length c5)).heap[n+1]? = some (Obj.cells #[.int .i64 0, .slice none 0 0] 228 (0,0)):=(zt (by omega)).trans Q2.out;have r3:=zh (j:=0) (v:=.int .i64 c) r2;have r4:=zh (j:=1) (v:=.slice a5 all.length c5) r3;have hld:=run_loadVar_row (P:=Tryz.prog) _ (n+1) 228 228 _ _ _ r4 Tryz.underlying228 rfl Tryz.sizeKept;refine bodyPost_ret (v:=.agg #[.int .i64 c, .slice a5 all.length c5]) ?_ rfl ⟨_,rfl,?_,?_⟩
 ·rw[za rfl];simp[asAddr,Result.andThen,hld]
 ·rw[HN.out];exact zl (zl (zl O5.out Q3.out (by decide)) r2 (by decide)) r3 (by decide)
 ·rw[HN.out];exact zZ (zZ (zZ HB5.out (by omega)) (by omega)) (by omega)
theorem Tryz.infoRow:(Tryz.prog.info? 57).map (fun i=>(i.zero,i.size,i.bytes))=some (some (.slice none 0 0),1,24):=by kernel_rfl
theorem Tryz.infoWkr:(Tryz.prog.info? 304).map (fun i=>(i.zero,i.size,i.bytes))=some (some (.agg #[.slice none 0 0, .int .i64 0, .int .i64 0]),3,40):=by kernel_rfl
theorem Tryz.infoTail:(Tryz.prog.info? 341).map (fun i=>(i.zero,i.size,i.bytes))=some (some (.agg #[.int .i64 0, .string ⟨#[]⟩, .int .i64 0]),3,32):=by kernel_rfl
theorem Tryz.infoI:(Tryz.prog.info? 3).map (fun i=>(i.zero,i.size,i.bytes))=some (some (.int .i64 0),1,8):=by kernel_rfl
theorem Tryz.infoKept:(Tryz.prog.info? 228).map (fun i=>(i.zero,i.size,i.bytes))=some (some (.agg #[.int .i64 0, .slice none 0 0]),2,32):=by kernel_rfl
theorem Tryz.sizeLog:(Tryz.prog.info? 234).map (·.size)=some 20:=by kernel_rfl
def zrC:Array Value:=#[.int .i64 0, .int .i64 0, .int .i64 0, .int .i64 0, .int .i64 0, .int .i64 0, .int .i64 0, .slice none 0 0, .slice none 0 0, .slice none 0 0, .slice none 0 0, .slice none 0 0, .slice none 0 0, .slice none 0 0, .slice none 0 0, .slice none 0 0, .slice none 0 0, .int .i64 0, .bool false, .slice none 0 0]
theorem xE (V:Rv) (L:Lg){k:Nat}(hk:k<6):(zR V L)[9+k]? = some (V.lv k):=by
 rcases(show k=0∨k=1∨k=2∨k=3∨k=4∨k=5 by omega)with rfl|rfl|rfl|rfl|rfl|rfl <;> rfl
theorem uY (V:Rv) (L:Lg) (v:Value){k:Nat}(hk:k<6):(zR V L).setIfInBounds (9+k) v=zR { V with lv:=fun j=>if j=k then v else V.lv j } L:=by
 rcases(show k=0∨k=1∨k=2∨k=3∨k=4∨k=5 by omega)with rfl|rfl|rfl|rfl|rfl|rfl <;> rfl
structure CpX (w W:World) (n:Nat) (C X:Array Value):Prop where
 bel:Below n w W
 src:W.heap[n]? = some (Obj.cells C 234 (0,0))
 res:W.heap[n+1]? = some (Obj.cells zrC 234 (0,0))
 x:W.heap[n+1+1]? = some (Obj.cells X 234 (0,0))
theorem CpX.sz {w W:World}{n:Nat}{C X:Array Value}(h:CpX w W n C X):n+1+1<W.heap.size:=(Mth.gI h.x)
theorem CpX.below {w W W':World}{n:Nat}{C X:Array Value}(h:CpX w W n C X) (hb:Below W.heap.size W W'):CpX w W' n C X:=
 ⟨h.bel.trans (hb.mono (by have:=h.sz;omega)),(hb.block _ (by have:=h.sz;omega)).trans h.src,(hb.block _ (by have:=h.sz;omega)).trans h.res,(hb.block _ h.sz).trans h.x⟩
theorem CpX.set {w W:World}{n:Nat}{C X:Array Value}(h:CpX w W n C X) (j:Nat) (v:Value):CpX w (W.setCell ⟨n+1+1,j,none⟩ v) n C (X.setIfInBounds j v):=
 ⟨zZ h.bel (by omega),(zt (by omega)).trans h.src,(zt (by omega)).trans h.res,zh h.x⟩
theorem CpX.own {w W:World}{n:Nat}{C X:Array Value}(h:CpX w W n C X){B:Nat}{e:TypeId}{sz:Nat}{v:Value}{m:Nat}{xs:List Value}(ho:W.ownsRow B e sz v m xs) (he:234≠e) (j:Nat) (u:Value):(W.setCell ⟨n+1+1,j,none⟩ u).ownsRow B e sz v m xs:=zl ho h.x he
structure CpS (w W:World) (n:Nat) (C:Array Value) (V V1:Rv) (L:Lg) (all:List Ent) (k:Nat):Prop where
 x:CpX w W n C (zR V1 L)
 wv:V1.wv=V.wv
 tv:V1.tv=V.tv
 sv:V1.sv=V.sv
 rd:V1.rd=V.rd
 all:W.ownsRow n 66 3 V1.av all.length (all.flatMap eC)
 mem:W.ownsRow n 66 3 V1.mv L.mem.length (L.mem.flatMap eC)
 lev:∀i,i<k→W.ownsRow n 57 1 (V1.lv i) (L.lev i).length ((List.range (L.lev i).length).map (V.sv i))
 old:∀i,k≤i→V1.lv i=V.lv i
 am:∀g,some g=V1.av.ownBlock→some g≠V1.mv.ownBlock
 ld:∀i j,i<k→j<k→i≠j→∀g,some g=(V1.lv i).ownBlock→some g≠(V1.lv j).ownBlock
theorem CpS.next {w W W5:World}{n:Nat}{C:Array Value}{V V1:Rv}{L:Lg}{all:List Ent}{k:Nat}{v5:Value}(h:CpS w W n C V V1 L all k) (hk:k<6) (hb:Below (W.setCell ⟨n+1+1,9+k,none⟩ (.slice none 0 0)).heap.size (W.setCell ⟨n+1+1,9+k,none⟩ (.slice none 0 0)) W5)
  (ho:W5.ownsRow n 57 1 v5 (L.lev k).length ((List.range (L.lev k).length).map (V.sv k))) (hn:v5.ownBlock=none∨v5.ownBlock=some (W.setCell ⟨n+1+1,9+k,none⟩ (.slice none 0 0)).heap.size) :
  CpS w (W5.setCell ⟨n+1+1,9+k,none⟩ v5) n C V { V1 with lv:=fun j=>if j=k then v5 else V1.lv j } L all (k+1):=by
 have hx1:=h.x.set (9+k) (.slice none 0 0);have hx2:=hx1.below hb;have hx3:=hx2.set (9+k) v5
 have hcc:((zR V1 L).setIfInBounds (9+k) (.slice none 0 0)).setIfInBounds (9+k) v5=zR { V1 with lv:=fun j=>if j=k then v5 else V1.lv j } L:=by
  rw[uY _ _ _ hk,uY _ _ _ hk];congr 1;simp only[Rv.mk.injEq,true_and,and_true];funext j
  by_cases hj:j=k <;> simp[hj]
 rw[hcc]at hx3
 have kp:∀ {B:Nat}{e:TypeId}{sz:Nat}{v:Value}{m:Nat}{xs:List Value},234≠e→W.ownsRow B e sz v m xs→(W5.setCell ⟨n+1+1,9+k,none⟩ v5).ownsRow B e sz v m xs:=fun he ho=>hx2.own (zq (h.x.own ho he _ _) hb) he _ _
 have hsz:(W.setCell ⟨n+1+1,9+k,none⟩ (.slice none 0 0)).heap.size=W.heap.size:=by simp
 refine⟨hx3,h.wv,h.tv,h.sv,h.rd,kp (by decide) h.all,kp (by decide) h.mem,fun i hi=>?_,fun i hi=>?_,h.am,fun i j hi hj hne g hg=>?_⟩
 ·by_cases q:i=k
  ·subst q;simp only[if_pos];exact hx2.own ho (by decide) _ _
  ·simp only[if_neg q];exact kp (by decide) (h.lev i (by omega))
 ·simp only[if_neg (show i≠k by omega)];exact h.old i (by omega)
 ·have new:∀i,i<k→∀g,some g=(V1.lv i).ownBlock→some g≠v5.ownBlock:=fun i hi g hg q=>by
   rcases hn with hn|hn
   ·rw[hn]at q;cases q
   ·rw[hn,hsz]at q
    injection q with q
    have:=(zw (h.lev i hi) hg).2.1;omega
  by_cases qi:i=k
  ·subst qi;simp only[if_pos,if_neg (show j≠i by omega)]at hg ⊢
   exact fun q=>new j (by omega) g q hg
  ·by_cases qj:j=k
   ·subst qj;simp only[if_pos,if_neg qi]at hg ⊢;exact new i (by omega) g hg
   ·simp only[if_neg qi,if_neg qj]at hg ⊢;exact h.ld i j (by omega) (by omega) hne g hg
structure CpW (w W:World) (n:Nat) (C:Array Value) (V V1:Rv) (L:Lg) (all:List Ent) (m:Nat):Prop where
 x:CpX w W n C (zR V1 L)
 tv:V1.tv=V.tv
 sv:V1.sv=V.sv
 rd:V1.rd=V.rd
 all:W.ownsRow n 66 3 V1.av all.length (all.flatMap eC)
 mem:W.ownsRow n 66 3 V1.mv L.mem.length (L.mem.flatMap eC)
 lev:∀i,i<6→W.ownsRow n 57 1 (V1.lv i) (L.lev i).length ((List.range (L.lev i).length).map (V.sv i))
 am:∀g,some g=V1.av.ownBlock→some g≠V1.mv.ownBlock
 ld:∀i j,i<6→j<6→i≠j→∀g,some g=(V1.lv i).ownBlock→some g≠(V1.lv j).ownBlock
 row:W.ownsRow n 304 3 V1.wv m ((List.range m).flatMap (fun q=>mL (L.wks.getD q zo) (V1.wl q) (V.rd q)))
 lst:∀q,q<m→W.ownsRow n 3 1 (V1.wl q) (L.wks.getD q zo).list.length ((L.wks.getD q zo).list.map iV)
 wd:∀p q,p<m→q<m→p≠q→∀g,some g=(V1.wl p).ownBlock→some g≠(V1.wl q).ownBlock
theorem CpS.toW {w W:World}{n:Nat}{C:Array Value}{V V1:Rv}{L:Lg}{all:List Ent}(h:CpS w W n C V V1 L all 6):CpW w (W.setCell ⟨n+1+1,15,none⟩ (.slice none 0 0)) n C V { V1 with wv:=.slice none 0 0 } L all 0:=
 ⟨h.x.set 15 _,h.tv,h.sv,h.rd,h.x.own h.all (by decide) _ _,h.x.own h.mem (by decide) _ _,fun i hi=>h.x.own (h.lev i hi) (by decide) _ _,h.am,h.ld,World.ownsRow_nil _ _ _ _,fun q hq=>absurd hq (Nat.not_lt_zero _),fun p q hp=>absurd hp (Nat.not_lt_zero _)⟩
theorem gS {W W3:World}{r1 r2:Value}(g:(W.alloc (Obj.cells #[.slice none 0 0,r1,r2] 304)).grownBy W3 none):W3.heap[W.heap.size]? = some (Obj.cells #[.slice none 0 0,r1,r2] 304 (0,0))∧Below W.heap.size W W3∧W.heap.size+1≤W3.heap.size:=by
 have b3:=zI g;have e1:=zj W #[.slice none 0 0,r1,r2] 304;have b1:=zv W (Obj.cells #[.slice none 0 0,r1,r2] 304)
 have hs:(W.alloc (Obj.cells #[.slice none 0 0,r1,r2] 304)).heap.size=W.heap.size+1:=by simp
 refine⟨(b3.block _ (by rw[hs];omega)).trans e1,b1.trans (b3.mono (by rw[hs];omega)),by have:=b3.size;rw[hs]at this;exact this⟩
theorem CpW.next {w W W3 W6:World}{n:Nat}{C:Array Value}{V V1:Rv}{L:Lg}{all:List Ent}{m:Nat}{v3 v6:Value}(h:CpW w W n C V V1 L all m)
  (g3:(W.alloc (Obj.cells #[.slice none 0 0, .int .i64 (uD (L.wks.getD m zo).runs), .int .i64 (V.rd m)] 304)).grownBy W3 none)
  (o3:W3.ownsRow n 3 1 v3 (L.wks.getD m zo).list.length ((L.wks.getD m zo).list.map iV)) (n3:v3.ownBlock=none∨v3.ownBlock=some (W.alloc (Obj.cells #[.slice none 0 0, .int .i64 (uD (L.wks.getD m zo).runs), .int .i64 (V.rd m)] 304)).heap.size)
  (g6:((W3.setCell ⟨W.heap.size,0,none⟩ v3).alloc (Obj.cells #[v3, .int .i64 (uD (L.wks.getD m zo).runs), .int .i64 (V.rd m)] 304)).grownBy W6 V1.wv.ownBlock)
  (o6:W6.ownsRow n 304 3 v6 (m+1) ((List.range m).flatMap (fun q=>mL (L.wks.getD q zo) (V1.wl q) (V.rd q))++[v3, .int .i64 (uD (L.wks.getD m zo).runs), .int .i64 (V.rd m)])) :
  (W6.heap[n+1+1]? = some (Obj.cells (zR V1 L) 234 (0,0)))∧CpW w (W6.setCell ⟨n+1+1,15,none⟩ v6) n C V { V1 with wv:=v6,wl:=fun q=>if q=m then v3 else V1.wl q } L all (m+1):=by
 obtain⟨e3,b3,s3⟩:=gS g3;have b4:Below W.heap.size W (W3.setCell ⟨W.heap.size,0,none⟩ v3):=zZ b3 (Nat.le_refl _);have b5:Below W.heap.size W ((W3.setCell ⟨W.heap.size,0,none⟩ v3).alloc (Obj.cells #[v3, .int .i64 (uD (L.wks.getD m zo).runs), .int .i64 (V.rd m)] 304)):=b4.trans ((zv _ _).mono b4.size);have hn:=h.x.sz;have t6:Tch (fun k=>some k=V1.wv.ownBlock) W W6:=⟨g6.os.trans b5.os,g6.tape.trans b5.tape,g6.output.trans b5.output,Nat.le_trans b5.size g6.size,fun k hk hq=>(g6.block k (Nat.lt_of_lt_of_le hk b5.size) hq).trans (b5.block k hk)⟩
 have ne:∀k C' t,W.heap[k]? = some (Obj.cells C' t (0,0))→t≠304→¬some k=V1.wv.ownBlock:=fun k C' t hk ht q=>by
  obtain⟨_,_,D,hD⟩:=zw h.row q;exact ht (zc hk hD)
 have x6:CpX w W6 n C (zR V1 L):=⟨⟨t6.os.trans h.x.bel.os,t6.tape.trans h.x.bel.tape,t6.output.trans h.x.bel.output,Nat.le_trans h.x.bel.size t6.size,fun k hk=>(t6.block k (by omega) (fun q=>by have:=(zw h.row q).1;omega)).trans (h.x.bel.block k hk)⟩,(t6.block _ (by omega) (ne _ _ _ h.x.src (by decide))).trans h.x.src,(t6.block _ (by omega) (ne _ _ _ h.x.res (by decide))).trans h.x.res,(t6.block _ hn (ne _ _ _ h.x.x (by decide))).trans h.x.x⟩
 have kp:∀ {B:Nat}{e:TypeId}{sz:Nat}{v:Value}{k:Nat}{xs:List Value},234≠e→e≠304→W.ownsRow B e sz v k xs→(W6.setCell ⟨n+1+1,15,none⟩ v6).ownsRow B e sz v k xs:=fun he he2 ho=>x6.own (zn ho (fun g hg=>t6.block g (zw ho hg).2.1 (by obtain⟨_,_,D,hD⟩:=zw ho hg;exact ne _ _ _ hD he2))) he _ _
 have l6:(W6.setCell ⟨n+1+1,15,none⟩ v6).ownsRow n 3 1 v3 (L.wks.getD m zo).list.length ((L.wks.getD m zo).list.map iV):=by
  have o4:=zl (o:=0) (y:=v3) o3 e3 (by decide);have o5:=zq o4 (zv _ (Obj.cells #[v3, .int .i64 (uD (L.wks.getD m zo).runs), .int .i64 (V.rd m)] 304));refine x6.own (zn o5 (fun g hg=>g6.block g (zw o5 hg).2.1 (fun q=>?_))) (by decide) _ _;obtain⟨_,hg1,D,hD⟩:=zw o5 hg;obtain⟨_,hg2,D',hD'⟩:=zw h.row q;rw[b5.block g hg2,hD']at hD
  injection hD with hD
  injection hD with _ hD _
  exact absurd hD (by decide)
 have new:∀p,p<m→∀g,some g=(V1.wl p).ownBlock→some g≠v3.ownBlock:=fun p hp g hg q=>by
  rcases n3 with n3|n3
  ·rw[n3]at q;cases q
  ·rw[n3]at q
   injection q with q
   have:=(zw (h.lst p hp) hg).2.1;simp at q;omega
 refine⟨x6.x,x6.set 15 v6,h.tv,h.sv,h.rd,kp (by decide) (by decide) h.all,kp (by decide) (by decide) h.mem,fun i hi=>kp (by decide) (by decide) (h.lev i hi),h.am,h.ld,?_,fun q hq=>?_,fun p q hp hq hne g hg=>?_⟩
 ·refine x6.own ?_ (by decide) _ _;rw[List.range_succ,List.flatMap_append]
  have e:(List.range m).flatMap (fun q=>mL (L.wks.getD q zo) (if q=m then v3 else V1.wl q) (V.rd q))=(List.range m).flatMap (fun q=>mL (L.wks.getD q zo) (V1.wl q) (V.rd q)):=by
   rw[List.flatMap_def,List.flatMap_def];congr 1;refine List.map_congr_left (fun q hq=>?_);rw[if_neg (by have:=List.mem_range.1 hq;omega)]
  show W6.ownsRow n 304 3 v6 (m+1) ((List.range m).flatMap (fun q=>mL (L.wks.getD q zo) (if q=m then v3 else V1.wl q) (V.rd q))++_);rw[e]
  simpa [mL] using o6
 ·by_cases q0:q=m
  ·subst q0;simp only[if_pos];exact l6
  ·simp only[if_neg q0];exact kp (by decide) (by decide) (h.lst q (by omega))
 ·by_cases qp:p=m
  ·subst qp;simp only[if_pos,if_neg (show q≠p by omega)]at hg ⊢
   exact fun e=>new q (by omega) g e hg
  ·by_cases qq:q=m
   ·subst qq;simp only[if_pos,if_neg qp]at hg ⊢;exact new p (by omega) g hg
   ·simp only[if_neg qp,if_neg qq]at hg ⊢;exact h.wd p q (by omega) (by omega) hne g hg
theorem tt {W:World}{b g:Nat}{D:Array Value}(h:g≠b):(W.setRow b D).heap[g]? = W.heap[g]? := by
 simp only[World.setRow,Array.getElem?_modify];rw[if_neg (fun e=>h e.symm)]
theorem oJ {W:World}{b:Nat}{C D:Array Value}{t:TypeId}(h:W.heap[b]? = some (Obj.cells C t (0,0))):(W.setRow b D).heap[b]? = some (Obj.cells D t (0,0)):=by
 simp[World.setRow,Array.getElem?_modify,h]
theorem we {W:World}{B:Nat}{e e':TypeId}{sz:Nat}{v:Value}{n:Nat}{xs:List Value}{b:Nat}{C D:Array Value}{fr:Nat × Nat}(h:W.ownsRow B e sz v n xs) (hx:W.heap[b]? = some (Obj.cells C e' fr)) (hne:e'≠e):(W.setRow b D).ownsRow B e sz v n xs:=
 zn h (fun g hg=>tt (fun q=>by
  obtain⟨_,_,D',hD⟩:=zw h hg;rw[q,hx]at hD
  injection hD with hD
  injection hD with _ hD _
  exact hne hD))
theorem CpW.fin {Z:Nat→Prop}{w W W2:World}{n:Nat}{C:Array Value}{V V1:Rv}{L:Lg}{all:List Ent}{ts:List Tl}{v4:Value}(h:CpW w W n C V V1 L all L.wks.length) (hR:RfV Z 0 w V L all ts) (hn:w.heap.size=n) (hZ:∀g,Z g→g<n)
  (g2:(W.setCell ⟨n+1+1,16,none⟩ (.slice none 0 0)).grownBy W2 none) (o2:W2.ownsRow n 341 3 v4 ts.length (ts.flatMap xg)) :
  W2.heap[n+1+1]? = some (Obj.cells (zR { V1 with tv:=.slice none 0 0 } L) 234 (0,0))∧(CpX w (((W2.setCell ⟨n+1+1,16,none⟩ v4).setCell ⟨n+1+1,19,none⟩ (.slice none 0 0)).setCell ⟨n+1+1,19,none⟩ (.slice none 0 0)) n C (zR { V1 with tv:=v4 } L)∧∀W7,W7=(((W2.setCell ⟨n+1+1,16,none⟩ v4).setCell ⟨n+1+1,19,none⟩ (.slice none 0 0)).setCell ⟨n+1+1,19,none⟩ (.slice none 0 0)).setRow (n+1) (zR { V1 with tv:=v4 } L)→W7.heap[n+1]? = some (Obj.cells (zR { V1 with tv:=v4 } L) 234 (0,0))∧RfV (fun g=>Z g∨n≤g) n W7 { V1 with tv:=v4 } L all ts∧RfD n { V1 with tv:=v4 } L∧Below n w W7):=by
 have x1:=h.x.set 16 (.slice none 0 0);have b2:=zI g2;have x2:=x1.below b2;have x3:=x2.set 16 v4;have x4:=x3.set 19 (.slice none 0 0);have x5:=x4.set 19 (.slice none 0 0)
 have kp:∀ {B:Nat}{e:TypeId}{sz:Nat}{v:Value}{k:Nat}{xs:List Value},234≠e→W2.ownsRow B e sz v k xs→((((W2.setCell ⟨n+1+1,16,none⟩ v4).setCell ⟨n+1+1,19,none⟩ (.slice none 0 0)).setCell ⟨n+1+1,19,none⟩ (.slice none 0 0)).setRow (n+1) (zR { V1 with tv:=v4 } L)).ownsRow B e sz v k xs:=fun he ho=>we (x4.own (x3.own (x2.own ho he _ _) he _ _) he _ _) x5.res he
 have kw:∀ {B:Nat}{e:TypeId}{sz:Nat}{v:Value}{k:Nat}{xs:List Value},234≠e→W.ownsRow B e sz v k xs→((((W2.setCell ⟨n+1+1,16,none⟩ v4).setCell ⟨n+1+1,19,none⟩ (.slice none 0 0)).setCell ⟨n+1+1,19,none⟩ (.slice none 0 0)).setRow (n+1) (zR { V1 with tv:=v4 } L)).ownsRow B e sz v k xs:=fun he ho=>kp he (zq (h.x.own ho he _ _) b2)
 refine⟨x2.x,x5,fun W7 hW7=>?_⟩;subst hW7;refine⟨oJ x5.res,⟨kw (by decide) h.all,kw (by decide) h.mem,fun i hi=>?_,fun i hi j hj=>?_,fun i hi j hj g hg=>?_,kw (by decide) ?_,fun q hq=>kw (by decide) (h.lst q hq),fun q hq i hi=>?_,kp (by decide) o2⟩,⟨h.am,h.ld,h.wd,fun i hi j hj g hg=>?_⟩,?_⟩
 ·show World.ownsRow _ n _ 1 (V1.lv i) _ ((List.range (L.lev i).length).map (V1.sv i));rw[h.sv];exact kw (by decide) (h.lev i hi)
 ·show World.ownsRow _ 0 _ 3 (V1.sv i j) _ _;rw[h.sv];have ho:=hR.seg i hi j hj;exact kw (by decide) (zn ho (fun g hg=>h.x.bel.block g (by rw[←hn];exact(zw ho hg).2.1)))
 ·refine Or.inl (hR.sz i hi j hj g ?_);rw[←h.sv];exact hg
 ·show World.ownsRow _ n _ 3 V1.wv _ (yz L.wks V1.wl V1.rd);rw[h.rd];exact h.row
 ·show V1.rd q=_;rw[h.rd];exact hR.run q hq i hi
 ·refine hZ g (hR.sz i hi j hj g ?_);rw[←h.sv];exact hg
 ·exact⟨x5.bel.os,x5.bel.tape,x5.bel.output,by simpa [World.setRow] using x5.bel.size,fun k hk=>(tt (by omega)).trans (x5.bel.block k hk)⟩
end Go.Proofs.YtkncboinfcnklaaGreatDoor.Rl
