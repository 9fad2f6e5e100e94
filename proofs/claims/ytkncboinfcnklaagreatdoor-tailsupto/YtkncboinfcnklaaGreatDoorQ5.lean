import Derived.Test.YtkncboinfcnklaaGreatDoorQ4
import Derived.Deep.RegionHeld3
import Derived.Deep.RegionLaw
import Derived.Laws.ResultCell
import Derived.Laws.Rows
set_option maxRecDepth 100000
set_option maxHeartbeats 8000000
namespace Go.Proofs.YtkncboinfcnklaaGreatDoor
open Go.RowKit Go.Deep Go.Proofs.YtkncboinfcnklaaGreatDoor.Mth
structure Qd where
 l:Value
 a:Value
 b:Value
 c:Value
def qc (q:Nat→Qd) (i:Nat):List Value:=[(q i).l,(q i).a,(q i).b,(q i).c, .int .i64 (i:Int)]
structure KSt (w W:World) (B0 xb:Nat) (T e:TypeId) (sz:Nat) (v:Value) (n:Nat) (f:Nat→Value) (X:Array Value) (us:List (Value × Nat)):Prop where
 own:W.ownsRow B0 e sz v n (rU f (n*sz))
 x:W.heap[xb]? = some (Obj.cells X T (0,0))
 ge:B0≤xb
 same:∀g:Nat,g<B0→W.heap[g]? = w.heap[g]?
 os:W.os=w.os
 tape:W.tape=w.tape
 output:W.output=w.output
 size:w.heap.size≤W.heap.size
 rd:∀p∈us,RdM W e sz p.1 p.2 f
theorem zw {w:World}{B:Nat}{e:TypeId}{sz:Nat}{v:Value}{n:Nat}{xs:List Value}(h:w.ownsRow B e sz v n xs){g:Nat}(hg:some g=v.ownBlock):B≤g∧g<w.heap.size∧∃C,w.heap[g]? = some (Obj.cells C e (0,0)):=by
 rcases h.2 with⟨rfl,_⟩|⟨g',cap,cur,rfl,h1,h2,_⟩
 ·simp[Value.ownBlock]at hg
 ·simp[Value.ownBlock]at hg;subst hg;exact⟨h1,(Mth.gI h2),cur,h2⟩
theorem zu {w:World}{B:Nat}{e:TypeId}{sz:Nat}{v:Value}{n:Nat}{xs:List Value}(h:w.ownsRow B e sz v n xs):∃a c,v=.slice a n c∧n≤c∧c≤maxLen:=by
 rcases h.2 with⟨rfl,rfl⟩|⟨g,cap,cur,rfl,_,_,h1,h2,_⟩
 ·exact⟨none,0,rfl,Nat.le_refl _,by unfold maxLen;omega⟩
 ·exact⟨_,cap,rfl,h1,h2⟩
theorem KSt.app {w W W2:World}{B0 xb:Nat}{T e:TypeId}{sz:Nat}{v v2:Value}{n m:Nat}{f:Nat→Value}{X:Array Value}{us:List (Value × Nat)}{o:Obj}{i:Nat}(h:KSt w W B0 xb T e sz v n f X us) (hT:T≠e)
  (h1:W2.ownsRow B0 e sz v2 (n+m) (rU f (n*sz)++(List.range (m*sz)).map (fun j=>f (n*sz+j)))) (h2:(W.alloc o).grownBy W2 v.ownBlock) (h3:W2.ownsRow B0 e sz v n (rU f (n*sz))) (h4:v2.ownBlock=v.ownBlock∨(W.alloc o).grownBy W2 none) (hus:∀p∈us,p.2≤n+m) :
  KSt w (W2.setCell ⟨xb,i,none⟩ v2) B0 xb T e sz v n f (X.setIfInBounds i v2) ((v2,n+m)::us):=by
 have hxs:=(Mth.gI h.x)
 have hne:∀g C,W.heap[g]? = some (Obj.cells C T (0,0))→some g≠v.ownBlock:=by
  intro g C hC q;obtain⟨_,_,D,hD⟩:=zw h.own q;rw[hC]at hD
  injection hD with hD
  injection hD with _ hD _
  exact hT hD
 have hx2:W2.heap[xb]? = some (Obj.cells X T (0,0)):=by
  rw[h2.block xb (by simp;omega) (hne xb X h.x),Mth.uC W o hxs];exact h.x
 have ho:W2.ownsRow B0 e sz v2 (n+m) (rU f ((n+m)*sz)):=by
  rw[Nat.add_mul,cI];exact h1
 refine⟨zl h3 hx2 hT,?_,h.ge,?_,?_,?_,?_,?_,?_⟩
 ·simp[World.setCell,Array.getElem?_modify,hx2]
 ·intro g hg;have hge:=h.ge;rw[zt (by omega),h2.block g (by simp;omega) (fun q=>by have:=(zw h.own q).1;omega),Mth.uC W o (r:=g) (by omega)];exact h.same g hg
 ·exact h2.os.trans h.os
 ·exact h2.tape.trans h.tape
 ·exact h2.output.trans h.output
 ·have q1:=h2.size;have q2:=h.size;simp at q1 ⊢;omega
 ·intro p hp
  rcases List.mem_cons.1 hp with q|q
  ·subst q;exact pm (jl ho) hx2 hT
  ·exact pm (cT ((h.rd p q).below (zi W o)) (hus p q) ho h2 h4) hx2 hT
theorem KSt.x2 {w W W2:World}{B0 xb:Nat}{T e:TypeId}{sz:Nat}{v:Value}{n:Nat}{f:Nat→Value}{X:Array Value}{us:List (Value × Nat)}{o:Obj}(h:KSt w W B0 xb T e sz v n f X us) (hT:T≠e) (h2:(W.alloc o).grownBy W2 v.ownBlock):W2.heap[xb]? = some (Obj.cells X T (0,0)):=by
 have hxs:=(Mth.gI h.x);rw[h2.block xb (by simp;omega) (fun q=>?_),Mth.uC W o hxs]
 ·exact h.x
 ·obtain⟨_,_,D,hD⟩:=zw h.own q;rw[h.x]at hD
  injection hD with hD
  injection hD with _ hD _
  exact hT hD
structure Kept (w w':World) (B0 wb off B:Nat) (T e:TypeId) (sz:Nat) (f:Nat→Value) (tv tv':Value) (N:Nat) (xs:List Value) (C:Array Value) (Q:Qd) (n:Nat):Prop where
 row:w'.ownsRow B T 5 tv' (N+1) (xs++[Q.l,Q.a,Q.b,Q.c, .int .i64 (N:Int)])
 wblk:w'.heap[wb]? = some (Obj.cells (C.setIfInBounds off tv') 91 (0,0))
 same:∀g:Nat,g<B0→g≠wb→some g≠tv.ownBlock→w'.heap[g]? = w.heap[g]?
 os:w'.os=w.os
 tape:w'.tape=w.tape
 output:w'.output=w.output
 size:w.heap.size≤w'.heap.size
 rl:RdM w' e sz Q.l n f
 ra:RdM w' e sz Q.a (n+1) f
 rb:RdM w' e sz Q.b (n+2) f
 rc:RdM w' e sz Q.c (n+3) f
theorem RdM.own_app {w w':World}{e T:TypeId}{sz:Nat}{u:Value}{k:Nat}{f:Nat→Value}{B N:Nat}{tv:Value}{xs:List Value}{o:Obj}(h:RdM w e sz u k f) (ho:w.ownsRow B T 5 tv N xs) (hg:(w.alloc o).grownBy w' tv.ownBlock) (hT:T≠e):RdM w' e sz u k f:=by
 refine h.keep fun g C hC=>?_
 have hlt:=(Mth.gI hC);rw[hg.block g (by simp;omega) (fun q=>?_),Mth.uC w o hlt];obtain⟨_,_,D,hD⟩:=zw ho q;rw[hC]at hD
 injection hD with hD
 injection hD with _ hD _
 exact hT hD.symm
theorem sk {w W W2:World}{B0 xb wb off B:Nat}{T e:TypeId}{sz:Nat}{v tv tv':Value}{n N:Nat}{f:Nat→Value}{X C:Array Value}{xs:List Value}{va vb vc:Value}{o:Obj}
  (h:KSt w W B0 xb T e sz v n f X [(vc,n+3),(vb,n+2),(va,n+1)]) (hT:T≠e) (hTW:T≠91) (heW:91≠e) (hwb:wb<B0) (hC:w.heap[wb]? = some (Obj.cells C 91 (0,0)))
  (hrow:W.ownsRow B T 5 tv N xs) (h1:W2.ownsRow B T 5 tv' (N+1) (xs++[v,va,vb,vc, .int .i64 (N:Int)])) (h2:(W.alloc o).grownBy W2 tv.ownBlock) (hB0:B0≤w.heap.size) :
  Kept w (W2.setCell ⟨wb,off,none⟩ tv') B0 wb off B T e sz f tv tv' N xs C ⟨v,va,vb,vc⟩ n:=by
 have hs:=h.size;have hW:W.heap[wb]? = some (Obj.cells C 91 (0,0)):=(h.same wb hwb).trans hC
 have hne:some wb≠tv.ownBlock:=by
  intro q;obtain⟨_,_,D,hD⟩:=zw hrow q;rw[hW]at hD
  injection hD with hD
  injection hD with _ hD _
  exact hTW hD.symm
 have hW2:W2.heap[wb]? = some (Obj.cells C 91 (0,0)):=by
  rw[h2.block wb (by simp;omega) hne,Mth.uC W o (r:=wb) (by omega)];exact hW
 have fin:∀ {u:Value}{k:Nat},RdM W e sz u k f→RdM (W2.setCell ⟨wb,off,none⟩ tv') e sz u k f:=fun hu=>pm (hu.own_app hrow h2 hT) hW2 heW
 refine⟨zl h1 hW2 (Ne.symm hTW),?_,?_,?_,?_,?_,?_,fin (jl h.own),fin (h.rd (va,n+1) (by simp)),fin (h.rd (vb,n+2) (by simp)),fin (h.rd (vc,n+3) (by simp))⟩
 ·simp[World.setCell,Array.getElem?_modify,hW2]
 ·intro g hg hgw hgt;rw[zt hgw,h2.block g (by simp;omega) hgt,Mth.uC W o (r:=g) (by omega)];exact h.same g hg
 ·exact h2.os.trans h.os
 ·exact h2.tape.trans h.tape
 ·exact h2.output.trans h.output
 ·have q1:=h2.size;simp at q1 ⊢;omega
theorem zn {w w':World}{B:Nat}{e:TypeId}{sz:Nat}{v:Value}{n:Nat}{xs:List Value}(h:w.ownsRow B e sz v n xs) (hs:∀g,some g=v.ownBlock→w'.heap[g]? = w.heap[g]?):w'.ownsRow B e sz v n xs:=by
 refine⟨h.1,h.2.imp id ?_⟩;rintro ⟨g,cap,cur,rfl,h1,hg,h2⟩;exact⟨g,cap,cur,rfl,h1,(hs g rfl).trans hg,h2⟩
theorem zN {W W2:World}{tv:Value}{o:Obj}{g:Nat}{D:Obj}(h2:(W.alloc o).grownBy W2 tv.ownBlock) (hg:W.heap[g]? = some D) (hne:some g≠tv.ownBlock):W2.heap[g]? = some D:=by
 have hlt:=(Mth.gI hg);rw[h2.block g (by simp;omega) hne,Mth.uC W o hlt];exact hg
theorem zM (w:World) (cs:Array Value) (t:TypeId) (xs:List Value) (h:cs.toList=xs):∀j u,xs[j]? = some u→(w.alloc (.cells cs t)).cell? ((⟨w.heap.size,0,none⟩:Addr).add j)=some u:=by
 intro j u hj
 have hb:(w.alloc (.cells cs t)).heap[w.heap.size]? = some (.cells cs t (0,0)):=by
  show(w.heap.push _)[w.heap.size]? = _;rw[Array.getElem?_push,if_pos rfl]
 rw[show(⟨w.heap.size,0,none⟩:Addr).add j=⟨w.heap.size,j,none⟩ from by unfold Addr.add;split <;> simp_all];simp only[World.cell?,hb];subst h
 simpa using hj
theorem zB (w:World) (b:Nat) (hb0:b=w.heap.size) (cs:Array Value) (t:TypeId) (xs:List Value) (h:cs.toList=xs):∀j u,xs[j]? = some u→(w.alloc (.cells cs t)).cell? ((⟨b,0,none⟩:Addr).add j)=some u:=by
 subst hb0;exact zM w cs t xs h
theorem zy {w:World}{b:Nat}{C:Array Value}{t:TypeId}{j:Nat}{u:Value}(h:w.heap[b]? = some (Obj.cells C t (0,0))) (hu:C[j]? = some u):w.cell? ⟨b,j,none⟩=some u∧w.frozen? ⟨b,j,none⟩=false:=by
 constructor
 ·simp only[World.cell?,h];exact hu
 ·simp[World.frozen?,h]
structure Fl where
 name:ByteArray
 data:ByteArray
 safe:Nat
def wL:Fl:=⟨⟨#[]⟩,⟨#[]⟩,0⟩
def fC (f:Fl):List Value:=[.string f.name, .string f.data, .int .i64 (f.safe:Int)]
theorem ay:∀ {l:List Fl}{j:Nat},j<l.length→(l.flatMap fC)[j*3]? = some (.string (l.getD j wL).name)∧(l.flatMap fC)[j*3+1]? = some (.string (l.getD j wL).data)∧(l.flatMap fC)[j*3+2]? = some (.int .i64 ((l.getD j wL).safe:Int))
 | f::l,0,_=>by simp[fC]
 | f::l,j+1,h=>by
  obtain⟨a,b,c⟩:=ay (l:=l) (j:=j) (by simpa using h);rw[List.flatMap_cons];refine⟨?_,?_,?_⟩
  ·rw[List.getElem?_append_right (by simp[fC];omega)];simpa [fC,show(j+1)*3-3=j*3 by omega] using a
  ·rw[List.getElem?_append_right (by simp[fC];omega)];simpa [fC,show(j+1)*3+1-3=j*3+1 by omega] using b
  ·rw[List.getElem?_append_right (by simp[fC];omega)];simpa [fC,show(j+1)*3+2-3=j*3+2 by omega] using c
structure Tch (S:Nat→Prop) (w w':World):Prop where
 os:w'.os=w.os
 tape:w'.tape=w.tape
 output:w'.output=w.output
 size:w.heap.size≤w'.heap.size
 block:∀k,k<w.heap.size→¬S k→w'.heap[k]? = w.heap[k]?
theorem Tch.refl (S:Nat→Prop) (w:World):Tch S w w:=⟨rfl,rfl,rfl,Nat.le_refl _,fun _ _ _=>rfl⟩
theorem zH {S:Nat→Prop}{w w':World}(h:Below w.heap.size w w'):Tch S w w':=⟨h.os,h.tape,h.output,h.size,fun k hk _=>h.block k hk⟩
theorem Tch.trans {S S':Nat→Prop}{w w1 w2:World}(h:Tch S w w1) (h2:Tch S' w1 w2) (hs:∀k,k<w.heap.size→S' k→S k):Tch S w w2:=
 ⟨h2.os.trans h.os,h2.tape.trans h.tape,h2.output.trans h.output,Nat.le_trans h.size h2.size,fun k hk hn=>(h2.block k (Nat.lt_of_lt_of_le hk h.size) (fun q=>hn (hs k hk q))).trans (h.block k hk hn)⟩
theorem Tch.mono {S S':Nat→Prop}{w w1:World}(h:Tch S w w1) (hs:∀k,k<w.heap.size→S k→S' k):Tch S' w w1:=⟨h.os,h.tape,h.output,h.size,fun k hk hn=>h.block k hk (fun q=>hn (hs k hk q))⟩
structure St (T e:TypeId) (w:World) (B b:Nat) (fs:List Fl) (left:Int) (fv:Value):Prop where
 blk:w.heap[b]? = some (Obj.cells #[fv, .int .i64 left] T (0,0))
 own:w.ownsRow B e 3 fv fs.length (fs.flatMap fC)
 ge:B≤b
def oY (b:Nat) (fv:Value) (k:Nat):Prop:=k=b∨some k=fv.ownBlock
structure Stp (T e:TypeId) (B b:Nat) (w w':World) (fv:Value) (fs':List Fl) (left':Int) (fv':Value):Prop where
 st:St T e w' B b fs' left' fv'
 tch:Tch (oY b fv) w w'
 new:∀g,some g=fv'.ownBlock→some g=fv.ownBlock∨w.heap.size≤g
theorem St.lt {T e:TypeId}{w:World}{B b:Nat}{fs:List Fl}{left:Int}{fv:Value}(h:St T e w B b fs left fv):b<w.heap.size:=(Mth.gI h.blk)
theorem St.same {T e:TypeId}{w w':World}{B b:Nat}{fs:List Fl}{left:Int}{fv:Value}(h:St T e w B b fs left fv) (hs:∀g,oY b fv g→w'.heap[g]? = w.heap[g]?):St T e w' B b fs left fv:=
 ⟨(hs b (Or.inl rfl)).trans h.blk,zn h.own (fun g hg=>hs g (Or.inr hg)),h.ge⟩
theorem St.ownLt {T e:TypeId}{w:World}{B b:Nat}{fs:List Fl}{left:Int}{fv:Value}(h:St T e w B b fs left fv){g:Nat}(hg:oY b fv g):g<w.heap.size:=by
 rcases hg with rfl|hg
 ·exact h.lt
 ·exact(zw h.own hg).2.1
theorem St.below {T e:TypeId}{w w':World}{B b:Nat}{fs:List Fl}{left:Int}{fv:Value}(h:St T e w B b fs left fv) (hb:Below w.heap.size w w'):St T e w' B b fs left fv:=
 h.same fun g hg=>hb.block g (h.ownLt hg)
theorem St.ne {T e:TypeId}{w:World}{B b:Nat}{fs:List Fl}{left:Int}{fv:Value}(h:St T e w B b fs left fv) (hT:T≠e):some b≠fv.ownBlock:=by
 intro q;obtain⟨_,_,D,hD⟩:=zw h.own q;rw[h.blk]at hD
 injection hD with hD
 injection hD with _ hD _
 exact hT hD
theorem Stp.refl {T e:TypeId}{w:World}{B b:Nat}{fs:List Fl}{left:Int}{fv:Value}(h:St T e w B b fs left fv):Stp T e B b w w fv fs left fv:=⟨h,Tch.refl _ _,fun _ q=>Or.inl q⟩
theorem Stp.trans {T e:TypeId}{B b:Nat}{w w1 w2:World}{fv fv1 fv2:Value}{fs1 fs2:List Fl}{l1 l2:Int}(h1:Stp T e B b w w1 fv fs1 l1 fv1) (h2:Stp T e B b w1 w2 fv1 fs2 l2 fv2):Stp T e B b w w2 fv fs2 l2 fv2:=by
 refine⟨h2.st,h1.tch.trans h2.tch (fun k hk q=>?_),fun g hg=>?_⟩
 ·rcases q with q|q
  ·exact Or.inl q
  ·rcases h1.new k q with q|q
   ·exact Or.inr q
   ·omega
 ·rcases h2.new g hg with q|q
  ·exact h1.new g q
  ·exact Or.inr (Nat.le_trans h1.tch.size q)
theorem Stp.below {T e:TypeId}{B b:Nat}{w w1 w2:World}{fv fv1:Value}{fs1:List Fl}{l1:Int}(h1:Stp T e B b w w1 fv fs1 l1 fv1) (hb:Below w1.heap.size w1 w2):Stp T e B b w w2 fv fs1 l1 fv1:=
 ⟨h1.st.below hb,h1.tch.trans (zH (S:=oY b fv) hb) (fun _ _ q=>q),h1.new⟩
theorem St.setLeft {T e:TypeId}{w:World}{B b:Nat}{fs:List Fl}{left l':Int}{fv:Value}(h:St T e w B b fs left fv) (hT:T≠e):Stp T e B b w (w.setCell ⟨b,1,none⟩ (.int .i64 l')) fv fs l' fv:=by
 refine⟨⟨?_,zl h.own h.blk hT,h.ge⟩,⟨rfl,rfl,rfl,by simp,fun k _ hn=>zt (fun q=>hn (Or.inl q))⟩,fun _ q=>Or.inl q⟩;simp[World.setCell,Array.getElem?_modify,h.blk]
theorem St.setFiles {T e:TypeId}{w w1:World}{B b:Nat}{fs fs':List Fl}{left:Int}{fv fv':Value}(h:St T e w B b fs left fv) (hT:T≠e) (ho:w1.ownsRow B e 3 fv' fs'.length (fs'.flatMap fC)) (ht:Tch (fun k=>some k=fv.ownBlock) w w1) (hn:∀g,some g=fv'.ownBlock→some g=fv.ownBlock∨w.heap.size≤g):Stp T e B b w (w1.setCell ⟨b,0,none⟩ fv') fv fs' left fv':=by
 have hb1:w1.heap[b]? = some (Obj.cells #[fv, .int .i64 left] T (0,0)):=(ht.block b h.lt (h.ne hT)).trans h.blk;refine⟨⟨?_,zl ho hb1 hT,h.ge⟩,⟨ht.os,ht.tape,ht.output,by have:=ht.size;simpa using this,fun k hk hn=>?_⟩,hn⟩
 ·simp[World.setCell,Array.getElem?_modify,hb1]
 ·rw[zt (fun q=>hn (Or.inl q))];exact ht.block k hk (fun q=>hn (Or.inr q))
def yx (l:Int):Int:=if 0<l then l-1 else l
theorem wh {w:World}{B b:Nat}{fs:List Fl}{left:Int}{fv:Value}(h:St 100 109 w B b fs left fv) (h1:-1≤left) (h2:left<9223372036854775808) :
  Calls Tryz.prog 76 #[.pointer (some ⟨b,0,none⟩)] w fun e w'=>e=.returned (.bool (decide (left≠0)))∧Stp 100 109 B b w w' fv fs (yx left) fv:=by
 obtain⟨c1,f1⟩:=zy (j:=1) (u:=.int .i64 left) h.blk rfl;have HS:=zx h;clear h;by_cases q:left=0
 ·subst q
  go_enter Tryz.func76,Tryz.ntmps76
  go_wp2;go_ret;exact⟨rfl,Stp.refl HS.out⟩
 ·by_cases q2:0<left
  ·have d1:decide (left≠0)=true:=by simpa using q
   have d2:yx left=left-1:=if_pos q2;rw[d1,d2]
   have q4:(left == 0)=false:=by simpa using q
   clear d1 d2
   go_enter Tryz.func76,Tryz.ntmps76
   go_wp2;go_ret;exact⟨rfl,HS.out.setLeft (by decide)⟩
  ·have d1:decide (left≠0)=true:=by simpa using q
   have d2:yx left=left:=if_neg q2;rw[d1,d2]
   have q4:(left == 0)=false:=by simpa using q
   clear d1 d2
   go_enter Tryz.func76,Tryz.ntmps76
   go_wp2;go_ret;exact⟨rfl,Stp.refl HS.out⟩
def At (fs:List Fl) (x:ByteArray) (r:Int):Prop:=(r=-1∧∀j,j<fs.length→(fs.getD j wL).name≠x)∨∃i:Nat,i<fs.length∧r=i∧(fs.getD i wL).name=x∧∀j,j<i→(fs.getD j wL).name≠x
theorem zf {w:World}{B:Nat}{e:TypeId}{sz:Nat}{a:Option Addr}{n c:Nat}{xs:List Value}(h:w.ownsRow B e sz (.slice a n c) n xs) (h0:0<n):∃g,a=some ⟨g,0,none⟩:=by
 rcases h.2 with⟨_,q2⟩|⟨g,cap,cur,q,_⟩
 ·omega
 ·injection q with q;exact⟨g,q⟩
theorem uv {w:World}{B:Nat}{e:TypeId}{g n c:Nat}{fs:List Fl}(h:w.ownsRow B e 3 (.slice (some ⟨g,0,none⟩) n c) n (fs.flatMap fC)){k:Nat}(hn:fs.length=n) (hk:k<n):w.cell? ⟨g,k*3,none⟩=some (.string (fs.getD k wL).name)∧w.cell? ⟨g,k*3+1,none⟩=some (.string (fs.getD k wL).data)∧w.cell? ⟨g,k*3+2,none⟩=some (.int .i64 ((fs.getD k wL).safe:Int)):=by
 obtain⟨h0,h1,h2⟩:=ay (l:=fs) (j:=k) (by omega);have hc:=h.cells (g:=g) rfl
 have e:∀i,(⟨g,0,none⟩:Addr).add i=⟨g,i,none⟩:=fun i=>by unfold Addr.add;split <;> simp_all
 refine⟨?_,?_,?_⟩
 ·have:=hc _ _ h0;rwa [e]at this
 ·have:=hc _ _ h1;rwa [e]at this
 ·have:=hc _ _ h2;rwa [e]at this
theorem uN {w:World}{B b:Nat}{fs:List Fl}{left:Int}{fv:Value}(h:St 100 109 w B b fs left fv) (x:ByteArray) :
  Calls Tryz.prog 77 #[.pointer (some ⟨b,0,none⟩), .string x] w fun e w'=>∃r:Int,e=.returned (.int .i64 r)∧At fs x r∧w'=w:=by
 obtain⟨a,c,rfl,hc,hm⟩:=zu h.own;unfold maxLen at hm;obtain⟨c0,f0⟩:=zy (j:=0) (u:=.slice a fs.length c) h.blk rfl;have HS:=zx h;clear h;generalize hn:fs.length=n at *;have HN:=zx hn;clear hn
 go_enter Tryz.func77,Tryz.ntmps77
 go_wp2_with fail
 go_loop [11] (fun i=>∃k:Nat,k≤n∧i=.int .i64 k∧∀j,j<k→(fs.getD j wL).name≠x) (fun i=>n-(intOf i).toNat)
 case atStart=>exact⟨0,Nat.zero_le _,rfl,fun j hj=>absurd hj (Nat.not_lt_zero _)⟩
 case round=>
  obtain⟨k,hk,rfl,hno⟩:=hrel;have HNO:=zx hno;clear hno;by_cases hlt:k<n
  ·have ho:=HS.out.own;rw[HN.out]at ho;obtain⟨g,rfl⟩:=zf ho (by omega);obtain⟨d0,_,_⟩:=uv ho HN.out hlt;clear ho;by_cases hx:(fs.getD k wL).name=x
   ·have HX:=zx hx;rw[hx]at d0;clear hx;go_wp2;go_ret;exact⟨k,rfl,Or.inr ⟨k,by rw[HN.out];exact hlt,rfl,HX.out,HNO.out⟩,rfl⟩
   ·have HX:=zx hx;generalize hy:(fs.getD k wL).name=y at d0 hx;have q:=xr hx;clear hx hy;go_wp2
    go_round
    case rel=>exact⟨k+1,by omega,by go_num,fun j hj=>by
     by_cases c:j=k
     ·subst c;exact HX.out
     ·exact HNO.out j (by omega)⟩
    case measure=>simp[intOf];omega
  ·go_wp2;go_ret;exact⟨-1,rfl,Or.inl ⟨rfl,fun j hj=>HNO.out j (by rw[HN.out]at hj;omega)⟩,rfl⟩
def Ptr (T:TypeId) (w:World) (d b:Nat):Prop:=w.heap[d]? = some (Obj.cells #[.pointer (some ⟨b,0,none⟩)] T (0,0))
theorem vj {w:World}{B b d:Nat}{fs:List Fl}{left:Int}{fv:Value}(h:St 100 109 w B b fs left fv) (hp:Ptr 102 w d b) :
  Calls Tryz.prog 41 #[.pointer (some ⟨d,0,none⟩)] w fun e w'=>e=.returned (.bool (left == 0))∧w'=w:=by
 obtain⟨c1,f1⟩:=zy (j:=1) (u:=.int .i64 left) h.blk rfl;obtain⟨c0,f0⟩:=zy (j:=0) (u:=.pointer (some ⟨b,0,none⟩)) hp rfl
 go_enter Tryz.func41,Tryz.ntmps41
 go_wp2;go_ret;exact⟨rfl,rfl⟩
theorem eh {w:World}{B b d:Nat}{fs:List Fl}{left:Int}{fv:Value}(h:St 100 109 w B b fs left fv) (hp:Ptr 102 w d b) (x:ByteArray) :
  Calls Tryz.prog 39 #[.pointer (some ⟨d,0,none⟩), .string x] w fun e w'=>∃r:Int,At fs x r∧e=.returned (.string (if r<0 then⟨#[]⟩ else(fs.getD r.toNat wL).data))∧w'=w:=by
 obtain⟨c0,f0⟩:=zy (j:=0) (u:=.pointer (some ⟨b,0,none⟩)) hp rfl;have CF:=zx (uN h x);obtain⟨a,c,rfl,hc,hm⟩:=zu h.own;unfold maxLen at hm;obtain⟨c2,f2⟩:=zy (j:=0) (u:=.slice a fs.length c) h.blk rfl;have HS:=zx h;clear h hp
 go_enter Tryz.func39,Tryz.ntmps39
 go_wp2_with fail;refine CF.out.mono ?_;rintro e w1 ⟨r,rfl,hr,rfl⟩;have HR:=zx hr;clear CF
 rcases hr with⟨rfl,_⟩|⟨i,hi,rfl,_,_⟩
 ·go_wp2;go_ret;exact⟨-1,HR.out,rfl,rfl⟩
 ·obtain⟨g,rfl⟩:=zf HS.out.own (by omega);obtain⟨_,d1,_⟩:=uv HS.out.own rfl hi;generalize hn:fs.length=n at *;have HN:=zx hn;generalize hd:(fs.getD i wL).data=y at d1;have HD:=zx hd;clear hn hd;go_wp2;go_ret;exact⟨i,HR.out,by rw[if_neg (by omega),Int.toNat_natCast,HD.out];rfl,rfl⟩
theorem Tryz.info109:(Tryz.prog.info? 109).map (fun i=>(i.zero,i.size,i.bytes))=some (some (.agg #[.string ⟨#[]⟩, .string ⟨#[]⟩, .int .i64 0]),3,40):=by kernel_rfl
def wo (x:ByteArray) (fs:List Fl):List Fl:=fs.filter (fun f=>!decide (f.name=x))
theorem lk {x:ByteArray}{l:List Fl}{f:Fl}(h:f.name≠x):wo x (l++[f])=wo x l++[f]:=by simp[wo,h]
theorem nP {x:ByteArray}{l:List Fl}{f:Fl}(h:f.name=x):wo x (l++[f])=wo x l:=by simp[wo,h]
theorem qH (x:ByteArray) (l:List Fl):(wo x l).length≤l.length:=List.length_filter_le _ _
theorem zG {α:Type}{l:List α}{k:Nat}(h:k<l.length) (z:α):l.take (k+1)=l.take k++[l.getD k z]:=by
 rw[List.take_add_one,List.getElem?_eq_getElem h];simp[List.getD,h]
def CurF (e:TypeId) (w0 w:World) (v:Value) (l:List Fl):Prop:=Below w0.heap.size w0 w∧w.ownsRow w0.heap.size e 3 v l.length (l.flatMap fC)
theorem CurF.alloc {e:TypeId}{w0 w:World}{v:Value}{l:List Fl}(h:CurF e w0 w v l) (o:Obj):CurF e w0 (w.alloc o) v l:=⟨h.1.trans ((zi w o).mono h.1.size),h.2.alloc o⟩
theorem tG {e:TypeId}{w0 w w2:World}{v v2:Value}{o:Obj}{l:List Fl}{f:Fl}(h:CurF e w0 w v l) (h2:w2.ownsRow w0.heap.size e 3 v2 (l.length+1) (l.flatMap fC++fC f)) (hg:(w.alloc o).grownBy w2 v.ownBlock):CurF e w0 w2 v2 (l++[f]):=by
 refine⟨?_,by simpa [List.flatMap_append] using h2⟩;refine(h.1.trans ((zi w o).mono h.1.size)).grown hg (by have:=h.1.size;simp;omega) ?_;intro k hk;exact(h.2.lt k hk).1
theorem wz {w:World}{B b:Nat}{fs:List Fl}{left:Int}{fv:Value}(h:St 100 109 w B b fs left fv) (x:ByteArray) (hl:fs.length≤4194304) :
  Calls Tryz.prog 80 #[.pointer (some ⟨b,0,none⟩), .string x] w fun e w'=>∃v,e=.returned v∧CurF 109 w w' v (wo x fs):=by
 obtain⟨i0,hi0,hz0,hz1,hz2⟩:=info_parts Tryz.info109;obtain⟨a,c,rfl,hc,hm⟩:=zu h.own;unfold maxLen at hm;obtain⟨c0,f0⟩:=zy (j:=0) (u:=.slice a fs.length c) h.blk rfl;have HS:=zx h;clear h;generalize hn:fs.length=n at *;have HN:=zx hn;clear hn
 go_enter Tryz.func80,Tryz.ntmps80
 go_wp2_with fail
 go_loopw [5,13] (fun lv i wr=>∃k:Nat,k≤n∧i=.int .i64 k∧CurF 109 w wr lv (wo x (fs.take k))) (fun _ i _=>n-(intOf i).toNat)
 case atStart=>exact⟨0,Nat.zero_le _,rfl,⟨Below.refl _ _,World.ownsRow_nil _ _ _ _⟩⟩
 case round=>
  obtain⟨k,hk,rfl,hcur⟩:=hrel;have HC:=zx hcur;clear hcur;by_cases hlt:k<n
  ·have ho:=(HS.out.below HC.out.1).own;rw[HN.out]at ho;obtain⟨g,rfl⟩:=zf ho (by omega);obtain⟨d0,d1,d2⟩:=uv ho HN.out hlt;clear ho c0;have HTK:=zx (zG (by rw[HN.out];exact hlt:k<fs.length) wL);have hml:(wo x (fs.take k)).length≤k:=Nat.le_trans (qH _ _) (by rw[List.length_take];omega);obtain⟨f,hf⟩:∃f,f=fs.getD k wL:=⟨_,rfl⟩;rw[←hf]at d0 d1 d2
   have HTK2:Hid (fs.take (k+1)=fs.take k++[f]):=by rw[hf];exact HTK.out
   clear HTK hf;obtain⟨nm,dt,sf⟩:=f;simp only at d0 d1 d2;have hsz:=HC.out.1.size;by_cases hx:nm=x
   ·subst hx
    have HW:Hid (CurF 109 w (wr.alloc (Obj.cells #[.string nm, .string dt, .int .i64 (sf:Int)] 109)) u5 (wo nm (fs.take (k+1)))):=by
     show CurF _ _ _ _ _;rw[HTK2.out,nP (f:=⟨nm,dt,sf⟩) rfl];exact HC.out.alloc _
    go_wp2
    go_roundw
    case rel=>exact⟨k+1,by omega,by go_num,HW.out⟩
    case measure=>simp[intOf];omega
   ·have q:=xr hx
    have HW:Hid (wo x (fs.take (k+1))=wo x (fs.take k)++[⟨nm,dt,sf⟩]):=by
     show _=_;rw[HTK2.out,lk (f:=⟨nm,dt,sf⟩) hx]
    have HC1:=zx (HC.out.alloc (Obj.cells #[.string nm, .string dt, .int .i64 (sf:Int)] 109));generalize wo x (fs.take k)=m at *;go_wp2_with (first|(at_builtin;refine wpList_append_own _ rfl _ _ 98 rfl w.heap.size 109 i0 (.agg #[.string ⟨#[]⟩, .string ⟨#[]⟩, .int .i64 0]) 3 40 Tryz.underlying98 hi0 hz0 hz1 hz2 rfl (by decide) _ _ _ rfl (HC1.out.2.alloc _) ⟨_,0,none⟩ 1 1 [.string nm, .string dt, .int .i64 (sf:Int)] rfl rfl (zB _ _ (by simp) _ _ _ rfl) (by intro u hu;simp at hu;rcases hu with rfl|rfl|rfl <;> rfl) (by unfold maxLen;omega) (by omega) (by simp;omega) ?_;intro v4 w4 hown4 hgrow4 _;have HC4:=zx (tG (f:=⟨nm,dt,sf⟩) HC1.out hown4 hgrow4);clear hown4 hgrow4))
    go_roundw
    case rel=>exact⟨k+1,by omega,by go_num,by rw[HW.out];exact HC4.out⟩
    case measure=>simp[intOf];omega
  ·have hke:k=n:=by omega
   subst hke;have HF:Hid (fs.take k=fs):=List.take_of_length_le (by rw[HN.out];exact Nat.le_refl _);go_wp2;go_ret;exact⟨_,rfl,by have:=HC.out;rwa [HF.out]at this⟩
theorem yH {w:World}{B B':Nat}{e:TypeId}{sz:Nat}{v:Value}{n:Nat}{xs:List Value}(h:w.ownsRow B' e sz v n xs) (hB:B≤B'):w.ownsRow B e sz v n xs:=by
 refine⟨h.1,h.2.imp id ?_⟩;rintro ⟨g,cap,cur,hv,h1,h2⟩;exact⟨g,cap,cur,hv,Nat.le_trans hB h1,h2⟩
theorem CurF.pre {e:TypeId}{w wA w1:World}{v:Value}{l:List Fl}(hb:Below w.heap.size w wA) (h:CurF e wA w1 v l):CurF e w w1 v l:=⟨hb.trans (h.1.mono hb.size),yH h.2 hb.size⟩
theorem St.setFresh {T e:TypeId}{w w1:World}{B b:Nat}{fs fs':List Fl}{left:Int}{fv v:Value}(h:St T e w B b fs left fv) (hT:T≠e) (hB:B≤w.heap.size) (hc:CurF e w w1 v fs'):Stp T e B b w (w1.setCell ⟨b,0,none⟩ v) fv fs' left v:=
 h.setFiles hT (yH hc.2 hB) (zH hc.1) (fun _ hg=>Or.inr (zw hc.2 hg).1)
theorem ze {w:World}{b j:Nat}{C:Array Value}{t:TypeId}{v:Value}(h:w.heap[b]? = some (Obj.cells C t (0,0))):(w.setCell ⟨b,j,none⟩ v).heap[b]? = some (Obj.cells (C.setIfInBounds j v) t (0,0)):=by
 simp[World.setCell,Array.getElem?_modify,h]
def aj (fs:List Fl) (r:Int):Fl:=if r<0 then wL else fs.getD r.toNat wL
theorem zZ {w w1:World}{nb j:Nat}{v:Value}(h:Below w.heap.size w w1) (hn:w.heap.size≤nb):Below w.heap.size w (w1.setCell ⟨nb,j,none⟩ v):=
 ⟨h.os,h.tape,h.output,by have:=h.size;simpa using this,fun k hk=>by rw[zt (by omega)];exact h.block k hk⟩
theorem zj (w:World) (cs:Array Value) (t:TypeId):(w.alloc (Obj.cells cs t)).heap[w.heap.size]? = some (Obj.cells cs t (0,0)):=by
 show(w.heap.push _)[w.heap.size]? = _;rw[Array.getElem?_push,if_pos rfl]
theorem yj {w:World}{g:Nat}{D:Obj}(o:Obj) (h:w.heap[g]? = some D):(w.alloc o).heap[g]? = some D:=by
 rw[Mth.uC w o (Mth.gI h)];exact h
theorem kQ (w:World) (B:Nat) (hB:B≤w.heap.size):Calls Tryz.prog 13 #[] w fun e w'=>∃d h b,e=.returned (.tuple #[.pointer (some ⟨d,0,none⟩), .pointer (some ⟨h,0,none⟩)])∧w.heap.size≤b∧w.heap.size≤d∧w.heap.size≤h∧Below w.heap.size w w'∧St 100 109 w' B b [] (-1) (.slice none 0 0)∧Ptr 102 w' d b∧Ptr 104 w' h b:=by
 have k1:=zj w #[.slice none 0 0, .int .i64 (-1)] 100;have hb1:=zi w (Obj.cells #[.slice none 0 0, .int .i64 (-1)] 100);have k2:=zj (w.alloc (Obj.cells #[.slice none 0 0, .int .i64 (-1)] 100)) #[.pointer (some ⟨w.heap.size,0,none⟩)] 102;have hb2:=zi (w.alloc (Obj.cells #[.slice none 0 0, .int .i64 (-1)] 100)) (Obj.cells #[.pointer (some ⟨w.heap.size,0,none⟩)] 102);have k3:=zj ((w.alloc (Obj.cells #[.slice none 0 0, .int .i64 (-1)] 100)).alloc (Obj.cells #[.pointer (some ⟨w.heap.size,0,none⟩)] 102)) #[.pointer (some ⟨w.heap.size,0,none⟩)] 104;have hb3:=zi ((w.alloc (Obj.cells #[.slice none 0 0, .int .i64 (-1)] 100)).alloc (Obj.cells #[.pointer (some ⟨w.heap.size,0,none⟩)] 102)) (Obj.cells #[.pointer (some ⟨w.heap.size,0,none⟩)] 104);have K1:=zx (yj (Obj.cells #[.pointer (some ⟨w.heap.size,0,none⟩)] 104) (yj (Obj.cells #[.pointer (some ⟨w.heap.size,0,none⟩)] 102) k1));have K2:=zx (yj (Obj.cells #[.pointer (some ⟨w.heap.size,0,none⟩)] 104) k2);have K3:=zx k3;have HB:=zx ((hb1.trans (hb2.mono hb1.size)).trans (hb3.mono (hb1.trans (hb2.mono hb1.size)).size));clear k1 k2 k3 hb1 hb2 hb3
 go_enter Tryz.func13,Tryz.ntmps13
 go_wp2;go_ret2;exact⟨_,_,_,rfl,Nat.le_refl _,by first|omega|simp,by first|omega|(simp;omega),HB.out,⟨K1.out,World.ownsRow_nil _ _ _ _,hB⟩,by have:=K2.out;simpa [Ptr] using this,by have:=K3.out;simpa [Ptr] using this⟩
theorem lw {fs:List Fl}{x:ByteArray}{r r':Int}(h:At fs x r) (h':At fs x r'):r=r':=by
 rcases h with⟨rfl,h⟩|⟨i,hi,rfl,hn,h⟩
 ·rcases h' with⟨rfl,_⟩|⟨j,hj,rfl,hm,_⟩
  ·rfl
  ·exact absurd hm (h j hj)
 ·rcases h' with⟨rfl,h'⟩|⟨j,hj,rfl,hm,h'⟩
  ·exact absurd hn (h' i hi)
  ·rcases Nat.lt_trichotomy i j with q|q|q
   ·exact absurd hn (h' i q)
   ·rw[q]
   ·exact absurd hm (h j q)
theorem pi (a b:ByteArray) (w:World) (h:a.size+b.size≤70368744177664):(Op.stringOp .add a b).run Tryz.prog w=.ok (.string (a++b)) w:=run_string_add_sum (P:=Tryz.prog) w _ _ (by omega)
theorem zQ {P:Program}(w:World){ops:Array Oper}{o:Oper}{a:Act}{K:Act→World→Prop}{Q:Exit→Act→World→Prop}{E:Prop}(hgd:o.guard=none) (s x:Operand) (t:TypeId)
  (ho:o.op=.call { callee:=.builtin .append,args:=#[s,x],argTypes:=#[t,t] })
  (base:Nat) (e:TypeId) (i:TypeInfo) (z:Value) (size bytes:Nat) (ht:P.underlying t=some (.slice e)) (hi:P.info? e=some i) (hz:i.zero=some z)
  (hsize:i.size=size) (hby:i.bytes=bytes) (hzs:z.cells.size=size) (hsz:0<size)
  (v:Value) (n:Nat) (xs:List Value) (hs:a.eval s=v) (hown:w.ownsRow base e size v n xs)
  (ad:Addr) (m c:Nat) (news:List Value) (hx:a.eval x=.slice (some ad) m c) (hl:news.length=m*size) (hnews:∀j u,news[j]? = some u→w.cell? (ad.add j)=some u) (h1:∀u∈news,u.oneCell'=true)
  (h63:n+m≤maxLen) (hbytes:(n+m)*bytes≤140737488355328) (hbase:base≤w.heap.size)
  (h:∀v' w',w'.ownsRow base e size v' (n+m) (xs++news)→w.grownBy w' v.ownBlock→(v'.ownBlock=v.ownBlock∨v'.ownBlock=some w.heap.size)→K (a.put o.dst v') w') :
  if Region.wanted o (yielded ops a.tmps)=true then Oper.wp P o a w K Q else E:=by
 have hw:Region.wanted o (yielded ops a.tmps)=true:=by simp[Region.wanted,hgd]
 rw[if_pos hw];obtain⟨v',w',hr,h2,h3,h4,h5⟩:=run_append_own_at (P:=P) w base t o.type e i z size bytes ht hi hz hsize hby hzs hsz v n xs hown ad m c news hl hnews h1 h63 hbytes hbase;unfold Oper.wp execOp;simp only[ho,resolve,invoke,builtin,Sem.run_bind,Sem.run_pure,Result.andThen_ok,List.map_toArray,List.map_cons,List.map_nil,hs,hx,hr];exact h v' w' h2 h3 h5
theorem St.appended {T e:TypeId}{W W5:World}{B b:Nat}{fs:List Fl}{left:Int}{fv v5:Value}{f:Fl}{o:Obj}(h:St T e W B b fs left fv) (hT:T≠e) (o5:W5.ownsRow B e 3 v5 (fs.length+1) (fs.flatMap fC++fC f)) (g:(W.alloc o).grownBy W5 fv.ownBlock) (h5:v5.ownBlock=fv.ownBlock∨v5.ownBlock=some (W.alloc o).heap.size):Stp T e B b W (W5.setCell ⟨b,0,none⟩ v5) fv (fs++[f]) left v5:=by
 refine h.setFiles hT (by simpa [List.flatMap_append] using o5) ⟨g.os,g.tape,g.output,by have:=g.size;simp at this;omega,fun k hk hn=>?_⟩ (fun k hk=>?_)
 ·rw[g.block k (by simp;omega) hn,Mth.uC W o (r:=k) hk]
 ·rcases h5 with q|q
  ·rw[q]at hk;exact Or.inl hk
  ·rw[q]at hk;injection hk with hk;right;rw[hk];simp
theorem Ptr.keep {T T' e:TypeId}{w w':World}{B b d:Nat}{fs:List Fl}{left:Int}{fv:Value}(hp:Ptr T w d b) (h:St T' e w B b fs left fv) (ht:Tch (oY b fv) w w') (h1:T≠T') (h2:T≠e):Ptr T w' d b:=by
 refine(ht.block d (Mth.gI hp) (fun q=>?_)).trans hp
 rcases q with q|q
 ·subst q;have:=h.blk;rw[hp]at this
  injection this with this
  injection this with _ this _
  exact h1 this
 ·obtain⟨_,_,D,hD⟩:=zw h.own q;rw[hp]at hD
  injection hD with hD
  injection hD with _ hD _
  exact h2 hD
theorem Ptr.below {T:TypeId}{w w':World}{d b:Nat}(hp:Ptr T w d b) (hb:Below w.heap.size w w'):Ptr T w' d b:=(hb.block d (Mth.gI hp)).trans hp
theorem pV:∀ {l:List Fl}{k:Nat}(y:ByteArray),k<l.length→(l.flatMap fC).set (k*3+1) (.string y)=(l.set k ⟨(l.getD k wL).name,y,(l.getD k wL).safe⟩).flatMap fC
 | f::l,0,y,_=>by simp[fC]
 | f::l,k+1,y,h=>by
  have:=pV (l:=l) (k:=k) y (by simpa using h);rw[List.flatMap_cons,List.set_append_right _ _ (by simp[fC];omega),List.set_cons_succ,List.flatMap_cons,←show(k*3+1)=(k+1)*3+1-(fC f).length by simp[fC];omega,this];simp
theorem jX:∀ {l:List Fl}{k:Nat}(y:Nat),k<l.length→(l.flatMap fC).set (k*3+2) (.int .i64 (y:Int))=(l.set k ⟨(l.getD k wL).name,(l.getD k wL).data,y⟩).flatMap fC
 | f::l,0,y,_=>by simp[fC]
 | f::l,k+1,y,h=>by
  have:=jX (l:=l) (k:=k) y (by simpa using h);rw[List.flatMap_cons,List.set_append_right _ _ (by simp[fC];omega),List.set_cons_succ,List.flatMap_cons,←show(k*3+2)=(k+1)*3+2-(fC f).length by simp[fC];omega,this];simp
theorem St.store {T e:TypeId}{w:World}{B b g n c:Nat}{fs fs':List Fl}{left:Int}{i:Nat}{y:Value}(h:St T e w B b fs left (.slice (some ⟨g,0,none⟩) n c)) (hT:T≠e) (hn:fs.length=n) (hi:i<n*3) (hf:fs'.length=n) (he:(fs.flatMap fC).set i y=fs'.flatMap fC):Stp T e B b w (w.setCell ⟨g,i,none⟩ y) (.slice (some ⟨g,0,none⟩) n c) fs' left (.slice (some ⟨g,0,none⟩) n c):=by
 have hne:b≠g:=fun q=>h.ne hT (by simp[Value.ownBlock,q])
 have ho:=h.own;rw[hn]at ho;have:=zF (y:=y) ho hi;rw[he]at this;exact⟨⟨by rw[zt hne];exact h.blk,by rw[hf];exact this,h.ge⟩,⟨rfl,rfl,rfl,by simp,fun k _ hk=>zt (fun q=>hk (Or.inr (by simp[Value.ownBlock,q])))⟩,fun _ q=>Or.inl q⟩
def qJ (fs:List Fl) (k:Nat) (y:ByteArray):List Fl:=fs.set k ⟨(fs.getD k wL).name,y,(fs.getD k wL).safe⟩
def ah (fs:List Fl) (x t:ByteArray) (r:Int):List Fl:=if r<0 then fs++[⟨x,⟨#[]⟩++t,0⟩] else qJ fs r.toNat ((fs.getD r.toNat wL).data++t)
theorem iq (fs:List Fl) (x y:ByteArray):qJ (fs++[⟨x,⟨#[]⟩,0⟩]) fs.length y=fs++[⟨x,y,0⟩]:=by
 unfold qJ;rw[List.set_append_right _ _ (Nat.le_refl _)];simp[List.getD]
theorem uy {w:World}{B b d:Nat}{fs:List Fl}{left:Int}{fv:Value}(h:St 100 109 w B b fs left fv) (hp:Ptr 102 w d b) (hB:B≤w.heap.size) (h1:-1≤left) (h2:left<9223372036854775808) (q:left≠0) (hl:fs.length≤4194304) (x t:ByteArray) (r:Int) (hr:At fs x r) (hs:(aj fs r).data.size+t.size≤70368744177664) :
  Calls Tryz.prog 31 #[.pointer (some ⟨d,0,none⟩), .string x, .string t] w fun e w'=>e=.returned (.bool true)∧∃fv',Stp 100 109 B b w w' fv (ah fs x t r) (yx left) fv':=by
 obtain⟨i0,hi0,hz0,hz1,hz2⟩:=info_parts Tryz.info109;have CS:=zx (wh h h1 h2);rw[decide_eq_true q]at CS;obtain⟨p0,_⟩:=zy (j:=0) (u:=.pointer (some ⟨b,0,none⟩)) hp rfl;have HR:=zx hr;have HP:=zx hp;have HS:=zx h;generalize yx left=l1 at *;generalize hfs:ah fs x t r=fs' at *;have HFS:=zx hfs;have HSZ:=zx hs;clear h h1 h2 q hfs hr hs hp
 go_enter Tryz.func31,Tryz.ntmps31
 go_wp2_with fail;refine CS.out.mono ?_;rintro e w1 ⟨rfl,hs⟩;have HT:=zx hs;have HP1:=zx (HP.out.keep HS.out hs.tch (by decide) (by decide));have CF:=zx (uN hs.st x);obtain⟨p1,_⟩:=zy (j:=0) (u:=.pointer (some ⟨b,0,none⟩)) HP1.out rfl;clear hs CS p0 HP HS;go_wp2_with fail;refine CF.out.mono ?_;rintro e w2 ⟨r',rfl,hr,rfl⟩;have hrr:=lw HR.out hr;subst hrr;have hsz2:=HT.out.tch.size;clear CF;obtain⟨a,c,rfl,hc,hm⟩:=zu HT.out.st.own;unfold maxLen at hm;obtain⟨c0,f0⟩:=zy (j:=0) (u:=.slice a fs.length c) HT.out.st.blk rfl
 rcases hr with⟨rfl,_⟩|⟨i,hi,rfl,_,_⟩
 ·have HNB:Hid (some b≠(Value.slice a fs.length c).ownBlock):=HT.out.st.ne (by decide)
  have HND:Hid (some d≠(Value.slice a fs.length c).ownBlock):=by
   intro q;obtain⟨_,_,D,hD⟩:=zw HT.out.st.own q;rw[HP1.out]at hD
   injection hD with hD
   injection hD with _ hD _
   exact absurd hD (by decide)
  have c1:(w2.alloc (Obj.cells #[.string x, .string ⟨#[]⟩, .int .i64 0] 109)).cell? ⟨b,0,none⟩=some (.slice a fs.length c):=((zi w2 _).cell (p:=⟨b,0,none⟩) (World.block_lt_of_cell? _ _ c0)).trans c0;have p2:(w2.alloc (Obj.cells #[.string x, .string ⟨#[]⟩, .int .i64 0] 109)).cell? ⟨d,0,none⟩=some (.pointer (some ⟨b,0,none⟩)):=((zi w2 _).cell (p:=⟨d,0,none⟩) (World.block_lt_of_cell? _ _ p1)).trans p1
  have HFR:Hid (fs'=qJ (fs++[⟨x,⟨#[]⟩,0⟩]) fs.length (⟨#[]⟩++t)):=by
   show _=_;rw[iq,←HFS.out];rfl
  have HDS:Hid ((ByteArray.size ⟨#[]⟩)+t.size≤70368744177664):=HSZ.out
  have hadd:=fun w=>pi ⟨#[]⟩ t w HDS.out
  generalize hdd:(⟨#[]⟩:ByteArray)++t=dd at *;clear hdd HSZ HFS;generalize hn:fs.length=n at *;have HN:=zx hn;clear hn;have HOW:=HT.out.st.own;rw[HN.out]at HOW;have HOWN:=zx HOW;clear HOW;go_wp2_with fail
  go_region_law (refine zQ _ rfl _ _ 98 rfl B 109 i0 (.agg #[.string ⟨#[]⟩, .string ⟨#[]⟩, .int .i64 0]) 3 40 Tryz.underlying98 hi0 hz0 hz1 hz2 rfl (by decide) _ _ _ rfl (by exact HOWN.out.alloc _) ⟨w2.heap.size,0,none⟩ 1 1 [.string x, .string ⟨#[]⟩, .int .i64 0] rfl rfl (by exact zM _ _ _ _ rfl) (by intro u hu;simp at hu;rcases hu with rfl|rfl|rfl <;> rfl) (by unfold maxLen;omega) (by omega) (by simp;omega) ?_;intro v5 W5 o5 g5 n5;obtain⟨a5,c5,rfl,_,_⟩:=zu o5;have g6:(w2.alloc (Obj.cells #[.string x, .string ⟨#[]⟩, .int .i64 0] 109)).grownBy W5 (Value.slice a n c).ownBlock:=⟨g5.os,g5.tape,g5.output,g5.size,g5.block⟩;have KS:=zx (HT.out.st.appended (f:=⟨x,⟨#[]⟩,0⟩) (by decide) (by rw[HN.out];exact o5) g6 n5);obtain⟨fb,ff⟩:=zy (j:=0) (u:=.slice a n c) (zN g6 HT.out.st.blk HNB.out) rfl;obtain⟨fd,_⟩:=zy (j:=0) (u:=.pointer (some ⟨b,0,none⟩)) (zN g6 HP1.out HND.out) rfl;clear o5 g5 g6 n5)
  all_goals (
   have HP3:=zx (HP1.out.keep HT.out.st KS.out.tch (by decide) (by decide))
   have hlen:(fs++[(⟨x,⟨#[]⟩,0⟩:Fl)]).length=n+1:=by simp[HN.out]
   have hown:=KS.out.st.own;rw[hlen]at hown;obtain⟨g5,rfl⟩:=zf hown (by omega)
   have hgd:(fs++[(⟨x,⟨#[]⟩,0⟩:Fl)]).getD n wL=⟨x,⟨#[]⟩,0⟩:=by rw[←HN.out];simp[List.getD]
   obtain⟨_,e3,_⟩:=uv (k:=n) hown hlen (by omega);rw[hgd]at e3;obtain⟨_,hfr⟩:=wg (i:=n*3+1) hown (by omega);obtain⟨e0,_⟩:=zy (j:=0) (u:=.slice (some ⟨g5,0,none⟩) (n+1) c5) KS.out.st.blk rfl;obtain⟨e1,_⟩:=zy (j:=0) (u:=.pointer (some ⟨b,0,none⟩)) HP3.out rfl;have ST2:=zx (KS.out.st.store (i:=n*3+1) (y:=.string dd) (fs':=qJ (fs++[(⟨x,⟨#[]⟩,0⟩:Fl)]) n dd) (by decide) hlen (by omega) (by simp[qJ,HN.out]) (pV dd (by omega)));clear hown hgd hlen c1 p2 c0 f0 p1 fb ff fd;generalize W5.setCell ⟨b,0,none⟩ (.slice (some ⟨g5,0,none⟩) (n+1) c5)=W6 at *;go_wp2;go_ret
   exact⟨rfl,_,by rw[HFR.out,HN.out];exact HT.out.trans (KS.out.trans ST2.out)⟩)
 ·have HFR:Hid (fs'=qJ fs i ((fs.getD i wL).data++t)):=by
   show _=_;rw[←HFS.out];unfold ah;rw[if_neg (by omega),Int.toNat_natCast]
  have HDS:Hid ((fs.getD i wL).data.size+t.size≤70368744177664):=by
   have:=HSZ.out;unfold aj at this
   rwa [if_neg (by omega),Int.toNat_natCast]at this
  have hown:=HT.out.st.own;obtain⟨g,rfl⟩:=zf hown (by omega);obtain⟨_,e3,_⟩:=uv (k:=i) hown rfl hi;obtain⟨_,hfr⟩:=wg (i:=i*3+1) hown (by omega);generalize hdt:(fs.getD i wL).data=dt at *
  have hadd:=fun w=>pi dt t w HDS.out
  generalize hdd:dt++t=dd at *;have ST2:=zx (HT.out.st.store (i:=i*3+1) (y:=.string dd) (fs':=qJ fs i dd) (by decide) rfl (by omega) (by simp[qJ]) (pV dd hi));clear hdt hdd hown HSZ;generalize hn:fs.length=n at *;have HN:=zx hn;clear hn;go_wp2;go_ret;exact⟨rfl,_,by rw[HFR.out];first|exact HT.out.trans ST2.out|(rw[HN.out];exact HT.out.trans ST2.out)⟩
end Go.Proofs.YtkncboinfcnklaaGreatDoor
