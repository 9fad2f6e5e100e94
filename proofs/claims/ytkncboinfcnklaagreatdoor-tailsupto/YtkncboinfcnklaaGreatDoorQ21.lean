import Derived.Test.YtkncboinfcnklaaGreatDoorQ14
import Derived.Test.YtkncboinfcnklaaGreatDoorQ20
import Derived.Test.YtkncboinfcnklaaGreatDoorQ5
import Derived.Test.YtkncboinfcnklaaGreatDoorQ3
import Derived.Test.YtkncboinfcnklaaGreatDoorQ18
import Derived.Test.YtkncboinfcnklaaGreatDoorQ9
import Derived.Test.YtkncboinfcnklaaGreatDoorQ19
set_option maxRecDepth 100000
set_option maxHeartbeats 8000000
namespace Go.Proofs.YtkncboinfcnklaaGreatDoor
open Go.RowKit Go.Deep Go.Proofs.YtkncboinfcnklaaGreatDoor.Mth
def NB (B0:Nat) (v v':Value):Prop:=∀g,some g=v'.ownBlock→some g=v.ownBlock∨B0≤g
theorem oU {B0 k:Nat}{v v':Value}(h:v'.ownBlock=v.ownBlock∨v'.ownBlock=some k) (hk:B0≤k):NB B0 v v':=fun g hg=>by
 rcases h with h|h
 ·rw[h]at hg;exact Or.inl hg
 ·rw[h]at hg
  injection hg with hg
  exact Or.inr (by rw[hg];exact hk)
theorem zY {P:Program}(w:World){ops:Array Oper}{rest:List Oper}{o:Oper}{a:Act}{Q:Exit→Act→World→Prop}(hgd:o.guard=none) (s x:Operand) (t:TypeId)
  (ho:o.op=.call { callee:=.builtin .append,args:=#[s,x],argTypes:=#[t,t] })
  (base:Nat) (e:TypeId) (i:TypeInfo) (z:Value) (size bytes:Nat) (ht:P.underlying t=some (.slice e)) (hi:P.info? e=some i) (hz:i.zero=some z)
  (hsize:i.size=size) (hby:i.bytes=bytes) (hzs:z.cells.size=size) (hsz:0<size)
  (v:Value) (n:Nat) (xs:List Value) (hs:a.eval s=v) (hown:w.ownsRow base e size v n xs)
  (ad:Addr) (m c:Nat) (news:List Value) (hx:a.eval x=.slice (some ad) m c) (hl:news.length=m*size) (hnews:∀j u,news[j]? = some u→w.cell? (ad.add j)=some u) (h1:∀u∈news,u.oneCell'=true)
  (h63:n+m≤maxLen) (hbytes:(n+m)*bytes≤140737488355328) (hbase:base≤w.heap.size) (hm0:0<m)
  (h:∀v' w',w'.ownsRow base e size v' (n+m) (xs++news)→w.grownBy w' v.ownBlock→w'.ownsRow base e size v n xs→(v'.ownBlock=v.ownBlock∨w.grownBy w' none)→(v'.ownBlock=v.ownBlock∨v'.ownBlock=some w.heap.size)→wpList P ops Q rest (a.put o.dst v') w') :
  wpList P ops Q (o::rest) a w:=by
 refine wpList_plain hgd fun K hK=>?_
 obtain⟨v',w',hr,h2,h3,h4,h5⟩:=tB (P:=P) w base t o.type e i z size bytes ht hi hz hsize hby hzs hsz v n xs hown ad m c news hl hnews h1 h63 hbytes hbase hm0;obtain⟨v'',w'',hr2,_,_,_,h6⟩:=run_append_own_at (P:=P) w base t o.type e i z size bytes ht hi hz hsize hby hzs hsz v n xs hown ad m c news hl hnews h1 h63 hbytes hbase;rw[hr]at hr2
 injection hr2 with e1 e2
 subst e1;unfold Oper.wp execOp;simp only[ho,resolve,invoke,builtin,Sem.run_bind,Sem.run_pure,Result.andThen_ok,List.map_toArray,List.map_cons,List.map_nil,hs,hx,hr];exact hK _ _ (h v' w' h2 h3 h4 h5 h6)
def KN (s:Nat) (v va vb vc:Value):Prop:=∀g,(some g=v.ownBlock∨some g=va.ownBlock∨some g=vb.ownBlock∨some g=vc.ownBlock)→some g=v.ownBlock∨s≤g
theorem vz {s k:Nat}{v v':Value}(h:v'.ownBlock=v.ownBlock∨v'.ownBlock=some k) (hk:s≤k):∀g,some g=v'.ownBlock→some g=v.ownBlock∨s≤g:=oU h hk
def SA (w W:World) (v:Value):Prop:=∀g,g<w.heap.size→some g≠v.ownBlock→W.heap[g]? = w.heap[g]?
theorem SA.app {w W W2:World}{v v2:Value}{o:Obj}{xb i:Nat}(h:SA w W v) (hs:w.heap.size≤W.heap.size) (hx:w.heap.size≤xb) (h2:(W.alloc o).grownBy W2 v.ownBlock):SA w (W2.setCell ⟨xb,i,none⟩ v2) v:=fun g hg hn=>by
 rw[zt (by omega),h2.block g (by simp;omega) hn,Mth.uC W o (r:=g) (by omega)];exact h g hg hn
theorem SA.fin {w W W2:World}{v tv tv':Value}{o:Obj}{wb off:Nat}(h:SA w W v) (hs:w.heap.size≤W.heap.size) (h2:(W.alloc o).grownBy W2 tv.ownBlock):∀g,g<w.heap.size→some g≠v.ownBlock→g≠wb→some g≠tv.ownBlock→(W2.setCell ⟨wb,off,none⟩ tv').heap[g]? = w.heap[g]? := fun g hg hn hw ht=>by
 rw[zt hw,h2.block g (by simp;omega) ht,Mth.uC W o (r:=g) (by omega)];exact h g hg hn
theorem vW (w:World) (B0 wb B:Nat) (v tv:Value) (n N:Nat) (ys xs:List Value) (C:Array Value) (hown:w.ownsRow B0 66 3 v n ys) (hwb:wb<B0) (hB0:B0≤w.heap.size) (hC:w.heap[wb]? = some (Obj.cells C 91 (0,0))) (hCs:C.size=15) (hct:C[12]? = some tv)
  (hrow:w.ownsRow B 169 5 tv N xs) (htv:∀g,some g=tv.ownBlock→g<B0) (hBB:B≤B0) (hn:n≤4194304) (hN:N≤4194304) :
  Calls Tryz.prog 121 #[.pointer (some ⟨wb,9,none⟩),v] w fun e w'=>e=.returned (.tuple #[])∧∃tv' va vb vc,Kept w w' B0 wb 12 B 169 66 3 (fE N) tv tv' N xs C ⟨v,va,vb,vc⟩ n∧KN w.heap.size v va vb vc∧NB w.heap.size tv tv'∧∀g,g<w.heap.size→some g≠v.ownBlock→g≠wb→some g≠tv.ownBlock→w'.heap[g]? = w.heap[g]? := by
 obtain⟨i0,hi0,hz0,hz1,hz2⟩:=info_parts Tryz.info66;obtain⟨j0,hj0,hy0,hy1,hy2⟩:=info_parts Tryz.info169;have hyl:=hown.1;have HOWN:=zx hown;have HC:=zx hC;have HROW:=zx hrow;have HTV:=zx htv;have c12:=(zy hC hct).1
 have hv:∃a c,v=.slice a n c∧n≤c∧c≤maxLen:=by
  rcases hown.2 with⟨rfl,rfl⟩|⟨g,cap,cur,rfl,_,_,h1,h2,_⟩
  ·exact⟨none,0,rfl,Nat.le_refl _,by unfold maxLen;omega⟩
  ·exact⟨_,cap,rfl,h1,h2⟩
 have htvv:∃a c,tv=.slice a N c∧N≤c∧c≤maxLen:=by
  rcases hrow.2 with⟨rfl,rfl⟩|⟨g,cap,cur,rfl,_,_,h1,h2,_⟩
  ·exact⟨none,0,rfl,Nat.le_refl _,by unfold maxLen;omega⟩
  ·exact⟨_,cap,rfl,h1,h2⟩
 obtain⟨a,c,rfl,hnc,hcm⟩:=hv;obtain⟨ta,tc,rfl,hNc,hNm⟩:=htvv;unfold maxLen at hcm hNm;have HCT:=zx hct;have HCS:=zx hCs;clear hown hC hrow htv hct
 go_enter Tryz.func121,Tryz.ntmps121
 go_wp2_with fail;have HB1:=zx (zi w (Obj.cells #[.int .i64 (-1000-(N:Int)), .int .i64 0, .string ⟨#[]⟩] 66))
 have HM1:Hid ((w.alloc (Obj.cells #[.int .i64 (-1000-(N:Int)), .int .i64 0, .string ⟨#[]⟩] 66)).heap[w.heap.size]? = some (Obj.cells #[.int .i64 (-1000-(N:Int)), .int .i64 0, .string ⟨#[]⟩] 66 (0,0))):=by
  show(w.heap.push _)[w.heap.size]? = _;rw[Array.getElem?_push,if_pos rfl]
 have HNM:Hid (some w.heap.size≠(Value.slice a n c).ownBlock):=fun q=>by have:=(zw HOWN.out q).2.1;omega
 have hmB:B0≤w.heap.size:=hB0
 have hmlt:w.heap.size<(w.alloc (Obj.cells #[.int .i64 (-1000-(N:Int)), .int .i64 0, .string ⟨#[]⟩] 66)).heap.size:=by simp
 generalize w.alloc (Obj.cells #[.int .i64 (-1000-(N:Int)), .int .i64 0, .string ⟨#[]⟩] 66)=w1 at *;have HOWN1:=zx (HOWN.out.kept (row:=none) ⟨HB1.out.os,HB1.out.tape,HB1.out.output,HB1.out.size,fun k hk _=>HB1.out.block k hk⟩ (by cases (Value.slice a n c).ownBlock <;> simp));clear HOWN c12
 go_loopw [6] (fun i wr=>∃k:Nat,k≤n∧i=.int .i64 k∧wr.ownsRow B0 66 3 (.slice a n c) n (sT (fE N) ys (k*3))∧w1.grownBy wr (Value.slice a n c).ownBlock) (fun i _=>n-(intOf i).toNat)
 case atStart=>exact⟨0,Nat.zero_le _,rfl,by simpa [sT,rU] using HOWN1.out,⟨rfl,rfl,rfl,Nat.le_refl _,fun _ _ _=>rfl⟩⟩
 case round=>
  obtain⟨k,hk,rfl,ho,hg⟩:=hrel;have HO:=zx ho;have HG:=zx hg;clear ho hg;by_cases hlt:k<n
  ·have hsome:∃g,a=some ⟨g,0,none⟩:=by
    rcases HO.out.2 with⟨q,q2⟩|⟨g,cap,cur,q,_⟩
    ·omega
    ·injection q with q;exact⟨g,q⟩
   obtain⟨g,rfl⟩:=hsome;obtain⟨⟨y0,hcell0⟩,hfr0⟩:=wg HO.out (i:=k*3) (by omega);obtain⟨⟨y1,hcell1⟩,hfr1⟩:=wg HO.out (i:=k*3+1) (by omega);obtain⟨⟨y2,hcell2⟩,hfr2⟩:=wg HO.out (i:=k*3+2) (by omega);have HMR:=zx ((HG.out.block w.heap.size (by omega) HNM.out).trans HM1.out);have m0:=(zy (j:=0) (u:=.int .i64 (-1000-(N:Int))) HMR.out rfl).1;have m1:=(zy (j:=1) (u:=.int .i64 0) HMR.out rfl).1;have m2:=(zy (j:=2) (u:=.string ⟨#[]⟩) HMR.out rfl).1;go_wp2
   go_roundw
   case rel=>
    refine⟨k+1,by omega,by go_num,?_,⟨HG.out.os,HG.out.tape,HG.out.output,by have:=HG.out.size;simpa using this,fun q hq hne=>?_⟩⟩
    ·have t0:=zF (y:=fE N (k*3)) HO.out (i:=k*3) (by omega);rw[xD (f:=fE N) (by rw[hyl];omega)]at t0;have t1:=zF (y:=fE N (k*3+1)) t0 (i:=k*3+1) (by omega);rw[xD (f:=fE N) (by rw[hyl];omega)]at t1;have t2:=zF (y:=fE N (k*3+2)) t1 (i:=k*3+2) (by omega);rw[xD (f:=fE N) (by rw[hyl];omega)]at t2;rw[uL N k 1,uL N k 2,show fE N (k*3)=fE N 0 from uL N k 0]at t2;rw[show(k+1)*3=k*3+2+1 by omega];exact t2
    ·rw[zt (fun e=>hne (by simp[Value.ownBlock,e])),zt (fun e=>hne (by simp[Value.ownBlock,e])),zt (fun e=>hne (by simp[Value.ownBlock,e]))];exact HG.out.block q hq hne
   case measure=>simp[intOf];omega
  ·have hke:k=n:=by omega
   subst hke
   have HO2:Hid (wr.ownsRow B0 66 3 (.slice a k c) k (rU (fE N) (k*3))):=by
    have:=HO.out;rw[tk (by rw[hyl];omega)]at this;exact this
   have HSAME:Hid (∀g:Nat,g<B0→wr.heap[g]? = w.heap[g]?):=by
    intro g hg;have hs1:=HB1.out.size;rw[HG.out.block g (by omega) (fun q=>by have:=(zw HOWN1.out q).1;omega)];exact HB1.out.block g (by omega)
   have hsz:w.heap.size≤wr.heap.size:=Nat.le_trans HB1.out.size HG.out.size
   have K0:Hid (KSt w (wr.alloc (Obj.cells #[.slice a k c, .slice none 0 0, .slice none 0 0, .slice none 0 0, .int .i64 (N:Int)] 169)) B0 wr.heap.size 169 66 3 (.slice a k c) k (fE N) #[.slice a k c, .slice none 0 0, .slice none 0 0, .slice none 0 0, .int .i64 (N:Int)] []):=by
    refine⟨HO2.out.alloc _,?_,by omega,fun g hg=>?_,HG.out.os.trans HB1.out.os,HG.out.tape.trans HB1.out.tape,HG.out.output.trans HB1.out.output,by simp;omega,fun p hp=>by cases hp⟩
    ·show(wr.heap.push _)[wr.heap.size]? = _;rw[Array.getElem?_push,if_pos rfl]
    ·rw[Mth.uC wr _ (r:=g) (by omega)];exact HSAME.out g hg
   have A0:Hid (SA w (wr.alloc (Obj.cells #[.slice a k c, .slice none 0 0, .slice none 0 0, .slice none 0 0, .int .i64 (N:Int)] 169)) (.slice a k c)):=by
    intro g hg hn;rw[Mth.uC wr _ (r:=g) (by omega),HG.out.block g (Nat.lt_of_lt_of_le hg HB1.out.size) hn];exact HB1.out.block g hg
   have HXB:Hid (w.heap.size≤wr.heap.size):=hsz;have hwlt:w.heap.size<wr.heap.size:=Nat.lt_of_lt_of_le hmlt HG.out.size;have Q0:=zx ((Mth.uC wr (Obj.cells #[.slice a k c, .slice none 0 0, .slice none 0 0, .slice none 0 0, .int .i64 (N:Int)] 169) (r:=w.heap.size) hwlt).trans ((HG.out.block w.heap.size (by omega) HNM.out).trans HM1.out));have p0:=(zy (j:=0) (u:=.int .i64 (-1000-(N:Int))) Q0.out rfl).1;have q0:=(zy (j:=1) (u:=.int .i64 0) Q0.out rfl).1;have s0:=(zy (j:=2) (u:=.string ⟨#[]⟩) Q0.out rfl).1;clear HO HG HOWN1 HB1
   go_wp2_with (first
    | (at_builtin;refine zY _ rfl (.tmp 29) (.tmp 31) 57 rfl B0 66 i0 (.agg #[.int .i64 0, .int .i64 0, .string ByteArray.empty]) 3 32 Tryz.underlying57 hi0 hz0 hz1 hz2 rfl (by decide) _ _ _ rfl (K0.out.own.alloc _) ⟨_,0,none⟩ 1 1 [.int .i64 (-1000-(N:Int)), .int .i64 0, .string ⟨#[]⟩] rfl rfl (zB _ _ (by simp) _ _ _ rfl) (by intro u hu;simp only[List.mem_cons,List.not_mem_nil,or_false]at hu;rcases hu with rfl|rfl|rfl <;> rfl) (by unfold maxLen;omega) (by omega) (by have:=K0.out.size;simp at this ⊢;omega) (by omega) ?_;intro v1 W1 o1 g1 k1 r1 s1;have HN91:=zx (vz (s:=w.heap.size) s1 (by have:=K0.out.size;simp at this ⊢;omega));clear s1;obtain⟨a1,c1,rfl,_,_⟩:=zu o1;have A1:=zx (SA.app (i:=1) (v2:=.slice a1 (k+1) c1) A0.out K0.out.size HXB.out g1);have K1:=zx (KSt.app (i:=1) (m:=1) K0.out (by decide) (by rw[(pW N k).1];exact o1) g1 k1 r1 (by simp));obtain⟨hx1,hf1⟩:=zy (j:=1) (u:=.slice none 0 0) (KSt.x2 K0.out (by decide) g1) rfl;have Q1:=zx ((zt (w:=W1) (nb:=wr.heap.size) (k:=w.heap.size) (o:=1) (u:=.slice a1 (k+1) c1) (by omega)).trans (zN g1 Q0.out HNM.out));have p1:=(zy (j:=0) (u:=.int .i64 (-1000-(N:Int))) Q1.out rfl).1;have q1:=(zy (j:=1) (u:=.int .i64 0) Q1.out rfl).1;have s1:=(zy (j:=2) (u:=.string ⟨#[]⟩) Q1.out rfl).1;clear o1 g1 k1 r1)
    | (at_builtin;refine zY _ rfl (.tmp 34) (.tmp 37) 57 rfl B0 66 i0 (.agg #[.int .i64 0, .int .i64 0, .string ByteArray.empty]) 3 32 Tryz.underlying57 hi0 hz0 hz1 hz2 rfl (by decide) _ _ _ rfl (K1.out.own.alloc _) ⟨_,0,none⟩ 2 2 [.int .i64 (-1000-(N:Int)), .int .i64 0, .string ⟨#[]⟩, .int .i64 (-1000-(N:Int)), .int .i64 0, .string ⟨#[]⟩] rfl rfl (zB _ _ (by simp) _ _ _ rfl) (by intro u hu;simp only[List.mem_cons,List.not_mem_nil,or_false]at hu;rcases hu with rfl|rfl|rfl|rfl|rfl|rfl <;> rfl) (by unfold maxLen;omega) (by omega) (by have:=K1.out.size;simp at this ⊢;omega) (by omega) ?_;intro v2 W2 o2 g2 k2 r2 s2;have HN92:=zx (vz (s:=w.heap.size) s2 (by have:=K1.out.size;simp at this ⊢;omega));clear s2;obtain⟨a2,c2,rfl,_,_⟩:=zu o2;have A2:=zx (SA.app (i:=2) (v2:=.slice a2 (k+2) c2) A1.out K1.out.size HXB.out g2);have K2:=zx (KSt.app (i:=2) (m:=2) K1.out (by decide) (by rw[(pW N k).2.1];exact o2) g2 k2 r2 (by simp));obtain⟨hx2,hf2⟩:=zy (j:=2) (u:=.slice none 0 0) (KSt.x2 K1.out (by decide) g2) rfl;have Q2:=zx ((zt (w:=W2) (nb:=wr.heap.size) (k:=w.heap.size) (o:=2) (u:=.slice a2 (k+2) c2) (by omega)).trans (zN g2 Q1.out HNM.out));have p2:=(zy (j:=0) (u:=.int .i64 (-1000-(N:Int))) Q2.out rfl).1;have q2:=(zy (j:=1) (u:=.int .i64 0) Q2.out rfl).1;have s2:=(zy (j:=2) (u:=.string ⟨#[]⟩) Q2.out rfl).1;clear o2 g2 k2 r2)
    | (at_builtin;refine zY _ rfl (.tmp 40) (.tmp 44) 57 rfl B0 66 i0 (.agg #[.int .i64 0, .int .i64 0, .string ByteArray.empty]) 3 32 Tryz.underlying57 hi0 hz0 hz1 hz2 rfl (by decide) _ _ _ rfl (K2.out.own.alloc _) ⟨_,0,none⟩ 3 3 [.int .i64 (-1000-(N:Int)), .int .i64 0, .string ⟨#[]⟩, .int .i64 (-1000-(N:Int)), .int .i64 0, .string ⟨#[]⟩, .int .i64 (-1000-(N:Int)), .int .i64 0, .string ⟨#[]⟩] rfl rfl (zB _ _ (by simp) _ _ _ rfl) (by intro u hu;simp only[List.mem_cons,List.not_mem_nil,or_false]at hu;rcases hu with rfl|rfl|rfl|rfl|rfl|rfl|rfl|rfl|rfl <;> rfl) (by unfold maxLen;omega) (by omega) (by have:=K2.out.size;simp at this ⊢;omega) (by omega) ?_;intro v3 W3 o3 g3 k3 r3 s3;have HN93:=zx (vz (s:=w.heap.size) s3 (by have:=K2.out.size;simp at this ⊢;omega));clear s3;obtain⟨a3,c3,rfl,_,_⟩:=zu o3;have A3:=zx (SA.app (i:=3) (v2:=.slice a3 (k+3) c3) A2.out K2.out.size HXB.out g3);have K3:=zx (KSt.app (i:=3) (m:=3) K2.out (by decide) (by rw[(pW N k).2.2];exact o3) g3 k3 r3 (by simp));obtain⟨hx3,hf3⟩:=zy (j:=3) (u:=.slice none 0 0) (KSt.x2 K2.out (by decide) g3) rfl;have Q3:=zx ((zt (w:=W3) (nb:=wr.heap.size) (k:=w.heap.size) (o:=3) (u:=.slice a3 (k+3) c3) (by omega)).trans (zN g3 Q2.out HNM.out));have p3:=(zy (j:=0) (u:=.int .i64 (-1000-(N:Int))) Q3.out rfl).1;have q3:=(zy (j:=1) (u:=.int .i64 0) Q3.out rfl).1;have s3:=(zy (j:=2) (u:=.string ⟨#[]⟩) Q3.out rfl).1;clear o3 g3 k3 r3))
   clear hx1 hf1 hx2 hf2 hx3 hf3 K0 K1 K2 HO2 p0 q0 s0 p1 q1 s1 p2 q2 s2 p3 q3 s3 Q0 Q1 Q2 Q3;have HXX:=zx K3.out.x;have hge:=K3.out.ge;have hWsz:=K3.out.size;obtain⟨e0,_⟩:=zy (j:=0) (u:=.slice a k c) K3.out.x rfl;obtain⟨e1,_⟩:=zy (j:=1) (u:=.slice a1 (k+1) c1) K3.out.x rfl;obtain⟨e2,_⟩:=zy (j:=2) (u:=.slice a2 (k+2) c2) K3.out.x rfl;obtain⟨e3,_⟩:=zy (j:=3) (u:=.slice a3 (k+3) c3) K3.out.x rfl;obtain⟨e4,_⟩:=zy (j:=4) (u:=.int .i64 (N:Int)) K3.out.x rfl;have HWB:=zx ((K3.out.same wb hwb).trans HC.out);obtain⟨ew,ef⟩:=zy (j:=12) (u:=.slice ta N tc) HWB.out HCT.out;have HRW:=zx (zn HROW.out (fun g hg=>K3.out.same g (HTV.out g hg)))
   have hnx:Hid (some wr.heap.size≠(Value.slice ta N tc).ownBlock):=fun q=>by have:=HTV.out _ q;omega
   have hnw:Hid (some wb≠(Value.slice ta N tc).ownBlock):=fun q=>by
    obtain⟨_,_,D,hD⟩:=zw HROW.out q;rw[HC.out]at hD
    injection hD with hD
    injection hD with _ hD _
    exact absurd hD (by decide)
   generalize W3.setCell ⟨wr.heap.size,3,none⟩ (.slice a3 (k+3) c3)=W at *;generalize wr.heap.size=xb at *;have ew2:(W.alloc (Obj.cells #[.slice a k c, .slice a1 (k+1) c1, .slice a2 (k+2) c2, .slice a3 (k+3) c3, .int .i64 (N:Int)] 169)).cell? ⟨wb,12,none⟩=some (.slice ta N tc):=((zi W _).cell (p:=⟨wb,12,none⟩) (World.block_lt_of_cell? _ _ ew)).trans ew
   go_region_law (refine zQ _ rfl _ _ 85 rfl B 169 j0 (.agg #[.slice none 0 0, .slice none 0 0, .slice none 0 0, .slice none 0 0, .int .i64 0]) 5 104 Tryz.underlying85 hj0 hy0 hy1 hy2 rfl (by decide) _ _ _ rfl (by exact HRW.out.alloc _) ⟨W.heap.size,0,none⟩ 1 1 [.slice a k c, .slice a1 (k+1) c1, .slice a2 (k+2) c2, .slice a3 (k+3) c3, .int .i64 (N:Int)] rfl rfl (by exact zM _ _ _ _ rfl) (by intro u hu;simp at hu;rcases hu with rfl|rfl|rfl|rfl|rfl <;> rfl) (by unfold maxLen;omega) (by omega) (by simp;omega) ?_;intro tv5 W5 o5 g5 n5;have HNB5:=zx (oU (B0:=w.heap.size) n5 (by simp;omega));clear n5;obtain⟨a5,c5,rfl,_,_⟩:=zu o5;have g6:(W.alloc (Obj.cells #[.slice a k c, .slice a1 (k+1) c1, .slice a2 (k+2) c2, .slice a3 (k+3) c3, .int .i64 (N:Int)] 169)).grownBy W5 (Value.slice ta N tc).ownBlock:=⟨g5.os,g5.tape,g5.output,g5.size,g5.block⟩;have AF:=zx (SA.fin (off:=12) (wb:=wb) (tv':=.slice a5 (N+1) c5) A3.out hWsz g6);have KF:=zx (sk (off:=12) K3.out (by decide) (by decide) (by decide) hwb HC.out HRW.out o5 g6 hB0);obtain⟨f0,_⟩:=zy (j:=0) (u:=.slice a k c) (zN g6 HXX.out hnx.out) rfl;obtain⟨f1,_⟩:=zy (j:=1) (u:=.slice a1 (k+1) c1) (zN g6 HXX.out hnx.out) rfl;obtain⟨f2,_⟩:=zy (j:=2) (u:=.slice a2 (k+2) c2) (zN g6 HXX.out hnx.out) rfl;obtain⟨f3,_⟩:=zy (j:=3) (u:=.slice a3 (k+3) c3) (zN g6 HXX.out hnx.out) rfl;obtain⟨f4,_⟩:=zy (j:=4) (u:=.int .i64 (N:Int)) (zN g6 HXX.out hnx.out) rfl;obtain⟨fw,ff⟩:=zy (j:=12) (u:=.slice ta N tc) (zN g6 HWB.out hnw.out) HCT.out;clear o5 g5 g6)
   all_goals (go_wp2;go_end0;exact⟨rfl,_,_,_,_,KF.out,(fun g hg=>by rcases hg with hg|hg|hg|hg;exact Or.inl hg;exact HN91.out g hg;exact HN92.out g hg;exact HN93.out g hg),HNB5.out,AF.out⟩)
def vE:List Int→List UInt8
 | []=>[]
 | c::l=>if xH c=0 then [] else UInt8.ofNat (xH c).toNat::vE l
theorem pU:∀(l:List Int) (cur y:List UInt8),y∈cut cur l↔y≠[]∧(y=cur++vE l∨∃p c q,l=p++c::q∧xH c=0∧y=vE q)
 | [],cur,y=>by
  rw[cut,vE,List.append_nil]
  have hno:¬∃p c q,([]:List Int)=p++c::q∧xH c=0∧y=vE q:=by
   rintro ⟨p,c,q,h,_⟩
   cases p <;> cases h
  cases cur with
  | nil=>simp only[List.isEmpty_nil,if_true,List.not_mem_nil,false_iff];rintro ⟨h1,h2|h2⟩;exact h1 h2;exact hno h2
  | cons a r=>
   simp only[List.isEmpty_cons,Bool.false_eq_true,if_false,List.mem_singleton];constructor
   ·intro h;subst h;exact⟨by simp,Or.inl rfl⟩
   ·rintro ⟨_,h|h⟩;exact h;exact absurd h hno
 | c::l,cur,y=>by
  rw[cut,vE];by_cases h:xH c=0
  ·rw[if_pos h,if_pos h,List.append_nil];have ih:=pU l [] y;rw[List.nil_append]at ih
   have e:(∃p d q,c::l=p++d::q∧xH d=0∧y=vE q)↔(y=vE l∨∃p d q,l=p++d::q∧xH d=0∧y=vE q):=by
    constructor
    ·rintro ⟨p,d,q,h1,h2,h3⟩
     cases p with
     | nil=>rw[List.nil_append]at h1;injection h1 with h1 h4;subst h4;exact Or.inl h3
     | cons a p=>rw[List.cons_append]at h1;injection h1 with h1 h4;exact Or.inr ⟨p,d,q,h4,h2,h3⟩
    ·rintro (h1|⟨p,d,q,h1,h2,h3⟩)
     ·exact⟨[],c,l,rfl,h,h1⟩
     ·exact⟨c::p,d,q,by rw[h1];rfl,h2,h3⟩
   rw[e]
   cases cur with
   | nil=>
    simp only[List.isEmpty_nil,if_true];rw[ih];constructor
    ·rintro ⟨h1,h2⟩;exact⟨h1,Or.inr h2⟩
    ·rintro ⟨h1,h2|h2⟩;exact absurd h2 h1;exact⟨h1,h2⟩
   | cons a r=>
    simp only[List.isEmpty_cons,Bool.false_eq_true,if_false,List.mem_cons];rw[ih];constructor
    ·rintro (h1|⟨h1,h2⟩);subst h1;exact⟨by simp,Or.inl rfl⟩;exact⟨h1,Or.inr h2⟩
    ·rintro ⟨h1,h2|h2⟩;exact Or.inl h2;exact Or.inr ⟨h1,h2⟩
  ·rw[if_neg h,if_neg h,pU l _ y,List.append_assoc]
   have e:(∃p d q,c::l=p++d::q∧xH d=0∧y=vE q)↔(∃p d q,l=p++d::q∧xH d=0∧y=vE q):=by
    constructor
    ·rintro ⟨p,d,q,h1,h2,h3⟩
     cases p with
     | nil=>rw[List.nil_append]at h1;injection h1 with h1 h4;subst h1;exact absurd h2 h
     | cons a p=>rw[List.cons_append]at h1;injection h1 with h1 h4;exact⟨p,d,q,h4,h2,h3⟩
    ·rintro ⟨p,d,q,h1,h2,h3⟩;exact⟨c::p,d,q,by rw[h1];rfl,h2,h3⟩
   rw[e];rfl
end Go.Proofs.YtkncboinfcnklaaGreatDoor
namespace Go.Proofs.YtkncboinfcnklaaGreatDoor
open Go.RowKit Go.Deep Go.Shelf Go.Proofs.YtkncboinfcnklaaGreatDoor.Mth
def vu (x:ByteArray) (e:Ent):Bool:=ym x (wd e.text)
theorem Inv.told {L:Lg}{all:List Ent}(h:Inv L all){z:Int}{x:ByteArray}{p:Nat}(ht:L.tls z=some (x,p)) (b:Nat):qz x p b (yv L.lev++[L.mem])=uf (vu x) all p b:=by
 have e1:(yv L.lev++[L.mem]).flatten=rX L:=by unfold rX;rw[List.flatten_append];simp
 unfold qz uf;rw[e1,h.filter (fq x p) (fun e he hq=>?_)]
 ·have:=h.ok.from (vu x) p;rw[←this];rfl
 ·by_cases hin:e∈rX L
  ·exact hin
  ·have:=(h.gone e he hin).2 z (x,p) ht;unfold fq at hq;simp only[Bool.and_eq_true,decide_eq_true_eq]at hq;omega
structure PI (f:Ent→Bool) (all:List Ent) (p b t:Nat):Prop where
 le:p≤t∧t≤all.length
 or:vC f all p t<b∨(p<t∧vC f all p (t-1)+1=b∧vC f all p t=b∧f (all.getD (t-1) e0)=true)
theorem PI.start {f:Ent→Bool}{all:List Ent}{p b:Nat}(hp:p≤all.length) (hb:1≤b):PI f all p b p:=⟨⟨Nat.le_refl _,hp⟩,Or.inl (by rw[jD];omega)⟩
theorem PI.next {f:Ent→Bool}{all:List Ent}{p b t:Nat}(h:PI f all p b t) (ht:t<all.length) (hk:vC f all p t<b):PI f all p b (t+1):=by
 have hn:=fX (f:=f) h.le.1 ht;refine⟨⟨by have:=h.le;omega,by omega⟩,?_⟩;by_cases hf:f (all.getD t e0)=true
 ·rw[if_pos hf]at hn;by_cases hb:vC f all p t+1<b
  ·exact Or.inl (by omega)
  ·exact Or.inr ⟨by have:=h.le;omega,by rw[Nat.add_sub_cancel];omega,by omega,by rw[Nat.add_sub_cancel];exact hf⟩
 ·rw[if_neg hf]at hn;exact Or.inl (by omega)
theorem PI.done {f:Ent→Bool}{all:List Ent}{c p b t:Nat}(ho:AllOk all c) (h:PI f all p b t) (he:t=all.length∨vC f all p t=b):plc (uf f all p b) b all.length=t∧(uf f all p b).length=vC f all p t:=by
 rcases h.or with h1|⟨h1,h2,h3,h4⟩
 ·have ht:t=all.length:=by rcases he with q|q;exact q;omega
  have hl:=py (f:=f) (all:=all) (p:=p) (b:=b);rw[←ht]at hl;rw[Nat.min_eq_right (by omega)]at hl;refine⟨?_,hl⟩;unfold plc;rw[if_neg (by omega)];exact ht.symm
 ·have hl:=fV (f:=f) (all:=all) (b:=b) h.le.1 h3;refine⟨?_,by omega⟩;have hat:=aY (b:=b) (f:=f) (all:=all) (p:=p) (t:=t-1) (by omega) (by have:=h.le;omega) h4 (by omega);unfold plc;rw[if_pos hl,show b-1=vC f all p (t-1) by omega,hat.2,ho.num (t-1) (by have:=h.le;omega)];omega
theorem Inv.toldSeq {L:Lg}{all:List Ent}(h:Inv L all){f:Ent→Bool}{p b:Nat}:∀e∈uf f all p b,0≤e.seq∧e.seq<(all.length:Int):=fun e he=>by
 obtain⟨j,hj,e1,_⟩:=h.ok.mem (dI he).1;omega
def gq (L:Lg) (x:ByteArray) (lo hi:Int) (e:Ent):Bool:=ym x (wd e.text)&&(decide (jR L lo≤e.time)&&decide (e.time≤hi))
theorem jw (x:ByteArray) (lo hi:Int):∀ps:List (List Ent),uB x lo hi ps=ps.flatten.filter (fun e=>ym x (wd e.text)&&(decide (lo≤e.time)&&decide (e.time≤hi)))
 | []=>rfl
 | es::ps=>by
  have:=jw x lo hi ps;unfold uB at this ⊢;rw[List.flatMap_cons,this,List.flatten_cons,List.filter_append];rfl
theorem Inv.query {L:Lg}{all:List Ent}(h:Inv L all) (x:ByteArray) (lo hi:Int):uB x (jR L lo) hi (yv L.lev)++kK L.mem x (jR L lo) hi=uf (gq L x lo hi) all 0 (all.length+1):=by
 rw[jw]
 have e1:(yv L.lev).flatten.filter (fun e=>ym x (wd e.text)&&(decide (jR L lo≤e.time)&&decide (e.time≤hi)))++kK L.mem x (jR L lo) hi=(rX L).filter (gq L x lo hi):=by
  unfold rX;rw[List.filter_append];rfl
 rw[e1,h.filter (gq L x lo hi) (fun e he hq=>?_)]
 ·unfold uf;rw[List.drop_zero,List.take_of_length_le];exact Nat.le_succ_of_le (List.length_filter_le _ _)
 ·by_cases hin:e∈rX L
  ·exact hin
  ·have:=(h.gone e he hin).1;unfold gq jR at hq;simp only[Bool.and_eq_true,decide_eq_true_eq]at hq;omega
theorem dK (x:ByteArray) (h:cut [] (tb x)=[x.data.toList]):wd x=[x]:=by
 refine(bG (List.pairwise_singleton _ _) (fun y=>?_)).symm;rw[h];simp only[List.map_cons,List.map_nil,List.mem_singleton,l9]
end Go.Proofs.YtkncboinfcnklaaGreatDoor
namespace Go.Proofs.YtkncboinfcnklaaGreatDoor.Kp
open Go.RowKit Go.Deep Go.Shelf Go.Proofs.YtkncboinfcnklaaGreatDoor.Mth
theorem StepR.same {L L':Lg}{q:Nat}{r:Int}(hs:StepR L q r L'):L'.memory=L.memory∧L'.fan=L.fan∧L'.back=L.back∧L'.keep=L.keep∧L'.batch=L.batch∧L'.clock=L.clock∧L'.wks.length=L.wks.length∧L'.tls=L.tls∧L'.subs=L.subs∧L'.tn=L.tn:=by
 unfold StepR at hs
 cases hr:(L.wks.getD q zo).runs with
 | none=>
  rw[hr]at hs;simp only at hs;split at hs
  ·obtain⟨_,rfl⟩:=hs;exact⟨rfl,rfl,rfl,rfl,rfl,rfl,by simp[ye],rfl,rfl,rfl⟩
  ·split at hs
   ·obtain⟨_,rfl⟩:=hs;exact⟨rfl,rfl,rfl,rfl,rfl,rfl,rfl,rfl,rfl,rfl⟩
   ·obtain⟨_,rfl⟩:=hs;exact⟨rfl,rfl,rfl,rfl,rfl,rfl,by simp[ye],rfl,rfl,rfl⟩
 | some i=>
  rw[hr]at hs;simp only at hs;split at hs
  ·obtain⟨_,rfl⟩:=hs;exact⟨rfl,rfl,rfl,rfl,rfl,rfl,by simp,rfl,rfl,rfl⟩
  ·obtain⟨_,m,_,rfl⟩:=hs;obtain⟨m1,m2,m3,m4,m5,m6,m7,m8,m9,m10,m11⟩:=sl { L with wks:=L.wks.set q ⟨(L.wks.getD q zo).list,none,0⟩ } i m;exact⟨m3,m2,m4,m5,m6,m7,(by unfold Lg.ends;simp only[yh,List.length_set]),m9,m11,m10⟩
theorem Tryz.info75:(Tryz.prog.info? 75).map (fun i=>(i.zero,i.size,i.bytes))=some (some (.slice none 0 0),1,24):=by kernel_rfl
def ud (es:List Ent):List Value:=[.int .i64 (es.getD 0 e0).seq, .int .i64 (es.getD (es.length-1) e0).seq, .int .i64 (es.length:Int)]
def oi (vs:Nat→Value):Array Value:=#[vs 0,vs 1,vs 2,vs 3,vs 4,vs 5]
theorem p8 (vs:Nat→Value){i:Nat}(hi:i<6):(oi vs)[i]? = some (vs i):=by
 rcases(show i=0∨i=1∨i=2∨i=3∨i=4∨i=5 by omega)with rfl|rfl|rfl|rfl|rfl|rfl <;> rfl
theorem bS (vs:Nat→Value) (v:Value){i:Nat}(hi:i<6):(oi vs).setIfInBounds i v=oi (fun k=>if k=i then v else vs k):=by
 rcases(show i=0∨i=1∨i=2∨i=3∨i=4∨i=5 by omega)with rfl|rfl|rfl|rfl|rfl|rfl <;> rfl
structure LvI (w wr:World) (rb i:Nat) (L:Lg) (vs:Nat→Value):Prop where
 bel:Below w.heap.size w wr
 ge:w.heap.size≤rb
 blk:wr.heap[rb]? = some (Obj.cells (oi vs) 75 (0,0))
 row:∀k,k<i→wr.ownsRow w.heap.size 142 3 (vs k) (L.lev k).length ((L.lev k).flatMap ud)
 nil:∀k,i≤k→vs k=.slice none 0 0
structure LvJ (ws wr:World) (rb i j:Nat) (es:List (List Ent)) (vs:Nat→Value) (v:Value):Prop where
 tch:Tch (fun k=>k=rb) ws wr
 blk:wr.heap[rb]? = some (Obj.cells (oi (fun k=>if k=i then v else vs k)) 75 (0,0))
 row:wr.ownsRow ws.heap.size 142 3 v j ((es.take j).flatMap ud)
theorem LvI.next {w ws wr:World}{rb i:Nat}{L:Lg}{vs:Nat→Value}{v:Value}(h:LvI w ws rb i L vs) (hj:LvJ ws wr rb i (L.lev i).length (L.lev i) vs v):LvI w wr rb (i+1) L (fun k=>if k=i then v else vs k):=by
 refine⟨⟨hj.tch.os.trans h.bel.os,hj.tch.tape.trans h.bel.tape,hj.tch.output.trans h.bel.output,Nat.le_trans h.bel.size hj.tch.size,fun k hk=>(hj.tch.block k (Nat.lt_of_lt_of_le hk h.bel.size) (by have:=h.ge;omega)).trans (h.bel.block k hk)⟩,h.ge,hj.blk,fun k hk=>?_,fun k hk=>?_⟩
 ·by_cases e:k=i
  ·subst e;simp only[if_pos];have:=hj.row;rw[List.take_length]at this;exact yH this h.bel.size
  ·simp only[if_neg e];have hr:=h.row k (by omega)
   exact zn hr (fun g hg=>hj.tch.block g (zw hr hg).2.1 (fun q=>by
    subst q;obtain⟨_,_,D,hD⟩:=zw hr hg
    exact absurd (zc h.blk hD) (by decide)))
 ·simp only[if_neg (show ¬k=i by omega)];exact h.nil k (by omega)
theorem LvJ.more {ws wr w5 W5:World}{rb i j:Nat}{es:List (List Ent)}{vs:Nat→Value}{v v5:Value}{o:Obj}(h:LvJ ws wr rb i j es vs v) (hi:i<6) (hj:j<es.length) (hrb:rb<ws.heap.size) (hb:Below wr.heap.size wr w5)
  (o5:W5.ownsRow ws.heap.size 142 3 v5 (j+1) ((es.take j).flatMap ud++ud (es.getD j []))) (g5:(w5.alloc o).grownBy W5 v.ownBlock) :
  W5.heap[rb]? = some (Obj.cells (oi (fun k=>if k=i then v else vs k)) 75 (0,0))∧LvJ ws (W5.setCell ⟨rb,i,none⟩ v5) rb i (j+1) es vs v5:=by
 have hsz:=h.tch.size;have hsz2:=hb.size
 have hvb:∀g,some g=v.ownBlock→ws.heap.size≤g:=fun g hg=>(zw h.row hg).1
 have hold:∀k,k<wr.heap.size→some k≠v.ownBlock→W5.heap[k]? = wr.heap[k]? := fun k hk hne=>by
  rw[g5.block k (by simp;omega) hne,Mth.uC w5 o (r:=k) (by omega),hb.block k hk]
 have hrbv:some rb≠v.ownBlock:=fun q=>by have:=hvb rb q;omega
 have hblk5:=(hold rb (by omega) hrbv).trans h.blk
 have hsz5:w5.heap.size+1≤W5.heap.size:=by have:=g5.size;simpa using this
 refine⟨hblk5,⟨⟨?_,?_,?_,?_,fun k hk hne=>?_⟩,?_,?_⟩⟩
 ·exact g5.os.trans (hb.os.trans h.tch.os)
 ·exact g5.tape.trans (hb.tape.trans h.tch.tape)
 ·exact g5.output.trans (hb.output.trans h.tch.output)
 ·simp;omega
 ·rw[zt hne,hold k (by omega) (fun q=>by have:=hvb k q;omega)];exact h.tch.block k hk hne
 ·have:=ze (j:=i) (v:=v5) hblk5;rw[bS _ _ hi]at this;rw[this];congr 2;unfold oi;simp only;congr 1
  have e:∀k,(if k=i then v5 else if k=i then v else vs k)=if k=i then v5 else vs k:=fun k=>by split <;> rfl
  simp only[e]
 ·have e:(es.take (j+1)).flatMap ud=(es.take j).flatMap ud++ud (es.getD j []):=by
   rw[List.take_add_one,List.flatMap_append,List.getElem?_eq_getElem hj];simp[List.getD,List.getElem?_eq_getElem hj]
  rw[e];exact zl o5 hblk5 (by decide)
theorem ix6 (w:World) (lr:Nat→Value){i:Nat}(hi:i<6):(Instr.index 130 (.agg #[lr 0,lr 1,lr 2,lr 3,lr 4,lr 5]) (.int .i64 (i:Int))).run Tryz.prog w=.ok (lr i) w:=by
 have h:=Tryz.underlying130
 rcases(show i=0∨i=1∨i=2∨i=3∨i=4∨i=5 by omega)with rfl|rfl|rfl|rfl|rfl|rfl <;> simp[Instr.index,run_underlying h,asIntOf,go_sem]
theorem mk6 (w:World):(Instr.makeSlice 73 (.int .i64 6) (.int .i64 6)).run Tryz.prog w=.ok (.slice (some ⟨w.heap.size,0,none⟩) 6 6) (w.alloc (.cells (oi fun _=>.slice none 0 0) 75)):=by
 obtain⟨j0,hj0,hy0,hy1,hy2⟩:=info_parts Tryz.info75;have:=run_makeSlice (P:=Tryz.prog) w 73 75 j0 (.slice none 0 0) Tryz.underlying73 hj0 hy0 .i64 .i64 6 6 (by omega) (by omega) (by rw[hy1];decide) (by rw[hy2];decide) (by omega);rw[hy1,show(Value.slice none 0 0).cells=#[Value.slice none 0 0] from rfl,eB]at this;exact this
end Go.Proofs.YtkncboinfcnklaaGreatDoor.Kp
namespace Go.Proofs.YtkncboinfcnklaaGreatDoor
open Go.RowKit Go.Deep Go.Proofs.YtkncboinfcnklaaGreatDoor.Mth
theorem Tryz.info175:(Tryz.prog.info? 175).map (fun i=>(i.zero,i.size,i.bytes))=some (some (.agg #[.slice none 0 0, .slice none 0 0, .slice none 0 0, .slice none 0 0, .int .i64 0]),5,104):=by kernel_rfl
theorem Tryz.infoShs:(Tryz.prog.info? 75).map (fun i=>(i.zero,i.size,i.bytes))=some (some (.slice none 0 0),1,24):=by kernel_rfl
def fR (mb n:Nat) (_:Nat):Value:=.slice (some ⟨mb,0,none⟩) (n+1) (n+1)
theorem rE (w:World) (B0 wb B:Nat) (tv:Value) (N:Nat) (xs:List Value) (C:Array Value) (hwb:wb<B0) (hB0:B0≤w.heap.size) (hC:w.heap[wb]? = some (Obj.cells C 91 (0,0))) (hCs:C.size=15) (hct:C[14]? = some tv)
  (hrow:w.ownsRow B 175 5 tv N xs) (htv:∀g,some g=tv.ownBlock→g<B0) (hBB:B≤B0) (hN:N≤4194304) :
  Calls Tryz.prog 136 #[.pointer (some ⟨wb,9,none⟩), .slice none 0 0] w fun e w'=>e=.returned (.tuple #[])∧∃tv' va vb vc,Kept w w' B0 wb 14 B 175 75 1 (fR w.heap.size N) tv tv' N xs C ⟨.slice none 0 0,va,vb,vc⟩ 0∧KN w.heap.size (.slice none 0 0) va vb vc∧NB w.heap.size tv tv':=by
 obtain⟨i0,hi0,hz0,hz1,hz2⟩:=info_parts Tryz.infoShs;obtain⟨j0,hj0,hy0,hy1,hy2⟩:=info_parts Tryz.info175;obtain⟨m0,hm0,hn0,hn1,hn2⟩:=info_parts Tryz.info142;have HC:=zx hC;have HROW:=zx hrow;have HTV:=zx htv;have c14:=(zy hC hct).1;obtain⟨ta,tc,rfl,hNc,hNm⟩:=zu hrow;unfold maxLen at hNm;have HCT:=zx hct;have HCS:=zx hCs;have hmk:=run_makeSlice (P:=Tryz.prog) w 75 142 m0 _ Tryz.underlying75 hm0 hn0 .i64 .i64 ((N:Int)+1) ((N:Int)+1) (by omega) (by omega) (by rw[hn1];omega) (by rw[hn2];omega) (by omega)
 have htn:((N:Int)+1).toNat=N+1:=by omega
 rw[htn]at hmk;generalize madeCells (Value.agg #[.int .i64 0, .int .i64 0, .int .i64 0]).cells ((N+1)*m0.size)=mk at *;obtain⟨w1,hw1⟩:∃w1,w1=w.alloc (.cells mk 142):=⟨_,rfl⟩;rw[←hw1]at hmk
 have hb1:Below w.heap.size w w1:=by rw[hw1];exact(Below.refl w.heap.size w).alloc (Nat.le_refl _) _
 have HB1:=zx hb1
 have hsz:w.heap.size<w1.heap.size:=by rw[hw1];simp
 clear hC hrow htv hct hw1 hb1 htn hm0 hn0 hn1 hn2
 go_enter Tryz.func136,Tryz.ntmps136
 go_wp2_with fail
 go_loopw [4] (fun i wr=>i=.int .i64 0∧wr=w) (fun _ _=>0)
 case atStart=>exact⟨rfl,rfl⟩
 case round=>
  obtain⟨rfl,hwr⟩:=hrel;rw[hwr];clear hwr;go_wp2_with fail
  go_loopw [7] (fun i wr=>i=.int .i64 0∧wr=w1) (fun _ _=>0)
  case atStart=>exact⟨rfl,rfl⟩
  case round=>
   obtain⟨rfl,hwr2⟩:=hrel;rw[hwr2];clear hwr2
   have K0:Hid (KSt w (w1.alloc (Obj.cells #[.slice none 0 0, .slice none 0 0, .slice none 0 0, .slice none 0 0, .int .i64 (N:Int)] 175)) B0 w1.heap.size 175 75 1 (.slice none 0 0) 0 (fR w.heap.size N) #[.slice none 0 0, .slice none 0 0, .slice none 0 0, .slice none 0 0, .int .i64 (N:Int)] []):=by
    refine⟨World.ownsRow_nil _ _ _ _,?_,by omega,fun g hg=>?_,HB1.out.os,HB1.out.tape,HB1.out.output,by simp;omega,fun p hp=>by cases hp⟩
    ·show(w1.heap.push _)[w1.heap.size]? = _;rw[Array.getElem?_push,if_pos rfl]
    ·rw[Mth.uC w1 _ (r:=g) (by omega)];exact HB1.out.block g (by omega)
   go_wp2_with (first
    | (at_builtin;refine zY _ rfl (.tmp 42) (.tmp 44) 73 rfl B0 75 i0 (.slice none 0 0) 1 24 Tryz.underlying73 hi0 hz0 hz1 hz2 rfl (by decide) _ _ _ rfl (K0.out.own.alloc _) ⟨_,0,none⟩ 1 1 [.slice (some ⟨w.heap.size,0,none⟩) (N+1) (N+1)] rfl rfl (zB _ _ (by simp) _ _ _ rfl) (by intro u hu;simp at hu;subst hu;rfl) (by unfold maxLen;omega) (by omega) (by have:=K0.out.size;simp at this ⊢;omega) (by omega) ?_;intro v1 W1 o1 g1 k1 r1 s1;have HN91:=zx (vz (s:=w.heap.size) s1 (by have:=K0.out.size;simp at this ⊢;omega));clear s1;obtain⟨a1,c1,rfl,_,_⟩:=zu o1;have K1:=zx (KSt.app (i:=1) (m:=1) K0.out (by decide) (by exact o1) g1 k1 r1 (by simp));obtain⟨hx1,hf1⟩:=zy (j:=1) (u:=.slice none 0 0) (KSt.x2 K0.out (by decide) g1) rfl;clear o1 g1 k1 r1)
    | (at_builtin;refine zY _ rfl (.tmp 47) (.tmp 50) 73 rfl B0 75 i0 (.slice none 0 0) 1 24 Tryz.underlying73 hi0 hz0 hz1 hz2 rfl (by decide) _ _ _ rfl (K1.out.own.alloc _) ⟨_,0,none⟩ 2 2 [.slice (some ⟨w.heap.size,0,none⟩) (N+1) (N+1), .slice (some ⟨w.heap.size,0,none⟩) (N+1) (N+1)] rfl rfl (zB _ _ (by simp) _ _ _ rfl) (by intro u hu;simp at hu;subst hu;rfl) (by unfold maxLen;omega) (by omega) (by have:=K1.out.size;simp at this ⊢;omega) (by omega) ?_;intro v2 W2 o2 g2 k2 r2 s2;have HN92:=zx (vz (s:=w.heap.size) s2 (by have:=K1.out.size;simp at this ⊢;omega));clear s2;obtain⟨a2,c2,rfl,_,_⟩:=zu o2;have K2:=zx (KSt.app (i:=2) (m:=2) K1.out (by decide) (by exact o2) g2 k2 r2 (by simp));obtain⟨hx2,hf2⟩:=zy (j:=2) (u:=.slice none 0 0) (KSt.x2 K1.out (by decide) g2) rfl;clear o2 g2 k2 r2)
    | (at_builtin;refine zY _ rfl (.tmp 53) (.tmp 57) 73 rfl B0 75 i0 (.slice none 0 0) 1 24 Tryz.underlying73 hi0 hz0 hz1 hz2 rfl (by decide) _ _ _ rfl (K2.out.own.alloc _) ⟨_,0,none⟩ 3 3 [.slice (some ⟨w.heap.size,0,none⟩) (N+1) (N+1), .slice (some ⟨w.heap.size,0,none⟩) (N+1) (N+1), .slice (some ⟨w.heap.size,0,none⟩) (N+1) (N+1)] rfl rfl (zB _ _ (by simp) _ _ _ rfl) (by intro u hu;simp at hu;subst hu;rfl) (by unfold maxLen;omega) (by omega) (by have:=K2.out.size;simp at this ⊢;omega) (by omega) ?_;intro v3 W3 o3 g3 k3 r3 s3;have HN93:=zx (vz (s:=w.heap.size) s3 (by have:=K2.out.size;simp at this ⊢;omega));clear s3;obtain⟨a3,c3,rfl,_,_⟩:=zu o3;have K3:=zx (KSt.app (i:=3) (m:=3) K2.out (by decide) (by exact o3) g3 k3 r3 (by simp));obtain⟨hx3,hf3⟩:=zy (j:=3) (u:=.slice none 0 0) (KSt.x2 K2.out (by decide) g3) rfl;clear o3 g3 k3 r3))
   clear hx1 hf1 hx2 hf2 hx3 hf3 K0 K1 K2;have HXX:=zx K3.out.x;have hge:=K3.out.ge;have hWsz:=K3.out.size;obtain⟨e0,_⟩:=zy (j:=0) (u:=.slice none 0 0) K3.out.x rfl;obtain⟨e1,_⟩:=zy (j:=1) (u:=.slice a1 1 c1) K3.out.x rfl;obtain⟨e2,_⟩:=zy (j:=2) (u:=.slice a2 2 c2) K3.out.x rfl;obtain⟨e3,_⟩:=zy (j:=3) (u:=.slice a3 3 c3) K3.out.x rfl;obtain⟨e4,_⟩:=zy (j:=4) (u:=.int .i64 (N:Int)) K3.out.x rfl;have HWB:=zx ((K3.out.same wb hwb).trans HC.out);obtain⟨ew,ef⟩:=zy (j:=14) (u:=.slice ta N tc) HWB.out HCT.out;have HRW:=zx (zn HROW.out (fun g hg=>K3.out.same g (HTV.out g hg)))
   have hnx:Hid (some w1.heap.size≠(Value.slice ta N tc).ownBlock):=fun q=>by have:=HTV.out _ q;omega
   have hnw:Hid (some wb≠(Value.slice ta N tc).ownBlock):=fun q=>by
    obtain⟨_,_,D,hD⟩:=zw HROW.out q;rw[HC.out]at hD
    injection hD with hD
    injection hD with _ hD _
    exact absurd hD (by decide)
   generalize W3.setCell ⟨w1.heap.size,3,none⟩ (.slice a3 3 c3)=W at *;generalize w1.heap.size=xb at *;have ew2:(W.alloc (Obj.cells #[.slice none 0 0, .slice a1 1 c1, .slice a2 2 c2, .slice a3 3 c3, .int .i64 (N:Int)] 175)).cell? ⟨wb,14,none⟩=some (.slice ta N tc):=((zi W _).cell (p:=⟨wb,14,none⟩) (World.block_lt_of_cell? _ _ ew)).trans ew
   go_region_law (refine zQ _ rfl _ _ 87 rfl B 175 j0 (.agg #[.slice none 0 0, .slice none 0 0, .slice none 0 0, .slice none 0 0, .int .i64 0]) 5 104 Tryz.underlying87 hj0 hy0 hy1 hy2 rfl (by decide) _ _ _ rfl (by exact HRW.out.alloc _) ⟨W.heap.size,0,none⟩ 1 1 [.slice none 0 0, .slice a1 1 c1, .slice a2 2 c2, .slice a3 3 c3, .int .i64 (N:Int)] rfl rfl (by exact zM _ _ _ _ rfl) (by intro u hu;simp at hu;rcases hu with rfl|rfl|rfl|rfl|rfl <;> rfl) (by unfold maxLen;omega) (by omega) (by simp;omega) ?_;intro tv5 W5 o5 g5 n5;have HNB5:=zx (oU (B0:=w.heap.size) n5 (by simp;omega));clear n5;obtain⟨a5,c5,rfl,_,_⟩:=zu o5;have g6:(W.alloc (Obj.cells #[.slice none 0 0, .slice a1 1 c1, .slice a2 2 c2, .slice a3 3 c3, .int .i64 (N:Int)] 175)).grownBy W5 (Value.slice ta N tc).ownBlock:=⟨g5.os,g5.tape,g5.output,g5.size,g5.block⟩;have KF:=zx (sk (off:=14) K3.out (by decide) (by decide) (by decide) hwb HC.out HRW.out o5 g6 hB0);obtain⟨f0,_⟩:=zy (j:=0) (u:=.slice none 0 0) (zN g6 HXX.out hnx.out) rfl;obtain⟨f1,_⟩:=zy (j:=1) (u:=.slice a1 1 c1) (zN g6 HXX.out hnx.out) rfl;obtain⟨f2,_⟩:=zy (j:=2) (u:=.slice a2 2 c2) (zN g6 HXX.out hnx.out) rfl;obtain⟨f3,_⟩:=zy (j:=3) (u:=.slice a3 3 c3) (zN g6 HXX.out hnx.out) rfl;obtain⟨f4,_⟩:=zy (j:=4) (u:=.int .i64 (N:Int)) (zN g6 HXX.out hnx.out) rfl;obtain⟨fw,ff⟩:=zy (j:=14) (u:=.slice ta N tc) (zN g6 HWB.out hnw.out) HCT.out;clear o5 g5 g6)
   all_goals (go_wp2;go_end0;exact⟨rfl,_,_,_,_,KF.out,(fun g hg=>by rcases hg with hg|hg|hg|hg;exact Or.inl hg;exact HN91.out g hg;exact HN92.out g hg;exact HN93.out g hg),HNB5.out⟩)
end Go.Proofs.YtkncboinfcnklaaGreatDoor
