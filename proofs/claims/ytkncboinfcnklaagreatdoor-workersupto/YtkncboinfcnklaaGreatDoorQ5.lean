import Derived.Test.YtkncboinfcnklaaGreatDoorQ4
import Derived.Maps.AppendAt
import Derived.Deep.RegionHeld3
import Derived.Deep.RegionLaw
import Derived.Laws.ResultCell
import Derived.Laws.Rows
namespace Go.Proofs.YtkncboinfcnklaaGreatDoor
open Go.RowKit Go.Deep Go.Proofs.YtkncboinfcnklaaGreatDoor.Mth
section
variable {P:Program} (w:World)
theorem run_append_keep (base:Nat) (t ty e:TypeId) (i:TypeInfo) (z:Value) (size bytes:Nat) (ht:P.underlying t=some (.slice e)) (hi:P.info? e=some i) (hz:i.zero=some z)
  (hsize:i.size=size) (hby:i.bytes=bytes) (hzs:z.cells.size=size) (hsz:0 < size)
  (v:Value) (n:Nat) (xs:List Value) (hown:w.ownsRow base e size v n xs)
  (a:Addr) (m c:Nat) (news:List Value) (hl:news.length=m * size) (hnews:∀ j u,news[j]? = some u→w.cell? (a.add j)=some u) (h1:∀ u ∈ news,u.oneCell'=true)
  (h63:n + m≤maxLen) (hbytes:(n + m) * bytes≤140737488355328) (hbase:base≤w.heap.size) (_hm0:0 < m) :
  ∃ v' w',(Builtin.append_ #[t,t] ty #[v, .slice (some a) m c]).run P w=.ok v' w'∧w'.ownsRow base e size v' (n + m) (xs ++ news)∧w.grownBy w' v.ownBlock ∧
   w'.ownsRow base e size v n xs∧(v'.ownBlock=v.ownBlock∨w.grownBy w' none):=by
 obtain ⟨v',w',hr,h2,h3,h4,h5⟩:=run_append_own_at (P:=P) w base t ty e i z size bytes ht hi hz hsize hby hzs hsz v n xs hown a m c news hl hnews h1 h63 hbytes hbase
 refine ⟨v',w',hr,h2,h3,?_⟩
 subst hsize
 subst hby
 have hsmall:n + m≤9223372036854775807:=by simp only [maxLen] at h63;omega
 rcases hown.2 with ⟨rfl,rfl⟩ | ⟨g,cap,cur,rfl,hbg,hg,hnc,hcm,hcs,htake⟩
 ·have hx:xs=[]:=List.eq_nil_of_length_eq_zero (by simpa using hown.1)
  subst hx
  exact ⟨World.ownsRow_nil _ _ _ _,Or.inr h3⟩
 ·by_cases hroom:n + m≤cap
  ·have hfit:n * i.size + news.length≤cur.size:=by rw [hl,hcs,← Nat.add_mul];exact Nat.mul_le_mul_right _ hroom
   have hr':=run_append_room (P:=P) w t ty e i ht hi g n cap cur hg a m c news hl hnews h1 hroom hfit
   rw [hr] at hr'
   injection hr' with e1 e2
   subst e1 e2
   refine ⟨⟨hown.1, .inr ⟨g,cap,_,rfl,hbg,setRow_heap w g cur _ e _ hg,hnc,hcm,?_,?_⟩⟩,Or.inl rfl⟩
   ·simp only [List.size_toArray,List.length_append,List.length_take,List.length_drop,Array.length_toList]
    omega
   ·rw [htake,List.append_assoc,List.take_append_of_le_length (by rw [hown.1];exact Nat.le_refl _),List.take_of_length_le (by rw [hown.1];exact Nat.le_refl _)]
  ·have holds:∀ j u,xs[j]? = some u→w.cell? ((⟨g,0,none⟩:Addr).add j)=some u:=hown.cells (g:=g) rfl
   have hr':=run_append_grow (P:=P) w t ty e i z ht hi hz ⟨g,0,none⟩ n cap xs hown.1 holds a m c news hl hnews (by omega) (by omega) (growslice_fits (by omega) hbytes)
   rw [hr] at hr'
   injection hr' with e1 e2
   subst e1 e2
   have hg2:w.grownBy (w.drew.alloc (.cells (xs.toArray ++ news.toArray ++ Builtin.zeroCells z.cells (grownCap w (n + m) cap e - (n + m))) e)) none:=⟨rfl,rfl,rfl,by simp,fun k hk _=>_root_.Go.heap_alloc_old w.drew _ hk⟩
   exact ⟨hown.kept hg2 (Or.inr (by simp [Value.ownBlock])),Or.inr hg2⟩
end
def mks (f:Nat→Value) (n:Nat):List Value:=(List.range n).map f
theorem mks_len (f:Nat→Value) (n:Nat):(mks f n).length=n:=by simp [mks]
theorem mks_app (f:Nat→Value) (n m:Nat):mks f (n + m)=mks f n ++ (List.range m).map (fun j=>f (n + j)):=by
 unfold mks
 rw [List.range_add,List.map_append,List.map_map]
 rfl
theorem rdM_app {w w2:World} {B:Nat} {e:TypeId} {sz:Nat} {u v v2:Value} {k N:Nat} {f:Nat→Value} (h:RdM w e sz u k f) (hk:k≤N) (ho:w2.ownsRow B e sz v2 N (mks f (N * sz))) (hg:w.grownBy w2 v.ownBlock) (hor:v2.ownBlock=v.ownBlock∨w.grownBy w2 none):RdM w2 e sz u k f:=by
 obtain ⟨a,c,rfl,h1,h2,h⟩:=h
 refine ⟨a,c,rfl,h1,h2,h.imp id ?_⟩
 rintro ⟨g,C,rfl,hgb,hc⟩
 have hlt:g < w.heap.size:=(Array.getElem?_eq_some_iff.1 hgb).1
 by_cases hs:w2.heap[g]? = w.heap[g]?
 ·exact ⟨g,C,rfl,hs.trans hgb,fun j hj=>by rw [World.cell?_of_block (w:=w) (a:=⟨g,j,none⟩) hs];exact hc j hj⟩
 ·have hv:some g=v.ownBlock:=by
   apply Classical.byContradiction
   intro q
   exact hs (hg.block g hlt q)
  have hv2:v2.ownBlock=some g:=by
   rcases hor with q | q
   ·rw [q,hv]
   ·exact absurd (q.block g hlt (by simp)) hs
  have hcells:=fun g' hg'=>ho.cells (g:=g') hg'
  rcases ho.2 with ⟨rfl,_⟩ | ⟨g2,cap2,cur2,rfl,_,hg2,_⟩
  ·simp [Value.ownBlock] at hv2
  ·simp [Value.ownBlock] at hv2
   subst hv2
   refine ⟨g2,cur2,rfl,hg2,fun j hj=>?_⟩
   have hjN:j < N * sz:=Nat.lt_of_lt_of_le hj (Nat.mul_le_mul_right _ hk)
   have:=hcells g2 rfl j (f j) (by simp [mks,hjN])
   rwa [show (⟨g2,0,none⟩:Addr).add j=⟨g2,j,none⟩ from by unfold Addr.add;split <;> simp_all] at this
theorem mks_own {w:World} {B:Nat} {e:TypeId} {sz:Nat} {v:Value} {n:Nat} {f:Nat→Value} (h:w.ownsRow B e sz v n (mks f (n * sz))):RdM w e sz v n f:=rdM_own h
theorem rdM_set {w:World} {e e':TypeId} {sz:Nat} {u:Value} {k:Nat} {f:Nat→Value} {xb o:Nat} {C:Array Value} {fr:Nat × Nat} {y:Value} (h:RdM w e sz u k f) (hx:w.heap[xb]? = some (Obj.cells C e' fr)) (hne:e'≠e):RdM (w.setCell ⟨xb,o,none⟩ y) e sz u k f:=by
 refine h.keep fun g D hg=>?_
 refine set_other (fun q=>?_)
 subst q
 rw [hx] at hg
 injection hg with hg
 injection hg with _ hg _
 exact hne hg
theorem own_set_other {w:World} {B:Nat} {e e':TypeId} {sz:Nat} {v:Value} {n:Nat} {xs:List Value} {xb o:Nat} {C:Array Value} {fr:Nat × Nat} {y:Value} (h:w.ownsRow B e sz v n xs) (hx:w.heap[xb]? = some (Obj.cells C e' fr)) (hne:e'≠e):(w.setCell ⟨xb,o,none⟩ y).ownsRow B e sz v n xs:=by
 refine ⟨h.1,h.2.imp id ?_⟩
 rintro ⟨g,cap,cur,hv,h1,hg,h2⟩
 refine ⟨g,cap,cur,hv,h1,?_,h2⟩
 rw [set_other (fun q=>?_)]
 ·exact hg
 ·subst q
  rw [hx] at hg
  injection hg with hg
  injection hg with _ hg _
  exact hne hg
theorem own_store {w:World} {B:Nat} {e:TypeId} {sz:Nat} {g n cap:Nat} {xs:List Value} {i:Nat} {y:Value} (h:w.ownsRow B e sz (.slice (some ⟨g,0,none⟩) n cap) n xs) (_hi:i < n * sz):(w.setCell ⟨g,i,none⟩ y).ownsRow B e sz (.slice (some ⟨g,0,none⟩) n cap) n (xs.set i y):=by
 rcases h.2 with ⟨q,_⟩ | ⟨g',cap',cur,hv,h1,hg,h2,h3,h4,h5⟩
 ·cases q
 ·cases hv
  refine ⟨by rw [List.length_set];exact h.1, .inr ⟨g,cap,cur.setIfInBounds i y,rfl,h1,?_,h2,h3,by rw [Array.size_setIfInBounds];exact h4,?_⟩⟩
  ·simp [World.setCell,Array.getElem?_modify,hg]
  ·rw [Array.toList_setIfInBounds,List.take_set,h5]
theorem own_at {w:World} {B:Nat} {e:TypeId} {sz:Nat} {g n cap:Nat} {xs:List Value} {i:Nat} (h:w.ownsRow B e sz (.slice (some ⟨g,0,none⟩) n cap) n xs) (hi:i < n * sz):(∃ y,w.cell? ⟨g,i,none⟩=some y)∧w.frozen? ⟨g,i,none⟩=false:=by
 have hc:=h.cells (g:=g) rfl i (xs[i]'(by rw [h.1];exact hi)) (by simp)
 rw [show (⟨g,0,none⟩:Addr).add i=⟨g,i,none⟩ from by unfold Addr.add;split <;> simp_all] at hc
 refine ⟨⟨_,hc⟩,?_⟩
 rcases h.2 with ⟨q,_⟩ | ⟨g',cap',cur,hv,h1,hg,_⟩
 ·cases q
 ·cases hv
  simp [World.frozen?,hg]
theorem own_ge {w:World} {B:Nat} {e:TypeId} {sz:Nat} {g n cap:Nat} {xs:List Value} (h:w.ownsRow B e sz (.slice (some ⟨g,0,none⟩) n cap) n xs):B≤g∧g < w.heap.size∧n≤cap∧cap≤maxLen∧∃ C,w.heap[g]? = some (Obj.cells C e (0,0)):=by
 rcases h.2 with ⟨q,_⟩ | ⟨g',cap',cur,hv,h1,hg,h2,h3,_⟩
 ·cases q
 ·cases hv
  exact ⟨h1,(Array.getElem?_eq_some_iff.1 hg).1,h2,h3,cur,hg⟩
end Go.Proofs.YtkncboinfcnklaaGreatDoor

namespace Go.Proofs.YtkncboinfcnklaaGreatDoor
open Go.RowKit Go.Deep Go.Proofs.YtkncboinfcnklaaGreatDoor.Mth
structure Qd where
 l:Value
 a:Value
 b:Value
 c:Value
def qc (q:Nat→Qd) (i:Nat):List Value:=[(q i).l,(q i).a,(q i).b,(q i).c, .int .i64 (i:Int)]
structure KSt (w W:World) (B0 xb:Nat) (T e:TypeId) (sz:Nat) (v:Value) (n:Nat) (f:Nat→Value) (X:Array Value) (us:List (Value × Nat)):Prop where
 own:W.ownsRow B0 e sz v n (mks f (n * sz))
 x:W.heap[xb]? = some (Obj.cells X T (0,0))
 ge:B0≤xb
 same:∀ g:Nat,g < B0→W.heap[g]? = w.heap[g]?
 os:W.os=w.os
 tape:W.tape=w.tape
 output:W.output=w.output
 size:w.heap.size≤W.heap.size
 rd:∀ p ∈ us,RdM W e sz p.1 p.2 f
theorem own_block {w:World} {B:Nat} {e:TypeId} {sz:Nat} {v:Value} {n:Nat} {xs:List Value} (h:w.ownsRow B e sz v n xs) {g:Nat} (hg:some g=v.ownBlock):B≤g∧g < w.heap.size∧∃ C,w.heap[g]? = some (Obj.cells C e (0,0)):=by
 rcases h.2 with ⟨rfl,_⟩ | ⟨g',cap,cur,rfl,h1,h2,_⟩
 ·simp [Value.ownBlock] at hg
 ·simp [Value.ownBlock] at hg
  subst hg
  exact ⟨h1,(Array.getElem?_eq_some_iff.1 h2).1,cur,h2⟩
theorem own_slice {w:World} {B:Nat} {e:TypeId} {sz:Nat} {v:Value} {n:Nat} {xs:List Value} (h:w.ownsRow B e sz v n xs):∃ a c,v=.slice a n c∧n≤c∧c≤maxLen:=by
 rcases h.2 with ⟨rfl,rfl⟩ | ⟨g,cap,cur,rfl,_,_,h1,h2,_⟩
 ·exact ⟨none,0,rfl,Nat.le_refl _,by unfold maxLen;omega⟩
 ·exact ⟨_,cap,rfl,h1,h2⟩
theorem KSt.app {w W W2:World} {B0 xb:Nat} {T e:TypeId} {sz:Nat} {v v2:Value} {n m:Nat} {f:Nat→Value} {X:Array Value} {us:List (Value × Nat)} {o:Obj} {i:Nat} (h:KSt w W B0 xb T e sz v n f X us) (hT:T≠e)
  (h1:W2.ownsRow B0 e sz v2 (n + m) (mks f (n * sz) ++ (List.range (m * sz)).map (fun j=>f (n * sz + j)))) (h2:(W.alloc o).grownBy W2 v.ownBlock) (h3:W2.ownsRow B0 e sz v n (mks f (n * sz))) (h4:v2.ownBlock=v.ownBlock∨(W.alloc o).grownBy W2 none) (hus:∀ p ∈ us,p.2≤n + m) :
  KSt w (W2.setCell ⟨xb,i,none⟩ v2) B0 xb T e sz v n f (X.setIfInBounds i v2) ((v2,n + m) :: us):=by
 have hxs:=(Array.getElem?_eq_some_iff.1 h.x).1
 have hne:∀ g C,W.heap[g]? = some (Obj.cells C T (0,0))→some g≠v.ownBlock:=by
  intro g C hC q
  obtain ⟨_,_,D,hD⟩:=own_block h.own q
  rw [hC] at hD
  injection hD with hD
  injection hD with _ hD _
  exact hT hD
 have hx2:W2.heap[xb]? = some (Obj.cells X T (0,0)):=by
  rw [h2.block xb (by simp;omega) (hne xb X h.x),_root_.Go.heap_alloc_old W o hxs]
  exact h.x
 have ho:W2.ownsRow B0 e sz v2 (n + m) (mks f ((n + m) * sz)):=by
  rw [Nat.add_mul,mks_app];exact h1
 refine ⟨own_set_other h3 hx2 hT,?_,h.ge,?_,?_,?_,?_,?_,?_⟩
 ·simp [World.setCell,Array.getElem?_modify,hx2]
 ·intro g hg
  have hge:=h.ge
  rw [set_other (by omega),h2.block g (by simp;omega) (fun q=>by have:=(own_block h.own q).1;omega),_root_.Go.heap_alloc_old W o (r:=g) (by omega)]
  exact h.same g hg
 ·exact h2.os.trans h.os
 ·exact h2.tape.trans h.tape
 ·exact h2.output.trans h.output
 ·have q1:=h2.size
  have q2:=h.size
  simp at q1 ⊢
  omega
 ·intro p hp
  rcases List.mem_cons.1 hp with q | q
  ·subst q
   exact rdM_set (mks_own ho) hx2 hT
  ·exact rdM_set (rdM_app ((h.rd p q).below (below_alloc W o)) (hus p q) ho h2 h4) hx2 hT
theorem KSt.x2 {w W W2:World} {B0 xb:Nat} {T e:TypeId} {sz:Nat} {v:Value} {n:Nat} {f:Nat→Value} {X:Array Value} {us:List (Value × Nat)} {o:Obj} (h:KSt w W B0 xb T e sz v n f X us) (hT:T≠e) (h2:(W.alloc o).grownBy W2 v.ownBlock):W2.heap[xb]? = some (Obj.cells X T (0,0)):=by
 have hxs:=(Array.getElem?_eq_some_iff.1 h.x).1
 rw [h2.block xb (by simp;omega) (fun q=>?_),_root_.Go.heap_alloc_old W o hxs]
 ·exact h.x
 ·obtain ⟨_,_,D,hD⟩:=own_block h.own q
  rw [h.x] at hD
  injection hD with hD
  injection hD with _ hD _
  exact hT hD
structure Kept (w w':World) (B0 wb off B:Nat) (T e:TypeId) (sz:Nat) (f:Nat→Value) (tv tv':Value) (N:Nat) (xs:List Value) (C:Array Value) (Q:Qd) (n:Nat):Prop where
 row:w'.ownsRow B T 5 tv' (N + 1) (xs ++ [Q.l,Q.a,Q.b,Q.c, .int .i64 (N:Int)])
 wblk:w'.heap[wb]? = some (Obj.cells (C.setIfInBounds off tv') 91 (0,0))
 same:∀ g:Nat,g < B0→g≠wb→some g≠tv.ownBlock→w'.heap[g]? = w.heap[g]?
 os:w'.os=w.os
 tape:w'.tape=w.tape
 output:w'.output=w.output
 size:w.heap.size≤w'.heap.size
 rl:RdM w' e sz Q.l n f
 ra:RdM w' e sz Q.a (n + 1) f
 rb:RdM w' e sz Q.b (n + 2) f
 rc:RdM w' e sz Q.c (n + 3) f
theorem RdM.own_app {w w':World} {e T:TypeId} {sz:Nat} {u:Value} {k:Nat} {f:Nat→Value} {B N:Nat} {tv:Value} {xs:List Value} {o:Obj} (h:RdM w e sz u k f) (ho:w.ownsRow B T 5 tv N xs) (hg:(w.alloc o).grownBy w' tv.ownBlock) (hT:T≠e):RdM w' e sz u k f:=by
 refine h.keep fun g C hC=>?_
 have hlt:=(Array.getElem?_eq_some_iff.1 hC).1
 rw [hg.block g (by simp;omega) (fun q=>?_),_root_.Go.heap_alloc_old w o hlt]
 obtain ⟨_,_,D,hD⟩:=own_block ho q
 rw [hC] at hD
 injection hD with hD
 injection hD with _ hD _
 exact hT hD.symm
theorem kept_of {w W W2:World} {B0 xb wb off B:Nat} {T e:TypeId} {sz:Nat} {v tv tv':Value} {n N:Nat} {f:Nat→Value} {X C:Array Value} {xs:List Value} {va vb vc:Value} {o:Obj}
  (h:KSt w W B0 xb T e sz v n f X [(vc,n + 3),(vb,n + 2),(va,n + 1)]) (hT:T≠e) (hTW:T≠91) (heW:91≠e) (hwb:wb < B0) (hC:w.heap[wb]? = some (Obj.cells C 91 (0,0)))
  (hrow:W.ownsRow B T 5 tv N xs) (h1:W2.ownsRow B T 5 tv' (N + 1) (xs ++ [v,va,vb,vc, .int .i64 (N:Int)])) (h2:(W.alloc o).grownBy W2 tv.ownBlock) (hB0:B0≤w.heap.size) :
  Kept w (W2.setCell ⟨wb,off,none⟩ tv') B0 wb off B T e sz f tv tv' N xs C ⟨v,va,vb,vc⟩ n:=by
 have hs:=h.size
 have hW:W.heap[wb]? = some (Obj.cells C 91 (0,0)):=(h.same wb hwb).trans hC
 have hne:some wb≠tv.ownBlock:=by
  intro q
  obtain ⟨_,_,D,hD⟩:=own_block hrow q
  rw [hW] at hD
  injection hD with hD
  injection hD with _ hD _
  exact hTW hD.symm
 have hW2:W2.heap[wb]? = some (Obj.cells C 91 (0,0)):=by
  rw [h2.block wb (by simp;omega) hne,_root_.Go.heap_alloc_old W o (r:=wb) (by omega)]
  exact hW
 have fin:∀ {u:Value} {k:Nat},RdM W e sz u k f→RdM (W2.setCell ⟨wb,off,none⟩ tv') e sz u k f:=fun hu=>rdM_set (hu.own_app hrow h2 hT) hW2 heW
 refine ⟨own_set_other h1 hW2 (Ne.symm hTW),?_,?_,?_,?_,?_,?_,fin (mks_own h.own),fin (h.rd (va,n + 1) (by simp)),fin (h.rd (vb,n + 2) (by simp)),fin (h.rd (vc,n + 3) (by simp))⟩
 ·simp [World.setCell,Array.getElem?_modify,hW2]
 ·intro g hg hgw hgt
  rw [set_other hgw,h2.block g (by simp;omega) hgt,_root_.Go.heap_alloc_old W o (r:=g) (by omega)]
  exact h.same g hg
 ·exact h2.os.trans h.os
 ·exact h2.tape.trans h.tape
 ·exact h2.output.trans h.output
 ·have q1:=h2.size
  simp at q1 ⊢
  omega
theorem own_same {w w':World} {B:Nat} {e:TypeId} {sz:Nat} {v:Value} {n:Nat} {xs:List Value} (h:w.ownsRow B e sz v n xs) (hs:∀ g,some g=v.ownBlock→w'.heap[g]? = w.heap[g]?):w'.ownsRow B e sz v n xs:=by
 refine ⟨h.1,h.2.imp id ?_⟩
 rintro ⟨g,cap,cur,rfl,h1,hg,h2⟩
 exact ⟨g,cap,cur,rfl,h1,(hs g rfl).trans hg,h2⟩
theorem beside {W W2:World} {tv:Value} {o:Obj} {g:Nat} {D:Obj} (h2:(W.alloc o).grownBy W2 tv.ownBlock) (hg:W.heap[g]? = some D) (hne:some g≠tv.ownBlock):W2.heap[g]? = some D:=by
 have hlt:=(Array.getElem?_eq_some_iff.1 hg).1
 rw [h2.block g (by simp;omega) hne,_root_.Go.heap_alloc_old W o hlt]
 exact hg
theorem cells_new (w:World) (cs:Array Value) (t:TypeId) (xs:List Value) (h:cs.toList=xs):∀ j u,xs[j]? = some u→(w.alloc (.cells cs t)).cell? ((⟨w.heap.size,0,none⟩:Addr).add j)=some u:=by
 intro j u hj
 have hb:(w.alloc (.cells cs t)).heap[w.heap.size]? = some (.cells cs t (0,0)):=by
  show (w.heap.push _)[w.heap.size]? = _
  rw [Array.getElem?_push,if_pos rfl]
 rw [show (⟨w.heap.size,0,none⟩:Addr).add j=⟨w.heap.size,j,none⟩ from by unfold Addr.add;split <;> simp_all]
 simp only [World.cell?,hb]
 subst h
 simpa using hj
theorem cells_new2 (w:World) (b:Nat) (hb0:b=w.heap.size) (cs:Array Value) (t:TypeId) (xs:List Value) (h:cs.toList=xs):∀ j u,xs[j]? = some u→(w.alloc (.cells cs t)).cell? ((⟨b,0,none⟩:Addr).add j)=some u:=by
 subst hb0
 exact cells_new w cs t xs h
theorem cell_of {w:World} {b:Nat} {C:Array Value} {t:TypeId} {j:Nat} {u:Value} (h:w.heap[b]? = some (Obj.cells C t (0,0))) (hu:C[j]? = some u):w.cell? ⟨b,j,none⟩=some u∧w.frozen? ⟨b,j,none⟩=false:=by
 constructor
 ·simp only [World.cell?,h];exact hu
 ·simp [World.frozen?,h]
end Go.Proofs.YtkncboinfcnklaaGreatDoor

namespace Go.Proofs.YtkncboinfcnklaaGreatDoor
open Go.RowKit Go.Deep Go.Proofs.YtkncboinfcnklaaGreatDoor.Mth
structure Fl where
 name:ByteArray
 data:ByteArray
 safe:Nat
def fl0:Fl:=⟨⟨#[]⟩,⟨#[]⟩,0⟩
def fC (f:Fl):List Value:=[.string f.name, .string f.data, .int .i64 (f.safe:Int)]
theorem fC_at:∀ {l:List Fl} {j:Nat},j < l.length→(l.flatMap fC)[j * 3]? = some (.string (l.getD j fl0).name)∧(l.flatMap fC)[j * 3 + 1]? = some (.string (l.getD j fl0).data)∧(l.flatMap fC)[j * 3 + 2]? = some (.int .i64 ((l.getD j fl0).safe:Int))
 | f :: l,0,_=>by simp [fC]
 | f :: l,j + 1,h=>by
  obtain ⟨a,b,c⟩:=fC_at (l:=l) (j:=j) (by simpa using h)
  rw [List.flatMap_cons]
  refine ⟨?_,?_,?_⟩
  ·rw [List.getElem?_append_right (by simp [fC];omega)];simpa [fC,show (j + 1) * 3 - 3=j * 3 by omega] using a
  ·rw [List.getElem?_append_right (by simp [fC];omega)];simpa [fC,show (j + 1) * 3 + 1 - 3=j * 3 + 1 by omega] using b
  ·rw [List.getElem?_append_right (by simp [fC];omega)];simpa [fC,show (j + 1) * 3 + 2 - 3=j * 3 + 2 by omega] using c
structure Tch (S:Nat→Prop) (w w':World):Prop where
 os:w'.os=w.os
 tape:w'.tape=w.tape
 output:w'.output=w.output
 size:w.heap.size≤w'.heap.size
 block:∀ k,k < w.heap.size→¬ S k→w'.heap[k]? = w.heap[k]?
theorem Tch.refl (S:Nat→Prop) (w:World):Tch S w w:=⟨rfl,rfl,rfl,Nat.le_refl _,fun _ _ _=>rfl⟩
theorem tch_below {S:Nat→Prop} {w w':World} (h:Below w.heap.size w w'):Tch S w w':=⟨h.os,h.tape,h.output,h.size,fun k hk _=>h.block k hk⟩
theorem Tch.trans {S S':Nat→Prop} {w w1 w2:World} (h:Tch S w w1) (h2:Tch S' w1 w2) (hs:∀ k,k < w.heap.size→S' k→S k):Tch S w w2:=
 ⟨h2.os.trans h.os,h2.tape.trans h.tape,h2.output.trans h.output,Nat.le_trans h.size h2.size,fun k hk hn=>(h2.block k (Nat.lt_of_lt_of_le hk h.size) (fun q=>hn (hs k hk q))).trans (h.block k hk hn)⟩
theorem Tch.mono {S S':Nat→Prop} {w w1:World} (h:Tch S w w1) (hs:∀ k,k < w.heap.size→S k→S' k):Tch S' w w1:=⟨h.os,h.tape,h.output,h.size,fun k hk hn=>h.block k hk (fun q=>hn (hs k hk q))⟩
structure St (T e:TypeId) (w:World) (B b:Nat) (fs:List Fl) (left:Int) (fv:Value):Prop where
 blk:w.heap[b]? = some (Obj.cells #[fv, .int .i64 left] T (0,0))
 own:w.ownsRow B e 3 fv fs.length (fs.flatMap fC)
 ge:B≤b
def ownD (b:Nat) (fv:Value) (k:Nat):Prop:=k=b∨some k=fv.ownBlock
structure Stp (T e:TypeId) (B b:Nat) (w w':World) (fv:Value) (fs':List Fl) (left':Int) (fv':Value):Prop where
 st:St T e w' B b fs' left' fv'
 tch:Tch (ownD b fv) w w'
 new:∀ g,some g=fv'.ownBlock→some g=fv.ownBlock∨w.heap.size≤g
theorem St.lt {T e:TypeId} {w:World} {B b:Nat} {fs:List Fl} {left:Int} {fv:Value} (h:St T e w B b fs left fv):b < w.heap.size:=(Array.getElem?_eq_some_iff.1 h.blk).1
theorem St.same {T e:TypeId} {w w':World} {B b:Nat} {fs:List Fl} {left:Int} {fv:Value} (h:St T e w B b fs left fv) (hs:∀ g,ownD b fv g→w'.heap[g]? = w.heap[g]?):St T e w' B b fs left fv:=
 ⟨(hs b (Or.inl rfl)).trans h.blk,own_same h.own (fun g hg=>hs g (Or.inr hg)),h.ge⟩
theorem St.ownLt {T e:TypeId} {w:World} {B b:Nat} {fs:List Fl} {left:Int} {fv:Value} (h:St T e w B b fs left fv) {g:Nat} (hg:ownD b fv g):g < w.heap.size:=by
 rcases hg with rfl | hg
 ·exact h.lt
 ·exact (own_block h.own hg).2.1
theorem St.below {T e:TypeId} {w w':World} {B b:Nat} {fs:List Fl} {left:Int} {fv:Value} (h:St T e w B b fs left fv) (hb:Below w.heap.size w w'):St T e w' B b fs left fv:=
 h.same fun g hg=>hb.block g (h.ownLt hg)
theorem St.ne {T e:TypeId} {w:World} {B b:Nat} {fs:List Fl} {left:Int} {fv:Value} (h:St T e w B b fs left fv) (hT:T≠e):some b≠fv.ownBlock:=by
 intro q
 obtain ⟨_,_,D,hD⟩:=own_block h.own q
 rw [h.blk] at hD
 injection hD with hD
 injection hD with _ hD _
 exact hT hD
theorem Stp.refl {T e:TypeId} {w:World} {B b:Nat} {fs:List Fl} {left:Int} {fv:Value} (h:St T e w B b fs left fv):Stp T e B b w w fv fs left fv:=⟨h,Tch.refl _ _,fun _ q=>Or.inl q⟩
theorem Stp.trans {T e:TypeId} {B b:Nat} {w w1 w2:World} {fv fv1 fv2:Value} {fs1 fs2:List Fl} {l1 l2:Int} (h1:Stp T e B b w w1 fv fs1 l1 fv1) (h2:Stp T e B b w1 w2 fv1 fs2 l2 fv2):Stp T e B b w w2 fv fs2 l2 fv2:=by
 refine ⟨h2.st,h1.tch.trans h2.tch (fun k hk q=>?_),fun g hg=>?_⟩
 ·rcases q with q | q
  ·exact Or.inl q
  ·rcases h1.new k q with q | q
   ·exact Or.inr q
   ·omega
 ·rcases h2.new g hg with q | q
  ·exact h1.new g q
  ·exact Or.inr (Nat.le_trans h1.tch.size q)
theorem Stp.below {T e:TypeId} {B b:Nat} {w w1 w2:World} {fv fv1:Value} {fs1:List Fl} {l1:Int} (h1:Stp T e B b w w1 fv fs1 l1 fv1) (hb:Below w1.heap.size w1 w2):Stp T e B b w w2 fv fs1 l1 fv1:=
 ⟨h1.st.below hb,h1.tch.trans (tch_below (S:=ownD b fv) hb) (fun _ _ q=>q),h1.new⟩
theorem St.setLeft {T e:TypeId} {w:World} {B b:Nat} {fs:List Fl} {left l':Int} {fv:Value} (h:St T e w B b fs left fv) (hT:T≠e):Stp T e B b w (w.setCell ⟨b,1,none⟩ (.int .i64 l')) fv fs l' fv:=by
 refine ⟨⟨?_,own_set_other h.own h.blk hT,h.ge⟩,⟨rfl,rfl,rfl,by simp,fun k _ hn=>set_other (fun q=>hn (Or.inl q))⟩,fun _ q=>Or.inl q⟩
 simp [World.setCell,Array.getElem?_modify,h.blk]
theorem St.setFiles {T e:TypeId} {w w1:World} {B b:Nat} {fs fs':List Fl} {left:Int} {fv fv':Value} (h:St T e w B b fs left fv) (hT:T≠e) (ho:w1.ownsRow B e 3 fv' fs'.length (fs'.flatMap fC)) (ht:Tch (fun k=>some k=fv.ownBlock) w w1) (hn:∀ g,some g=fv'.ownBlock→some g=fv.ownBlock∨w.heap.size≤g):Stp T e B b w (w1.setCell ⟨b,0,none⟩ fv') fv fs' left fv':=by
 have hb1:w1.heap[b]? = some (Obj.cells #[fv, .int .i64 left] T (0,0)):=(ht.block b h.lt (h.ne hT)).trans h.blk
 refine ⟨⟨?_,own_set_other ho hb1 hT,h.ge⟩,⟨ht.os,ht.tape,ht.output,by have:=ht.size;simpa using this,fun k hk hn=>?_⟩,hn⟩
 ·simp [World.setCell,Array.getElem?_modify,hb1]
 ·rw [set_other (fun q=>hn (Or.inl q))]
  exact ht.block k hk (fun q=>hn (Or.inr q))
def decL (l:Int):Int:=if 0 < l then l - 1 else l
set_option maxHeartbeats 1000000 in
theorem apiStep_any {w:World} {B b:Nat} {fs:List Fl} {left:Int} {fv:Value} (h:St 100 109 w B b fs left fv) (h1:-1≤left) (h2:left < 9223372036854775808) :
  Calls Tryz.prog 76 #[.pointer (some ⟨b,0,none⟩)] w fun e w'=>e=.returned (.bool (decide (left≠0)))∧Stp 100 109 B b w w' fv fs (decL left) fv:=by
 obtain ⟨c1,f1⟩:=cell_of (j:=1) (u:=.int .i64 left) h.blk rfl
 have HS:=hide h
 clear h
 by_cases q:left=0
 ·subst q
  go_enter Tryz.func76,Tryz.ntmps76
  go_wp2
  go_ret
  exact ⟨rfl,Stp.refl HS.out⟩
 ·by_cases q2:0 < left
  ·have d1:decide (left≠0)=true:=by simpa using q
   have d2:decL left=left - 1:=if_pos q2
   rw [d1,d2]
   have q4:(left == 0)=false:=by simpa using q
   clear d1 d2
   go_enter Tryz.func76,Tryz.ntmps76
   go_wp2
   go_ret
   exact ⟨rfl,HS.out.setLeft (by decide)⟩
  ·have d1:decide (left≠0)=true:=by simpa using q
   have d2:decL left=left:=if_neg q2
   rw [d1,d2]
   have q4:(left == 0)=false:=by simpa using q
   clear d1 d2
   go_enter Tryz.func76,Tryz.ntmps76
   go_wp2
   go_ret
   exact ⟨rfl,Stp.refl HS.out⟩
end Go.Proofs.YtkncboinfcnklaaGreatDoor

namespace Go.Proofs.YtkncboinfcnklaaGreatDoor
open Go.RowKit Go.Deep Go.Proofs.YtkncboinfcnklaaGreatDoor.Mth
def At (fs:List Fl) (x:ByteArray) (r:Int):Prop:=(r=-1∧∀ j,j < fs.length→(fs.getD j fl0).name≠x)∨∃ i:Nat,i < fs.length∧r=i∧(fs.getD i fl0).name=x∧∀ j,j < i→(fs.getD j fl0).name≠x
theorem own_some {w:World} {B:Nat} {e:TypeId} {sz:Nat} {a:Option Addr} {n c:Nat} {xs:List Value} (h:w.ownsRow B e sz (.slice a n c) n xs) (h0:0 < n):∃ g,a=some ⟨g,0,none⟩:=by
 rcases h.2 with ⟨_,q2⟩ | ⟨g,cap,cur,q,_⟩
 ·omega
 ·injection q with q;exact ⟨g,q⟩
theorem own_fl {w:World} {B:Nat} {e:TypeId} {g n c:Nat} {fs:List Fl} (h:w.ownsRow B e 3 (.slice (some ⟨g,0,none⟩) n c) n (fs.flatMap fC)) {k:Nat} (hn:fs.length=n) (hk:k < n):w.cell? ⟨g,k * 3,none⟩=some (.string (fs.getD k fl0).name)∧w.cell? ⟨g,k * 3 + 1,none⟩=some (.string (fs.getD k fl0).data)∧w.cell? ⟨g,k * 3 + 2,none⟩=some (.int .i64 ((fs.getD k fl0).safe:Int)):=by
 obtain ⟨h0,h1,h2⟩:=fC_at (l:=fs) (j:=k) (by omega)
 have hc:=h.cells (g:=g) rfl
 have e:∀ i,(⟨g,0,none⟩:Addr).add i=⟨g,i,none⟩:=fun i=>by unfold Addr.add;split <;> simp_all
 refine ⟨?_,?_,?_⟩
 ·have:=hc _ _ h0;rwa [e] at this
 ·have:=hc _ _ h1;rwa [e] at this
 ·have:=hc _ _ h2;rwa [e] at this
set_option maxRecDepth 100000 in
set_option maxHeartbeats 1000000 in
theorem find_any {w:World} {B b:Nat} {fs:List Fl} {left:Int} {fv:Value} (h:St 100 109 w B b fs left fv) (x:ByteArray) :
  Calls Tryz.prog 77 #[.pointer (some ⟨b,0,none⟩), .string x] w fun e w'=>∃ r:Int,e=.returned (.int .i64 r)∧At fs x r∧w'=w:=by
 obtain ⟨a,c,rfl,hc,hm⟩:=own_slice h.own
 unfold maxLen at hm
 obtain ⟨c0,f0⟩:=cell_of (j:=0) (u:=.slice a fs.length c) h.blk rfl
 have HS:=hide h
 clear h
 generalize hn:fs.length=n at *
 have HN:=hide hn
 clear hn
 go_enter Tryz.func77,Tryz.ntmps77
 go_wp2_with fail
 go_loop [11] (fun i=>∃ k:Nat,k≤n∧i=.int .i64 k∧∀ j,j < k→(fs.getD j fl0).name≠x) (fun i=>n - (intOf i).toNat)
 case atStart=>exact ⟨0,Nat.zero_le _,rfl,fun j hj=>absurd hj (Nat.not_lt_zero _)⟩
 case round=>
  obtain ⟨k,hk,rfl,hno⟩:=hrel
  have HNO:=hide hno
  clear hno
  by_cases hlt:k < n
  ·have ho:=HS.out.own
   rw [HN.out] at ho
   obtain ⟨g,rfl⟩:=own_some ho (by omega)
   obtain ⟨d0,_,_⟩:=own_fl ho HN.out hlt
   clear ho
   by_cases hx:(fs.getD k fl0).name=x
   ·have HX:=hide hx
    rw [hx] at d0
    clear hx
    go_wp2
    go_ret
    exact ⟨k,rfl,Or.inr ⟨k,by rw [HN.out];exact hlt,rfl,HX.out,HNO.out⟩,rfl⟩
   ·have HX:=hide hx
    generalize hy:(fs.getD k fl0).name=y at d0 hx
    have q:=eqS_false hx
    clear hx hy
    go_wp2
    go_round
    case rel=>exact ⟨k + 1,by omega,by go_num,fun j hj=>by
     by_cases c:j=k
     ·subst c;exact HX.out
     ·exact HNO.out j (by omega)⟩
    case measure=>simp [intOf];omega
  ·go_wp2
   go_ret
   exact ⟨-1,rfl,Or.inl ⟨rfl,fun j hj=>HNO.out j (by rw [HN.out] at hj;omega)⟩,rfl⟩
def Ptr (T:TypeId) (w:World) (d b:Nat):Prop:=w.heap[d]? = some (Obj.cells #[.pointer (some ⟨b,0,none⟩)] T (0,0))
set_option maxHeartbeats 1000000 in
theorem stopped_any {w:World} {B b d:Nat} {fs:List Fl} {left:Int} {fv:Value} (h:St 100 109 w B b fs left fv) (hp:Ptr 102 w d b) :
  Calls Tryz.prog 41 #[.pointer (some ⟨d,0,none⟩)] w fun e w'=>e=.returned (.bool (left == 0))∧w'=w:=by
 obtain ⟨c1,f1⟩:=cell_of (j:=1) (u:=.int .i64 left) h.blk rfl
 obtain ⟨c0,f0⟩:=cell_of (j:=0) (u:=.pointer (some ⟨b,0,none⟩)) hp rfl
 go_enter Tryz.func41,Tryz.ntmps41
 go_wp2
 go_ret
 exact ⟨rfl,rfl⟩
set_option maxHeartbeats 1000000 in
theorem read_any {w:World} {B b d:Nat} {fs:List Fl} {left:Int} {fv:Value} (h:St 100 109 w B b fs left fv) (hp:Ptr 102 w d b) (x:ByteArray) :
  Calls Tryz.prog 39 #[.pointer (some ⟨d,0,none⟩), .string x] w fun e w'=>∃ r:Int,At fs x r∧e=.returned (.string (if r < 0 then ⟨#[]⟩ else (fs.getD r.toNat fl0).data))∧w'=w:=by
 obtain ⟨c0,f0⟩:=cell_of (j:=0) (u:=.pointer (some ⟨b,0,none⟩)) hp rfl
 have CF:=hide (find_any h x)
 obtain ⟨a,c,rfl,hc,hm⟩:=own_slice h.own
 unfold maxLen at hm
 obtain ⟨c2,f2⟩:=cell_of (j:=0) (u:=.slice a fs.length c) h.blk rfl
 have HS:=hide h
 clear h hp
 go_enter Tryz.func39,Tryz.ntmps39
 go_wp2_with fail
 refine CF.out.mono ?_
 rintro e w1 ⟨r,rfl,hr,rfl⟩
 have HR:=hide hr
 clear CF
 rcases hr with ⟨rfl,_⟩ | ⟨i,hi,rfl,_,_⟩
 ·go_wp2
  go_ret
  exact ⟨-1,HR.out,rfl,rfl⟩
 ·obtain ⟨g,rfl⟩:=own_some HS.out.own (by omega)
  obtain ⟨_,d1,_⟩:=own_fl HS.out.own rfl hi
  generalize hn:fs.length=n at *
  have HN:=hide hn
  generalize hd:(fs.getD i fl0).data=y at d1
  have HD:=hide hd
  clear hn hd
  go_wp2
  go_ret
  exact ⟨i,HR.out,by rw [if_neg (by omega),Int.toNat_natCast,HD.out];rfl,rfl⟩
end Go.Proofs.YtkncboinfcnklaaGreatDoor

namespace Go.Proofs.YtkncboinfcnklaaGreatDoor
open Go.RowKit Go.Deep Go.Proofs.YtkncboinfcnklaaGreatDoor.Mth
theorem Tryz.info109:(Tryz.prog.info? 109).map (fun i=>(i.zero,i.size,i.bytes))=some (some (.agg #[.string ⟨#[]⟩, .string ⟨#[]⟩, .int .i64 0]),3,40):=by kernel_rfl
def wo (x:ByteArray) (fs:List Fl):List Fl:=fs.filter (fun f=>!decide (f.name=x))
theorem wo_snoc_no {x:ByteArray} {l:List Fl} {f:Fl} (h:f.name≠x):wo x (l ++ [f])=wo x l ++ [f]:=by simp [wo,h]
theorem wo_snoc_yes {x:ByteArray} {l:List Fl} {f:Fl} (h:f.name=x):wo x (l ++ [f])=wo x l:=by simp [wo,h]
theorem wo_len (x:ByteArray) (l:List Fl):(wo x l).length≤l.length:=List.length_filter_le _ _
theorem take_snoc {α:Type} {l:List α} {k:Nat} (h:k < l.length) (z:α):l.take (k + 1)=l.take k ++ [l.getD k z]:=by
 rw [List.take_add_one,List.getElem?_eq_getElem h]
 simp [List.getD,h]
def CurF (e:TypeId) (w0 w:World) (v:Value) (l:List Fl):Prop:=Below w0.heap.size w0 w∧w.ownsRow w0.heap.size e 3 v l.length (l.flatMap fC)
theorem CurF.alloc {e:TypeId} {w0 w:World} {v:Value} {l:List Fl} (h:CurF e w0 w v l) (o:Obj):CurF e w0 (w.alloc o) v l:=⟨h.1.trans ((below_alloc w o).mono h.1.size),h.2.alloc o⟩
theorem curF_append {e:TypeId} {w0 w w2:World} {v v2:Value} {o:Obj} {l:List Fl} {f:Fl} (h:CurF e w0 w v l) (h2:w2.ownsRow w0.heap.size e 3 v2 (l.length + 1) (l.flatMap fC ++ fC f)) (hg:(w.alloc o).grownBy w2 v.ownBlock):CurF e w0 w2 v2 (l ++ [f]):=by
 refine ⟨?_,by simpa [List.flatMap_append] using h2⟩
 refine (h.1.trans ((below_alloc w o).mono h.1.size)).grown hg (by have:=h.1.size;simp;omega) ?_
 intro k hk
 exact (h.2.lt k hk).1
set_option maxRecDepth 100000 in
set_option maxHeartbeats 1000000 in
theorem apiWithout_any {w:World} {B b:Nat} {fs:List Fl} {left:Int} {fv:Value} (h:St 100 109 w B b fs left fv) (x:ByteArray) (hl:fs.length≤4194304) :
  Calls Tryz.prog 80 #[.pointer (some ⟨b,0,none⟩), .string x] w fun e w'=>∃ v,e=.returned v∧CurF 109 w w' v (wo x fs):=by
 obtain ⟨i0,hi0,hz0,hz1,hz2⟩:=info_parts Tryz.info109
 obtain ⟨a,c,rfl,hc,hm⟩:=own_slice h.own
 unfold maxLen at hm
 obtain ⟨c0,f0⟩:=cell_of (j:=0) (u:=.slice a fs.length c) h.blk rfl
 have HS:=hide h
 clear h
 generalize hn:fs.length=n at *
 have HN:=hide hn
 clear hn
 go_enter Tryz.func80,Tryz.ntmps80
 go_wp2_with fail
 go_loopw [5,13] (fun lv i wr=>∃ k:Nat,k≤n∧i=.int .i64 k∧CurF 109 w wr lv (wo x (fs.take k))) (fun _ i _=>n - (intOf i).toNat)
 case atStart=>exact ⟨0,Nat.zero_le _,rfl,⟨Below.refl _ _,World.ownsRow_nil _ _ _ _⟩⟩
 case round=>
  obtain ⟨k,hk,rfl,hcur⟩:=hrel
  have HC:=hide hcur
  clear hcur
  by_cases hlt:k < n
  ·have ho:=(HS.out.below HC.out.1).own
   rw [HN.out] at ho
   obtain ⟨g,rfl⟩:=own_some ho (by omega)
   obtain ⟨d0,d1,d2⟩:=own_fl ho HN.out hlt
   clear ho c0
   have HTK:=hide (take_snoc (by rw [HN.out];exact hlt:k < fs.length) fl0)
   have hml:(wo x (fs.take k)).length≤k:=Nat.le_trans (wo_len _ _) (by rw [List.length_take];omega)
   obtain ⟨f,hf⟩:∃ f,f=fs.getD k fl0:=⟨_,rfl⟩
   rw [← hf] at d0 d1 d2
   have HTK2:Hid (fs.take (k + 1)=fs.take k ++ [f]):=by rw [hf];exact HTK.out
   clear HTK hf
   obtain ⟨nm,dt,sf⟩:=f
   simp only at d0 d1 d2
   have hsz:=HC.out.1.size
   by_cases hx:nm=x
   ·subst hx
    have HW:Hid (CurF 109 w (wr.alloc (Obj.cells #[.string nm, .string dt, .int .i64 (sf:Int)] 109)) u5 (wo nm (fs.take (k + 1)))):=by
     show CurF _ _ _ _ _
     rw [HTK2.out,wo_snoc_yes (f:=⟨nm,dt,sf⟩) rfl]
     exact HC.out.alloc _
    go_wp2
    go_roundw
    case rel=>exact ⟨k + 1,by omega,by go_num,HW.out⟩
    case measure=>simp [intOf];omega
   ·have q:=eqS_false hx
    have HW:Hid (wo x (fs.take (k + 1))=wo x (fs.take k) ++ [⟨nm,dt,sf⟩]):=by
     show _=_
     rw [HTK2.out,wo_snoc_no (f:=⟨nm,dt,sf⟩) hx]
    have HC1:=hide (HC.out.alloc (Obj.cells #[.string nm, .string dt, .int .i64 (sf:Int)] 109))
    generalize wo x (fs.take k)=m at *
    go_wp2_with (first | (at_builtin;refine wpList_append_own _ rfl _ _ 98 rfl w.heap.size 109 i0 (.agg #[.string ⟨#[]⟩, .string ⟨#[]⟩, .int .i64 0]) 3 40 Tryz.underlying98 hi0 hz0 hz1 hz2 rfl (by decide) _ _ _ rfl (HC1.out.2.alloc _) ⟨_,0,none⟩ 1 1 [.string nm, .string dt, .int .i64 (sf:Int)] rfl rfl (cells_new2 _ _ (by simp) _ _ _ rfl) (by intro u hu;simp at hu;rcases hu with rfl | rfl | rfl <;> rfl) (by unfold maxLen;omega) (by omega) (by simp;omega) ?_;intro v4 w4 hown4 hgrow4 _;have HC4:=hide (curF_append (f:=⟨nm,dt,sf⟩) HC1.out hown4 hgrow4);clear hown4 hgrow4))
    go_roundw
    case rel=>exact ⟨k + 1,by omega,by go_num,by rw [HW.out];exact HC4.out⟩
    case measure=>simp [intOf];omega
  ·have hke:k=n:=by omega
   subst hke
   have HF:Hid (fs.take k=fs):=List.take_of_length_le (by rw [HN.out];exact Nat.le_refl _)
   go_wp2
   go_ret
   exact ⟨_,rfl,by have:=HC.out;rwa [HF.out] at this⟩
end Go.Proofs.YtkncboinfcnklaaGreatDoor

namespace Go.Proofs.YtkncboinfcnklaaGreatDoor
open Go.RowKit Go.Deep Go.Proofs.YtkncboinfcnklaaGreatDoor.Mth
theorem own_base {w:World} {B B':Nat} {e:TypeId} {sz:Nat} {v:Value} {n:Nat} {xs:List Value} (h:w.ownsRow B' e sz v n xs) (hB:B≤B'):w.ownsRow B e sz v n xs:=by
 refine ⟨h.1,h.2.imp id ?_⟩
 rintro ⟨g,cap,cur,hv,h1,h2⟩
 exact ⟨g,cap,cur,hv,Nat.le_trans hB h1,h2⟩
theorem CurF.pre {e:TypeId} {w wA w1:World} {v:Value} {l:List Fl} (hb:Below w.heap.size w wA) (h:CurF e wA w1 v l):CurF e w w1 v l:=⟨hb.trans (h.1.mono hb.size),own_base h.2 hb.size⟩
theorem St.setFresh {T e:TypeId} {w w1:World} {B b:Nat} {fs fs':List Fl} {left:Int} {fv v:Value} (h:St T e w B b fs left fv) (hT:T≠e) (hB:B≤w.heap.size) (hc:CurF e w w1 v fs'):Stp T e B b w (w1.setCell ⟨b,0,none⟩ v) fv fs' left v:=
 h.setFiles hT (own_base hc.2 hB) (tch_below hc.1) (fun _ hg=>Or.inr (own_block hc.2 hg).1)
theorem setCell_blk {w:World} {b j:Nat} {C:Array Value} {t:TypeId} {v:Value} (h:w.heap[b]? = some (Obj.cells C t (0,0))):(w.setCell ⟨b,j,none⟩ v).heap[b]? = some (Obj.cells (C.setIfInBounds j v) t (0,0)):=by
 simp [World.setCell,Array.getElem?_modify,h]
end Go.Proofs.YtkncboinfcnklaaGreatDoor

namespace Go.Proofs.YtkncboinfcnklaaGreatDoor
open Go.RowKit Go.Deep Go.Proofs.YtkncboinfcnklaaGreatDoor.Mth
def flAt (fs:List Fl) (r:Int):Fl:=if r < 0 then fl0 else fs.getD r.toNat fl0
theorem below_set {w w1:World} {nb j:Nat} {v:Value} (h:Below w.heap.size w w1) (hn:w.heap.size≤nb):Below w.heap.size w (w1.setCell ⟨nb,j,none⟩ v):=
 ⟨h.os,h.tape,h.output,by have:=h.size;simpa using this,fun k hk=>by rw [set_other (by omega)];exact h.block k hk⟩
theorem new_blk (w:World) (cs:Array Value) (t:TypeId):(w.alloc (Obj.cells cs t)).heap[w.heap.size]? = some (Obj.cells cs t (0,0)):=by
 show (w.heap.push _)[w.heap.size]? = _
 rw [Array.getElem?_push,if_pos rfl]
theorem old_blk {w:World} {g:Nat} {D:Obj} (o:Obj) (h:w.heap[g]? = some D):(w.alloc o).heap[g]? = some D:=by
 rw [_root_.Go.heap_alloc_old w o (Array.getElem?_eq_some_iff.1 h).1];exact h
set_option maxHeartbeats 1000000 in
theorem apiNew_any (w:World) (B:Nat) (hB:B≤w.heap.size):Calls Tryz.prog 13 #[] w fun e w'=>∃ d h b,e=.returned (.tuple #[.pointer (some ⟨d,0,none⟩), .pointer (some ⟨h,0,none⟩)])∧w.heap.size≤b∧w.heap.size≤d∧w.heap.size≤h∧Below w.heap.size w w'∧St 100 109 w' B b [] (-1) (.slice none 0 0)∧Ptr 102 w' d b∧Ptr 104 w' h b:=by
 have k1:=new_blk w #[.slice none 0 0, .int .i64 (-1)] 100
 have hb1:=below_alloc w (Obj.cells #[.slice none 0 0, .int .i64 (-1)] 100)
 have k2:=new_blk (w.alloc (Obj.cells #[.slice none 0 0, .int .i64 (-1)] 100)) #[.pointer (some ⟨w.heap.size,0,none⟩)] 102
 have hb2:=below_alloc (w.alloc (Obj.cells #[.slice none 0 0, .int .i64 (-1)] 100)) (Obj.cells #[.pointer (some ⟨w.heap.size,0,none⟩)] 102)
 have k3:=new_blk ((w.alloc (Obj.cells #[.slice none 0 0, .int .i64 (-1)] 100)).alloc (Obj.cells #[.pointer (some ⟨w.heap.size,0,none⟩)] 102)) #[.pointer (some ⟨w.heap.size,0,none⟩)] 104
 have hb3:=below_alloc ((w.alloc (Obj.cells #[.slice none 0 0, .int .i64 (-1)] 100)).alloc (Obj.cells #[.pointer (some ⟨w.heap.size,0,none⟩)] 102)) (Obj.cells #[.pointer (some ⟨w.heap.size,0,none⟩)] 104)
 have K1:=hide (old_blk (Obj.cells #[.pointer (some ⟨w.heap.size,0,none⟩)] 104) (old_blk (Obj.cells #[.pointer (some ⟨w.heap.size,0,none⟩)] 102) k1))
 have K2:=hide (old_blk (Obj.cells #[.pointer (some ⟨w.heap.size,0,none⟩)] 104) k2)
 have K3:=hide k3
 have HB:=hide ((hb1.trans (hb2.mono hb1.size)).trans (hb3.mono (hb1.trans (hb2.mono hb1.size)).size))
 clear k1 k2 k3 hb1 hb2 hb3
 go_enter Tryz.func13,Tryz.ntmps13
 go_wp2
 go_ret2
 exact ⟨_,_,_,rfl,Nat.le_refl _,by first | omega | simp,by first | omega | (simp;omega),HB.out,⟨K1.out,World.ownsRow_nil _ _ _ _,hB⟩,by have:=K2.out;simpa [Ptr] using this,by have:=K3.out;simpa [Ptr] using this⟩
end Go.Proofs.YtkncboinfcnklaaGreatDoor

namespace Go.Proofs.YtkncboinfcnklaaGreatDoor
open Go.RowKit Go.Deep Go.Proofs.YtkncboinfcnklaaGreatDoor.Mth
theorem at_one {fs:List Fl} {x:ByteArray} {r r':Int} (h:At fs x r) (h':At fs x r'):r=r':=by
 rcases h with ⟨rfl,h⟩ | ⟨i,hi,rfl,hn,h⟩
 ·rcases h' with ⟨rfl,_⟩ | ⟨j,hj,rfl,hm,_⟩
  ·rfl
  ·exact absurd hm (h j hj)
 ·rcases h' with ⟨rfl,h'⟩ | ⟨j,hj,rfl,hm,h'⟩
  ·exact absurd hn (h' i hi)
  ·rcases Nat.lt_trichotomy i j with q | q | q
   ·exact absurd hn (h' i q)
   ·rw [q]
   ·exact absurd hm (h j q)
theorem plus_at (a b:ByteArray) (w:World) (h:a.size + b.size≤70368744177664):(Op.stringOp .add a b).run Tryz.prog w=.ok (.string (a ++ b)) w:=run_string_add_sum (P:=Tryz.prog) w _ _ (by omega)
end Go.Proofs.YtkncboinfcnklaaGreatDoor
