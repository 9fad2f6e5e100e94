import Derived.Lib.SlicesCompact
import Derived.Deep.Trees
import Derived.Below
import Derived.Lib.OwnBridge
import Derived.Sort.Grow
import Derived.Laws.AppendOwn
import Derived.Sort.Walk0
import Derived.Test.YtkncboinfcnklaaGreatDoorProg
import Derived.Test.YtkncboinfcnklaaGreatDoorShelf
import Derived.Laws.AppendOwnNone
import Derived.WalkKit
import Derived.WalkSpells
import Derived.WalkLawsBesides
import Derived.Deep.RegionHeld3
import Derived.Deep.LoopGhost
import Derived.Deep.QuietTactic
import Derived.BigQuiet
import Derived.Deep.DeepFit
import Derived.Outline
import Derived.Lib.Fields
import Derived.Laws.BytesArg
import Derived.RowKit
set_option maxRecDepth 100000
set_option maxHeartbeats 8000000
namespace Go.Proofs.YtkncboinfcnklaaGreatDoor.Mth
open Go.Lib
section
variable {α:Type}{lt:α→α→Prop}
theorem aZ (irr:∀a,¬lt a a) (tr:∀a b c,lt a b→lt b c→lt a c):∀ {l m:List α},l.Pairwise lt→m.Pairwise lt→(∀x,x∈l↔x∈m)→l=m:=by
 intro l
 induction l with
 | nil=>
  intro m _ _ h
  cases m with
  | nil=>rfl
  | cons y m=>have:=(h y).2 (by simp);simp at this
 | cons x l ih=>
  intro m hl hm h
  cases m with
  | nil=>have:=(h x).1 (by simp);simp at this
  | cons y m=>
   rw[List.pairwise_cons]at hl hm
   have e:x=y:=by
    rcases List.mem_cons.1 ((h x).1 (by simp))with e|e
    ·exact e
    ·rcases List.mem_cons.1 ((h y).2 (by simp))with e'|e'
     ·exact e'.symm
     ·exact absurd (tr _ _ _ (hl.1 y e') (hm.1 x e)) (irr x)
   subst e;rw[ih hl.2 hm.2 ?_];intro z;constructor
   ·intro hz
    rcases List.mem_cons.1 ((h z).1 (by simp[hz]))with e|e
    ·subst e;exact absurd (hl.1 _ hz) (irr _)
    ·exact e
   ·intro hz
    rcases List.mem_cons.1 ((h z).2 (by simp[hz]))with e|e
    ·subst e;exact absurd (hm.1 _ hz) (irr _)
    ·exact e
end
section
variable {α:Type} [Inhabited α] [DecidableEq α] {le lt:α→α→Prop}
theorem rZ (hlt:∀a b,le a b→a≠b→lt a b) (hll:∀a b c,lt a b→le b c→lt a c) (d:Array α)
  (hs:∀i,i+1<d.size→le d[i]! d[i+1]!) (m:Nat) (hm:m≤d.size) :
  (compactUpTo d m).Pairwise lt∧(∀x,x∈compactUpTo d m↔∃j,j<m∧d[j]! = x)∧(∀x∈compactUpTo d m,x=d[m-1]! ∨ lt x d[m-1]!):=by
 induction m with
 | zero=>simp[compactUpTo]
 | succ m ih=>
  obtain⟨h1,h2,h3⟩:=ih (by omega);rw[compactUpTo_succ];by_cases k:keeps d m=true
  ·rw[if_pos k]
   have hlast:∀x∈compactUpTo d m,lt x d[m]! := by
    intro x hx
    have hpos:0<m:=by
     rcases Nat.eq_zero_or_pos m with e|e
     ·subst e;simp[compactUpTo]at hx
     ·exact e
    have hne:d[m]! ≠ d[m-1]! := by
     have:=of_decide_eq_true k
     rcases this with e|e
     ·omega
     ·exact e
    have hle:=hs (m-1) (by omega);rw[show m-1+1=m by omega]at hle
    rcases h3 x hx with e|e
    ·subst e;exact hlt _ _ hle (Ne.symm hne)
    ·exact hll _ _ _ e hle
   refine⟨?_,?_,?_⟩
   ·rw[List.pairwise_append];refine⟨h1,by simp,?_⟩;intro a ha b hb;simp at hb;subst hb;exact hlast a ha
   ·intro x;simp only[List.mem_append,List.mem_singleton,h2];constructor
    ·rintro (⟨j,hj,e⟩|e)
     ·exact⟨j,by omega,e⟩
     ·exact⟨m,by omega,e.symm⟩
    ·rintro ⟨j,hj,e⟩
     rcases Nat.lt_or_ge j m with h|h
     ·exact Or.inl ⟨j,h,e⟩
     ·have:j=m:=by omega
      subst this;exact Or.inr e.symm
   ·intro x hx;rw[show m+1-1=m by omega];simp only[List.mem_append,List.mem_singleton]at hx
    rcases hx with hx|hx
    ·exact Or.inr (hlast x hx)
    ·exact Or.inl hx
  ·have k':¬(m=0∨d[m]! ≠ d[m-1]!):=by simpa [keeps] using k
   have hpos:0<m:=by omega
   have he:d[m]! = d[m-1]! := by
    by_cases e:d[m]! = d[m-1]!
    ·exact e
    ·exact absurd (Or.inr e) k'
   rw[if_neg k,List.append_nil,show m+1-1=m by omega,he];refine⟨h1,?_,h3⟩;intro x;rw[h2];constructor
   ·rintro ⟨j,hj,e⟩;exact⟨j,by omega,e⟩
   ·rintro ⟨j,hj,e⟩
    rcases Nat.lt_or_ge j m with h|h
    ·exact⟨j,h,e⟩
    ·have:j=m:=by omega
     subst this;exact⟨j-1,by omega,by rw[←he];exact e⟩
theorem kW (hlt:∀a b,le a b→a≠b→lt a b) (hll:∀a b c,lt a b→le b c→lt a c) (l:List α) (hs:l.Pairwise le) :
  (compact l).Pairwise lt∧(∀x,x∈compact l↔x∈l):=by
 have h:=rZ hlt hll l.toArray (by
  intro i hi
  have hi':i+1<l.length:=by simpa using hi
  rw[List.pairwise_iff_getElem]at hs;have:=hs i (i+1) (by omega) hi' (by omega)
  simpa [getElem!_pos,hi',show i<l.length by omega] using this) l.length (by simp)
 refine⟨h.1,?_⟩;intro x;rw[show compact l=compactUpTo l.toArray l.length from rfl,h.2.1];constructor
 ·rintro ⟨j,hj,e⟩;rw[←e];simp[getElem!_pos,hj]
 ·intro hx;obtain⟨j,hj,e⟩:=List.mem_iff_getElem.1 hx;exact⟨j,hj,by simp[getElem!_pos,hj,e]⟩
end
end Go.Proofs.YtkncboinfcnklaaGreatDoor.Mth
namespace Go.Proofs.YtkncboinfcnklaaGreatDoor.Mth
open Go.Deep Go.RowKit
structure SOrd {α:Type}(lt:α→α→Prop):Prop where
 irr:∀a,¬lt a a
 tr:∀a b c,lt a b→lt b c→lt a c
 tri:∀a b,lt a b∨a=b∨lt b a
theorem vT:SOrd (fun a b:Int=>a<b):=⟨fun a h=>by omega,fun a b c h1 h2=>by omega,fun a b=>by omega⟩
section
variable {α:Type}{lt:α→α→Prop} [DecidableEq α]
end
def lst {α:Type}:BT α→List α
 | .nil=>[]
 | .node _ _ a l r=>lst l++a::lst r
class NTy (α:Type) where
 ty:TypeId
instance:NTy Int:=⟨325⟩
instance:NTy ByteArray:=⟨331⟩
def Cnt (w:World) (b:Nat) (t:TypeId) (n:Nat):Prop:=w.cell? ⟨b,1,none⟩=some (.int .i64 (n:Int))∧∃C fr,w.heap[b]? = some (Obj.cells C t fr)
theorem Cnt.same {w w':World}{b:Nat}{t:TypeId}{n:Nat}(h:Cnt w b t n) (e:w'.heap[b]? = w.heap[b]?):Cnt w' b t n:=by
 obtain⟨h,C,fr,hC⟩:=h;exact⟨by rw[←h];simp only[World.cell?,e],C,fr,e.trans hC⟩
def InT {α:Type} [NTy α] (enc:α→Value) (w:World):BT α→Prop
 | .nil=>True
 | .node b o a l r=>o=0∧w.cell? ⟨b,0,none⟩=some (enc a)∧Cnt w b (NTy.ty α) ((lst l).length+1+(lst r).length)∧w.cell? ⟨b,2,none⟩=some l.ptr∧w.cell? ⟨b,3,none⟩=some r.ptr∧InT enc w l∧InT enc w r
theorem InT.below {α:Type} [NTy α] {enc:α→Value}{w w':World}(hb:Below w.heap.size w w'):∀ {T:BT α},InT enc w T→InT enc w' T
 | .nil,_=>trivial
 | .node b o a l r,⟨h0,h1,h2,h3,h4,hl,hr⟩=>by
  have hlt:b<w.heap.size:=World.block_lt_of_cell? _ _ h1;exact⟨h0,(hb.cell (p:=⟨b,0,none⟩) hlt).trans h1,h2.same (hb.block b hlt),(hb.cell (p:=⟨b,2,none⟩) hlt).trans h3,(hb.cell (p:=⟨b,3,none⟩) hlt).trans h4,InT.below hb hl,InT.below hb hr⟩
theorem InT.drewN {α:Type} [NTy α] {enc:α→Value}{w w':World}(hb:w'.heap=w.heap):∀ {T:BT α},InT enc w T→InT enc w' T
 | .nil,_=>trivial
 | .node b o a l r,⟨h0,h1,h2,h3,h4,hl,hr⟩=>by
  have hc:∀p,w'.cell? p=w.cell? p:=by intro p;simp only[World.cell?,hb]
  exact⟨h0,(hc _).trans h1,h2.same (by rw[hb]),(hc _).trans h3,(hc _).trans h4,InT.drewN hb hl,InT.drewN hb hr⟩
def bI {α:Type}(lt:α→α→Prop) (L:List α) (x:α) (S:List α):Prop:=S.Pairwise lt∧(∀y,y∈S↔y=x∨y∈L)∧S.length=L.length+1
section
variable {α:Type}{lt:α→α→Prop}
theorem cR (x:α):bI lt [] x [x]:=⟨by simp,by simp,by simp⟩
theorem eW {L R S:List α}{x a:α}(hup:(L++a::R).Pairwise lt) (h:SOrd lt) (hx:lt x a) (hS:bI lt L x S):bI lt (L++a::R) x (S++a::R):=by
 obtain⟨h1,h2,h3⟩:=hS;rw[List.pairwise_append]at hup;refine⟨?_,?_,?_⟩
 ·rw[List.pairwise_append];refine⟨h1,hup.2.1,?_⟩;intro y hy z hz
  rcases(h2 y).1 hy with e|e
  ·subst e
   rcases List.mem_cons.1 hz with e'|e'
   ·subst e';exact hx
   ·exact h.tr _ _ _ hx ((List.pairwise_cons.1 hup.2.1).1 _ e')
  ·exact hup.2.2 y e z hz
 ·intro y;simp only[List.mem_append,h2];constructor
  ·rintro ((e|e)|e)
   ·exact Or.inl e
   ·exact Or.inr (Or.inl e)
   ·exact Or.inr (Or.inr e)
  ·rintro (e|e|e)
   ·exact Or.inl (Or.inl e)
   ·exact Or.inl (Or.inr e)
   ·exact Or.inr e
 ·simp[h3];omega
theorem ig {L R S:List α}{x a:α}(hup:(L++a::R).Pairwise lt) (h:SOrd lt) (hx:lt a x) (hS:bI lt R x S):bI lt (L++a::R) x (L++a::S):=by
 obtain⟨h1,h2,h3⟩:=hS;rw[List.pairwise_append]at hup;refine⟨?_,?_,?_⟩
 ·rw[List.pairwise_append];refine⟨hup.1,?_,?_⟩
  ·rw[List.pairwise_cons];refine⟨?_,h1⟩;intro y hy
   rcases(h2 y).1 hy with e|e
   ·subst e;exact hx
   ·exact(List.pairwise_cons.1 hup.2.1).1 _ e
  ·intro y hy z hz
   rcases List.mem_cons.1 hz with e'|e'
   ·subst e';exact hup.2.2 y hy _ (by simp)
   ·rcases(h2 z).1 e' with e|e
    ·subst e;exact h.tr _ _ _ (hup.2.2 y hy a (by simp)) hx
    ·exact hup.2.2 y hy z (by simp[e])
 ·intro y;simp only[List.mem_append,List.mem_cons,h2];constructor
  ·rintro (e|e|e|e)
   ·exact Or.inr (Or.inl e)
   ·exact Or.inr (Or.inr (Or.inl e))
   ·exact Or.inl e
   ·exact Or.inr (Or.inr (Or.inr e))
  ·rintro (e|e|e|e)
   ·exact Or.inr (Or.inr (Or.inl e))
   ·exact Or.inl e
   ·exact Or.inr (Or.inl e)
   ·exact Or.inr (Or.inr (Or.inr e))
 ·simp[h3];omega
theorem eD {L R:List α}{x a:α}(hup:(L++a::R).Pairwise lt) (h:SOrd lt) (hx:lt x a):x∈L++a::R↔x∈L:=by
 rw[List.pairwise_append]at hup;constructor
 ·intro hm
  rcases List.mem_append.1 hm with e|e
  ·exact e
  ·rcases List.mem_cons.1 e with e'|e'
   ·subst e';exact absurd hx (h.irr _)
   ·exact absurd (h.tr _ _ _ hx ((List.pairwise_cons.1 hup.2.1).1 _ e')) (h.irr _)
 ·intro e;simp[e]
theorem eE {L R:List α}{x a:α}(hup:(L++a::R).Pairwise lt) (h:SOrd lt) (hx:lt a x):x∈L++a::R↔x∈R:=by
 rw[List.pairwise_append]at hup;constructor
 ·intro hm
  rcases List.mem_append.1 hm with e|e
  ·exact absurd (h.tr _ _ _ (hup.2.2 x e a (by simp)) hx) (h.irr _)
  ·rcases List.mem_cons.1 e with e'|e'
   ·subst e';exact absurd hx (h.irr _)
   ·exact e'
 ·intro e;simp[e]
variable [DecidableRel lt]
def tT (lt:α→α→Prop) [DecidableRel lt] (lo hi:α) (l:List α):List α:=l.filter fun x=>!decide (lt x lo) && !decide (lt hi x)
theorem bY {L R:List α}{lo hi a:α}(hup:(L++a::R).Pairwise lt) (h:SOrd lt) (hx:¬lt lo a):tT lt lo hi L=[]:=by
 rw[List.pairwise_append]at hup;unfold tT;rw[List.filter_eq_nil_iff];intro y hy;have h1:=hup.2.2 y hy a (by simp)
 have:lt y lo:=by
  rcases h.tri lo a with e|e|e
  ·exact absurd e hx
  ·subst e;exact h1
  ·exact h.tr _ _ _ h1 e
 simp[this]
theorem dV {L R:List α}{lo hi a:α}(hup:(L++a::R).Pairwise lt) (h:SOrd lt) (hx:¬lt a hi):tT lt lo hi R=[]:=by
 rw[List.pairwise_append]at hup;unfold tT;rw[List.filter_eq_nil_iff];intro y hy;have h1:=(List.pairwise_cons.1 hup.2.1).1 y hy
 have:lt hi y:=by
  rcases h.tri a hi with e|e|e
  ·exact absurd e hx
  ·subst e;exact h1
  ·exact h.tr _ _ _ e h1
 simp[this]
theorem dW (lo hi a:α) (L R:List α):tT lt lo hi (L++a::R)=tT lt lo hi L++((if ¬lt a lo∧¬lt hi a then [a] else [])++tT lt lo hi R):=by
 unfold tT;rw[List.filter_append,List.filter_cons];by_cases c:¬lt a lo∧¬lt hi a
 ·rw[if_pos c,if_pos (by simp[c.1,c.2])];rfl
 ·rw[if_neg c,if_neg]
  ·rfl
  ·intro e;simp at e;exact c e
end
theorem uC (w:World) (o:Obj){r:Nat}(h:r<w.heap.size):(w.alloc o).heap[r]? = w.heap[r]? := ((Below.refl _ w).alloc (Nat.le_refl _) o).block r h
theorem gI{w:World}{k:Nat}{o:Obj}(h:w.heap[k]?=some o):k<w.heap.size:=(Array.getElem?_eq_some_iff.1 h).1
end Go.Proofs.YtkncboinfcnklaaGreatDoor.Mth
namespace Go.Proofs.YtkncboinfcnklaaGreatDoor.Mth
open Go.Lib Go.Sort Go.RowKit
section
variable {α:Type} [Inhabited α]
theorem di {enc:α→Value}{w:World}{g n:Nat}{os:Array Obj}{cur:Array Value}{e:TypeId}{fr:Nat × Nat}(d:Array α) (hb:w.heap[g]? = some (.cells cur e fr)) :
  (grow (putRow enc (Sort.ahead w n) g 0 d) os).heap[g]? = some (.cells (putCells enc 0 d cur) e fr):=by
 have hg:g<w.heap.size:=(Mth.gI hb);rw[heap_grow_old _ _ (by simpa using hg)];simp[putRow,mapBlock,Sort.ahead,Array.getElem?_modify,hb,onCells]
theorem mi {enc:α→Value}{w:World}{g n:Nat}{os:Array Obj}(d:Array α):w.grownBy (grow (putRow enc (Sort.ahead w n) g 0 d) os) (some g):=by
 refine⟨rfl,rfl,rfl,by simp,fun k hk hne=>?_⟩;rw[heap_grow_old _ _ (by simpa using hk)]
 have:g≠k:=fun e=>hne (by rw[e])
 simp[putRow,mapBlock,Sort.ahead,Array.getElem?_modify,this]
theorem fL {enc:α→Value}(cur:Array Value) (ts:List α) (h:ts.length≤cur.size):(putCells enc 0 ts.toArray cur).toList.take ts.length=ts.map enc:=by
 apply List.ext_getElem?;intro j;by_cases hj:j<ts.length
 ·rw[List.getElem?_take_of_lt hj,Array.getElem?_toList];simp[putCells,hj,show j<cur.size by omega]
 ·rw[List.getElem?_take_eq_none (by omega),List.getElem?_eq_none (by simp;omega)]
theorem mx {enc:α→Value}{w:World}{base g cap n k:Nat}{e:TypeId}{os:Array Obj}{ss ts:List α}(hl:ts.length=ss.length)
  (h:w.ownsRow base e 1 (.slice (some ⟨g,0,none⟩) k cap) k (ss.map enc)) :
  (grow (putRow enc (Sort.ahead w n) g 0 ts.toArray) os).ownsRow base e 1 (.slice (some ⟨g,0,none⟩) k cap) k (ts.map enc):=by
 have hk:ss.length=k:=by simpa using h.1
 rcases h.2 with⟨h0,_⟩|⟨g',cap',cur,hv,hbase,hb,h1,h2,h3,h4⟩
 ·cases h0
 cases hv;exact⟨by simp[hl,hk], .inr ⟨g,cap,_,rfl,hbase,di _ hb,h1,h2,by simp[putCells,h3],by rw[Nat.mul_one,←hk,←hl];exact fL cur ts (by omega)⟩⟩
theorem cr [DecidableEq α] {enc:α→Value}{w0 w1:World}{B base g cap k nn q:Nat}{e:TypeId}{os:Array Obj}{ss ts:List α}{z:α}(hl:ts.length=ss.length)
  (h:w1.ownsRow base e 1 (.slice (some ⟨g,0,none⟩) k cap) k (ss.map enc)) (hbel:Below B w0 w1) (hB:B≤base) (hB1:B≤w1.heap.size) :
  (putRow enc (Sort.ahead (grow (putRow enc (Sort.ahead w1 nn) g 0 ts.toArray) os) q) g 0 (compact ts++List.replicate (k-(compact ts).length) z).toArray).ownsRow base e 1
   (.slice (some ⟨g,0,none⟩) (compact ts).length cap) (compact ts).length ((compact ts).map enc) ∧
  Below B w0 (putRow enc (Sort.ahead (grow (putRow enc (Sort.ahead w1 nn) g 0 ts.toArray) os) q) g 0 (compact ts++List.replicate (k-(compact ts).length) z).toArray):=by
 have hk:ss.length=k:=by simpa using h.1
 have hle:=compact_length_le ts
 have hbg:base≤g:=by
  rcases h.2 with⟨h0,_⟩|⟨g',cap',cur,hv,hbase,hb,h1,h2,h3,h4⟩
  ·cases h0
  cases hv;exact hbase
 have hs:=mx (n:=nn) (os:=os) hl h;have hc:=ownsRow_putRow (q:=q) (k:=(compact ts).length) (ys:=compact ts++List.replicate (k-(compact ts).length) z) hs (by simp;omega) (by omega);rw[List.take_left]at hc;exact⟨hc,below_putRow (hbel.grown (mi _) hB1 (fun j hj=>by cases hj;omega)) (by omega)⟩
end
end Go.Proofs.YtkncboinfcnklaaGreatDoor.Mth
namespace Go.Proofs.YtkncboinfcnklaaGreatDoor.Mth
open Go.Lib
abbrev ym {α:Type} [DecidableEq α] (x:α) (l:List α):Bool:=decide (x∈l)
theorem vN {α:Type} [DecidableEq α] {x:α}{l:List α}(h:x∈l):ym x l=true:=decide_eq_true h
theorem ui {α:Type} [DecidableEq α] {x:α}{l:List α}(h:¬x∈l):ym x l=false:=decide_eq_false h
theorem memD_iff {α:Type} [DecidableEq α] {x:α}{l:List α}:ym x l=true↔x∈l:=decide_eq_true_iff
abbrev rW (a b:ByteArray):Prop:=a.data.toList<b.data.toList
theorem wQ {a b:ByteArray}(h:a.data.toList=b.data.toList):a=b:=by
 cases a;cases b;simp at h;subst h;rfl
theorem sordS:SOrd rW:=by
 refine⟨fun a=>List.lt_irrefl _,fun a b c h1 h2=>List.lt_trans h1 h2,fun a b=>?_⟩;by_cases h1:a.data.toList<b.data.toList
 ·exact Or.inl h1
 ·by_cases h2:b.data.toList<a.data.toList
  ·exact Or.inr (Or.inr h2)
  ·exact Or.inr (Or.inl (wQ (List.le_antisymm (List.not_lt.1 h2) (List.not_lt.1 h1))))
theorem jh (a b:ByteArray):Op.bytesLess a.toList b.toList=decide (rW a b):=by
 rw[bytesLess_eq,Lib.toList_data,Lib.toList_data]
theorem eq_eq (a b:ByteArray):(a.toList == b.toList)=decide (a=b):=by
 rw[Lib.toList_data,Lib.toList_data,Bool.eq_iff_iff];simp only[beq_iff_eq,decide_eq_true_iff];exact⟨wQ,fun h=>by rw[h]⟩
def wN (l:List UInt8):ByteArray:=⟨l.toArray⟩
theorem sJ (l:List UInt8):(wN l).data.toList=l:=rfl
theorem l9 (s:ByteArray):wN s.data.toList=s:=wQ rfl
def vR (l:List ByteArray):List (List UInt8):=compact ((l.map (·.data.toList)).mergeSort fun x y=>decide (x≤y))
def yi (l:List ByteArray):List ByteArray:=(vR l).map wN
theorem lM (l:List ByteArray):(vR l).Pairwise (· < ·)∧∀x,x∈vR l↔x∈l.map (·.data.toList):=by
 have hs:((l.map (·.data.toList)).mergeSort fun x y=>decide (x≤y)).Pairwise (fun a b=>a≤b):=by
  have:=List.pairwise_mergeSort (le:=fun x y:List UInt8=>decide (x≤y)) (by intro a b c h1 h2;simp only[decide_eq_true_iff]at h1 h2 ⊢;exact List.le_trans h1 h2) (by intro a b;rcases List.le_total a b with h|h <;> simp[h]) (l.map (·.data.toList))
  simpa using this
 have h:=kW (lt:=fun a b:List UInt8=>a<b) (le:=fun a b:List UInt8=>a≤b)
  (by intro a b h1 h2;by_cases c:a<b;exact c;exact absurd (List.le_antisymm h1 (List.not_lt.1 c)) h2)
  (by
   intro a b c h1 h2;by_cases e:b=c
   ·subst e;exact h1
   ·by_cases d:b<c
    ·exact List.lt_trans h1 d
    ·exact absurd (List.le_antisymm h2 (List.not_lt.1 d)) e) _ hs
 exact⟨h.1,fun x=>by rw[show vR l=compact ((l.map (·.data.toList)).mergeSort fun x y=>decide (x≤y)) from rfl,h.2 x,List.mem_mergeSort]⟩
theorem yc (l:List ByteArray):(yi l).Pairwise rW∧∀x,x∈yi l↔x∈l:=by
 have h:=lM l;refine⟨?_,?_⟩
 ·unfold yi;rw[List.pairwise_map];exact h.1
 ·intro x;unfold yi;rw[List.mem_map];constructor
  ·rintro ⟨y,hy,rfl⟩;obtain⟨z,hz,e⟩:=List.mem_map.1 ((h.2 y).1 hy)
   have:wN y=z:=by rw[←e];exact l9 z
   rw[this];exact hz
  ·intro hx;exact⟨x.data.toList,(h.2 _).2 (List.mem_map.2 ⟨x,hx,rfl⟩),l9 x⟩
theorem tM {l m:List ByteArray}(hm:m.Pairwise rW) (h:∀x,x∈m↔x∈l):m=yi l:=
 aZ sordS.irr sordS.tr hm (yc l).1 (fun x=>by rw[h,(yc l).2])
theorem tN (l:List ByteArray):(yi l).length≤l.length:=by
 unfold yi vR;rw[List.length_map]
 have h1:(compact ((l.map (·.data.toList)).mergeSort fun x y=>decide (x≤y))).length≤((l.map (·.data.toList)).mergeSort fun x y=>decide (x≤y)).length:=by
  unfold compact compactUpTo;rw[List.length_map];exact Nat.le_trans (List.length_filter_le _ _) (by simp)
 rw[List.length_mergeSort,List.length_map]at h1;exact h1
end Go.Proofs.YtkncboinfcnklaaGreatDoor.Mth
namespace Go.Proofs.YtkncboinfcnklaaGreatDoor
open Go.RowKit Go.Deep Go.Proofs.YtkncboinfcnklaaGreatDoor.Mth Go.Sort
abbrev eS:ByteArray→Value:=Value.string
theorem zx {p:Prop}(h:p):Hid p:=h
theorem Tryz.info9:(Tryz.prog.info? 9).map (fun i=>(i.zero,i.size,i.bytes))=some (some (.string ByteArray.empty),1,16):=by kernel_rfl
theorem wC {B:Nat}{w0 w w2:World}{v:Value}{o:Obj}{e:TypeId}{n:Nat}{xs:List Value}(hb:Below B w0 w) (hB:B≤w.heap.size) (hown:w.ownsRow B e 1 v n xs) (hg:(w.alloc o).grownBy w2 v.ownBlock):Below B w0 w2:=by
 refine(hb.alloc hB o).grown hg (by simp;omega) ?_;intro k hk
 rcases hown.2 with⟨h0,_⟩|⟨g,cap,cur,hv,hbase,_⟩
 ·subst h0;simp[Value.ownBlock]at hk
 ·subst hv;simp[Value.ownBlock]at hk;omega
def su (w0 w:World) (v:Value) (l:List ByteArray):Prop:=Below w0.heap.size w0 w∧w.ownsRow w0.heap.size 9 1 v l.length (l.map eS)
theorem yW {w0 w w2:World}{v v2:Value}{o:Obj}{l:List ByteArray}{a:ByteArray}(h:su w0 w v l) (h2:w2.ownsRow w0.heap.size 9 1 v2 (l.length+1) (l.map eS++[.string a])) (hg:(w.alloc o).grownBy w2 v.ownBlock):su w0 w2 v2 (l++[a]):=
 ⟨wC h.1 h.1.size h.2 hg,by simpa using h2⟩
def Rd (w:World) (v:Value) (l:List ByteArray):Prop:=
 ∃(a:Option Addr) (c:Nat),v=.slice a l.length c∧l.length≤c∧c≤maxLen∧(a=none→c=0)∧(l=[]∨∃b o,a=some ⟨b,o,none⟩∧∀j,j<l.length→w.cell? ⟨b,o+j,none⟩=some (.string (l.getD j ByteArray.empty)))
theorem Rd.below {w w':World}{v:Value}{l:List ByteArray}(h:Rd w v l) (hb:Below w.heap.size w w'):Rd w' v l:=by
 obtain⟨a,c,rfl,hc,hm,hz,h⟩:=h;refine⟨a,c,rfl,hc,hm,hz,?_⟩
 rcases h with h|⟨b,o,rfl,h⟩
 ·exact Or.inl h
 ·refine Or.inr ⟨b,o,rfl,fun j hj=>?_⟩;have h1:=h j hj;exact(hb.cell (p:=⟨b,o+j,none⟩) (World.block_lt_of_cell? _ _ h1)).trans h1
theorem qC {w:World}{B:Nat}{v:Value}{l:List ByteArray}(h:w.ownsRow B 9 1 v l.length (l.map eS)):Rd w v l:=by
 by_cases hv:v=.slice none 0 0
 ·have hl:l=[]:=by
   rcases h.2 with⟨_,h0⟩|⟨g,cap,cur,hv',_⟩
   ·exact List.length_eq_zero_iff.1 h0
   ·rw[hv]at hv';cases hv'
  subst hl;exact⟨none,0,hv,Nat.le_refl _,by unfold maxLen;omega,fun _=>rfl,Or.inl rfl⟩
 ·obtain⟨g,cap,rfl,_,_,hn,hm,_,hH⟩:=Lib.holds_of_ownsRow (enc:=eS) h hv;refine⟨_,cap,rfl,hn,hm,(fun h=>by cases h),Or.inr ⟨g,0,rfl,fun j hj=>?_⟩⟩;have:=(hH j (by simpa using hj)).1;rw[this];simp[getElem!_pos,hj,List.getD]
theorem eg {w:World}{v:Value}{l:List ByteArray}(h:Rd w v l):(v=.slice none 0 0∧l=[])∨∃ad c,v=.slice (some ad) l.length c∧(∀j u,(l.map eS)[j]? = some u→w.cell? (ad.add j)=some u)∧l.length≤c∧c≤maxLen:=by
 obtain⟨a,c,rfl,hc,hm,hz,h⟩:=h
 cases a with
 | none=>
  have h0:=hz rfl;subst h0;have hl:l=[]:=List.length_eq_zero_iff.1 (by omega);subst hl;exact Or.inl ⟨rfl,rfl⟩
 | some ad=>
  refine Or.inr ⟨ad,c,rfl,?_,hc,hm⟩;intro j u hj
  rcases h with h|⟨b,o,e,h⟩
  ·subst h;simp at hj
  ·injection e with e
   subst e
   have hj':j<l.length:=by
    have:=(List.getElem?_eq_some_iff.1 hj).1
    simpa using this
   have h1:=h j hj';rw[Go.WideShapes.add_plain,h1];simp[List.getElem?_map,List.getElem?_eq_getElem hj']at hj;rw[←hj];simp[List.getD,hj']
theorem wK {w:World}{v:Value}{l:List ByteArray}(h:Rd w v l):∃a c,v=.slice a l.length c∧l.length≤c∧c≤maxLen:=by
 obtain⟨a,c,rfl,hc,hm,_,_⟩:=h;exact⟨a,c,rfl,hc,hm⟩
theorem ve (z:Array Value) (n:Nat) (hz:z.size=1):(Builtin.zeroCells z n).size=n:=by
 simp[Builtin.zeroCells,hz]
theorem ic (w:World) (cs:Array Value) (e:TypeId) (cap:Nat) (h:cs.size=cap) (hm:cap≤maxLen):(w.alloc (.cells cs e)).ownsRow w.heap.size e 1 (.slice (some ⟨w.heap.size,0,none⟩) 0 cap) 0 []:=by
 refine⟨rfl,Or.inr ⟨w.heap.size,cap,cs,rfl,Nat.le_refl _,?_,Nat.zero_le _,hm,by omega,by simp⟩⟩;show(w.heap.push _)[w.heap.size]? = _;rw[Array.getElem?_push,if_pos rfl]
theorem ng (n:Nat) (hn:n≤4194304) (w:World) :
  Calls Tryz.prog 260 #[.slice none 0 0, .int .i64 n] w fun e w'=>∃v,e=.returned v∧su w w' v []:=by
 by_cases h0:n=0
 ·subst h0;refine(Any8.slices_Grow_room Tryz.laysGrowS none 0 0 0 w (by omega) (by omega) (by omega) (by omega)).mono ?_;rintro e w' ⟨rfl,rfl⟩;exact⟨_,rfl,Below.refl _ _,World.ownsRow_nil _ _ _ _⟩
 ·obtain⟨i0,hi0,hz0,hz1,hz2⟩:=info_parts Tryz.info9;refine(Any8.slices_Grow_grow Tryz.laysGrowS i0 (.string ByteArray.empty) hi0 hz0 (by omega) none 0 0 n [] w (by omega) (by omega) (by rw[hz2];omega) (by omega) (by simp) (fun _=>rfl) (fun a ha=>by cases ha)).mono ?_;rintro e w' ⟨rfl,rfl⟩;refine⟨_,rfl,(Below.refl w.heap.size w).drew.alloc (Nat.le_refl _) _,ic w.drew _ 9 _ ?_ (grownCap_le_maxLen _ _ _ _ (by unfold maxLen;omega))⟩;have hge:=grownCap_ge w (0+n) 0 (Tryz.laysGrowS_ren.t 25);rw[Array.size_append,Array.size_append,ve _ _ rfl,ve _ _ rfl];simp at hge ⊢;omega
def RdL (w:World) (v:Value) (Ls:List (List ByteArray)):Prop:=
 ∃(a:Option Addr) (c:Nat),v=.slice a Ls.length c∧Ls.length≤c∧c≤maxLen∧(Ls=[]∨∃b o,a=some ⟨b,o,none⟩∧∀i,i<Ls.length→∃vi,w.cell? ⟨b,o+i,none⟩=some vi∧Rd w vi (Ls.getD i []))
theorem qS {Ls:List (List ByteArray)}{k:Nat}(h:k<Ls.length):(Ls.take (k+1)).flatten=(Ls.take k).flatten++Ls.getD k []:=by
 rw[List.take_succ_eq_append_getElem h,List.flatten_append];simp[List.getD,h]
theorem pY (Ls:List (List ByteArray)) (k:Nat):(Ls.take k).flatten.length≤Ls.flatten.length:=by
 have h:Ls.flatten=(Ls.take k).flatten++(Ls.drop k).flatten:=by rw[←List.flatten_append,List.take_append_drop]
 rw[h,List.length_append];omega
theorem dY {w0 w w2:World}{v v2:Value}{l m:List ByteArray}{n:Nat}(h:su w0 w v l) (hn:n=m.length) (h2:w2.ownsRow w0.heap.size 9 1 v2 (l.length+n) (l.map eS++m.map eS)) (hg:w.grownBy w2 v.ownBlock):su w0 w2 v2 (l++m):=by
 subst hn;refine⟨h.1.grown hg h.1.size ?_,by simpa using h2⟩;intro k hk
 rcases h.2.2 with⟨h0,_⟩|⟨g,cap,cur,hv,hbase,_⟩
 ·subst h0;simp[Value.ownBlock]at hk
 ·subst hv;simp[Value.ownBlock]at hk;omega
theorem kY (a:Option Addr) (c:Nat) (w:World) :
  Calls Tryz.prog 224 #[.slice a 0 c] w fun e w'=>∃v',e=.returned v'∧su w w' v' []:=by
 have G:=zx (ng 0 (by omega) w)
 go_enter Tryz.func224,Tryz.ntmps224
 go_wp2_with fail
 go_loop [3,11] (fun s i=>s=.int .i64 0∧i=.int .i64 0) (fun _ _=>0)
 case atStart=>exact⟨rfl,rfl⟩
 case round=>
  obtain⟨rfl,rfl⟩:=hrel;go_wp2_with (go_at_call 260;refine G.out.mono ?_;rintro e w1 ⟨v1,rfl,hc1⟩;have HC1:=zx hc1;clear hc1)
  go_loop [6,27] (fun s i=>s=v1∧i=.int .i64 0) (fun _ _=>0)
  case atStart=>exact⟨rfl,rfl⟩
  case round=>
   obtain⟨rfl,rfl⟩:=hrel;go_wp2;go_ret;exact⟨_,rfl,HC1.out⟩
theorem md (b o c:Nat) (Ls:List (List ByteArray)) (w:World) (hc:Ls.length≤c) (hm:c≤maxLen) (h:∀i,i<Ls.length→∃vi,w.cell? ⟨b,o+i,none⟩=some vi∧Rd w vi (Ls.getD i [])) (hb:Ls.flatten.length≤4194304) (hne:0<Ls.length) :
  Calls Tryz.prog 224 #[.slice (some ⟨b,o,none⟩) Ls.length c] w fun e w'=>∃v',e=.returned v'∧su w w' v' Ls.flatten:=by
 unfold maxLen at hm;have H:=zx h
 have hblt:b<w.heap.size:=by
  obtain⟨vi,h1,_⟩:=h 0 hne;exact World.block_lt_of_cell? _ _ h1
 have G:=zx (fun n hn=>ng n hn w);clear h;obtain⟨i0,hi0,hz0,hz1,hz2⟩:=info_parts Tryz.info9;generalize hn:Ls.length=n at *;have HN:=zx hn;clear hn
 go_enter Tryz.func224,Tryz.ntmps224
 go_wp2_with fail
 go_loop [3,11] (fun s i=>∃k:Nat,k≤n∧i=.int .i64 k∧s=.int .i64 ((Ls.take k).flatten.length)) (fun _ i=>n-(intOf i).toNat)
 case atStart=>exact⟨0,Nat.zero_le _,rfl,by simp⟩
 case round=>
  obtain⟨k,hk,rfl,rfl⟩:=hrel;have hfl:=pY Ls k;by_cases hlt:k<n
  ·obtain⟨vi,hcell,hrd⟩:=H.out k hlt;obtain⟨ai,ci,rfl,_,_⟩:=wK hrd;have hfl2:=pY Ls (k+1);have hs:=qS (Ls:=Ls) (k:=k) (by rw[HN.out];exact hlt)
   have hs':(Ls.take (k+1)).flatten.length=(Ls.take k).flatten.length+(Ls.getD k []).length:=by rw[hs,List.length_append]
   have HS:=zx hs'
   have hbd:(Ls.take k).flatten.length+(Ls.getD k []).length≤4194304:=by omega
   clear hs hs' hrd hfl2;generalize hX:(Ls.take k).flatten.length=X at *;generalize hY:(Ls.getD k []).length=Y at *;clear hX hY;go_wp2
   go_round
   case rel=>exact⟨k+1,by omega,by go_num,by rw[HS.out];go_num⟩
   case measure=>simp[intOf];omega
  ·have hkn:k=n:=by omega
   subst hkn
   have hfull:(Ls.take k).flatten=Ls.flatten:=by rw[List.take_of_length_le (by rw[HN.out];exact Nat.le_refl _)]
   rw[hfull];rw[hfull]at hfl;clear hfull;generalize hL:Ls.flatten.length=L at *;go_wp2_with (go_at_call 260;refine(G.out L (by omega)).mono ?_;rintro e w1 ⟨v1,rfl,hc1⟩;have HC1:=zx hc1;clear hc1);have HL:=zx hL;clear hL
   go_loopw [6,27] (fun s i wr=>∃j:Nat,j≤k∧i=.int .i64 j∧su w wr s (Ls.take j).flatten) (fun _ i _=>k-(intOf i).toNat)
   case atStart=>exact⟨0,Nat.zero_le _,rfl,by simpa using HC1.out⟩
   case round=>
    obtain⟨j,hj,rfl,hcur⟩:=hrel;by_cases hlt2:j<k
    ·obtain⟨vi,hcell,hrd⟩:=H.out j hlt2;have hcell':wr.cell? ⟨b,o+j,none⟩=some vi:=(hcur.1.cell (p:=⟨b,o+j,none⟩) hblt).trans hcell;have hs:=qS (Ls:=Ls) (k:=j) (by rw[HN.out];exact hlt2);have hfl2:=pY Ls (j+1)
     have hbd:(Ls.take j).flatten.length+(Ls.getD j []).length≤4194304:=by rw[hs,List.length_append]at hfl2;have:=HL.out;omega
     have HS:=zx hs;have HC:=zx hcur;have hsz:=hcur.1.size;clear hs hfl2 hcell hcur
     rcases eg hrd with⟨rfl,hl0⟩|⟨ad,ci,rfl,hcells,hci,hcm⟩
     ·have hl0':(Ls.take (j+1)).flatten=(Ls.take j).flatten:=by rw[HS.out,hl0];simp
      have HL0:=zx hl0';clear hrd hl0 hl0';go_wp2_with (at_builtin;refine wpList_append_own_none rfl _ _ 58 rfl w.heap.size 9 i0 1 Tryz.underlying58 hi0 _ _ _ rfl HC.out.2 rfl ?_)
      go_roundw
      case rel=>exact⟨j+1,by omega,by go_num,by rw[HL0.out];exact HC.out⟩
      case measure=>simp[intOf];omega
     ·have hnews:Hid (∀q u,((Ls.getD j []).map eS)[q]? = some u→wr.cell? (ad.add q)=some u):=by
       intro q u hq;have h1:=hcells q u hq
       have h2:(ad.add q).block=ad.block:=by unfold Addr.add;split <;> rfl
       have h3:(ad.add q).block<w.heap.size:=World.block_lt_of_cell? _ _ h1;exact(HC.out.1.cell (p:=ad.add q) h3).trans h1
      have HCELLS:=zx hcells;clear hrd hcells;generalize hY:(Ls.getD j [])=Y at *;have HY:=zx hY;clear hY;go_wp2_with (at_builtin;refine wpList_append_own _ rfl _ _ 58 rfl w.heap.size 9 i0 (.string ByteArray.empty) 1 16 Tryz.underlying58 hi0 hz0 hz1 hz2 rfl (by decide) _ _ _ rfl HC.out.2 ad Y.length ci (Y.map eS) rfl (by simp) hnews.out (by intro u hu;simp at hu;obtain⟨z,_,rfl⟩:=hu;rfl) (by unfold maxLen;omega) (by omega) (by omega) ?_;intro v2 w2 hown2 hgrow2 _;have HC2:=zx (dY HC.out rfl hown2 hgrow2);clear hown2 hgrow2)
      go_roundw
      case rel=>exact⟨j+1,by omega,by go_num,by rw[HS.out];exact HC2.out⟩
      case measure=>simp[intOf];omega
    ·have hjk:j=k:=by omega
     subst hjk;have HC:=zx hcur;clear hcur;go_wp2;go_ret;exact⟨_,rfl,by have:=HC.out;rwa [List.take_of_length_le (by rw[HN.out];exact Nat.le_refl _)]at this⟩
theorem kX {v:Value}{Ls:List (List ByteArray)}{w:World}(h:RdL w v Ls) (hb:Ls.flatten.length≤4194304) :
  Calls Tryz.prog 224 #[v] w fun e w'=>∃v',e=.returned v'∧su w w' v' Ls.flatten:=by
 obtain⟨a,c,rfl,hc,hm,h⟩:=h;by_cases hne:Ls=[]
 ·subst hne
  simpa using kY a c w
 ·rcases h with h|⟨b,o,rfl,h⟩
  ·exact absurd h hne
  ·exact md b o c Ls w hc hm h hb (List.length_pos_iff.2 hne)
theorem ch (g cap:Nat) (zs:List (List UInt8)) (w:World) (hH:Holds encStr w g 0 zs.toArray) (hg:g<w.heap.size) (hsz:zs.length≤4194304) :
  Calls Tryz.prog 225 #[.slice (some ⟨g,0,none⟩) zs.length cap] w fun e w'=>e=.returned (.tuple #[])∧∃n os,w'=grow (putRow encStr (Sort.ahead w n) g 0 (zs.mergeSort fun x y=>decide (x≤y)).toArray) os:=
 Any.slices_Sort_string Tryz.laysSortS g 0 cap zs w hH hg (by omega)
theorem bf (g cap:Nat) (zs:List (List UInt8)) (w:World) (hH:Holds encStr w g 0 zs.toArray) (hc:zs.length≤cap) (hsz:zs.length≤4194304) :
  Calls Tryz.prog 226 #[.slice (some ⟨g,0,none⟩) zs.length cap] w fun e w'=>e=.returned (.slice (some ⟨g,0,none⟩) (Lib.compact zs).length cap)∧∃q,w'=putRow encStr (Sort.ahead w q) g 0 (Lib.compact zs++List.replicate (zs.length-(Lib.compact zs).length) []).toArray:=
 Any.slices_Compact_string Tryz.laysCompS g 0 cap zs w hH (by omega) hc
theorem pI (p:Option Addr) (cap:Nat) (w:World):Calls Tryz.prog 225 #[.slice p 0 cap] w fun e w'=>e=.returned (.tuple #[])∧w'=w:=Any.slices_Sort_string_none Tryz.laysSortS p cap w
theorem ov (p:Option Addr) (cap:Nat) (w:World):Calls Tryz.prog 226 #[.slice p 0 cap] w fun e w'=>e=.returned (.slice p 0 cap)∧w'=w:=Any.slices_Compact_string_empty Tryz.laysCompS p cap w
theorem aB (l:List (List UInt8)):(l.map wN).map eS=l.map encStr:=by
 rw[List.map_map];rfl
theorem lL (v:Value) (l:List ByteArray) (w:World) (C:Hid (Calls Tryz.prog 224 #[v] w fun e w'=>∃v',e=.returned v'∧su w w' v' l)) (hb:l.length≤4194304) :
  Calls Tryz.prog 161 #[v] w fun e w'=>∃v',e=.returned v'∧su w w' v' (yi l):=by
 go_enter Tryz.func161,Tryz.ntmps161
 go_wp2_with fail;refine C.out.mono ?_;rintro e w1 ⟨v1,rfl,hcur⟩;by_cases hv:v1=.slice none 0 0
 ·subst hv
  have hl:l=[]:=by
   rcases hcur.2.2 with⟨_,h0⟩|⟨g,cap,cur,hv',_⟩
   ·exact List.length_eq_zero_iff.1 h0
   ·cases hv'
  subst hl;have HC:=zx hcur;clear hcur
  go_wp2_with (first
   | (go_at_call 225;refine(pI _ _ _).mono ?_;rintro e w' ⟨rfl,rfl⟩)
   | (go_at_call 226;refine(ov _ _ _).mono ?_;rintro e w' ⟨rfl,rfl⟩))
  go_ret;exact⟨_,rfl,by simpa [yi,vR,Lib.compact,Lib.compactUpTo] using HC.out⟩
 ·have hown:w1.ownsRow w.heap.size 9 1 v1 l.length ((l.map (·.data.toList)).map encStr):=by rw[Lib.map_encStr];exact hcur.2
  have hlow:=hcur.1;have hll:(l.map (·.data.toList)).length=l.length:=List.length_map ..;have hmm:yi l=(Lib.compact ((l.map (·.data.toList)).mergeSort fun x y=>decide (x≤y))).map wN:=rfl;generalize l.map (·.data.toList)=ss at *;obtain⟨g,cap,rfl,hbg,hgl,hncap,hcm,_,hH⟩:=Lib.holds_of_ownsRow (enc:=encStr) hown hv;have hs:=zx (ch g cap ss w1 hH hgl (by omega));have hl2:(ss.mergeSort fun x y=>decide (x≤y)).length=ss.length:=List.length_mergeSort ss;generalize hts:(ss.mergeSort fun x y=>decide (x≤y))=ts at *;rw[hll]at hs;have HM:=zx hmm;have HL2:Hid (ts.length=l.length):=hl2.trans hll;have HLL:=zx hll;have HH:=zx hH;have HOWN:=zx hown;have HLOW:=zx hlow;clear hcur hH hts hv hmm hl2 hown hll hlow;generalize hln:l.length=n at *;clear hln;go_wp2_with fail;refine hs.out.mono ?_;rintro e w2 ⟨rfl,nn,os,rfl⟩
  have hH2:Holds encStr (grow (putRow encStr (Sort.ahead w1 nn) g 0 ts.toArray) os) g 0 ts.toArray:=
   holds_grow encStr _ os g 0 _ (by simpa [putRow,mapBlock,Sort.ahead] using hgl) (holds_putRow encStr _ g 0 _ _ (holds_ahead encStr w1 nn g 0 _ HH.out) (by simp[HL2.out,HLL.out]))
  have hcomp:=bf g cap ts _ hH2 (by rw[HL2.out];exact hncap) (by rw[HL2.out];exact hb);rw[HL2.out]at hcomp;have HCOMP:=zx hcomp;clear hH2 hcomp;go_wp2_with fail;refine HCOMP.out.mono ?_;rintro e w3 ⟨rfl,q,rfl⟩;have E:=cr (nn:=nn) (q:=q) (os:=os) (z:=([]:List UInt8)) (ts:=ts) (HL2.out.trans HLL.out.symm) HOWN.out HLOW.out (Nat.le_refl _) HLOW.out.size;have HE:=zx E;clear E;go_wp2;go_ret;exact⟨_,rfl,by rw[HM.out];exact⟨HE.out.2,by rw[aB,List.length_map];exact HE.out.1⟩⟩
theorem ia {v:Value}{Ls:List (List ByteArray)}{w:World}(h:RdL w v Ls) (hb:Ls.flatten.length≤4194304) :
  Calls Tryz.prog 161 #[v] w fun e w'=>∃v',e=.returned v'∧su w w' v' (yi Ls.flatten):=
 lL v _ w (kX h hb) hb
theorem cS {w:World}{va:Value}{A:List ByteArray}(h:Rd w va A):RdL (w.alloc (.cells #[va] 58)) (.slice (some ⟨w.heap.size,0,none⟩) 1 1) [A]:=by
 refine⟨_,1,rfl,by simp,by unfold maxLen;omega,Or.inr ⟨w.heap.size,0,rfl,fun i hi=>?_⟩⟩
 have:i=0:=by simp at hi;omega
 subst this;exact⟨va,by simp,by simpa using h.below ((Below.refl w.heap.size w).alloc (Nat.le_refl _) _)⟩
theorem zi (w:World) (o:Obj):Below w.heap.size w (w.alloc o):=(Below.refl w.heap.size w).alloc (Nat.le_refl _) o
end Go.Proofs.YtkncboinfcnklaaGreatDoor
namespace Go.Proofs.YtkncboinfcnklaaGreatDoor.Mth
open Go.Lib Go.RowKit
structure Ent where
 seq:Int
 time:Int
 text:ByteArray
def tb (s:ByteArray):List Int:=s.data.toList.map (fun u=>(u.toNat:Int))
def num (n:Int):Nat→List Int
 | 0=>[]
 | k+1=>(n / 256 ^ k % 256)::num n k
def mH (l:List Int):Prop:=∀x∈l,0≤x∧x<256
theorem pS:mH []:=by intro x h;cases h
theorem yq {a b:List Int}(ha:mH a) (hb:mH b):mH (a++b):=by
 intro x h
 rcases List.mem_append.1 h with h|h
 ·exact ha x h
 ·exact hb x h
theorem pT {x:Int}(h0:0≤x) (h1:x<256):mH [x]:=by intro y h;simp at h;subst h;exact⟨h0,h1⟩
theorem yo (n:Int):∀k,(num n k).length=k
 | 0=>rfl
 | k+1=>by simp[num,yo n k]
theorem uV (n:Int):∀k,mH (num n k)
 | 0=>pS
 | k+1=>by
  intro x h
  rcases List.mem_cons.1 h with h|h
  ·subst h;constructor <;> omega
  ·exact uV n k x h
theorem uA (s:ByteArray):mH (tb s):=by
 intro x h;obtain⟨u,_,rfl⟩:=List.mem_map.1 h;have:=u.toNat_lt
 constructor <;> omega
theorem xS (s:ByteArray):(tb s).length=s.size:=by simp[tb]
theorem bD (s:ByteArray):strOfNums (tb s)=s:=by
 apply wQ;unfold strOfNums tb;simp only[List.map_map];show List.map _ s.data.toList=s.data.toList
 conv=>rhs;rw[←List.map_id s.data.toList]
 apply List.map_congr_left;intro u _;simp
theorem tb_of {l:List Int}(h:mH l):tb (strOfNums l)=l:=by
 unfold tb strOfNums;simp only[List.map_map]
 conv=>rhs;rw[←List.map_id l]
 apply List.map_congr_left;intro x hx;have:=h x hx;simp;omega
def xy (p:Int × Int) (x:Int):Int × Int:=((p.1+x) % 65521,(p.2+(p.1+x) % 65521) % 65521)
def sm (l:List Int):Int × Int:=l.foldl xy (1,0)
def rS (l:List Int):Int:=65536*(sm l).2+(sm l).1
theorem kD (l:List Int) (x:Int):sm (l++[x])=xy (sm l) x:=by simp[sm,List.foldl_append]
theorem sm_go (l:List Int):∀p:Int × Int,(0≤p.1∧p.1<65521)→(0≤p.2∧p.2<65521)→(0≤(l.foldl xy p).1∧(l.foldl xy p).1<65521)∧(0≤(l.foldl xy p).2∧(l.foldl xy p).2<65521)∧(l.foldl xy p).1=(p.1+l.sum) % 65521:=by
 induction l with
 | nil=>intro p h1 h2;simp;refine⟨h1,h2,?_⟩;omega
 | cons x l ih=>
  intro p h1 h2;have:=ih (xy p x) (by unfold xy;constructor <;> simp <;> omega) (by unfold xy;constructor <;> simp <;> omega);refine⟨this.1,this.2.1,?_⟩;rw[List.foldl_cons,this.2.2,List.sum_cons];simp only[xy];omega
theorem bE (l:List Int):(0≤(sm l).1∧(sm l).1<65521)∧(0≤(sm l).2∧(sm l).2<65521)∧(sm l).1=(1+l.sum) % 65521:=
 sm_go l (1,0) (by constructor <;> simp) (by constructor <;> simp)
theorem cy (l:List Int):0≤rS l∧rS l<4294967296:=by
 have:=bE l;unfold rS;omega
def dR (e:Ent):Bool:=decide (0≤e.seq)&&decide (e.seq≤1000000000000)&&decide (0≤e.time)&&decide (e.time≤1000000000000)&&decide (e.text.size≤60)
def fol (e last:Ent):Bool:=decide (last.seq<e.seq)&&decide (last.time≤e.time)
def e0:Ent:=⟨0,0,ByteArray.empty⟩
def vq (l:List Ent) (i:Nat):Bool:=dR (l.getD i e0)&&(decide (i=0) || fol (l.getD i e0) (l.getD (i-1) e0))
def dQ (l:List Ent):Prop:=1≤l.length∧l.length≤64∧∀i,i<l.length→vq l i=true
def oj (e:Ent):List Int:=num e.seq 8++(num e.time 8++(((e.text.size:Int) % 256)::tb e.text))
def hd (l:List Ent):List Int:=num l.length 2++(l.map oj).flatten
theorem kA {l:List Ent}(h:dQ l):∀e∈l,dR e=true:=by
 intro e he;obtain⟨i,hi,rfl⟩:=List.mem_iff_getElem.1 he;have:=h.2.2 i hi;unfold vq at this;rw[Bool.and_eq_true]at this
 simpa [List.getD,hi] using this.1
end Go.Proofs.YtkncboinfcnklaaGreatDoor.Mth
namespace Go.Proofs.YtkncboinfcnklaaGreatDoor
open Go.RowKit Go.Deep Go.Proofs.YtkncboinfcnklaaGreatDoor.Mth
abbrev eV (e:Ent):Value:=.agg #[.int .i64 e.seq, .int .i64 e.time, .string e.text]
theorem zJ {w w':World}{n:Nat}(h:Below (w.drewN n).heap.size (w.drewN n) w'):Below w.heap.size w w':=⟨h.os,h.tape,h.output,h.size,h.block⟩
theorem mZ (w:World) (n:Nat):Below w.heap.size w (w.drewN n):=⟨rfl,rfl,rfl,Nat.le_refl _,fun _ _=>rfl⟩
end Go.Proofs.YtkncboinfcnklaaGreatDoor
