import Derived.Test.YtkncboinfcnklaaGreatDoorQ16
namespace Go.Proofs.YtkncboinfcnklaaGreatDoor
open Go.RowKit Go.Deep Go.Shelf Go.Proofs.YtkncboinfcnklaaGreatDoor.Mth
theorem yT (f:Wk→Nat):∀(ks:List Wk) (q:Nat) (k':Wk),q<ks.length→((ks.set q k').map f).sum+f (ks.getD q zo)=(ks.map f).sum+f k'
 | [],q,k',h=>absurd h (by simp)
 | k::ks,0,k',_=>by simp[List.getD];omega
 | k::ks,q+1,k',h=>by
  have ih:=yT f ks q k' (by simpa using h);simp[List.getD]at ih ⊢;omega
theorem kE (f:Wk→Nat):∀ {ks:List Wk},0<(ks.map f).sum→∃k∈ks,0<f k
 | [],h=>absurd h (by simp)
 | k::ks,h=>by
  by_cases h0:0<f k
  ·exact⟨k,by simp,h0⟩
  ·obtain⟨k',h1,h2⟩:=kE f (ks:=ks) (by simp at h;omega);exact⟨k',by simp[h1],h2⟩
theorem qA (f:Wk→Nat):∀ {ks:List Wk}{k:Wk},k∈ks→f k≤(ks.map f).sum
 | k0::ks,k,h=>by
  rcases List.mem_cons.1 h with e|e
  ·subst e;simp
  ·have:=qA f e;simp;omega
theorem qT {ks:List Wk}{q:Nat}(h:q<ks.length):ks.getD q zo∈ks:=by
 rw[←List.getElem_eq_getD (h:=h)];exact List.getElem_mem h
def tc (i:Nat) (k:Wk):Nat:=k.list.count i+(if k.runs=some i then 1 else 0)
def ct (ks:List Wk) (i:Nat):Nat:=(ks.map (tc i)).sum
theorem oO (k:Wk) (i:Nat):xT k i=true↔0<tc i k:=by
 unfold xT tc;by_cases h:k.runs=some i
 ·simp[h]
 ·simp[h,List.count_pos_iff]
theorem dg (ks:List Wk) (i:Nat):wZ ks i=true↔0<ct ks i:=by
 unfold wZ ct;rw[List.any_eq_true];constructor
 ·rintro ⟨k,h1,h2⟩;exact Nat.lt_of_lt_of_le ((oO k i).1 h2) (qA (tc i) h1)
 ·intro h;obtain⟨k,h1,h2⟩:=kE (tc i) h;exact⟨k,h1,(oO k i).2 h2⟩
theorem si (ks:List Wk) (i:Nat):wZ ks i=false↔ct ks i=0:=by
 have:=dg ks i;cases h:wZ ks i
 ·rw[h]at this;simp at this ⊢;omega
 ·rw[h]at this;simp at this ⊢;omega
def tU (fan:Nat) (k:Wk):Nat:=(fan+1)*k.list.length+(if k.runs.isSome then fan-k.read else 0)
def vw (fan:Nat) (ks:List Wk):Nat:=(ks.map (tU fan)).sum
theorem iP (fan:Nat) (n:Nat→Nat) (ks:List Wk) (i j:Nat) (h0:0<ks.length):ct (yf fan n ks i) j=ct ks j+(if j=i∧fan≤n i∧ct ks i=0 then 1 else 0):=by
 unfold yf;by_cases h:fan≤n i∧wZ ks i=false
 ·rw[if_pos h];have hq:i % ks.length<ks.length:=Nat.mod_lt _ h0;have:=yT (tc j) ks (i % ks.length) ⟨(ks.getD (i % ks.length) zo).list++[i],(ks.getD (i % ks.length) zo).runs,(ks.getD (i % ks.length) zo).read⟩ hq;have h2:=(si ks i).1 h.2;unfold ct at h2 ⊢;generalize ((ks.set (i % ks.length) ⟨(ks.getD (i % ks.length) zo).list++[i],(ks.getD (i % ks.length) zo).runs,(ks.getD (i % ks.length) zo).read⟩).map (tc j)).sum=s at *;simp only[tc,List.count_append,List.count_singleton]at this;by_cases hj:j=i
  ·subst hj;rw[if_pos ⟨rfl,h.1,h2⟩];simp at this;omega
  ·rw[if_neg (fun q=>hj q.1)]
   have:(i == j)=false:=by simp;omega
   simp[this]at *;omega
 ·rw[if_neg h,if_neg]
  ·rfl
  ·rintro ⟨_,h1,h2⟩;exact h ⟨h1,(si ks i).2 h2⟩
theorem wU (fan:Nat) (n:Nat→Nat) (ks:List Wk) (h0:0<ks.length):∀k j,ct (zO fan n ks k) j=ct ks j+(if j<k∧fan≤n j∧ct ks j=0 then 1 else 0)
 | 0,j=>by simp[zO]
 | k+1,j=>by
  rw[zO,iP fan n _ k j (by rw[yh];exact h0),wU fan n ks h0 k j,wU fan n ks h0 k k];rw[if_neg (show ¬(k<k∧fan≤n k∧ct ks k=0) from fun q=>by omega),Nat.add_zero];by_cases hj:j=k
  ·subst hj;rw[if_neg (show ¬(j<j∧fan≤n j∧ct ks j=0) from fun q=>by omega)];by_cases h:fan≤n j∧ct ks j=0
   ·rw[if_pos ⟨rfl,h⟩,if_pos ⟨by omega,h⟩]
   ·rw[if_neg (fun q=>h q.2),if_neg (fun q=>h q.2)]
  ·rw[if_neg (show ¬(j=k∧fan≤n k∧ct ks k=0) from fun q=>hj q.1),Nat.add_zero];by_cases h:j<k∧fan≤n j∧ct ks j=0
   ·rw[if_pos h,if_pos ⟨by omega,h.2⟩]
   ·rw[if_neg h,if_neg (fun q=>h ⟨by omega,q.2⟩)]
def dn (fan:Nat) (n:Nat→Nat) (ks:List Wk):Nat→Nat
 | 0=>0
 | k+1=>dn fan n ks k+(if fan≤n k∧ct ks k=0 then 1 else 0)
theorem lK (fan:Nat) (n:Nat→Nat) (ks:List Wk) (i:Nat) (h0:0<ks.length):vw fan (yf fan n ks i)=vw fan ks+(if fan≤n i∧ct ks i=0 then fan+1 else 0):=by
 unfold yf;by_cases h:fan≤n i∧wZ ks i=false
 ·rw[if_pos h,if_pos ⟨h.1,(si ks i).1 h.2⟩];have hq:i % ks.length<ks.length:=Nat.mod_lt _ h0;have:=yT (tU fan) ks (i % ks.length) ⟨(ks.getD (i % ks.length) zo).list++[i],(ks.getD (i % ks.length) zo).runs,(ks.getD (i % ks.length) zo).read⟩ hq;unfold vw;generalize ((ks.set (i % ks.length) ⟨(ks.getD (i % ks.length) zo).list++[i],(ks.getD (i % ks.length) zo).runs,(ks.getD (i % ks.length) zo).read⟩).map (tU fan)).sum=s at *;simp only[tU,List.length_append,List.length_singleton,Nat.mul_add,Nat.mul_one]at this;omega
 ·rw[if_neg h,if_neg]
  ·rfl
  ·rintro ⟨h1,h2⟩;exact h ⟨h1,(si ks i).2 h2⟩
theorem qd (fan:Nat) (n:Nat→Nat) (ks:List Wk) (h0:0<ks.length):∀k,vw fan (zO fan n ks k)=vw fan ks+(fan+1)*dn fan n ks k
 | 0=>by simp[zO,dn]
 | k+1=>by
  rw[zO,lK fan n _ k (by rw[yh];exact h0),qd fan n ks h0 k,wU fan n ks h0 k k,dn];rw[if_neg (show ¬(k<k∧fan≤n k∧ct ks k=0) from fun q=>by omega)];simp only[Nat.add_zero];by_cases h:fan≤n k∧ct ks k=0
  ·rw[if_pos h,if_pos h,Nat.mul_add];omega
  ·rw[if_neg h,if_neg h];simp only[Nat.add_zero]
theorem yN (fan:Nat) (n:Nat→Nat) (ks:List Wk) (h0:0<ks.length):∀k q,((zO fan n ks k).getD q zo).runs=(ks.getD q zo).runs∧((zO fan n ks k).getD q zo).read=(ks.getD q zo).read
 | 0,q=>⟨rfl,rfl⟩
 | k+1,q=>by
  have ih:=yN fan n ks h0 k;rw[zO];unfold yf;split
  ·have hq:k % (zO fan n ks k).length<(zO fan n ks k).length:=Nat.mod_lt _ (by rw[yh];exact h0);rw[zU hq];split
   ·rename_i e
    subst e;exact ih _
   ·exact ih q
  ·exact ih q
theorem vg:∀(l:List Nat) (i j:Nat),i<l.length→(l.eraseIdx i).count j+(if l.getD i 0=j then 1 else 0)=l.count j
 | [],i,j,h=>absurd h (by simp)
 | a::l,0,j,_=>by simp[List.getD,List.count_cons]
 | a::l,i+1,j,h=>by
  have:=vg l i j (by simpa using h);rw[List.eraseIdx_cons_succ,List.count_cons,List.count_cons,List.getD_cons_succ];omega
theorem pj (fan:Nat) (l:List Nat) (x r:Nat):tU fan ⟨l,some x,r⟩=(fan+1)*l.length+(fan-r):=by simp[tU]
theorem sN {fan:Nat}{k:Wk}(h:k.runs=none):tU fan k=(fan+1)*k.list.length:=by simp[tU,h]
theorem mC (j:Nat) (l:List Nat) (x r:Nat):tc j ⟨l,some x,r⟩=l.count j+(if x=j then 1 else 0):=by simp[tc]
theorem pr {j:Nat}{k:Wk}(h:k.runs=none):tc j k=k.list.count j:=by simp[tc,h]
theorem nH (ks:List Wk) (q i j:Nat) (hq:q<ks.length) (hi:i<(ks.getD q zo).list.length) (hr:(ks.getD q zo).runs=none):ct ((xX ks q i).set q ⟨((xX ks q i).getD q zo).list,some ((ks.getD q zo).list.getD i 0),((xX ks q i).getD q zo).read⟩) j=ct ks j:=by
 unfold xX;rw[zU hq,if_pos rfl,List.set_set];have:=yT (tc j) ks q ⟨(ks.getD q zo).list.eraseIdx i,some ((ks.getD q zo).list.getD i 0),(ks.getD q zo).read⟩ hq;have hc:=vg (ks.getD q zo).list i j hi;rw[mC,pr hr]at this;unfold ct;simp only;omega
theorem pK (fan:Nat) (ks:List Wk) (q i:Nat) (hq:q<ks.length) (hi:i<(ks.getD q zo).list.length) (hr:(ks.getD q zo).runs=none) (h0:(ks.getD q zo).read=0):vw fan ((xX ks q i).set q ⟨((xX ks q i).getD q zo).list,some ((ks.getD q zo).list.getD i 0),((xX ks q i).getD q zo).read⟩)+1=vw fan ks:=by
 unfold xX;rw[zU hq,if_pos rfl,List.set_set];have:=yT (tU fan) ks q ⟨(ks.getD q zo).list.eraseIdx i,some ((ks.getD q zo).list.getD i 0),(ks.getD q zo).read⟩ hq
 have hl:((ks.getD q zo).list.eraseIdx i).length+1=(ks.getD q zo).list.length:=by rw[List.length_eraseIdx,if_pos hi];omega
 have e2:tU fan ⟨(ks.getD q zo).list.eraseIdx i,some ((ks.getD q zo).list.getD i 0),(ks.getD q zo).read⟩=(fan+1)*((ks.getD q zo).list.eraseIdx i).length+fan:=by rw[pj,h0];rfl
 have e3:tU fan (ks.getD q zo)=(fan+1)*(ks.getD q zo).list.length:=sN hr;rw[e2,e3,←hl,Nat.mul_add]at this;unfold vw;simp only;omega
theorem nG (ks:List Wk) (q o i j:Nat) (hq:q<ks.length) (ho:o<ks.length) (hne:q≠o) (hi:i<(ks.getD o zo).list.length) (hr:(ks.getD q zo).runs=none):ct ((xX ks o i).set q ⟨((xX ks o i).getD q zo).list,some ((ks.getD o zo).list.getD i 0),((xX ks o i).getD q zo).read⟩) j=ct ks j:=by
 have hl:(xX ks o i).length=ks.length:=ye ks o i
 have hg:(xX ks o i).getD q zo=ks.getD q zo:=by unfold xX;rw[zU ho,if_neg hne]
 have s1:=yT (tc j) (xX ks o i) q ⟨((xX ks o i).getD q zo).list,some ((ks.getD o zo).list.getD i 0),((xX ks o i).getD q zo).read⟩ (by rw[hl];exact hq);have s2:=yT (tc j) ks o ⟨(ks.getD o zo).list.eraseIdx i,(ks.getD o zo).runs,(ks.getD o zo).read⟩ ho;have hc:=vg (ks.getD o zo).list i j hi;rw[hg]at s1 ⊢;have e1:tc j ⟨(ks.getD q zo).list,some ((ks.getD o zo).list.getD i 0),(ks.getD q zo).read⟩=(ks.getD q zo).list.count j+(if (ks.getD o zo).list.getD i 0=j then 1 else 0):=mC _ _ _ _;have e2:tc j (ks.getD q zo)=(ks.getD q zo).list.count j:=pr hr;have e3:tc j ⟨(ks.getD o zo).list.eraseIdx i,(ks.getD o zo).runs,(ks.getD o zo).read⟩=((ks.getD o zo).list.eraseIdx i).count j+(if (ks.getD o zo).runs=some j then 1 else 0):=rfl;have e4:tc j (ks.getD o zo)=(ks.getD o zo).list.count j+(if (ks.getD o zo).runs=some j then 1 else 0):=rfl;rw[e1,e2]at s1;rw[e3,e4]at s2;have e5:((ks.set o ⟨(ks.getD o zo).list.eraseIdx i,(ks.getD o zo).runs,(ks.getD o zo).read⟩).map (tc j)).sum=((xX ks o i).map (tc j)).sum:=rfl;unfold ct;omega
theorem pJ (fan:Nat) (ks:List Wk) (q o i:Nat) (hq:q<ks.length) (ho:o<ks.length) (hne:q≠o) (hi:i<(ks.getD o zo).list.length) (hr:(ks.getD q zo).runs=none) (h0:(ks.getD q zo).read=0):vw fan ((xX ks o i).set q ⟨((xX ks o i).getD q zo).list,some ((ks.getD o zo).list.getD i 0),((xX ks o i).getD q zo).read⟩)+1=vw fan ks:=by
 have hl:(xX ks o i).length=ks.length:=ye ks o i
 have hg:(xX ks o i).getD q zo=ks.getD q zo:=by unfold xX;rw[zU ho,if_neg hne]
 have s1:=yT (tU fan) (xX ks o i) q ⟨((xX ks o i).getD q zo).list,some ((ks.getD o zo).list.getD i 0),((xX ks o i).getD q zo).read⟩ (by rw[hl];exact hq);have s2:=yT (tU fan) ks o ⟨(ks.getD o zo).list.eraseIdx i,(ks.getD o zo).runs,(ks.getD o zo).read⟩ ho
 have hll:((ks.getD o zo).list.eraseIdx i).length+1=(ks.getD o zo).list.length:=by rw[List.length_eraseIdx,if_pos hi];omega
 rw[hg]at s1 ⊢
 have e1:tU fan ⟨(ks.getD q zo).list,some ((ks.getD o zo).list.getD i 0),(ks.getD q zo).read⟩=(fan+1)*(ks.getD q zo).list.length+fan:=by rw[pj,h0];rfl
 have e2:tU fan (ks.getD q zo)=(fan+1)*(ks.getD q zo).list.length:=sN hr;have e3:tU fan ⟨(ks.getD o zo).list.eraseIdx i,(ks.getD o zo).runs,(ks.getD o zo).read⟩=(fan+1)*((ks.getD o zo).list.eraseIdx i).length+(if (ks.getD o zo).runs.isSome then fan-(ks.getD o zo).read else 0):=rfl;have e4:tU fan (ks.getD o zo)=(fan+1)*(ks.getD o zo).list.length+(if (ks.getD o zo).runs.isSome then fan-(ks.getD o zo).read else 0):=rfl;rw[e1,e2]at s1;rw[e3,e4,←hll,Nat.mul_add]at s2;have e5:((ks.set o ⟨(ks.getD o zo).list.eraseIdx i,(ks.getD o zo).runs,(ks.getD o zo).read⟩).map (tU fan)).sum=((xX ks o i).map (tU fan)).sum:=rfl;unfold vw;omega
theorem wu (lev:Nat→List (List Ent)):yv lev=lev 5++(lev 4++(lev 3++(lev 2++(lev 1++lev 0)))):=by
 have:zL 6=[⟨5,by omega⟩,⟨4,by omega⟩,⟨3,by omega⟩,⟨2,by omega⟩,⟨1,by omega⟩,⟨0,by omega⟩]:=by decide
 unfold yv;rw[this];simp only[List.flatMap_cons,List.flatMap_nil,List.append_nil]
def rX (L:Lg):List Ent:=(yv L.lev).flatten++L.mem
theorem tz (L:Lg):rX L=(L.lev 5).flatten++((L.lev 4).flatten++((L.lev 3).flatten++((L.lev 2).flatten++((L.lev 1).flatten++((L.lev 0).flatten++L.mem))))):=by
 unfold rX;rw[wu];simp[List.flatten_append]
theorem yG {lev:Nat→List (List Ent)}{i:Nat}(hi:i<6){es:List Ent}(h:es∈lev i):es∈yv lev:=by
 rw[wu];simp only[List.mem_append]
 rcases(show i=0∨i=1∨i=2∨i=3∨i=4∨i=5 by omega)with rfl|rfl|rfl|rfl|rfl|rfl <;> simp[h]
theorem oK {lev:Nat→List (List Ent)}{es:List Ent}(h:es∈yv lev):∃i,i<6∧es∈lev i:=by
 rw[wu]at h;simp only[List.mem_append]at h
 rcases h with h|h|h|h|h|h
 ·exact⟨5,by omega,h⟩
 ·exact⟨4,by omega,h⟩
 ·exact⟨3,by omega,h⟩
 ·exact⟨2,by omega,h⟩
 ·exact⟨1,by omega,h⟩
 ·exact⟨0,by omega,h⟩
structure AllOk (all:List Ent) (clock:Nat):Prop where
 num:∀j,j<all.length→(all.getD j e0).seq=(j:Int)
 tms:all.Pairwise (fun a b=>a.time≤b.time)
 bd:∀e∈all,0≤e.time∧e.time≤(clock:Int)∧e.text.size≤60
theorem AllOk.sqs {all:List Ent}{c:Nat}(h:AllOk all c):all.Pairwise (fun a b=>a.seq<b.seq):=by
 rw[List.pairwise_iff_getElem];intro i j hi hj hij;have h1:=h.num i hi;have h2:=h.num j hj;rw[←List.getElem_eq_getD (h:=hi)]at h1;rw[←List.getElem_eq_getD (h:=hj)]at h2;omega
theorem AllOk.mem {all:List Ent}{c:Nat}(h:AllOk all c){e:Ent}(he:e∈all):∃j,j<all.length∧e.seq=(j:Int)∧all.getD j e0=e:=by
 obtain⟨j,hj,rfl⟩:=List.getElem_of_mem he;have h1:=h.num j hj;rw[←List.getElem_eq_getD (h:=hj)]at h1;exact⟨j,hj,h1,by rw[List.getElem_eq_getD e0]⟩
theorem AllOk.later {all:List Ent}{c n:Nat}(h:AllOk all c):AllOk all (c+n):=⟨h.num,h.tms,fun e he=>by have:=h.bd e he;omega⟩
theorem AllOk.snoc {all:List Ent}{c:Nat}(h:AllOk all c){s:ByteArray}(hs:s.size≤60):AllOk (all++[⟨(all.length:Int),(c:Int),s⟩]) c:=by
 refine⟨fun j hj=>?_,?_,fun e he=>?_⟩
 ·by_cases h1:j<all.length
  ·have:=h.num j h1;rw[←List.getElem_eq_getD (h:=h1)]at this;rw[←List.getElem_eq_getD (h:=hj),List.getElem_append_left h1];exact this
  ·have e:j=all.length:=by simp at hj;omega
   subst e;simp[List.getD]
 ·rw[List.pairwise_append];refine⟨h.tms,List.pairwise_singleton _ _,fun a ha b hb=>?_⟩;rw[List.mem_singleton.1 hb];exact(h.bd a ha).2.1
 ·rcases List.mem_append.1 he with h1|h1
  ·exact h.bd e h1
  ·rw[List.mem_singleton.1 h1];exact⟨by simp,by simp,hs⟩
structure Inv (L:Lg) (all:List Ent):Prop where
 cfg:(1≤L.memory∧L.memory≤8)∧(2≤L.fan∧L.fan≤4)∧L.back≤4∧(1≤L.keep∧L.keep≤1000000)∧(1≤L.batch∧L.batch≤8)∧0<L.wks.length
 clk:L.clock≤1000000000000
 ok:AllOk all L.clock
 cnt:L.count=all.length
 sub:(rX L).Sublist all
 gone:∀e∈all,¬e∈rX L→e.time<(L.clock:Int)-(L.keep:Int)∧∀x p,L.tls x=some p→e.seq<(p.2:Int)
 ne:∀es∈yv L.lev,es≠[]
 ml:L.mem.length≤L.memory
 one:∀i,ct L.wks i≤1
 big:∀i,0<ct L.wks i→i≤4∧L.fan≤(L.lev i).length
 due:∀i,i≤4→L.fan≤(L.lev i).length→0<ct L.wks i
 rd:∀q,q<L.wks.length→(∀i,(L.wks.getD q zo).runs=some i→(L.wks.getD q zo).read<L.fan)∧((L.wks.getD q zo).runs=none→(L.wks.getD q zo).read=0)
 plc:∀x p,L.tls x=some p→p.2≤L.count
theorem uo {α:Type}{Q:α→Bool}{R:α→α→Prop}(hR:∀a,¬R a a):∀ {l m:List α},l.Sublist m→m.Pairwise R→(∀e∈m,Q e=true→e∈l)→l.filter Q=m.filter Q
 | _,_, .slnil,_,_=>rfl
 | l,_, .cons (l₂:=m) a h,hp,hq=>by
  have hp':=List.pairwise_cons.1 hp
  have hno:Q a=false:=by
   cases hQ:Q a
   ·rfl
   ·have:=h.subset (hq a (by simp) hQ);exact absurd (hp'.1 a this) (hR a)
  rw[List.filter_cons,hno];exact uo hR h hp'.2 (fun e he hQ=>hq e (by simp[he]) hQ)
 | _,_, .cons_cons (l₁:=l) (l₂:=m) a h,hp,hq=>by
  have hp':=List.pairwise_cons.1 hp;rw[List.filter_cons,List.filter_cons]
  rw[uo hR h hp'.2 (fun e he hQ=>by
   rcases List.mem_cons.1 (hq e (by simp[he]) hQ)with e1|e1
   ·subst e1;exact absurd (hp'.1 e he) (hR e)
   ·exact e1)]
theorem Inv.filter {L:Lg}{all:List Ent}(h:Inv L all) (Q:Ent→Bool) (hQ:∀e∈all,Q e=true→e∈rX L):(rX L).filter Q=all.filter Q:=
 uo (R:=fun a b:Ent=>a.seq<b.seq) (fun a=>by omega) h.sub h.ok.sqs hQ
theorem ju {R:Ent→Ent→Prop}(hr:∀a,R a a){l:List Ent}(h:l.Pairwise R):∀i j,i≤j→j<l.length→R (l.getD i e0) (l.getD j e0):=by
 intro i j hij hj;rw[←List.getElem_eq_getD (h:=by omega),←List.getElem_eq_getD (h:=hj)];by_cases e:i=j
 ·subst e;exact hr _
 ·exact List.pairwise_iff_getElem.1 h i j (by omega) hj (by omega)
theorem Inv.segSub {L:Lg}{all:List Ent}(h:Inv L all){es:List Ent}(he:es∈yv L.lev):es.Sublist all:=
 ((List.sublist_flatten_of_mem he).trans (List.sublist_append_left _ _)).trans h.sub
theorem Inv.memSub {L:Lg}{all:List Ent}(h:Inv L all):L.mem.Sublist all:=(List.sublist_append_right _ _).trans h.sub
theorem Inv.tmsOf {L:Lg}{all:List Ent}(h:Inv L all){es:List Ent}(he:es.Sublist all):Tms es:=ju (R:=fun a b=>a.time≤b.time) (fun _=>by omega) (h.ok.tms.sublist he)
theorem Inv.sqsOf {L:Lg}{all:List Ent}(h:Inv L all){es:List Ent}(he:es.Sublist all):bJ es:=ju (R:=fun a b=>a.seq≤b.seq) (fun _=>by omega) ((h.ok.sqs.imp (fun h=>by omega)).sublist he)
theorem jZ:∀ {l:List (List Ent)},(∀es∈l,es≠[])→l.length≤l.flatten.length
 | [],_=>by simp
 | es::l,h=>by
  have:=jZ (l:=l) (fun x hx=>h x (by simp[hx]));have h1:0<es.length:=List.length_pos_iff.2 (h es (by simp));rw[List.length_cons,List.flatten_cons,List.length_append];omega
theorem Inv.stoLen {L:Lg}{all:List Ent}(h:Inv L all):(yv L.lev).flatten.length+L.mem.length≤all.length:=by
 have:=h.sub.length_le;unfold rX at this;rw[List.length_append]at this;exact this
theorem Inv.levs {L:Lg}{all:List Ent}(h:Inv L all):(L.lev 0).length+(L.lev 1).length+(L.lev 2).length+(L.lev 3).length+(L.lev 4).length+(L.lev 5).length≤all.length:=by
 have h1:=jZ h.ne;have h2:=h.stoLen;rw[wu]at h1;rw[wu]at h2;simp only[List.length_append]at h1;omega
theorem Inv.lev {L:Lg}{all:List Ent}(h:Inv L all) (i:Nat) (hi:i<6):(L.lev i).length≤all.length:=by
 have:=h.levs
 rcases(show i=0∨i=1∨i=2∨i=3∨i=4∨i=5 by omega)with rfl|rfl|rfl|rfl|rfl|rfl <;> omega
theorem Inv.levFlat {L:Lg}{all:List Ent}(h:Inv L all) (i n:Nat) (hi:i<6):((L.lev i).take n).flatten.length≤all.length:=by
 have h1:((L.lev i).take n).flatten.length≤(L.lev i).flatten.length:=by
  have:=congrArg List.length (congrArg List.flatten (List.take_append_drop n (L.lev i)));rw[List.flatten_append,List.length_append]at this;omega
 have h2:=h.sub.length_le;rw[tz]at h2;simp only[List.length_append]at h2
 rcases(show i=0∨i=1∨i=2∨i=3∨i=4∨i=5 by omega)with rfl|rfl|rfl|rfl|rfl|rfl <;> omega
theorem Inv.texts {L:Lg}{all:List Ent}(h:Inv L all){i:Nat}(hi:i<6):∀es∈L.lev i,∀e∈es,e.text.size≤60:=fun _ hes e he=>(h.ok.bd e ((h.segSub (yG hi hes)).subset he)).2.2
theorem qQ {fan:Nat}{n:Nat→Nat}{ks:List Wk}(h0:0<ks.length) (h1:∀i,ct ks i≤1) (h2:∀i,0<ct ks i→i≤4∧fan≤n i) :
  (∀i,ct (zO fan n ks 5) i≤1)∧(∀i,0<ct (zO fan n ks 5) i→i≤4∧fan≤n i)∧(∀i,i≤4→fan≤n i→0<ct (zO fan n ks 5) i):=by
 refine⟨fun i=>?_,fun i hi=>?_,fun i hi hf=>?_⟩
 ·rw[wU fan n ks h0];have:=h1 i
  split <;> omega
 ·rw[wU fan n ks h0]at hi;by_cases h:0<ct ks i
  ·exact h2 i h
  ·split at hi
   ·rename_i q
    exact⟨by omega,q.2.1⟩
   ·omega
 ·rw[wU fan n ks h0];by_cases h:ct ks i=0
  ·rw[if_pos ⟨by omega,hf,h⟩];omega
  ·omega
theorem Inv.app {L:Lg}{all:List Ent}(h:Inv L all){s:ByteArray}(hs:s.size≤60):Inv (L.app s) (all++[⟨(all.length:Int),(L.clock:Int),s⟩]):=by
 have hsto:rX (L.app s)=rX L++[⟨(L.count:Int),(L.clock:Int),s⟩]:=by
  rw[tz,tz];unfold Lg.app Lg.more;by_cases hf:L.memory≤L.mem.length
  ·rw[if_pos hf];simp[Lg.roll,List.flatten_append]
  ·rw[if_neg hf];simp
 have hcf:(L.app s).memory=L.memory∧(L.app s).fan=L.fan∧(L.app s).back=L.back∧(L.app s).keep=L.keep∧(L.app s).batch=L.batch∧(L.app s).clock=L.clock∧(L.app s).tls=L.tls∧(L.app s).count=L.count+1∧(L.app s).wks.length=L.wks.length:=by
  unfold Lg.app Lg.more;by_cases hf:L.memory≤L.mem.length
  ·rw[if_pos hf];refine⟨rfl,rfl,rfl,rfl,rfl,rfl,rfl,rfl,?_⟩;exact yh _ _ _ _
  ·rw[if_neg hf];exact⟨rfl,rfl,rfl,rfl,rfl,rfl,rfl,rfl,rfl⟩
 obtain⟨c1,c2,c3,c4,c5,c6,c7,c8,c9⟩:=hcf;refine⟨by rw[c1,c2,c3,c4,c5,c9];exact h.cfg,by rw[c6];exact h.clk,by rw[c6];exact h.ok.snoc hs,by rw[c8,h.cnt];simp,?_,?_,?_,?_,?_,?_,?_,?_,?_⟩
 ·rw[hsto,h.cnt];exact h.sub.append (List.Sublist.refl _)
 ·intro e he hn;rw[c4,c6,c7];rw[hsto,List.mem_append,h.cnt]at hn
  rcases List.mem_append.1 he with h1|h1
  ·exact h.gone e h1 (fun q=>hn (Or.inl q))
  ·exact absurd (Or.inr h1) hn
 ·intro es he;obtain⟨i,hi,he⟩:=oK he;unfold Lg.app Lg.more at he;by_cases hf:L.memory≤L.mem.length
  ·rw[if_pos hf]at he;simp only[Lg.roll]at he;split at he
   ·rcases List.mem_append.1 he with h1|h1
    ·exact h.ne es (yG hi h1)
    ·rw[List.mem_singleton.1 h1];intro q;have:=h.cfg.1.1;rw[q]at hf;simp at hf;omega
   ·exact h.ne es (yG hi he)
  ·rw[if_neg hf]at he;exact h.ne es (yG hi he)
 ·rw[c1];unfold Lg.app Lg.more;have:=h.cfg.1.1;by_cases hf:L.memory≤L.mem.length
  ·rw[if_pos hf];simp[Lg.roll];omega
  ·rw[if_neg hf];simp;omega
 all_goals
  unfold Lg.app Lg.more;by_cases hf:L.memory≤L.mem.length
  ·rw[if_pos hf]
   have hd:=qQ (fan:=L.fan) (n:=fun i=>(if i=0 then L.lev i++[L.mem] else L.lev i).length) h.cfg.2.2.2.2.2 h.one (fun i hi=>⟨(h.big i hi).1,by
    have:=(h.big i hi).2;by_cases q:i=0
    ·rw[if_pos q,List.length_append];omega
    ·rw[if_neg q];exact this⟩)
   first
   | exact hd.1
   | exact hd.2.1
   | exact hd.2.2
   |(intro q hq
     have hr:=yN L.fan (fun i=>(if i=0 then L.lev i++[L.mem] else L.lev i).length) L.wks h.cfg.2.2.2.2.2 5 q;simp only[Lg.roll]at hq ⊢;rw[yh]at hq;rw[hr.1,hr.2]
     exact h.rd q hq)
   |(intro x p hp
     exact Nat.le_succ_of_le (h.plc x p hp))
  ·rw[if_neg hf]
   first
   | exact h.one
   | exact h.big
   | exact h.due
   | exact h.rd
   |(intro x p hp
     exact Nat.le_succ_of_le (h.plc x p hp))
theorem Inv.tick {L:Lg}{all:List Ent}(h:Inv L all){n:Nat}(hn:L.clock+n≤1000000000000):Inv { L with clock:=L.clock+n } all:=
 ⟨h.cfg,hn,h.ok.later,h.cnt,h.sub,fun e he hq=>⟨by have:=(h.gone e he hq).1;simp only;omega,(h.gone e he hq).2⟩,h.ne,h.ml,h.one,h.big,h.due,h.rd,h.plc⟩
theorem Inv.tail {L:Lg}{all:List Ent}(h:Inv L all){tls':Int→Option (ByteArray × Nat)}{tn' subs':Nat}(ht:∀x p,tls' x=some p→p.2≤L.count∧(p.2=L.count∨∃p0,L.tls x=some p0∧p0.2≤p.2)):Inv { L with tls:=tls',tn:=tn',subs:=subs' } all:=by
 refine⟨h.cfg,h.clk,h.ok,h.cnt,h.sub,fun e he hq=>⟨(h.gone e he hq).1,fun x p hp=>?_⟩,h.ne,h.ml,h.one,h.big,h.due,h.rd,fun x p hp=>(ht x p hp).1⟩
 rcases(ht x p hp).2 with h1|⟨p0,h1,h2⟩
 ·obtain⟨j,hj,h3,_⟩:=h.ok.mem he;have:=h.cnt;omega
 ·have:=(h.gone e he hq).2 x p0 h1;omega
theorem ph (L:Lg) (i m j:Nat):(L.mrg i m).lev j=if j=i then(L.lev i).drop L.fan else if j=i+1 then L.lev (i+1)++(if L.left i m=[] then [] else [L.left i m]) else L.lev j:=by
 unfold Lg.mrg Lg.cut;by_cases hl:L.left i m=[]
 ·rw[if_pos hl];simp only[hl];by_cases h1:j=i
  ·subst h1;simp
  ·rw[if_neg h1,if_neg h1];by_cases h2:j=i+1
   ·subst h2;simp
   ·rw[if_neg h2]
 ·rw[if_neg hl];simp only[Lg.put,if_neg hl];by_cases h1:j=i
  ·subst h1;simp
  ·rw[if_neg h1,if_neg h1];by_cases h2:j=i+1
   ·subst h2;simp
   ·rw[if_neg h2,if_neg h2]
theorem sl (L:Lg) (i m:Nat):(L.mrg i m).mem=L.mem∧(L.mrg i m).fan=L.fan∧(L.mrg i m).memory=L.memory∧(L.mrg i m).back=L.back∧(L.mrg i m).keep=L.keep∧(L.mrg i m).batch=L.batch∧(L.mrg i m).clock=L.clock∧(L.mrg i m).count=L.count∧(L.mrg i m).tls=L.tls∧(L.mrg i m).tn=L.tn∧(L.mrg i m).subs=L.subs:=by
 unfold Lg.mrg Lg.cut
 split <;> exact⟨rfl,rfl,rfl,rfl,rfl,rfl,rfl,rfl,rfl,rfl,rfl⟩
theorem iU (l:List Ent) (ls:List (List Ent)):(ls++(if l=[] then [] else [l])).flatten=ls.flatten++l:=by
 by_cases h:l=[]
 ·rw[if_pos h,h];simp
 ·rw[if_neg h];simp
theorem cJ (L:Lg) (i m:Nat) (hi:i≤4):∃pre post,rX L=pre++(((L.lev i).take L.fan).flatten++post)∧rX (L.mrg i m)=pre++(((L.lev i).take L.fan).flatten.filter (kp ((L.clock:Int)-(L.keep:Int)) m)++post):=by
 have hs:(L.lev i).flatten=((L.lev i).take L.fan).flatten++((L.lev i).drop L.fan).flatten:=by rw[←List.flatten_append,List.take_append_drop]
 have hl:((L.lev i).take L.fan).flatten.filter (kp ((L.clock:Int)-(L.keep:Int)) m)=L.left i m:=rfl;have hf:=iU (L.left i m) (L.lev (i+1));rw[tz L,tz (L.mrg i m),(sl L i m).1,hl];simp only[ph]
 rcases(show i=0∨i=1∨i=2∨i=3∨i=4 by omega)with rfl|rfl|rfl|rfl|rfl
 ·refine⟨(L.lev 5).flatten++((L.lev 4).flatten++((L.lev 3).flatten++((L.lev 2).flatten++(L.lev 1).flatten))),((L.lev 0).drop L.fan).flatten++L.mem,?_,?_⟩
  ·rw[hs];simp only[List.append_assoc]
  ·simp only[Nat.zero_add]at hf;simp[hf,List.append_assoc]
 ·refine⟨(L.lev 5).flatten++((L.lev 4).flatten++((L.lev 3).flatten++(L.lev 2).flatten)),((L.lev 1).drop L.fan).flatten++((L.lev 0).flatten++L.mem),?_,?_⟩
  ·rw[hs];simp only[List.append_assoc]
  ·simp only[Nat.reduceAdd]at hf;simp[hf,List.append_assoc]
 ·refine⟨(L.lev 5).flatten++((L.lev 4).flatten++(L.lev 3).flatten),((L.lev 2).drop L.fan).flatten++((L.lev 1).flatten++((L.lev 0).flatten++L.mem)),?_,?_⟩
  ·rw[hs];simp only[List.append_assoc]
  ·simp only[Nat.reduceAdd]at hf;simp[hf,List.append_assoc]
 ·refine⟨(L.lev 5).flatten++(L.lev 4).flatten,((L.lev 3).drop L.fan).flatten++((L.lev 2).flatten++((L.lev 1).flatten++((L.lev 0).flatten++L.mem))),?_,?_⟩
  ·rw[hs];simp only[List.append_assoc]
  ·simp only[Nat.reduceAdd]at hf;simp[hf,List.append_assoc]
 ·refine⟨(L.lev 5).flatten,((L.lev 4).drop L.fan).flatten++((L.lev 3).flatten++((L.lev 2).flatten++((L.lev 1).flatten++((L.lev 0).flatten++L.mem)))),?_,?_⟩
  ·rw[hs];simp only[List.append_assoc]
  ·simp only[Nat.reduceAdd]at hf;simp[hf,List.append_assoc]
def jO (lev:Nat→List (List Ent)):Nat:=6*(lev 0).length+5*(lev 1).length+4*(lev 2).length+3*(lev 3).length+2*(lev 4).length+(lev 5).length
def mu (L:Lg):Nat:=(L.fan+1)*jO L.lev+vw L.fan L.wks
theorem eF (L:Lg) (i m:Nat) (hi:i≤4) (hf:L.fan≤(L.lev i).length) (h2:2≤L.fan):jO (L.mrg i m).lev+3≤jO L.lev:=by
 have hx:(if L.left i m=[] then([]:List (List Ent)) else [L.left i m]).length≤1:=by split <;> simp
 unfold jO;simp only[ph];generalize (if L.left i m=[] then([]:List (List Ent)) else [L.left i m])=z at *
 rcases(show i=0∨i=1∨i=2∨i=3∨i=4 by omega)with rfl|rfl|rfl|rfl|rfl <;> simp[List.length_append,List.length_drop] <;> omega
theorem Inv.ends {L:Lg}{all:List Ent}(h:Inv L all){q i m:Nat}(hq:q<L.wks.length) (hr:(L.wks.getD q zo).runs=some i) (hm:Need L m) :
  Inv (Lg.ends { L with wks:=L.wks.set q ⟨(L.wks.getD q zo).list,none,0⟩ } i m) all∧mu (Lg.ends { L with wks:=L.wks.set q ⟨(L.wks.getD q zo).list,none,0⟩ } i m)<mu L:=by
 have hct:∀j,ct (L.wks.set q ⟨(L.wks.getD q zo).list,none,0⟩) j+(if i=j then 1 else 0)=ct L.wks j:=by
  intro j;have:=yT (tc j) L.wks q ⟨(L.wks.getD q zo).list,none,0⟩ hq
  have e1:tc j (L.wks.getD q zo)=(L.wks.getD q zo).list.count j+(if i=j then 1 else 0):=by unfold tc;rw[hr];simp only[Option.some.injEq]
  have e2:tc j ⟨(L.wks.getD q zo).list,none,0⟩=(L.wks.getD q zo).list.count j:=pr rfl;rw[e1,e2]at this;unfold ct;omega
 have hi1:0<ct L.wks i:=by have:=hct i;rw[if_pos rfl]at this;omega
 obtain⟨hi4,hfi⟩:=h.big i hi1
 have hpot:vw L.fan (L.wks.set q ⟨(L.wks.getD q zo).list,none,0⟩)+(L.fan-(L.wks.getD q zo).read)=vw L.fan L.wks:=by
  have:=yT (tU L.fan) L.wks q ⟨(L.wks.getD q zo).list,none,0⟩ hq
  have e1:tU L.fan (L.wks.getD q zo)=(L.fan+1)*(L.wks.getD q zo).list.length+(L.fan-(L.wks.getD q zo).read):=by unfold tU;rw[hr];rfl
  have e2:tU L.fan ⟨(L.wks.getD q zo).list,none,0⟩=(L.fan+1)*(L.wks.getD q zo).list.length:=sN rfl;rw[e1,e2]at this;unfold vw;omega
 have hrd:=(h.rd q hq).1 i hr;generalize hks:L.wks.set q ⟨(L.wks.getD q zo).list,none,0⟩=ks at *
 have hkl:ks.length=L.wks.length:=by rw[←hks];simp
 have hk0:0<ks.length:=by rw[hkl];exact h.cfg.2.2.2.2.2
 have hrds:∀p,p<ks.length→(∀j,(ks.getD p zo).runs=some j→(ks.getD p zo).read<L.fan)∧((ks.getD p zo).runs=none→(ks.getD p zo).read=0):=by
  intro p hp;rw[←hks,zU hq];split
  ·exact⟨(fun j e=>by cases e),(fun _=>rfl)⟩
  ·exact h.rd p (by omega)
 have hM:∃M,M=Lg.mrg { L with wks:=ks } i m:=⟨_,rfl⟩;obtain⟨M,hM⟩:=hM;obtain⟨m1,m2,m3,m4,m5,m6,m7,m8,m9,m10,m11⟩:=sl { L with wks:=ks } i m;obtain⟨pre,post,s1,s2⟩:=cJ { L with wks:=ks } i m hi4;have hls:=eF { L with wks:=ks } i m hi4 hfi h.cfg.2.1.1
 have hlv:=fun j=>ph { L with wks:=ks } i m j
 rw[←hM]at m1 m2 m3 m4 m5 m6 m7 m8 m9 m10 m11 s2 hls hlv;simp only at m1 m2 m3 m4 m5 m6 m7 m8 m9 m10 m11 s1 s2 hls hlv
 have hE:Lg.ends { L with wks:=ks } i m={ M with wks:=zO L.fan (fun j=>(M.lev j).length) ks 5 }:=by rw[hM];rfl
 have hstoE:rX { M with wks:=zO L.fan (fun j=>(M.lev j).length) ks 5 }=rX M:=rfl;have hs1:rX { L with wks:=ks }=rX L:=rfl;rw[hs1]at s1;rw[hE]
 have hneed:∀j,L.fan≤(M.lev j).length→j≤4→ct ks j=0→j=i∨j=i+1:=by
  intro j hf hj hc;by_cases e1:j=i
  ·exact Or.inl e1
  ·by_cases e2:j=i+1
   ·exact Or.inr e2
   ·rw[hlv j,if_neg e1,if_neg e2]at hf;have:=h.due j hj hf;have h2:=hct j;rw[if_neg (fun e=>e1 e.symm)]at h2;omega
 have hbig:∀j,0<ct ks j→j≤4∧L.fan≤(M.lev j).length:=by
  intro j hj;have h2:=hct j;have h3:=h.one j;by_cases e:i=j
  ·rw[if_pos e]at h2;omega
  ·rw[if_neg e]at h2;have h4:=h.big j (by omega);refine⟨h4.1,?_⟩;rw[hlv j,if_neg (fun q=>e q.symm)];split
   ·rename_i e2
    rw[List.length_append,←e2];omega
   ·exact h4.2
 have hd:=qQ (fan:=L.fan) (n:=fun j=>(M.lev j).length) hk0 (fun j=>by have:=hct j;have:=h.one j;omega) hbig;refine⟨⟨?_,?_,?_,?_,?_,?_,?_,?_,?_,?_,?_,?_,?_⟩,?_⟩
 ·simp only[yh,hkl,m2,m3,m4,m5,m6];exact h.cfg
 ·simp only[m7];exact h.clk
 ·simp only[m7];exact h.ok
 ·simp only[m8];exact h.cnt
 ·rw[hstoE,s2];have:=h.sub;rw[s1]at this;exact(List.Sublist.append_left (List.Sublist.append_right List.filter_sublist _) _).trans this
 ·intro e he hn;rw[hstoE,s2]at hn;simp only[m5,m7,m9];by_cases hin:e∈rX L
  ·rw[s1]at hin;simp only[List.mem_append,List.mem_filter,not_or,not_and]at hn hin;obtain⟨n1,n2,n3⟩:=hn
   have ha:e∈((L.lev i).take L.fan).flatten:=by
    rcases hin with h1|h1|h1
    ·exact absurd h1 n1
    ·exact h1
    ·exact absurd h1 n3
   have hkp:=n2 ha;simp only[kp,Bool.or_eq_true,decide_eq_true_eq,not_or]at hkp;refine⟨by omega,fun x p hp=>?_⟩;have:=hm.2.1 x p hp;omega
  ·exact h.gone e he hin
 ·intro es hes;obtain⟨j,hj,hes⟩:=oK hes;simp only at hes;rw[hlv j]at hes;split at hes
  ·rename_i e
   exact h.ne es (yG (i:=i) (by omega) (List.mem_of_mem_drop hes))
  ·split at hes
   ·rcases List.mem_append.1 hes with h1|h1
    ·exact h.ne es (yG (i:=i+1) (by omega) h1)
    ·split at h1
     ·cases h1
     ·rename_i hnl
      rw[List.mem_singleton.1 h1];exact hnl
   ·exact h.ne es (yG hj hes)
 ·simp only[m1,m3];exact h.ml
 ·exact hd.1
 ·simp only[m2];exact hd.2.1
 ·simp only[m2];exact hd.2.2
 ·intro p hp;simp only[yh]at hp;have hr2:=yN L.fan (fun j=>(M.lev j).length) ks hk0 5 p;simp only[m2];rw[hr2.1,hr2.2];exact hrds p hp
 ·simp only[m8,m9];exact h.plc
 ·unfold mu;simp only[m2];rw[qd L.fan (fun j=>(M.lev j).length) ks hk0 5]
  have hdn:dn L.fan (fun j=>(M.lev j).length) ks 5≤2:=by
   have hj:∀j,j≤4→j≠i→j≠i+1→¬(L.fan≤(M.lev j).length∧ct ks j=0):=fun j h4 e1 e2 hh=>by
    rcases hneed j hh.1 h4 hh.2 with e|e
    ·exact e1 e
    ·exact e2 e
   have hone:∀j,(if L.fan≤(M.lev j).length∧ct ks j=0 then 1 else 0)≤1:=fun j=>by split <;> omega
   have hz:∀j,j≤4→j≠i→j≠i+1→(if L.fan≤(M.lev j).length∧ct ks j=0 then 1 else 0)=0:=fun j a b c=>if_neg (hj j a b c)
   have o0:=hone 0;have o1:=hone 1;have o2:=hone 2;have o3:=hone 3;have o4:=hone 4;have z0:=hz 0 (by omega);have z1:=hz 1 (by omega);have z2:=hz 2 (by omega);have z3:=hz 3 (by omega);have z4:=hz 4 (by omega);simp only[dn]
   rcases(show i=0∨i=1∨i=2∨i=3∨i=4 by omega)with rfl|rfl|rfl|rfl|rfl
   ·have:=z2 (by omega) (by omega);have:=z3 (by omega) (by omega);have:=z4 (by omega) (by omega);omega
   ·have:=z0 (by omega) (by omega);have:=z3 (by omega) (by omega);have:=z4 (by omega) (by omega);omega
   ·have:=z0 (by omega) (by omega);have:=z1 (by omega) (by omega);have:=z4 (by omega) (by omega);omega
   ·have:=z0 (by omega) (by omega);have:=z1 (by omega) (by omega);have:=z2 (by omega) (by omega);omega
   ·have:=z0 (by omega) (by omega);have:=z1 (by omega) (by omega);have:=z2 (by omega) (by omega);have:=z3 (by omega) (by omega);omega
  have e1:(L.fan+1)*(jO M.lev+3)≤(L.fan+1)*jO L.lev:=Nat.mul_le_mul_left _ hls;have e2:(L.fan+1)*dn L.fan (fun j=>(M.lev j).length) ks 5≤(L.fan+1)*2:=Nat.mul_le_mul_left _ hdn;rw[Nat.mul_add]at e1;omega
theorem Inv.step {L L':Lg}{all:List Ent}(h:Inv L all){q:Nat}{r:Int}(hq:q<L.wks.length) (hs:StepR L q r L') :
  Inv L' all∧0≤r∧r≤2∧L'.mem=L.mem∧((r=0∧L'=L∧(L.wks.getD q zo).runs=none∧∀k∈L.wks,k.list=[])∨mu L'<mu L):=by
 unfold StepR at hs
 cases hr:(L.wks.getD q zo).runs with
 | none=>
  rw[hr]at hs;simp only at hs;have hz:=(h.rd q hq).2 hr;by_cases h0:0<(L.wks.getD q zo).list.length
  ·rw[if_pos h0]at hs;obtain⟨rfl,rfl⟩:=hs
   have hc:=fun j=>nH L.wks q ((L.wks.getD q zo).list.length-1) j hq (by omega) hr
   have hp:=pK L.fan L.wks q ((L.wks.getD q zo).list.length-1) hq (by omega) hr hz;refine⟨⟨by simp only[List.length_set,ye];exact h.cfg,h.clk,h.ok,h.cnt,h.sub,h.gone,h.ne,h.ml,fun i=>by rw[hc];exact h.one i,fun i hi=>by rw[hc]at hi;exact h.big i hi,fun i hi hf=>by rw[hc];exact h.due i hi hf,fun p hp=>?_,h.plc⟩,by omega,by omega,rfl,Or.inr ?_⟩
   ·simp only[List.length_set,ye]at hp;rw[zU (by rw[ye];exact hq)];have hfz:=h.cfg.2.1;split
    ·rename_i e
     unfold xX;rw[zU hq,if_pos rfl];exact⟨fun i _=>by simp only;omega,fun e=>by cases e⟩
    ·rename_i e
     unfold xX;rw[zU hq,if_neg e];exact h.rd p hp
   ·unfold mu;simp only;omega
  ·rw[if_neg h0]at hs;by_cases ho:(L.wks.getD (xL L.wks L.wks.length) zo).list.length=0
   ·rw[if_pos ho]at hs;obtain⟨rfl,rfl⟩:=hs;refine⟨h,by omega,by omega,rfl,Or.inl ⟨rfl,rfl,rfl,fun k hk=>?_⟩⟩
    have hb:∀n p,p<n→((L'.wks.getD p zo).list.length≤(L'.wks.getD (xL L'.wks n) zo).list.length):=by
     intro n
     induction n with
     | zero=>intro p hp;omega
     | succ n ih=>
      intro p hp;rw[xL];by_cases e:p=n
      ·subst e
       split <;> omega
      ·have:=ih p (by omega)
       split <;> omega
    obtain⟨p,hp,rfl⟩:=List.getElem_of_mem hk;have:=hb L'.wks.length p hp;rw[ho,←List.getElem_eq_getD (h:=hp)]at this;exact List.length_eq_zero_iff.1 (by omega)
   ·rw[if_neg ho]at hs;obtain⟨rfl,rfl⟩:=hs;have hol:xL L.wks L.wks.length<L.wks.length:=vo _ _ h.cfg.2.2.2.2.2;generalize xL L.wks L.wks.length=o at *
    have hne:q≠o:=fun e=>by rw[←e]at ho;omega
    have hc:=fun j=>nG L.wks q o 0 j hq hol hne (by omega) hr
    have hp:=pJ L.fan L.wks q o 0 hq hol hne (by omega) hr hz;refine⟨⟨by simp only[List.length_set,ye];exact h.cfg,h.clk,h.ok,h.cnt,h.sub,h.gone,h.ne,h.ml,fun i=>by rw[hc];exact h.one i,fun i hi=>by rw[hc]at hi;exact h.big i hi,fun i hi hf=>by rw[hc];exact h.due i hi hf,fun p hp=>?_,h.plc⟩,by omega,by omega,rfl,Or.inr ?_⟩
    ·simp only[List.length_set,ye]at hp;rw[zU (by rw[ye];exact hq)];have hfz:=h.cfg.2.1;split
     ·rename_i e
      unfold xX;rw[zU hol,if_neg hne];exact⟨fun i _=>by simp only;omega,fun e=>by cases e⟩
     ·rename_i e
      unfold xX;rw[zU hol];split
      ·rename_i e2
       rw[←e2];exact h.rd _ hp
      ·exact h.rd p hp
    ·unfold mu;simp only;omega
 | some i=>
  rw[hr]at hs;simp only at hs;have hz:=(h.rd q hq).1 i hr;by_cases h0:(L.wks.getD q zo).read+1<L.fan
  ·rw[if_pos h0]at hs;obtain⟨rfl,rfl⟩:=hs
   have hc:∀j,ct (L.wks.set q ⟨(L.wks.getD q zo).list,some i,(L.wks.getD q zo).read+1⟩) j=ct L.wks j:=by
    intro j;have:=yT (tc j) L.wks q ⟨(L.wks.getD q zo).list,some i,(L.wks.getD q zo).read+1⟩ hq
    have e1:tc j (L.wks.getD q zo)=(L.wks.getD q zo).list.count j+(if i=j then 1 else 0):=by unfold tc;rw[hr];simp only[Option.some.injEq]
    rw[mC,e1]at this;unfold ct;omega
   have hp:vw L.fan (L.wks.set q ⟨(L.wks.getD q zo).list,some i,(L.wks.getD q zo).read+1⟩)+1=vw L.fan L.wks:=by
    have:=yT (tU L.fan) L.wks q ⟨(L.wks.getD q zo).list,some i,(L.wks.getD q zo).read+1⟩ hq
    have e1:tU L.fan (L.wks.getD q zo)=(L.fan+1)*(L.wks.getD q zo).list.length+(L.fan-(L.wks.getD q zo).read):=by unfold tU;rw[hr];rfl
    rw[pj,e1]at this;unfold vw;omega
   refine⟨⟨by simp only[List.length_set];exact h.cfg,h.clk,h.ok,h.cnt,h.sub,h.gone,h.ne,h.ml,fun i=>by rw[hc];exact h.one i,fun i hi=>by rw[hc]at hi;exact h.big i hi,fun i hi hf=>by rw[hc];exact h.due i hi hf,fun p hp=>?_,h.plc⟩,by omega,by omega,rfl,Or.inr ?_⟩
   ·simp only[List.length_set]at hp;rw[zU hq];split
    ·exact⟨fun i _=>h0,fun e=>by cases e⟩
    ·exact h.rd p hp
   ·unfold mu;simp only;omega
  ·rw[if_neg h0]at hs;obtain⟨rfl,m,hm,rfl⟩:=hs;obtain⟨a,b⟩:=h.ends hq hr hm;exact⟨a,by omega,by omega,(sl _ i m).1,Or.inr b⟩
end Go.Proofs.YtkncboinfcnklaaGreatDoor
