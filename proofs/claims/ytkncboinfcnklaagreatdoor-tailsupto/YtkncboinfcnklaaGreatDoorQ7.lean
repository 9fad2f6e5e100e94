import Derived.Test.YtkncboinfcnklaaGreatDoorQ6
import Derived.Lib.OwnBridge
import Derived.Lib.QuietBelow
set_option maxRecDepth 100000
set_option maxHeartbeats 8000000
namespace Go.Proofs.YtkncboinfcnklaaGreatDoor.WI
open Go.RowKit Go.Deep Mth
theorem pd {α:Type} [NTy α] {enc:α→Value}(henc:∀a p,enc a≠.pointer p){w:World}{sb:Nat}{u:Option Addr}(hc:w.cell? ⟨sb,0,none⟩=some (.pointer u)) (v:Value):∀ {T:BT α},InT enc w T→InT enc (w.setCell ⟨sb,0,none⟩ v) T
 | .nil,_=>trivial
 | .node b o a l r,⟨h0,h1,h2,h3,h4,hl,hr⟩=>by
  have hne:b≠sb:=by
   rintro rfl;rw[hc]at h1
   injection h1 with h1
   exact henc a u h1.symm
  have hk:∀j,(w.setCell ⟨sb,0,none⟩ v).cell? ⟨b,j,none⟩=w.cell? ⟨b,j,none⟩:=fun j=>World.cell?_of_block (w:=w) (a:=⟨b,j,none⟩) (Below.heap_setCell w ⟨sb,0,none⟩ v b hne)
  exact⟨h0,(hk _).trans h1,h2.same (Below.heap_setCell w ⟨sb,0,none⟩ v b hne),(hk _).trans h3,(hk _).trans h4,pd henc hc v hl,pd henc hc v hr⟩
theorem eI_ne (a:Int) (p:Option Addr):eI a≠.pointer p:=by intro h;cases h
def gU (w:World) (sb:Nat) (l:List Int) (x:Int) (e:Ending) (w':World):Prop:=
 e=.returned (.bool (!decide (x∈l)))∧∃T:BT Int,SetAt w' sb T∧w.grownBy w' (some sb)∧(x∈l→lst T=l)∧(¬x∈l→bI (fun a b:Int=>a<b) l x (lst T))∧(∀C t,w.heap[sb]? = some (Obj.cells C t (0,0))→∃C',w'.heap[sb]? = some (Obj.cells C' t (0,0)))
theorem bL (sb:Nat) (T:BT Int) (x:Int) (w:World) (h:SetAt w sb T) (hx:x∈lst T) :
  Calls Tryz.prog 101 #[.pointer (some ⟨sb,0,none⟩), .int .i64 x] w (gU w sb (lst T) x):=by
 have hs:=jd sb T x w h;rw[show decide (x∈lst T)=true from by simp[hx]]at hs;have HS:=zx hs;have H:=zx h;have HX:=zx hx;clear hs h hx
 go_enter Tryz.func101,Tryz.ntmps101
 go_wp2_with (go_at_call 163;refine HS.out.mono ?_;rintro e w' ⟨rfl,rfl⟩);go_ret;exact⟨by simp[HX.out],T,H.out,⟨rfl,rfl,rfl,Nat.le_refl _,fun _ _ _=>rfl⟩,fun _=>rfl,fun hn=>absurd HX.out hn,fun C t h=>⟨C,h⟩⟩
theorem bK (sb:Nat) (T:BT Int) (x:Int) (w:World) (h:SetAt w sb T) (hx:¬x∈lst T) (hb:(lst T).length+1≤4611686018427) :
  Calls Tryz.prog 101 #[.pointer (some ⟨sb,0,none⟩), .int .i64 x] w (gU w sb (lst T) x):=by
 have hs:=jd sb T x w h;rw[show decide (x∈lst T)=false from by simp[hx]]at hs;have HS:=zx hs;have HX:=zx hx;obtain⟨hc,hf,hT,hup⟩:=h;obtain⟨u,hu⟩:=ptr_pointer T;rw[hu]at hc;have W:=zx (fg x T u w hu hT hup hx hb);have hsb:sb<w.heap.size:=World.block_lt_of_cell? _ _ hc;clear hs hx hT hup hu
 go_enter Tryz.func101,Tryz.ntmps101
 go_wp2_with (first
  | (go_at_call 163;refine HS.out.mono ?_;rintro e w' ⟨rfl,rfl⟩)
  | (go_at_call 164;refine W.out.mono ?_;rintro e w1 ⟨p,T1,rfl,hp,hT1,hB1,hP1⟩;have d0:w1.cell? ⟨sb,0,none⟩=some (.pointer u):=(hB1.cell (p:=⟨sb,0,none⟩) hsb).trans hc;have d1:w1.frozen? ⟨sb,0,none⟩=false:=(hB1.frozen (p:=⟨sb,0,none⟩) hsb).trans hf;have HT1:=zx hT1;have HB1:=zx hB1;have HP1:=zx hP1;have Hp:=zx hp;clear hT1 hB1 hP1 hp))
 go_ret;refine⟨by simp[HX.out],T1,⟨?_,?_,pd eI_ne d0 _ HT1.out,HP1.out.1⟩,?_,fun h=>absurd h HX.out,fun _=>HP1.out,fun C t h=>⟨_,by have q:=(HB1.out.block sb hsb).trans h;simp[World.setCell,Array.getElem?_modify,q];rfl⟩⟩
 ·rw[Hp.out];exact World.cell?_setCell_same' _ _ _ (by rw[d0];rfl)
 ·simp[d1]
 ·refine⟨HB1.out.os,HB1.out.tape,HB1.out.output,by simpa [World.setCell] using HB1.out.size,fun k hk hne=>?_⟩;rw[Below.heap_setCell _ _ _ _ (by rintro rfl;exact hne rfl)];exact HB1.out.block k hk
theorem add_any (sb:Nat) (T:BT Int) (x:Int) (w:World) (h:SetAt w sb T) (hb:(lst T).length+1≤4611686018427) :
  Calls Tryz.prog 101 #[.pointer (some ⟨sb,0,none⟩), .int .i64 x] w (gU w sb (lst T) x):=by
 by_cases hx:x∈lst T
 ·exact bL sb T x w h hx
 ·exact bK sb T x w h hx hb
theorem len_any (sb:Nat) (T:BT Int) (w:World) (h:SetAt w sb T) :
  Calls Tryz.prog 153 #[.pointer (some ⟨sb,0,none⟩)] w fun e w'=>e=.returned (.int .i64 (lst T).length)∧w'=w:=by
 obtain⟨hc,_,hT,_⟩:=h;obtain⟨u,hu⟩:=ptr_pointer T;rw[hu]at hc;have S:=zx (xf hu hT);clear hu hT
 go_enter Tryz.func153,Tryz.ntmps153
 go_wp2_with (go_at_call 218;refine S.out.mono ?_;rintro e w' ⟨rfl,rfl⟩);go_ret;exact⟨rfl,rfl⟩
theorem dc {l r:List Int}{a:Int}{i:Nat}(h:i<l.length):(l++a::r).getD i 0=l.getD i 0:=by
 simp[List.getD,List.getElem?_append_left h]
theorem b8 {l r:List Int}{a:Int}{i:Nat}(h:i=l.length):(l++a::r).getD i 0=a:=by
 subst h;simp[List.getD]
theorem iE {l r:List Int}{a:Int}{i:Nat}(h:l.length<i):(l++a::r).getD i 0=r.getD (i-(l.length+1)) 0:=by
 simp only[List.getD];rw[List.getElem?_append_right (by omega),show i-l.length=(i-(l.length+1))+1 by omega,List.getElem?_cons_succ]
theorem at_in (sb:Nat) (T:BT Int) (i:Nat) (w:World) (h:SetAt w sb T) (hi:i<(lst T).length) (hb:(lst T).length≤4611686018427) :
  Calls Tryz.prog 183 #[.pointer (some ⟨sb,0,none⟩), .int .i64 i] w fun e w'=>e=.returned (.tuple #[.int .i64 ((lst T).getD i 0), .bool true])∧w'=w:=by
 have L:=zx (len_any sb T w h);obtain⟨hc,_,hT,_⟩:=h;obtain⟨u,hu⟩:=ptr_pointer T;rw[hu]at hc;have HT:Hid (T.ptr=.pointer u∧InT eI w T):=⟨hu,hT⟩;clear hu hT
 have h0:¬(i:Int)<0:=by omega
 have h1:¬((lst T).length:Int)≤(i:Int):=by omega
 have h2:decide ((lst T).length≤i)=false:=by simp;omega
 go_enter Tryz.func183,Tryz.ntmps183
 go_wp2_with (go_at_call 153;refine L.out.mono ?_;rintro e w' ⟨rfl,hw⟩;rw[hw];clear hw w')
 go_loopg [1,7] (lst T).length (fun k q p wr=>wr=w∧∃(j:Nat) (u':Option Addr) (S:BT Int),q=.int .i64 j∧p=.pointer u'∧(lst S).length=k∧S.ptr=.pointer u'∧InT eI w S∧j<(lst S).length∧(lst S).length≤4611686018427∧(lst S).getD j 0=(lst T).getD i 0)
 case atStart=>exact⟨rfl,i,u,T,rfl,rfl,rfl,HT.out.1,HT.out.2,hi,hb,rfl⟩
 case round=>
  obtain⟨rfl,j,u',S,rfl,rfl,hk,hu',hS,hj,hbs,hin⟩:=hrel;have HIN:=zx hin;have HK:=zx hk;clear hin hk HT h0 h1 h2 hi hb L
  cases S with
  | nil=>simp[lst]at hj
  | node b o a l r=>
   have ho:o=0:=hS.1;subst ho
   have e:u'=some ⟨b,0,none⟩:=by
    have:Value.pointer (some ⟨b,0,none⟩)=.pointer u':=hu'
    injection this with h
    exact h.symm
   subst e;obtain⟨_,c0,c1,c2,c3,hl,hr⟩:=hS;obtain⟨ul,hul⟩:=ptr_pointer l;obtain⟨ur,hur⟩:=ptr_pointer r;rw[hul]at c2;rw[hur]at c3;have SL:=zx (xf hul hl);have HL:Hid (l.ptr=.pointer ul∧InT eI wr l):=⟨hul,hl⟩;have HR:Hid (r.ptr=.pointer ur∧InT eI wr r):=⟨hur,hr⟩
   have hlen:(lst (.node b 0 a l r)).length=(lst l).length+1+(lst r).length:=by simp[lst];omega
   rw[hlen]at hj hbs;have HLEN:=zx hlen;clear hu' c1 hul hur hl hr hc hlen
   rcases Nat.lt_trichotomy j (lst l).length with c|c|c
   ·have q1:((j:Int) != ((lst l).length:Int))=true:=by rw[bne_iff_ne];omega
    have q2:(j:Int)<((lst l).length:Int):=by omega
    go_wp2_with (go_at_call 218;refine SL.out.mono ?_;rintro e w' ⟨rfl,rfl⟩)
    go_roundg (lst l).length
    case measure=>have:=HK.out;have:=HLEN.out;omega
    case rel=>exact⟨rfl,j,ul,l,rfl,rfl,rfl,HL.out.1,HL.out.2,c,by omega,by rw[←HIN.out,lst,dc c]⟩
   ·have q1:((j:Int) != ((lst l).length:Int))=false:=by rw[bne_eq_false_iff_eq];omega
    have C:=zx c;clear c;go_wp2_with (go_at_call 218;refine SL.out.mono ?_;rintro e w' ⟨rfl,rfl⟩);go_ret2
    have e:(lst T).getD i 0=a:=by rw[←HIN.out,lst,b8 C.out]
    exact⟨by rw[e];rfl,rfl⟩
   ·have q1:((j:Int) != ((lst l).length:Int))=true:=by rw[bne_iff_ne];omega
    have q2:¬(j:Int)<((lst l).length:Int):=by omega
    go_wp2_with (go_at_call 218;refine SL.out.mono ?_;rintro e w' ⟨rfl,rfl⟩)
    go_roundg (lst r).length
    case measure=>have:=HK.out;have:=HLEN.out;omega
    case rel=>exact⟨rfl,j-((lst l).length+1),ur,r,by go_num,rfl,rfl,HR.out.1,HR.out.2,by omega,by omega,by rw[←HIN.out,lst,iE c]⟩
theorem Tryz.info3:(Tryz.prog.info? 3).map (fun i=>(i.zero,i.size,i.bytes))=some (some (.int .i64 0),1,8):=by kernel_rfl
theorem wC {B:Nat}{w0 w w2:World}{v:Value}{o:Obj}{e:TypeId}{n:Nat}{xs:List Value}(hb:Below B w0 w) (hB:B≤w.heap.size) (hown:w.ownsRow B e 1 v n xs) (hg:(w.alloc o).grownBy w2 v.ownBlock):Below B w0 w2:=by
 refine(hb.alloc hB o).grown hg (by simp;omega) ?_;intro k hk
 rcases hown.2 with⟨h0,_⟩|⟨g,cap,cur,hv,hbase,_⟩
 ·subst h0;simp[Value.ownBlock]at hk
 ·subst hv;simp[Value.ownBlock]at hk;omega
def su (w0 w:World) (v:Value) (l:List Int):Prop:=Below w0.heap.size w0 w∧w.ownsRow w0.heap.size 3 1 v l.length (l.map eI)
theorem yW {w0 w w2:World}{v v2:Value}{o:Obj}{l:List Int}{a:Int}(h:su w0 w v l) (h2:w2.ownsRow w0.heap.size 3 1 v2 (l.length+1) (l.map eI++[.int .i64 a])) (hg:(w.alloc o).grownBy w2 v.ownBlock):su w0 w2 v2 (l++[a]):=
 ⟨wC h.1 h.1.size h.2 hg,by simpa using h2⟩
theorem xF {w0 w:World}{v:Value}{l:List Int}{n:Nat}(h:su w0 w v l):su w0 (w.drewN n) v l:=⟨⟨h.1.os,h.1.tape,h.1.output,h.1.size,h.1.block⟩,h.2⟩
def gZ (w0:World) (l:List Int) (e:Ending) (w':World):Prop:=∃v',e=.returned v'∧su w0 w' v' l
def sW (lo hi:Int) (w0:World) (T:BT Int):Prop:=∀(u:Option Addr) (w:World) (v:Value) (acc:List Int),T.ptr=.pointer u→InT eI w0 T→(lst T).Pairwise (fun a b:Int=>a<b)→su w0 w v acc→acc.length+(lst T).length≤4194304 →
 Calls Tryz.prog 217 #[.pointer u,v, .int .i64 lo, .int .i64 hi] w (gZ w0 (acc++tT (fun a b:Int=>a<b) lo hi (lst T)))
theorem bV (lo hi:Int) (w0:World):sW lo hi w0 .nil:=by
 intro u w v acc hu _ _ hcur _
 have hu':u=none:=by
  have:Value.pointer none=.pointer u:=hu
  injection this with h
  exact h.symm
 subst hu';have HC:=zx hcur;clear hu hcur
 go_enter Tryz.func217,Tryz.ntmps217
 go_wp2;go_ret;exact⟨v,rfl,by simpa [lst,tT] using HC.out⟩
theorem dT (lo hi:Int) (w0:World) (b:Nat) (a:Int) (l r:BT Int) (ihl:sW lo hi w0 l) (ihr:sW lo hi w0 r) (s1 s2:Int) (hs1:∀w,Calls Tryz.prog 229 #[.int .i64 a, .int .i64 lo] w fun e w'=>e=.returned (.int .i64 s1)∧w'=w) (hs2:∀w,Calls Tryz.prog 229 #[.int .i64 a, .int .i64 hi] w fun e w'=>e=.returned (.int .i64 s2)∧w'=w)
  (u:Option Addr) (w:World) (v:Value) (acc:List Int) (hu:(BT.node b 0 a l r).ptr=.pointer u) (h:InT eI w0 (.node b 0 a l r)) (hup:(lst (.node b 0 a l r)).Pairwise (fun a b:Int=>a<b)) (hcur:su w0 w v acc) (hb:acc.length+(lst (.node b 0 a l r)).length≤4194304) :
  Calls Tryz.prog 217 #[.pointer u,v, .int .i64 lo, .int .i64 hi] w (gZ w0 (acc++((if 0<s1 then tT (fun a b:Int=>a<b) lo hi (lst l) else [])++((if 0≤s1∧s2≤0 then [a] else [])++(if s2<0 then tT (fun a b:Int=>a<b) lo hi (lst r) else []))))):=by
 have hu':u=some ⟨b,0,none⟩:=by
  have:Value.pointer (some ⟨b,0,none⟩)=.pointer u:=hu
  injection this with h
  exact h.symm
 subst hu';have hblt:=wJ h;obtain⟨_,c0,c1,c2,c3,hl,hr⟩:=h;obtain⟨ul,hul⟩:=ptr_pointer l;obtain⟨ur,hur⟩:=ptr_pointer r;rw[hul]at c2;rw[hur]at c3
 have hlen:(lst (.node b 0 a l r)).length=(lst l).length+1+(lst r).length:=by simp[lst];omega
 rw[hlen]at hb;rw[lst]at hup;have hB:=hcur.1;have k0:w.cell? ⟨b,0,none⟩=some (.int .i64 a):=(hB.cell (p:=⟨b,0,none⟩) hblt).trans c0;have k2:w.cell? ⟨b,2,none⟩=some (.pointer ul):=(hB.cell (p:=⟨b,2,none⟩) hblt).trans c2;have k3:w.cell? ⟨b,3,none⟩=some (.pointer ur):=(hB.cell (p:=⟨b,3,none⟩) hblt).trans c3
 have IL:Hid (∀w v acc,su w0 w v acc→acc.length+(lst l).length≤4194304→Calls Tryz.prog 217 #[.pointer ul,v, .int .i64 lo, .int .i64 hi] w (gZ w0 (acc++tT (fun a b:Int=>a<b) lo hi (lst l)))):=
  fun w v acc hc hn=>ihl ul w v acc hul hl (List.pairwise_append.1 hup).1 hc hn
 have IR:Hid (∀w v acc,su w0 w v acc→acc.length+(lst r).length≤4194304→Calls Tryz.prog 217 #[.pointer ur,v, .int .i64 lo, .int .i64 hi] w (gZ w0 (acc++tT (fun a b:Int=>a<b) lo hi (lst r)))):=
  fun w v acc hc hn=>ihr ur w v acc hur hr (List.pairwise_cons.1 (List.pairwise_append.1 hup).2.1).2 hc hn
 have ln:∀x:List Int,(tT (fun a b:Int=>a<b) lo hi x).length≤x.length:=fun x=>List.length_filter_le _ _
 have nl:=ln (lst l);have HC:=zx hcur;have C0:=zx c0;have C2:=zx c2;have C3:=zx c3;have S1:=zx hs1;have S2:=zx hs2;clear hu hul hur hl hr c0 c1 c2 c3 hup hlen ihl ihr hcur hB ln hs1 hs2;generalize tT (fun a b:Int=>a<b) lo hi (lst l)=BL at *;generalize tT (fun a b:Int=>a<b) lo hi (lst r)=BR at *;generalize hres:acc++((if 0<s1 then BL else [])++((if 0≤s1∧s2≤0 then [a] else [])++(if s2<0 then BR else [])))=res;have HRES:=zx hres;clear hres;obtain⟨i0,hi0,hz0,hz1,hz2⟩:=info_parts Tryz.info3
 go_enter Tryz.func217,Tryz.ntmps217
 go_wp2_with fail
 go_quiet (first
  | (go_at_call_of 229 (Value.int .i64 lo);exact Calls.quiet_of_same (S1.out _))
  | (go_at_call_of 229 (Value.int .i64 hi);exact Calls.quiet_of_same (S2.out _)))
 go_wp2_with (first
  | (go_at_call_of 217 (Value.pointer ul);refine(IL.out _ _ _ (xF HC.out) (by omega)).mono ?_;rintro e w1 ⟨v1,rfl,hcur1⟩;have e0:w1.cell? ⟨b,0,none⟩=some (.int .i64 a):=(hcur1.1.cell (p:=⟨b,0,none⟩) hblt).trans C0.out;have e3:w1.cell? ⟨b,3,none⟩=some (.pointer ur):=(hcur1.1.cell (p:=⟨b,3,none⟩) hblt).trans C3.out;have n1:(acc++BL).length≤acc.length+(lst l).length:=(by simp;omega);have HC1:=zx hcur1;clear hcur1)
  | (at_builtin;refine wpList_append_own _ rfl _ _ 149 rfl w0.heap.size 3 i0 (.int .i64 0) 1 8 Tryz.underlying149 hi0 hz0 hz1 hz2 rfl (by decide) _ _ _ rfl (HC1.out.2.alloc _) ⟨w1.heap.size,0,none⟩ 1 1 [.int .i64 a] rfl rfl (cell_one_new _ _ _) (by intro u hu;simp at hu;subst hu;rfl) (by unfold maxLen;omega) (by omega) (by have:=HC1.out.1.size;simp at this ⊢;omega) ?_;intro v2 w2 hown2 hgrow2 _;have hc2:=yW HC1.out hown2 hgrow2;have f0:w2.cell? ⟨b,0,none⟩=some (.int .i64 a):=(hc2.1.cell (p:=⟨b,0,none⟩) hblt).trans C0.out;have f3:w2.cell? ⟨b,3,none⟩=some (.pointer ur):=(hc2.1.cell (p:=⟨b,3,none⟩) hblt).trans C3.out;have n2:((acc++BL)++[a]).length≤(acc++BL).length+1:=(by rw[List.length_append];exact Nat.le_refl _);have HC2:=zx hc2;clear hc2 hown2 hgrow2)
  | (at_builtin;refine wpList_append_own _ rfl _ _ 149 rfl w0.heap.size 3 i0 (.int .i64 0) 1 8 Tryz.underlying149 hi0 hz0 hz1 hz2 rfl (by decide) _ _ _ rfl ((xF (n:=nq) HC.out).2.alloc _) ⟨w.heap.size,0,none⟩ 1 1 [.int .i64 a] rfl rfl (cell_one_new _ _ _) (by intro u hu;simp at hu;subst hu;rfl) (by unfold maxLen;omega) (by omega) (by have:=(xF (n:=nq) HC.out).1.size;simp at this ⊢;omega) ?_;intro v2 w2 hown2 hgrow2 _;have hc2:=yW (xF (n:=nq) HC.out) hown2 hgrow2;have f0:w2.cell? ⟨b,0,none⟩=some (.int .i64 a):=(hc2.1.cell (p:=⟨b,0,none⟩) hblt).trans C0.out;have f3:w2.cell? ⟨b,3,none⟩=some (.pointer ur):=(hc2.1.cell (p:=⟨b,3,none⟩) hblt).trans C3.out;have n2:(acc++[a]).length≤acc.length+1:=(by rw[List.length_append];exact Nat.le_refl _);have HC2:=zx hc2;clear hc2 hown2 hgrow2)
  | (go_at_call_of 217 (Value.pointer ur);refine(IR.out _ _ _ HC2.out (by omega)).mono ?_;rintro e w3 ⟨v3,rfl,hcur3⟩;have HC3:=zx hcur3;clear hcur3)
  | (go_at_call_of 217 (Value.pointer ur);refine(IR.out _ _ _ HC1.out (by omega)).mono ?_;rintro e w3 ⟨v3,rfl,hcur3⟩;have HC3:=zx hcur3;clear hcur3)
  | (go_at_call_of 217 (Value.pointer ur);refine(IR.out _ _ _ (xF HC.out) (by omega)).mono ?_;rintro e w3 ⟨v3,rfl,hcur3⟩;have HC3:=zx hcur3;clear hcur3))
 all_goals go_ret
 all_goals
  refine⟨_,rfl,?_⟩;rw[←HRES.out]
  first|rw[if_pos (by omega:0<s1)] | rw[if_neg (by omega:¬0<s1)]
  first|rw[if_pos (by omega:0≤s1∧s2≤0)] | rw[if_neg (by omega:¬(0≤s1∧s2≤0))]
  first|rw[if_pos (by omega:s2<0)] | rw[if_neg (by omega:¬s2<0)]
  first|simpa using HC3.out|simpa using HC2.out|simpa using HC1.out|simpa using (xF (n:=nq) HC.out)
theorem gC (x y:Int):∃s:Int,(∀w,Calls Tryz.prog 229 #[.int .i64 x, .int .i64 y] w fun e w'=>e=.returned (.int .i64 s)∧w'=w)∧(0<s↔y<x)∧(s<0↔x<y):=by
 rcases Int.lt_trichotomy x y with c|c|c
 ·exact⟨-1,fun w=>cmp_lt x y w c,by omega,by omega⟩
 ·subst c;exact⟨0,fun w=>cmp_eq x w,by omega,by omega⟩
 ·exact⟨1,fun w=>cmp_gt x y w c,by omega,by omega⟩
theorem bU (lo hi:Int) (w0:World) (T:BT Int):sW lo hi w0 T:=by
 induction T with
 | nil=>exact bV lo hi w0
 | node b o a l r ihl ihr=>
  intro u w v acc hu h hup hcur hb;have ho:o=0:=h.1;subst ho;obtain⟨s1,c1,p1,q1⟩:=gC a lo;obtain⟨s2,c2,p2,q2⟩:=gC a hi;have hn:=dT lo hi w0 b a l r ihl ihr s1 s2 c1 c2 u w v acc hu h hup hcur hb;rw[lst]at hup
  have e:acc++tT (fun a b:Int=>a<b) lo hi (lst (.node b 0 a l r))=acc++((if 0<s1 then tT (fun a b:Int=>a<b) lo hi (lst l) else [])++((if 0≤s1∧s2≤0 then [a] else [])++(if s2<0 then tT (fun a b:Int=>a<b) lo hi (lst r) else []))):=by
   rw[lst,dW];congr 1;congr 1
   ·by_cases c:0<s1
    ·rw[if_pos c]
    ·rw[if_neg c];exact bY hup vT (by omega)
   ·congr 1
    ·by_cases c:0≤s1∧s2≤0
     ·rw[if_pos c,if_pos (by omega)]
     ·rw[if_neg c,if_neg (by omega)]
    ·by_cases c:s2<0
     ·rw[if_pos c]
     ·rw[if_neg c];exact dV hup vT (by omega)
  rw[e];exact hn
theorem between_any (sb:Nat) (T:BT Int) (lo hi:Int) (w:World) (h:SetAt w sb T) (hb:(lst T).length≤4194304) :
  Calls Tryz.prog 152 #[.pointer (some ⟨sb,0,none⟩), .int .i64 lo, .int .i64 hi] w (gZ w (tT (fun a b:Int=>a<b) lo hi (lst T))):=by
 obtain⟨hc,_,hT,hup⟩:=h;obtain⟨u,hu⟩:=ptr_pointer T;rw[hu]at hc;have B:=zx (bU lo hi w T u w (.slice none 0 0) [] hu hT hup ⟨Below.refl _ _,World.ownsRow_nil _ _ _ _⟩ (by simpa using hb));clear hu hT hup hb
 go_enter Tryz.func152,Tryz.ntmps152
 go_wp2_with (go_at_call 217;refine B.out.mono ?_;rintro e w1 ⟨v1,rfl,hcur⟩;have HC:=zx hcur;clear hcur);go_ret;exact⟨v1,rfl,by simpa using HC.out⟩
end Go.Proofs.YtkncboinfcnklaaGreatDoor.WI
namespace Go.Proofs.YtkncboinfcnklaaGreatDoor
open Go.RowKit Go.Deep Go.Proofs.YtkncboinfcnklaaGreatDoor.Mth
theorem zX {p:Prop}(h:p):Hid p:=h
theorem gX {p:Nat→Bool}{n c:Nat}(hm:∀i j,i≤j→j<n→p i=true→p j=true) (hp:p c=false) (hc:c<n):∀q,q<c+1→p q=false:=by
 intro q hq;cases h:p q
 ·rfl
 ·have:=hm q c (by omega) hc h;rw[hp]at this;cases this
def jM (w:World) (n:Nat) (p:Nat→Bool) (e:Ending) (w':World):Prop:=∃k:Nat,e=.returned (.int .i64 (k:Int))∧k≤n∧(∀i,i<k→p i=false)∧(∀i,k≤i→i<n→p i=true)∧∃m,w'=w.drewN m
theorem pG (n:Nat) (x y:Nat) (p:Nat→Bool) (w:World) (hn:n≤4194304) (hm:∀i j,i≤j→j<n→p i=true→p j=true)
  (hf:∀i m,i<n→Calls Tryz.prog 150 #[.int .i64 (i:Int), .pointer (some ⟨x,0,none⟩), .pointer (some ⟨y,0,none⟩)] (w.drewN m) fun e w'=>e=.returned (.bool (p i))∧∃m',w'=w.drewN m') :
  Calls Tryz.prog 149 #[.int .i64 (n:Int), .func (.func 150) #[] #[.pointer (some ⟨x,0,none⟩), .pointer (some ⟨y,0,none⟩)]] w (jM w n p):=by
 have HM:=zX hm;have HF:=zX hf;clear hm hf
 go_enter Tryz.func149,Tryz.ntmps149
 go_wp2_with fail
 go_loopw [5,6] (fun i j wr=>∃(a b m:Nat),a≤b∧b≤n∧i=.int .i64 a∧j=.int .i64 b∧wr=w.drewN m∧(∀q,q<a→p q=false)∧(∀q,b≤q→q<n→p q=true)) (fun i j _=>(intOf j).toNat-(intOf i).toNat)
 case atStart=>exact⟨0,n,0,Nat.zero_le _,Nat.le_refl _,rfl,rfl,rfl,fun q hq=>absurd hq (Nat.not_lt_zero _),fun q h1 h2=>by omega⟩
 case round=>
  obtain⟨a,b,m,hab,hb,rfl,rfl,rfl,h1,h2⟩:=hrel;have H1:=zX h1;have H2:=zX h2;clear h1 h2;by_cases hlt:a<b
  ·obtain⟨c,hc⟩:∃c,c=(a+b) / 2:=⟨_,rfl⟩
   have hc1:((a:Int)+(b:Int)) / 2=(c:Int):=by omega
   have hca:a≤c:=by omega
   have hcb:c<b:=by omega
   have HC:=zX hc;clear hc;have CF:=zX (HF.out c m (by omega));cases hp:p c
   ·have HP:=zX hp;rw[hp]at CF;clear hp;go_wp2_with (first|(rw[hc1];go_at_call 150;refine CF.out.mono ?_;rintro e w2 ⟨rfl,m2,rfl⟩)|(go_at_call 150;refine CF.out.mono ?_;rintro e w2 ⟨rfl,m2,rfl⟩))
    go_roundw
    case rel=>exact⟨c+1,b,m2,by omega,hb,by go_num,rfl,rfl,gX HM.out HP.out (by omega),H2.out⟩
    case measure=>simp[intOf];omega
   ·have HP:=zX hp;rw[hp]at CF;clear hp;go_wp2_with (first|(rw[hc1];go_at_call 150;refine CF.out.mono ?_;rintro e w2 ⟨rfl,m2,rfl⟩)|(go_at_call 150;refine CF.out.mono ?_;rintro e w2 ⟨rfl,m2,rfl⟩))
    go_roundw
    case rel=>exact⟨a,c,m2,hca,by omega,rfl,by go_num,rfl,H1.out,fun q h1 h2=>HM.out c q h1 h2 HP.out⟩
    case measure=>simp[intOf];omega
  ·have:a=b:=by omega
   subst this;go_wp2;go_ret;exact⟨a,rfl,hb,H1.out,H2.out,m,rfl⟩
theorem pH (n:Nat) (x y:Nat) (p:Nat→Bool) (w:World) (hn:n≤4194304) (hm:∀i j,i≤j→j<n→p i=true→p j=true)
  (hf:∀i m,i<n→Calls Tryz.prog 151 #[.int .i64 (i:Int), .pointer (some ⟨x,0,none⟩), .pointer (some ⟨y,0,none⟩)] (w.drewN m) fun e w'=>e=.returned (.bool (p i))∧∃m',w'=w.drewN m') :
  Calls Tryz.prog 149 #[.int .i64 (n:Int), .func (.func 151) #[] #[.pointer (some ⟨x,0,none⟩), .pointer (some ⟨y,0,none⟩)]] w (jM w n p):=by
 have HM:=zX hm;have HF:=zX hf;clear hm hf
 go_enter Tryz.func149,Tryz.ntmps149
 go_wp2_with fail
 go_loopw [5,6] (fun i j wr=>∃(a b m:Nat),a≤b∧b≤n∧i=.int .i64 a∧j=.int .i64 b∧wr=w.drewN m∧(∀q,q<a→p q=false)∧(∀q,b≤q→q<n→p q=true)) (fun i j _=>(intOf j).toNat-(intOf i).toNat)
 case atStart=>exact⟨0,n,0,Nat.zero_le _,Nat.le_refl _,rfl,rfl,rfl,fun q hq=>absurd hq (Nat.not_lt_zero _),fun q h1 h2=>by omega⟩
 case round=>
  obtain⟨a,b,m,hab,hb,rfl,rfl,rfl,h1,h2⟩:=hrel;have H1:=zX h1;have H2:=zX h2;clear h1 h2;by_cases hlt:a<b
  ·obtain⟨c,hc⟩:∃c,c=(a+b) / 2:=⟨_,rfl⟩
   have hc1:((a:Int)+(b:Int)) / 2=(c:Int):=by omega
   have hca:a≤c:=by omega
   have hcb:c<b:=by omega
   have HC:=zX hc;clear hc;have CF:=zX (HF.out c m (by omega));cases hp:p c
   ·have HP:=zX hp;rw[hp]at CF;clear hp;go_wp2_with (first|(rw[hc1];go_at_call 151;refine CF.out.mono ?_;rintro e w2 ⟨rfl,m2,rfl⟩)|(go_at_call 151;refine CF.out.mono ?_;rintro e w2 ⟨rfl,m2,rfl⟩))
    go_roundw
    case rel=>exact⟨c+1,b,m2,by omega,hb,by go_num,rfl,rfl,gX HM.out HP.out (by omega),H2.out⟩
    case measure=>simp[intOf];omega
   ·have HP:=zX hp;rw[hp]at CF;clear hp;go_wp2_with (first|(rw[hc1];go_at_call 151;refine CF.out.mono ?_;rintro e w2 ⟨rfl,m2,rfl⟩)|(go_at_call 151;refine CF.out.mono ?_;rintro e w2 ⟨rfl,m2,rfl⟩))
    go_roundw
    case rel=>exact⟨a,c,m2,hca,by omega,rfl,by go_num,rfl,H1.out,fun q h1 h2=>HM.out c q h1 h2 HP.out⟩
    case measure=>simp[intOf];omega
  ·have:a=b:=by omega
   subst this;go_wp2;go_ret;exact⟨a,rfl,hb,H1.out,H2.out,m,rfl⟩
theorem rL (n:Nat) (x y z:Nat) (p:Nat→Bool) (w:World) (hn:n≤4194304) (hm:∀i j,i≤j→j<n→p i=true→p j=true)
  (hf:∀i m,i<n→Calls Tryz.prog 220 #[.int .i64 (i:Int), .pointer (some ⟨x,0,none⟩), .pointer (some ⟨y,0,none⟩), .pointer (some ⟨z,0,none⟩)] (w.drewN m) fun e w'=>e=.returned (.bool (p i))∧∃m',w'=w.drewN m') :
  Calls Tryz.prog 149 #[.int .i64 (n:Int), .func (.func 220) #[] #[.pointer (some ⟨x,0,none⟩), .pointer (some ⟨y,0,none⟩), .pointer (some ⟨z,0,none⟩)]] w (jM w n p):=by
 have HM:=zX hm;have HF:=zX hf;clear hm hf
 go_enter Tryz.func149,Tryz.ntmps149
 go_wp2_with fail
 go_loopw [5,6] (fun i j wr=>∃(a b m:Nat),a≤b∧b≤n∧i=.int .i64 a∧j=.int .i64 b∧wr=w.drewN m∧(∀q,q<a→p q=false)∧(∀q,b≤q→q<n→p q=true)) (fun i j _=>(intOf j).toNat-(intOf i).toNat)
 case atStart=>exact⟨0,n,0,Nat.zero_le _,Nat.le_refl _,rfl,rfl,rfl,fun q hq=>absurd hq (Nat.not_lt_zero _),fun q h1 h2=>by omega⟩
 case round=>
  obtain⟨a,b,m,hab,hb,rfl,rfl,rfl,h1,h2⟩:=hrel;have H1:=zX h1;have H2:=zX h2;clear h1 h2;by_cases hlt:a<b
  ·obtain⟨c,hc⟩:∃c,c=(a+b) / 2:=⟨_,rfl⟩
   have hc1:((a:Int)+(b:Int)) / 2=(c:Int):=by omega
   have hca:a≤c:=by omega
   have hcb:c<b:=by omega
   have HC:=zX hc;clear hc;have CF:=zX (HF.out c m (by omega));cases hp:p c
   ·have HP:=zX hp;rw[hp]at CF;clear hp;go_wp2_with (first|(rw[hc1];go_at_call 220;refine CF.out.mono ?_;rintro e w2 ⟨rfl,m2,rfl⟩)|(go_at_call 220;refine CF.out.mono ?_;rintro e w2 ⟨rfl,m2,rfl⟩))
    go_roundw
    case rel=>exact⟨c+1,b,m2,by omega,hb,by go_num,rfl,rfl,gX HM.out HP.out (by omega),H2.out⟩
    case measure=>simp[intOf];omega
   ·have HP:=zX hp;rw[hp]at CF;clear hp;go_wp2_with (first|(rw[hc1];go_at_call 220;refine CF.out.mono ?_;rintro e w2 ⟨rfl,m2,rfl⟩)|(go_at_call 220;refine CF.out.mono ?_;rintro e w2 ⟨rfl,m2,rfl⟩))
    go_roundw
    case rel=>exact⟨a,c,m2,hca,by omega,rfl,by go_num,rfl,H1.out,fun q h1 h2=>HM.out c q h1 h2 HP.out⟩
    case measure=>simp[intOf];omega
  ·have:a=b:=by omega
   subst this;go_wp2;go_ret;exact⟨a,rfl,hb,H1.out,H2.out,m,rfl⟩
abbrev ol (x:Nat):Value:=.agg #[.int .i64 (x:Int), .int .i64 ((x:Int)+1)]
def RdTk (w:World) (v:Value) (l:List Nat):Prop:=
 ∃(a:Option Addr) (c:Nat),v=.slice a l.length c∧l.length≤c∧c≤maxLen∧(l=[]∨∃b,a=some ⟨b,0,none⟩∧∀j,j<l.length→w.cell? ⟨b,j*2,none⟩=some (.int .i64 ((l.getD j 0:Nat):Int))∧w.cell? ⟨b,j*2+1,none⟩=some (.int .i64 (((l.getD j 0:Nat):Int)+1)))
theorem RdTk.below {w w':World}{v:Value}{l:List Nat}(h:RdTk w v l) (hb:Below w.heap.size w w'):RdTk w' v l:=by
 obtain⟨a,c,rfl,hc,hm,h⟩:=h;refine⟨a,c,rfl,hc,hm,?_⟩
 rcases h with h|⟨b,rfl,h⟩
 ·exact Or.inl h
 ·refine Or.inr ⟨b,rfl,fun j hj=>?_⟩;obtain⟨h1,h2⟩:=h j hj;exact⟨(hb.cell (p:=⟨b,j*2,none⟩) (World.block_lt_of_cell? _ _ h1)).trans h1,(hb.cell (p:=⟨b,j*2+1,none⟩) (World.block_lt_of_cell? _ _ h2)).trans h2⟩
theorem zv (w:World) (o:Obj):Below w.heap.size w (w.alloc o):=(Below.refl w.heap.size w).alloc (Nat.le_refl _) o
theorem yR (w:World) (n:Nat):Below w.heap.size w (w.drewN n):=⟨rfl,rfl,rfl,Nat.le_refl _,fun _ _=>rfl⟩
theorem yI {α:Type}{l:List α}{k:Nat}{z:α}(h:k<l.length):l.getD k z∈l:=by
 simp[List.getD,h]
theorem nL {v:Value}{l:List Nat}{w:World}(h:RdTk w v l) (x:Nat) (_hx:x≤100) (hl:∀y∈l,y≤100) :
  Calls Tryz.prog 259 #[v,ol x] w fun e w'=>∃r:Int,e=.returned (.int .i64 r)∧decide (0≤r)=decide (x∈l)∧Below w.heap.size w w':=by
 obtain⟨a,c,rfl,hc,hm,h⟩:=h;unfold maxLen at hm;have HB0:=zX (zv w (Obj.cells #[.int .i64 (x:Int), .int .i64 ((x:Int)+1)] 137));have HH:=zX h;have HL:=zX hl;clear h hl
 have k0:(w.alloc (Obj.cells #[.int .i64 (x:Int), .int .i64 ((x:Int)+1)] 137)).cell? ⟨w.heap.size,0,none⟩=some (.int .i64 (x:Int)):=by simp
 have k1:(w.alloc (Obj.cells #[.int .i64 (x:Int), .int .i64 ((x:Int)+1)] 137)).cell? ⟨w.heap.size,1,none⟩=some (.int .i64 ((x:Int)+1)):=by simp
 generalize hn:l.length=n at *;have HN:=zX hn;clear hn
 go_enter Tryz.func259,Tryz.ntmps259
 go_wp2_with fail;generalize w.alloc (Obj.cells #[.int .i64 (x:Int), .int .i64 ((x:Int)+1)] 137)=w1 at *
 go_loopw [8] (fun i wr=>∃k:Nat,k≤n∧i=.int .i64 k∧Below w1.heap.size w1 wr∧∀j,j<k→l.getD j 0≠x) (fun i _=>n-(intOf i).toNat)
 case atStart=>exact⟨0,Nat.zero_le _,rfl,Below.refl _ _,fun j hj=>absurd hj (Nat.not_lt_zero _)⟩
 case round=>
  obtain⟨k,hk,rfl,hb,hno⟩:=hrel;have HBW:=zX hb;have HNO:=zX hno;have q0:wr.cell? ⟨w.heap.size,0,none⟩=some (.int .i64 (x:Int)):=(hb.cell (p:=⟨w.heap.size,0,none⟩) (World.block_lt_of_cell? _ _ k0)).trans k0;have q1:wr.cell? ⟨w.heap.size,1,none⟩=some (.int .i64 ((x:Int)+1)):=(hb.cell (p:=⟨w.heap.size,1,none⟩) (World.block_lt_of_cell? _ _ k1)).trans k1;clear hb hno k0 k1;by_cases hlt:k<n
  ·rcases HH.out with h|⟨b,rfl,h⟩
   ·have:=HN.out;rw[h]at this;simp at this;omega
   obtain⟨h1,h2⟩:=h k hlt
   have d1:wr.cell? ⟨b,k*2,none⟩=some (.int .i64 ((l.getD k 0:Nat):Int)):=by
    have e:=(HB0.out.cell (p:=⟨b,k*2,none⟩) (World.block_lt_of_cell? _ _ h1)).trans h1;exact(HBW.out.cell (p:=⟨b,k*2,none⟩) (World.block_lt_of_cell? _ _ e)).trans e
   have d2:wr.cell? ⟨b,k*2+1,none⟩=some (.int .i64 (((l.getD k 0:Nat):Int)+1)):=by
    have e:=(HB0.out.cell (p:=⟨b,k*2+1,none⟩) (World.block_lt_of_cell? _ _ h2)).trans h2;exact(HBW.out.cell (p:=⟨b,k*2+1,none⟩) (World.block_lt_of_cell? _ _ e)).trans e
   clear h h1 h2;obtain⟨y,hy⟩:∃y,y=l.getD k 0:=⟨_,rfl⟩;rw[←hy]at d1 d2;have HY:=zX hy;clear hy;by_cases hxy:x=y
   ·subst hxy;go_wp2
    go_quiet (fail)
    go_wp2;go_ret
    exact⟨k,rfl,by
     have hm:x∈l:=by rw[HY.out];exact yI (by rw[HN.out];exact hlt)
     rw[decide_eq_true hm];exact decide_eq_true (by omega),HB0.out.trans (((HBW.out.trans ((yR wr _).mono HBW.out.size))).mono HB0.out.size)⟩
   ·have q2:((x:Int) == (y:Int))=false:=by simp;omega
    go_wp2
    go_quiet (fail)
    go_wp2
    go_roundw
    case rel=>exact⟨k+1,by omega,by go_num,HBW.out.trans ((yR wr _).mono HBW.out.size),fun j hj=>by
     by_cases c:j=k
     ·subst c;rw[←HY.out];exact fun q=>hxy q.symm
     ·exact HNO.out j (by omega)⟩
    case measure=>simp[intOf];omega
  ·go_wp2;go_ret
   exact⟨-1,rfl,by
    have hm:¬x∈l:=fun q=>by
     obtain⟨j,hj,e⟩:=List.mem_iff_getElem.1 q;exact HNO.out j (by rw[HN.out]at hj;omega) (by simp[List.getD,hj,e])
    rw[decide_eq_false hm];rfl,HB0.out.trans (HBW.out.mono HB0.out.size)⟩
theorem re {v:Value}{l:List Nat}{w:World}(h:RdTk w v l) (x:Nat) (hx:x≤100) (hl:∀y∈l,y≤100) :
  Calls Tryz.prog 223 #[v,ol x] w fun e w'=>e=.returned (.bool (decide (x∈l)))∧Below w.heap.size w w':=by
 have HB0:=zX (zv w (Obj.cells #[.int .i64 (x:Int), .int .i64 ((x:Int)+1)] 137));have CI:=zX (nL (h.below HB0.out) x hx hl);obtain⟨a,c,rfl,hc,hm,h⟩:=h;clear h;generalize decide (x∈l)=bb at *
 go_enter Tryz.func223,Tryz.ntmps223
 go_wp2_with (first|(go_at_call 259;refine CI.out.mono ?_;rintro e w2 ⟨r,rfl,hr,hb⟩;have HR:=zX hr;have HB2:=zX hb;clear hr hb));go_ret;exact⟨by rw[←HR.out];rfl,HB0.out.trans (HB2.out.mono HB0.out.size)⟩
structure Wk where
 list:List Nat
 runs:Option Nat
 read:Nat
def rf:Option Nat→Int
 | none=>0
 | some i=>i
def ri:Option Nat→Int
 | none=>0
 | some i=>(i:Int)+1
def au (b:Nat):Option Nat→Value
 | none=>.func (.func 215) #[.pointer (some ⟨b,0,none⟩)] #[]
 | some _=>.func (.func 258) #[.pointer (some ⟨b,0,none⟩)] #[]
def mK (lb b:Nat) (k:Wk) (lv:Value):Array Value:=#[.pointer (some ⟨lb,0,none⟩),lv, .int .i64 (rf k.runs), .int .i64 (ri k.runs), .int .i64 (k.read:Int),au b k.runs]
def WkRd (w:World) (lb b:Nat) (k:Wk):Prop:=∃lv,w.heap[b]? = some (Obj.cells (mK lb b k lv) 139 (0,0))∧RdTk w lv k.list
theorem WkRd.below {w w':World}{lb b:Nat}{k:Wk}(h:WkRd w lb b k) (hb:Below w.heap.size w w'):WkRd w' lb b k:=by
 obtain⟨lv,h1,h2⟩:=h;exact⟨lv,(hb.block b (Mth.gI h1)).trans h1,h2.below hb⟩
theorem zA {w:World}{b:Nat}{C:Array Value}{t:TypeId}{j:Nat}{u:Value}(h:w.heap[b]? = some (Obj.cells C t (0,0))) (hu:C[j]? = some u):w.cell? ⟨b,j,none⟩=some u∧w.frozen? ⟨b,j,none⟩=false:=by
 constructor
 ·simp[World.cell?,h,hu]
 ·simp[World.frozen?,h]
theorem dZ (w:World) (a b c d:Int):(binOp .eql 137 (.agg #[.int .i64 a, .int .i64 b]) (.agg #[.int .i64 c, .int .i64 d])).run Tryz.prog w=.ok (.bool ((a == c)&&(b == d))) w:=by
 simp[go_sem]
 by_cases h1:a=c <;> by_cases h2:b=d <;> simp[h1,h2]
def xT (k:Wk) (x:Nat):Bool:=decide (k.runs=some x) || decide (x∈k.list)
def mF (k:Wk):Prop:=(∀y∈k.list,y≤4)∧(∀y,k.runs=some y→y≤4)
theorem jG {w:World}{lb b:Nat}{k:Wk}(h:WkRd w lb b k) (hk:mF k) (x:Nat) (hx:x≤100) :
  Calls Tryz.prog 159 #[.pointer (some ⟨b,0,none⟩),ol x] w fun e w'=>e=.returned (.bool (xT k x))∧Below w.heap.size w w':=by
 have HB0:=zX (zv w (Obj.cells #[.int .i64 (x:Int), .int .i64 ((x:Int)+1)] 137))
 have k0:(w.alloc (Obj.cells #[.int .i64 (x:Int), .int .i64 ((x:Int)+1)] 137)).cell? ⟨w.heap.size,0,none⟩=some (.int .i64 (x:Int)):=by simp
 have k1:(w.alloc (Obj.cells #[.int .i64 (x:Int), .int .i64 ((x:Int)+1)] 137)).cell? ⟨w.heap.size,1,none⟩=some (.int .i64 ((x:Int)+1)):=by simp
 obtain⟨lv,hb,hl⟩:=h.below HB0.out;generalize hw1:w.alloc (Obj.cells #[.int .i64 (x:Int), .int .i64 ((x:Int)+1)] 137)=w1 at *;have HW1:=zX hw1;obtain⟨c1,_⟩:=zA (j:=1) (u:=lv) hb rfl;obtain⟨c2,_⟩:=zA (j:=2) (u:=.int .i64 (rf k.runs)) hb rfl;obtain⟨c3,_⟩:=zA (j:=3) (u:=.int .i64 (ri k.runs)) hb rfl;have CC:=zX (fun d os=>Calls.regrown_of (w:=w1) (d:=d) (os:=os) ((re (hl.below (below_regrown w1 d os)) x hx (fun y hy=>Nat.le_trans (hk.1 y hy) (by omega))).mono fun e w' q=>⟨q.1,q.2⟩));have d0:=cell_regrown k0;have d1:=cell_regrown k1;have e1:=cell_regrown c1;have e2:=cell_regrown c2;have e3:=cell_regrown c3;clear k0 k1 c1 c2 c3 hw1;obtain⟨a,c,rfl,hc,hm,hl⟩:=hl;clear hl hb h
 have hr:((rf k.runs == (x:Int))&&(ri k.runs == (x:Int)+1))=decide (k.runs=some x):=by
  rw[Bool.eq_iff_iff]
  cases k.runs with
  | none=>simp only[rf,ri,Bool.and_eq_true,beq_iff_eq,decide_eq_true_eq];exact⟨fun h=>by omega,fun h=>by cases h⟩
  | some i=>simp only[rf,ri,Bool.and_eq_true,beq_iff_eq,decide_eq_true_eq,Option.some.injEq];exact⟨fun h=>by omega,fun h=>by subst h;exact⟨rfl,rfl⟩⟩
 generalize hti:xT k x=ti;unfold xT at hti;generalize decide (k.runs=some x)=b1 at *;generalize rf k.runs=r1 at *;generalize ri k.runs=r2 at *;generalize decide (x∈k.list)=b2 at *;have HTI:=zX hti
 have heq:∀W,(binOp .eql 137 (.agg #[.int .i64 r1, .int .i64 r2]) (.agg #[.int .i64 (x:Int), .int .i64 ((x:Int)+1)])).run Tryz.prog W=.ok (.bool b1) W:=fun W=>by rw[dZ,hr]
 clear hti hr;cases b1
 ·go_enter Tryz.func159,Tryz.ntmps159
  go_wp2_with fail;rw[HW1.out];refine wp_region_quiet_below (by kernel_rfl) (by kernel_rfl) ?_
  repeat(go_big_quiet_step (first|(go_at_call 223;exact CC.out _ _)))
  refine wpQuiet_nil ?_;intro _ hw';obtain⟨⟨dq,osq⟩,hw''⟩:=hw';subst hw'';go_wp2;go_ret;exact⟨by rw[←HTI.out];simp,HB0.out.trans ((below_regrown w1 dq osq).mono HB0.out.size)⟩
 ·go_enter Tryz.func159,Tryz.ntmps159
  go_wp2_with fail;rw[HW1.out];refine wp_region_quiet_below (by kernel_rfl) (by kernel_rfl) ?_
  repeat(go_big_quiet_step (first|(go_at_call 223;exact CC.out _ _)))
  refine wpQuiet_nil ?_;intro _ hw';obtain⟨⟨dq,osq⟩,hw''⟩:=hw';subst hw'';go_wp2;go_ret;exact⟨by rw[←HTI.out];simp,HB0.out.trans ((below_regrown w1 dq osq).mono HB0.out.size)⟩
end Go.Proofs.YtkncboinfcnklaaGreatDoor
