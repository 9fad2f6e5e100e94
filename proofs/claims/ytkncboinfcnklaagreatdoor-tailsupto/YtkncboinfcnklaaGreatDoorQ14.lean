import Derived.Test.YtkncboinfcnklaaGreatDoorQ13
import Derived.Lib.BufferWrite
import Derived.Laws.CopyRow
import Derived.Laws.MakeOwn
set_option maxRecDepth 100000
set_option maxHeartbeats 8000000
namespace Go.Proofs.YtkncboinfcnklaaGreatDoor
open Go.RowKit Go.Deep Go.Proofs.YtkncboinfcnklaaGreatDoor.Mth
theorem Tryz.info169:(Tryz.prog.info? 169).map (fun i=>(i.zero,i.size,i.bytes))=some (some (.agg #[.slice none 0 0, .slice none 0 0, .slice none 0 0, .slice none 0 0, .int .i64 0]),5,104):=by kernel_rfl
theorem uL (N n j:Nat):fE N (n*3+j)=fE N j:=by
 unfold fE;rw[show(n*3+j) % 3=j % 3 by omega]
def eM (N:Nat):List Value:=[.int .i64 (-1000-(N:Int)), .int .i64 0, .string ⟨#[]⟩]
theorem pW (N n:Nat):(List.range (1*3)).map (fun j=>fE N (n*3+j))=eM N∧(List.range (2*3)).map (fun j=>fE N (n*3+j))=eM N++eM N∧(List.range (3*3)).map (fun j=>fE N (n*3+j))=eM N++eM N++eM N:=by
 simp only[uL];refine⟨?_,?_,?_⟩
 all_goals simp[List.range_succ,fE,eM]
theorem xN {v1 v2:Value}{l:List Ent}{w:World}(h1:RdE w v1 l) (h2:RdE w v2 l) :
  Calls Tryz.prog 120 #[v1,v2] w fun e w'=>e=.returned (.bool true)∧Below w.heap.size w w':=by
 obtain⟨a1,c1,rfl,hc1,hm1⟩:=uX h1;obtain⟨a2,c2,rfl,hc2,hm2⟩:=uX h2;unfold maxLen at hm1 hm2;have HA:=zx h1;have HB:=zx h2;clear h1 h2;generalize hn:l.length=n at *;have HN:=zx hn;clear hn
 go_enter Tryz.func120,Tryz.ntmps120
 go_wp2_with fail
 go_loopw [5] (fun i wr=>∃k:Nat,k≤n∧i=.int .i64 k∧Below w.heap.size w wr) (fun i _=>n-(intOf i).toNat)
 case atStart=>exact⟨0,Nat.zero_le _,rfl,Below.refl _ _⟩
 case round=>
  obtain⟨k,hk,rfl,hb⟩:=hrel;by_cases hlt:k<n
  ·obtain⟨b1,o1,rfl,_,d0,d1,d2⟩:=uw (HA.out.below hb) k (by rw[HN.out];exact hlt);obtain⟨b2,o2,rfl,_,g0,g1,g2⟩:=uw (HB.out.below hb) k (by rw[HN.out];exact hlt);generalize l.getD k e0=e at *;obtain⟨s,t,x⟩:=e;simp only at d0 d1 d2 g0 g1 g2;have d0':=cell_regrown d0;have d1':=cell_regrown d1;have d2':=cell_regrown d2;have g0':=cell_regrown g0;have g1':=cell_regrown g1;have g2':=cell_regrown g2;have HBB:=zx hb;clear hb d0 d1 d2 g0 g1 g2;go_wp2;refine wp_region_quiet_below (by kernel_rfl) (by kernel_rfl) ?_
   repeat(go_big_quiet_step (fail))
   refine wpQuiet_nil ?_;intro _ hw';obtain⟨⟨dq,osq⟩,hw''⟩:=hw';subst hw'';have HB2:=zx (HBB.out.trans ((below_regrown wr dq osq).mono HBB.out.size));clear d0' d1' d2' g0' g1' g2';generalize Sort.grow (redrawn wr dq) osq=w2 at *;go_wp2
   go_roundw
   case rel=>exact⟨k+1,by omega,by go_num,HB2.out⟩
   case measure=>simp[intOf];omega
  ·go_wp2;go_ret;exact⟨rfl,hb⟩
theorem eB (z:Value) (n:Nat):madeCells #[z] n=Array.replicate n z:=by
 apply Array.ext
 ·simp[madeCells]
 ·intro i h1 h2;simp[madeCells]at h1 ⊢;rw[Nat.mod_one];rfl
def Blk (w:World) (g:Nat) (e:TypeId) (cs:List Value):Prop:=w.heap[g]? = some (Obj.cells cs.toArray e (0,0))
theorem Blk.at {w:World}{g:Nat}{e:TypeId}{cs:List Value}(h:Blk w g e cs){j:Nat}{u:Value}(hu:cs[j]? = some u):w.cell? ⟨g,j,none⟩=some u∧w.frozen? ⟨g,j,none⟩=false:=zy h (by simpa using hu)
end Go.Proofs.YtkncboinfcnklaaGreatDoor
namespace Go.Proofs.YtkncboinfcnklaaGreatDoor
open Go.RowKit Go.Deep Go.Shelf Go.Proofs.YtkncboinfcnklaaGreatDoor.Mth
theorem mg {v1 v2:Value}{l m:List ByteArray}{w:World}(h1:Rd w v1 l) (h2:Rd w v2 m) :
  Calls Tryz.prog 146 #[v1,v2] w fun e w'=>e=.returned (.bool (decide (l=m)))∧Below w.heap.size w w':=by
 obtain⟨a1,c1,rfl,hc1,hm1⟩:=wK h1;obtain⟨a2,c2,rfl,hc2,hm2⟩:=wK h2;unfold maxLen at hm1 hm2;have HA:=zx h1;have HB:=zx h2;clear h1 h2;by_cases hlm:l.length=m.length
 ·have HLM:=zx hlm;rw[←hlm]at hc2 ⊢
  have HB':Hid (Rd w (.slice a2 l.length c2) m):=by have:=HB.out;rw[←hlm]at this;exact this
  clear hlm HB;generalize hn:l.length=n at *;have HN:=zx hn;clear hn
  go_enter Tryz.func146,Tryz.ntmps146
  go_wp2_with fail
  go_loopw [13] (fun i wr=>∃k:Nat,k≤n∧i=.int .i64 k∧(∀j,j<k→l.getD j ByteArray.empty=m.getD j ByteArray.empty)∧Below w.heap.size w wr) (fun i _=>n-(intOf i).toNat)
  case atStart=>exact⟨0,Nat.zero_le _,rfl,fun j hj=>absurd hj (by omega),Below.refl _ _⟩
  case round=>
   obtain⟨k,hk,rfl,hal,hb⟩:=hrel;by_cases hlt:k<n
   ·obtain⟨b1,o1,rfl,_,d1⟩:=qx (HA.out.below hb) k (by rw[HN.out];exact hlt);obtain⟨b2,o2,rfl,_,d2⟩:=qx (HB'.out.below hb) k (by rw[←HLM.out];exact hlt);have d1':=cell_regrown d1;have d2':=cell_regrown d2;have HBB:=zx hb;clear hb d1 d2;have HAL:=zx hal;clear hal;generalize hx:l.getD k ByteArray.empty=x at *;generalize hy:m.getD k ByteArray.empty=y at *;have HX:=zx hx;have HY:=zx hy;clear hx hy;by_cases hxy:x=y
    ·subst hxy;go_wp2;refine wp_region_quiet_below (by kernel_rfl) (by kernel_rfl) ?_
     repeat(go_big_quiet_step (fail))
     refine wpQuiet_nil ?_;intro _ hw';obtain⟨⟨dq,osq⟩,hw''⟩:=hw';subst hw'';have HB2:=zx (HBB.out.trans ((below_regrown wr dq osq).mono HBB.out.size));clear d1' d2';generalize Sort.grow (redrawn wr dq) osq=w2 at *;go_wp2
     go_roundw
     case rel=>exact⟨k+1,by omega,by go_num,fun j hj=>by
      by_cases hjk:j<k
      ·exact HAL.out j hjk
      ·obtain rfl:j=k:=by omega
       exact HX.out.trans HY.out.symm,HB2.out⟩
     case measure=>simp[intOf];omega
    ·have hne:l≠m:=fun q=>hxy (by rw[←HX.out,←HY.out,q])
     have hdec:decide (l=m)=false:=decide_eq_false hne;have hdec2:(x.toList == y.toList)=false:=xr hxy;go_wp2;refine wp_region_quiet_below (by kernel_rfl) (by kernel_rfl) ?_
     repeat(go_big_quiet_step (fail))
     refine wpQuiet_nil ?_;intro _ hw';obtain⟨⟨dq,osq⟩,hw''⟩:=hw';subst hw'';have HB2:=zx (HBB.out.trans ((below_regrown wr dq osq).mono HBB.out.size));clear d1' d2';generalize Sort.grow (redrawn wr dq) osq=w2 at *;go_wp2;go_ret;exact⟨by simp[hne],HB2.out⟩
   ·go_wp2;go_ret
    have hkn:k=n:=by omega
    subst hkn;refine⟨?_,hb⟩
    have:l=m:=List.ext_getElem (HN.out.trans HLM.out) (fun j q1 q2=>by
     have:=hal j (by have:=HN.out;omega);rw[←List.getElem_eq_getD (h:=q1),←List.getElem_eq_getD (h:=q2)]at this
     exact this)
    rw[this];simp
 ·have hne:l≠m:=fun q=>hlm (by rw[q])
  have hdec:decide (l=m)=false:=decide_eq_false hne;rw[hdec];clear hdec hne HA HB;generalize l.length=n at *;generalize m.length=n' at *
  have hq:¬((n:Int)=(n':Int)):=by omega
  go_enter Tryz.func146,Tryz.ntmps146
  go_wp2_with fail;go_ret;exact⟨rfl,Below.refl _ _⟩
def yB (x:ByteArray):Bool:=decide (x.size≤60∧wd x=[x])
theorem xA (x:ByteArray) (w:World) (ht:Tab w) (hs:x.size≤maxLen) :
  Calls Tryz.prog 89 #[.string x] w fun e w'=>e=.returned (.bool (yB x))∧Below w.heap.size w w':=by
 unfold maxLen at hs;by_cases h:x.size≤60
 ·have HW:=zx (jJ x w ht h)
  have hd:yB x=decide (wd x=[x]):=by unfold yB;simp[h]
  rw[hd]
  go_enter Tryz.func89,Tryz.ntmps89
  go_wp2_with fail;refine HW.out.mono ?_;rintro e w1 ⟨v,rfl,hb,hr⟩;have HB:=zx hb;have HR:=zx (hr.1.below (zi w1 (Obj.cells #[.string x] 9)));clear hb hr HW;have hRD:Rd (w1.alloc (Obj.cells #[.string x] 9)) (.slice (some ⟨w1.heap.size,0,none⟩) 1 1) [x]:=qC (World.ownsRow_lit (base:=0) w1 #[.string x] 1 (Nat.zero_le _) (by unfold maxLen;omega) rfl);have HQ:=zx (mg HR.out hRD);clear hRD;go_wp2_with fail;refine HQ.out.mono ?_;rintro e w2 ⟨rfl,hb2⟩;go_wp2;go_ret;exact⟨rfl,HB.out.trans (((zi w1 _).trans (hb2.mono (zi w1 _).size)).mono HB.out.size)⟩
 ·have hd:yB x=false:=by unfold yB;simp[h]
  rw[hd];clear hd
  go_enter Tryz.func89,Tryz.ntmps89
  go_wp2_with fail;go_ret;exact⟨rfl,Below.refl _ _⟩
def yv (lev:Nat→List (List Ent)):List (List Ent):=(zL 6).flatMap (fun x=>lev x.1)
theorem LV.pairs {w:World}{ρ:Nat→Nat}{B:Nat}{G:Gh}{L:Lg}(h:LV w ρ B G L):∃ps:List (Nat × List Ent),ps.map Prod.fst=wP G.bs (zL 6)∧ps.map Prod.snd=yv L.lev∧∀p∈ps,SegAt w B p.1 p.2 (G.se p.1) (G.sm p.1):=by
 refine⟨(zL 6).flatMap (fun x=>(G.bs x.1).zip (L.lev x.1)),?_,?_,?_⟩
 ·rw[List.map_flatMap];refine congrArg (fun f=>(zL 6).flatMap f) (funext fun x=>?_);exact List.map_fst_zip (Nat.le_of_eq (h.len x.1 x.2))
 ·rw[List.map_flatMap];refine congrArg (fun f=>(zL 6).flatMap f) (funext fun x=>?_);exact List.map_snd_zip (Nat.le_of_eq (h.len x.1 x.2).symm)
 ·intro p hp;obtain⟨x,_,hx⟩:=List.mem_flatMap.1 hp;obtain⟨j,hj,e⟩:=List.getElem_of_mem hx;rw[List.getElem_zip]at e;rw[List.length_zip]at hj;have:=h.seg x.1 x.2 j (by omega);rw[←List.getElem_eq_getD (h:=by omega),←List.getElem_eq_getD (h:=by omega)]at this;rw[←e];exact this
theorem List.getD_map_of_lt {α β:Type}{l:List α}{f:α→β}{k:Nat}(d:β) (e:α) (h:k<l.length):(l.map f).getD k d=f (l.getD k e):=by
 rw[←List.getElem_eq_getD (h:=by simpa using h),←List.getElem_eq_getD (h:=h),List.getElem_map]
def uB (x:ByteArray) (lo hi:Int) (ps:List (List Ent)):List Ent:=ps.flatMap (fun es=>kK es x lo hi)
def vt (x:ByteArray) (lo hi:Int) (ps:List (List Ent)):Nat:=(ps.filter (fun es=>kM es x lo hi)).length
theorem jx (x:ByteArray) (lo hi:Int):∀ps:List (List Ent),(uB x lo hi ps).length≤ps.flatten.length
 | []=>by simp[uB]
 | es::ps=>by
  have:=jx x lo hi ps;have h2:(kK es x lo hi).length≤es.length:=List.length_filter_le _ _;simp only[uB,List.flatMap_cons,List.flatten_cons,List.length_append]at *;omega
theorem aP {w:World}{B1 B2:Nat}{e1 e2:TypeId}{s1 s2 n1 n2:Nat}{v1 v2:Value}{xs1 xs2:List Value}(h1:w.ownsRow B1 e1 s1 v1 n1 xs1) (h2:w.ownsRow B2 e2 s2 v2 n2 xs2) (he:e1≠e2):v1.ownBlock=none∨v1.ownBlock≠v2.ownBlock:=by
 cases q:v1.ownBlock with
 | none=>exact Or.inl rfl
 | some g=>
  refine Or.inr (fun q2=>he ?_);obtain⟨_,_,D,hD⟩:=zw h1 q.symm;obtain⟨_,_,D',hD'⟩:=zw h2 q2;rw[hD]at hD'
  injection hD' with hD'
  injection hD' with _ e _
theorem yL {w wr w':World}{v:Value}{B:Nat}{e:TypeId}{sz n:Nat}{xs:List Value}(hb:Below w.heap.size w wr) (h:wr.ownsRow B e sz v n xs) (hB:w.heap.size≤B) (hg:wr.grownBy w' v.ownBlock):Below w.heap.size w w':=
 ⟨hg.os.trans hb.os,hg.tape.trans hb.tape,hg.output.trans hb.output,Nat.le_trans hb.size hg.size,fun k hk=>(hg.block k (Nat.lt_of_lt_of_le hk hb.size) (fun q=>by have:=(zw h q).1;omega)).trans (hb.block k hk)⟩
theorem sQ (l:List Ent):∀u∈l.flatMap eC,u.oneCell'=true:=by
 intro u hu;obtain⟨e,_,he⟩:=List.mem_flatMap.1 hu;simp only[eC,List.mem_cons,List.not_mem_nil,or_false]at he
 rcases he with rfl|rfl|rfl <;> rfl
def jR (L:Lg) (lo:Int):Int:=max lo ((L.clock:Int)-(L.keep:Int))
theorem ik {w:World}{ρ:Nat→Nat}{B N lb:Nat}{G:Gh}{L:Lg}(h:LogAt w ρ B N lb G L) (ht:Tab w) (x:ByteArray) (hx:x.size≤maxLen) (hw:yB x=true) (lo hi:Int) (hc:L.clock≤1000000000000) (hk:L.keep≤1000000)
  (hl:∀i,i<6→(L.lev i).length≤500000) (hT:(yv L.lev).flatten.length+L.mem.length≤1048576) (hS:∀es∈yv L.lev,Tms es) (hM:Tms L.mem) :
  Calls Tryz.prog 50 #[zr lb, .string x, .int .i64 lo, .int .i64 hi] w fun e w'=>∃v,e=.returned (.tuple #[v, .int .i64 (vt x lo hi (yv L.lev):Int), .int .i64 0])∧CurE w w' v (uB x (jR L lo) hi (yv L.lev)++kK L.mem x (jR L lo) hi):=by
 obtain⟨i0,hi0,hz0,hz1,hz2⟩:=info_parts Tryz.info66;have CW:=zx (xA x w ht hx);rw[hw]at CW
 have CY:Hid (∀w1,Below w.heap.size w w1→Calls Tryz.prog 90 #[zr lb] w1 fun e w'=>e=.returned (.int .i64 ((L.clock:Int)-(L.keep:Int)))∧Below w1.heap.size w1 w'):=fun w1 hb=>qu (h.x.below hb) hc hk
 have CS:Hid (∀w1,Below w.heap.size w w1→Calls Tryz.prog 91 #[zr lb] w1 fun e w'=>∃v,e=.returned v∧w'.ownsRow w1.heap.size 128 1 v (wP G.bs (zL 6)).length ((wP G.bs (zL 6)).map zr)∧Below w1.heap.size w1 w'):=fun w1 hb=>uJ (h.x.below hb) hl
 obtain⟨ps,hp1,hp2,hp3⟩:=h.x.v.pairs;obtain⟨c7,_⟩:=zy (j:=7) (u:=zr G.ms) h.x.b.blk rfl;have hlbw:lb<w.heap.size:=(h.x.lt lb (by rw[h.x.b.rl];omega)).1;have HM:=zx h.m.seg;generalize hyy:(L.clock:Int)-(L.keep:Int)=yy at *
 have hyn:jR L lo=max lo yy:=by unfold jR;rw[hyy]
 rw[hyn];clear hyn hyy;generalize hsg:yv L.lev=sg at *;generalize hsb:wP G.bs (zL 6)=sb at *;clear h hsg hsb
 go_enter Tryz.func50,Tryz.ntmps50
 go_wp2_with (first
  | (go_at_call 89;refine CW.out.mono ?_;rintro e w1 ⟨rfl,hb1⟩;have HB1:=zx hb1;clear hb1)
  | (go_at_call 90;refine(CY.out _ HB1.out).mono ?_;rintro e w2 ⟨rfl,hb2⟩;have HB2:=zx (HB1.out.trans (hb2.mono HB1.out.size));clear hb2)
  | (go_at_call 91;refine(CS.out _ HB2.out).mono ?_;rintro e w3 ⟨sv,rfl,ho3,hb3⟩;have HB3:=zx (HB2.out.trans (hb3.mono HB2.out.size));have HO3:=zx ho3;clear hb3;obtain⟨sa,sc,rfl,hsc1,hsc2⟩:=zu ho3;clear ho3))
 generalize hYY:max lo yy=Y at *;have HYY:=zx hYY;clear hYY
 have hn1:sb.length=ps.length:=by rw[←hp1,List.length_map]
 have hn2:sg.length=ps.length:=by rw[←hp2,List.length_map]
 have HP:Hid (∀k,k<ps.length→sb.getD k 0=(ps.getD k (0,[])).1∧sg.getD k []=(ps.getD k (0,[])).2∧SegAt w B (sb.getD k 0) (sg.getD k []) (G.se (sb.getD k 0)) (G.sm (sb.getD k 0))∧(sg.getD k []).length≤1048576∧Tms (sg.getD k [])):=by
  intro k hk
  have e1:sb.getD k 0=(ps.getD k (0,[])).1:=by rw[←hp1,List.getD_map_of_lt _ _ hk]
  have e2:sg.getD k []=(ps.getD k (0,[])).2:=by rw[←hp2,List.getD_map_of_lt _ _ hk]
  have hm:ps.getD k (0,[])∈ps:=by rw[←List.getElem_eq_getD (h:=hk)];exact List.getElem_mem hk
  have hm2:sg.getD k []∈sg:=by rw[←List.getElem_eq_getD (h:=by omega)];exact List.getElem_mem _
  refine⟨e1,e2,?_,?_,hS _ hm2⟩
  ·rw[e1,e2];exact hp3 _ hm
  ·have:=(List.sublist_flatten_of_mem hm2).length_le;omega
 have HT:=zx hT
 have HFL:Hid (∀k,(uB x Y hi (sg.take k)).length+(kK L.mem x Y hi).length≤1048576):=by
  intro k;have h1:=jx x Y hi (sg.take k);have h2:(kK L.mem x Y hi).length≤L.mem.length:=List.length_filter_le _ _
  have h3:(sg.take k).flatten.length≤sg.flatten.length:=by
   have:=congrArg List.length (congrArg List.flatten (List.take_append_drop k sg));rw[List.flatten_append,List.length_append]at this;omega
  omega
 unfold maxLen at hsc2
 have hnb:sb.length≤9223372036854775807:=by omega
 rw[hn1]at HO3 hnb hsc1 ⊢;generalize hn:ps.length=n at *;have HN1:=zx hn1;have HN2:=zx hn2;have hz2:w.heap.size≤w2.heap.size:=HB2.out.size;clear hp1 hp2 hp3 hT hS hn1 hn2 hn CW CY CS HB1 HB2
 go_loopw [12,13,26] (fun v o i wr=>∃k:Nat,k≤n∧i=.int .i64 k∧o=.int .i64 (vt x lo hi (sg.take k):Int)∧CurE w wr v (uB x Y hi (sg.take k))∧wr.ownsRow w.heap.size 128 1 (.slice sa n sc) n (sb.map zr)) (fun _ _ i _=>n-(intOf i).toNat)
 case atStart=>exact⟨0,Nat.zero_le _,rfl,rfl,⟨HB3.out,World.ownsRow_nil _ _ _ _⟩,yH HO3.out hz2⟩
 clear hz2
 case round=>
  obtain⟨k,hk,rfl,rfl,hcur,hsl⟩:=hrel;have HCUR:=zx hcur;have HSL:=zx hsl;by_cases hlt:k<n
  ·obtain⟨pe1,pe2,hseg,hsl2,htm⟩:=HP.out k hlt;obtain⟨g,rfl⟩:=zf hsl (by omega);have hcell:wr.cell? ⟨g,k,none⟩=some (zr (sb.getD k 0)):=zg hsl (by rw[List.getElem?_map,List.getElem?_eq_getElem (by rw[HN1.out];exact hlt),List.getElem_eq_getD 0];rfl);have hseg':=hseg.below hcur.1;have CF:=zx (nX hseg' x hx Y hi hsl2 htm)
   have CM:Hid (∀w1,Below w.heap.size w w1→Calls Tryz.prog 93 #[zr (sb.getD k 0), .string x, .int .i64 lo, .int .i64 hi] w1 fun e w'=>e=.returned (.bool (kM (sg.getD k []) x lo hi))∧Below w1.heap.size w1 w'):=fun w1 hb=>iZ (hseg.below hb) x hx lo hi hsl2
   have hf1:uB x Y hi (sg.take (k+1))=uB x Y hi (sg.take k)++kK (sg.getD k []) x Y hi:=by
    rw[zG (by rw[HN2.out];exact hlt) []];simp[uB]
   have hf2:vt x lo hi (sg.take (k+1))=vt x lo hi (sg.take k)+(if kM (sg.getD k []) x lo hi then 1 else 0):=by
    rw[zG (by rw[HN2.out];exact hlt) []];generalize sg.getD k []=es0;simp only[vt,List.filter_append,List.length_append,List.filter_cons,List.filter_nil]
    cases kM es0 x lo hi <;> rfl
   have hfl:=HFL.out (k+1);rw[hf1,List.length_append]at hfl;have hql:vt x lo hi (sg.take k)≤k:=Nat.le_trans (List.length_filter_le _ _) (by simp;omega);have HF1:=zx hf1;have HF2:=zx hf2;obtain⟨va,vc,rfl,_,_⟩:=zu hcur.2;clear hcur hsl hseg hseg' htm hf1 hf2 pe1 pe2;generalize sb.getD k 0=pb at *;generalize sg.getD k []=es at *;generalize vt x lo hi (sg.take k)=ok at *;have CFN:=zx (rfl:kK es x Y hi=kK es x Y hi)
   go_wp2_with (first
    | (go_at_call 92;refine CF.out.mono ?_;rintro e w5 ⟨v5,rfl,hc5⟩;obtain⟨a5,k5,rfl,_,_⟩:=zu hc5.2;have HC5:=zx hc5;have HB5:=zx (HCUR.out.1.trans (hc5.1.mono HCUR.out.1.size));have HCW5:=zx (zn HCUR.out.2 (fun g hg=>hc5.1.block g (zw HCUR.out.2 hg).2.1));have HSL5:=zx (zn HSL.out (fun g hg=>hc5.1.block g (zw HSL.out hg).2.1));clear hc5)
    | (at_builtin;refine yC _ rfl _ _ 57 rfl w.heap.size wr.heap.size 66 i0 (.agg #[.int .i64 0, .int .i64 0, .string ByteArray.empty]) 3 32 Tryz.underlying57 hi0 hz0 hz1 hz2 rfl (by decide) _ _ _ rfl HCW5.out _ _ _ rfl HC5.out.2 (sQ _) (by unfold maxLen;omega) (by omega) (by have:=HB5.out.size;omega) ?_;intro v6 w6 ho6 hg6;have HB6:=zx (yL HB5.out HCW5.out (Nat.le_refl _) hg6);have HSL6:=zx (HSL5.out.kept hg6 (aP HSL5.out HCW5.out (by decide)));rw[←List.flatMap_append]at ho6;rw[←List.length_append]at ho6;rw[←HF1.out]at ho6;have HO6:=zx ho6;clear ho6 hg6)
    | (go_at_call 93;refine(CM.out _ HB6.out).mono ?_;rintro e w7 ⟨rfl,hb7⟩;have HB7:=zx (HB6.out.trans (hb7.mono HB6.out.size));have HO7:=zx (zn HO6.out (fun g hg=>hb7.block g (zw HO6.out hg).2.1));have HSL7:=zx (zn HSL6.out (fun g hg=>hb7.block g (zw HSL6.out hg).2.1));clear hb7))
   ·rename_i hmt
    go_roundw
    case rel=>exact⟨k+1,by omega,by go_num,by rw[HF2.out,if_pos hmt];go_num,⟨HB7.out,HO7.out⟩,HSL7.out⟩
    case measure=>simp[intOf];omega
   ·rename_i hmt
    go_roundw
    case rel=>exact⟨k+1,by omega,by go_num,by rw[HF2.out,hmt];rfl,⟨HB7.out,HO7.out⟩,HSL7.out⟩
    case measure=>simp[intOf];omega
  ·obtain rfl:k=n:=by omega
   have htk:sg.take k=sg:=List.take_of_length_le (Nat.le_of_eq HN2.out);rw[htk]at HCUR;have hfl:=HFL.out k;rw[htk]at hfl ⊢;have hm':=HM.out.below HCUR.out.1;have c7':wr.cell? ⟨lb,7,none⟩=some (zr G.ms):=(HCUR.out.1.cell (p:=⟨lb,7,none⟩) hlbw).trans c7;have CF:=zx (nX hm' x hx Y hi (by have:=HT.out;omega) hM);obtain⟨va,vc,rfl,_,_⟩:=zu HCUR.out.2;clear hcur hsl hm' c7 HM HFL HP HSL hM;generalize hOK:vt x lo hi sg=ok at *;have HOK:=zx hOK;clear hOK;generalize hES:L.mem=es at *;have HES:=zx hES;clear hES;generalize G.ms=pb at *
   go_wp2_with (first
    | (go_at_call 92;refine CF.out.mono ?_;rintro e w5 ⟨v5,rfl,hc5⟩;obtain⟨a5,k5,rfl,_,_⟩:=zu hc5.2;have HC5:=zx hc5;have HB5:=zx (HCUR.out.1.trans (hc5.1.mono HCUR.out.1.size));have HCW5:=zx (zn HCUR.out.2 (fun g hg=>hc5.1.block g (zw HCUR.out.2 hg).2.1));clear hc5)
    | (at_builtin;refine yC _ rfl _ _ 57 rfl w.heap.size wr.heap.size 66 i0 (.agg #[.int .i64 0, .int .i64 0, .string ByteArray.empty]) 3 32 Tryz.underlying57 hi0 hz0 hz1 hz2 rfl (by decide) _ _ _ rfl HCW5.out _ _ _ rfl HC5.out.2 (sQ _) (by unfold maxLen;omega) (by omega) (by have:=HB5.out.size;omega) ?_;intro v6 w6 ho6 hg6;have HB6:=zx (yL HB5.out HCW5.out (Nat.le_refl _) hg6);rw[←List.flatMap_append]at ho6;rw[←List.length_append]at ho6;have HO6:=zx ho6;clear ho6 hg6))
   go_ret3
   rw[HYY.out,HES.out,HOK.out];exact⟨_,rfl,HB6.out,HO6.out⟩
theorem eY {w:World}{lb:Nat}(ht:Tab w) (x:ByteArray) (hx:x.size≤maxLen) (hw:yB x=false) (lo hi:Int) :
  Calls Tryz.prog 50 #[zr lb, .string x, .int .i64 lo, .int .i64 hi] w fun e w'=>e=.returned (.tuple #[.slice none 0 0, .int .i64 0, .int .i64 6])∧Below w.heap.size w w':=by
 have CW:=zx (xA x w ht hx);rw[hw]at CW
 go_enter Tryz.func50,Tryz.ntmps50
 go_wp2_with (first
  | (go_at_call 89;refine CW.out.mono ?_;rintro e w1 ⟨rfl,hb1⟩;have HB1:=zx hb1;clear hb1))
 go_ret3
 exact⟨rfl,HB1.out⟩
def gk (k:Wk):Nat:=k.list.length+(if k.runs.isSome then 1 else 0)
def yS (ks:List Wk):Nat:=(ks.map gk).sum
theorem my {w:World}{lb b:Nat}{k:Wk}(h:WkRd w lb b k) (hl:k.list.length≤100) :
  Calls Tryz.prog 54 #[.pointer (some ⟨b,0,none⟩)] w fun e w'=>e=.returned (.int .i64 (gk k:Int))∧Below w.heap.size w w':=by
 obtain⟨lv,hb,hr⟩:=h;obtain⟨a,c,rfl,hc,hm,_⟩:=hr;obtain⟨c1,_⟩:=zA (j:=1) (u:=.slice a k.list.length c) hb rfl;obtain⟨c2,_⟩:=zA (j:=2) (u:=.int .i64 (rf k.runs)) hb rfl;obtain⟨c3,_⟩:=zA (j:=3) (u:=.int .i64 (ri k.runs)) hb rfl
 have hq:((rf k.runs == (0:Int))&&(ri k.runs == (0:Int)))=!k.runs.isSome:=by
  cases k.runs with
  | none=>rfl
  | some i=>simp only[rf,ri,Option.isSome];rw[Bool.and_eq_false_iff.2 (Or.inr (by simp;omega))];rfl
 have hp:gk k=k.list.length+(if k.runs.isSome then 1 else 0):=rfl;generalize gk k=pk at *;generalize rf k.runs=r1 at *;generalize ri k.runs=r2 at *;generalize k.list.length=n at *;clear hb
 cases hs:k.runs.isSome with
 | true=>
  rw[hs]at hq hp;simp only[Bool.not_true]at hq;rw[if_pos rfl]at hp;subst hp
  go_enter Tryz.func54,Tryz.ntmps54
  go_wp2_with fail
  all_goals first
   | (exfalso;rename_i h1 h2;rw[h1,h2]at hq;revert hq;decide)
   | (go_ret;exact⟨by go_num,Below.refl _ _⟩)
 | false=>
  rw[hs]at hq hp;simp only[Bool.not_false]at hq;simp at hp;subst hp
  go_enter Tryz.func54,Tryz.ntmps54
  go_wp2_with fail
  all_goals first
   | (exfalso;rename_i h1 h2;revert hq;simp[h1,h2];done)
   | (exfalso;rename_i h1;revert hq;simp[h1];done)
   | (go_ret;exact⟨rfl,Below.refl _ _⟩)
theorem sA {ks:List Wk}{k:Nat}(h:k<ks.length):yS (ks.take (k+1))=yS (ks.take k)+gk (ks.getD k zo):=by
 rw[zG h zo];simp[yS]
theorem eR {w:World}{ρ:Nat→Nat}{B N lb:Nat}{G:Gh}{L:Lg}(h:LogX w ρ B N lb G L) :
  Calls Tryz.prog 24 #[zr lb] w fun e w'=>e=.returned (.int .i64 (yS L.wks:Int))∧Below w.heap.size w w':=by
 obtain⟨c14,_⟩:=zy (j:=14) (u:=G.wr) h.b.blk rfl;have HW:=zx h.wksRd
 have HL:Hid (∀j,j<L.wks.length→(L.wks.getD j zo).list.length≤5):=fun j hj=>xz (h.k.ok j hj)
 obtain⟨a,c,hwr,hc,hm,hp⟩:=h.wksRd.row;have hln:=h.wksRd.len;have hfew:=h.wksRd.few;rw[hwr,hln]at c14;rw[hwr]at HW;rw[hln]at hc hp HW;unfold maxLen at hm;have HP:=zx hp;clear h hp hwr;generalize hn:L.wks.length=n at *;have HN:=zx hn;clear hn;generalize L.wks=ks at *
 go_enter Tryz.func24,Tryz.ntmps24
 go_wp2_with fail
 go_loopw [3,11] (fun v i wr=>∃k:Nat,k≤n∧i=.int .i64 k∧v=.int .i64 (yS (ks.take k):Int)∧yS (ks.take k)≤6*k∧Below w.heap.size w wr) (fun _ i _=>n-(intOf i).toNat)
 case atStart=>exact⟨0,Nat.zero_le _,rfl,rfl,by simp[yS],Below.refl _ _⟩
 case round=>
  obtain⟨k,hk,rfl,rfl,hpk,hb⟩:=hrel;have HB:=zx hb;by_cases hlt:k<n
  ·have hrd:=(HW.out.one k (by rw[HN.out];exact hlt)).below hb;have hl5:=HL.out k hlt;have CP:=zx (my hrd (by omega));have hsn:=sA (ks:=ks) (k:=k) (by rw[HN.out];exact hlt)
   have hpk5:gk (ks.getD k zo)≤6:=by unfold gk;split <;> omega
   have hcell:∃b o,a=some ⟨b,o,none⟩∧wr.cell? ⟨b,o+k,none⟩=some (zr (G.wb.getD k 0)):=by
    rcases HP.out with e|⟨b,o,e,hq⟩
    ·rw[e]at hln;simp at hln;omega
    ·have:=hq k hlt;exact⟨b,o,e,(hb.cell (p:=⟨b,o+k,none⟩) (World.block_lt_of_cell? _ _ this)).trans this⟩
   obtain⟨b,o,rfl,hcell⟩:=hcell;have HSN:=zx hsn;clear hb hrd hsn;generalize G.wb.getD k 0=pb at *;generalize gk (ks.getD k zo)=pk at *;generalize hpp:yS (ks.take k)=pp at *
   go_wp2_with (first
    | (go_at_call 54;refine CP.out.mono ?_;rintro e w5 ⟨rfl,hb5⟩;have HB5:=zx (HB.out.trans (hb5.mono HB.out.size));clear hb5))
   go_roundw
   case rel=>exact⟨k+1,by omega,by go_num,by rw[HSN.out];go_num,by rw[HSN.out];omega,HB5.out⟩
   case measure=>simp[intOf];omega
  ·obtain rfl:k=n:=by omega
   have htk:ks.take k=ks:=List.take_of_length_le (Nat.le_of_eq HN.out);rw[htk];go_wp2;go_ret;exact⟨rfl,HB.out⟩
theorem fP (l:List Nat):∀i,(l.flatMap tE).take (i*2)=(l.take i).flatMap tE:=by
 induction l with
 | nil=>intro i;simp
 | cons a l ih=>
  intro i
  cases i with
  | zero=>simp
  | succ i=>
   rw[List.flatMap_cons,List.take_succ_cons,List.flatMap_cons,←ih i];show(_::_::_).take ((i+1)*2)=_;rw[show(i+1)*2=i*2+1+1 by omega];rfl
theorem fO (l:List Nat):∀i,(l.flatMap tE).drop (i*2)=(l.drop i).flatMap tE:=by
 induction l with
 | nil=>intro i;simp
 | cons a l ih=>
  intro i
  cases i with
  | zero=>simp
  | succ i=>
   rw[List.flatMap_cons,List.drop_succ_cons,←ih i];show(_::_::_).drop ((i+1)*2)=_;rw[show(i+1)*2=i*2+1+1 by omega];rfl
theorem nZ {w:World}{ρ:Nat→Nat}{B N lb:Nat}{G:Gh}{L:Lg}(h:LogX w ρ B N lb G L) (hB:B≤w.heap.size){q:Nat}(hq:q<L.wks.length){i:Nat}(hi:i<(L.wks.getD q zo).list.length) :
  Calls Tryz.prog 278 #[zr (G.wb.getD q 0), .int .i64 (i:Int)] w fun e w'=>e=.returned (ol ((L.wks.getD q zo).list.getD i 0))∧Laid w w' ρ B N lb G L (L.wks.set q ⟨(L.wks.getD q zo).list.eraseIdx i,(L.wks.getD q zo).runs,(L.wks.getD q zo).read⟩):=by
 obtain⟨a,c,hwl,hc,hm⟩:=zu (h.k.lst q hq);have hown:=h.k.lst q hq;rw[hwl]at hown;obtain⟨g,rfl⟩:=zf hown (by omega);have hblk:=h.k.one q hq;have hl5:=xz (h.k.ok q hq);obtain⟨d0,d1⟩:=mD (l:=(L.wks.getD q zo).list) hi;have d0:=zg hown d0;have d1:=zg hown d1;obtain⟨c1,f1⟩:=zA (j:=1) (u:=.slice (some ⟨g,0,none⟩) (L.wks.getD q zo).list.length c) hblk (by rw[hwl];rfl);unfold maxLen at hm;generalize hx:(L.wks.getD q zo).list.getD i 0=x at *;generalize hn:(L.wks.getD q zo).list.length=n at *;generalize hb:G.wb.getD q 0=b at *;have hbl:b<w.heap.size:=(Mth.gI hblk);have hgl:=(gJ hown).2.1;have e1:(w.alloc (Obj.cells #[.int .i64 0, .int .i64 0] 137)).cell? ⟨b,1,none⟩=some (.slice (some ⟨g,0,none⟩) n c):=((zv w _).cell (p:=⟨b,1,none⟩) hbl).trans c1;have e2:(w.alloc (Obj.cells #[.int .i64 0, .int .i64 0] 137)).cell? ⟨g,i*2,none⟩=some (.int .i64 (x:Int)):=((zv w _).cell (p:=⟨g,i*2,none⟩) hgl).trans d0;have e3:(w.alloc (Obj.cells #[.int .i64 0, .int .i64 0] 137)).cell? ⟨g,i*2+1,none⟩=some (.int .i64 ((x:Int)+1)):=((zv w _).cell (p:=⟨g,i*2+1,none⟩) hgl).trans d1
 have hsz:(Tryz.prog.info? 137).map (·.size)=some 2:=by
  have:=Tryz.info137
  cases h':Tryz.prog.info? 137 with
  | none=>rw[h']at this;cases this
  | some i=>rw[h']at this;simp at this;simp[this]
 obtain⟨W2,hW2⟩:∃W2,W2=(w.alloc (Obj.cells #[.int .i64 0, .int .i64 0] 137)).alloc (Obj.cells #[.int .i64 (x:Int), .int .i64 ((x:Int)+1)] 137):=⟨_,rfl⟩
 have hb2:Below w.heap.size w W2:=by rw[hW2];exact((Below.refl _ w).alloc (Nat.le_refl _) _).alloc (by simp) _
 have hs2:W2.heap.size=w.heap.size+2:=by rw[hW2];simp
 have hn0:W2.heap[w.heap.size]? = some (Obj.cells #[.int .i64 0, .int .i64 0] 137 (0,0)):=by
  rw[hW2];exact yj _ (zj w _ _)
 have hn1:W2.heap[w.heap.size+1]? = some (Obj.cells #[.int .i64 (x:Int), .int .i64 ((x:Int)+1)] 137 (0,0)):=by
  have:=zj (w.alloc (Obj.cells #[.int .i64 0, .int .i64 0] 137)) #[.int .i64 (x:Int), .int .i64 ((x:Int)+1)] 137;rw[World.size_alloc]at this;rw[hW2];exact this
 have hown2:W2.ownsRow B 137 2 (.slice (some ⟨g,0,none⟩) n c) n ((L.wks.getD q zo).list.flatMap tE):=zn hown (fun g' q'=>hb2.block g' (zw hown q').2.1)
 have hgb:g≠b:=fun e=>by
  obtain⟨_,_,D,hD⟩:=zw hown (g:=g) rfl;rw[e]at hD;exact yX hblk hD (by decide) rfl
 have CD:=zx (mf hown2 (by intro u hu;obtain⟨y,_,hy⟩:=List.mem_flatMap.1 hu;simp[tE]at hy;rcases hy with rfl|rfl <;> rfl) (i:=i) (j:=i+1) (by omega) (by omega));rw[fP,fO,show n-(i+1-i)=n-1 by omega,show((i+1:Nat):Int)=(i:Int)+1 by omega]at CD
 have FIN:Hid (∀wB,wB.ownsRow B 137 2 (.slice (some ⟨g,0,none⟩) (n-1) c) (n-1) (((L.wks.getD q zo).list.take i).flatMap tE++((L.wks.getD q zo).list.drop (i+1)).flatMap tE)→W2.grownBy wB (some g) →
   (wB.cell? ⟨b,1,none⟩=some (.slice (some ⟨g,0,none⟩) n c)∧wB.frozen? ⟨b,1,none⟩=false)∧(wB.heap[w.heap.size]? = some (Obj.cells #[.int .i64 0, .int .i64 0] 137 (0,0))∧wB.heap[w.heap.size+1]? = some (Obj.cells #[.int .i64 (x:Int), .int .i64 ((x:Int)+1)] 137 (0,0))) ∧
   Laid w (((wB.setCell ⟨b,1,none⟩ (.slice (some ⟨g,0,none⟩) (n-1) c)).setCell ⟨w.heap.size,0,none⟩ (.int .i64 (x:Int))).setCell ⟨w.heap.size,1,none⟩ (.int .i64 ((x:Int)+1))) ρ B N lb G L (L.wks.set q ⟨(L.wks.getD q zo).list.eraseIdx i,(L.wks.getD q zo).runs,(L.wks.getD q zo).read⟩)):=by
  intro wB ho hg
  have hkeep:∀k,k<w.heap.size+2→k≠g→wB.heap[k]? = W2.heap[k]? := fun k hk hne=>hg.block k (by omega) (fun e=>hne (by injection e))
  have hbB:wB.heap[b]? = some (Obj.cells (mK lb b (L.wks.getD q zo) (G.wl q)) 139 (0,0)):=((hkeep b (by omega) (fun e=>hgb e.symm)).trans (hb2.block b hbl)).trans hblk;have hn0B:=(hkeep w.heap.size (by omega) (by omega)).trans hn0;have hn1B:=(hkeep (w.heap.size+1) (by omega) (by omega)).trans hn1;refine⟨zA (j:=1) hbB (by rw[hwl];rfl),⟨hn0B,hn1B⟩,?_⟩
  have ht:=h.wkFin (w':=((wB.setCell ⟨b,1,none⟩ (.slice (some ⟨g,0,none⟩) (n-1) c)).setCell ⟨w.heap.size,0,none⟩ (.int .i64 (x:Int))).setCell ⟨w.heap.size,1,none⟩ (.int .i64 ((x:Int)+1))) hB hq ⟨(L.wks.getD q zo).list.eraseIdx i,(L.wks.getD q zo).runs,(L.wks.getD q zo).read⟩ (.slice (some ⟨g,0,none⟩) (n-1) c)
   ⟨hg.os.trans hb2.os,hg.tape.trans hb2.tape,hg.output.trans hb2.output,by have:=hg.size;simp;omega,fun k hk e=>by
    rw[zt (by omega),zt (by omega),zt (fun e'=>e (Or.inl (by rw[hb];exact e'))),hkeep k (by omega) (fun e'=>e (Or.inr (by rw[hwl,e'];rfl)))]
    exact hb2.block k hk⟩
   (by rw[hb,zt (by omega),zt (by omega),ze hbB];rfl)
   (by
    have hl:((L.wks.getD q zo).list.eraseIdx i).length=n-1:=by rw[List.length_eraseIdx,if_pos (by omega),hn]
    rw[hl,List.eraseIdx_eq_take_drop_succ,List.flatMap_append];refine zn ho (fun g' e=>?_)
    have e2:g'=g:=by simpa [Value.ownBlock] using e
    rw[e2,zt (by omega),zt (by omega),zt hgb])
   (fun g' e=>Or.inl (by rw[hwl];exact e))
   ⟨⟨fun y hy=>(h.k.ok q hq).1.1 y (List.mem_of_mem_eraseIdx hy),(h.k.ok q hq).1.2⟩,(h.k.ok q hq).2.sublist (List.eraseIdx_sublist _ _)⟩
  obtain⟨ρ',r1,r2,r3,r4⟩:=ht;exact⟨⟨ρ',_,r1,r2,r3,r4⟩⟩
 have HW2:=zx hW2;clear hown2 hown h hblk hwl hb hx hn0 hn1 hb2 hs2 hW2
 go_enter Tryz.func278,Tryz.ntmps278
 go_wp2_with (fail);rw[←HW2.out];refine CD.out.mono ?_;rintro e wB ⟨rfl,ho,hg⟩;obtain⟨⟨k1,k2⟩,⟨k3,k4⟩,hL⟩:=FIN.out wB ho hg;have HL:=zx hL
 have hsb:w.heap.size≠b:=by omega
 have hsb1:w.heap.size+1≠b:=by omega
 have hld:=run_loadVar_row (P:=Tryz.prog) (((wB.setCell ⟨b,1,none⟩ (.slice (some ⟨g,0,none⟩) (n-1) c)).setCell ⟨w.heap.size,0,none⟩ (.int .i64 (x:Int))).setCell ⟨w.heap.size,1,none⟩ (.int .i64 ((x:Int)+1))) w.heap.size 137 137 _ _ _ (ze (ze ((zt (by omega)).trans k3))) Tryz.underlying137 rfl hsz;have HLD:=zx hld;obtain⟨m3,_⟩:=zy (j:=0) (u:=.int .i64 (x:Int)) ((zt (w:=wB) (o:=1) (u:=.slice (some ⟨g,0,none⟩) (n-1) c) hsb1).trans k4) rfl;obtain⟨m4,_⟩:=zy (j:=1) (u:=.int .i64 ((x:Int)+1)) ((zt (w:=wB) (o:=1) (u:=.slice (some ⟨g,0,none⟩) (n-1) c) hsb1).trans k4) rfl;obtain⟨m0,g0⟩:=zy (j:=0) (u:=.int .i64 0) ((zt (w:=wB) (o:=1) (u:=.slice (some ⟨g,0,none⟩) (n-1) c) hsb).trans k3) rfl;obtain⟨m1,g1⟩:=zy (j:=1) (u:=.int .i64 0) ((zt (w:=wB) (o:=1) (u:=.slice (some ⟨g,0,none⟩) (n-1) c) hsb).trans k3) rfl;clear hL hld ho hg FIN CD e1 e2 e3 c1 d0 d1 k3 k4;go_wp2;refine bodyPost_ret (v:=ol x) ?_ rfl ⟨rfl,HL.out⟩;have hld:=HLD.out;rw[za rfl];simp[asAddr,Result.andThen,hld,ol]
end Go.Proofs.YtkncboinfcnklaaGreatDoor
