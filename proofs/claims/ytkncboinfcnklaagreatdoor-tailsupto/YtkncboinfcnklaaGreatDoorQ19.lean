import Derived.Test.YtkncboinfcnklaaGreatDoorQ18
set_option maxRecDepth 100000
set_option maxHeartbeats 8000000
namespace Go.Proofs.YtkncboinfcnklaaGreatDoor
open Go.RowKit Go.Deep Go.Shelf Go.Proofs.YtkncboinfcnklaaGreatDoor.Mth
theorem cO {w:World}{ρ:Nat→Nat}{B N lb:Nat}{G:Gh}{L:Lg}(h:LogX w ρ B N lb G L){x:Int}(hw:tC x) (hn:L.tls x=none) :
  Calls Tryz.prog 52 #[zr lb, .int .i64 x] w fun e w'=>e=.returned (.tuple #[.slice none 0 0, .int .i64 8])∧Below w.heap.size w w':=by
 have hlk:=h.t.map.look hw;rw[hn]at hlk;simp only[jQ,Option.isSome_none]at hlk;obtain⟨c15,_⟩:=zy (j:=15) (u:=.map (some G.tm)) h.b.blk rfl;clear h hn
 go_enter Tryz.func52,Tryz.ntmps52
 go_wp2_with fail;go_ret2;exact⟨rfl,zv _ _⟩
theorem LogAt.allSegs {w:World}{ρ:Nat→Nat}{B N lb:Nat}{G:Gh}{L:Lg}(h:LogAt w ρ B N lb G L) (hs:∀es∈yv L.lev++[L.mem],es.length≤1048576∧bJ es) :
  (wP G.bs (zL 6)++[G.ms]).length=(yv L.lev++[L.mem]).length∧∀j,j<(yv L.lev++[L.mem]).length→(∃ev mb,SegAt w B ((wP G.bs (zL 6)++[G.ms]).getD j 0) ((yv L.lev++[L.mem]).getD j []) ev mb)∧((yv L.lev++[L.mem]).getD j []).length≤1048576∧bJ ((yv L.lev++[L.mem]).getD j []):=by
 obtain⟨ps,hp1,hp2,hp3⟩:=h.x.v.pairs
 have hlen:(wP G.bs (zL 6)).length=(yv L.lev).length:=by rw[←hp1,←hp2,List.length_map,List.length_map]
 refine⟨by rw[List.length_append,List.length_append,hlen];rfl,fun j hj=>?_⟩
 have hm:(yv L.lev++[L.mem]).getD j []∈yv L.lev++[L.mem]:=by
  rw[←List.getElem_eq_getD (h:=hj)];exact List.getElem_mem hj
 refine⟨?_,hs _ hm⟩;by_cases hlt:j<(yv L.lev).length
 ·have hjp:j<ps.length:=by rw[←hp2,List.length_map]at hlt;exact hlt
  have e1:(wP G.bs (zL 6)++[G.ms]).getD j 0=(ps.getD j (0,[])).1:=by
   rw[List.getD,List.getElem?_append_left (by omega),←hp1,List.getElem?_map,List.getElem?_eq_getElem hjp];rw[←List.getElem_eq_getD (h:=hjp)];rfl
  have e2:(yv L.lev++[L.mem]).getD j []=(ps.getD j (0,[])).2:=by
   rw[List.getD,List.getElem?_append_left hlt,←hp2,List.getElem?_map,List.getElem?_eq_getElem hjp];rw[←List.getElem_eq_getD (h:=hjp)];rfl
  have hmem:ps.getD j (0,[])∈ps:=by rw[←List.getElem_eq_getD (h:=hjp)];exact List.getElem_mem hjp
  rw[e1,e2];exact⟨_,_,hp3 _ hmem⟩
 ·have hje:j=(yv L.lev).length:=by rw[List.length_append,List.length_singleton]at hj;omega
  subst hje
  have e1:(wP G.bs (zL 6)++[G.ms]).getD (yv L.lev).length 0=G.ms:=by rw[←hlen];simp[List.getD]
  have e2:(yv L.lev++[L.mem]).getD (yv L.lev).length []=L.mem:=by simp[List.getD]
  rw[e1,e2];exact⟨_,_,h.m.seg⟩
theorem eU {w:World}{ρ:Nat→Nat}{B N lb:Nat}{G:Gh}{L:Lg}(h:LogAt w ρ B N lb G L){x:Int}(hw:tC x){y:ByteArray}{p:Nat}(hn:L.tls x=some (y,p)) (hy:y.size≤maxLen) (hb1:1≤L.batch) (hb8:L.batch≤8) (hl:∀i,i<6→(L.lev i).length≤500000)
  (hs:∀es∈yv L.lev++[L.mem],es.length≤1048576∧bJ es) (hN:N<maxLen) (hq:∀e∈qz y p L.batch (yv L.lev++[L.mem]),0≤e.seq∧e.seq≤1000000000000) :
  Calls Tryz.prog 52 #[zr lb, .int .i64 x] w fun e w'=>∃v,e=.returned (.tuple #[v, .int .i64 0])∧TStp w w' ρ B (N+1) lb G { L with tls:=fun z=>if z=x then some (y,plc (qz y p L.batch (yv L.lev++[L.mem])) L.batch L.count) else L.tls z }∧w'.ownsRow w.heap.size 66 3 v (qz y p L.batch (yv L.lev++[L.mem])).length ((qz y p L.batch (yv L.lev++[L.mem])).flatMap eC):=by
 obtain⟨i0,hi0,hz0,hz1,hz2⟩:=info_parts Tryz.info128;have hlk:=h.x.t.map.look hw;rw[hn]at hlk;simp only[jQ,kN,Option.isSome_some]at hlk;obtain⟨c15,_⟩:=zy (j:=15) (u:=.map (some G.tm)) h.x.b.blk rfl;have hb0:=zv w (Obj.cells #[.string y, .int .i64 (p:Int)] 193);have hk0:=zj w #[.string y, .int .i64 (p:Int)] 193;obtain⟨w1,hw1⟩:∃w1,w1=w.alloc (Obj.cells #[.string y, .int .i64 (p:Int)] 193):=⟨_,rfl⟩;rw[←hw1]at hb0 hk0;have h1:=h.below hb0;obtain⟨nb,hnb⟩:∃nb,nb=w.heap.size:=⟨_,rfl⟩;rw[←hnb]at hk0;have hnlt:nb<w1.heap.size:=(Mth.gI hk0)
 have CK:Hid (∀W,Below w1.heap.size w1 W→W.cell? ⟨nb,0,none⟩=some (.string y)∧W.cell? ⟨nb,1,none⟩=some (.int .i64 (p:Int))∧W.cell? ⟨lb,7,none⟩=some (zr G.ms)∧W.cell? ⟨lb,5,none⟩=some (.int .i64 (L.batch:Int))):=fun W hb=>
  ⟨(zy (j:=0) ((hb.block nb hnlt).trans hk0) rfl).1,(zy (j:=1) ((hb.block nb hnlt).trans hk0) rfl).1,(zy (j:=7) (h1.x.below hb).b.blk rfl).1,(zy (j:=5) (h1.x.below hb).b.blk rfl).1⟩
 have CS:Hid (∀W,Below w1.heap.size w1 W→Calls Tryz.prog 91 #[zr lb] W fun e w'=>∃v,e=.returned v∧w'.ownsRow W.heap.size 128 1 v (wP G.bs (zL 6)).length ((wP G.bs (zL 6)).map zr)∧Below W.heap.size W w'):=fun W hb=>uJ (h1.x.below hb) hl
 have hlen:=(h1.allSegs hs).1
 have CR:Hid (∀W v n,Below w1.heap.size w1 W→n=(wP G.bs (zL 6)).length+1→W.ownsRow w1.heap.size 128 1 v n ((wP G.bs (zL 6)).map zr++[zr G.ms])→Calls Tryz.prog 95 #[.agg #[.string y, .int .i64 (p:Int)],v, .int .i64 (L.batch:Int)] W fun e w'=>∃v',e=.returned v'∧CurE w1 w' v' (qz y p L.batch (yv L.lev++[L.mem]))):=by
  intro W v n hb e hr
  have hr':W.ownsRow w1.heap.size 128 1 v (wP G.bs (zL 6)++[G.ms]).length ((wP G.bs (zL 6)++[G.ms]).map zr):=by
   rw[List.map_append,List.length_append,List.length_singleton,←e];exact hr
  refine(im (B:=B) y hy p L.batch (by omega) (j8 hr') hlen ((h1.below hb).allSegs hs).2).mono ?_;rintro e w' ⟨v',rfl,hc⟩;exact⟨v',rfl,CurE.pre hb hc⟩
 have CN:Hid (∀W,Below w1.heap.size w1 W→W.cell? ⟨lb,6,none⟩=some (zr G.jb)∧Calls Tryz.prog 96 #[zr G.jb] W fun e w'=>e=.returned (.int .i64 (L.count:Int))∧w'=W):=fun W hb=>⟨(zy (j:=6) (h1.x.below hb).b.blk rfl).1,tg (h1.x.below hb).j.j⟩
 have hsl:(wP G.bs (zL 6)).length≤3000000:=by
  have e1:(wP G.bs (zL 6)).length=(yv L.lev).length:=by rw[List.length_append,List.length_append]at hlen;simp at hlen;exact hlen
  rw[e1,wu];simp only[List.length_append];have q0:=hl 0 (by omega);have q1:=hl 1 (by omega);have q2:=hl 2 (by omega);have q3:=hl 3 (by omega);have q4:=hl 4 (by omega);have q5:=hl 5 (by omega);omega
 have hrn:ρ nb=0:=h.free (by omega);have H1:=zx h1;have HB0:=zx hb0;have HK0:=zx hk0;have HW1:=zx hw1;have HQ:=zx hq;have HTL:=po y p L.batch (yv L.lev++[L.mem]);generalize hTT:qz y p L.batch (yv L.lev++[L.mem])=told at *;generalize hSG:wP G.bs (zL 6)=sb at *;clear h h1 hl hs hq hTT hSG hlen hk0 hb0
 go_enter Tryz.func52,Tryz.ntmps52
 go_wp2_with fail;rw[←HW1.out,←hnb];have HNB:=zx hnb;clear hnb hw1;obtain⟨k0,k1,k7,k5⟩:=CK.out w1 (Below.refl _ _)
 go_cut [8] from 9 (fun v wx=>CurE w1 wx v told)
 case first=>
  go_region_held3 (fun w'=>w'.cell? ⟨nb,0,none⟩=some (.string y)∧w'.cell? ⟨nb,1,none⟩=some (.int .i64 (p:Int))∧w'.cell? ⟨lb,7,none⟩=some (zr G.ms)∧w'.cell? ⟨lb,5,none⟩=some (.int .i64 (L.batch:Int))) (first|exact⟨k0,k1,k7,k5⟩|exact⟨zD k0,zD k1,zD k7,zD k5⟩|exact⟨m0,m1,m7,m5⟩|exact⟨zD m0,zD m1,zD m7,zD m5⟩|exact⟨r0,r1,r7,r5⟩|exact⟨q0,q1,q7,q5⟩|fail)
   (first
    | (go_at_call 91;refine(CS.out _ (zE w1)).mono ?_;rintro e w2 ⟨sv,rfl,ho2,hb2⟩;have hB2:=yV hb2;obtain⟨m0,m1,m7,m5⟩:=CK.out w2 hB2;have HB2:=zx hB2;have HO2:=zx ho2;clear hb2 hB2 ho2)
    | (go_at_call 91;refine(CS.out _ ((zE w1).trans ((zv w1.drew (Obj.cells #[zr G.ms] 128)).mono (Nat.le_refl _)))).mono ?_;rintro e w2 ⟨sv,rfl,ho2,hb2⟩;have hB2:Below w1.heap.size w1 w2:=((zE w1).trans ((zv w1.drew (Obj.cells #[zr G.ms] 128)).mono (Nat.le_refl _))).trans (hb2.mono (by simp));obtain⟨m0,m1,m7,m5⟩:=CK.out w2 hB2;have HB2:=zx hB2;have HO2:=zx (yH ho2 (show w1.heap.size≤_ by simp));have HNW:=zx (fun j u hj=>((hb2.cell (p:=(⟨w1.heap.size,0,none⟩:Addr).add j) (fp w1 _ j)).trans (zM w1.drew #[zr G.ms] 128 [zr G.ms] rfl j u hj)));clear hb2 hB2 ho2)
    | (refine wW _ rfl _ _ 129 rfl w1.heap.size 128 i0 (.pointer none) 1 8 Tryz.underlying129 hi0 hz0 hz1 hz2 rfl (by decide) _ _ _ rfl (HO2.out.alloc _) ⟨w2.heap.size,0,none⟩ 1 1 [zr G.ms] rfl rfl (zM _ _ _ _ rfl) (by intro u hu;simp at hu;subst hu;rfl) (by unfold maxLen;omega) (by omega) (by have:=HB2.out.size;simp;omega) ?_;intro v5 w5 hown5 hgrow5;have hB5:Below w1.heap.size w1 w5:=yL (HB2.out.trans ((zv w2 _).mono HB2.out.size)) (HO2.out.alloc _) (Nat.le_refl _) hgrow5;obtain⟨r0,r1,r7,r5⟩:=CK.out w5 hB5;have HB5:=zx hB5;have HO5:=zx hown5;clear hown5 hgrow5 hB5)
    | (refine wW _ rfl _ _ 129 rfl w1.heap.size 128 i0 (.pointer none) 1 8 Tryz.underlying129 hi0 hz0 hz1 hz2 rfl (by decide) _ _ _ rfl HO2.out ⟨w1.heap.size,0,none⟩ 1 1 [zr G.ms] rfl rfl HNW.out (by intro u hu;simp at hu;subst hu;rfl) (by unfold maxLen;omega) (by omega) (by have:=HB2.out.size;simp;omega) ?_;intro v5 w5 hown5 hgrow5;have hB5:Below w1.heap.size w1 w5:=yL HB2.out HO2.out (Nat.le_refl _) hgrow5;obtain⟨r0,r1,r7,r5⟩:=CK.out w5 hB5;have HB5:=zx hB5;have HO5:=zx hown5;clear hown5 hgrow5 hB5)
    | (go_at_call 95;refine(CR.out _ _ _ HB5.out rfl HO5.out).mono ?_;rintro e w6 ⟨v6,rfl,hc6⟩;obtain⟨q0,q1,q7,q5⟩:=CK.out w6 hc6.1;have HC6:=zx hc6;clear hc6))
  all_goals (go_wp2_with fail;go_meet;exact HC6.out)
 case rest=>
  have hcw:=hcut.1;have hown:=hcut.2;have hkc:wc.heap[nb]? = some (Obj.cells #[.string y, .int .i64 (p:Int)] 193 (0,0)):=(hcw.block nb hnlt).trans HK0.out
  have PUT:Hid (∀(W:World) (q:Nat),Tch (fun k=>k=nb) wc W→∃W2,(Instr.mapUpdate 132 (.map (some G.tm)) (.int .i64 x) (.agg #[.string y, .int .i64 (q:Int)])).run Tryz.prog W=.ok () W2∧TStp w W2 ρ B (N+1) lb G { L with tls:=fun z=>if z=x then some (y,q) else L.tls z }∧W2.ownsRow w.heap.size 66 3 u8 told.length (told.flatMap eC)∧W.cell? ⟨lb,15,none⟩=some (.map (some G.tm))∧W2.cell? ⟨lb,15,none⟩=some (.map (some G.tm))∧W2.cell? ⟨nb,0,none⟩=W.cell? ⟨nb,0,none⟩∧W2.cell? ⟨nb,1,none⟩=W.cell? ⟨nb,1,none⟩):=by
   intro W q hT;have hc:=H1.out.below hcw
   have hnn:¬wM wc nb:=fun⟨C,fr,e⟩=>by rw[hkc]at e;injection e with e;injection e with _ e _;exact absurd e (by decide)
   have hW:LogAt W ρ B N lb G L:=hc.same (fun g hg=>hT.block g (by
     rcases hg with hg|hg
     ·exact(hc.x.lt g hg).1
     ·exact yw hg) (fun e=>by
     rcases hg with hg|hg
     ·rw[e]at hg;exact hg hrn
     ·rw[e]at hg;exact hnn hg)) hT.size
   have hBW:Below w.heap.size w W:=zP (HB0.out.trans (hcw.mono HB0.out.size)) hT (fun k e=>by rw[e,HNB.out];exact Nat.le_refl _) (Nat.le_trans HB0.out.size hcw.size)
   have hrow:W.ownsRow w1.heap.size 66 3 u8 told.length (told.flatMap eC):=zn hown (fun g hg=>hT.block g (zw hown hg).2.1 (fun e=>by
    obtain⟨_,_,D,hD⟩:=zw hown hg;rw[e,hkc]at hD
    injection hD with hD
    injection hD with _ hD _
    exact absurd hD (by decide)))
   obtain⟨W2,hr,ht2,hg⟩:=hW.x.t.map.put hw hN (y,q);rw[hn,if_pos (by simp)]at ht2;have hst:=hW.tStep hg ht2
   have hne:nb≠G.tm:=fun e=>by
    have:=hc.x.t.rl;rw[←e]at this;omega
   have hlt:nb<W.heap.size:=Nat.lt_of_lt_of_le hnlt (Nat.le_trans hcw.size hT.size)
   have hcn:∀j,W2.cell? ⟨nb,j,none⟩=W.cell? ⟨nb,j,none⟩:=fun j=>World.cell?_of_block (w:=W) (a:=⟨nb,j,none⟩) (hg.block nb hlt (fun e=>hne (by injection e)))
   refine⟨W2,hr,hst.pre hBW,yH (hrow.kept hg ?_) HB0.out.size,(zy (j:=15) hW.x.b.blk rfl).1,(zy (j:=15) hst.log.x.b.blk rfl).1,hcn 0,hcn 1⟩
   cases qv:u8.ownBlock with
   | none=>exact Or.inl rfl
   | some g=>
    refine Or.inr (fun e=>?_)
    injection e with e
    obtain⟨_,_,D,hD⟩:=zw hrow qv.symm;obtain⟨D',n',⟨es,c,hb',_⟩,_⟩:=hW.x.t.map;rw[e,hb']at hD;cases hD
  obtain⟨va,vc,rfl,hvc,hvm⟩:=zu hown;unfold maxLen at hvm;obtain⟨k6,hNx⟩:=CN.out wc hcw;have k5c:=(CK.out wc hcw).2.2.2;obtain⟨j0,_⟩:=zy (j:=0) (u:=.string y) hkc rfl;obtain⟨j1,f1⟩:=zy (j:=1) (u:=.int .i64 (p:Int)) hkc rfl;have HNX:=zx hNx;have HOWN:=zx hown;have HKC:=zx hkc;have HPL:Hid (plc told L.batch L.count=if told.length=L.batch then((told.getD (L.batch-1) e0).seq+1).toNat else L.count):=rfl
  have hlbn:lb≠nb:=fun e=>by
   have:=H1.out.x.b.rl;rw[e]at this;omega
  clear hcut hcw hown hkc hNx CN CK CR CS H1 HB0 HK0 HW1 c15 hlk k0 k1 k7 k5 hrn;have hb3:(wc.setCell ⟨nb,1,none⟩ (.int .i64 (L.count:Int))).heap[nb]? = some (Obj.cells #[.string y, .int .i64 (L.count:Int)] 193 (0,0)):=ze HKC.out;have k5':(wc.setCell ⟨nb,1,none⟩ (.int .i64 (L.count:Int))).cell? ⟨lb,5,none⟩=some (.int .i64 (L.batch:Int)):=(World.cell?_of_block (w:=wc) (a:=⟨lb,5,none⟩) (zt hlbn)).trans k5c;by_cases hfull:told.length=L.batch
  ·rw[if_pos hfull]at HPL
   have hpos:0<told.length:=by omega
   obtain⟨g,rfl⟩:=zf HOWN.out hpos;have hrow3:=zl (o:=1) (y:=.int .i64 (L.count:Int)) HOWN.out HKC.out (by decide);obtain⟨d0,_,_⟩:=xR hrow3 rfl (k:=told.length-1) (by omega)
   have hmem:told.getD (told.length-1) e0∈told:=by rw[←List.getElem_eq_getD (h:=by omega)];exact List.getElem_mem _
   obtain⟨q0,q1⟩:=HQ.out _ hmem;have hk:∃k,told.length=k+1:=⟨told.length-1,by omega⟩;obtain⟨k,hk⟩:=hk;rw[hk,Nat.add_sub_cancel]at d0 hmem
   have HPL2:Hid (plc told L.batch L.count=((told.getD k e0).seq+1).toNat):=by
    show _=_;rw[HPL.out,show L.batch-1=k by omega]
   generalize hsq:(told.getD k e0).seq=sq at *
   have hsn:((sq+1).toNat:Int)=sq+1:=by rw[hk,Nat.add_sub_cancel,hsq]at q0 q1;omega
   have hq1:sq≤1000000000000:=by rw[hk,Nat.add_sub_cancel,hsq]at q1;exact q1
   have hq0:0≤sq:=by rw[hk,Nat.add_sub_cancel,hsq]at q0;exact q0
   obtain⟨W3,hW3⟩:∃W3,W3=(wc.setCell ⟨nb,1,none⟩ (.int .i64 (L.count:Int))).setCell ⟨nb,1,none⟩ (.int .i64 (sq+1)):=⟨_,rfl⟩;have hT:Tch (fun k=>k=nb) wc W3.drew:=⟨by rw[hW3];rfl,by rw[hW3];rfl,by rw[hW3];rfl,by rw[hW3];simp[World.drew],fun k _ hne=>by rw[hW3];exact(zt hne).trans (zt hne)⟩;obtain⟨W2,hrun,hT2,hrow2,d15,e15,e0',e1'⟩:=PUT.out _ (sq+1).toNat hT;rw[hsn]at hrun;obtain⟨_,f1'⟩:=zy (j:=1) (u:=.int .i64 (L.count:Int)) hb3 rfl
   have hb4:W3.heap[nb]? = some (Obj.cells #[.string y, .int .i64 (sq+1)] 193 (0,0)):=by rw[hW3];exact ze hb3
   obtain⟨l0,_⟩:=zy (j:=0) (u:=.string y) hb4 rfl;obtain⟨l1,_⟩:=zy (j:=1) (u:=.int .i64 (sq+1)) hb4 rfl;obtain⟨m1,_⟩:=zy (j:=1) (u:=.int .i64 (L.count:Int)) hb3 rfl
   have hlenI:(told.length:Int)=(L.batch:Int):=by omega
   have HW3:=zx hW3;have HT2:=zx hT2;have HROW2:=zx hrow2
   have hlk1:(told.length:Int)-1=(k:Int):=by omega
   clear hT hT2 hrow2 hrow3 hb4 hW3 PUT HQ hmem hsn q0 q1 hsq;have d15':W3.cell? ⟨lb,15,none⟩=some (.map (some G.tm)):=d15;rw[hk]at hlenI hvc ⊢;have n0:=e0'.trans l0;have n1:=e1'.trans l1;have HK:=zx hk;rw[hk]at hfull;clear hk hlk1 HTL hlenI;rw[←hfull]at k5' k5c;clear hfull
   have hkk:((k+1:Nat):Int)-1=(k:Int):=by omega
   go_upto_region 8 with(first|(go_at_call 96;refine HNX.out.mono ?_;rintro e w' ⟨rfl,rfl⟩))
   rw[←HW3.out]
   go_region_held3 (fun w'=>w'.cell? ⟨lb,15,none⟩=some (.map (some G.tm))∧w'.cell? ⟨nb,0,none⟩=some (.string y)∧w'.cell? ⟨nb,1,none⟩=some (.int .i64 (sq+1))) (first|exact⟨d15',l0,l1⟩|exact⟨e15,n0,n1⟩) (fail)
   go_wp2_with fail;go_ret2;refine⟨_,rfl,?_,?_⟩
   ·rw[HPL2.out];exact HT2.out
   ·have:=HROW2.out;rwa [HK.out]at this ⊢
  ·rw[if_neg hfull]at HPL
   have hlenI:¬(told.length:Int)=(L.batch:Int):=by omega
   obtain⟨W3,hW3⟩:∃W3,W3=wc.setCell ⟨nb,1,none⟩ (.int .i64 (L.count:Int)):=⟨_,rfl⟩;have hT:Tch (fun k=>k=nb) wc W3.drew:=⟨by rw[hW3];rfl,by rw[hW3];rfl,by rw[hW3];rfl,by rw[hW3];simp[World.drew],fun k _ hne=>by rw[hW3];exact zt hne⟩;obtain⟨W2,hrun,hT2,hrow2,d15,e15,e0',e1'⟩:=PUT.out _ L.count hT;have d15':W3.cell? ⟨lb,15,none⟩=some (.map (some G.tm)):=d15;rw[←hW3]at hb3;obtain⟨l0,_⟩:=zy (j:=0) (u:=.string y) hb3 rfl;obtain⟨l1,_⟩:=zy (j:=1) (u:=.int .i64 (L.count:Int)) hb3 rfl;have HW3:=zx hW3;have HT2:=zx hT2;have HROW2:=zx hrow2;clear hT hT2 hrow2 hb3 hW3 PUT HQ d15 hfull;have n0:=e0'.trans l0;have n1:=e1'.trans l1
   go_upto_region 8 with(first|(go_at_call 96;refine HNX.out.mono ?_;rintro e w' ⟨rfl,rfl⟩))
   rw[←HW3.out]
   go_region_held3 (fun w'=>w'.cell? ⟨lb,15,none⟩=some (.map (some G.tm))∧w'.cell? ⟨nb,0,none⟩=some (.string y)∧w'.cell? ⟨nb,1,none⟩=some (.int .i64 (L.count:Int))) (first|exact⟨d15',l0,l1⟩|exact⟨e15,n0,n1⟩) (fail)
   go_wp2_with fail;go_ret2;exact⟨_,rfl,by rw[HPL.out];exact HT2.out,HROW2.out⟩
def ux (c0 c1 c2 c3 c4 c5:Int):Bool:=decide (1≤c0∧c0≤8)&&(decide (2≤c1∧c1≤4)&&(decide (0≤c2∧c2≤4)&&(decide (1≤c3∧c3≤4)&&(decide (1≤c4∧c4≤1000000)&&decide (1≤c5∧c5≤8)))))
theorem wD (c0 c1 c2 c3 c4 c5:Int) (w:World):Calls Tryz.prog 139 #[.agg #[.int .i64 c0, .int .i64 c1, .int .i64 c2, .int .i64 c3, .int .i64 c4, .int .i64 c5]] w fun e w'=>e=.returned (.bool (ux c0 c1 c2 c3 c4 c5))∧Below w.heap.size w w':=by
 have HB:=zx (zv w (Obj.cells #[.int .i64 c0, .int .i64 c1, .int .i64 c2, .int .i64 c3, .int .i64 c4, .int .i64 c5] 56));have C0:=zx (fun w=>yn c0 1 8 w);have C1:=zx (fun w=>yn c1 2 4 w);have C2:=zx (fun w=>yn c2 0 4 w);have C3:=zx (fun w=>yn c3 1 4 w);have C4:=zx (fun w=>yn c4 1 1000000 w);have C5:=zx (fun w=>yn c5 1 8 w);have HR:Hid (ux c0 c1 c2 c3 c4 c5=(decide (1≤c0∧c0≤8)&&(decide (2≤c1∧c1≤4)&&(decide (0≤c2∧c2≤4)&&(decide (1≤c3∧c3≤4)&&(decide (1≤c4∧c4≤1000000)&&decide (1≤c5∧c5≤8))))))):=rfl;generalize ux c0 c1 c2 c3 c4 c5=r at *;generalize decide (1≤c0∧c0≤8)=b0 at *;generalize decide (2≤c1∧c1≤4)=b1 at *;generalize decide (0≤c2∧c2≤4)=b2 at *;generalize decide (1≤c3∧c3≤4)=b3 at *;generalize decide (1≤c4∧c4≤1000000)=b4 at *;generalize decide (1≤c5∧c5≤8)=b5 at *;have hk:=zj w #[.int .i64 c0, .int .i64 c1, .int .i64 c2, .int .i64 c3, .int .i64 c4, .int .i64 c5] 56;obtain⟨w1,hw1⟩:∃w1,w1=w.alloc (Obj.cells #[.int .i64 c0, .int .i64 c1, .int .i64 c2, .int .i64 c3, .int .i64 c4, .int .i64 c5] 56):=⟨_,rfl⟩;rw[←hw1]at hk HB;obtain⟨a0,_⟩:=zy (j:=0) (u:=.int .i64 c0) hk rfl;obtain⟨a1,_⟩:=zy (j:=1) (u:=.int .i64 c1) hk rfl;obtain⟨a2,_⟩:=zy (j:=2) (u:=.int .i64 c2) hk rfl;obtain⟨a3,_⟩:=zy (j:=3) (u:=.int .i64 c3) hk rfl;obtain⟨a4,_⟩:=zy (j:=4) (u:=.int .i64 c4) hk rfl;obtain⟨a5,_⟩:=zy (j:=5) (u:=.int .i64 c5) hk rfl;have HW1:=zx hw1;clear hk hw1
 have hcase:b0=false∨(b0=true∧b1=false)∨(b0=true∧b1=true∧b2=false)∨(b0=true∧b1=true∧b2=true∧b3=false)∨(b0=true∧b1=true∧b2=true∧b3=true∧b4=false)∨(b0=true∧b1=true∧b2=true∧b3=true∧b4=true∧b5=b5):=by
  cases b0 <;> cases b1 <;> cases b2 <;> cases b3 <;> cases b4 <;> simp
 rcases hcase with rfl|⟨rfl,rfl⟩|⟨rfl,rfl,rfl⟩|⟨rfl,rfl,rfl,rfl⟩|⟨rfl,rfl,rfl,rfl,rfl⟩|⟨rfl,rfl,rfl,rfl,rfl,_⟩
 all_goals (
  go_enter Tryz.func139,Tryz.ntmps139
  go_upto_region 1 with fail
  rw[←HW1.out]
  go_wp2_with (first
   | (go_at_call_of 53 (Value.int .i64 c0);refine(C0.out _).mono ?_;rintro e w' ⟨rfl,rfl⟩)
   | (go_at_call_of 53 (Value.int .i64 c1);refine(C1.out _).mono ?_;rintro e w' ⟨rfl,rfl⟩)
   | (go_at_call_of 53 (Value.int .i64 c2);refine(C2.out _).mono ?_;rintro e w' ⟨rfl,rfl⟩)
   | (go_at_call_of 53 (Value.int .i64 c3);refine(C3.out _).mono ?_;rintro e w' ⟨rfl,rfl⟩)
   | (go_at_call_of 53 (Value.int .i64 c4);refine(C4.out _).mono ?_;rintro e w' ⟨rfl,rfl⟩)
   | (go_at_call_of 53 (Value.int .i64 c5);refine(C5.out _).mono ?_;rintro e w' ⟨rfl,rfl⟩))
  go_ret
  exact⟨by rw[HR.out];simp,HB.out⟩)
theorem tA {P:Program}(w:World) (d:Nat) (t e:TypeId) (a:Addr) (h:P.underlying t=some (.pointer e)):(Op.equalIn (d+1) t (.pointer (some a)) (.pointer none)).run P w=.ok false w:=by
 simp[Op.equalIn,run_underlying h]
theorem lC {w:World}{d b:Nat}(h:Ptr 102 w d b):Calls Tryz.prog 140 #[zr d] w fun e w'=>e=.returned (.bool true)∧w'=w:=by
 obtain⟨c0,_⟩:=zy (j:=0) (u:=.pointer (some ⟨b,0,none⟩)) h rfl;have hq:(Op.equalIn 9999 97 (.pointer (some ⟨b,0,none⟩)) (.pointer none)).run Tryz.prog w=.ok false w:=tA w 9998 _ _ _ Tryz.underlying97
 go_enter Tryz.func140,Tryz.ntmps140
 go_wp2_with fail;go_ret;exact⟨rfl,rfl⟩
theorem rI (lb:Nat) (w:World):Calls Tryz.prog 142 #[zr lb] w fun e w'=>e=.returned (zr w.heap.size)∧w'.heap[w.heap.size]? = some (Obj.cells (mK lb w.heap.size zo (.slice none 0 0)) 139 (0,0))∧Below w.heap.size w w'∧w'.heap.size=w.heap.size+1:=by
 go_enter Tryz.func142,Tryz.ntmps142
 go_wp2_with fail;go_ret;exact⟨rfl,zj _ _ _,zv _ _,by simp⟩
theorem kc (s:ByteArray) (hs:s.size<2) (w:World):Calls Tryz.prog 256 #[.string s] w fun e w'=>e=.returned (.tuple #[.int .u8 0, .string ⟨#[]⟩, .bool false])∧w'=w:=by
 have h:(s.size:Int)<2:=by omega
 go_enter Tryz.func256,Tryz.ntmps256
 go_wp2_with fail
 go_ret3
 exact⟨rfl,rfl⟩
theorem Tryz.sizePs:(Tryz.prog.info? 313).map (·.size)=some 2:=by kernel_rfl
theorem lT (w:World):Calls Tryz.prog 213 #[.string ⟨#[]⟩] w fun e w'=>e=.returned (.tuple #[.agg #[.int .i64 0, .slice none 0 0], .int .i64 0])∧Below w.heap.size w w':=by
 have CF:Hid (∀w,Calls Tryz.prog 256 #[.string ⟨#[]⟩] w fun e w'=>e=.returned (.tuple #[.int .u8 0, .string ⟨#[]⟩, .bool false])∧w'=w):=fun w=>kc ⟨#[]⟩ (by decide) w
 go_enter Tryz.func213,Tryz.ntmps213
 go_wp2_with fail;obtain⟨W3,hW3⟩:∃W3,W3=((w.alloc (Obj.cells #[.int .i64 0, .slice none 0 0] 313)).alloc (Obj.cells #[.func (.func 254) #[] #[], .func (.func 255) #[] #[]] 344)).alloc (Obj.cells #[.int .i64 0, .slice none 0 0] 313):=⟨_,rfl⟩;rw[←hW3];have hb1:=zv w (Obj.cells #[.int .i64 0, .slice none 0 0] 313);have hb2:=zv (w.alloc (Obj.cells #[.int .i64 0, .slice none 0 0] 313)) (Obj.cells #[.func (.func 254) #[] #[], .func (.func 255) #[] #[]] 344);have hb3:=zv ((w.alloc (Obj.cells #[.int .i64 0, .slice none 0 0] 313)).alloc (Obj.cells #[.func (.func 254) #[] #[], .func (.func 255) #[] #[]] 344)) (Obj.cells #[.int .i64 0, .slice none 0 0] 313)
 have k2:W3.heap[w.heap.size]? = some (Obj.cells #[.int .i64 0, .slice none 0 0] 313 (0,0)):=by rw[hW3];exact yj _ (yj _ (zj _ _ _))
 have k5:W3.heap[w.heap.size+1+1]? = some (Obj.cells #[.int .i64 0, .slice none 0 0] 313 (0,0)):=by
  have:=zj ((w.alloc (Obj.cells #[.int .i64 0, .slice none 0 0] 313)).alloc (Obj.cells #[.func (.func 254) #[] #[], .func (.func 255) #[] #[]] 344)) #[.int .i64 0, .slice none 0 0] 313;rw[World.size_alloc,World.size_alloc]at this;rw[hW3];exact this
 have hB3:Below w.heap.size w W3:=by
  rw[hW3];exact(hb1.trans (hb2.mono hb1.size)).trans (hb3.mono (hb1.trans (hb2.mono hb1.size)).size)
 have HB3:=zx hB3;have HK2:=zx k2;clear hb1 hb2 hb3 hW3 hB3;obtain⟨p0,_⟩:=zy (j:=0) (u:=.int .i64 0) k5 rfl;obtain⟨p1,_⟩:=zy (j:=1) (u:=.slice none 0 0) k5 rfl;obtain⟨q0,f0⟩:=zy (j:=0) (u:=.int .i64 0) k2 rfl;obtain⟨q1,f1⟩:=zy (j:=1) (u:=.slice none 0 0) k2 rfl;clear k2 k5
 go_loopw [6] (fun v wr=>v=.int .i64 0∧wr=W3) (fun _ _=>0)
 case atStart=>exact⟨rfl,rfl⟩
 case round=>
  obtain⟨rfl,rfl⟩:=hrel;go_wp2_with (first|(go_at_call 256;refine(CF.out _).mono ?_;rintro e w' ⟨rfl,rfl⟩));have hk6:=ze (j:=1) (v:=.slice none 0 0) (ze (j:=0) (v:=.int .i64 0) HK2.out);have hB6:=zZ (j:=1) (v:=.slice none 0 0) (zZ (j:=0) (v:=.int .i64 0) HB3.out (Nat.le_refl _)) (Nat.le_refl _);have hld:=run_loadVar_row (P:=Tryz.prog) _ w.heap.size 313 313 _ _ _ hk6 Tryz.underlying313 rfl Tryz.sizePs
  (try simp only[Exit.inBlock,Exit.then])
  refine bodyPost_ret (v:=.tuple #[.agg #[.int .i64 0, .slice none 0 0], .int .i64 0]) ?_ rfl ⟨rfl,hB6⟩;rw[results_cell_tmp rfl];simp[asAddr,Result.andThen,hld]
def mM:ByteArray:=⟨#[106,111,117,114,110,97,108,46,100,114,97,102,116]⟩
theorem aA:mM≠mO:=by decide
theorem nD {w:World}{B b d:Nat}(h:St 100 109 w B b [] (-1) (.slice none 0 0)) (hp:Ptr 102 w d b) (hB:B≤w.heap.size) :
  Calls Tryz.prog 214 #[zr d, .string ByteArray.empty] w fun e w'=>e=.returned (.bool true)∧∃fv',Stp 100 109 B b w w' (.slice none 0 0) (jf ⟨#[]⟩ 0) (-1) fv':=by
 have HP:Hid (∀ {w':World}{fs:List Fl}{fv:Value},Stp 100 109 B b w w' (.slice none 0 0) fs (-1) fv→Ptr 102 w' d b∧B≤w'.heap.size):=fun hs=>⟨hp.keep h hs.tch (by decide) (by decide),Nat.le_trans hB hs.tch.size⟩
 have C1:Hid (Calls Tryz.prog 37 #[zr d, .string mM] w fun e w'=>e=.returned (.bool true)∧∃fv',Stp 100 109 B b w w' (.slice none 0 0) [] (-1) fv'):=rA h hp hB (by omega) (by omega) (by omega) (by simp) mM
 have C2:Hid (∀W fv,Stp 100 109 B b w W (.slice none 0 0) [] (-1) fv→Calls Tryz.prog 31 #[zr d, .string mM, .string ByteArray.empty] W fun e w'=>e=.returned (.bool true)∧∃fv',Stp 100 109 B b w w' (.slice none 0 0) [⟨mM,⟨#[]⟩,0⟩] (-1) fv'):=by
  intro W fv hs;obtain⟨hp1,hB1⟩:=HP.out hs;refine(uy hs.st hp1 hB1 (by omega) (by omega) (by omega) (by simp) mM ⟨#[]⟩ (-1) (Or.inl ⟨rfl,fun j hj=>absurd hj (by simp)⟩) (by decide)).mono ?_;rintro e w' ⟨rfl,fv',hs'⟩;exact⟨rfl,fv',hs.trans hs'⟩
 have C3:Hid (∀W fv,Stp 100 109 B b w W (.slice none 0 0) [⟨mM,⟨#[]⟩,0⟩] (-1) fv→Calls Tryz.prog 33 #[zr d, .string mM] W fun e w'=>e=.returned (.bool true)∧∃fv',Stp 100 109 B b w w' (.slice none 0 0) [⟨mM,⟨#[]⟩,0⟩] (-1) fv'):=by
  intro W fv hs;obtain⟨hp1,hB1⟩:=HP.out hs;refine(tF hs.st hp1 (by omega) (by omega) (by omega) mM 0 (Or.inr ⟨0,by simp,rfl,rfl,fun j hj=>absurd hj (Nat.not_lt_zero _)⟩)).mono ?_;rintro e w' ⟨rfl,fv',hs'⟩;exact⟨rfl,fv',hs.trans hs'⟩
 have C4:Hid (∀W fv,Stp 100 109 B b w W (.slice none 0 0) [⟨mM,⟨#[]⟩,0⟩] (-1) fv→Calls Tryz.prog 35 #[zr d, .string mM, .string mO] W fun e w'=>e=.returned (.bool true)∧∃fv',Stp 100 109 B b w w' (.slice none 0 0) (jf ⟨#[]⟩ 0) (-1) fv'):=by
  intro W fv hs;obtain⟨hp1,hB1⟩:=HP.out hs;refine(rB hs.st hp1 hB1 (by omega) (by omega) (by omega) (by simp) mM mO 0 (Or.inr ⟨0,by simp,rfl,rfl,fun j hj=>absurd hj (Nat.not_lt_zero _)⟩) (by simp) aA).mono ?_;rintro e w' ⟨rfl,fv',hs'⟩
  have e1:wo mO (wo mM [(⟨mM,⟨#[]⟩,0⟩:Fl)])=[]:=by simp[wo]
  rw[e1]at hs';exact⟨rfl,fv',hs.trans hs'⟩
 clear h hp HP;unfold mM at C1 C2 C3 C4;unfold mO at C4
 go_enter Tryz.func214,Tryz.ntmps214
 go_wp2_with (first
  | (go_at_call 37;refine C1.out.mono ?_;rintro e w1 ⟨rfl,fv1,hs1⟩;have H1:=zx hs1;clear hs1)
  | (go_at_call 31;refine(C2.out _ _ H1.out).mono ?_;rintro e w2 ⟨rfl,fv2,hs2⟩;have H2:=zx hs2;clear hs2)
  | (go_at_call 33;refine(C3.out _ _ H2.out).mono ?_;rintro e w3 ⟨rfl,fv3,hs3⟩;have H3:=zx hs3;clear hs3)
  | (go_at_call 35;refine(C4.out _ _ H3.out).mono ?_;rintro e w4 ⟨rfl,fv4,hs4⟩;have H4:=zx hs4;clear hs4))
 go_ret;exact⟨rfl,fv4,H4.out⟩
structure Opn (w w':World) (B d b jb:Nat):Prop where
 ex:∃fv,JAt w' B jb d b (jf ⟨#[]⟩ 0) (-1) fv 0 0∧(∀g,some g=fv.ownBlock→w.heap.size≤g)
 tch:Tch (fun k=>k=b) w w'
 ge:w.heap.size≤jb
theorem eO {w:World}{B b d:Nat}(h:St 100 109 w B b [] (-1) (.slice none 0 0)) (hp:Ptr 102 w d b) (hB:B≤w.heap.size) (hd:B≤d) :
  Calls Tryz.prog 141 #[zr d] w fun e w'=>∃jb,e=.returned (.tuple #[zr jb, .slice none 0 0, .bool true])∧Opn w w' B d b jb:=by
 have CR:Hid (Calls Tryz.prog 39 #[zr d, .string mO] w fun e w'=>e=.returned (.string ⟨#[]⟩)∧w'=w):=by
  refine(eh h hp mO).mono ?_;rintro e w' ⟨r,hr,rfl,hw⟩;refine⟨?_,hw⟩
  rcases hr with⟨rfl,_⟩|⟨i,hi,_⟩
  ·rfl
  ·simp at hi
 have CJ:=zx (lT w)
 have hbn:∀W,Below w.heap.size w W→Calls Tryz.prog 214 #[zr d, .string ByteArray.empty] W fun e w'=>e=.returned (.bool true)∧∃fv',Stp 100 109 B b W w' (.slice none 0 0) (jf ⟨#[]⟩ 0) (-1) fv'∧Ptr 102 w' d b:=by
  intro W hb;refine(nD (h.below hb) (hp.below hb) (Nat.le_trans hB hb.size)).mono ?_;rintro e w' ⟨rfl,fv',hs⟩;exact⟨rfl,fv',hs,(hp.below hb).keep (h.below hb) hs.tch (by decide) (by decide)⟩
 have CW:=zx hbn;have HS:=zx h;have HP:=zx hp;clear h hp hbn;unfold mO at CR
 go_enter Tryz.func141,Tryz.ntmps141
 go_wp2_with (first
  | (go_at_call 39;refine CR.out.mono ?_;rintro e w' ⟨rfl,hw'⟩;rw[hw'];clear hw' w')
  | (go_at_call 213;refine CJ.out.mono ?_;rintro e w2 ⟨rfl,hb2⟩;have HB2:=zx hb2;clear hb2))
 have hb3:=zv w2 (Obj.cells #[.int .i64 0, .slice none 0 0] 313);have hk3:=zj w2 #[.int .i64 0, .slice none 0 0] 313;have hB3:=HB2.out.trans (hb3.mono HB2.out.size);have CW3:=zx (CW.out _ hB3);have hlb:b<w2.heap.size:=Nat.lt_of_lt_of_le HS.out.lt HB2.out.size
 have hnb3:w2.heap.size<(w2.alloc (Obj.cells #[.int .i64 0, .slice none 0 0] 313)).heap.size:=by simp
 have HB3:=zx hB3;have HK3:=zx hk3;clear hb3 hB3 hk3 CW CJ CR;obtain⟨pb,hpb⟩:∃pb,pb=w2.heap.size:=⟨_,rfl⟩;rw[←hpb]at HK3 hnb3 hlb ⊢
 have hwp:w.heap.size≤pb:=by rw[hpb];exact HB2.out.size
 generalize w2.alloc (Obj.cells #[.int .i64 0, .slice none 0 0] 313)=w3 at *;clear hpb HB2;refine CW3.out.mono ?_;rintro e w4 ⟨rfl,fv4,hs4,hp4⟩;have CS:=zx (vj hs4.st hp4);rw[show((-1:Int) == 0)=false from rfl]at CS
 have hk4:w4.heap[pb]? = some (Obj.cells #[.int .i64 0, .slice none 0 0] 313 (0,0)):=(hs4.tch.block pb hnb3 (fun q=>by
  rcases q with q|q
  ·omega
  ·cases q)).trans HK3.out
 have HT4:Hid (Tch (fun k=>k=b) w w4):=⟨hs4.tch.os.trans HB3.out.os,hs4.tch.tape.trans HB3.out.tape,hs4.tch.output.trans HB3.out.output,Nat.le_trans HB3.out.size hs4.tch.size,fun k hk hne=>(hs4.tch.block k (Nat.lt_of_lt_of_le hk HB3.out.size) (fun q=>by
  rcases q with q|q
  ·exact hne q
  ·cases q)).trans (HB3.out.block k hk)⟩
 have FIN:Hid (∀W,Below w4.heap.size w4 W→Opn w (W.alloc (Obj.cells #[zr d, .int .i64 0, .int .i64 0] 200)) B d b W.heap.size):=by
  intro W hW;have hWa:=hW.trans ((zv W (Obj.cells #[zr d, .int .i64 0, .int .i64 0] 200)).mono hW.size);have hsz:w.heap.size≤W.heap.size:=Nat.le_trans HT4.out.size hW.size;refine⟨⟨fv4,⟨zj _ _ _,hp4.below hWa,hs4.st.below hWa,Nat.le_trans hB hsz,hd⟩,fun g hg=>?_⟩,HT4.out.trans (zH (S:=fun k=>k=b) hWa) (fun _ _ q=>q),hsz⟩
  rcases hs4.new g hg with q|q
  ·cases q
  ·exact Nat.le_trans HB3.out.size q
 obtain⟨k0,_⟩:=zy (j:=0) (u:=.int .i64 0) hk4 rfl;obtain⟨k1,_⟩:=zy (j:=1) (u:=.slice none 0 0) hk4 rfl;clear hk4 hs4 hp4 HS HP HK3 HB3 CW3 HT4;go_wp2_with (first|(go_at_call 41;refine CS.out.mono ?_;rintro e w' ⟨rfl,hw'⟩;rw[hw'];clear hw' w'))
 go_region_held3 (fun w'=>w'.cell? ⟨pb,0,none⟩=some (.int .i64 0)∧w'.cell? ⟨pb,1,none⟩=some (.slice none 0 0)) (first|exact⟨k0,k1⟩|exact⟨zD k0,zD k1⟩|fail) (fail)
 go_wp2_with fail
 go_ret3
 exact⟨_,rfl,FIN.out _ (zE w4)⟩
def Lg.new (m f bk n kp bt:Nat):Lg:=⟨m,f,bk,kp,bt,0,0,[],fun _=>[],List.replicate n zo,fun _=>none,0,0⟩
noncomputable def ao (lb jb db sb ms mm tm:Nat) (fv me wr:Value) (wbs:List Nat) (k:Nat):Nat:=by
 classical
 exact if k=lb then 1 else if vr jb db sb fv k then 2 else if yA ms mm me k then 3 else if k=tm then 6 else if some k=wr.ownBlock then 5 else if k∈wbs then 20+wbs.idxOf k else 0
theorem zc {w:World}{k:Nat}{C C':Array Value}{t t':TypeId}{fr fr':Nat × Nat}(h:w.heap[k]? = some (Obj.cells C t fr)) (h':w.heap[k]? = some (Obj.cells C' t' fr')):t=t':=by
 rw[h]at h'
 injection h' with h'
 injection h' with _ e _
theorem JAt.ty {w:World}{B jb db sb:Nat}{fs:List Fl}{left:Int}{fv:Value}{clock count:Nat}(h:JAt w B jb db sb fs left fv clock count){k:Nat}(hk:vr jb db sb fv k):∃C t fr,w.heap[k]? = some (Obj.cells C t fr)∧(t=200∨t=102∨t=100∨t=109):=by
 rcases hk with rfl|rfl|hk|hk
 ·exact⟨_,_,_,h.blk,Or.inl rfl⟩
 ·exact⟨_,_,_,h.ptr,Or.inr (Or.inl rfl)⟩
 ·subst hk;exact⟨_,_,_,h.st.blk,Or.inr (Or.inr (Or.inl rfl))⟩
 ·obtain⟨_,_,D,hD⟩:=zw h.st.own hk;exact⟨_,_,_,hD,Or.inr (Or.inr (Or.inr rfl))⟩
theorem SegAt.ty {w:World}{B s mb:Nat}{es:List Ent}{ev:Value}(h:SegAt w B s es ev mb){k:Nat}(hk:yA s mb ev k):(∃C t fr,w.heap[k]? = some (Obj.cells C t fr)∧(t=198∨t=66))∨(k=mb∧∃es c,w.heap[k]? = some (Obj.map es c)):=by
 rcases hk with rfl|hk|rfl
 ·exact Or.inl ⟨_,_,_,h.blk,Or.inl rfl⟩
 ·obtain⟨_,_,D,hD⟩:=zw h.own hk;exact Or.inl ⟨_,_,_,hD,Or.inr rfl⟩
 ·exact Or.inr ⟨rfl,h.idx.notCells⟩
theorem Tryz.info140:(Tryz.prog.info? 140).map (fun i=>(i.zero,i.size,i.bytes))=some (some (.pointer none),1,8):=by kernel_rfl
structure NHd (w3 wx:World) (B lb ms mm tm:Nat) (me:Value) (C:Array Value):Prop where
 bel:Below w3.heap.size w3 wx
 blk:wx.heap[lb]? = some (Obj.cells C 134 (0,0))
 seg:SegAt wx B ms [] me mm
 map:wx.heap[tm]? = some (Obj.map #[] 0)
 ne:tm≠mm
 ge:w3.heap.size≤lb∧w3.heap.size≤tm
structure NWk (wx wr:World) (lb k:Nat) (C:Array Value) (wbs:List Nat) (v:Value):Prop where
 len:wbs.length=k
 blk:wr.heap[lb]? = some (Obj.cells (C.setIfInBounds 14 v) 134 (0,0))
 row:wr.ownsRow wx.heap.size 140 1 v k (wbs.map zr)
 one:∀i,i<k→wr.heap[wbs.getD i 0]? = some (Obj.cells (mK lb (wbs.getD i 0) zo (.slice none 0 0)) 139 (0,0))
 ge:∀g∈wbs,wx.heap.size≤g
 lt:wbs.Pairwise (fun a b=>a<b)
 tch:Tch (fun g=>g=lb) wx wr
theorem NWk.more {wx wr w5 W5:World}{lb k:Nat}{C:Array Value}{wbs:List Nat}{v v5:Value}(h:NWk wx wr lb k C wbs v) (hlb:lb<wx.heap.size) (h5:w5.heap[wr.heap.size]? = some (Obj.cells (mK lb wr.heap.size zo (.slice none 0 0)) 139 (0,0))) (hb:Below wr.heap.size wr w5){o:Obj}{M:Nat}(ho:W5.ownsRow wx.heap.size 140 1 v5 M ((wbs.map zr)++[zr wr.heap.size])) (hM:M=k+1) (hg:(w5.alloc o).grownBy W5 v.ownBlock) :
  NWk wx (W5.setCell ⟨lb,14,none⟩ v5) lb (k+1) C (wbs++[wr.heap.size]) v5:=by
 subst hM;have hsz5:wr.heap.size<w5.heap.size:=(Mth.gI h5)
 have hszW:w5.heap.size≤W5.heap.size:=by have:=hg.size;simp at this;omega
 have hrowne:∀g,g<wr.heap.size→some g≠v.ownBlock→W5.heap[g]? = wr.heap[g]? := fun g hgl hne=>by
  rw[hg.block g (by simp;omega) hne,Mth.uC w5 o (r:=g) (by omega)];exact hb.block g hgl
 have hlbr:lb<wr.heap.size:=Nat.lt_of_lt_of_le hlb h.tch.size
 have hlbv:some lb≠v.ownBlock:=fun q=>by
  have:=(zw h.row q).1;omega
 have hnw:some wr.heap.size≠v.ownBlock:=fun q=>by
  have:=(zw h.row q).2.1;omega
 have hblkW:W5.heap[lb]? = some (Obj.cells (C.setIfInBounds 14 v) 134 (0,0)):=(hrowne lb hlbr hlbv).trans h.blk;refine⟨by rw[List.length_append,h.len];rfl,?_,?_,fun i hi=>?_,fun g hg'=>?_,?_,?_⟩
 ·have:=ze (j:=14) (v:=v5) hblkW
  rwa [show(C.setIfInBounds 14 v).setIfInBounds 14 v5=C.setIfInBounds 14 v5 from by simp]at this
 ·refine zl ?_ hblkW (by decide);rw[List.map_append];exact ho
 ·have hne:∀g,(∃D,W5.heap[g]? = some (Obj.cells D 139 (0,0)))→g≠lb:=fun g ⟨D,hD⟩ e=>by
   rw[e]at hD;exact absurd (zc hblkW hD) (by decide)
  by_cases hik:i<k
  ·have e1:(wbs++[wr.heap.size]).getD i 0=wbs.getD i 0:=by rw[List.getD,List.getElem?_append_left (by rw[h.len];exact hik)];rfl
   rw[e1];have h1:=h.one i hik;have hlt1:=(Mth.gI h1)
   have h2:W5.heap[wbs.getD i 0]? = _:=(hrowne _ hlt1 (fun q=>by
    obtain⟨_,_,D,hD⟩:=zw h.row q
    exact absurd (zc h1 hD) (by decide))).trans h1
   rw[zt (hne _ ⟨_,h2⟩)];exact h2
  ·have e1:(wbs++[wr.heap.size]).getD i 0=wr.heap.size:=by
    rw[show i=wbs.length from by rw[h.len];omega];simp[List.getD]
   rw[e1]
   have h2:W5.heap[wr.heap.size]? = some (Obj.cells (mK lb wr.heap.size zo (.slice none 0 0)) 139 (0,0)):=by
    rw[hg.block _ (by simp;omega) hnw,Mth.uC w5 o (r:=wr.heap.size) hsz5];exact h5
   rw[zt (hne _ ⟨_,h2⟩)];exact h2
 ·rcases List.mem_append.1 hg' with q|q
  ·exact h.ge g q
  ·rw[List.mem_singleton.1 q];exact h.tch.size
 ·rw[List.pairwise_append];refine⟨h.lt,List.pairwise_singleton _ _,fun a ha c hc=>?_⟩;rw[List.mem_singleton.1 hc];obtain⟨i,hi,e⟩:=List.getElem_of_mem ha;have h1:=h.one i (by rw[←h.len];exact hi);rw[←List.getElem_eq_getD (h:=hi),e]at h1;exact(Mth.gI h1)
 ·refine⟨hg.os.trans (hb.os.trans h.tch.os),hg.tape.trans (hb.tape.trans h.tch.tape),hg.output.trans (hb.output.trans h.tch.output),?_,fun g hgl hne=>?_⟩
  ·have:=h.tch.size;simp;omega
  ·rw[zt hne,hrowne g (Nat.lt_of_lt_of_le hgl h.tch.size) (fun q=>by have:=(zw h.row q).1;omega)];exact h.tch.block g hgl hne
end Go.Proofs.YtkncboinfcnklaaGreatDoor
