import Derived.Test.YtkncboinfcnklaaGreatDoorQ22
import Derived.Deep.WholeRow
import Derived.Test.YtkncboinfcnklaaGreatDoorQ25
set_option maxRecDepth 100000
set_option maxHeartbeats 8000000
namespace Go.Proofs.YtkncboinfcnklaaGreatDoor.Rl
open Go.RowKit Go.Deep Go.Shelf Go.Proofs.YtkncboinfcnklaaGreatDoor.Mth
theorem jj {f:Nat→Value}{n:Nat}(h:∀j,j<n→(f j).oneCell'=true):∀u∈(List.range n).map f,u.oneCell'=true:=by
 intro u hu;obtain⟨j,hj,rfl⟩:=List.mem_map.1 hu;exact h j (List.mem_range.1 hj)
theorem jq {w:World}{B:Nat}{e:TypeId}{sz:Nat}{v:Value}{n:Nat}{xs:List Value}(h:w.ownsRow B e sz v n xs):v.oneCell'=true:=by
 obtain⟨a,c,rfl,_,_⟩:=zu h;rfl
theorem RfV.one {Z:Nat→Prop}{B:Nat}{w:World}{V:Rv}{L:Lg}{all:List Ent}{ts:List Tl}(h:RfV Z B w V L all ts):(zR V L).all (·.oneCell')=true:=by
 obtain⟨_,_,e1,_,_⟩:=zu h.all;obtain⟨_,_,e2,_,_⟩:=zu h.mem;obtain⟨_,_,l0,_,_⟩:=zu (h.lev 0 (by omega));obtain⟨_,_,l1,_,_⟩:=zu (h.lev 1 (by omega));obtain⟨_,_,l2,_,_⟩:=zu (h.lev 2 (by omega));obtain⟨_,_,l3,_,_⟩:=zu (h.lev 3 (by omega));obtain⟨_,_,l4,_,_⟩:=zu (h.lev 4 (by omega));obtain⟨_,_,l5,_,_⟩:=zu (h.lev 5 (by omega));obtain⟨_,_,e3,_,_⟩:=zu h.wks;obtain⟨_,_,e4,_,_⟩:=zu h.tls;simp[zR,e1,e2,l0,l1,l2,l3,l4,l5,e3,e4,Value.oneCell']
theorem CpX.own3 {w W:World}{n:Nat}{C X:Array Value}(h:CpX w W n C X){B:Nat}{e:TypeId}{sz:Nat}{v:Value}{m:Nat}{xs:List Value}(ho:W.ownsRow B e sz v m xs) (he:234≠e) (j1:Nat) (u1:Value) (j2:Nat) (u2:Value) (j3:Nat) (u3:Value):(((W.setCell ⟨n+1+1,j1,none⟩ u1).setCell ⟨n+1+1,j2,none⟩ u2).setCell ⟨n+1+1,j3,none⟩ u3).ownsRow B e sz v m xs:=
 ((h.set j1 u1).set j2 u2).own ((h.set j1 u1).own (h.own ho he _ _) he _ _) he _ _
theorem sE {Z:Nat→Prop}{w:World}{V:Rv}{L:Lg}{all:List Ent}{ts:List Tl}(h:RfV Z 0 w V L all ts) (hZ:∀g,Z g→g<w.heap.size) (hl:all.length≤4194304) (hm:L.mem.length≤4194304) (hlv:∀i,i<6→(L.lev i).length≤4194304) (hw:L.wks.length≤4) (hwl:∀q,q<L.wks.length→(L.wks.getD q zo).list.length≤1000) (hts:ts.length≤1000) :
  Calls Tryz.prog 127 #[.agg (zR V L)] w fun e w'=>∃V',e=.returned (.agg (zR V' L))∧RfV (fun g=>Z g∨w.heap.size≤g) w.heap.size w' V' L all ts∧RfD w.heap.size V' L∧Below w.heap.size w w':=by
 obtain⟨i0,hi0,hz0,hz1,hz2⟩:=info_parts Tryz.info66;obtain⟨W,hW,hbb,e1,e2,e3,hs⟩:=lp w (zR V L) zrC (zR V L) 234 234 234;have HX:Hid (CpX w W w.heap.size (zR V L) (zR V L)):=⟨hbb,e1,e2,e3⟩
 have CK:Hid (∀W',Below w.heap.size w W'→Calls Tryz.prog 199 #[.agg #[.int .i64 (L.clock:Int),V.av]] W' fun e w'=>∃av',e=.returned (.agg #[.int .i64 (L.clock:Int),av'])∧w'.ownsRow W'.heap.size 66 3 av' all.length (all.flatMap eC)∧Below W'.heap.size W' w'):=fun W' hb=>vI (zq h.all hb) hl
 have HH:=zx h;have HW:=zx hW;have h1C:(zR V L).all (·.oneCell')=true:=h.one;have hCs:(zR V L).size=20:=rfl;have hsz:(Tryz.prog.info? 234).map (·.size)=some (zR V L).size:=Tryz.sizeLog;generalize hC:zR V L=C at *;have HC:=zx hC
 have hld:∀X:Obj,((w.alloc (Obj.cells C 234)).alloc X).heap[w.heap.size]? = some (Obj.cells C 234 (0,0)):=fun X=>heap_alloc2_old w _ _
 have hst:((w.alloc (Obj.cells C 234)).alloc (Obj.cells zrC 234)).heap.size=w.heap.size+1+1:=by simp
 have hlz:(((w.alloc (Obj.cells C 234)).alloc (Obj.cells zrC 234)).alloc (Obj.cells zrC 234)).heap[w.heap.size+1+1]? = some (Obj.cells zrC 234 (0,0)):=by
  rw[←hst];exact heap_alloc_last _ _
 have hsr:(((w.alloc (Obj.cells C 234)).alloc (Obj.cells zrC 234)).alloc (Obj.cells zrC 234)).setRow (w.heap.size+1+1) C=((w.alloc (Obj.cells C 234)).alloc (Obj.cells zrC 234)).alloc (Obj.cells C 234):=by
  rw[←hst];exact World.setRow_alloc_new _ _ _ _
 have hzC:zrC.size=C.size:=by rw[hCs];rfl
 clear hC h hW hbb e1 e2 e3 hs hst
 go_enter Tryz.func127,Tryz.ntmps127
 go_upto_region 1 with fail
 go_upto_region 2 with(first
  | (refine wpList_load_row rfl 234 (.tmp 1) rfl w.heap.size rfl 234 C (0,0) _ (hld _) Tryz.underlying234 rfl hsz ?_)
  | (refine wpList_store_row rfl 234 (.tmp 3) (.tmp 7) rfl (w.heap.size+1+1) C rfl rfl 234 zrC hlz hsz hzC h1C ?_))
 have hsr':=hsr;have hW':=HW.out;unfold zrC at hsr' hW';rw[hsr',←hW'];clear hsr' hW' hsr hlz hld hzC HW
 have hC6:C[6]? = some (.int .i64 (L.clock:Int)):=by rw[←HC.out];rfl
 have hC7:C[7]? = some V.av:=by rw[←HC.out];rfl
 have hC8:C[8]? = some V.mv:=by rw[←HC.out];rfl
 have hav:=zu HH.out.all;have hmv:=zu HH.out.mem;have s6:=(zy HX.out.src hC6).1;have s7:=(zy HX.out.src hC7).1;obtain⟨aa,ca,hav,_,_⟩:=hav;rw[hav]at s7 CK;have HAV:=zx hav;clear hav
 have FS:Hid (∀(W2:World) (v7 v8:Value),CpX w W2 w.heap.size C C→CpX w (((W2.setCell ⟨w.heap.size+1+1,6,none⟩ (.int .i64 (L.clock:Int))).setCell ⟨w.heap.size+1+1,7,none⟩ v7).setCell ⟨w.heap.size+1+1,8,none⟩ v8) w.heap.size C (zR { V with av:=v7,mv:=v8 } L)):=fun W2 v7 v8 hx=>by
  have:=((hx.set 6 (.int .i64 (L.clock:Int))).set 7 v7).set 8 v8
  have e:((C.setIfInBounds 6 (.int .i64 (L.clock:Int))).setIfInBounds 7 v7).setIfInBounds 8 v8=zR { V with av:=v7,mv:=v8 } L:=by rw[←HC.out];rfl
  rw[e]at this;exact this
 have FO:Hid (∀(W2:World) (v7 v8:Value),CpX w W2 w.heap.size C C→(((W2.setCell ⟨w.heap.size+1+1,6,none⟩ (.int .i64 (L.clock:Int))).setCell ⟨w.heap.size+1+1,7,none⟩ v7).setCell ⟨w.heap.size+1+1,8,none⟩ v8).ownsRow 0 66 3 V.mv L.mem.length (L.mem.flatMap eC)):=fun W2 v7 v8 hx=>hx.own3 (zn HH.out.mem (fun g hg=>hx.bel.block g (zw HH.out.mem hg).2.1)) (by decide) _ _ _ _ _ _
 have F4:Hid (∀(W2 W5:World) (v7 v5:Value),CpX w W2 w.heap.size C C→W2.ownsRow w.heap.size 66 3 v7 all.length (all.flatMap eC)→(((W2.setCell ⟨w.heap.size+1+1,6,none⟩ (.int .i64 (L.clock:Int))).setCell ⟨w.heap.size+1+1,7,none⟩ v7).setCell ⟨w.heap.size+1+1,8,none⟩ (.slice none 0 0)).grownBy W5 none→W5.ownsRow w.heap.size 66 3 v5 L.mem.length (L.mem.flatMap eC)→(v5.ownBlock=none∨v5.ownBlock=some (((W2.setCell ⟨w.heap.size+1+1,6,none⟩ (.int .i64 (L.clock:Int))).setCell ⟨w.heap.size+1+1,7,none⟩ v7).setCell ⟨w.heap.size+1+1,8,none⟩ (.slice none 0 0)).heap.size)→CpX w W5 w.heap.size C (zR { V with av:=v7,mv:=.slice none 0 0 } L)∧CpS w (W5.setCell ⟨w.heap.size+1+1,8,none⟩ v5) w.heap.size C V { V with av:=v7,mv:=v5 } L all 0):=fun W2 W5 v7 v5 hx ho hg ho5 hn=>by
  have x4:=FS.out W2 v7 (.slice none 0 0) hx;have o4:=hx.own3 ho (by decide) 6 (.int .i64 (L.clock:Int)) 7 v7 8 (.slice none 0 0);have b5:=zI hg;have x5:=x4.below b5;have x6:=x5.set 8 v5;refine⟨x5,x6,rfl,rfl,rfl,rfl,x5.own (zq o4 b5) (by decide) _ _,x5.own ho5 (by decide) _ _,fun i hi=>absurd hi (Nat.not_lt_zero _),fun i _=>rfl,fun g hg hq=>?_,fun i j hi=>absurd hi (Nat.not_lt_zero _)⟩
  rcases hn with hn|hn
  ·rw[hn]at hq;cases hq
  ·rw[hn]at hq
   injection hq with hq
   have:=(zw ho hg).2.1;simp at hq;omega
 generalize hn:w.heap.size=n at *;have HN:=zx hn;clear hn
 go_upto_region 5 with(first
  | (go_at_call 199;refine(CK.out W HX.out.bel).mono ?_;rintro e W2 ⟨av',rfl,o2,b2⟩;have HX2:=zx (HX.out.below b2);have HO2:=zx (zW o2 (by have:=HX.out.sz;omega:n≤W.heap.size));obtain⟨a2,c2,rfl,_,_⟩:=zu o2;obtain⟨x6,y6⟩:=zy HX2.out.x hC6;obtain⟨x7,y7⟩:=zy HX2.out.x hC7;obtain⟨x8,y8⟩:=zy HX2.out.x hC8;have sm:=(zy HX2.out.src hC8).1;clear o2 b2)
  | (at_builtin;refine zb _ rfl (.tmp 14) (.tmp 16) 57 rfl n 0 66 i0 (.agg #[.int .i64 0, .int .i64 0, .string ByteArray.empty]) 3 32 Tryz.underlying57 hi0 hz0 hz1 hz2 rfl (by decide) _ _ _ rfl (World.ownsRow_nil _ _ _ _) _ _ _ rfl (FO.out W2 _ _ HX2.out) (sQ _) (by unfold maxLen;omega) (by omega) (by have:=HX2.out.sz;simp;omega) ?_;intro v5 W5 o5 g5 n5;have o6:W5.ownsRow n 66 3 v5 L.mem.length (L.mem.flatMap eC):=(by simpa using o5);obtain⟨q5,q6⟩:=F4.out W2 W5 _ v5 HX2.out HO2.out g5 o6 n5;obtain⟨z8,z9⟩:=zy (j:=8) (u:=.slice none 0 0) q5.x rfl;have HS0:=zx q6;obtain⟨a5,c5,rfl,_,_⟩:=zu o6;clear o5 g5 n5 o6 q5 q6))
 obtain⟨W6,hW6⟩:∃W6,W6=W5.setCell ⟨n+1+1,8,none⟩ (.slice a5 L.mem.length c5):=⟨_,rfl⟩;have hs0:=HS0.out;rw[←hW6]at hs0 ⊢;have HS1:Hid (∃V0,CpS w W6 n C V V0 L all 0):=⟨_,hs0⟩;obtain⟨j0,hj0,hk0,hk1,hk2⟩:=info_parts Tryz.infoRow;clear hs0 hW6 HS0 HX2 HO2 F4 FO FS x6 y6 x7 y7 x8 y8 sm z8 z9 s6 s7 CK;have HLV:=zx hlv
 have CC:Hid (∀k,k<6→C[9+k]? = some (V.lv k)):=fun k hk=>by rw[←HC.out];exact xE V L hk
 clear hlv;go_wp2_with fail
 go_loopw [4] (fun i wr=>∃k:Nat,k≤6∧i=.int .i64 k∧∃V1,CpS w wr n C V V1 L all k) (fun i _=>6-(intOf i).toNat)
 case atStart=>obtain⟨V0,h0⟩:=HS1.out;exact⟨0,Nat.zero_le _,rfl,V0,h0⟩
 case round=>
  obtain⟨k,hk,rfl,V1,hS⟩:=hrel;have HS:=zx hS;by_cases hlt:k<6
  ·obtain⟨x0,y0⟩:=zy hS.x.x (xE V1 L hlt);have sx:=(zy hS.x.src (CC.out k hlt)).1;have hkl:=HLV.out k hlt;obtain⟨Wn,hWn⟩:∃Wn,Wn=wr.setCell ⟨n+1+1,9+k,none⟩ (.slice none 0 0):=⟨_,rfl⟩;have xn:=hS.x.set (9+k) (.slice none 0 0);rw[←hWn]at xn;have hok0:=HH.out.lev k hlt;have hok:Wn.ownsRow 0 57 1 (V.lv k) (L.lev k).length ((List.range (L.lev k).length).map (V.sv k)):=zn hok0 (fun g hg=>xn.bel.block g (by rw[←HN.out];exact(zw hok0 hg).2.1));have HOK:=zx hok;have HONE:=zx (jj (f:=V.sv k) (n:=(L.lev k).length) (fun j hj=>jq (HH.out.seg k hlt j hj)));have tx:=zy xn.x (show((zR V1 L).setIfInBounds (9+k) (.slice none 0 0))[9+k]? = some (.slice none 0 0) by rw[uY _ _ _ hlt,xE _ _ hlt];simp);have tsx:=(zy xn.src (CC.out k hlt)).1;have hszn:=xn.sz
   have FN:Hid (∀W7 v5,Wn.grownBy W7 none→W7.ownsRow n 57 1 v5 (L.lev k).length ((List.range (L.lev k).length).map (V.sv k))→(v5.ownBlock=none∨v5.ownBlock=some Wn.heap.size)→(W7.cell? ⟨n+1+1,9+k,none⟩=some (.slice none 0 0)∧W7.frozen? ⟨n+1+1,9+k,none⟩=false)∧∃V2,CpS w (W7.setCell ⟨n+1+1,9+k,none⟩ v5) n C V V2 L all (k+1)):=fun W7 v5 g o hn5=>by
    have b7:=zI g;refine⟨zy (xn.below b7).x (show((zR V1 L).setIfInBounds (9+k) (.slice none 0 0))[9+k]? = some (.slice none 0 0) by rw[uY _ _ _ hlt,xE _ _ hlt];simp),_,HS.out.next hlt (by rw[←hWn];exact b7) o (by rw[←hWn];exact hn5)⟩
   obtain⟨tx1,tx2⟩:=tx;obtain⟨al,cl,hvl,_,_⟩:=zu hok0;generalize V.lv k=vl at *;generalize hnl:(L.lev k).length=nl at *;generalize (List.range nl).map (V.sv k)=xl at *;subst hvl;have HWN:=zx hWn;clear hS xn hok hok0 hWn hnl
   go_upto_region 9 with fail
   rw[←HWN.out]
   go_region_law (refine xh _ rfl _ _ 24 rfl n 0 57 j0 (.slice none 0 0) 1 24 Tryz.underlying24 hj0 hk0 hk1 hk2 rfl (by decide) _ _ _ rfl (by exact World.ownsRow_nil _ _ _ _) (.slice al nl cl) nl xl rfl (by exact HOK.out) HONE.out (by unfold maxLen;omega) (by omega) (by show n≤Wn.heap.size;omega) ?_;intro v5 W7 o5 g5 n5;have g6:Wn.grownBy W7 none:=⟨g5.os,g5.tape,g5.output,g5.size,g5.block⟩;have o6:W7.ownsRow n 57 1 v5 nl xl:=(by simpa using o5);obtain⟨⟨fb,ff⟩,hfn⟩:=FN.out W7 v5 g6 o6 n5;have HFN:=zx hfn;obtain⟨a9,c9,rfl,_,_⟩:=zu o6;clear o5 g5 g6 n5 o6 hfn)
   all_goals (
    go_wp2_with fail;obtain⟨V2,h2⟩:=HFN.out
    exact⟨⟨k+1,by omega,by go_num,V2,h2⟩,by simp[intOf];omega⟩)
  ·have hk6:k=6:=by omega
   rw[hk6]at hS HS;have HK6:=zx hk6;clear hk6;obtain⟨x0,y0⟩:=zy (j:=15) (u:=V1.wv) hS.x.x rfl
   have C15:C[15]? = some V.wv:=by rw[←HC.out];rfl
   have C16:C[16]? = some V.tv:=by rw[←HC.out];rfl
   have C19:C[19]? = some (.slice none 0 0):=by rw[←HC.out];rfl
   have HWS:=zx HH.out.wks;obtain⟨aw,cw,hwv,hcw,hcm⟩:=zu HWS.out;rw[hwv]at C15 HWS;have hst:=hS.toW;obtain⟨Wn,hWn⟩:∃Wn,Wn=wr.setCell ⟨n+1+1,15,none⟩ (.slice none 0 0):=⟨_,rfl⟩;rw[←hWn]at hst;have HST:Hid (∃V0,CpW w Wn n C V V0 L all 0):=⟨_,hst⟩;have HWN:=zx hWn;obtain⟨p0,hp0,hq0,hq1,hq2⟩:=info_parts Tryz.infoWkr;obtain⟨u0,hu0,hv0,hv1,hv2⟩:=info_parts Tryz.infoI;have HWL:=zx hwl;have hWV:=zx hwv;clear hS hWn hst hwl CC HLV HS1 HS hwv;generalize hnw:L.wks.length=nw at *;have HNW:=zx hnw;clear hnw;unfold maxLen at hcm
   go_upto_region 11 with fail
   rw[←HWN.out];go_wp2_with fail;obtain⟨wo,rfl⟩:∃wo,wo=wr:=⟨_,rfl⟩
   go_loopw [5] (fun i wr=>∃m:Nat,m≤nw∧i=.int .i64 m∧∃V1,CpW w wr n C V V1 L all m) (fun i _=>nw-(intOf i).toNat)
   case atStart=>obtain⟨V0,h0⟩:=HST.out;exact⟨0,Nat.zero_le _,rfl,V0,h0⟩
   case round=>
    obtain⟨m,hmn,rfl,V2,hS⟩:=hrel;have HS:=zx hS;have sw:=(zy hS.x.src C15).1;by_cases hlt:m<nw
    ·have hows:wr.ownsRow 0 304 3 (.slice aw nw cw) nw (yz L.wks V.wl V.rd):=zn HWS.out (fun g hg=>hS.x.bel.block g (by rw[←HN.out];exact(zw HWS.out hg).2.1));obtain⟨g,rfl⟩:=zf hows (by omega);obtain⟨r0,r1,r2⟩:=yp (ks:=L.wks) (wl:=V.wl) (rd:=V.rd) (q:=m) (by rw[HNW.out];exact hlt);have k0:=zg hows r0;have k1:=zg hows r1;have k2:=zg hows r2;have hl0:=HH.out.lst m (by rw[HNW.out];exact hlt);have hll:=HWL.out m hlt;obtain⟨al,cl,hvl,_,_⟩:=zu hl0;obtain⟨Wm,hWm⟩:∃Wm,Wm=wr.alloc (Obj.cells #[.slice none 0 0, .int .i64 (uD (L.wks.getD m zo).runs), .int .i64 (V.rd m)] 304):=⟨_,rfl⟩
     have bm:Below wr.heap.size wr Wm:=by rw[hWm];exact zv _ _
     have em:Wm.heap[wr.heap.size]? = some (Obj.cells #[.slice none 0 0, .int .i64 (uD (L.wks.getD m zo).runs), .int .i64 (V.rd m)] 304 (0,0)):=by rw[hWm];exact zj wr _ _
     have hbw:Below n w Wm:=hS.x.bel.trans (bm.mono (by have:=hS.x.sz;omega));have hol:Wm.ownsRow 0 3 1 (V.wl m) (L.wks.getD m zo).list.length ((L.wks.getD m zo).list.map iV):=zn hl0 (fun g hg=>hbw.block g (by rw[←HN.out];exact(zw hl0 hg).2.1));have HOL:=zx hol;have howm:=zq hows bm;have t0:=zg howm r0;have tsw:=(zy (hS.x.below bm).src C15).1;obtain⟨n0,n1⟩:=zy (j:=0) (u:=.slice none 0 0) em rfl
     have hnsz:n≤Wm.heap.size:=by have:=(hS.x.below bm).sz;omega
     have HONE:Hid (∀u∈(L.wks.getD m zo).list.map iV,u.oneCell'=true):=fun u hu=>by obtain⟨x,_,rfl⟩:=List.mem_map.1 hu;rfl
     have FN:Hid (∀W3 v3,Wm.grownBy W3 none→W3.ownsRow n 3 1 v3 (L.wks.getD m zo).list.length ((L.wks.getD m zo).list.map iV)→(v3.ownBlock=none∨v3.ownBlock=some Wm.heap.size) →
       W3.heap[wr.heap.size]? = some (Obj.cells #[.slice none 0 0, .int .i64 (uD (L.wks.getD m zo).runs), .int .i64 (V.rd m)] 304 (0,0))∧∀W4,W4=W3.setCell ⟨wr.heap.size,0,none⟩ v3→W4.heap[wr.heap.size]? = some (Obj.cells #[v3, .int .i64 (uD (L.wks.getD m zo).runs), .int .i64 (V.rd m)] 304 (0,0))∧W4.cell? ⟨n+1+1,15,none⟩=some V2.wv∧W4.ownsRow n 304 3 V2.wv m ((List.range m).flatMap (fun q=>mL (L.wks.getD q zo) (V2.wl q) (V.rd q)))∧n≤W4.heap.size ∧
       ∀W6 v6,(W4.alloc (Obj.cells #[v3, .int .i64 (uD (L.wks.getD m zo).runs), .int .i64 (V.rd m)] 304)).grownBy W6 V2.wv.ownBlock→W6.ownsRow n 304 3 v6 (m+1) ((List.range m).flatMap (fun q=>mL (L.wks.getD q zo) (V2.wl q) (V.rd q))++[v3, .int .i64 (uD (L.wks.getD m zo).runs), .int .i64 (V.rd m)])→(W6.cell? ⟨n+1+1,15,none⟩=some V2.wv∧W6.frozen? ⟨n+1+1,15,none⟩=false)∧∃V3,CpW w (W6.setCell ⟨n+1+1,15,none⟩ v6) n C V V3 L all (m+1)):=fun W3 v3 g o hn3=>by
      rw[hWm]at g hn3;obtain⟨e3,b3,s3⟩:=gS g;have x3:=HS.out.x.below b3;have hsz3:=HS.out.x.sz;refine⟨e3,fun W4 hW4=>?_⟩;subst hW4;refine⟨zh e3,(zy (j:=15) (u:=V2.wv) ((zt (by omega)).trans x3.x) rfl).1,zn (zq HS.out.row b3) (fun g hg=>zt (by have:=(zw HS.out.row hg).2.1;omega)),by have:=x3.sz;simp;omega,fun W6 v6 g6 o6=>?_⟩;obtain⟨q1,q2⟩:=HS.out.next g o hn3 g6 o6;exact⟨zy (j:=15) (u:=V2.wv) q1 rfl,_,q2⟩
     obtain⟨v2a,v2c,hvv,_,_⟩:=zu hS.row;have HWM:=zx hWm;generalize L.wks.getD m zo=kq at *;generalize V.wl m=vl at *;generalize V.rd m=rm at *;generalize hnl:kq.list.length=nl at *;generalize hxl:kq.list.map iV=xl at *;generalize uD kq.runs=rr at *;generalize V2.wv=wv2 at *;generalize (List.range m).flatMap (fun q=>mL (L.wks.getD q zo) (V2.wl q) (V.rd q))=wls at *;subst hvl;subst hvv;clear hS hWm bm em hbw hl0 hol howm hows hnl hxl r0 r1 r2
     go_upto_region 16 with fail
     rw[←HWM.out]
     go_region_law (refine xh _ rfl _ _ 149 rfl n 0 3 u0 (.int .i64 0) 1 8 Tryz.underlying149 hu0 hv0 hv1 hv2 rfl (by decide) _ _ _ rfl (by exact World.ownsRow_nil _ _ _ _) (.slice al nl cl) nl xl rfl (by exact HOL.out) HONE.out (by unfold maxLen;omega) (by omega) (by show n≤Wm.heap.size;omega) ?_;intro v3 W3 o5 g5 n5;have g6:Wm.grownBy W3 none:=⟨g5.os,g5.tape,g5.output,g5.size,g5.block⟩;have o6:W3.ownsRow n 3 1 v3 nl xl:=(by simpa using o5);obtain⟨e3,hf4⟩:=FN.out W3 v3 g6 o6 n5;have HF4:=zx hf4;obtain⟨fb,ff⟩:=zy (j:=0) (u:=.slice none 0 0) e3 rfl;obtain⟨a9,c9,rfl,_,_⟩:=zu o6;clear o5 g5 g6 n5 o6 hf4 e3)
     all_goals (
      obtain⟨W4,hW4⟩:∃W4,W4=W3.setCell ⟨wr.heap.size,0,none⟩ (.slice a9 nl c9):=⟨_,rfl⟩;obtain⟨e4,f4,o4,s4,h6⟩:=HF4.out W4 hW4;rw[←hW4];have HO4:=zx o4;have H6:=zx h6;obtain⟨w0,_⟩:=zy (j:=0) (u:=.slice a9 nl c9) e4 rfl;obtain⟨w1,_⟩:=zy (j:=1) (u:=.int .i64 rr) e4 rfl;obtain⟨w2,_⟩:=zy (j:=2) (u:=.int .i64 rm) e4 rfl;clear e4 o4 h6 hW4 fb ff n0 n1 t0 tsw k0 k1 k2;go_wp2_with (first|(at_builtin;refine zb _ rfl _ _ 230 rfl n 0 304 p0 (.agg #[.slice none 0 0, .int .i64 0, .int .i64 0]) 3 40 Tryz.underlying230 hp0 hq0 hq1 hq2 rfl (by decide) _ _ _ rfl (zq HO4.out (zv _ _)) _ _ _ rfl (World.ownsRow_lit W4 #[.slice a9 nl c9, .int .i64 rr, .int .i64 rm] 1 (Nat.zero_le _) (by decide) rfl) (by intro u hu;simp at hu;rcases hu with rfl|rfl|rfl <;> rfl) (by unfold maxLen;omega) (by omega) (by simp;omega) ?_;intro v6 W6 o6 g6 n6;obtain⟨⟨r0,r1⟩,r2⟩:=H6.out W6 v6 g6 o6;have HR2:=zx r2;obtain⟨b6,d6,rfl,_,_⟩:=zu o6;clear r2 o6 g6 n6))
      go_roundw
      case rel=>obtain⟨V3,h3⟩:=HR2.out;exact⟨m+1,by omega,by go_num,V3,h3⟩
      case measure=>simp[intOf];omega)
    ·obtain rfl:m=nw:=by omega
     obtain⟨x6,y6⟩:=zy (j:=16) (u:=V2.tv) hS.x.x rfl;have s16:=(zy hS.x.src C16).1;obtain⟨Wt,hWt⟩:∃Wt,Wt=wr.setCell ⟨n+1+1,16,none⟩ (.slice none 0 0):=⟨_,rfl⟩;have xt:=hS.x.set 16 (.slice none 0 0);rw[←hWt]at xt;obtain⟨x7,y7⟩:=zy (j:=16) (u:=.slice none 0 0) xt.x rfl;have t16:=(zy xt.src C16).1;have hot:Wt.ownsRow 0 341 3 V.tv ts.length (ts.flatMap xg):=zn HH.out.tls (fun g hg=>xt.bel.block g (by rw[←HN.out];exact(zw HH.out.tls hg).2.1));have HOT:=zx hot
     have hnt:n≤Wt.heap.size:=by have:=xt.sz;omega
     have FT:Hid (∀W2 v4,Wt.grownBy W2 none→W2.ownsRow n 341 3 v4 ts.length (ts.flatMap xg)→W2.heap[n+1+1]? = some (Obj.cells (zR { V2 with tv:=.slice none 0 0 } L) 234 (0,0))∧(CpX w (((W2.setCell ⟨n+1+1,16,none⟩ v4).setCell ⟨n+1+1,19,none⟩ (.slice none 0 0)).setCell ⟨n+1+1,19,none⟩ (.slice none 0 0)) n C (zR { V2 with tv:=v4 } L)∧∀W7,W7=(((W2.setCell ⟨n+1+1,16,none⟩ v4).setCell ⟨n+1+1,19,none⟩ (.slice none 0 0)).setCell ⟨n+1+1,19,none⟩ (.slice none 0 0)).setRow (n+1) (zR { V2 with tv:=v4 } L)→W7.heap[n+1]? = some (Obj.cells (zR { V2 with tv:=v4 } L) 234 (0,0))∧RfV (fun g=>Z g∨n≤g) n W7 { V2 with tv:=v4 } L all ts∧RfD n { V2 with tv:=v4 } L∧Below n w W7)):=fun W2 v4 g o=>by
      rw[hWt]at g;have h':=HS.out;rw[←HNW.out]at h';exact h'.fin HH.out HN.out hZ g o
     obtain⟨d0,hd0,he0,he1,he2⟩:=info_parts Tryz.infoTail;obtain⟨kk0,hkk0,_,_,_⟩:=info_parts Tryz.infoKept
     have HT1:Hid (∀u∈ts.flatMap xg,u.oneCell'=true):=fun u hu=>by
      obtain⟨t,_,ht⟩:=List.mem_flatMap.1 hu;simp[xg]at ht
      rcases ht with rfl|rfl|rfl <;> rfl
     have hone:∀v,Rv.mk V2.av V2.mv V2.lv V2.sv V2.wv V2.wl V2.rd v={ V2 with tv:=v }:=fun _=>rfl
     have HWT:=zx hWt
     have H1:Hid (∀v4 W7,RfV (fun g=>Z g∨n≤g) n W7 { V2 with tv:=v4 } L all ts→(zR { V2 with tv:=v4 } L).all (·.oneCell')=true):=fun v4 W7 h=>h.one
     have hsLog:∀v4,(Tryz.prog.info? 234).map (·.size)=some (zR { V2 with tv:=v4 } L).size:=fun _=>Tryz.sizeLog
     clear hS hWt xt hot hone;generalize V.tv=tvv at *
     go_upto_region 19 with fail
     rw[←HWT.out]
     go_upto_region 20 with(first
      | (at_builtin;refine zb _ rfl _ _ 231 rfl n 0 341 d0 (.agg #[.int .i64 0, .string ⟨#[]⟩, .int .i64 0]) 3 32 Tryz.underlying231 hd0 he0 he1 he2 rfl (by decide) _ _ _ rfl (World.ownsRow_nil _ _ _ _) _ _ _ rfl HOT.out HT1.out (by unfold maxLen;omega) (by omega) hnt ?_;intro v4 W2 o4 g4 n4;have o5:W2.ownsRow n 341 3 v4 ts.length (ts.flatMap xg):=(by simpa using o4);obtain⟨q1,q2,q3⟩:=FT.out W2 v4 g4 o5;obtain⟨z1,z2⟩:=zy (j:=16) (u:=.slice none 0 0) q1 rfl;obtain⟨z3,z4⟩:=zy (j:=19) (u:=.slice none 0 0) q1 rfl;have HQ2:=zx q2;have HQ3:=zx q3;obtain⟨a7,c7,rfl,_,_⟩:=zu o5;clear o4 g4 n4 o5 q1 q2 q3))
     have hq2:=HQ2.out
     have sC:W2.heap[n]? = some (Obj.cells C 234 (0,0)):=by
      have:=hq2.src;rw[zt (by omega),zt (by omega),zt (by omega)]at this;exact this
     have s19:=(zy sC C19).1;obtain⟨D,hD⟩:∃D,D=zR { V2 with tv:=.slice a7 ts.length c7 } L:=⟨_,rfl⟩
     have hone:D.all (·.oneCell')=true:=by rw[hD];exact(HQ3.out _ rfl).2.1.one
     have hDs:(Tryz.prog.info? 234).map (·.size)=some D.size:=by rw[hD];exact Tryz.sizeLog
     have hDz:zrC.size=D.size:=by rw[hD];rfl
     have hq3:=HQ3.out;rw[←hD]at hq2 hq3;have dx:=hq2.x;have dr:=hq2.res;have HQ:=zx hq3;have HD:=zx hD;clear hq2 hq3 hD sC HQ2 HQ3
     go_wp2_with (first
      | (at_builtin;refine wpList_append_own_none rfl _ _ 232 rfl n 228 kk0 2 Tryz.underlying232 hkk0 _ _ _ rfl (World.ownsRow_nil _ _ _ _) rfl ?_)
      | (refine wpList_load_row rfl 234 (.tmp 3) rfl (n+1+1) rfl 234 D (0,0) _ dx Tryz.underlying234 rfl hDs ?_)
      | (refine wpList_store_row rfl 234 (.tmp 2) (.tmp 82) rfl (n+1) D rfl rfl 234 zrC dr hDs hDz hone ?_))
     obtain⟨W7,hW7⟩:∃W7,W7=(((W2.setCell ⟨n+1+1,16,none⟩ (.slice a7 ts.length c7)).setCell ⟨n+1+1,19,none⟩ (.slice none 0 0)).setCell ⟨n+1+1,19,none⟩ (.slice none 0 0)).setRow (n+1) D:=⟨_,rfl⟩;obtain⟨r1,r2,r3,r4⟩:=HQ.out W7 hW7;rw[←hW7];have hld:=run_loadVar_row (P:=Tryz.prog) W7 (n+1) 234 234 D (0,0) _ r1 Tryz.underlying234 rfl hDs;refine bodyPost_ret (v:=.agg D) ?_ rfl ⟨_,by rw[HD.out],?_,?_,?_⟩
     ·rw[za rfl];simp[Act.put,asAddr,Result.andThen,hld]
     ·rw[HN.out];exact r2
     ·rw[HN.out];exact r3
     ·rw[HN.out];exact r4
theorem oE {w:World}{cb:Nat}{V:Rv}{L:Lg}(hb:w.heap[cb]? = some (Obj.cells (zR V L) 234 (0,0))) (sq tm:Int) (tx:ByteArray) (ht:0≤tm∧tm≤1000000000000) (hk:L.keep≤1000000) (_hc:L.clock≤1000000000000) :
  Calls Tryz.prog 250 #[zr cb, .agg #[.int .i64 sq, .int .i64 tm, .string tx]] w fun e w'=>e=.returned (.bool (decide (tm+(L.keep:Int)<(L.clock:Int))))∧Below w.heap.size w w':=by
 have b1:=zv w (Obj.cells #[.int .i64 sq, .int .i64 tm, .string tx] 66);have k1:=zj w #[.int .i64 sq, .int .i64 tm, .string tx] 66;obtain⟨W,hW⟩:∃W,W=w.alloc (Obj.cells #[.int .i64 sq, .int .i64 tm, .string tx] 66):=⟨_,rfl⟩;rw[←hW]at b1 k1;have hcb:cb<w.heap.size:=(Mth.gI hb);have hbw:=(b1.block cb hcb).trans hb;have c4:=(zy (j:=4) (u:=.int .i64 (L.keep:Int)) hbw rfl).1;have c6:=(zy (j:=6) (u:=.int .i64 (L.clock:Int)) hbw rfl).1;have c1:=(zy (j:=1) (u:=.int .i64 tm) k1 rfl).1;have HB1:=zx b1;have HW:=zx hW;clear hb b1 k1 hW hbw;generalize L.keep=kp at *;generalize L.clock=ck at *
 go_enter Tryz.func250,Tryz.ntmps250
 go_upto_region 1 with fail
 rw[←HW.out]
 go_quiet (fail)
 go_wp2;go_ret;exact⟨by first|rfl|simp,HB1.out.trans ((yR W _).mono HB1.out.size)⟩
def rY (V:Rv) (L:Lg):Nat→List (Value × List Ent)
 | 0=>[]
 | k+1=>rY V L k++(List.range (L.lev (5-k)).length).map (fun j=>(V.sv (5-k) j,(L.lev (5-k)).getD j []))
theorem lS (l:List (List Ent)):(List.range l.length).map (fun j=>l.getD j [])=l:=by
 apply List.ext_getElem
 ·simp
 ·intro i h1 h2;simp[List.getD_eq_getElem?_getD,h2]
theorem fZ (V:Rv) (L:Lg):(rY V L 6).map Prod.snd=yv L.lev:=by
 rw[wu];simp only[rY,List.map_append,List.map_map,List.nil_append]
 have h:∀k,(List.range (L.lev k).length).map (Prod.snd ∘ fun j=>(V.sv k j,(L.lev k).getD j []))=L.lev k:=fun k=>lS (L.lev k)
 rw[h,h,h,h,h,h];simp
theorem dJ (V:Rv) (L:Lg) (k:Nat):(rY V L (k+1)).map Prod.fst=(rY V L k).map Prod.fst++(List.range (L.lev (5-k)).length).map (V.sv (5-k)):=by
 simp[rY,List.map_map,Function.comp_def]
theorem kH {Z:Nat→Prop}{B:Nat}{w:World}{V:Rv}{L:Lg}{all:List Ent}{ts:List Tl}(h:RfV Z B w V L all ts):∀k,k≤6→∀p∈rY V L k,w.ownsRow 0 66 3 p.1 p.2.length (p.2.flatMap eC)
 | 0,_,p,hp=>by cases hp
 | k+1,hk,p,hp=>by
  rcases List.mem_append.1 hp with hp|hp
  ·exact kH h k (by omega) p hp
  ·obtain⟨j,hj,rfl⟩:=List.mem_map.1 hp;exact h.seg (5-k) (by omega) j (List.mem_range.1 hj)
theorem pz (V:Rv) (L:Lg) (n:Nat) (h:∀i,i<6→(L.lev i).length≤n):∀k,k≤6→(rY V L k).length≤k*n
 | 0,_=>by simp[rY]
 | k+1,hk=>by
  have:=pz V L n h k (by omega);have h2:=h (5-k) (by omega);simp only[rY,List.length_append,List.length_map,List.length_range];rw[Nat.succ_mul];omega
theorem rM {Z:Nat→Prop}{B:Nat}{w:World}{cb:Nat}{V:Rv}{L:Lg}{all:List Ent}{ts:List Tl}(hb:w.heap[cb]? = some (Obj.cells (zR V L) 234 (0,0))) (h:RfV Z B w V L all ts) (hlv:∀i,i<6→(L.lev i).length≤1048576) :
  Calls Tryz.prog 249 #[zr cb] w fun e w'=>∃v,e=.returned v∧w'.ownsRow w.heap.size 57 1 v (rY V L 6).length ((rY V L 6).map Prod.fst)∧Below w.heap.size w w':=by
 obtain⟨j0,hj0,hk0,hk1,hk2⟩:=info_parts Tryz.infoRow;have HB:=zx hb;have HH:=zx h;have HLV:=zx hlv;have hcb:cb<w.heap.size:=(Mth.gI hb);have HUL:=zx (pz V L 1048576 hlv);clear hb h hlv
 go_enter Tryz.func249,Tryz.ntmps249
 go_wp2_with fail
 go_loopw [3,4] (fun v i wr=>∃k:Nat,k≤6∧i=.int .i64 (5-(k:Int))∧wr.ownsRow w.heap.size 57 1 v (rY V L k).length ((rY V L k).map Prod.fst)∧Below w.heap.size w wr) (fun _ i _=>(intOf i+1).toNat)
 case atStart=>exact⟨0,Nat.zero_le _,rfl,World.ownsRow_nil _ _ _ _,Below.refl _ _⟩
 case round=>
  obtain⟨k,hk,rfl,ho,hbl⟩:=hrel;obtain⟨av,cv,rfl,hcv,hmv⟩:=zu ho;unfold maxLen at hmv;have HO:=zx ho;have HBL:=zx hbl;by_cases hlt:k<6
  ·have hbw:=(hbl.block cb hcb).trans HB.out;obtain⟨q,hq,hq5⟩:∃q:Nat,(q:Int)=5-(k:Int)∧q<6:=⟨5-k,by omega,by omega⟩
   have hqk:q=5-k:=by omega
   have cq:=(zy hbw (xE V L hq5)).1;have hol:=zq (HH.out.lev q hq5) hbl;have hone:=jj (f:=V.sv q) (n:=(L.lev q).length) (fun j hj=>jq (HH.out.seg q hq5 j hj));obtain⟨al,cl,hvl,_,_⟩:=zu hol;have hln:=HLV.out q hq5;have hul:=HUL.out k (by omega)
   have hnx:(rY V L (k+1)).map Prod.fst=(rY V L k).map Prod.fst++(List.range (L.lev q).length).map (V.sv q):=by rw[hqk];exact dJ V L k
   have hnl:(rY V L (k+1)).length=(rY V L k).length+(L.lev q).length:=by rw[hqk];simp[rY]
   have HNX:=zx hnx;have HNL:=zx hnl;have HOL:=zx hol;have HONE:=zx hone;have hsz:=hbl.size;rw[←hq];have HQ:=zx hq;clear ho hbl hbw hol hone hnx hnl hqk hq;generalize V.lv q=vl at *;generalize (L.lev q).length=nl at *;generalize (List.range nl).map (V.sv q)=xl at *;generalize (rY V L k).length=nu at *;generalize (rY V L k).map Prod.fst=xu at *;subst hvl;go_wp2_with (first|(at_builtin;refine zb _ rfl _ _ 24 rfl w.heap.size B 57 j0 (.slice none 0 0) 1 24 Tryz.underlying24 hj0 hk0 hk1 hk2 rfl (by decide) _ _ _ rfl HO.out _ _ _ rfl HOL.out HONE.out (by unfold maxLen;omega) (by omega) hsz ?_;intro v5 W5 o5 g5 n5;have HB5:=zx (yL HBL.out HO.out (Nat.le_refl _) g5);have HO5:=zx o5;obtain⟨a5,c5,rfl,_,_⟩:=zu o5;clear o5 g5 n5))
   go_roundw
   case rel=>exact⟨k+1,by omega,by have:=HQ.out;go_num,by rw[HNL.out,HNX.out];exact HO5.out,HB5.out⟩
   case measure=>simp[intOf]
  ·obtain rfl:k=6:=by omega
   clear ho hbl;go_wp2_with fail;go_ret;exact⟨_,rfl,HO.out,HBL.out⟩
end Go.Proofs.YtkncboinfcnklaaGreatDoor.Rl
