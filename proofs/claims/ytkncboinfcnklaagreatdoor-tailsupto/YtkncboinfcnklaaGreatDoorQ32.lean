import Derived.Test.YtkncboinfcnklaaGreatDoorQ31
set_option maxRecDepth 100000
set_option maxHeartbeats 8000000
namespace Go.Proofs.YtkncboinfcnklaaGreatDoor.Lw
open Go.RowKit Go.Deep Go.Shelf Go.Proofs.YtkncboinfcnklaaGreatDoor.Mth Go.Proofs.YtkncboinfcnklaaGreatDoor.Rl
abbrev wO (a b:Int) (e r:Value):Array Value:=#[.int .i64 a, .int .i64 b,e,r]
abbrev vv (v:Value):Prop:=∃a n c,v=.slice a n c
structure AkC (w2 w3:World) (cs:Array Value) (o:Opr) (a b:Int) (te tr:Value) (FP:Value→World→Prop):Prop where
 sz:cs.size=20
 one:cs.all (·.oneCell')=true
 bel:Below w2.heap.size w2 w3
 an:∀W,Below w3.heap.size w3 W→W.heap[w3.heap.size]? = some (Obj.cells cs 234 (0,0))→Calls Tryz.prog 134 #[zr w3.heap.size,oV o] W fun e W'=>∃ue ur,e=.returned (.agg (wO a b ue ur))∧vv ue∧vv ur∧(∀W6,Below W'.heap.size W' W6→Calls Tryz.prog 120 #[te,ue] W6 fun e W'=>e=.returned (.bool true)∧Below W6.heap.size W6 W')∧(∀W6,Below W'.heap.size W' W6→Calls Tryz.prog 135 #[tr,ur] W6 fun e W'=>e=.returned (.bool true)∧Below W6.heap.size W6 W') ∧
  ∃c9:Array Value,c9.size=20∧c9.all (·.oneCell')=true∧W'.heap[w3.heap.size]? = some (Obj.cells c9 234 (0,0))∧Below w2.heap.size w2 W'∧∀W10 mv,Below w2.heap.size w2 W10→Below W'.heap.size W' W10→W10.ownsRow w2.heap.size 234 20 mv 1 c9.toList→FP mv W10
structure AkQ (w2:World) (hb ob wb tb mb mc:Nat) (o:Opr) (C:Array Value) (a b:Int) (te tr:Value) (FP:Value→World→Prop) (FQ:World→Prop):Prop where
 tl:w2.heap[tb]? = some (Obj.cells (wO a b te tr) 245 (0,0))
 ts:vv te∧vv tr
 c9:w2.cell? ⟨hb,9,none⟩=some (.slice (some ⟨mb,0,none⟩) 1 mc)∧w2.frozen? ⟨hb,9,none⟩=false
 op:w2.heap[ob]? = some (Obj.cells #[.int .i64 o.k, .int .i64 o.A, .int .i64 o.B, .int .i64 o.C, .string o.S, .string o.T] 94 (0,0))
 rg:w2.rangeAt mb 0 C.toList
 sz:C.size=20
 mc:1≤mc∧mc≤maxLen
 cp:Calls Tryz.prog 127 #[.agg C] w2 fun e w3=>∃cs,e=.returned (.agg cs)∧AkC w2 w3 cs o a b te tr FP
 ke:∀mv W10,FP mv W10→Below w2.heap.size w2 W10→Calls Tryz.prog 121 #[.pointer (some ⟨wb,9,none⟩),te] (W10.setCell ⟨hb,9,none⟩ mv).drew fun e W12=>e=.returned (.tuple #[])∧W12.heap[tb]? = some (Obj.cells (wO a b te tr) 245 (0,0))∧Calls Tryz.prog 136 #[.pointer (some ⟨wb,9,none⟩),tr] W12.drew fun e W13=>e=.returned (.tuple #[])∧FQ W13
theorem tY {w W0:World}{wb hb ob lb:Nat}(o:Opr) (FQ:World→Prop) (hW0:W0=w.alloc (Obj.cells #[.int .i64 o.k, .int .i64 o.A, .int .i64 o.B, .int .i64 o.C, .string o.S, .string o.T] 94)) (hob:ob=w.heap.size) (hhb:hb<ob) (_hne:hb≠wb)
  (d0:W0.cell? ⟨hb,0,none⟩=some (zr lb))
  (ca:∀W,Below W0.heap.size W0 W→(∀g,W0.heap.size≤g→g<W.heap.size→¬wM W g)→Calls Tryz.prog 133 #[zr lb,oV o] W fun e w2=>∃a b te tr,e=.returned (.agg (wO a b te tr))∧vv te∧vv tr∧(∀g,W0.heap.size≤g→g<W.heap.size→w2.heap[g]? = W.heap[g]?)∧W.heap.size≤w2.heap.size∧w2.heap[hb]? = W0.heap[hb]? ∧ w2.heap[ob]? = W0.heap[ob]? ∧
   ∀w2' tb,Tch (fun g=>W0.heap.size≤g∧g<W.heap.size) w2 w2'→w2'.heap[tb]? = some (Obj.cells (wO a b te tr) 245 (0,0))→ob<tb→∃mb mc C FP,AkQ w2' hb ob wb tb mb mc o C a b te tr FP FQ) :
  Calls Tryz.prog 69 #[zr wb,zr hb,oV o] w fun e w'=>e=.returned (.bool true)∧FQ w':=by
 obtain⟨ok,oA,oB,oC',oS,oT⟩:=o;simp only[oV]at ca ⊢
 have k0:W0.heap[ob]? = some (Obj.cells #[.int .i64 ok, .int .i64 oA, .int .i64 oB, .int .i64 oC', .string oS, .string oT] 94 (0,0)):=by rw[hW0,hob];exact zj _ _ _
 have hsz:W0.heap.size=ob+1:=by rw[hW0,hob];simp
 have bd:Below W0.heap.size W0 W0.drew:=zE W0;have bz:Below W0.heap.size W0 (W0.alloc (Obj.cells #[.int .i64 0, .int .i64 0, .slice none 0 0, .slice none 0 0] 245)).drew:=(zv W0 _).trans ((zE _).mono (by simp));have CA:=zx (ca _ bd (fun g h1 h2=>by have h3:W0.drew.heap.size=W0.heap.size:=rfl;omega))
 have CB:=zx (ca _ bz (fun g h1 h2=>by
  have h3:(W0.alloc (Obj.cells #[.int .i64 0, .int .i64 0, .slice none 0 0, .slice none 0 0] 245)).drew.heap.size=W0.heap.size+1:=by simp[World.drew]
  have h4:g=W0.heap.size:=by omega
  have h5:(W0.alloc (Obj.cells #[.int .i64 0, .int .i64 0, .slice none 0 0, .slice none 0 0] 245)).drew.heap[W0.heap.size]? = some (Obj.cells #[.int .i64 0, .int .i64 0, .slice none 0 0, .slice none 0 0] 245 (0,0)):=zj _ _ _;rintro ⟨C,fr,h6⟩;rw[h4,h5]at h6
  injection h6 with h6
  injection h6 with _ h6 _
  exact absurd h6 (by decide)))
 obtain⟨o0,_⟩:=zy (j:=0) (u:=.int .i64 ok) k0 rfl;obtain⟨o1,_⟩:=zy (j:=1) (u:=.int .i64 oA) k0 rfl;obtain⟨o2,_⟩:=zy (j:=2) (u:=.int .i64 oB) k0 rfl;obtain⟨o3,_⟩:=zy (j:=3) (u:=.int .i64 oC') k0 rfl;obtain⟨o4,_⟩:=zy (j:=4) (u:=.string oS) k0 rfl;obtain⟨o5,_⟩:=zy (j:=5) (u:=.string oT) k0 rfl;have HZ:Hid ((W0.alloc (Obj.cells #[.int .i64 0, .int .i64 0, .slice none 0 0, .slice none 0 0] 245)).heap[W0.heap.size]? = some (Obj.cells #[.int .i64 0, .int .i64 0, .slice none 0 0, .slice none 0 0] 245 (0,0))):=zj _ _ _
 have HZS:Hid ((W0.alloc (Obj.cells #[.int .i64 0, .int .i64 0, .slice none 0 0, .slice none 0 0] 245)).drew.heap.size=W0.heap.size+1):=by show _=_;simp[World.drew]
 have HW:=zx hW0;have HOB:=zx hob;have K0:=zx k0
 have n1:W0.heap.size≠hb:=by omega
 have n2:W0.heap.size≠ob:=by omega
 have CC:Hid (∀W:World,W.heap[hb]? = W0.heap[hb]? → W.heap[ob]? = W0.heap[ob]? → W.cell? ⟨hb,0,none⟩=some (zr lb)∧W.cell? ⟨ob,0,none⟩=some (.int .i64 ok)∧W.cell? ⟨ob,1,none⟩=some (.int .i64 oA)∧W.cell? ⟨ob,2,none⟩=some (.int .i64 oB)∧W.cell? ⟨ob,3,none⟩=some (.int .i64 oC')∧W.cell? ⟨ob,4,none⟩=some (.string oS)∧W.cell? ⟨ob,5,none⟩=some (.string oT)):=fun W e1 e2=>⟨(World.cell?_of_block (w':=W) (a:=⟨hb,0,none⟩) e1).trans d0,(World.cell?_of_block (w':=W) (a:=⟨ob,0,none⟩) e2).trans o0,(World.cell?_of_block (w':=W) (a:=⟨ob,1,none⟩) e2).trans o1,(World.cell?_of_block (w':=W) (a:=⟨ob,2,none⟩) e2).trans o2,(World.cell?_of_block (w':=W) (a:=⟨ob,3,none⟩) e2).trans o3,(World.cell?_of_block (w':=W) (a:=⟨ob,4,none⟩) e2).trans o4,(World.cell?_of_block (w':=W) (a:=⟨ob,5,none⟩) e2).trans o5⟩
 have HSZ:=zx hsz;clear hW0 hob k0 ca bd bz hsz
 go_enter Tryz.func69,Tryz.ntmps69
 go_upto_region 1 with fail
 rw[←HW.out,←HOB.out]
 go_cut [7] from 13 (fun v wq=>∃tb a b te tr mb mc C FP,v=zr tb∧AkQ wq hb ob wb tb mb mc ⟨ok,oA,oB,oC',oS,oT⟩ C a b te tr FP FQ)
 case first=>
  go_region_held3 (fun w'=>w'.cell? ⟨hb,0,none⟩=some (zr lb)∧w'.cell? ⟨ob,0,none⟩=some (.int .i64 ok)∧w'.cell? ⟨ob,1,none⟩=some (.int .i64 oA)∧w'.cell? ⟨ob,2,none⟩=some (.int .i64 oB)∧w'.cell? ⟨ob,3,none⟩=some (.int .i64 oC')∧w'.cell? ⟨ob,4,none⟩=some (.string oS)∧w'.cell? ⟨ob,5,none⟩=some (.string oT)) (go_keep) (first
   | (go_at_call 133;refine CA.out.mono ?_;rintro e w2 ⟨a,b,te,tr,rfl,⟨ea,en,ec,rfl⟩,⟨ra,rn,rc,rfl⟩,q1,q2,q3,q4,q5⟩;have HQ1:=zx q1;have HQ2:=zx q2;have HQ5:=zx q5;obtain⟨x0,x1,x2,x3,x4,x5,x6⟩:=CC.out w2 q3 q4;clear q1 q2 q3 q4 q5)
   | (go_at_call 133;refine CB.out.mono ?_;rintro e w2 ⟨a,b,te,tr,rfl,⟨ea,en,ec,rfl⟩,⟨ra,rn,rc,rfl⟩,q1,q2,q3,q4,q5⟩;have hz2:=(q1 W0.heap.size (Nat.le_refl _) (by rw[HZS.out];omega)).trans HZ.out;obtain⟨y0,f0⟩:=zy (j:=0) (u:=.int .i64 0) hz2 rfl;obtain⟨y1,f1⟩:=zy (j:=1) (u:=.int .i64 0) hz2 rfl;obtain⟨y2,f2⟩:=zy (j:=2) (u:=.slice none 0 0) hz2 rfl;obtain⟨y3,f3⟩:=zy (j:=3) (u:=.slice none 0 0) hz2 rfl;have HZ2:=zx hz2;have HQ5:=zx q5;obtain⟨x0,x1,x2,x3,x4,x5,x6⟩:=CC.out w2 q3 q4;clear q1 q2 q3 q4 q5 hz2))
  ·go_wp2_with fail
   go_meet
   have hbn:=zv w2 (Obj.cells (wO a b (.slice ea en ec) (.slice ra rn rc)) 245);obtain⟨mb,mc,C,FP,hq⟩:=HQ5.out (w2.alloc (Obj.cells (wO a b (.slice ea en ec) (.slice ra rn rc)) 245)) w2.heap.size ⟨hbn.os,hbn.tape,hbn.output,hbn.size,fun k hk _=>hbn.block k hk⟩ (zj _ _ _) (by have h1:=HQ2.out;have h2:=HSZ.out;have h3:W0.drew.heap.size=W0.heap.size:=rfl;omega);exact⟨_,a,b,_,_,mb,mc,C,FP,rfl,hq⟩
  ·go_wp2_with fail
   go_meet
   have hset:=zh (j:=3) (v:=.slice ra rn rc) (zh (j:=2) (v:=.slice ea en ec) (zh (j:=1) (v:=.int .i64 b) (zh (j:=0) (v:=.int .i64 a) HZ2.out)))
   obtain⟨mb,mc,C,FP,hq⟩:=HQ5.out ((((w2.setCell ⟨W0.heap.size,0,none⟩ (.int .i64 a)).setCell ⟨W0.heap.size,1,none⟩ (.int .i64 b)).setCell ⟨W0.heap.size,2,none⟩ (.slice ea en ec)).setCell ⟨W0.heap.size,3,none⟩ (.slice ra rn rc)) W0.heap.size ⟨rfl,rfl,rfl,by simp,fun k hk hn=>by
    have hk':k≠W0.heap.size:=fun e=>hn ⟨by omega,by rw[HZS.out];omega⟩
    rw[zt hk',zt hk',zt hk',zt hk']⟩ hset (by have h2:=HSZ.out;omega)
   exact⟨_,a,b,_,_,mb,mc,C,FP,rfl,hq⟩
 case rest=>
  obtain⟨tb,ta,tb',te,tr,mb,mc,C,FP,rfl,hq⟩:=hcut;obtain⟨q9,f9⟩:=hq.c9;obtain⟨hm1,hm2⟩:=hq.mc;unfold maxLen at hm2;have hts:=hq.ts;obtain⟨⟨ea,en,ec,rfl⟩,⟨ra,rn,rc,rfl⟩⟩:=hts;have HQ:=zx hq;clear hq d0 o0 o1 o2 o3 o4 o5 CA CB CC n1 n2 K0 HZ HZS
  go_upto_region 4 with fail
  go_loopw [8,9] (fun v j wr=>(j=.int .i64 0∧v=.slice none 0 0∧wr=wc)∨(j=.int .i64 1∧FP v wr∧Below wc.heap.size wc wr∧∃a c,v=.slice a 1 c)) (fun _ j _=>1-(intOf j).toNat)
  case atStart=>exact Or.inl ⟨rfl,rfl,rfl⟩
  case round=>
   rcases hrel with⟨rfl,rfl,hwr⟩|⟨rfl,hfp,hbl,va,vc,rfl⟩
   ·rw[hwr];clear hwr
    have hszC:(Tryz.prog.info? 234).map (·.size)=some C.toList.length:=by rw[Array.length_toList,HQ.out.sz];exact Tryz.sizeLog
    have HRG:=zx HQ.out.rg;have HCP:=zx HQ.out.cp
    go_upto_region 6 with fail
    go_upto_region 7 with(first
     | (refine wpList_load_mid rfl 234 (.tmp 33) rfl mb 0 rfl C.toList _ HRG.out Tryz.underlying234 rfl hszC ?_;rw[Array.toArray_toList])
     | (go_at_call 127;refine HCP.out.mono ?_;rintro e w3 ⟨cs,rfl,hc3⟩;have HC3:=zx hc3;have hsz3:(Tryz.prog.info? 234).map (·.size)=some cs.size:=(by rw[hc3.sz];exact Tryz.sizeLog);have hz3:zrC.size=cs.size:=(by rw[hc3.sz];rfl);have h13:=hc3.one;have hlz3:(w3.alloc (Obj.cells zrC 234)).heap[w3.heap.size]? = some (Obj.cells zrC 234 (0,0)):=heap_alloc_last _ _;clear hc3)
     | (refine wpList_store_row rfl 234 (.tmp 10) (.tmp 35) rfl w3.heap.size cs rfl rfl 234 zrC hlz3 hsz3 hz3 h13 ?_))
    have hsr:=World.setRow_alloc_new w3 zrC cs 234;unfold zrC at hsr;rw[hsr];clear hsr hlz3;have b4:=zv w3 (Obj.cells cs 234);have e4:=zj w3 cs 234;have hb3:=HC3.out.bel;generalize w3.alloc (Obj.cells cs 234)=W4 at *;have bc4:Below wc.heap.size wc W4:=hb3.trans (b4.mono hb3.size);have k4:=(bc4.block ob (Mth.gI HQ.out.op)).trans HQ.out.op;obtain⟨o0,_⟩:=zy (j:=0) (u:=.int .i64 ok) k4 rfl;obtain⟨o1,_⟩:=zy (j:=1) (u:=.int .i64 oA) k4 rfl;obtain⟨o2,_⟩:=zy (j:=2) (u:=.int .i64 oB) k4 rfl;obtain⟨o3,_⟩:=zy (j:=3) (u:=.int .i64 oC') k4 rfl;obtain⟨o4,_⟩:=zy (j:=4) (u:=.string oS) k4 rfl;obtain⟨o5,_⟩:=zy (j:=5) (u:=.string oT) k4 rfl;have HAN:=zx (HC3.out.an W4 b4 e4);simp only[oV]at HAN;have HTL:=zx HQ.out.tl;have htl:tb<wc.heap.size:=(Mth.gI HQ.out.tl);clear e4 b4 k4 hb3 bc4 HRG HCP
    go_upto_region 8 with(first
     | (go_at_call 134;refine HAN.out.mono ?_;rintro e W5 ⟨ue,ur,rfl,⟨ua,un,uc,rfl⟩,⟨va,vn,vc,rfl⟩,hse,hsr,c9,z9,w9,e9,b9,hfp⟩;have HSE:=zx hse;have HSR:=zx hsr;have HE9:=zx e9;have HB9:=zx b9;have HFP:=zx hfp;have hs9:(Tryz.prog.info? 234).map (·.size)=some c9.size:=(by rw[z9];exact Tryz.sizeLog);have HZ9:=zx z9;have HW9:=zx w9;clear e9 b9 hfp z9 w9 hse hsr))
    have b6:=zv W5 (Obj.cells (wO ta tb' (.slice ua un uc) (.slice va vn vc)) 245);have k6:=zj W5 (wO ta tb' (.slice ua un uc) (.slice va vn vc)) 245;have HE6:=zx ((b6.block _ (Mth.gI HE9.out)).trans HE9.out);have HB56:=zx b6;have HCE:=zx (HSE.out _ b6);have HB6:Hid (Below wc.heap.size wc (W5.alloc (Obj.cells (wO ta tb' (.slice ua un uc) (.slice va vn vc)) 245))):=HB9.out.trans (b6.mono HB9.out.size);have t6:=(HB6.out.block tb htl).trans HTL.out;have s6:W5.heap.size<(W5.alloc (Obj.cells (wO ta tb' (.slice ua un uc) (.slice va vn vc)) 245)).heap.size:=(Mth.gI k6);clear b6;obtain⟨W6,hW6⟩:∃W6,W6=W5.alloc (Obj.cells (wO ta tb' (.slice ua un uc) (.slice va vn vc)) 245):=⟨_,rfl⟩;rw[←hW6]at HE6 HB56 HCE HB6 t6 k6 s6;rw[←hW6];obtain⟨x0,_⟩:=zy (j:=0) (u:=.int .i64 ta) t6 rfl;obtain⟨x1,_⟩:=zy (j:=1) (u:=.int .i64 tb') t6 rfl;obtain⟨x2,_⟩:=zy (j:=2) (u:=.slice ea en ec) t6 rfl;obtain⟨x3,_⟩:=zy (j:=3) (u:=.slice ra rn rc) t6 rfl;obtain⟨y0,_⟩:=zy (j:=0) (u:=.int .i64 ta) k6 rfl;obtain⟨y1,_⟩:=zy (j:=1) (u:=.int .i64 tb') k6 rfl;obtain⟨y2,_⟩:=zy (j:=2) (u:=.slice ua un uc) k6 rfl;obtain⟨y3,_⟩:=zy (j:=3) (u:=.slice va vn vc) k6 rfl;have hfold:=uO (z:=zrC) (c:=c9) (by rw[HZ9.out];rfl);unfold zrC at hfold;have hz9:=HZ9.out;rw[hz9]at hfold;have HT6:=zx t6;have HK6:=zx k6;have hwc:wc.heap.size≤W6.heap.size:=HB6.out.size;have tb6:tb<W6.heap.size:=Nat.lt_of_lt_of_le htl hwc;obtain⟨l0,hl0,hl1,hl2,hl3⟩:=info_parts Tryz.infoLogR;clear o0 o1 o2 o3 o4 o5 HAN t6 k6 hW6 HSE
    go_upto_region 10 with(first
     | (go_at_call 120;refine HCE.out.mono ?_;rintro e W7 ⟨rfl,hb7⟩;have t7:=(hb7.block tb tb6).trans HT6.out;have k7:=(hb7.block _ s6).trans HK6.out;obtain⟨p0,_⟩:=zy (j:=0) (u:=.int .i64 ta) t7 rfl;obtain⟨p1,_⟩:=zy (j:=1) (u:=.int .i64 tb') t7 rfl;obtain⟨p3,_⟩:=zy (j:=3) (u:=.slice ra rn rc) t7 rfl;obtain⟨r0,_⟩:=zy (j:=0) (u:=.int .i64 ta) k7 rfl;obtain⟨r1,_⟩:=zy (j:=1) (u:=.int .i64 tb') k7 rfl;obtain⟨r3,_⟩:=zy (j:=3) (u:=.slice va vn vc) k7 rfl;have HB7:=zx hb7;have HCR:=zx (HSR.out W7 (HB56.out.trans (hb7.mono HB56.out.size)));have HT7:=zx t7;have HK7:=zx k7;clear hb7 t7 k7)
     | (go_at_call 135;refine HCR.out.mono ?_;rintro e W8 ⟨rfl,hb8⟩;have s7:=HB7.out.size;have t8:=(hb8.block tb (by omega)).trans HT7.out;have k8:=(hb8.block _ (by omega)).trans HK7.out;obtain⟨v0,_⟩:=zy (j:=0) (u:=.int .i64 ta) t8 rfl;obtain⟨v1,_⟩:=zy (j:=1) (u:=.int .i64 tb') t8 rfl;obtain⟨z0,_⟩:=zy (j:=0) (u:=.int .i64 ta) k8 rfl;obtain⟨z1,_⟩:=zy (j:=1) (u:=.int .i64 tb') k8 rfl;have HB8:=zx (HB7.out.trans (hb8.mono HB7.out.size));clear hb8 t8 k8 s7))
    have HE8:=zx ((HB8.out.block _ (Mth.gI HE6.out)).trans HE6.out);have hwc8:wc.heap.size≤W8.heap.size:=Nat.le_trans hwc HB8.out.size;have HBC8:=zx (HB6.out.trans (HB8.out.mono hwc));have HB58:=zx (HB56.out.trans (HB8.out.mono HB56.out.size));clear v0 v1 z0 z1 p0 p1 p3 r0 r1 r3 HT6 HK6 HT7 HK7 HB7;clear HCE HCR x0 x1 x2 x3 y0 y1 y2 y3
    go_wp2_with (first
     | (refine wpList_load_row rfl 234 (.tmp 10) rfl w3.heap.size rfl 234 c9 (0,0) _ HE8.out Tryz.underlying234 rfl hs9 ?_)
     | (at_builtin;refine zb _ rfl (.tmp 65) (.tmp 67) 153 rfl wc.heap.size 0 234 l0 (.agg zrC) 20 336 Tryz.underlying153 hl0 hl1 hl2 hl3 rfl (by decide) _ _ _ rfl (World.ownsRow_nil _ _ _ _) _ _ _ rfl (World.ownsRow_lit W8 c9 1 (Nat.zero_le _) (by decide) (by rw[HZ9.out])) (pQ HW9.out) (by unfold maxLen;omega) (by omega) (by simp;omega) ?_;intro v10 W10 o10 g10 n10;have o11:W10.ownsRow wc.heap.size 234 20 v10 1 c9.toList:=(by simpa using o10);have b10:Below W8.heap.size W8 W10:=(zv W8 _).trans ((zI g10).mono (by simp));have HBT:=zx (HBC8.out.trans (b10.mono HBC8.out.size));have HFP2:=zx (HFP.out W10 v10 HBT.out (HB58.out.trans (b10.mono HB58.out.size)) o11);obtain⟨a10,c10,rfl,_,_⟩:=zu o11;clear o10 o11 g10 n10 b10))
    go_roundw
    case rel=>exact Or.inr ⟨by go_num,HFP2.out,HBT.out,_,_,rfl⟩
    case measure=>simp[intOf]
   ·have hfp2:=zx hfp;have x9:=(hbl.cell (p:=⟨hb,9,none⟩) (World.block_lt_of_cell? _ _ q9)).trans q9
    have y9:wr.frozen? ⟨hb,9,none⟩=false:=by rw[World.frozen?_of_block (w':=wr) (w:=wc) (hbl.block hb (World.block_lt_of_cell? _ _ q9))];exact f9
    have HKE:=zx (HQ.out.ke _ _ hfp hbl)
    have tbn:tb≠hb:=fun e=>by
     have h1:=HQ.out.tl;rw[e]at h1;have h2:=World.cell?_of_block (w':=wc) (w:=wc) (a:=⟨hb,9,none⟩) rfl;obtain⟨C',t',fr',h3⟩:∃C' t' fr',wc.heap[hb]? = some (Obj.cells C' t' fr'):=⟨_,_,_,h1⟩;have:=q9;simp[World.cell?,h1]at this
    have t11:(wr.setCell ⟨hb,9,none⟩ (.slice va 1 vc)).heap[tb]? = some (Obj.cells (wO ta tb' (.slice ea en ec) (.slice ra rn rc)) 245 (0,0)):=(zt tbn).trans ((hbl.block tb (Mth.gI HQ.out.tl)).trans HQ.out.tl);obtain⟨x2,_⟩:=zy (j:=2) (u:=.slice ea en ec) t11 rfl;clear hfp hbl q9 f9 HQ t11
    go_upto_region 12 with fail
    generalize wr.setCell ⟨hb,9,none⟩ (.slice va 1 vc)=W11 at *
    go_cut [] from 15 (fun wq=>wq.cell? ⟨tb,3,none⟩=some (.slice ra rn rc)∧Calls Tryz.prog 136 #[.pointer (some ⟨wb,9,none⟩), .slice ra rn rc] wq.drew fun e W13=>e=.returned (.tuple #[])∧FQ W13)
    case first=>
     go_region_law (first|(rw[if_pos (by simp[Region.wanted])];go_simp;go_at_call 121;refine HKE.out.mono ?_;rintro e W12 ⟨rfl,h12,hkr⟩;have H12:=zx (zy (j:=3) (u:=.slice ra rn rc) h12 rfl).1;have HKR:=zx hkr;clear h12 hkr))
     all_goals (go_wp2_with fail;go_meet;exact⟨H12.out,HKR.out⟩)
    case rest=>
     obtain⟨x3,hkr⟩:=hcut;have HKR:=zx hkr;clear hkr x9 y9 x2 HKE
     go_upto_region 13 with fail
     go_cut [] from 15 (fun wq=>FQ wq)
     case first=>
      go_region_law (first|(rw[if_pos (by simp[Region.wanted])];go_simp;go_at_call 136;refine HKR.out.mono ?_;rintro e W13 ⟨rfl,hfq⟩;have HFQ:=zx hfq;clear hfq))
      all_goals (go_wp2_with fail;go_meet;exact HFQ.out)
     case rest=>
      have HC:=zx hcut;clear hcut;go_wp2;go_ret;exact⟨rfl,HC.out⟩
theorem yb (W:World) (o:Opr):∃W2,W2=(W.alloc (Obj.cells #[.int .i64 o.k, .int .i64 o.A, .int .i64 o.B, .int .i64 o.C, .string o.S, .string o.T] 94)).alloc (Obj.cells #[.int .i64 0, .int .i64 0, .slice none 0 0, .slice none 0 0] 245)∧Below W.heap.size W W2∧W2.heap[W.heap.size]? = some (Obj.cells #[.int .i64 o.k, .int .i64 o.A, .int .i64 o.B, .int .i64 o.C, .string o.S, .string o.T] 94 (0,0))∧W2.heap[W.heap.size+1]? = some (Obj.cells #[.int .i64 0, .int .i64 0, .slice none 0 0, .slice none 0 0] 245 (0,0))∧W2.heap.size=W.heap.size+1+1:=fu W _ _ _ _
theorem Tryz.sizeTold:(Tryz.prog.info? 245).map (·.size)=some 4:=by kernel_rfl
theorem Zw {W:World}{lb:Nat}(A Bv Cv:Int) (S T:ByteArray) (R:Value→Int→Int→World→Prop)
  (hq:∀W2,Below W.heap.size W W2→Calls Tryz.prog 50 #[zr lb, .string S, .int .i64 Bv, .int .i64 Cv] W2 fun e w'=>∃v n er,e=.returned (.tuple #[v, .int .i64 n, .int .i64 er])∧vv v∧(∀k,W.heap.size≤k→k<W2.heap.size→w'.heap[k]? = W2.heap[k]?)∧∀w3,Tch (fun k=>W.heap.size≤k∧k<W2.heap.size) w' w3→R v n er w3) :
  Calls Tryz.prog 133 #[zr lb,oV ⟨14,A,Bv,Cv,S,T⟩] W fun e w3=>∃v n er,e=.returned (.agg (wO n er v (.slice none 0 0)))∧vv v∧R v n er w3:=by
 obtain⟨W2,hW2,hb2,k0,k1,hs2⟩:=yb W ⟨14,A,Bv,Cv,S,T⟩;simp only[oV]at hW2 k0 ⊢;have CQ:=zx (hq W2 hb2)
 have hN:∀er w,Calls Tryz.prog 114 #[.int .i64 er] w fun e w'=>e=.returned (.int .i64 er)∧w'=w:=fun er w=>yO er w
 have HNM:=zx hN;obtain⟨o0,_⟩:=zy (j:=0) (u:=.int .i64 14) k0 rfl;obtain⟨o2,_⟩:=zy (j:=2) (u:=.int .i64 Bv) k0 rfl;obtain⟨o3,_⟩:=zy (j:=3) (u:=.int .i64 Cv) k0 rfl;obtain⟨o4,_⟩:=zy (j:=4) (u:=.string S) k0 rfl;have HW2:=zx hW2;have HK1:=zx k1;have HS2:=zx hs2;clear hW2 hq hN hb2 k0 k1 hs2
 go_enter Tryz.func133,Tryz.ntmps133
 go_upto_region 1 with fail
 rw[←HW2.out]
 go_wp2_with (first
  | (go_at_call 50;refine CQ.out.mono ?_;rintro e w2 ⟨v,n,er,rfl,⟨va,vn,vc,rfl⟩,h1,h2⟩;have k2:=(h1 (W.heap.size+1) (by omega) (by rw[HS2.out];omega)).trans HK1.out;obtain⟨y0,f0⟩:=zy (j:=0) (u:=.int .i64 0) k2 rfl;obtain⟨y1,f1⟩:=zy (j:=1) (u:=.int .i64 0) k2 rfl;obtain⟨y2,f2⟩:=zy (j:=2) (u:=.slice none 0 0) k2 rfl;obtain⟨y3,f3⟩:=zy (j:=3) (u:=.slice none 0 0) k2 rfl;have HK2:=zx k2;have H2:=zx h2;clear h1 h2 k2)
  | (go_at_call 114;refine(HNM.out _ _).mono ?_;rintro e W ⟨rfl,hW⟩;rw[hW];clear hW W))
 have hset:=zh (j:=3) (v:=.slice none 0 0) (zh (j:=2) (v:=.slice va vn vc) (zh (j:=1) (v:=.int .i64 er) (zh (j:=0) (v:=.int .i64 n) HK2.out)));have hld:=run_loadVar_row (P:=Tryz.prog) _ (W.heap.size+1) 245 245 _ (0,0) _ hset Tryz.underlying245 rfl Tryz.sizeTold;refine bodyPost_ret (v:=.agg (wO n er (.slice va vn vc) (.slice none 0 0))) ?_ rfl ⟨_,n,er,rfl,⟨_,_,_,rfl⟩,H2.out _ ⟨rfl,rfl,rfl,by simp,fun k hk hn=>?_⟩⟩
 ·rw[za rfl];simp[asAddr,Result.andThen,hld]
 ·have hk':k≠W.heap.size+1:=fun e=>hn ⟨by omega,by rw[HS2.out];omega⟩
  rw[zt hk',zt hk',zt hk',zt hk']
theorem bP {W:World}{lb:Nat}(A Bv Cv:Int) (S T:ByteArray) (R:Value→Int→Int→World→Prop)
  (hq:∀W2,Below W.heap.size W W2→Calls Tryz.prog 205 #[zr lb, .string S, .int .i64 Bv, .int .i64 Cv] W2 fun e w'=>∃v n er,e=.returned (.tuple #[v, .int .i64 n, .int .i64 er])∧vv v∧(∀k,W.heap.size≤k→k<W2.heap.size→w'.heap[k]? = W2.heap[k]?)∧∀w3,Tch (fun k=>W.heap.size≤k∧k<W2.heap.size) w' w3→R v n er w3) :
  Calls Tryz.prog 134 #[zr lb,oV ⟨14,A,Bv,Cv,S,T⟩] W fun e w3=>∃v n er,e=.returned (.agg (wO n er v (.slice none 0 0)))∧vv v∧R v n er w3:=by
 obtain⟨W2,hW2,hb2,k0,k1,hs2⟩:=yb W ⟨14,A,Bv,Cv,S,T⟩;simp only[oV]at hW2 k0 ⊢;have CQ:=zx (hq W2 hb2)
 have hN:∀er w,Calls Tryz.prog 114 #[.int .i64 er] w fun e w'=>e=.returned (.int .i64 er)∧w'=w:=fun er w=>yO er w
 have HNM:=zx hN;obtain⟨o0,_⟩:=zy (j:=0) (u:=.int .i64 14) k0 rfl;obtain⟨o2,_⟩:=zy (j:=2) (u:=.int .i64 Bv) k0 rfl;obtain⟨o3,_⟩:=zy (j:=3) (u:=.int .i64 Cv) k0 rfl;obtain⟨o4,_⟩:=zy (j:=4) (u:=.string S) k0 rfl;have HW2:=zx hW2;have HK1:=zx k1;have HS2:=zx hs2;clear hW2 hq hN hb2 k0 k1 hs2
 go_enter Tryz.func134,Tryz.ntmps134
 go_upto_region 1 with fail
 rw[←HW2.out]
 go_wp2_with (first
  | (go_at_call 205;refine CQ.out.mono ?_;rintro e w2 ⟨v,n,er,rfl,⟨va,vn,vc,rfl⟩,h1,h2⟩;have k2:=(h1 (W.heap.size+1) (by omega) (by rw[HS2.out];omega)).trans HK1.out;obtain⟨y0,f0⟩:=zy (j:=0) (u:=.int .i64 0) k2 rfl;obtain⟨y1,f1⟩:=zy (j:=1) (u:=.int .i64 0) k2 rfl;obtain⟨y2,f2⟩:=zy (j:=2) (u:=.slice none 0 0) k2 rfl;obtain⟨y3,f3⟩:=zy (j:=3) (u:=.slice none 0 0) k2 rfl;have HK2:=zx k2;have H2:=zx h2;clear h1 h2 k2)
  | (go_at_call 114;refine(HNM.out _ _).mono ?_;rintro e W ⟨rfl,hW⟩;rw[hW];clear hW W))
 have hset:=zh (j:=3) (v:=.slice none 0 0) (zh (j:=2) (v:=.slice va vn vc) (zh (j:=1) (v:=.int .i64 er) (zh (j:=0) (v:=.int .i64 n) HK2.out)));have hld:=run_loadVar_row (P:=Tryz.prog) _ (W.heap.size+1) 245 245 _ (0,0) _ hset Tryz.underlying245 rfl Tryz.sizeTold;refine bodyPost_ret (v:=.agg (wO n er (.slice va vn vc) (.slice none 0 0))) ?_ rfl ⟨_,n,er,rfl,⟨_,_,_,rfl⟩,H2.out _ ⟨rfl,rfl,rfl,by simp,fun k hk hn=>?_⟩⟩
 ·rw[za rfl];simp[asAddr,Result.andThen,hld]
 ·have hk':k≠W.heap.size+1:=fun e=>hn ⟨by omega,by rw[HS2.out];omega⟩
  rw[zt hk',zt hk',zt hk',zt hk']
theorem qo (w:World):Calls Tryz.prog 135 #[.slice none 0 0, .slice none 0 0] w fun e w'=>e=.returned (.bool true)∧Below w.heap.size w w':=by
 go_enter Tryz.func135,Tryz.ntmps135
 go_wp2_with fail
 go_loopw [5] (fun i wr=>i=.int .i64 0∧wr=w) (fun _ _=>0)
 case atStart=>exact⟨rfl,rfl⟩
 case round=>
  obtain⟨rfl,rfl⟩:=hrel;go_wp2;go_ret;exact⟨rfl,Below.refl _ _⟩
theorem HI.books {P:Lg→List Tl→Prop}{Z:Nat→Prop}{w w':World}{B wb:Nat}{g0 g1 g2 g3 hv ke ks kr ke' ks' kr':Value}{Ne Ns Nr Ne' Ns' Nr' M M':Nat}{hs:List Ho}(h:HI P Z w B wb g0 g1 g2 g3 hv ke ks kr Ne Ns Nr M hs none){X Y:Nat→Prop}(hsz:w.heap.size≤w'.heap.size)
  (hfr:∀g,g<w.heap.size→¬X g→g≠wb→some g≠ke.ownBlock→some g≠ks.ownBlock→some g≠kr.ownBlock→w'.heap[g]? = w.heap[g]?) (hX:∀g,X g→¬Z g∧¬Mu wb hv ke ks kr (hs.map Ho.hb) g∧(∀j,j<hs.length→(hs.getD j h0).ρ g=0)∧¬wM w g)
  (hblk:w'.heap[wb]? = some (Obj.cells (dP g0 g1 g2 g3 hv ke' ks' kr') 91 (0,0)))
  (be:Bok (fun g=>Z g∨Y g) w' B 169 66 3 fE ke' Ne') (bs:Bok (fun g=>Z g∨Y g) w' B 172 142 3 fS ks' Ns') (br:∃F,sX F∧Bok (fun g=>Z g∨Y g) w' B 175 75 1 F kr' Nr')
  (nb:∀g,(some g=ke'.ownBlock∨some g=ks'.ownBlock∨some g=kr'.ownBlock)→(some g=ke.ownBlock∨some g=ks.ownBlock∨some g=kr.ownBlock)∨w.heap.size≤g)
  (hY:∀g,Y g→g<w'.heap.size∧(X g∨w.heap.size≤g)∧some g≠ke'.ownBlock∧some g≠ks'.ownBlock∧some g≠kr'.ownBlock) (hM:M≤M') (hmb:Ne'≤M'∧Ns'≤8*M'∧Nr'≤M') :
  HI P (fun g=>Z g∨Y g) w' B wb g0 g1 g2 g3 hv ke' ks' kr' Ne' Ns' Nr' M' hs none:=by
 have mE:∀g,some g=ke.ownBlock→Mu wb hv ke ks kr (hs.map Ho.hb) g:=fun g q=>Or.inr (Or.inr (Or.inl q))
 have mS:∀g,some g=ks.ownBlock→Mu wb hv ke ks kr (hs.map Ho.hb) g:=fun g q=>Or.inr (Or.inr (Or.inr (Or.inl q)))
 have mR:∀g,some g=kr.ownBlock→Mu wb hv ke ks kr (hs.map Ho.hb) g:=fun g q=>Or.inr (Or.inr (Or.inr (Or.inr (Or.inl q))))
 have mW:Mu wb hv ke ks kr (hs.map Ho.hb) wb:=Or.inl rfl
 have fr:∀g,g<w.heap.size→¬X g→¬Mu wb hv ke ks kr (hs.map Ho.hb) g→w'.heap[g]? = w.heap[g]? := fun g h1 h2 h3=>hfr g h1 h2 (fun e=>h3 (by rw[e];exact mW)) (fun e=>h3 (mE g e)) (fun e=>h3 (mS g e)) (fun e=>h3 (mR g e))
 have hz:∀g,Z g→w'.heap[g]? = w.heap[g]? := fun g hg=>fr g (h.zm g hg).1 (fun q=>(hX g q).1 hg) (h.zm g hg).2.1
 have hty:∀ {g:Nat}{C:Array Value}{t:TypeId},w.heap[g]? = some (Obj.cells C t (0,0))→Mu wb hv ke ks kr (hs.map Ho.hb) g→(t=152∨t=155)→w'.heap[g]? = w.heap[g]? := fun {g C t} hg hm ht=>by
  have hl:=(Mth.gI hg);refine hfr g hl (fun q=>(hX g q).2.1 hm) (fun e=>?_) (fun e=>?_) (fun e=>?_) (fun e=>?_)
  ·subst e;have:=zc hg h.blk;subst this
   rcases ht with ht|ht <;> exact absurd ht (by decide)
  ·obtain⟨q,h1,_⟩:=h.be;obtain⟨_,_,D,hD⟩:=zw h1 e;have:=zc hg hD;subst this
   rcases ht with ht|ht <;> exact absurd ht (by decide)
  ·obtain⟨q,h1,_⟩:=h.bs;obtain⟨_,_,D,hD⟩:=zw h1 e;have:=zc hg hD;subst this
   rcases ht with ht|ht <;> exact absurd ht (by decide)
  ·obtain⟨F,_,q,h1,_⟩:=h.br;obtain⟨_,_,D,hD⟩:=zw h1 e;have:=zc hg hD;subst this
   rcases ht with ht|ht <;> exact absurd ht (by decide)
 have hr0:∀g,w.heap.size≤g→∀j,j<hs.length→(hs.getD j h0).ρ g=0:=fun g hg j hj=>by
  by_cases q:(hs.getD j h0).ρ g=0
  ·exact q
  ·have:=(h.lt j hj g q).1;omega
 have hmu:∀ {g:Nat},Mu wb hv ke' ks' kr' (hs.map Ho.hb) g→Mu wb hv ke ks kr (hs.map Ho.hb) g∨(w.heap.size≤g∧(some g=ke'.ownBlock∨some g=ks'.ownBlock∨some g=kr'.ownBlock)):=fun {g} hg=>by
  have key:(some g=ke'.ownBlock∨some g=ks'.ownBlock∨some g=kr'.ownBlock)→Mu wb hv ke ks kr (hs.map Ho.hb) g∨(w.heap.size≤g∧(some g=ke'.ownBlock∨some g=ks'.ownBlock∨some g=kr'.ownBlock)):=fun q=>by
   rcases nb g q with(e|e|e)|e
   ·exact Or.inl (mE g e)
   ·exact Or.inl (mS g e)
   ·exact Or.inl (mR g e)
   ·exact Or.inr ⟨e,q⟩
  rcases hg with q|q|q|q|q|q
  ·exact Or.inl (Or.inl q)
  ·exact Or.inl (Or.inr (Or.inl q))
  ·exact key (Or.inl q)
  ·exact key (Or.inr (Or.inl q))
  ·exact key (Or.inr (Or.inr q))
  ·exact Or.inl (Or.inr (Or.inr (Or.inr (Or.inr (Or.inr q)))))
 refine⟨hblk,h.ge,be,bs,br,zn h.row (fun g hg=>?_),fun j hj=>?_,fun j hj hne=>?_,h.hge,fun j hj k hk=>?_,h.dis,fun g hg=>?_,fun g hg j hj=>?_,?_⟩
 ·obtain⟨_,_,D,hD⟩:=zw h.row hg;exact hty hD (Or.inr (Or.inl hg)) (Or.inl rfl)
 ·exact(hty (h.hob j hj) (Or.inr (Or.inr (Or.inr (Or.inr (Or.inr (xQ hj)))))) (Or.inr rfl)).trans (h.hob j hj)
 ·refine(h.one j hj (by simp)).same (fun g q=>fr g (by rcases q with q|q;exact(h.lt j hj g q).1;exact yw q) (fun s=>?_) (fun s=>?_)) hz hsz (fun _ q=>Or.inl q) hM
  ·rcases q with q|q
   ·exact q ((hX g s).2.2.1 j hj)
   ·exact(hX g s).2.2.2 q
  ·rcases q with q|q
   ·exact q (h.rm g s j hj)
   ·exact h.mn s q
 ·have:=h.lt j hj k hk;exact⟨by omega,this.2⟩
 ·rcases hg with hg|hg
  ·obtain⟨z1,z2,z3⟩:=h.zm g hg;refine⟨by omega,fun hm=>?_,z3⟩
   rcases hmu hm with q|q
   ·exact z2 q
   ·omega
  ·obtain⟨y1,y2,y3,y4,y5⟩:=hY g hg;refine⟨y1,fun hm=>?_,fun j hj=>?_⟩
   ·rcases hmu hm with q|⟨_,q|q|q⟩
    ·rcases y2 with y2|y2
     ·exact(hX g y2).2.1 q
     ·have:=h.mlt q;omega
    ·exact y3 q
    ·exact y4 q
    ·exact y5 q
   ·rcases y2 with y2|y2
    ·exact(hX g y2).2.2.1 j hj
    ·exact hr0 g y2 j hj
 ·rcases hmu hg with q|q
  ·exact h.rm g q j hj
  ·exact hr0 g q.1 j hj
 ·have:=h.mb;omega
theorem Bok.more {Z Z':Nat→Prop}{w w':World}{B:Nat}{T e:TypeId}{sz:Nat}{F F':Nat→Nat→Value}{v':Value}{N n:Nat}{Q:Qd}{q:Nat→Qd}(hq:∀i,i<N→∀u,(u=(q i).l∨u=(q i).a∨u=(q i).b∨u=(q i).c)→(∃n,n≤4194304∧RdM w e sz u n (F i))∧∀g,some g=u.ownBlock→Z g)
  (hz:∀g,Z g→w'.heap[g]? = w.heap[g]?) (hZ:∀g,Z g→Z' g) (hrow:w'.ownsRow B T 5 v' (N+1) ((List.range N).flatMap (qc q)++[Q.l,Q.a,Q.b,Q.c, .int .i64 (N:Int)])) (hF:∀i,i<N→F' i=F i) (hn:n+3≤4194304)
  (rl:RdM w' e sz Q.l n (F' N)) (ra:RdM w' e sz Q.a (n+1) (F' N)) (rb:RdM w' e sz Q.b (n+2) (F' N)) (rc:RdM w' e sz Q.c (n+3) (F' N)) (hg:∀g,(some g=Q.l.ownBlock∨some g=Q.a.ownBlock∨some g=Q.b.ownBlock∨some g=Q.c.ownBlock)→Z' g):Bok Z' w' B T e sz F' v' (N+1):=by
 refine⟨fun i=>if i<N then q i else Q,?_,fun i hi u hu=>?_⟩
 ·have e1:(List.range (N+1)).flatMap (qc (fun i=>if i<N then q i else Q))=(List.range N).flatMap (qc q)++[Q.l,Q.a,Q.b,Q.c, .int .i64 (N:Int)]:=by
   rw[List.range_succ,List.flatMap_append];congr 1
   ·rw[List.flatMap_def,List.flatMap_def];congr 1;apply List.map_congr_left;intro i hi;have:=List.mem_range.1 hi;simp[qc,this]
   ·simp[qc]
  rw[e1];exact hrow
 ·by_cases hi2:i<N
  ·simp only[hi2,if_true]at hu;obtain⟨⟨k,hk,hr⟩,hg'⟩:=hq i hi2 u hu;exact⟨⟨k,hk,by rw[hF i hi2];exact RdM.same' hr (fun g s=>hz g (hg' g s))⟩,fun g s=>hZ g (hg' g s)⟩
  ·have:i=N:=by omega
   subst this;simp only[Nat.lt_irrefl,if_false]at hu
   rcases hu with rfl|rfl|rfl|rfl
   ·exact⟨⟨n,by omega,rl⟩,fun g s=>hg g (Or.inl s)⟩
   ·exact⟨⟨n+1,by omega,ra⟩,fun g s=>hg g (Or.inr (Or.inl s))⟩
   ·exact⟨⟨n+2,by omega,rb⟩,fun g s=>hg g (Or.inr (Or.inr (Or.inl s)))⟩
   ·exact⟨⟨n+3,hn,rc⟩,fun g s=>hg g (Or.inr (Or.inr (Or.inr s)))⟩
theorem tR {w:World}{B1 B2 g:Nat}{T1 T2:TypeId}{s1 s2 n1 n2:Nat}{v1 v2:Value}{x1 x2:List Value}(h1:w.ownsRow B1 T1 s1 v1 n1 x1) (h2:w.ownsRow B2 T2 s2 v2 n2 x2) (hT:T1≠T2) (hg:some g=v1.ownBlock):some g≠v2.ownBlock:=fun e=>by
 obtain⟨_,_,D,hD⟩:=zw h1 hg;obtain⟨_,_,E,hE⟩:=zw h2 e;exact hT (zc hD hE)
theorem yQ {w:World}{e:TypeId}{sz n g:Nat}{v:Value}{f:Nat→Value}(h:RdM w e sz v n f) (hg:some g=v.ownBlock) (h0:0<n):∃C,w.heap[g]? = some (Obj.cells C e (0,0)):=by
 obtain⟨a,c,rfl,_,_,h3⟩:=h
 rcases h3 with h3|⟨b,C,rfl,h4,_⟩
 ·omega
 ·injection hg with hg
  rw[hg];exact⟨C,h4⟩
theorem iM {P:Lg→List Tl→Prop}{Z:Nat→Prop}{w:World}{B wb B0:Nat}{g0 g1 g2 g3 hv ke ks kr:Value}{Ne Ns Nr M:Nat}{hs:List Ho}(h:HI P Z w B wb g0 g1 g2 g3 hv ke ks kr Ne Ns Nr M hs none){v:Value}{n:Nat}{ys:List Value}(hown:w.ownsRow B0 66 3 v n ys) (hn:n≤1100000) (hM:M≤400000) (hB0:B0≤w.heap.size) (hBB:B≤B0) (hmu:∀g,Mu wb hv ke ks kr (hs.map Ho.hb) g→g<B0)
  (hX:∀g,some g=v.ownBlock→¬Z g∧∀j,j<hs.length→(hs.getD j h0).ρ g=0) :
  Calls Tryz.prog 121 #[.pointer (some ⟨wb,9,none⟩),v] w fun e w'=>e=.returned (.tuple #[])∧∃Z' ke',(∀g,Z g→Z' g)∧HI P Z' w' B wb g0 g1 g2 g3 hv ke' ks kr (Ne+1) Ns Nr (M+1) hs none∧Below B w w'∧(∀g,g<w.heap.size→some g≠v.ownBlock→¬Mu wb hv ke ks kr (hs.map Ho.hb) g→w'.heap[g]? = w.heap[g]?)∧(∀g,Mu wb hv ke' ks kr (hs.map Ho.hb) g→Mu wb hv ke ks kr (hs.map Ho.hb) g∨w.heap.size≤g):=by
 have hmb:=h.mb;obtain⟨q,hbe,hbq⟩:=h.be;have mW:Mu wb hv ke ks kr (hs.map Ho.hb) wb:=Or.inl rfl
 have mE:∀g,some g=ke.ownBlock→Mu wb hv ke ks kr (hs.map Ho.hb) g:=fun g q=>Or.inr (Or.inr (Or.inl q))
 refine(vW w B0 wb B v ke n Ne ys _ (dP g0 g1 g2 g3 hv ke ks kr) hown (hmu wb mW) hB0 h.blk rfl rfl hbe (fun g hg=>hmu g (mE g hg)) hBB (by omega) (by omega)).mono ?_;rintro e w' ⟨rfl,ke',va,vb,vc,hk,hkn,hnb,hfr⟩
 have hvM:∀g,some g=v.ownBlock→¬Mu wb hv ke ks kr (hs.map Ho.hb) g:=fun g hg hm=>by
  have h1:=hmu g hm;have h2:=(zw hown hg).1;omega
 have hvN:∀g,some g=v.ownBlock→¬wM w g:=fun g hg=>by
  obtain⟨_,_,D,hD⟩:=zw hown hg;rintro ⟨C',fr,h3⟩;exact absurd (zc hD h3) (by decide)
 have hsz:=hk.size
 have hks:∀ {T:TypeId}{sz N:Nat}{u:Value}{xs:List Value},w.ownsRow B T sz u N xs→T≠91→T≠169→T≠66→∀g,some g=u.ownBlock→w'.heap[g]? = w.heap[g]? := fun {T sz N u xs} ho t1 t2 t3 g hg=>by
  obtain⟨_,hl,D,hD⟩:=zw ho hg;exact hfr g hl (tR ho hown t3 hg) (fun e=>by subst e;exact t1 (zc hD h.blk)) (tR ho hbe t2 hg)
 have hz:∀g,Z g→w'.heap[g]? = w.heap[g]? := fun g hg=>hfr g (h.zm g hg).1 (fun e=>(hX g e).1 hg) (fun e=>(h.zm g hg).2.1 (by rw[e];exact mW)) (fun e=>(h.zm g hg).2.1 (mE g e))
 have hq4:∀g,(some g=v.ownBlock∨some g=va.ownBlock∨some g=vb.ownBlock∨some g=vc.ownBlock)→g<w'.heap.size∧some g≠ke'.ownBlock:=fun g hg=>by
  by_cases hv0:some g=v.ownBlock
  ·have hl:=(zw hown hv0).2.1;refine⟨by omega,fun e=>?_⟩
   rcases hnb g e with e|e
   ·exact hvM g hv0 (mE g e)
   ·omega
  have hty:(∃C,w'.heap[g]? = some (Obj.cells C 66 (0,0))):=by
   rcases hg with hg|hg|hg|hg
   ·exact absurd hg hv0
   ·exact yQ hk.ra hg (by omega)
   ·exact yQ hk.rb hg (by omega)
   ·exact yQ hk.rc hg (by omega)
  obtain⟨C,hC⟩:=hty;refine⟨(Mth.gI hC),fun e=>?_⟩;obtain⟨_,_,D,hD⟩:=zw hk.row e;exact absurd (zc hC hD) (by decide)
 have key:=h.books (w':=w') (ke':=ke') (ks':=ks) (kr':=kr) (Ne':=Ne+1) (Ns':=Ns) (Nr':=Nr) (M':=M+1) (X:=fun g=>some g=v.ownBlock) (Y:=fun g=>some g=v.ownBlock∨some g=va.ownBlock∨some g=vb.ownBlock∨some g=vc.ownBlock) hsz (fun g h1 h2 h3 h4 _ _=>hfr g h1 h2 h3 h4) (fun g hg=>⟨(hX g hg).1,hvM g hg,(hX g hg).2,hvN g hg⟩) hk.wblk
  (Bok.more hbq hz (fun _ q=>Or.inl q) hk.row (fun _ _=>rfl) (n:=n) (by omega) hk.rl hk.ra hk.rb hk.rc (fun g hg=>Or.inr hg))
  (by obtain⟨q2,h1,h2⟩:=h.bs;exact Bok.same ⟨q2,h1,h2⟩ (hks h1 (by decide) (by decide) (by decide)) hz (fun _ q=>Or.inl q))
  (by obtain⟨F,hF,q2,h1,h2⟩:=h.br;exact⟨F,hF,Bok.same ⟨q2,h1,h2⟩ (hks h1 (by decide) (by decide) (by decide)) hz (fun _ q=>Or.inl q)⟩)
  (fun g hg=>by
   rcases hg with hg|hg|hg
   ·rcases hnb g hg with e|e
    ·exact Or.inl (Or.inl e)
    ·exact Or.inr e
   ·exact Or.inl (Or.inr (Or.inl hg))
   ·exact Or.inl (Or.inr (Or.inr hg)))
  (fun g hg=>⟨(hq4 g hg).1,hkn g hg,(hq4 g hg).2,fun e=>?_,fun e=>?_⟩) (by omega) (by omega)
 ·refine⟨rfl,_,ke',fun g hg=>Or.inl hg,key,⟨hk.os,hk.tape,hk.output,hsz,fun g hg=>hk.same g (by omega) (fun e=>by have:=h.ge;omega) (fun e=>by have:=(zw hbe e).1;omega)⟩,fun g h1 h2 h3=>hfr g h1 h2 (fun e=>h3 (by rw[e];exact mW)) (fun e=>h3 (mE g e)),fun g hg=>?_⟩
  rcases hg with q|q|q|q
  ·exact Or.inl (Or.inl q)
  ·exact Or.inl (Or.inr (Or.inl q))
  ·rcases hnb g q with e|e
   ·exact Or.inl (mE g e)
   ·exact Or.inr e
  ·exact Or.inl (Or.inr (Or.inr (Or.inr q)))
 ·obtain⟨q2,h1,_⟩:=h.bs
  rcases hkn g hg with e2|e2
  ·exact hvM g e2 (Or.inr (Or.inr (Or.inr (Or.inl e))))
  ·have:=(zw h1 e).2.1;omega
 ·obtain⟨F,_,q2,h1,_⟩:=h.br
  rcases hkn g hg with e2|e2
  ·exact hvM g e2 (Or.inr (Or.inr (Or.inr (Or.inr (Or.inl e)))))
  ·have:=(zw h1 e).2.1;omega
theorem lH {P:Lg→List Tl→Prop}{Z:Nat→Prop}{w:World}{B wb:Nat}{g0 g1 g2 g3 hv ke ks kr:Value}{Ne Ns Nr M:Nat}{hs:List Ho}(h:HI P Z w B wb g0 g1 g2 g3 hv ke ks kr Ne Ns Nr M hs none) (hM:M≤400000) (hNr:Nr+1≤M) (hBw:B≤w.heap.size) :
  Calls Tryz.prog 136 #[.pointer (some ⟨wb,9,none⟩), .slice none 0 0] w fun e w'=>e=.returned (.tuple #[])∧∃Z' kr',(∀g,Z g→Z' g)∧HI P Z' w' B wb g0 g1 g2 g3 hv ke ks kr' Ne Ns (Nr+1) M hs none∧Below B w w'∧(∀g,g<w.heap.size→¬Mu wb hv ke ks kr (hs.map Ho.hb) g→w'.heap[g]? = w.heap[g]?):=by
 have hmb:=h.mb;obtain⟨F,hF,q,hbr,hbq⟩:=h.br;have mW:Mu wb hv ke ks kr (hs.map Ho.hb) wb:=Or.inl rfl
 have mR:∀g,some g=kr.ownBlock→Mu wb hv ke ks kr (hs.map Ho.hb) g:=fun g q=>Or.inr (Or.inr (Or.inr (Or.inr (Or.inl q))))
 refine(rE w w.heap.size wb B kr Nr _ (dP g0 g1 g2 g3 hv ke ks kr) (h.mlt mW) (Nat.le_refl _) h.blk rfl rfl hbr (fun g hg=>h.mlt (mR g hg)) hBw (by omega)).mono ?_;rintro e w' ⟨rfl,kr',va,vb,vc,hk,hkn,hnb⟩;have hfr:∀g,g<w.heap.size→g≠wb→some g≠kr.ownBlock→w'.heap[g]? = w.heap[g]? := hk.same;have hsz:=hk.size
 have hks:∀ {T:TypeId}{sz N:Nat}{u:Value}{xs:List Value},w.ownsRow B T sz u N xs→T≠91→T≠175→∀g,some g=u.ownBlock→w'.heap[g]? = w.heap[g]? := fun {T sz N u xs} ho t1 t2 g hg=>by
  obtain⟨_,hl,D,hD⟩:=zw ho hg;exact hfr g hl (fun e=>by subst e;exact t1 (zc hD h.blk)) (tR ho hbr t2 hg)
 have hz:∀g,Z g→w'.heap[g]? = w.heap[g]? := fun g hg=>hfr g (h.zm g hg).1 (fun e=>(h.zm g hg).2.1 (by rw[e];exact mW)) (fun e=>(h.zm g hg).2.1 (mR g e))
 have hq4:∀g,(some g=va.ownBlock∨some g=vb.ownBlock∨some g=vc.ownBlock)→g<w'.heap.size∧some g≠kr'.ownBlock:=fun g hg=>by
  have hty:(∃C,w'.heap[g]? = some (Obj.cells C 75 (0,0))):=by
   rcases hg with hg|hg|hg
   ·exact yQ hk.ra hg (by omega)
   ·exact yQ hk.rb hg (by omega)
   ·exact yQ hk.rc hg (by omega)
  obtain⟨C,hC⟩:=hty;refine⟨(Mth.gI hC),fun e=>?_⟩;obtain⟨_,_,D,hD⟩:=zw hk.row e;exact absurd (zc hC hD) (by decide)
 have hge:∀g,(some g=va.ownBlock∨some g=vb.ownBlock∨some g=vc.ownBlock)→w.heap.size≤g:=fun g hg=>by
  rcases hkn g (Or.inr hg)with e|e
  ·cases e
  ·exact e
 have hFn:∀i,i<Nr→(fun i=>if i=Nr then fR w.heap.size Nr else F i) i=F i:=fun i hi=>if_neg (by omega)
 have key:=h.books (w':=w') (ke':=ke) (ks':=ks) (kr':=kr') (Ne':=Ne) (Ns':=Ns) (Nr':=Nr+1) (M':=M) (X:=fun _=>False) (Y:=fun g=>some g=va.ownBlock∨some g=vb.ownBlock∨some g=vc.ownBlock) hsz (fun g h1 _ h3 _ _ h4=>hfr g h1 h3 h4) (fun g hg=>hg.elim) hk.wblk
  (by obtain⟨q2,h1,h2⟩:=h.be;exact Bok.same ⟨q2,h1,h2⟩ (hks h1 (by decide) (by decide)) hz (fun _ q=>Or.inl q))
  (by obtain⟨q2,h1,h2⟩:=h.bs;exact Bok.same ⟨q2,h1,h2⟩ (hks h1 (by decide) (by decide)) hz (fun _ q=>Or.inl q))
  ⟨fun i=>if i=Nr then fR w.heap.size Nr else F i,fun i j=>by
   by_cases e:i=Nr
   ·subst e;exact⟨some ⟨w.heap.size,0,none⟩,i+1,by simp[fR]⟩
   ·obtain⟨a,c,h1⟩:=hF i j
    exact⟨a,c,by simp[e,h1]⟩,Bok.more hbq hz (fun _ q=>Or.inl q) hk.row hFn (n:=0) (by omega) (by rw[if_pos rfl];exact hk.rl) (by rw[if_pos rfl];exact hk.ra) (by rw[if_pos rfl];exact hk.rb) (by rw[if_pos rfl];exact hk.rc) (fun g hg=>by
   rcases hg with hg|hg
   ·cases hg
   ·exact Or.inr hg)⟩
  (fun g hg=>by
   rcases hg with hg|hg|hg
   ·exact Or.inl (Or.inl hg)
   ·exact Or.inl (Or.inr (Or.inl hg))
   ·rcases hnb g hg with e|e
    ·exact Or.inl (Or.inr (Or.inr e))
    ·exact Or.inr e)
  (fun g hg=>⟨(hq4 g hg).1,Or.inr (hge g hg),fun e=>?_,fun e=>?_,(hq4 g hg).2⟩) (by omega) (by omega)
 ·exact⟨rfl,_,kr',fun g hg=>Or.inl hg,key,⟨hk.os,hk.tape,hk.output,hsz,fun g hg=>hfr g (by omega) (fun e=>by have:=h.ge;omega) (fun e=>by have:=(zw hbr e).1;omega)⟩,fun g h1 h3=>hfr g h1 (fun e=>h3 (by rw[e];exact mW)) (fun e=>h3 (mR g e))⟩
 ·obtain⟨q2,h1,_⟩:=h.be;have:=(zw h1 e).2.1;have:=hge g hg;omega
 ·obtain⟨q2,h1,_⟩:=h.bs;have:=(zw h1 e).2.1;have:=hge g hg;omega
end Go.Proofs.YtkncboinfcnklaaGreatDoor.Lw
