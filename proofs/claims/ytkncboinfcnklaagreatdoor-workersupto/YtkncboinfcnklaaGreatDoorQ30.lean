import Derived.Test.YtkncboinfcnklaaGreatDoorQ29
namespace Go.Proofs.YtkncboinfcnklaaGreatDoor.Lw
open Go.RowKit Go.Deep Go.Shelf Go.Proofs.YtkncboinfcnklaaGreatDoor.Mth Go.Proofs.YtkncboinfcnklaaGreatDoor.Rl
structure LtC (w2 w3:World) (cs:Array Value) (bb er:Int) (FP:Value→World→Prop):Prop where
 sz:cs.size=20
 one:cs.all (·.oneCell')=true
 dn:cs[18]? = some (.bool false)
 bel:Below w2.heap.size w2 w3
 af:∀ W,Below w3.heap.size w3 W→W.heap[w3.heap.size]? = some (Obj.cells cs 234 (0,0))→Calls Tryz.prog 130 #[ptrV w3.heap.size, .int .i64 bb] W fun e W'=>∃ ck a l c,e=.returned (.agg #[.int .i64 ck, .slice a l c])∧Below W.heap.size W W'
 ap:∀ W,Below w3.heap.size w3 W→W.heap[w3.heap.size]? = some (Obj.cells cs 234 (0,0))→Calls Tryz.prog 131 #[ptrV w3.heap.size, .int .i64 bb] W fun e W'=>e=.returned (.int .i64 er)∧∃ c9:Array Value,c9.size=20∧c9.all (·.oneCell')=true∧W'.heap[w3.heap.size]? = some (Obj.cells c9 234 (0,0))∧Below w2.heap.size w2 W'∧∀ W10 mv,Below w2.heap.size w2 W10→Below W'.heap.size W' W10→W10.ownsRow w2.heap.size 234 20 mv 1 c9.toList→FP mv W10
structure LtQ (w2:World) (hb ob d mb mc:Nat) (bb:Int) (C:Array Value) (er:Int) (FP:Value→World→Prop):Prop where
 c1:w2.cell? ⟨hb,1,none⟩=some (ptrV d)
 c9:w2.cell? ⟨hb,9,none⟩=some (.slice (some ⟨mb,0,none⟩) 1 mc)∧w2.frozen? ⟨hb,9,none⟩=false
 o0:w2.cell? ⟨ob,0,none⟩=some (.int .i64 13)
 o4:w2.cell? ⟨ob,2,none⟩=some (.int .i64 bb)
 st:Calls Tryz.prog 41 #[ptrV d] w2 fun e w'=>e=.returned (.bool false)∧w'=w2
 rg:w2.rangeAt mb 0 C.toList
 sz:C.size=20
 mc:1≤mc∧mc≤maxLen
 cp:Calls Tryz.prog 127 #[.agg C] w2 fun e w3=>∃ cs,e=.returned (.agg cs)∧LtC w2 w3 cs bb er FP
set_option maxRecDepth 100000 in
set_option maxHeartbeats 8000000 in
theorem ticks_walk {w W0:World} {wb hb ob lb d:Nat} (A bb C':Int) (S T:ByteArray) (er:Int) (FP:Value→World→World→Prop) (hW0:W0=w.alloc (Obj.cells #[.int .i64 13, .int .i64 A, .int .i64 bb, .int .i64 C', .string S, .string T] 94)) (hob:ob=w.heap.size)
  (d0:W0.cell? ⟨hb,0,none⟩=some (ptrV lb)) (d1:W0.cell? ⟨hb,1,none⟩=some (ptrV d)) (o0:W0.cell? ⟨ob,0,none⟩=some (.int .i64 13)) (o4:W0.cell? ⟨ob,2,none⟩=some (.int .i64 bb))
  (cs:Calls Tryz.prog 41 #[ptrV d] W0 fun e w'=>e=.returned (.bool false)∧w'=W0)
  (cp:Calls Tryz.prog 126 #[ptrV lb, .int .i64 bb] W0.drew fun e w2=>e=.returned (.int .i64 er)∧∃ mb mc C,LtQ w2 hb ob d mb mc bb C er (fun mv W=>FP mv w2 W)) :
  Calls Tryz.prog 68 #[ptrV wb,ptrV hb,oV ⟨13,A,bb,C',S,T⟩] w fun e w'=>e=.returned (.bool true)∧∃ mv w2 W10,FP mv w2 W10∧w'=W10.setCell ⟨hb,9,none⟩ mv:=by
 have CS:=hide cs
 have CP:=hide cp
 have HW:=hide hW0
 have HOB:=hide hob
 clear cs cp hW0 hob
 simp only [oV]
 go_enter Tryz.func68,Tryz.ntmps68
 go_upto_region 1 with fail
 rw [← HW.out,← HOB.out]
 go_upto_region 8 with (first | (go_at_call 41;refine CS.out.mono ?_;rintro e W ⟨rfl,hW⟩;rw [hW];clear hW W))
 go_cut [12] from 42 (fun a wq=>a=.int .i64 er∧∃ mb mc C,LtQ wq hb ob d mb mc bb C er (fun mv W=>FP mv wq W))
 case first=>
  go_region_law (first | (rw [if_pos (by simp [Region.wanted])];go_simp;go_at_call 126;refine CP.out.mono ?_;rintro e w2 ⟨rfl,hq⟩;have HQ:=hide hq;clear hq))
  all_goals (go_wp2_with fail;go_meet;exact ⟨rfl,HQ.out⟩)
 case rest=>
  obtain ⟨rfl,mb,mc,C,hq⟩:=hcut
  have q1:=hq.c1
  obtain ⟨q9,f9⟩:=hq.c9
  have p0:=hq.o0
  have p4:=hq.o4
  obtain ⟨hm1,hm2⟩:=hq.mc
  unfold maxLen at hm2
  have ST:=hide hq.st
  have HQ:=hide hq
  have hN:∀ w,Calls Tryz.prog 114 #[.int .i64 er] w fun e w'=>e=.returned (.int .i64 er)∧w'=w:=fun w=>num_any er w
  have HNM:=hide hN
  clear hq hN d0 d1 o0 o4 CS CP
  go_wp2_with (first
   | (go_at_call 114;refine (HNM.out _).mono ?_;rintro e W ⟨rfl,hW⟩;rw [hW];clear hW W)
   | (go_at_call 41;refine ST.out.mono ?_;rintro e W ⟨rfl,hW⟩;rw [hW];clear hW W))
  go_loopw [14,15] (fun v j wr=>(j=.int .i64 0∧v=.slice none 0 0∧wr=wc)∨(j=.int .i64 1∧FP v wc wr∧Below wc.heap.size wc wr∧∃ a c,v=.slice a 1 c)) (fun _ j _=>1 - (intOf j).toNat)
  case atStart=>exact Or.inl ⟨rfl,rfl,rfl⟩
  case round=>
   rcases hrel with ⟨rfl,rfl,hwr⟩ | ⟨rfl,hfp,hbl,va,vc,rfl⟩
   ·rw [hwr]
    clear hwr
    have hszC:(Tryz.prog.info? 234).map (·.size)=some C.toList.length:=by rw [Array.length_toList,HQ.out.sz];exact Tryz.sizeLog
    have HRG:=hide HQ.out.rg
    have HCP:=hide HQ.out.cp
    go_upto_region 15 with fail
    go_upto_region 16 with (first
     | (refine wpList_load_mid rfl 234 (.tmp 70) rfl mb 0 rfl C.toList _ HRG.out Tryz.underlying234 rfl hszC ?_;rw [Array.toArray_toList])
     | (go_at_call 127;refine HCP.out.mono ?_;rintro e w3 ⟨cs,rfl,hc3⟩;have HC3:=hide hc3;have hsz3:(Tryz.prog.info? 234).map (·.size)=some cs.size:=(by rw [hc3.sz];exact Tryz.sizeLog);have hz3:zrC.size=cs.size:=(by rw [hc3.sz];rfl);have h13:=hc3.one;have hlz3:(w3.alloc (Obj.cells zrC 234)).heap[w3.heap.size]? = some (Obj.cells zrC 234 (0,0)):=heap_alloc_last _ _;clear hc3)
     | (refine wpList_store_row rfl 234 (.tmp 16) (.tmp 72) rfl w3.heap.size cs rfl rfl 234 zrC hlz3 hsz3 hz3 h13 ?_))
    have hsr:=World.setRow_alloc_new w3 zrC cs 234
    unfold zrC at hsr
    rw [hsr]
    clear hsr hlz3
    have b4:=below_allocG w3 (Obj.cells cs 234)
    have e4:=new_blk w3 cs 234
    have s4:(w3.alloc (Obj.cells cs 234)).heap.size=w3.heap.size + 1:=by simp
    generalize w3.alloc (Obj.cells cs 234)=W4 at *
    obtain ⟨m18,n18⟩:=cell_of e4 HC3.out.dn
    have hb3:=HC3.out.bel
    have hcs:cs.setIfInBounds 18 (.bool false)=cs:=set_self HC3.out.dn
    have e5:=set_blk (j:=18) (v:=.bool false) e4
    rw [hcs] at e5
    have b5:Below w3.heap.size w3 (W4.setCell ⟨w3.heap.size,18,none⟩ (.bool false)):=below_set b4 (Nat.le_refl _)
    have s5:(W4.setCell ⟨w3.heap.size,18,none⟩ (.bool false)).heap.size=w3.heap.size + 1:=by simpa using s4
    clear hcs e4 b4
    go_upto_region 19 with fail
    generalize W4.setCell ⟨w3.heap.size,18,none⟩ (.bool false)=W5 at *
    have b6:=below_allocG W5 (Obj.cells #[.int .i64 0, .slice none 0 0] 228)
    have k6:=new_blk W5 #[.int .i64 0, .slice none 0 0] 228
    rw [s5] at k6
    go_upto_region 20 with fail
    generalize W5.alloc (Obj.cells #[.int .i64 0, .slice none 0 0] 228)=W6 at *
    have b36:Below w3.heap.size w3 W6:=b5.trans (b6.mono b5.size)
    have e6:=(b6.block w3.heap.size (by omega)).trans e5
    have s6:=b6.size
    have bc6:Below wc.heap.size wc W6:=hb3.trans (b36.mono hb3.size)
    have HAF:=hide (HC3.out.af W6 b36 e6)
    have FK:Hid (∀ W7,Below W6.heap.size W6 W7→W7.heap[w3.heap.size]? = some (Obj.cells cs 234 (0,0))∧W7.heap[w3.heap.size + 1]? = some (Obj.cells #[.int .i64 0, .slice none 0 0] 228 (0,0))∧Below w3.heap.size w3 W7):=fun W7 hb7=>by
     have hz:=(Array.getElem?_eq_some_iff.1 k6).1
     exact ⟨(hb7.block _ (by omega)).trans e6,(hb7.block _ hz).trans k6,b36.trans (hb7.mono b36.size)⟩
    have FO:Hid (∀ W,Below w3.heap.size w3 W→W.cell? ⟨ob,0,none⟩=some (.int .i64 13)∧W.cell? ⟨ob,2,none⟩=some (.int .i64 bb)):=fun W hW=>by
     have hbw:Below wc.heap.size wc W:=hb3.trans (hW.mono hb3.size)
     exact ⟨(hbw.cell (p:=⟨ob,0,none⟩) (World.block_lt_of_cell? _ _ p0)).trans p0,(hbw.cell (p:=⟨ob,2,none⟩) (World.block_lt_of_cell? _ _ p4)).trans p4⟩
    obtain ⟨u0,u4⟩:=FO.out W6 b36
    have FA:Hid (∀ W7 ck a l c,Below W6.heap.size W6 W7→∀ W8,W8=(W7.setCell ⟨w3.heap.size + 1,0,none⟩ (.int .i64 ck)).setCell ⟨w3.heap.size + 1,1,none⟩ (.slice a l c)→(W8.cell? ⟨ob,2,none⟩=some (.int .i64 bb))∧Calls Tryz.prog 131 #[ptrV w3.heap.size, .int .i64 bb] W8 fun e W'=>e=.returned (.int .i64 er)∧∃ c9:Array Value,c9.size=20∧c9.all (·.oneCell')=true∧W'.heap[w3.heap.size]? = some (Obj.cells c9 234 (0,0))∧Below wc.heap.size wc W'∧∀ W10 mv,Below wc.heap.size wc W10→Below W'.heap.size W' W10→W10.ownsRow wc.heap.size 234 20 mv 1 c9.toList→FP mv wc W10):=fun W7 ck a l c hb7 W8 hW8=>by
     obtain ⟨x1,x2,x3⟩:=FK.out W7 hb7
     subst hW8
     have y3:Below w3.heap.size w3 ((W7.setCell ⟨w3.heap.size + 1,0,none⟩ (.int .i64 ck)).setCell ⟨w3.heap.size + 1,1,none⟩ (.slice a l c)):=below_set (below_set x3 (by omega)) (by omega)
     refine ⟨(FO.out _ y3).2,HC3.out.ap _ y3 ?_⟩
     rw [set_other (by omega),set_other (by omega)]
     exact x1
    have HB3:=hide hb3
    clear e5 e6 b5 b6 k6 s4 s5 b36 m18 n18 bc6 hb3 HQ
    go_upto_region 24 with (first
     | (go_at_call 130;refine HAF.out.mono ?_;rintro e W7 ⟨ck,a7,l7,c7,rfl,hb7⟩;obtain ⟨_,x2,_⟩:=FK.out W7 hb7;obtain ⟨y0,y1⟩:=cell_of (j:=0) (u:=.int .i64 0) x2 rfl;obtain ⟨y2,y3⟩:=cell_of (j:=1) (u:=.slice none 0 0) x2 rfl;have HFA:=hide (FA.out W7 ck a7 l7 c7 hb7);clear x2 hb7))
    obtain ⟨W8,hW8⟩:∃ W8,W8=(W7.setCell ⟨w3.heap.size + 1,0,none⟩ (.int .i64 ck)).setCell ⟨w3.heap.size + 1,1,none⟩ (.slice a7 l7 c7):=⟨_,rfl⟩
    obtain ⟨v4,hap⟩:=HFA.out W8 hW8
    rw [← hW8]
    have HAP:=hide hap
    clear hap hW8 HFA FA HAF y0 y1 y2 y3 u0 u4
    go_upto_region 26 with (first
     | (go_at_call 131;refine HAP.out.mono ?_;rintro e W9 ⟨rfl,c9,z9,w9,e9,b9,hfp⟩;have HE9:=hide e9;have HB9:=hide b9;have HFP:=hide hfp;have hs9:(Tryz.prog.info? 234).map (·.size)=some c9.size:=(by rw [z9];exact Tryz.sizeLog);have HZ9:=hide z9;have HW9:=hide w9;clear e9 b9 hfp z9 w9))
    have hfold:=fold_all (z:=zrC) (c:=c9) (by rw [HZ9.out];rfl)
    unfold zrC at hfold
    have hz9:=HZ9.out
    rw [hz9] at hfold
    obtain ⟨bz,hbz⟩:∃ bz,(er == 0)=bz:=⟨_,rfl⟩
    have hwc:wc.heap.size≤W9.heap.size:=HB9.out.size
    obtain ⟨l0,hl0,hl1,hl2,hl3⟩:=info_parts Tryz.infoLogR
    clear HAP v4 FK FO HC3
    go_wp2_with (first
     | (refine wpList_load_row rfl 234 (.tmp 16) rfl w3.heap.size rfl 234 c9 (0,0) _ HE9.out Tryz.underlying234 rfl hs9 ?_)
     | (at_builtin;refine wpList_append_both _ rfl (.tmp 105) (.tmp 107) 153 rfl wc.heap.size 0 234 l0 (.agg zrC) 20 336 Tryz.underlying153 hl0 hl1 hl2 hl3 rfl (by decide) _ _ _ rfl (World.ownsRow_nil _ _ _ _) _ _ _ rfl (World.ownsRow_lit W9 c9 1 (Nat.zero_le _) (by decide) (by rw [HZ9.out])) (all_one HW9.out) (by unfold maxLen;omega) (by omega) (by simp;omega) ?_;intro v10 W10 o10 g10 n10;have o11:W10.ownsRow wc.heap.size 234 20 v10 1 c9.toList:=(by simpa using o10);have b10:Below W9.heap.size W9 W10:=(below_allocG W9 _).trans ((below_grown0 g10).mono (by simp));have HBT:=hide (HB9.out.trans (b10.mono HB9.out.size));have HFP2:=hide (HFP.out W10 v10 HBT.out b10 o11);obtain ⟨a10,c10,rfl,_,_⟩:=own_slice o11;clear o10 o11 g10 n10 b10))
    all_goals (
     go_roundw
     case rel=>exact Or.inr ⟨by go_num,HFP2.out,HBT.out,_,_,rfl⟩
     case measure=>simp [intOf])
   ·have hfp2:=hide hfp
    have x9:=(hbl.cell (p:=⟨hb,9,none⟩) (World.block_lt_of_cell? _ _ q9)).trans q9
    have y9:wr.frozen? ⟨hb,9,none⟩=false:=by rw [World.frozen?_of_block (w':=wr) (w:=wc) (hbl.block hb (World.block_lt_of_cell? _ _ q9))];exact f9
    clear hfp hbl q9 f9 HQ
    go_wp2_with fail
    go_ret
    exact ⟨rfl,_,wc,wr,hfp2.out,rfl⟩
end Go.Proofs.YtkncboinfcnklaaGreatDoor.Lw

namespace Go.Proofs.YtkncboinfcnklaaGreatDoor.Lw
open Go.RowKit Go.Deep Go.Shelf Go.Proofs.YtkncboinfcnklaaGreatDoor.Mth Go.Proofs.YtkncboinfcnklaaGreatDoor.Rl
theorem rg_of {w:World} {mv:Value} {C:Array Value} (h:w.ownsRow 0 234 20 mv 1 C.toList):∃ mb mc,mv=.slice (some ⟨mb,0,none⟩) 1 mc∧(1≤mc∧mc≤maxLen)∧w.rangeAt mb 0 C.toList:=by
 obtain ⟨a,c,rfl,h1,h2⟩:=own_slice h
 obtain ⟨g,rfl⟩:=own_some h (by omega)
 refine ⟨g,c,rfl,⟨h1,h2⟩,fun j v hv=>?_⟩
 have:=own_get h hv
 simpa using this
theorem ly_of {Z:Nat→Prop} {w2:World} {hb ob d:Nat} {mv:Value} {V:Rv} {L L':Lg} {all al:List Ent} {ts:List Tl} {S:ByteArray} {n er:Int} (c1:w2.cell? ⟨hb,1,none⟩=some (ptrV d)) (c9:w2.cell? ⟨hb,9,none⟩=some mv∧w2.frozen? ⟨hb,9,none⟩=false) (o0:w2.cell? ⟨ob,0,none⟩=some (.int .i64 12)) (o4:w2.cell? ⟨ob,4,none⟩=some (.string S))
  (st:Calls Tryz.prog 41 #[ptrV d] w2 fun e w'=>e=.returned (.bool false)∧w'=w2) (may:w2.ownsRow 0 234 20 mv 1 (rfC V L).toList) (ref:RfV Z 0 w2 V L all ts) (hZ:∀ g,Z g→g < w2.heap.size) (hI:Inv L all) (hM:all.length≤1000000) (hw4:L.wks.length≤4) (hwl:∀ q,q < L.wks.length→(L.wks.getD q wk0).list.length≤900) (hts:ts.length≤1000)
  (hcr:∀ W cb V',W.heap[cb]? = some (Obj.cells (rfC V' L) 234 (0,0))→RfV (fun g=>Z g∨w2.heap.size≤g) w2.heap.size W V' L all ts→RfD w2.heap.size V' L→w2.heap.size≤W.heap.size→w2.heap.size≤cb→Calls Tryz.prog 129 #[ptrV cb, .string S] W fun e W'=>e=.returned (.tuple #[.int .i64 n, .int .i64 er])∧Below w2.heap.size W W'∧∃ V2,W'.heap[cb]? = some (Obj.cells (rfC V2 L') 234 (0,0))∧RfV (fun g=>Z g∨w2.heap.size≤g) w2.heap.size W' V2 L' al ts) :
  ∃ mb mc C,LyQ w2 hb ob d mb mc S C n er (fun mv W=>∃ V2,RfT Z w2 W L' al ts mv V2):=by
 obtain ⟨mb,mc,rfl,hmc,hrg⟩:=rg_of may
 have hlv:=hI.lev
 have hml:=hI.stoLen
 refine ⟨mb,mc,rfC V L,c1,c9,o0,o4,st,hrg,rfl,hmc,(copy_any ref hZ (by omega) (by omega) (fun i hi=>by have:=hlv i hi;omega) hw4 (fun q hq=>by have:=hwl q hq;omega) hts).mono ?_⟩
 rintro e w3 ⟨V',rfl,hr3,hd3,hb3⟩
 refine ⟨_,rfl,rfl,hr3.one,rfl,hb3,fun W hW hbk=>?_,fun W hW hbk=>?_⟩
 ·refine (after_any hbk (own_belowR hr3.all hW) S (by omega)).mono ?_
  rintro e W' ⟨av',rfl,o',b'⟩
  obtain ⟨a,c,rfl,_,_⟩:=own_slice o'
  exact ⟨_,_,_,_,rfl,b'⟩
 ·have hsz:=hb3.size
  refine (hcr W _ V' hbk (hr3.below hW) hd3 (Nat.le_trans hsz hW.size) hsz).mono ?_
  rintro e W' ⟨rfl,hbW,V2,hb2,hr2⟩
  refine ⟨rfl,_,rfl,hr2.one,hb2,hb3.trans ((hW.mono hsz).trans hbW),fun W10 mv h1 h2 h3=>⟨V2,h1,h3,hr2.below h2⟩⟩
theorem lt_of {Z:Nat→Prop} {w2:World} {hb ob d:Nat} {mv:Value} {V:Rv} {L L':Lg} {all al:List Ent} {ts:List Tl} {bb er:Int} (c1:w2.cell? ⟨hb,1,none⟩=some (ptrV d)) (c9:w2.cell? ⟨hb,9,none⟩=some mv∧w2.frozen? ⟨hb,9,none⟩=false) (o0:w2.cell? ⟨ob,0,none⟩=some (.int .i64 13)) (o4:w2.cell? ⟨ob,2,none⟩=some (.int .i64 bb))
  (st:Calls Tryz.prog 41 #[ptrV d] w2 fun e w'=>e=.returned (.bool false)∧w'=w2) (may:w2.ownsRow 0 234 20 mv 1 (rfC V L).toList) (ref:RfV Z 0 w2 V L all ts) (hZ:∀ g,Z g→g < w2.heap.size) (hI:Inv L all) (hM:all.length≤1000000) (hw4:L.wks.length≤4) (hwl:∀ q,q < L.wks.length→(L.wks.getD q wk0).list.length≤900) (hts:ts.length≤1000)
  (hcr:∀ W cb V',W.heap[cb]? = some (Obj.cells (rfC V' L) 234 (0,0))→RfV (fun g=>Z g∨w2.heap.size≤g) w2.heap.size W V' L all ts→RfD w2.heap.size V' L→w2.heap.size≤W.heap.size→w2.heap.size≤cb→Calls Tryz.prog 131 #[ptrV cb, .int .i64 bb] W fun e W'=>e=.returned (.int .i64 er)∧Below w2.heap.size W W'∧∃ V2,W'.heap[cb]? = some (Obj.cells (rfC V2 L') 234 (0,0))∧RfV (fun g=>Z g∨w2.heap.size≤g) w2.heap.size W' V2 L' al ts) :
  ∃ mb mc C,LtQ w2 hb ob d mb mc bb C er (fun mv W=>∃ V2,RfT Z w2 W L' al ts mv V2):=by
 obtain ⟨mb,mc,rfl,hmc,hrg⟩:=rg_of may
 have hlv:=hI.lev
 have hml:=hI.stoLen
 refine ⟨mb,mc,rfC V L,c1,c9,o0,o4,st,hrg,rfl,hmc,(copy_any ref hZ (by omega) (by omega) (fun i hi=>by have:=hlv i hi;omega) hw4 (fun q hq=>by have:=hwl q hq;omega) hts).mono ?_⟩
 rintro e w3 ⟨V',rfl,hr3,hd3,hb3⟩
 refine ⟨_,rfl,rfl,hr3.one,rfl,hb3,fun W hW hbk=>?_,fun W hW hbk=>?_⟩
 ·refine (later_any hbk (own_belowR hr3.all hW) bb (by omega) hI.clk).mono ?_
  rintro e W' ⟨c',av',rfl,_,o',b'⟩
  obtain ⟨a,c,rfl,_,_⟩:=own_slice o'
  exact ⟨_,_,_,_,rfl,b'⟩
 ·have hsz:=hb3.size
  refine (hcr W _ V' hbk (hr3.below hW) hd3 (Nat.le_trans hsz hW.size) hsz).mono ?_
  rintro e W' ⟨rfl,hbW,V2,hb2,hr2⟩
  refine ⟨rfl,_,rfl,hr2.one,hb2,hb3.trans ((hW.mono hsz).trans hbW),fun W10 mv h1 h2 h3=>⟨V2,h1,h3,hr2.below h2⟩⟩
end Go.Proofs.YtkncboinfcnklaaGreatDoor.Lw

namespace Go.Proofs.YtkncboinfcnklaaGreatDoor.Lw
open Go.RowKit Go.Deep Go.Shelf Go.Proofs.YtkncboinfcnklaaGreatDoor.Mth Go.Proofs.YtkncboinfcnklaaGreatDoor.Rl
structure HS (P:Lg→List Tl→Prop) (Z:Nat→Prop) (w w':World) (B wb:Nat) (g0 g1 g2 g3:Value) (M:Nat):Prop where
 bel:Below B w w'
 zk:∀ g,Z g→w'.heap[g]? = w.heap[g]?
 ex:∃ Z' hv ke ks kr Ne Ns Nr hs,(∀ g,Z g→Z' g)∧HI P Z' w' B wb g0 g1 g2 g3 hv ke ks kr Ne Ns Nr M hs none
theorem lays_end {P:Lg→List Tl→Prop} {Z:Nat→Prop} {w w2:World} {B wb:Nat} {g0 g1 g2 g3 hv ke ks kr:Value} {Ne Ns Nr M:Nat} {hs:List Ho} {i:Nat} (h:HI P Z w2 B wb g0 g1 g2 g3 hv ke ks kr Ne Ns Nr M hs (some i)) (hi:i < hs.length) (hb:Below B w w2) (hz:∀ g,Z g→w2.heap[g]? = w.heap[g]?)
  (hl:LogAt w2 (hs.getD i h0).ρ (hs.getD i h0).B (hs.getD i h0).N (hs.getD i h0).lb (hs.getD i h0).G (hs.getD i h0).L) (hI:Inv (hs.getD i h0).L (hs.getD i h0).all) (h1:(hs.getD i h0).G.left=-1) (h2:(hs.getD i h0).G.db=(hs.getD i h0).d) (h3:(hs.getD i h0).G.dt.size≤64 * (M + 1)∧(hs.getD i h0).all.length≤M + 1) (hP:P (hs.getD i h0).L (hs.getD i h0).ts) (hBw:B≤w2.heap.size)
  {mv:Value} {w10:World} (hr:∃ V2,RfT Z w2 w10 (hs.getD i h0).L (hs.getD i h0).all (hs.getD i h0).ts mv V2):HS P Z w (w10.setCell ⟨(hs.getD i h0).hb,9,none⟩ mv) B wb g0 g1 g2 g3 (M + 1):=by
 obtain ⟨V2,hr⟩:=hr
 have hf:=lays_fin h hi hr hl hI h1 h2 h3 hP
 have hbm:Mu wb hv ke ks kr (hs.map Ho.hb) (hs.getD i h0).hb:=Or.inr (Or.inr (Or.inr (Or.inr (Or.inr (hb_mem hi)))))
 have b210:Below B w2 w10:=hr.bel.mono hBw
 refine ⟨hb.trans (Rl.below_set b210 (h.hge i hi).2),fun g hg=>?_,_,_,_,_,_,_,_,_,_,fun g hg=>Or.inl hg,hf⟩
 rw [set_other (fun e=>(h.zm g hg).2.1 (by rw [e];exact hbm)),hr.bel.block g (h.zm g hg).1]
 exact hz g hg
theorem TabB.mono {B B':Nat} {w:World} (h:TabB B w) (hB:B≤B'):TabB B' w:=fun w' hb=>h w' (hb.mono hB)
theorem stopped_at {w:World} {ρ:Nat→Nat} {B N lb d:Nat} {G:Gh} {L:Lg} (h:LogAt w ρ B N lb G L) (hl:G.left=-1) (hd:G.db=d):Calls Tryz.prog 41 #[ptrV d] w fun e w'=>e=.returned (.bool false)∧w'=w:=by
 have:=stopped_any h.x.j.j.st h.x.j.j.ptr
 rw [hl,hd] at this
 exact this
theorem hoC_app (x:Ho) (s:ByteArray) (ρ':Nat→Nat) (G':Gh) (N':Nat) (al:List Ent) (ts':List Tl):hoC { x with ρ:=ρ',G:=G',L:=x.L.app s,N:=N',all:=al,ts:=ts' }=hoC x:=by
 unfold hoC Lg.app Lg.more
 split
 ·simp [Lg.roll,layTo_len]
 ·rfl
theorem laysA_any {P:Lg→List Tl→Prop} {Z:Nat→Prop} {w:World} {B wb:Nat} {g0 g1 g2 g3 hv ke ks kr:Value} {Ne Ns Nr M:Nat} {hs:List Ho} {i:Nat} (h:HI P Z w B wb g0 g1 g2 g3 hv ke ks kr Ne Ns Nr M hs none) (hi:i < hs.length) (ht:TabB B w) (hBw:B≤w.heap.size) (A B' C':Int) (S T:ByteArray) (hS:S.size≤1048576) (hM:M≤400000) (hPa:∀ L ts s,P L ts→P (L.app s) ts) (hPt:∀ L ts,P L ts→ts.length≤1000) :
  Calls Tryz.prog 68 #[ptrV wb,ptrV (hs.getD i h0).hb,oV ⟨12,A,B',C',S,T⟩] w fun e w'=>e=.returned (.bool true)∧HS P Z w w' B wb g0 g1 g2 g3 (M + 1):=by
 obtain ⟨W0,hW0⟩:∃ W0,W0=w.alloc (Obj.cells #[.int .i64 12, .int .i64 A, .int .i64 B', .int .i64 C', .string S, .string T] 94):=⟨_,rfl⟩
 have b0:Below w.heap.size w W0:=by rw [hW0];exact below_allocG _ _
 have k0:W0.heap[w.heap.size]? = some (Obj.cells #[.int .i64 12, .int .i64 A, .int .i64 B', .int .i64 C', .string S, .string T] 94 (0,0)):=by rw [hW0];exact new_blk _ _ _
 have bd:Below W0.heap.size W0 W0.drew:=drewB W0
 obtain ⟨hp0,hx0⟩:=(h.below b0).punch hi
 obtain ⟨hp,hx⟩:=((h.below b0).below bd).punch hi
 have hob0:=hp0.hob i hi
 have b0d:Below w.heap.size w W0.drew:=b0.trans (bd.mono b0.size)
 have hzd:∀ g,Z g→W0.drew.heap[g]? = w.heap[g]? := fun g hg=>b0d.block g (h.zm g hg).1
 have hbd:=hx.bud
 have hw4:=hx.log.x.k.few
 have hwl:∀ q,q < (hs.getD i h0).L.wks.length→((hs.getD i h0).L.wks.getD q wk0).list.length≤900:=fun q hq=>by have:=wk_len (hx.log.x.k.ok q hq);omega
 have hcf:=hx.inv.cfg
 have hml:=hx.inv.ml
 have hlv:=hx.inv.lev
 have hge:=h.hge i hi
 have hwsz:=b0d.size
 have hr0:∀ g,w.heap.size≤g→(hs.getD i h0).ρ g=0:=fun g hg=>by
  by_cases q:(hs.getD i h0).ρ g=0
  ·exact q
  ·have:=(h.lt i hi g q).1;omega
 have key:∀ (n er:Int) (FP:Value→World→World→Prop),Calls Tryz.prog 26 #[ptrV (hs.getD i h0).lb, .string S] W0.drew (fun e w2=>e=.returned (.tuple #[.int .i64 n, .int .i64 er])∧∃ mb mc C,LyQ w2 (hs.getD i h0).hb w.heap.size (hs.getD i h0).d mb mc S C n er (fun mv W=>FP mv w2 W))→(∀ mv w2 W10,FP mv w2 W10→HS P Z w (W10.setCell ⟨(hs.getD i h0).hb,9,none⟩ mv) B wb g0 g1 g2 g3 (M + 1))→Calls Tryz.prog 68 #[ptrV wb,ptrV (hs.getD i h0).hb,oV ⟨12,A,B',C',S,T⟩] w fun e w'=>e=.returned (.bool true)∧HS P Z w w' B wb g0 g1 g2 g3 (M + 1):=by
  intro n er FP hcp hfin
  refine (lays_walk A B' C' S T n er FP hW0 rfl (cell_of (j:=0) hob0 rfl).1 (cell_of (j:=1) hob0 rfl).1 (cell_of (j:=0) k0 rfl).1 (cell_of (j:=4) k0 rfl).1 (stopped_at hx0.log hx0.left hx0.db) hcp).mono ?_
  rintro e w' ⟨rfl,mv,w2,W10,hf,rfl⟩
  exact ⟨rfl,hfin mv w2 W10 hf⟩
 have same:∀ (n er:Int),(∀ w2,Below W0.drew.heap.size W0.drew w2→∀ W cb V',W.heap[cb]? = some (Obj.cells (rfC V' (hs.getD i h0).L) 234 (0,0))→RfV (fun g=>Z g∨w2.heap.size≤g) w2.heap.size W V' (hs.getD i h0).L (hs.getD i h0).all (hs.getD i h0).ts→Calls Tryz.prog 129 #[ptrV cb, .string S] W fun e W'=>e=.returned (.tuple #[.int .i64 n, .int .i64 er])∧Below W.heap.size W W')→(Calls Tryz.prog 26 #[ptrV (hs.getD i h0).lb, .string S] W0.drew fun e w2=>e=.returned (.tuple #[.int .i64 n, .int .i64 er])∧Below W0.drew.heap.size W0.drew w2)→Calls Tryz.prog 68 #[ptrV wb,ptrV (hs.getD i h0).hb,oV ⟨12,A,B',C',S,T⟩] w fun e w'=>e=.returned (.bool true)∧HS P Z w w' B wb g0 g1 g2 g3 (M + 1):=by
  intro n er hcr hcp
  refine key n er (fun mv w2 W=>Below W0.drew.heap.size W0.drew w2∧∃ V2,RfT Z w2 W (hs.getD i h0).L (hs.getD i h0).all (hs.getD i h0).ts mv V2) (hcp.mono ?_) ?_
  ·rintro e w2 ⟨rfl,hb2⟩
   have hp2:=hp.below hb2
   have hx2:=hx.same (fun g q=>hb2.block g (by rcases q with q | q;exact (hx.log.x.lt g q).1;exact isN_lt q)) (fun g hg=>hb2.block g (hp.zm g hg).1) hb2.size (fun _ q=>q) (Nat.le_refl M)
   have hob2:=hp2.hob i hi
   have k2:=(hb2.block _ (by have:=b0.size;have:=(Array.getElem?_eq_some_iff.1 k0).1;exact Nat.lt_of_lt_of_le this bd.size)).trans ((bd.block _ (Array.getElem?_eq_some_iff.1 k0).1).trans k0)
   obtain ⟨mb,mc,C,hq⟩:=ly_of (L':=(hs.getD i h0).L) (al:=(hs.getD i h0).all) (n:=n) (er:=er) (cell_of (j:=1) hob2 rfl).1 (cell_of (j:=9) hob2 rfl) (cell_of (j:=0) k2 rfl).1 (cell_of (j:=4) k2 rfl).1 (stopped_at hx2.log hx2.left hx2.db) hx2.may hx2.ref (fun g hg=>(hp2.zm g hg).1) hx2.inv (by omega) hw4.2 hwl (hPt _ _ hx2.tl) (fun W cb V' h1 h2 h3 h4 h5=>(hcr w2 hb2 W cb V' h1 h2).mono (by
    rintro e W' ⟨rfl,hbW⟩
    exact ⟨rfl,hbW.mono h4,V',(hbW.block cb (Array.getElem?_eq_some_iff.1 h1).1).trans h1,h2.below hbW⟩))
   exact ⟨rfl,mb,mc,C,hq.c1,hq.c9,hq.o0,hq.o4,hq.st,hq.rg,hq.sz,hq.mc,hq.cp.mono (by
    rintro e w3 ⟨cs,rfl,hc⟩
    exact ⟨cs,rfl,hc.sz,hc.one,hc.dn,hc.bel,hc.af,fun W h1 h2=>(hc.ap W h1 h2).mono (by
     rintro e W' ⟨rfl,c9,a1,a2,a3,a4,a5⟩
     exact ⟨rfl,c9,a1,a2,a3,a4,fun W10 mv b1 b2 b3=>⟨hb2,a5 W10 mv b1 b2 b3⟩⟩)⟩)⟩
  ·rintro mv w2 W10 ⟨hb2,hr⟩
   have hp2:=hp.below hb2
   have hx2:=hx.same (fun g q=>hb2.block g (by rcases q with q | q;exact (hx.log.x.lt g q).1;exact isN_lt q)) (fun g hg=>hb2.block g (hp.zm g hg).1) hb2.size (fun _ q=>q) (Nat.le_refl M)
   have hb02:Below w.heap.size w w2:=b0d.trans (hb2.mono b0d.size)
   exact lays_end hp2 hi (hb02.mono hBw) (fun g hg=>hb02.block g (h.zm g hg).1) hx2.log hx2.inv hx2.left hx2.db ⟨by omega,by omega⟩ hx2.tl (Nat.le_trans hBw hb02.size) hr
 by_cases hl:60 < S.size
 ·refine same 0 4 (fun w2 _ W cb V' h1 h2=>appendR_long h1 h2 S hl (by omega) (by omega) (by omega)) ((append_long hx.log S (by rw [hx.left];omega) hl (by omega)).mono ?_)
  rintro e w' ⟨rfl,rfl⟩
  exact ⟨rfl,Below.refl _ _⟩
 ·by_cases hbz:(hs.getD i h0).L.memory≤(hs.getD i h0).L.mem.length∧(hs.getD i h0).L.fan + (hs.getD i h0).L.back≤((hs.getD i h0).L.lev 0).length
  ·have hl0:=hlv 0 (by omega)
   refine same 0 5 (fun w2 _ W cb V' h1 h2=>appendR_busy h1 h2 S (by omega) (by omega) (by omega) (by omega) (by omega) (by omega) (by omega) hbz.2) (append_busy hx.log S (by rw [hx.left];omega) (by omega) hbz.1 hbz.2 (by omega) (by omega) (by omega))
  ·have hcnt:=hx.inv.cnt
   have hBd:(hs.getD i h0).B≤W0.drew.heap.size:=by
    have:=(hx.log.x.lt _ (by rw [hx.log.x.b.rl];omega:(hs.getD i h0).ρ (hs.getD i h0).lb≠0))
    omega
   have htd:TabB (hs.getD i h0).B W0.drew:=TabB.mono (ht.next (b0d.mono hBw)) hge.1
   have hca:=append_ok hx.log hBd htd S (by rw [hx.left];omega) (by rw [hx.left];omega) (by rw [hx.left];omega) (by rw [hx.left];omega) (by omega) hbz (by omega) (by omega) (fun j hj=>by have:=hlv j hj;omega) (by omega) (by omega) (by omega)
   have hnx:nxE (hs.getD i h0).L (hs.getD i h0).all S=⟨((hs.getD i h0).all.length:Int),((hs.getD i h0).L.clock:Int),S⟩:=rfl
   have hI':=hx.inv.app (s:=S) (by omega)
   rw [← hnx] at hI'
   have core:∀ w2,Apd W0.drew w2 (hs.getD i h0).ρ (hs.getD i h0).B (hs.getD i h0).N (hs.getD i h0).lb (hs.getD i h0).G ((hs.getD i h0).L.app S) ((hs.getD i h0).G.dt ++ recB 0 S) (decL (decL (hs.getD i h0).G.left))→∃ x1:Ho,x1.hb=(hs.getD i h0).hb∧x1.d=(hs.getD i h0).d∧x1.mv=(hs.getD i h0).mv∧x1.L=(hs.getD i h0).L.app S∧x1.all=(hs.getD i h0).all ++ [nxE (hs.getD i h0).L (hs.getD i h0).all S]∧x1.ts=(hs.getD i h0).ts∧HI P Z w2 B wb g0 g1 g2 g3 hv ke ks kr Ne Ns Nr M (hs.set i x1) (some i)∧LogAt w2 x1.ρ x1.B x1.N x1.lb x1.G x1.L∧x1.G.left=-1∧x1.G.db=x1.d∧x1.G.dt.size≤64 * (M + 1)∧(∀ g,Z g→w2.heap[g]? = W0.drew.heap[g]?)∧Below B W0.drew w2∧w2.heap[w.heap.size]? = W0.drew.heap[w.heap.size]? ∧ W0.drew.heap.size≤w2.heap.size:=by
    rintro w2 ⟨ρ',G',a1,a2,a3,a4,a5⟩
    obtain ⟨p1,p2⟩:=hp.prog hi a2 G' ((hs.getD i h0).L.app S) (hs.getD i h0).N ((hs.getD i h0).all ++ [nxE (hs.getD i h0).L (hs.getD i h0).all S]) (hs.getD i h0).ts (hoC_app _ _ _ _ _ _ _) a1.x.lt
    refine ⟨{ (hs.getD i h0) with ρ:=ρ',G:=G',L:=(hs.getD i h0).L.app S,N:=(hs.getD i h0).N,all:=(hs.getD i h0).all ++ [nxE (hs.getD i h0).L (hs.getD i h0).all S],ts:=(hs.getD i h0).ts },rfl,rfl,rfl,rfl,rfl,rfl,p1,a1,?_,a3.db.trans hx.db,?_,p2,?_,?_,a2.tch.size⟩
    ·show G'.left=-1
     rw [a5,hx.left];decide
    ·show G'.dt.size≤_
     rw [a4,ByteArray.size_append,recB_size];omega
    ·exact Rl.below_tch0 a2.tch (fun k q=>Nat.le_trans hge.1 (hx.log.x.lt k q.1).2) (Nat.le_trans hBw hwsz)
    ·exact a2.tch.block _ (by have:=(Array.getElem?_eq_some_iff.1 k0).1;exact Nat.lt_of_lt_of_le this bd.size) (fun q=>q.1 (hr0 _ (Nat.le_refl _)))
   refine key ((hs.getD i h0).L.count:Int) 0 (fun mv w2 W=>Apd W0.drew w2 (hs.getD i h0).ρ (hs.getD i h0).B (hs.getD i h0).N (hs.getD i h0).lb (hs.getD i h0).G ((hs.getD i h0).L.app S) ((hs.getD i h0).G.dt ++ recB 0 S) (decL (decL (hs.getD i h0).G.left))∧∃ V2,RfT Z w2 W ((hs.getD i h0).L.app S) ((hs.getD i h0).all ++ [nxE (hs.getD i h0).L (hs.getD i h0).all S]) (hs.getD i h0).ts mv V2) (hca.mono ?_) ?_
   ·rintro e w2 ⟨rfl,hapd⟩
    obtain ⟨x1,e1,e2,e3,e4,e5,e6,p1,a1,a2,a3,a4,a5,a6,a7,a8⟩:=core w2 hapd
    have hob2:=p1.hob i (by simpa using hi)
    rw [getD_set hi,if_pos rfl,e1] at hob2
    have k2:=a7.trans ((bd.block _ (Array.getElem?_eq_some_iff.1 k0).1).trans k0)
    have c1:=(cell_of (j:=1) (u:=ptrV x1.d) hob2 rfl).1
    have c9:=cell_of (j:=9) (u:=x1.mv) hob2 rfl
    rw [e2] at c1
    rw [e3] at c9
    have hst2:=stopped_at a1 a2 (a3.trans e2)
    obtain ⟨mb,mc,C,hq⟩:=ly_of (L':=(hs.getD i h0).L.app S) (al:=(hs.getD i h0).all ++ [nxE (hs.getD i h0).L (hs.getD i h0).all S]) (n:=((hs.getD i h0).L.count:Int)) (er:=0) c1 c9 (cell_of (j:=0) k2 rfl).1 (cell_of (j:=4) k2 rfl).1 hst2 (own_same hx.may (fun g hg=>a5 g (hx.mz g hg))) (hx.ref.same hx.rz a5) (fun g hg=>(p1.zm g hg).1) hx.inv (by omega) hw4.2 hwl (hPt _ _ hx.tl) (fun W cb V' q1 q2 q3 q4 q5=>by
     rw [hcnt]
     exact appendR_ok q1 q2 q3 (fun g hg=>Or.inr hg) q4 q5 S (by omega) hx.inv (by omega) hw4.2 hwl hbz)
    exact ⟨rfl,mb,mc,C,hq.c1,hq.c9,hq.o0,hq.o4,hq.st,hq.rg,hq.sz,hq.mc,hq.cp.mono (by
     rintro e w3 ⟨cs,rfl,hc⟩
     exact ⟨cs,rfl,hc.sz,hc.one,hc.dn,hc.bel,hc.af,fun W h1 h2=>(hc.ap W h1 h2).mono (by
      rintro e W' ⟨rfl,c9,b1,b2,b3,b4,b5⟩
      exact ⟨rfl,c9,b1,b2,b3,b4,fun W10 mv b1 b2 b3=>⟨hapd,b5 W10 mv b1 b2 b3⟩⟩)⟩)⟩
   ·rintro mv w2 W10 ⟨hapd,hr⟩
    obtain ⟨x1,e1,e2,e3,e4,e5,e6,p1,a1,a2,a3,a4,a5,a6,a7,a8⟩:=core w2 hapd
    have hgd:(hs.set i x1).getD i h0=x1:=by rw [getD_set hi,if_pos rfl]
    rw [← e4,← e5,← e6] at hr
    have hend:=lays_end (w:=w) (i:=i) p1 (by simpa using hi) ((b0d.mono hBw).trans a6) (fun g hg=>(a5 g hg).trans (hzd g hg)) (by rw [hgd];exact a1) (by rw [hgd,e4,e5];exact hI') (by rw [hgd];exact a2) (by rw [hgd];exact a3) (by rw [hgd];exact ⟨a4,by rw [e5,List.length_append,List.length_singleton];omega⟩) (by rw [hgd,e4,e6];exact hPa _ _ _ hx.tl) (Nat.le_trans hBw (Nat.le_trans hwsz a8)) (mv:=mv) (w10:=W10) (by rw [hgd];exact hr)
    rw [hgd,e1] at hend
    exact hend
end Go.Proofs.YtkncboinfcnklaaGreatDoor.Lw

namespace Go.Proofs.YtkncboinfcnklaaGreatDoor.Lw
open Go.RowKit Go.Deep Go.Shelf Go.Proofs.YtkncboinfcnklaaGreatDoor.Mth Go.Proofs.YtkncboinfcnklaaGreatDoor.Rl
theorem laysT_any {P:Lg→List Tl→Prop} {Z:Nat→Prop} {w:World} {B wb:Nat} {g0 g1 g2 g3 hv ke ks kr:Value} {Ne Ns Nr M:Nat} {hs:List Ho} {i:Nat} (h:HI P Z w B wb g0 g1 g2 g3 hv ke ks kr Ne Ns Nr M hs none) (hi:i < hs.length) (ht:Tab10B B w) (hBw:B≤w.heap.size) (A bb C':Int) (S T:ByteArray) (hS:-9223372036854775808≤bb∧bb≤9223372036854775807) (hM:M≤400000) (hPa:∀ (L:Lg) ts (n:Nat),P L ts→P { L with clock:=L.clock + n } ts) (hPt:∀ L ts,P L ts→ts.length≤1000) :
  Calls Tryz.prog 68 #[ptrV wb,ptrV (hs.getD i h0).hb,oV ⟨13,A,bb,C',S,T⟩] w fun e w'=>e=.returned (.bool true)∧HS P Z w w' B wb g0 g1 g2 g3 (M + 1):=by
 obtain ⟨W0,hW0⟩:∃ W0,W0=w.alloc (Obj.cells #[.int .i64 13, .int .i64 A, .int .i64 bb, .int .i64 C', .string S, .string T] 94):=⟨_,rfl⟩
 have b0:Below w.heap.size w W0:=by rw [hW0];exact below_allocG _ _
 have k0:W0.heap[w.heap.size]? = some (Obj.cells #[.int .i64 13, .int .i64 A, .int .i64 bb, .int .i64 C', .string S, .string T] 94 (0,0)):=by rw [hW0];exact new_blk _ _ _
 have bd:Below W0.heap.size W0 W0.drew:=drewB W0
 obtain ⟨hp0,hx0⟩:=(h.below b0).punch hi
 obtain ⟨hp,hx⟩:=((h.below b0).below bd).punch hi
 have hob0:=hp0.hob i hi
 have b0d:Below w.heap.size w W0.drew:=b0.trans (bd.mono b0.size)
 have hzd:∀ g,Z g→W0.drew.heap[g]? = w.heap[g]? := fun g hg=>b0d.block g (h.zm g hg).1
 have hbd:=hx.bud
 have hw4:=hx.log.x.k.few
 have hwl:∀ q,q < (hs.getD i h0).L.wks.length→((hs.getD i h0).L.wks.getD q wk0).list.length≤900:=fun q hq=>by have:=wk_len (hx.log.x.k.ok q hq);omega
 have hcf:=hx.inv.cfg
 have hml:=hx.inv.ml
 have hlv:=hx.inv.lev
 have hge:=h.hge i hi
 have hwsz:=b0d.size
 have hr0:∀ g,w.heap.size≤g→(hs.getD i h0).ρ g=0:=fun g hg=>by
  by_cases q:(hs.getD i h0).ρ g=0
  ·exact q
  ·have:=(h.lt i hi g q).1;omega
 have key:∀ (er:Int) (FP:Value→World→World→Prop),Calls Tryz.prog 126 #[ptrV (hs.getD i h0).lb, .int .i64 bb] W0.drew (fun e w2=>e=.returned (.int .i64 er)∧∃ mb mc C,LtQ w2 (hs.getD i h0).hb w.heap.size (hs.getD i h0).d mb mc bb C er (fun mv W=>FP mv w2 W))→(∀ mv w2 W10,FP mv w2 W10→HS P Z w (W10.setCell ⟨(hs.getD i h0).hb,9,none⟩ mv) B wb g0 g1 g2 g3 (M + 1))→Calls Tryz.prog 68 #[ptrV wb,ptrV (hs.getD i h0).hb,oV ⟨13,A,bb,C',S,T⟩] w fun e w'=>e=.returned (.bool true)∧HS P Z w w' B wb g0 g1 g2 g3 (M + 1):=by
  intro er FP hcp hfin
  refine (ticks_walk A bb C' S T er FP hW0 rfl (cell_of (j:=0) hob0 rfl).1 (cell_of (j:=1) hob0 rfl).1 (cell_of (j:=0) k0 rfl).1 (cell_of (j:=2) k0 rfl).1 (stopped_at hx0.log hx0.left hx0.db) hcp).mono ?_
  rintro e w' ⟨rfl,mv,w2,W10,hf,rfl⟩
  exact ⟨rfl,hfin mv w2 W10 hf⟩
 have same:∀ (er:Int),(∀ w2,Below W0.drew.heap.size W0.drew w2→∀ W cb V',W.heap[cb]? = some (Obj.cells (rfC V' (hs.getD i h0).L) 234 (0,0))→RfV (fun g=>Z g∨w2.heap.size≤g) w2.heap.size W V' (hs.getD i h0).L (hs.getD i h0).all (hs.getD i h0).ts→Calls Tryz.prog 131 #[ptrV cb, .int .i64 bb] W fun e W'=>e=.returned (.int .i64 er)∧Below W.heap.size W W')→(Calls Tryz.prog 126 #[ptrV (hs.getD i h0).lb, .int .i64 bb] W0.drew fun e w2=>e=.returned (.int .i64 er)∧Below W0.drew.heap.size W0.drew w2)→Calls Tryz.prog 68 #[ptrV wb,ptrV (hs.getD i h0).hb,oV ⟨13,A,bb,C',S,T⟩] w fun e w'=>e=.returned (.bool true)∧HS P Z w w' B wb g0 g1 g2 g3 (M + 1):=by
  intro er hcr hcp
  refine key er (fun mv w2 W=>Below W0.drew.heap.size W0.drew w2∧∃ V2,RfT Z w2 W (hs.getD i h0).L (hs.getD i h0).all (hs.getD i h0).ts mv V2) (hcp.mono ?_) ?_
  ·rintro e w2 ⟨rfl,hb2⟩
   have hp2:=hp.below hb2
   have hx2:=hx.same (fun g q=>hb2.block g (by rcases q with q | q;exact (hx.log.x.lt g q).1;exact isN_lt q)) (fun g hg=>hb2.block g (hp.zm g hg).1) hb2.size (fun _ q=>q) (Nat.le_refl M)
   have hob2:=hp2.hob i hi
   have k2:=(hb2.block _ (by have:=b0.size;have:=(Array.getElem?_eq_some_iff.1 k0).1;exact Nat.lt_of_lt_of_le this bd.size)).trans ((bd.block _ (Array.getElem?_eq_some_iff.1 k0).1).trans k0)
   obtain ⟨mb,mc,C,hq⟩:=lt_of (L':=(hs.getD i h0).L) (al:=(hs.getD i h0).all) (er:=er) (cell_of (j:=1) hob2 rfl).1 (cell_of (j:=9) hob2 rfl) (cell_of (j:=0) k2 rfl).1 (cell_of (j:=2) k2 rfl).1 (stopped_at hx2.log hx2.left hx2.db) hx2.may hx2.ref (fun g hg=>(hp2.zm g hg).1) hx2.inv (by omega) hw4.2 hwl (hPt _ _ hx2.tl) (fun W cb V' h1 h2 h3 h4 h5=>(hcr w2 hb2 W cb V' h1 h2).mono (by
    rintro e W' ⟨rfl,hbW⟩
    exact ⟨rfl,hbW.mono h4,V',(hbW.block cb (Array.getElem?_eq_some_iff.1 h1).1).trans h1,h2.below hbW⟩))
   exact ⟨rfl,mb,mc,C,hq.c1,hq.c9,hq.o0,hq.o4,hq.st,hq.rg,hq.sz,hq.mc,hq.cp.mono (by
    rintro e w3 ⟨cs,rfl,hc⟩
    exact ⟨cs,rfl,hc.sz,hc.one,hc.dn,hc.bel,hc.af,fun W h1 h2=>(hc.ap W h1 h2).mono (by
     rintro e W' ⟨rfl,c9,a1,a2,a3,a4,a5⟩
     exact ⟨rfl,c9,a1,a2,a3,a4,fun W10 mv b1 b2 b3=>⟨hb2,a5 W10 mv b1 b2 b3⟩⟩)⟩)⟩
  ·rintro mv w2 W10 ⟨hb2,hr⟩
   have hp2:=hp.below hb2
   have hx2:=hx.same (fun g q=>hb2.block g (by rcases q with q | q;exact (hx.log.x.lt g q).1;exact isN_lt q)) (fun g hg=>hb2.block g (hp.zm g hg).1) hb2.size (fun _ q=>q) (Nat.le_refl M)
   have hb02:Below w.heap.size w w2:=b0d.trans (hb2.mono b0d.size)
   exact lays_end hp2 hi (hb02.mono hBw) (fun g hg=>hb02.block g (h.zm g hg).1) hx2.log hx2.inv hx2.left hx2.db ⟨by omega,by omega⟩ hx2.tl (Nat.le_trans hBw hb02.size) hr
 cases hct:canTick (hs.getD i h0).L.clock bb
 ·refine same 1 (fun w2 _ W cb V' h1 h2=>tickR_no h1 bb hS hx.inv.clk hct) ((tick_no hx.log bb hx.inv.clk hct).mono ?_)
  rintro e w' ⟨rfl,rfl⟩
  exact ⟨rfl,Below.refl _ _⟩
 ·have hb1:1≤bb∧bb≤1000∧((hs.getD i h0).L.clock:Int) + bb≤1000000000000:=by
   unfold canTick at hct
   simp only [Bool.and_eq_true,decide_eq_true_eq] at hct
   omega
  obtain ⟨n,rfl⟩:∃ n:Nat,bb=(n:Int):=⟨bb.toNat,by omega⟩
  have hBd:(hs.getD i h0).B≤W0.drew.heap.size:=by
   have:=(hx.log.x.lt _ (by rw [hx.log.x.b.rl];omega:(hs.getD i h0).ρ (hs.getD i h0).lb≠0))
   omega
  have htd:Tab10 W0.drew:=ht W0.drew (b0d.mono hBw)
  have hca:=tick_ok hx.log hBd htd (by rw [hx.left];omega) (by rw [hx.left];omega) (by rw [hx.left];omega) (by rw [hx.left];omega) n hx.inv.clk hct (by omega)
  have hI':=hx.inv.tick (n:=n) (by omega)
  have hit:=itoaB_size (n:Int) (by omega) (by omega)
  have core:∀ w2,Apd W0.drew w2 (hs.getD i h0).ρ (hs.getD i h0).B (hs.getD i h0).N (hs.getD i h0).lb (hs.getD i h0).G { (hs.getD i h0).L with clock:=(hs.getD i h0).L.clock + n } ((hs.getD i h0).G.dt ++ recB 1 (itoaB n)) (decL (decL (hs.getD i h0).G.left))→∃ x1:Ho,x1.hb=(hs.getD i h0).hb∧x1.d=(hs.getD i h0).d∧x1.mv=(hs.getD i h0).mv∧x1.L={ (hs.getD i h0).L with clock:=(hs.getD i h0).L.clock + n }∧x1.all=(hs.getD i h0).all∧x1.ts=(hs.getD i h0).ts∧HI P Z w2 B wb g0 g1 g2 g3 hv ke ks kr Ne Ns Nr M (hs.set i x1) (some i)∧LogAt w2 x1.ρ x1.B x1.N x1.lb x1.G x1.L∧x1.G.left=-1∧x1.G.db=x1.d∧x1.G.dt.size≤64 * (M + 1)∧(∀ g,Z g→w2.heap[g]? = W0.drew.heap[g]?)∧Below B W0.drew w2∧w2.heap[w.heap.size]? = W0.drew.heap[w.heap.size]? ∧ W0.drew.heap.size≤w2.heap.size:=by
   rintro w2 ⟨ρ',G',a1,a2,a3,a4,a5⟩
   obtain ⟨p1,p2⟩:=hp.prog hi a2 G' { (hs.getD i h0).L with clock:=(hs.getD i h0).L.clock + n } (hs.getD i h0).N (hs.getD i h0).all (hs.getD i h0).ts rfl a1.x.lt
   refine ⟨{ (hs.getD i h0) with ρ:=ρ',G:=G',L:={ (hs.getD i h0).L with clock:=(hs.getD i h0).L.clock + n },N:=(hs.getD i h0).N,all:=(hs.getD i h0).all,ts:=(hs.getD i h0).ts },rfl,rfl,rfl,rfl,rfl,rfl,p1,a1,?_,a3.db.trans hx.db,?_,p2,?_,?_,a2.tch.size⟩
   ·show G'.left=-1
    rw [a5,hx.left];decide
   ·show G'.dt.size≤_
    rw [a4,ByteArray.size_append,recB_size];omega
   ·exact Rl.below_tch0 a2.tch (fun k q=>Nat.le_trans hge.1 (hx.log.x.lt k q.1).2) (Nat.le_trans hBw hwsz)
   ·exact a2.tch.block _ (by have:=(Array.getElem?_eq_some_iff.1 k0).1;exact Nat.lt_of_lt_of_le this bd.size) (fun q=>q.1 (hr0 _ (Nat.le_refl _)))
  refine key 0 (fun mv w2 W=>Apd W0.drew w2 (hs.getD i h0).ρ (hs.getD i h0).B (hs.getD i h0).N (hs.getD i h0).lb (hs.getD i h0).G { (hs.getD i h0).L with clock:=(hs.getD i h0).L.clock + n } ((hs.getD i h0).G.dt ++ recB 1 (itoaB n)) (decL (decL (hs.getD i h0).G.left))∧∃ V2,RfT Z w2 W { (hs.getD i h0).L with clock:=(hs.getD i h0).L.clock + n } (hs.getD i h0).all (hs.getD i h0).ts mv V2) (hca.mono ?_) ?_
  ·rintro e w2 ⟨rfl,hapd⟩
   obtain ⟨x1,e1,e2,e3,e4,e5,e6,p1,a1,a2,a3,a4,a5,a6,a7,a8⟩:=core w2 hapd
   have hob2:=p1.hob i (by simpa using hi)
   rw [getD_set hi,if_pos rfl,e1] at hob2
   have k2:=a7.trans ((bd.block _ (Array.getElem?_eq_some_iff.1 k0).1).trans k0)
   have c1:=(cell_of (j:=1) (u:=ptrV x1.d) hob2 rfl).1
   have c9:=cell_of (j:=9) (u:=x1.mv) hob2 rfl
   rw [e2] at c1
   rw [e3] at c9
   have hst2:=stopped_at a1 a2 (a3.trans e2)
   obtain ⟨mb,mc,C,hq⟩:=lt_of (L':={ (hs.getD i h0).L with clock:=(hs.getD i h0).L.clock + n }) (al:=(hs.getD i h0).all) (er:=0) c1 c9 (cell_of (j:=0) k2 rfl).1 (cell_of (j:=2) k2 rfl).1 hst2 (own_same hx.may (fun g hg=>a5 g (hx.mz g hg))) (hx.ref.same hx.rz a5) (fun g hg=>(p1.zm g hg).1) hx.inv (by omega) hw4.2 hwl (hPt _ _ hx.tl) (fun W cb V' q1 q2 q3 q4 q5=>(tickR_ok q1 q2 q4 n (by omega) hx.inv.clk hct).mono (by
    rintro e W' ⟨rfl,t1,V2,t2,t3⟩
    exact ⟨rfl,Rl.below_tch0 t1 (fun k q=>by rw [q];exact q5) q4,V2,t2,t3⟩))
   exact ⟨rfl,mb,mc,C,hq.c1,hq.c9,hq.o0,hq.o4,hq.st,hq.rg,hq.sz,hq.mc,hq.cp.mono (by
    rintro e w3 ⟨cs,rfl,hc⟩
    exact ⟨cs,rfl,hc.sz,hc.one,hc.dn,hc.bel,hc.af,fun W h1 h2=>(hc.ap W h1 h2).mono (by
     rintro e W' ⟨rfl,c9,b1,b2,b3,b4,b5⟩
     exact ⟨rfl,c9,b1,b2,b3,b4,fun W10 mv b1 b2 b3=>⟨hapd,b5 W10 mv b1 b2 b3⟩⟩)⟩)⟩
  ·rintro mv w2 W10 ⟨hapd,hr⟩
   obtain ⟨x1,e1,e2,e3,e4,e5,e6,p1,a1,a2,a3,a4,a5,a6,a7,a8⟩:=core w2 hapd
   have hgd:(hs.set i x1).getD i h0=x1:=by rw [getD_set hi,if_pos rfl]
   rw [← e4,← e5,← e6] at hr
   have hend:=lays_end (w:=w) (i:=i) p1 (by simpa using hi) ((b0d.mono hBw).trans a6) (fun g hg=>(a5 g hg).trans (hzd g hg)) (by rw [hgd];exact a1) (by rw [hgd,e4,e5];exact hI') (by rw [hgd];exact a2) (by rw [hgd];exact a3) (by rw [hgd];exact ⟨a4,by rw [e5];omega⟩) (by rw [hgd,e4,e6];exact hPa _ _ _ hx.tl) (Nat.le_trans hBw (Nat.le_trans hwsz a8)) (mv:=mv) (w10:=W10) (by rw [hgd];exact hr)
   rw [hgd,e1] at hend
   exact hend
end Go.Proofs.YtkncboinfcnklaaGreatDoor.Lw
