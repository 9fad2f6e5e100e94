import Derived.Test.YtkncboinfcnklaaGreatDoorQ15
set_option maxRecDepth 100000
set_option maxHeartbeats 8000000
namespace Go.Proofs.YtkncboinfcnklaaGreatDoor
open Go.RowKit Go.Deep Go.Shelf Go.Proofs.YtkncboinfcnklaaGreatDoor.Mth
theorem td {α:Type}{l:List α}{n j:Nat}(z:α) (h:j<n):(l.take n).getD j z=l.getD j z:=by simp[List.getD,h]
theorem XStp.more {w w1 w2:World}{ρ ρ1:Nat→Nat}{B N lb:Nat}{G G1:Gh}{L2:Lg}(a2:GK G G1) (a3:LStp w w1 ρ ρ1) (a4:∀g,ρ g≠0→ρ1 g=ρ g) (a5:Same w w1 ρ (fun c=>c=3)) (h2:XStp w1 w2 ρ1 B N lb G1 L2):XStp w w2 ρ B N lb G L2:=by
 obtain⟨⟨ρ2,G2,b1,b2,b3,b4,b5⟩⟩:=h2;exact⟨⟨ρ2,G2,b1,a2.trans b2,a3.trans b3,fun g q=>(b4 g (by rw[a4 g q];exact q)).trans (a4 g q),a5.trans (by omega) a4 b5⟩⟩
theorem GK.put {G:Gh}{i:Nat}{v:Value}{s:Nat}{ev:Value}{mb:Nat}:GK G (G.put i v s ev mb):=rfl
theorem GK.cut {G:Gh}{i:Nat}{v:Value}{n:Nat}:GK G (G.cut i v n):=rfl
theorem cQ {w W w3:World}{ρ:Nat→Nat}{B N lb:Nat}{G:Gh}{L:Lg}(h:LogX w ρ B N lb G L) (hB:B≤w.heap.size) (hW:Below w.heap.size w W){s mb:Nat}{es:List Ent}{ev:Value}(hn:NewSeg W w3 B s es ev mb){i:Nat}(hi:i<6) (hl:(L.lev i).length≤4000000){tb:Nat}(htb:w.heap.size≤tb) (htb2:tb<W.heap.size) :
  ∀W4,Below w3.heap.size w3 W4→Calls Tryz.prog 59 #[zr lb, .int .i64 (i:Int),zr s] W4 fun e w'=>e=.returned (.tuple #[])∧XStp w w' ρ B N lb G (L.put i es)∧w'.heap[tb]? = W4.heap[tb]? := by
 intro W4 h4;obtain⟨ρ3,a1,a2,a3,a4,a5,a6⟩:=(h.below hW).newSeg (Nat.le_trans hB hW.size) hn;have hb4:=a1.below h4;refine(jt hb4 (Nat.le_trans hB (Nat.le_trans hW.size (Nat.le_trans hn.bel.size h4.size))) hi (hn.seg.below h4) a2 a3 hl).mono ?_;rintro e w5 ⟨rfl,ρ5,v5,r1,r2,r3,r4⟩;refine⟨rfl,XStp.more (GK.refl G) (LStp.pre hW a4) a5 (a6.pre h hW) (XStp.pre a1 h4 ⟨⟨ρ5,_,r1,GK.put,r2,r3,r4⟩⟩),?_⟩;exact r2.tch.block tb (Nat.lt_of_lt_of_le htb2 (Nat.le_trans hn.bel.size h4.size)) (fun q=>q.1 (a4.old tb htb2 (h.zero htb)))
theorem bp {w:World}{ρ:Nat→Nat}{B N lb:Nat}{G:Gh}{L:Lg}(h:LogX w ρ B N lb G L) (hB:B≤w.heap.size) (ht:TabB B w){i:Nat}(hi:i≤4) (hf:L.fan≤(L.lev i).length) (hf1:1≤L.fan) (hf4:L.fan≤4) (hc:L.clock≤1000000000000) (hk:L.keep≤1000000)
  (hl:∀i,i<6→(L.lev i).length≤500000) (hT:((L.lev i).take L.fan).flatten.length≤1048576) (hx:∀es∈L.lev i,∀e∈es,e.text.size≤60) :
  Calls Tryz.prog 281 #[zr lb,ol i] w fun e w'=>e=.returned (.tuple #[])∧∃m,Need L m∧XStp w w' ρ B N lb G (L.ends i m):=by
 obtain⟨a,c,hlr,hc2,hm⟩:=zu (h.v.row i (by omega));have hrow:=h.v.row i (by omega);have hlen:=h.v.len i (by omega);rw[hlr]at hrow;obtain⟨g,rfl⟩:=zf hrow (by omega);have hb1:=zv w (Obj.cells #[.int .i64 (i:Int), .int .i64 ((i:Int)+1)] 137);have ht0:=zj w #[.int .i64 (i:Int), .int .i64 ((i:Int)+1)] 137;have h1:=h.below hb1;obtain⟨c8,_⟩:=zy (j:=8+i) (u:=G.lr i) h1.b.blk (ut G L i (by omega));rw[hlr]at c8;obtain⟨cf,_⟩:=zy (j:=1) (u:=.int .i64 (L.fan:Int)) h1.b.blk rfl;obtain⟨t0,_⟩:=zy (j:=0) (u:=.int .i64 (i:Int)) ht0 rfl;obtain⟨t1,_⟩:=zy (j:=1) (u:=.int .i64 ((i:Int)+1)) ht0 rfl;unfold maxLen at hm
 have CK:Hid (∀W,Below w.heap.size w W→Calls Tryz.prog 308 #[zr lb, .slice (some ⟨g,0,none⟩) L.fan c] W fun e w'=>∃v m,e=.returned v∧Need L m∧CurE W w' v (L.left i m)):=by
  intro W hW;have hXW:=h.below hW;have hrW:=hXW.v.row i (by omega);rw[hlr]at hrW
  have htl:((G.bs i).take L.fan).length=L.fan:=by rw[List.length_take];omega
  refine dv hXW hc hk (bs:=(G.bs i).take L.fan) (es:=(L.lev i).take L.fan) ⟨some ⟨g,0,none⟩,c,by rw[htl],by omega,by unfold maxLen;omega,Or.inr ⟨g,0,rfl,fun j hj=>?_⟩⟩ (by rw[htl,List.length_take];omega) (fun j hj=>?_) hT
  ·rw[htl]at hj;rw[Nat.zero_add,td _ hj];exact zg hrW (by rw[List.getElem?_map,List.getElem?_eq_getElem (by omega),List.getElem_eq_getD 0];rfl)
  ·rw[List.length_take]at hj;rw[td _ (by omega),td _ (by omega)];exact⟨_,_,hXW.v.seg i (by omega) j (by omega)⟩
 have hi6:(i:Int)<6:=by omega
 have hfc:(L.fan:Int)≤(c:Int):=by omega
 have H:=zx h;clear h h1 hrow hlr;generalize hbl:(G.bs i).length=n at *
 go_enter Tryz.func281,Tryz.ntmps281
 go_wp2_with fail
 go_quiet (fail)
 have HB1:=zx (hb1.trans ((yR _ nq).mono hb1.size));have HT0:Hid (((w.alloc (Obj.cells #[.int .i64 (i:Int), .int .i64 ((i:Int)+1)] 137)).drewN nq).heap[w.heap.size]? = some (Obj.cells #[.int .i64 (i:Int), .int .i64 ((i:Int)+1)] 137 (0,0))):=ht0;clear hb1 ht0 c8 cf t0 t1;generalize (w.alloc (Obj.cells #[.int .i64 (i:Int), .int .i64 ((i:Int)+1)] 137)).drewN nq=W1 at *
 go_upto_if 24 with(first
  | (go_at_call 308;refine(CK.out _ HB1.out).mono ?_;rintro e w2 ⟨v,m,rfl,hnd,hcur⟩;have HND:=zx hnd;have HCUR:=zx hcur;obtain⟨va,vc,rfl,_,_⟩:=zu hcur.2;clear hnd hcur))
 have hb2:=HB1.out.trans (HCUR.out.1.mono HB1.out.size);have ht2:=(HCUR.out.1.block w.heap.size (Mth.gI HT0.out)).trans HT0.out
 have HLX:Hid (∀j,((L.put (i+1) (L.left i m)).lev j).length≤(L.lev j).length+1):=by
  intro j;unfold Lg.put;simp only
  split <;> simp
 have hkl:(L.left i m).length≤1048576:=Nat.le_trans (List.length_filter_le _ _) hT
 have hkt:∀e∈L.left i m,e.text.size≤60:=fun e he=>by
  obtain⟨es,h1,h2⟩:=List.mem_flatten.1 (List.mem_filter.1 he).1;exact hx es (List.mem_of_mem_take h1) e h2
 have CS:Hid (∀W,Below w2.heap.size w2 W→Calls Tryz.prog 60 #[.slice va (L.left i m).length vc] W fun r w3=>∃s,r=.returned (zr s)∧w3.heap[w.heap.size]? = some (Obj.cells #[.int .i64 (i:Int), .int .i64 ((i:Int)+1)] 137 (0,0))∧∀W4,Below w3.heap.size w3 W4→Calls Tryz.prog 59 #[zr lb, .int .i64 ((i:Int)+1),zr s] W4 fun e w'=>e=.returned (.tuple #[])∧XStp w w' ρ B N lb G (L.put (i+1) (L.left i m))∧w'.heap[w.heap.size]? = some (Obj.cells #[.int .i64 (i:Int), .int .i64 ((i:Int)+1)] 137 (0,0))):=by
  intro W hW;have hbW:=hb2.trans (hW.mono hb2.size);have htW:=(hW.block w.heap.size (Mth.gI ht2)).trans ht2;refine(uj W B (Nat.le_trans hB hbW.size) (ht W (hbW.mono hB)) (vS (zn HCUR.out.2 (fun g q=>hW.block g (zw HCUR.out.2 q).2.1))) hkt hkl).mono ?_;rintro r w3 ⟨s,mb,ev,rfl,hn⟩;have htw:=(hn.bel.block w.heap.size (Mth.gI htW)).trans htW;refine⟨s,rfl,htw,fun W4 h4=>?_⟩;have:=cQ H.out hB hbW hn (i:=i+1) (by omega) (by have:=hl (i+1) (by omega);omega) (tb:=w.heap.size) (Nat.le_refl _) (Mth.gI htW) W4 h4;rw[show((i+1:Nat):Int)=(i:Int)+1 by omega]at this;refine this.mono ?_;rintro e w5 ⟨rfl,r1,r2⟩;exact⟨rfl,r1,r2.trans ((h4.block w.heap.size (Mth.gI htw)).trans htw)⟩
 go_cut [5] from 24 (fun _ wx=>XStp w wx ρ B N lb G (if L.left i m=[] then L else L.put (i+1) (L.left i m))∧wx.heap[w.heap.size]? = some (Obj.cells #[.int .i64 (i:Int), .int .i64 ((i:Int)+1)] 137 (0,0)))
 case first=>
  by_cases hK:L.left i m=[]
  ·have h0:decide (0<(L.left i m).length)=false:=by simp[hK]
   have HF:Hid (XStp w w2 ρ B N lb G (if L.left i m=[] then L else L.put (i+1) (L.left i m))∧w2.heap[w.heap.size]? = some (Obj.cells #[.int .i64 (i:Int), .int .i64 ((i:Int)+1)] 137 (0,0))):=⟨by rw[if_pos hK];exact XStp.of_below H.out hb2,ht2⟩;rw[h0];clear hK h0;go_wp2
   go_meet
   case rel=>exact HF.out
  ·have h0:decide (0<(L.left i m).length)=true:=decide_eq_true (List.length_pos_iff.2 hK);have HIF:Hid ((if L.left i m=[] then L else L.put (i+1) (L.left i m))=L.put (i+1) (L.left i m)):=if_neg hK;rw[h0];obtain⟨t1,_⟩:=zy (j:=1) (u:=.int .i64 ((i:Int)+1)) ht2 rfl;clear hK h0 hkt hkl HLX;go_wp2_with fail
   go_region_with (first
    | (go_at_call 60;refine(CS.out _ (by first|exact Below.refl _ _|exact yR _ 1|exact yR _ 2)).mono ?_;rintro r w3 ⟨s,rfl,htb3,hput⟩;obtain⟨t3,_⟩:=zy (j:=1) (u:=.int .i64 ((i:Int)+1)) htb3 rfl;have HPUT:=zx hput;clear hput htb3)
    | (go_at_call 59;refine(HPUT.out _ (by first|exact Below.refl _ _|exact yR _ 1|exact yR _ 2)).mono ?_;rintro r w4 ⟨rfl,r1,r2⟩;have R1:=zx r1;have R2:=zx r2;clear r1 r2))
   all_goals (
    go_wp2_with fail
    go_meet
    rw[HIF.out]
    exact⟨R1.out,R2.out⟩)
 case rest=>
  obtain⟨⟨⟨ρ1,G1,a1,a2,a3,a4,a5⟩⟩,htb⟩:=hcut;have HMRG:Hid (L.mrg i m=(if L.left i m=[] then L else L.put (i+1) (L.left i m)).cut i L.fan):=rfl;have HENDS:Hid (L.ends i m={ L.mrg i m with wks:=zO L.fan (fun j=>((L.mrg i m).lev j).length) L.wks 5 }):=rfl
  have hLX:((if L.left i m=[] then L else L.put (i+1) (L.left i m)).lev i).length=(L.lev i).length∧(∀j,((if L.left i m=[] then L else L.put (i+1) (L.left i m)).lev j).length≤(L.lev j).length+1)∧(if L.left i m=[] then L else L.put (i+1) (L.left i m)).fan=L.fan∧(if L.left i m=[] then L else L.put (i+1) (L.left i m)).wks=L.wks:=by
   by_cases hK:L.left i m=[]
   ·rw[if_pos hK];exact⟨rfl,fun j=>by omega,rfl,rfl⟩
   ·rw[if_neg hK];refine⟨?_,HLX.out,rfl,rfl⟩;unfold Lg.put;simp
  generalize (if L.left i m=[] then L else L.put (i+1) (L.left i m))=LX at *;obtain⟨l1,l2,l3,l4⟩:=hLX;have hrow:=a1.v.row i (by omega);have hlen1:=a1.v.len i (by omega);obtain⟨b5,c5,hlr5,hc5,hm5⟩:=zu hrow;rw[hlr5]at hrow;obtain⟨g5,rfl⟩:=zf hrow (by omega);obtain⟨d8,f8⟩:=zy (j:=8+i) (u:=G1.lr i) a1.b.blk (ut G1 LX i (by omega));rw[hlr5]at d8;obtain⟨t0,_⟩:=zy (j:=0) (u:=.int .i64 (i:Int)) htb rfl;have htbn:ρ1 w.heap.size=0∨True:=Or.inr trivial;have hBc:B≤wc.heap.size:=Nat.le_trans hB a3.tch.size
  have htg:g5≠w.heap.size:=fun e=>by
   obtain⟨_,_,D,hD⟩:=zw hrow (g:=g5) rfl;rw[e]at hD;exact yX htb hD (by decide) rfl
  have hlg:lb≠g5:=fun e=>by
   obtain⟨_,_,D,hD⟩:=zw hrow (g:=g5) rfl;rw[←e]at hD;exact yX a1.b.blk hD (by decide) rfl
  have htl:w.heap.size≠lb:=fun e=>by
   rw[e]at htb;exact yX htb a1.b.blk (by decide) rfl
  have CD:Hid (∀W,Below wc.heap.size wc W→Calls Tryz.prog 309 #[.slice (some ⟨g5,0,none⟩) (G1.bs i).length c5, .int .i64 0, .int .i64 (L.fan:Int)] W fun e w6=>e=.returned (.slice (some ⟨g5,0,none⟩) ((G1.bs i).length-L.fan) c5)∧(w6.cell? ⟨w.heap.size,0,none⟩=some (.int .i64 (i:Int))∧w6.cell? ⟨lb,8+i,none⟩=some (.slice (some ⟨g5,0,none⟩) (G1.bs i).length c5)∧w6.frozen? ⟨lb,8+i,none⟩=false∧(w6.setCell ⟨lb,8+i,none⟩ (.slice (some ⟨g5,0,none⟩) ((G1.bs i).length-L.fan) c5)).cell? ⟨w.heap.size,0,none⟩=some (.int .i64 (i:Int)))∧XStp w (w6.setCell ⟨lb,8+i,none⟩ (.slice (some ⟨g5,0,none⟩) ((G1.bs i).length-L.fan) c5)) ρ B N lb G (LX.cut i L.fan)):=by
   intro W hW;have hXW:=a1.below hW;have hrW:=hXW.v.row i (by omega);rw[hlr5]at hrW;have:=kZ hrW (by intro u hu;obtain⟨b,_,rfl⟩:=List.mem_map.1 hu;rfl) (i:=0) (j:=L.fan) (by omega) (by omega);rw[show((0:Nat):Int)=0 from rfl]at this;refine this.mono ?_;rintro e w6 ⟨rfl,ho,hg⟩;rw[Nat.sub_zero,Nat.zero_mul,Nat.mul_one,List.take_zero,List.nil_append,←List.map_drop]at ho
   have hkeep:∀k,k<W.heap.size→k≠g5→w6.heap[k]? = W.heap[k]? := fun k hk hne=>hg.block k hk (fun e=>hne (by injection e))
   have htw:=(hkeep w.heap.size (Nat.lt_of_lt_of_le (Mth.gI htb) hW.size) htg.symm).trans ((hW.block w.heap.size (Mth.gI htb)).trans htb);have hlw:=(hkeep lb (Mth.gI hXW.b.blk) hlg).trans hXW.b.blk;obtain⟨r1,r2,r3⟩:=hXW.cutFin (n:=L.fan) (W5:=w6) (v5:=.slice (some ⟨g5,0,none⟩) ((G1.bs i).length-L.fan) c5) (show i<6 by omega) (by rw[List.length_drop];exact ho) (by rw[hlr5];exact hg) (by rw[hlr5];rfl);refine⟨rfl,⟨(zy (j:=0) htw rfl).1,?_⟩,XStp.more a2 a3 a4 a5 (XStp.pre a1 hW ⟨⟨ρ1,_,r1,GK.cut,r2,fun _ _=>rfl,r3⟩⟩)⟩;have hcc:=zy (j:=8+i) (u:=G1.lr i) hlw (ut G1 LX i (by omega));rw[hlr5]at hcc;exact⟨hcc.1,hcc.2,(zy (j:=0) ((zt htl).trans htw) rfl).1⟩
  have CL:Hid (∀W,XStp w W ρ B N lb G (LX.cut i L.fan)→Calls Tryz.prog 61 #[zr lb] W fun e w'=>e=.returned (.tuple #[])∧XStp w w' ρ B N lb G (L.ends i m)):=by
   rintro W ⟨⟨ρ7,G7,b1,b2,b3,b4,b5⟩⟩;refine(uH b1 (Nat.le_trans hB b3.tch.size) (by show LX.fan≤4;omega) (fun j hj=>?_)).mono ?_
   ·have h1:=l2 j;have h2:=hl j hj;unfold Lg.cut;simp only;split
    ·rw[List.length_drop];omega
    ·omega
   ·rintro e w' ⟨rfl,hL⟩;refine⟨rfl,XStp.more b2 b3 b4 b5 ?_⟩;have:=hL.xstp;rw[HENDS.out,HMRG.out];have e1:(LX.cut i L.fan).fan=L.fan:=l3;have e2:(LX.cut i L.fan).wks=L.wks:=l4
    have e3:zO (LX.cut i L.fan).fan (fun j=>((LX.cut i L.fan).lev j).length) (LX.cut i L.fan).wks 5=zO L.fan (fun j=>((LX.cut i L.fan).lev j).length) L.wks 5:=by rw[e1,e2]
    rw[e3]at this;exact this
  clear hrow hlr5 a1 a2 a3 a4 a5 H CK CS HT0 HB1 HCUR hb2 ht2 hkl hkt HLX HMRG HENDS htb
  have hfn:L.fan≤(G1.bs i).length:=by omega
  clear hlen1 l1 l2 l3 l4 hlen hf hl hT hx ht;generalize hn5:(G1.bs i).length=n5 at *;clear hn5 hbl;go_wp2_with fail
  go_cut [5] from 31 (fun _ wx=>XStp w wx ρ B N lb G (LX.cut i L.fan))
  case first=>
   go_region_with (go_at_call 309;refine(CD.out _ (by first|exact yR _ 1|exact yR _ 2|exact Below.refl _ _)).mono ?_;rintro r w6 ⟨rfl,⟨k1,k2,k3,k4⟩,hX⟩;have HX:=zx hX;clear hX)
   all_goals (
    go_wp2_with fail
    go_meet
    exact HX.out)
  case rest=>
   have CL2:=zx (CL.out _ hcut);clear CL hcut
   go_wp2_with (first
    | (go_at_call 61;refine CL2.out.mono ?_;rintro e w8 ⟨rfl,hX⟩;have HX:=zx hX;clear hX))
   go_end0;exact⟨rfl,m,HND.out,HX.out⟩
theorem LogX.wkSet {w w':World}{ρ:Nat→Nat}{B N lb:Nat}{G:Gh}{L:Lg}(h:LogX w ρ B N lb G L) (hB:B≤w.heap.size){q:Nat}(hq:q<L.wks.length) (k':Wk) (hl:k'.list=(L.wks.getD q zo).list) (hr:∀y,k'.runs=some y→y≤4) (ht:Tch (fun g=>g=G.wb.getD q 0) w w')
  (hblk:w'.heap[G.wb.getD q 0]? = some (Obj.cells (mK lb (G.wb.getD q 0) k' (G.wl q)) 139 (0,0))):Laid w w' ρ B N lb G L (L.wks.set q k'):=by
 have hne:∀g,some g=(G.wl q).ownBlock→g≠G.wb.getD q 0:=fun g e e2=>by
  obtain⟨_,_,D,hD⟩:=zw (h.k.lst q hq) e;rw[e2]at hD;exact yX (h.k.one q hq) hD (by decide) rfl
 have hf:=h.wkFin (w':=w') hB hq k' (G.wl q) (ht.mono (fun k _ e=>Or.inl e)) hblk
  (by rw[hl];exact zn (h.k.lst q hq) (fun g e=>ht.block g (zw (h.k.lst q hq) e).2.1 (hne g e)))
  (fun g e=>Or.inl e)
  ⟨⟨by rw[hl];exact(h.k.ok q hq).1.1,hr⟩,by rw[hl];exact(h.k.ok q hq).2⟩
 obtain⟨ρ',r1,r2,r3,r4⟩:=hf;exact⟨⟨ρ',_,r1,r2,r3,r4⟩⟩
theorem nA {w:World}{ρ:Nat→Nat}{B N lb:Nat}{G:Gh}{L:Lg}(h:LogX w ρ B N lb G L) (hB:B≤w.heap.size){q:Nat}(hq:q<L.wks.length) (hr:(L.wks.getD q zo).read+1<L.fan) (hf4:L.fan≤4) :
  Calls Tryz.prog 258 #[zr (G.wb.getD q 0)] w fun e w'=>e=.returned (.int .i64 1)∧Laid w w' ρ B N lb G L (L.wks.set q ⟨(L.wks.getD q zo).list,(L.wks.getD q zo).runs,(L.wks.getD q zo).read+1⟩):=by
 have hblk:=h.k.one q hq;obtain⟨c4,f4⟩:=zA (j:=4) (u:=.int .i64 ((L.wks.getD q zo).read:Int)) hblk rfl;obtain⟨cf,_⟩:=zy (j:=1) (u:=.int .i64 (L.fan:Int)) h.b.blk rfl
 have hlb:lb≠G.wb.getD q 0:=fun e=>yX h.b.blk hblk (by decide) e
 have hsb:(w.setCell ⟨G.wb.getD q 0,4,none⟩ (.int .i64 (((L.wks.getD q zo).read:Int)+1))).heap[G.wb.getD q 0]? = some (Obj.cells (mK lb (G.wb.getD q 0) ⟨(L.wks.getD q zo).list,(L.wks.getD q zo).runs,(L.wks.getD q zo).read+1⟩ (G.wl q)) 139 (0,0)):=by rw[ze hblk];rfl
 obtain⟨e0,_⟩:=zA (j:=0) (u:=zr lb) hsb rfl;obtain⟨e4,_⟩:=zA (j:=4) (u:=.int .i64 (((L.wks.getD q zo).read+1:Nat):Int)) hsb rfl;have ef:(w.setCell ⟨G.wb.getD q 0,4,none⟩ (.int .i64 (((L.wks.getD q zo).read:Int)+1))).cell? ⟨lb,1,none⟩=some (.int .i64 (L.fan:Int)):=(zy (j:=1) ((zt hlb).trans h.b.blk) rfl).1
 have FIN:Hid (∀nq,Laid w ((w.setCell ⟨G.wb.getD q 0,4,none⟩ (.int .i64 (((L.wks.getD q zo).read:Int)+1))).drewN nq) ρ B N lb G L (L.wks.set q ⟨(L.wks.getD q zo).list,(L.wks.getD q zo).runs,(L.wks.getD q zo).read+1⟩)):=fun nq=>
  h.wkSet hB hq _ rfl (h.k.ok q hq).1.2 ⟨rfl,rfl,rfl,by simp,fun k _ e=>zt (w:=w) e⟩ hsb
 rw[show(((L.wks.getD q zo).read+1:Nat):Int)=((L.wks.getD q zo).read:Int)+1 by omega]at e4
 have hlt:((L.wks.getD q zo).read:Int)+1<(L.fan:Int):=by omega
 clear h hblk hsb;generalize L.wks.set q ⟨(L.wks.getD q zo).list,(L.wks.getD q zo).runs,(L.wks.getD q zo).read+1⟩=ks at *;generalize (L.wks.getD q zo).read=rd at *;generalize G.wb.getD q 0=b at *;generalize L.fan=fan at *;obtain⟨WA,hWA⟩:∃WA,WA=w.setCell ⟨b,4,none⟩ (.int .i64 ((rd:Int)+1)):=⟨_,rfl⟩
 go_enter Tryz.func258,Tryz.ntmps258
 go_wp2_with fail
 go_quiet (fail)
 go_wp2;go_ret;exact⟨rfl,FIN.out _⟩
theorem lU {w:World}{ρ:Nat→Nat}{B N lb:Nat}{G:Gh}{L:Lg}(h:LogX w ρ B N lb G L) (hB:B≤w.heap.size) (ht:TabB B w){q i:Nat}(hq:q<L.wks.length) (hru:(L.wks.getD q zo).runs=some i) (hr:L.fan≤(L.wks.getD q zo).read+1) (hrd:(L.wks.getD q zo).read≤100) (hf:L.fan≤(L.lev i).length) (hf1:1≤L.fan) (hf4:L.fan≤4) (hc:L.clock≤1000000000000) (hk:L.keep≤1000000)
  (hl:∀i,i<6→(L.lev i).length≤500000) (hT:((L.lev i).take L.fan).flatten.length≤1048576) (hx:∀es∈L.lev i,∀e∈es,e.text.size≤60) :
  Calls Tryz.prog 258 #[zr (G.wb.getD q 0)] w fun e w'=>e=.returned (.int .i64 2)∧∃m,Need L m∧XStp w w' ρ B N lb G (Lg.ends { L with wks:=L.wks.set q ⟨(L.wks.getD q zo).list,none,0⟩ } i m):=by
 obtain⟨EN,hEN⟩:∃EN:Nat→Lg,∀m,EN m=Lg.ends { L with wks:=L.wks.set q ⟨(L.wks.getD q zo).list,none,0⟩ } i m:=⟨_,fun _=>rfl⟩
 refine Calls.mono (R:=fun e w'=>e=.returned (.int .i64 2)∧∃m,Need L m∧XStp w w' ρ B N lb G (EN m)) ?_ (fun e w'=>by
  rintro ⟨h1,m,h2,h3⟩;rw[hEN]at h3
  exact⟨h1,m,h2,h3⟩)
 have hi4:i≤4:=(h.k.ok q hq).1.2 i hru;have hblk:=h.k.one q hq;obtain⟨c4,f4⟩:=zA (j:=4) (u:=.int .i64 ((L.wks.getD q zo).read:Int)) hblk rfl
 have hlb:lb≠G.wb.getD q 0:=fun e=>yX h.b.blk hblk (by decide) e
 have hbw:G.wb.getD q 0<w.heap.size:=(Mth.gI hblk)
 have hsb:(w.setCell ⟨G.wb.getD q 0,4,none⟩ (.int .i64 (((L.wks.getD q zo).read:Int)+1))).heap[G.wb.getD q 0]? = some (Obj.cells (mK lb (G.wb.getD q 0) ⟨(L.wks.getD q zo).list,(L.wks.getD q zo).runs,(L.wks.getD q zo).read+1⟩ (G.wl q)) 139 (0,0)):=by rw[ze hblk];rfl
 have ef:(w.setCell ⟨G.wb.getD q 0,4,none⟩ (.int .i64 (((L.wks.getD q zo).read:Int)+1))).heap[lb]? = some (Obj.cells (mJ G L) 134 (0,0)):=(zt hlb).trans h.b.blk
 have hsz:(w.setCell ⟨G.wb.getD q 0,4,none⟩ (.int .i64 (((L.wks.getD q zo).read:Int)+1))).heap.size=w.heap.size:=by simp
 obtain⟨WA,hWA⟩:∃WA,WA=w.setCell ⟨G.wb.getD q 0,4,none⟩ (.int .i64 (((L.wks.getD q zo).read:Int)+1)):=⟨_,rfl⟩;rw[←hWA]at hsb ef hsz
 have hoth:∀k,k≠G.wb.getD q 0→WA.heap[k]? = w.heap[k]? := fun k e=>by rw[hWA];exact zt e
 have htA:WA.os=w.os∧WA.tape=w.tape∧WA.output=w.output:=by rw[hWA];exact⟨rfl,rfl,rfl⟩
 have FIN:Hid (∀(nq:Nat) (WB:World),WB=(WA.drewN nq).alloc (Obj.cells #[.int .i64 (i:Int), .int .i64 ((i:Int)+1)] 137) →
   (∀j,WB.frozen? ⟨G.wb.getD q 0,j,none⟩=false)∧WB.cell? ⟨G.wb.getD q 0,2,none⟩=some (.int .i64 (i:Int))∧WB.cell? ⟨G.wb.getD q 0,3,none⟩=some (.int .i64 ((i:Int)+1))∧WB.cell? ⟨G.wb.getD q 0,4,none⟩=some (.int .i64 (((L.wks.getD q zo).read:Int)+1))∧WB.cell? ⟨G.wb.getD q 0,5,none⟩=some (au (G.wb.getD q 0) (some i)) ∧
   ∀WC,WC=(((WB.setCell ⟨G.wb.getD q 0,2,none⟩ (.int .i64 0)).setCell ⟨G.wb.getD q 0,3,none⟩ (.int .i64 0)).setCell ⟨G.wb.getD q 0,4,none⟩ (.int .i64 0)).setCell ⟨G.wb.getD q 0,5,none⟩ (au (G.wb.getD q 0) none) →
    WC.cell? ⟨G.wb.getD q 0,0,none⟩=some (zr lb)∧WC.cell? ⟨w.heap.size,0,none⟩=some (.int .i64 (i:Int))∧WC.cell? ⟨w.heap.size,1,none⟩=some (.int .i64 ((i:Int)+1)) ∧
    ∀W,Below WC.heap.size WC W→Calls Tryz.prog 281 #[zr lb,ol i] W fun e w'=>e=.returned (.tuple #[])∧∃m,Need L m∧XStp w w' ρ B N lb G (EN m)):=by
  rintro nq WB hWB
  have hbB:Below WA.heap.size WA WB:=by rw[hWB];exact(yR WA nq).trans ((zv _ _).mono (yR WA nq).size)
  have hn0:WB.heap[w.heap.size]? = some (Obj.cells #[.int .i64 (i:Int), .int .i64 ((i:Int)+1)] 137 (0,0)):=by
   have:=zj (WA.drewN nq) #[.int .i64 (i:Int), .int .i64 ((i:Int)+1)] 137;rw[show(WA.drewN nq).heap.size=w.heap.size from hsz]at this;rw[hWB];exact this
  have hkB:=(hbB.block (G.wb.getD q 0) (by omega)).trans hsb;rw[hru]at hkB;refine⟨fun j=>?_,(zA (j:=2) hkB rfl).1,(zA (j:=3) hkB rfl).1,?_,(zA (j:=5) hkB rfl).1,?_⟩
  ·simp only[World.frozen?];rw[hkB];simp
  ·have:=(zA (j:=4) (u:=.int .i64 (((L.wks.getD q zo).read+1:Nat):Int)) hkB rfl).1;rw[show(((L.wks.getD q zo).read+1:Nat):Int)=((L.wks.getD q zo).read:Int)+1 by omega]at this;exact this
  ·rintro WC hWC
   have hkC:WC.heap[G.wb.getD q 0]? = some (Obj.cells (mK lb (G.wb.getD q 0) ⟨(L.wks.getD q zo).list,none,0⟩ (G.wl q)) 139 (0,0)):=by
    rw[hWC,ze (ze (ze (ze hkB)))];rfl
   have kL:∀k,k≠G.wb.getD q 0→WC.heap[k]? = WB.heap[k]? := fun k e=>by rw[hWC,zt e,zt e,zt e,zt e]
   have hszC:WC.heap.size=WB.heap.size:=by rw[hWC];simp
   have hnC:=(kL w.heap.size (by omega)).trans hn0;have hLd:Laid w WC ρ B N lb G L (L.wks.set q ⟨(L.wks.getD q zo).list,none,0⟩):=h.wkSet hB hq ⟨(L.wks.getD q zo).list,none,0⟩ rfl (fun y e=>by cases e) ⟨by rw[hWC];exact hbB.os.trans htA.1,by rw[hWC];exact hbB.tape.trans htA.2.1,by rw[hWC];exact hbB.output.trans htA.2.2,by rw[hszC];have:=hbB.size;omega,fun k hk e=>(kL k e).trans ((hbB.block k (by omega)).trans (hoth k e))⟩ hkC;refine⟨(zA (j:=0) hkC rfl).1,(zy (j:=0) hnC rfl).1,(zy (j:=1) hnC rfl).1,fun W hW=>?_⟩;obtain⟨⟨ρ1,G1,a1,a2,a3,a4,a5⟩⟩:=hLd.xstp;have hzW:w.heap.size≤W.heap.size:=Nat.le_trans a3.tch.size hW.size;have hBW:Below B w W:=zP ((rp (Below.refl B w) a3 h.lt hB)) (zH hW:Tch (fun _=>False) WC W) (fun k q=>q.elim) (Nat.le_trans hB a3.tch.size);refine(bp (L:={ L with wks:=L.wks.set q ⟨(L.wks.getD q zo).list,none,0⟩ }) (a1.below hW) (Nat.le_trans hB hzW) (ht.next hBW) hi4 hf hf1 hf4 hc hk hl hT hx).mono ?_;rintro e w' ⟨rfl,m,hm,hX⟩;exact⟨rfl,m,hm,by rw[hEN];exact XStp.more a2 a3 a4 a5 (XStp.pre a1 hW hX)⟩
 rw[hru]at hsb;obtain⟨e0,_⟩:=zA (j:=0) (u:=zr lb) hsb rfl;obtain⟨e2,_⟩:=zA (j:=2) (u:=.int .i64 (i:Int)) hsb rfl;obtain⟨e3,_⟩:=zA (j:=3) (u:=.int .i64 ((i:Int)+1)) hsb rfl;obtain⟨e4,_⟩:=zA (j:=4) (u:=.int .i64 (((L.wks.getD q zo).read+1:Nat):Int)) hsb rfl;obtain⟨ef,_⟩:=zy (j:=1) (u:=.int .i64 (L.fan:Int)) ef rfl;rw[show(((L.wks.getD q zo).read+1:Nat):Int)=((L.wks.getD q zo).read:Int)+1 by omega]at e4
 have hlt:¬((L.wks.getD q zo).read:Int)+1<(L.fan:Int):=by omega
 clear h hblk hsb hf hr hT hx hl hru hoth htA hEN;have hrd':=hrd;generalize (L.wks.getD q zo).read=rd at *;generalize G.wb.getD q 0=b at *;generalize L.fan=fan at *;have HWA:=zx hWA;clear hWA
 go_enter Tryz.func258,Tryz.ntmps258
 go_wp2_with fail;rw[←HWA.out]
 go_quiet (fail)
 have hdec:decide ((rd:Int)+1<(fan:Int))=false:=decide_eq_false (by omega);rw[hdec];clear hdec
 go_upto_region 5 with fail
 obtain⟨WB,hWB⟩:∃WB,WB=(WA.drewN nq).alloc (Obj.cells #[.int .i64 (i:Int), .int .i64 ((i:Int)+1)] 137):=⟨_,rfl⟩;rw[←hWB];obtain⟨kf,k2,k3,k4,k5,hC⟩:=FIN.out nq WB hWB;have HWC:=zx hC;have f2:=kf 2;have f3:=kf 3;have f4:=kf 4;have f5:=kf 5;clear hC kf FIN hWB e0 e2 e3 e4 ef c4 HWA;go_wp2_with fail;obtain⟨WC,hWC⟩:∃WC,WC=(((WB.setCell ⟨b,2,none⟩ (.int .i64 0)).setCell ⟨b,3,none⟩ (.int .i64 0)).setCell ⟨b,4,none⟩ (.int .i64 0)).setCell ⟨b,5,none⟩ (.func (.func 215) #[zr b] #[]):=⟨_,rfl⟩;rw[←hWC];obtain⟨d0,d1,d2,hE⟩:=HWC.out WC hWC;have HE:=zx hE;clear hE hWC HWC k2 k3 k4 k5 f2 f3 f4 f5
 go_region_with (go_at_call 281;refine(HE.out _ (by first|exact yR _ 1|exact yR _ 2|exact Below.refl _ _)).mono ?_;rintro r w6 ⟨rfl,m,hm,hX⟩;have HM:=zx hm;have HX:=zx hX;clear hX hm)
 all_goals (
  go_wp2;go_ret
  exact⟨rfl,m,HM.out,HX.out⟩)
theorem yn (n a b:Int) (w:World):Calls Tryz.prog 53 #[.int .i64 n, .int .i64 a, .int .i64 b] w fun e w'=>e=.returned (.bool (decide (a≤n∧n≤b)))∧w'=w:=by
 by_cases h1:a≤n <;> by_cases h2:n≤b
 all_goals (
  go_enter Tryz.func53,Tryz.ntmps53
  go_wp2;go_ret
  exact⟨by simp[h1,h2],rfl⟩)
def StepR (L:Lg) (q:Nat) (r:Int) (L':Lg):Prop:=
 match (L.wks.getD q zo).runs with
 | none=>
  if 0<(L.wks.getD q zo).list.length then
   r=1∧L'={ L with wks:=(xX L.wks q ((L.wks.getD q zo).list.length-1)).set q ⟨((xX L.wks q ((L.wks.getD q zo).list.length-1)).getD q zo).list,some ((L.wks.getD q zo).list.getD ((L.wks.getD q zo).list.length-1) 0),((xX L.wks q ((L.wks.getD q zo).list.length-1)).getD q zo).read⟩ }
  else if (L.wks.getD (xL L.wks L.wks.length) zo).list.length=0 then r=0∧L'=L
  else r=1∧L'={ L with wks:=(xX L.wks (xL L.wks L.wks.length) 0).set q ⟨((xX L.wks (xL L.wks L.wks.length) 0).getD q zo).list,some ((L.wks.getD (xL L.wks L.wks.length) zo).list.getD 0 0),((xX L.wks (xL L.wks L.wks.length) 0).getD q zo).read⟩ }
 | some i=>
  if (L.wks.getD q zo).read+1<L.fan then r=1∧L'={ L with wks:=L.wks.set q ⟨(L.wks.getD q zo).list,some i,(L.wks.getD q zo).read+1⟩ }
  else r=2∧∃m,Need L m∧L'=Lg.ends { L with wks:=L.wks.set q ⟨(L.wks.getD q zo).list,none,0⟩ } i m
theorem ye (ks:List Wk) (q i:Nat):(xX ks q i).length=ks.length:=by simp[xX]
theorem eJ {w:World}{ρ:Nat→Nat}{B N lb:Nat}{G:Gh}{L:Lg}(h:LogX w ρ B N lb G L) (hB:B≤w.heap.size) (ht:TabB B w){q:Nat}(hq:q<L.wks.length) (hru:∀i,(L.wks.getD q zo).runs=some i→L.fan≤(L.lev i).length∧(L.wks.getD q zo).read≤100∧((L.lev i).take L.fan).flatten.length≤1048576∧∀es∈L.lev i,∀e∈es,e.text.size≤60) (hf1:1≤L.fan) (hf4:L.fan≤4) (hc:L.clock≤1000000000000) (hk:L.keep≤1000000) (hl:∀i,i<6→(L.lev i).length≤500000) :
  ∃f,au (G.wb.getD q 0) (L.wks.getD q zo).runs=.func (.func f) #[zr (G.wb.getD q 0)] #[]∧(f=215∨f=258)∧Calls Tryz.prog f #[zr (G.wb.getD q 0)] w fun e w'=>∃r L',e=.returned (.int .i64 r)∧StepR L q r L'∧XStp w w' ρ B N lb G L':=by
 cases hr:(L.wks.getD q zo).runs with
 | none=>
  refine⟨_,rfl,Or.inl rfl,?_⟩;by_cases h0:0<(L.wks.getD q zo).list.length
  ·have hx4:(L.wks.getD q zo).list.getD ((L.wks.getD q zo).list.length-1) 0≤4:=(h.k.ok q hq).1.1 _ (yI (by omega));refine(qk hB (by rw[ye];exact hq) hx4 (fK h hB hq h0)).mono ?_;rintro e w' ⟨rfl,hL⟩;refine⟨1,_,rfl,?_,hL.xstp⟩;unfold StepR;rw[hr];simp only;rw[if_pos h0];exact⟨by trivial,by trivial⟩
  ·by_cases ho:(L.wks.getD (xL L.wks L.wks.length) zo).list.length=0
   ·refine(iW (jC h hq (by omega) rfl ho)).mono ?_;rintro e w' ⟨rfl,hb⟩;refine⟨0,_,rfl,?_,XStp.of_below h hb⟩;unfold StepR;rw[hr];simp only;rw[if_neg h0,if_pos ho];exact⟨by trivial,by trivial⟩
   ·have ho2:xL L.wks L.wks.length<L.wks.length:=vo _ _ h.k.few.1;have hx4:(L.wks.getD (xL L.wks L.wks.length) zo).list.getD 0 0≤4:=(h.k.ok _ ho2).1.1 _ (yI (by omega));refine(qk hB (by rw[ye];exact hq) hx4 (lX h hB hq (by omega) rfl (by omega))).mono ?_;rintro e w' ⟨rfl,hL⟩;refine⟨1,_,rfl,?_,hL.xstp⟩;unfold StepR;rw[hr];simp only;rw[if_neg h0,if_neg ho];exact⟨by trivial,by trivial⟩
 | some i=>
  refine⟨_,rfl,Or.inr rfl,?_⟩;by_cases h0:(L.wks.getD q zo).read+1<L.fan
  ·refine(nA h hB hq h0 hf4).mono ?_;rintro e w' ⟨rfl,hL⟩;refine⟨1,_,rfl,?_,hL.xstp⟩;unfold StepR;rw[hr];simp only;rw[if_pos h0];exact⟨by trivial,by trivial⟩
  ·obtain⟨a1,a2,a3,a4⟩:=hru i hr;refine(lU h hB ht hq hr (by omega) a2 a1 hf1 hf4 hc hk hl a3 a4).mono ?_;rintro e w' ⟨rfl,m,hm,hX⟩;refine⟨2,_,rfl,?_,hX⟩;unfold StepR;rw[hr];simp only;rw[if_neg h0];exact⟨by trivial,m,hm,rfl⟩
theorem ez {w:World}{ρ:Nat→Nat}{B N lb:Nat}{G:Gh}{L:Lg}(h:LogX w ρ B N lb G L) (hB:B≤w.heap.size) (ht:TabB B w){q:Nat}(hq:q<L.wks.length) (hru:∀i,(L.wks.getD q zo).runs=some i→L.fan≤(L.lev i).length∧(L.wks.getD q zo).read≤100∧((L.lev i).take L.fan).flatten.length≤1048576∧∀es∈L.lev i,∀e∈es,e.text.size≤60) (hf1:1≤L.fan) (hf4:L.fan≤4) (hc:L.clock≤1000000000000) (hk:L.keep≤1000000) (hl:∀i,i<6→(L.lev i).length≤500000) :
  Calls Tryz.prog 23 #[zr lb, .int .i64 (q:Int)] w fun e w'=>∃r L',e=.returned (.tuple #[.int .i64 r, .int .i64 0])∧StepR L q r L'∧XStp w w' ρ B N lb G L':=by
 obtain⟨f,hf,hff,CN⟩:=eJ h hB ht hq hru hf1 hf4 hc hk hl;have HCN:=zx CN;obtain⟨c14,_⟩:=zy (j:=14) (u:=G.wr) h.b.blk rfl;obtain⟨a,c,hwr,hcc,hm⟩:=zu h.k.row;have hrow:=h.k.row;rw[hwr]at c14 hrow;obtain⟨g,rfl⟩:=zf hrow (by rw[h.k.len];exact h.k.few.1);have hcell:w.cell? ⟨g,q,none⟩=some (zr (G.wb.getD q 0)):=zg hrow (by rw[List.getElem?_map,List.getElem?_eq_getElem (by rw[h.k.len];exact hq),List.getElem_eq_getD 0];rfl);obtain⟨c5,_⟩:=zA (j:=5) (u:=au (G.wb.getD q 0) (L.wks.getD q zo).runs) (h.k.one q hq) rfl;rw[hf]at c5;have CI:=zx (yn (q:Int) 0 ((G.wb.length:Int)-1) w);have hfew:=h.k.few.2;have hln:=h.k.len;rw[decide_eq_true (show(0:Int)≤(q:Int)∧(q:Int)≤(G.wb.length:Int)-1 by omega)]at CI
 have hqn:q<G.wb.length:=by omega
 unfold maxLen at hm
 have hnn:G.wb.length≤4:=by omega
 clear h CN hf hwr hrow hru hl hln hfew hq;generalize G.wb.getD q 0=b at *;generalize G.wb.length=n at *
 rcases hff with rfl|rfl
 ·go_enter Tryz.func23,Tryz.ntmps23
  go_wp2_with (first
   | (go_at_call 53;refine CI.out.mono ?_;rintro e w1 ⟨rfl,hw1⟩;subst hw1)
   | (go_at_call 215;refine HCN.out.mono ?_;rintro e w2 ⟨r,L2,rfl,hs,hX⟩;have HS:=zx hs;have HX:=zx hX;clear hs hX))
  go_ret2;exact⟨r,L2,rfl,HS.out,HX.out⟩
 ·go_enter Tryz.func23,Tryz.ntmps23
  go_wp2_with (first
   | (go_at_call 53;refine CI.out.mono ?_;rintro e w1 ⟨rfl,hw1⟩;subst hw1)
   | (go_at_call 258;refine HCN.out.mono ?_;rintro e w2 ⟨r,L2,rfl,hs,hX⟩;have HS:=zx hs;have HX:=zx hX;clear hs hX))
  go_ret2;exact⟨r,L2,rfl,HS.out,HX.out⟩
abbrev zTl:Value:=.agg #[.string ⟨#[]⟩, .int .i64 0]
theorem Tryz.zeroValue193 (w:World):(zeroValue 193).run Tryz.prog w=.ok zTl w:=by
 have h:(Tryz.prog.info? 193).map (fun i=>i.zero)=some (some zTl):=by kernel_rfl
 cases h':Tryz.prog.info? 193 with
 | none=>rw[h']at h;cases h
 | some i=>
  rw[h']at h;simp at h;simp[zeroValue,typeInfo,h',h]
def tC (x:Int):Prop:=(Lit.int .i64 x).wf=true
theorem gj {x:Int}(hw:tC x):keyOf Tryz.prog 3 (.int .i64 x)=some (.int .i64 x):=Maps.keyOf_int_mk Tryz.underlying3 hw
theorem p9 {x y:Int}(h:x≠y):(Lit.int .i64 x)≠.int .i64 y:=fun q=>h (by injection q)
def jQ (o:Option (ByteArray × Nat)):Value:=match o with|some p=>kN p|none=>zTl
theorem TlsAt.look {w:World}{tm N:Nat}{tls:Int→Option (ByteArray × Nat)}{tn:Nat}(h:TlsAt w tm N tls tn){x:Int}(hw:tC x) :
  (Instr.lookup 132 (.map (some tm)) (.int .i64 x) true).run Tryz.prog w=.ok (.tuple #[jQ (tls x), .bool (tls x).isSome]) w:=by
 obtain⟨D,n,hm,hn,hs,hD⟩:=h;obtain⟨v,ps,hr,hv⟩:=hm.look_ok (Maps.int_keyed Tryz.underlying3) Tryz.underlying132 (Tryz.zeroValue193 w) (zd:=zT) (zp:=[]) rfl (gj hw);have h1:=pZ hv
 have e:v=jQ (tls x):=by
  cases ht:tls x with
  | none=>
   have h2:=(hD x).1;rw[ht]at h2;rw[Maps.atKey_of_not_has h2]at h1;exact(DataW.held.inj h1).symm
  | some p=>
   rw[(hD x).2 p ht]at h1;exact(DataW.held.inj h1).symm
 rw[hr,(hD x).1,e]
theorem TlsAt.len {w:World}{tm N:Nat}{tls:Int→Option (ByteArray × Nat)}{tn:Nat}(h:TlsAt w tm N tls tn) (ty:TypeId):(Builtin.len_ #[132] ty #[.map (some tm)]).run Tryz.prog w=.ok (.int .i64 (tn:Int)) w:=by
 obtain⟨D,n,hm,hn,hs,hD⟩:=h;rw[hm.len Tryz.underlying132 ty,hs]
theorem TlsAt.put {w:World}{tm N:Nat}{tls:Int→Option (ByteArray × Nat)}{tn:Nat}(h:TlsAt w tm N tls tn){x:Int}(hw:tC x) (hN:N<maxLen) (p:ByteArray × Nat) :
  ∃w',(Instr.mapUpdate 132 (.map (some tm)) (.int .i64 x) (kN p)).run Tryz.prog w=.ok () w'∧TlsAt w' tm (N+1) (fun y=>if y=x then some p else tls y) (if (tls x).isSome then tn else tn+1)∧w.grownBy w' (some tm):=by
 obtain⟨D,n,hm,hn,hs,hD⟩:=h;obtain⟨w',hr,ho,hg⟩:=hm.update (Maps.int_keyed Tryz.underlying3) Tryz.underlying132 (Nat.lt_of_le_of_lt hn hN) (val:=kN p) (d:=.held (kN p)) (ps:=[]) (gj hw) rfl;refine⟨w',hr,⟨_,n+1,ho,by omega,?_,fun y=>?_⟩,hg⟩
 ·rw[Maps.size_put (hm.tidy (Maps.int_keyed Tryz.underlying3)),(hD x).1,hs]
 ·by_cases hy:y=x
  ·subst hy;simp only[if_pos];refine⟨Maps.has_put_same hm.isMap (Maps.int_keyed Tryz.underlying3 |>.key (gj hw)) _,fun p' e=>?_⟩;rw[←Option.some.inj e];exact Maps.atKey_put_same hm.isMap (Maps.int_keyed Tryz.underlying3 |>.key (gj hw)) _ _
  ·simp only[if_neg hy];refine⟨by rw[Maps.has_put_other (p9 hy)];exact(hD y).1,fun p' e=>?_⟩;rw[Maps.atKey_put_other (p9 hy)];exact(hD y).2 p' e
theorem TlsAt.del {w:World}{tm N:Nat}{tls:Int→Option (ByteArray × Nat)}{tn:Nat}(h:TlsAt w tm N tls tn){x:Int}(hw:tC x) (ty:TypeId) :
  ∃w',(Builtin.delete_ #[132,3] ty #[.map (some tm), .int .i64 x]).run Tryz.prog w=.ok (.tuple #[]) w'∧TlsAt w' tm N (fun y=>if y=x then none else tls y) (if (tls x).isSome then tn-1 else tn)∧w.grownBy w' (some tm):=by
 obtain⟨D,n,hm,hn,hs,hD⟩:=h;obtain⟨w',hr,ho,hg⟩:=hm.drop (Maps.int_keyed Tryz.underlying3) Tryz.underlying132 (gj hw) ty;refine⟨w',hr,⟨_,n,ho,hn,?_,fun y=>?_⟩,hg.grown⟩
 ·have:=Maps.size_del (k:=.int .i64 x) (hm.tidy (Maps.int_keyed Tryz.underlying3));rw[(hD x).1,hs]at this;split
  ·rename_i h1
   rw[if_pos h1]at this;omega
  ·rename_i h1
   rw[if_neg h1]at this;omega
 ·by_cases hy:y=x
  ·subst hy;simp only[if_pos];exact⟨Maps.has_del_same,fun p' e=>by cases e⟩
  ·simp only[if_neg hy];refine⟨by rw[Maps.has_del_other (p9 hy)];exact(hD y).1,fun p' e=>?_⟩;rw[Maps.atKey_del_other (p9 hy)];exact(hD y).2 p' e
theorem LogX.tStep {w w':World}{ρ:Nat→Nat}{B N N' lb:Nat}{G:Gh}{L:Lg}(h:LogX w ρ B N lb G L) (hg:w.grownBy w' (some G.tm)){tls':Int→Option (ByteArray × Nat)}{tn':Nat}(ht:TlsAt w' G.tm N' tls' tn') :
  LogX w' ρ B N' lb G { L with tls:=tls',tn:=tn' }∧LStp w w' ρ ρ∧Same w w' ρ (fun c=>c=3):=by
 have htc:Tch (fun k=>k=G.tm) w w':=⟨hg.os,hg.tape,hg.output,hg.size,fun k hk q=>hg.block k hk (fun e=>q (by injection e))⟩
 have hnn:¬wM w G.tm:=fun⟨C,fr,q⟩=>by
  obtain⟨D,n,⟨es,c,hb,_⟩,_⟩:=h.t.map;rw[hb]at q;cases q
 have hS:∀k,k=G.tm→ρ k=6∧¬wM w k:=fun k e=>by rw[e];exact⟨h.t.rl,hnn⟩
 have hs:=h.others htc hS;have xb:=h.b.same (hs _ (by omega) (by omega));have xj:=h.j.same (hs _ (by omega) (by omega));have xv:=h.v.same (hs _ (by omega) (by omega));have xk:=h.k.same (hs _ (by omega) (by omega));refine⟨⟨⟨xb.blk,xb.rl⟩,⟨xj.j,xj.rl⟩,⟨xv.row,xv.len,xv.seg,xv.rr,xv.rs⟩,⟨xk.row,xk.len,xk.one,xk.lst,xk.ok,xk.few,xk.ge,xk.rw,xk.rb,xk.rl⟩,⟨ht,h.t.rl,h.t.ge⟩,fun k q=>⟨Nat.lt_of_lt_of_le (h.lt k q).1 hg.size,(h.lt k q).2⟩⟩,⟨htc.mono (fun k _ q=>⟨by rw[(hS k q).1];omega,(hS k q).2⟩),fun _ _ q=>q⟩,hs _ (by omega) (by omega)⟩
end Go.Proofs.YtkncboinfcnklaaGreatDoor
