import Derived.Test.YtkncboinfcnklaaGreatDoorQ35
import Derived.Test.YtkncboinfcnklaaGreatDoorQ21
import Derived.Test.YtkncboinfcnklaaGreatDoorQ34
import Derived.Test.YtkncboinfcnklaaGreatDoorQ28
set_option maxRecDepth 100000
set_option maxHeartbeats 8000000
namespace Go.Proofs.YtkncboinfcnklaaGreatDoor.Rl
open Go.RowKit Go.Deep Go.Shelf Go.Proofs.YtkncboinfcnklaaGreatDoor.Mth Go.Proofs.YtkncboinfcnklaaGreatDoor.Kp
theorem Tryz.infoShR:(Tryz.prog.info? 142).map (fun i=>(i.zero,i.size,i.bytes))=some (some (.agg #[.int .i64 0, .int .i64 0, .int .i64 0]),3,24):=by kernel_rfl
theorem Tryz.infoShRs:(Tryz.prog.info? 75).map (fun i=>(i.zero,i.size,i.bytes))=some (some (.slice none 0 0),1,24):=by kernel_rfl
structure ShI (w wr:World) (k:Nat) (L:Lg) (v:Value) (us:Nat→Value):Prop where
 bel:Below w.heap.size w wr
 row:wr.ownsRow w.heap.size 75 1 v k ((List.range k).map us)
 one:∀j,j<k→wr.ownsRow w.heap.size 142 3 (us j) (L.lev j).length ((L.lev j).flatMap ud)
theorem ShI.next {w wo wr W5:World}{k:Nat}{L:Lg}{v v2 v5:Value}{us:Nat→Value}(h:ShI w wo k L v us) (hb:Below wo.heap.size wo wr) (o2:wr.ownsRow wo.heap.size 142 3 v2 (L.lev k).length ((L.lev k).flatMap ud)) (g5:(wr.alloc (Obj.cells #[v2] 75)).grownBy W5 v.ownBlock)
  (o5:W5.ownsRow w.heap.size 75 1 v5 (k+1) ((List.range k).map us++[v2])):ShI w W5 (k+1) L v5 (fun j=>if j=k then v2 else us j):=by
 have t5:=yl g5;have hrow:=zq h.row hb;have hs:=h.bel.size
 have kp:∀ {B:Nat}{u:Value}{n:Nat}{xs:List Value},wr.ownsRow B 142 3 u n xs→W5.ownsRow B 142 3 u n xs:=fun ho=>xK ho t5 (fun g hg=>yr ho hrow (by decide) g hg)
 refine⟨zP (h.bel.trans (hb.mono hs)) t5 (fun g q=>(zw hrow q).1) (Nat.le_trans hs hb.size),?_,fun j hj=>?_⟩
 ·have hm:(List.range (k+1)).map (fun j=>if j=k then v2 else us j)=(List.range k).map us++[v2]:=by
   rw[List.range_succ,List.map_append];congr 1
   ·exact List.map_congr_left (fun j hj=>by have:=List.mem_range.1 hj;rw[if_neg (by omega)])
   ·simp
  rw[hm];exact o5
 ·by_cases e:j=k
  ·subst e;simp only[if_pos];exact zW (kp o2) hs
  ·simp only[if_neg e];exact kp (zq (h.one j (by omega)) hb)
theorem nF {Z:Nat→Prop}{w:World}{B cb:Nat}{V:Rv}{L:Lg}{all:List Ent}{ts:List Tl}(hb:w.heap[cb]? = some (Obj.cells (zR V L) 234 (0,0))) (h:RfV Z B w V L all ts) (hne:∀i,i<6→∀j,j<(L.lev i).length→0<((L.lev i).getD j []).length∧((L.lev i).getD j []).length≤1048576) (hl:∀i,i<6→(L.lev i).length≤500000) :
  Calls Tryz.prog 208 #[zr cb] w fun e w'=>∃v us,e=.returned v∧ShI w w' 6 L v us:=by
 obtain⟨i0,hi0,hz0,hz1,hz2⟩:=info_parts Tryz.infoShR;obtain⟨j0,hj0,hk0,hk1,hk2⟩:=info_parts Tryz.infoShRs;have hcb:cb<w.heap.size:=(Mth.gI hb)
 have F7:Hid (∀W k,Below w.heap.size w W→k<6→∃a c,W.cell? ⟨cb,9+k,none⟩=some (.slice a (L.lev k).length c)∧(L.lev k).length≤c∧c≤maxLen∧W.ownsRow B 57 1 (.slice a (L.lev k).length c) (L.lev k).length ((List.range (L.lev k).length).map (V.sv k))):=fun W k hW hk=>by
  have hbw:=(hW.block cb hcb).trans hb;have h1:=(zy hbw (xE V L hk)).1;obtain⟨a,c,e,h2,h3⟩:=zu (h.lev k hk);have h4:=h.lev k hk;rw[e]at h1 h4;exact⟨a,c,h1,h2,h3,zq h4 hW⟩
 have FS:Hid (∀i,i<6→∀k,k<(L.lev i).length→(∃a c,V.sv i k=.slice a ((L.lev i).getD k []).length c∧((L.lev i).getD k []).length≤c∧c≤maxLen)∧w.ownsRow 0 66 3 (V.sv i k) ((L.lev i).getD k []).length (((L.lev i).getD k []).flatMap eC)∧((List.range (L.lev i).length).map (V.sv i))[k]? = some (V.sv i k)):=fun i hi k hk=>by
  have h1:=h.seg i hi k hk;obtain⟨a,c,e1,e2,e3⟩:=zu h1;exact⟨⟨a,c,e1,e2,e3⟩,h1,by rw[List.getElem?_map,List.getElem?_range hk];rfl⟩
 have HNE:=zx hne;have HL:=zx hl;clear hb h hne hl
 go_enter Tryz.func208,Tryz.ntmps208
 go_wp2_with fail
 go_loopw [3,4] (fun v x wr=>∃k:Nat,k≤6∧x=.int .i64 k∧∃us,ShI w wr k L v us) (fun _ x _=>6-(intOf x).toNat)
 case atStart=>exact⟨0,by omega,rfl,fun _=>.slice none 0 0,Below.refl _ _,World.ownsRow_nil _ _ _ _,fun j hj=>absurd hj (Nat.not_lt_zero _)⟩
 case round=>
  obtain⟨k,hk,rfl,us,hsh⟩:=hrel;have HSH:=zx hsh;by_cases hlt:k<6
  ·have hlk:=HL.out k hlt;have HNK:=zx (HNE.out k hlt);have HSK:=zx (FS.out k hlt)
   have hki:(k:Int)<6:=by omega
   obtain⟨va,vc,rfl,hvc,hvm⟩:=zu hsh.row;have HBO:=zx hsh.bel;unfold maxLen at hvm
   have HNX:Hid (∀wq W5 v2 v5,Below wr.heap.size wr wq→wq.ownsRow wr.heap.size 142 3 v2 (L.lev k).length ((L.lev k).flatMap ud)→(wq.alloc (Obj.cells #[v2] 75)).grownBy W5 (Value.slice va k vc).ownBlock→W5.ownsRow w.heap.size 75 1 v5 (k+1) ((List.range k).map us++[v2])→∃us',ShI w W5 (k+1) L v5 us'):=fun wq W5 v2 v5 b2 o2 g5 o5=>⟨_,HSH.out.next b2 o2 g5 o5⟩
   have HRW:Hid (∀wq,Below wr.heap.size wr wq→wq.ownsRow w.heap.size 75 1 (.slice va k vc) k ((List.range k).map us)):=fun wq b2=>zq HSH.out.row b2
   have HF7:Hid (∀W,Below wr.heap.size wr W→_):=fun W hW=>F7.out W k (HBO.out.trans (hW.mono HBO.out.size)) hlt
   have hws:=hsh.bel.size;generalize hxu:(List.range k).map us=xu at *;generalize hls:L.lev k=ls at *
   have HFL:Hid (∀q,q<ls.length→(ls.take (q+1)).flatMap ud=(ls.take q).flatMap ud++ud (ls.getD q [])):=fun q hq=>by
    rw[zG hq [],List.flatMap_append];simp
   generalize hnl:ls.length=nl at *;have HNL:=zx hnl;clear hsh hxu hls hnl;go_wp2_with fail;obtain⟨wo,rfl⟩:∃wo,wo=wr:=⟨_,rfl⟩
   go_loopw [5,6] (fun v2 x wr=>∃q:Nat,q≤nl∧x=.int .i64 q∧Below wo.heap.size wo wr∧wr.ownsRow wo.heap.size 142 3 v2 q ((ls.take q).flatMap ud)) (fun _ x _=>nl-(intOf x).toNat)
   case atStart=>exact⟨0,Nat.zero_le _,rfl,Below.refl _ _,World.ownsRow_nil _ _ _ _⟩
   case round=>
    obtain⟨q,hq,rfl,hbq,ho2⟩:=hrel;obtain⟨a9,c9,m9,hc9,hcm9,hrow9⟩:=HF7.out wr hbq;have HBQ:=zx hbq;have HO2:=zx ho2;obtain⟨wa,wc,rfl,hwc,hwm⟩:=zu ho2;unfold maxLen at hwm hcm9;by_cases hlt2:q<nl
    ·obtain⟨⟨ae,ce,hve,hce,hcem⟩,hseg,hxk⟩:=HSK.out q hlt2;obtain⟨hpos,hel⟩:=HNK.out q hlt2;obtain⟨g9,rfl⟩:=zf hrow9 (by omega);have hcell:=zg hrow9 hxk;rw[hve]at hcell hseg;obtain⟨ge,rfl⟩:=zf hseg hpos;have bw:Below w.heap.size w wr:=HBO.out.trans (hbq.mono HBO.out.size);have hes:=zn hseg (fun g hg=>bw.block g (zw hseg hg).2.1);have HFLq:=zx (HFL.out q hlt2);obtain⟨r0,_,_⟩:=ya (ls.getD q []) 0 (by omega);obtain⟨r1,_,_⟩:=ya (ls.getD q []) ((ls.getD q []).length-1) (by omega);have p0:=zg hes r0;have p1:=zg hes r1;simp only[Nat.zero_mul]at p0;have hsp:ud (ls.getD q [])=[.int .i64 ((ls.getD q []).getD 0 e0).seq, .int .i64 ((ls.getD q []).getD ((ls.getD q []).length-1) e0).seq, .int .i64 ((ls.getD q []).length:Int)]:=rfl;rw[hsp]at HFLq;unfold maxLen at hcem;clear hve hseg hxk hes r0 r1 hsp;generalize ls.getD q []=es at *;generalize hs0:(es.getD 0 e0).seq=s0 at *;generalize hs1:(es.getD (es.length-1) e0).seq=s1 at *;generalize es.length=el at *
     have hw1:IntKind.i64.wrap ((el:Int)-1)=((el-1:Nat):Int):=by rw[IntKind.wrap_i64];omega
     have hw2:((el-1:Nat):Int)<(el:Int):=by omega
     have hw3:(0:Int)<(el:Int):=by omega
     clear hs0 hs1 hrow9 ho2;have b3:=zv wr (Obj.cells #[.int .i64 s0, .int .i64 s1, .int .i64 (el:Int)] 142);have p0':=(b3.cell (p:=⟨ge,0,none⟩) (World.block_lt_of_cell? _ _ p0)).trans p0;have p1':=(b3.cell (p:=⟨ge,(el-1)*3,none⟩) (World.block_lt_of_cell? _ _ p1)).trans p1;have hszq:=hbq.size;clear b3 bw hbq
     go_upto_region 10 with fail
     go_region_law (refine zQ _ rfl _ _ 75 rfl wo.heap.size 142 i0 (.agg #[.int .i64 0, .int .i64 0, .int .i64 0]) 3 24 Tryz.underlying75 hi0 hz0 hz1 hz2 rfl (by decide) _ _ _ rfl (by exact HO2.out.alloc _) ⟨wr.heap.size,0,none⟩ 1 1 [.int .i64 s0, .int .i64 s1, .int .i64 (el:Int)] rfl rfl (by exact zM wr.drew _ _ _ rfl) (by intro u hu;simp at hu;rcases hu with rfl|rfl|rfl <;> rfl) (by unfold maxLen;omega) (by omega) (by simp;omega) ?_;intro v5 W5 o5 g5 n5;have g6:(wr.alloc (Obj.cells #[.int .i64 s0, .int .i64 s1, .int .i64 (el:Int)] 142)).grownBy W5 (Value.slice wa q wc).ownBlock:=⟨g5.os,g5.tape,g5.output,g5.size,g5.block⟩;have HB5:=zx (yk HBQ.out (yl g6) HO2.out);have HO5:=zx o5;obtain⟨a5,c5,rfl,_,_⟩:=zu o5;clear o5 g5 g6 n5)
     all_goals (
      go_wp2
      go_roundw
      case rel=>exact⟨q+1,by omega,by go_num,HB5.out,by rw[HFLq.out];exact HO5.out⟩
      case measure=>simp[intOf];omega)
    ·have hqe:ls.take q=ls:=List.take_of_length_le (by rw[HNL.out];omega)
     have hqn:q=nl:=by omega
     rw[hqe]at HO2;have HQN:=zx hqn;have HRWQ:=zx (HRW.out wr hbq);have HNXQ:=zx (HNX.out wr);have hszq:=hbq.size;clear hqe hqn ho2 hrow9 hbq
     go_wp2_with (first
      | (at_builtin;refine wpList_append_own_at _ rfl (.tmp 49) (.tmp 51) 73 rfl w.heap.size 75 j0 (.slice none 0 0) 1 24 Tryz.underlying73 hj0 hk0 hk1 hk2 rfl (by decide) _ _ _ rfl (HRWQ.out.alloc _) ⟨wr.heap.size,0,none⟩ 1 1 [.slice wa q wc] rfl rfl (zM _ _ _ _ rfl) (by intro u hu;simp at hu;subst hu;rfl) (by unfold maxLen;omega) (by omega) (by simp;omega) ?_;intro v5 W5 o5 g5 _ n5;have HN5:=zx (HNXQ.out W5 (.slice wa q wc) v5 HBQ.out (by rw[←HQN.out];exact HO2.out) g5 o5);obtain⟨a5,c5,rfl,_,_⟩:=zu o5;clear o5 g5 n5))
     go_roundw
     case rel=>exact⟨k+1,by omega,by go_num,HN5.out⟩
     case measure=>simp[intOf];omega
  ·obtain rfl:6=k:=by omega
   obtain⟨va,vc,rfl,hvc,hvm⟩:=zu hsh.row;clear hsh;go_wp2_with fail;go_ret;exact⟨_,us,rfl,HSH.out⟩
end Go.Proofs.YtkncboinfcnklaaGreatDoor.Rl
namespace Go.Proofs.YtkncboinfcnklaaGreatDoor.Kp
open Go.RowKit Go.Deep Go.Shelf Go.Proofs.YtkncboinfcnklaaGreatDoor.Mth
structure LvD (w wr:World) (rb i:Nat) (L:Lg) (vs:Nat→Value):Prop where
 lv:LvI w wr rb i L vs
 dis:∀a b,a<i→b<i→a≠b→∀g,some g=(vs a).ownBlock→some g≠(vs b).ownBlock
theorem LvD.next {w ws wr:World}{rb i:Nat}{L:Lg}{vs:Nat→Value}{v:Value}(h:LvD w ws rb i L vs) (hj:LvJ ws wr rb i (L.lev i).length (L.lev i) vs v):LvD w wr rb (i+1) L (fun k=>if k=i then v else vs k):=by
 refine⟨h.lv.next hj,fun a b ha hb hne g hg=>?_⟩;by_cases ea:a=i
 ·have eb:b≠i:=fun e=>hne (by rw[ea,e])
  simp only[if_pos ea,if_neg eb]at hg ⊢;intro q;have h1:=(zw hj.row hg).1;have h2:=(zw (h.lv.row b (by omega)) q).2.1;omega
 ·by_cases eb:b=i
  ·simp only[if_neg ea,if_pos eb]at hg ⊢;intro q;have h1:=(zw hj.row q).1;have h2:=(zw (h.lv.row a (by omega)) hg).2.1;omega
  ·simp only[if_neg ea,if_neg eb]at hg ⊢;exact h.dis a b (by omega) (by omega) hne g hg
theorem mo {w:World}{ρ:Nat→Nat}{B N lb:Nat}{G:Gh}{L:Lg}(h:LogX w ρ B N lb G L) (hne:∀i,i<6→∀j,j<(L.lev i).length→0<((L.lev i).getD j []).length∧((L.lev i).getD j []).length≤1048576) (hl:∀i,i<6→(L.lev i).length≤500000) :
  Calls Tryz.prog 25 #[zr lb] w fun e w'=>∃rb vs,e=.returned (.slice (some ⟨rb,0,none⟩) 6 6)∧LvD w w' rb 6 L vs:=by
 obtain⟨i0,hi0,hz0,hz1,hz2⟩:=info_parts Tryz.info142;have hb1:=zv w (Obj.cells (oi fun _=>.slice none 0 0) 75);have hk1:=zj w (oi fun _=>.slice none 0 0) 75;have hmk:=mk6 w;obtain⟨w1,hw1⟩:∃w1,w1=w.alloc (Obj.cells (oi fun _=>.slice none 0 0) 75):=⟨_,rfl⟩;rw[←hw1]at hb1 hk1 hmk;obtain⟨rb,hrb⟩:∃rb,rb=w.heap.size:=⟨_,rfl⟩;rw[←hrb]at hk1 hmk;have h1:=h.below hb1;have LI0:Hid (LvD w w1 rb 0 L (fun _=>.slice none 0 0)):=⟨⟨hb1,by omega,hk1,(fun k hk=>absurd hk (Nat.not_lt_zero _)),fun _ _=>rfl⟩,fun a b ha=>absurd ha (Nat.not_lt_zero _)⟩;obtain⟨k8,_⟩:=zy (j:=8) (u:=G.lr 0) h1.b.blk rfl;obtain⟨k9,_⟩:=zy (j:=9) (u:=G.lr 1) h1.b.blk rfl;obtain⟨k10,_⟩:=zy (j:=10) (u:=G.lr 2) h1.b.blk rfl;obtain⟨k11,_⟩:=zy (j:=11) (u:=G.lr 3) h1.b.blk rfl;obtain⟨k12,_⟩:=zy (j:=12) (u:=G.lr 4) h1.b.blk rfl;obtain⟨k13,_⟩:=zy (j:=13) (u:=G.lr 5) h1.b.blk rfl
 have RD:Hid (∀W,Below w.heap.size w W→LogX W ρ B N lb G L):=fun W hW=>h.below hW
 have HNE:=zx hne;have HL:=zx hl;have HRB:=zx hrb;clear hb1 hk1 hw1 h h1 hne hl hrb
 go_enter Tryz.func25,Tryz.ntmps25
 go_wp2_with fail;clear k8 k9 k10 k11 k12 k13 hmk
 go_loopw [13] (fun iv wr=>∃i:Nat,i≤6∧iv=.int .i64 (i:Int)∧∃vs,LvD w wr rb i L vs) (fun iv _=>6-(intOf iv).toNat)
 case atStart=>exact⟨0,by omega,rfl,_,LI0.out⟩
 case round=>
  obtain⟨i,hi6,rfl,vs,hID⟩:=hrel;have hI:=hID.lv;have HID:=zx hID;clear hID;obtain⟨ws,rfl⟩:∃ws,ws=wr:=⟨_,rfl⟩;by_cases hlt:i<6
  ·have hX:=RD.out ws hI.bel;have hrow:=hX.v.row i hlt;have hlen:=hX.v.len i hlt;have hseg:=hX.v.seg i hlt;have hix:=ix6 ws G.lr hlt;have hnei:=HNE.out i hlt;have hli:=HL.out i hlt;obtain⟨va,vc,hva,hvc,hvm⟩:=zu hrow;rw[hva]at hrow
   have hix2:(Instr.index 130 (.agg #[G.lr 0,G.lr 1,G.lr 2,G.lr 3,G.lr 4,G.lr 5]) (.int .i64 (i:Int))).run Tryz.prog ws=.ok (.slice va (L.lev i).length vc) ws:=by rw[hix,hva,hlen]
   clear hix
   have hiI:(i:Int)<6:=by omega
   have HI:=zx hI;have hrblt:rb<ws.heap.size:=(Mth.gI hI.blk)
   have LJ0:Hid (LvJ ws ws rb i 0 (L.lev i) vs (.slice none 0 0)):=⟨Tch.refl _ _,by
    have e:(fun k=>if k=i then(Value.slice none 0 0) else vs k)=vs:=by
     funext k;split
     ·rename_i q;rw[q];exact(hI.nil i (Nat.le_refl _)).symm
     ·rfl
    rw[e];exact hI.blk,World.ownsRow_nil _ _ _ _⟩
   unfold maxLen at hvm;rw[hlen]at hvc;have HVA:=zx hva;have HLEN:=zx hlen;clear hI hX hrow hseg hva hlen;go_wp2_with fail;clear hix2
   go_loopw [19] (fun jv wr=>∃j:Nat,j≤(L.lev i).length∧jv=.int .i64 (j:Int)∧∃v,LvJ ws wr rb i j (L.lev i) vs v) (fun jv _=>(L.lev i).length-(intOf jv).toNat)
   case atStart=>exact⟨0,Nat.zero_le _,rfl,_,LJ0.out⟩
   case round=>
    obtain⟨j,hjn,rfl,v,hJ⟩:=hrel;by_cases hjl:j<(L.lev i).length
    ·have hbw:Below w.heap.size w wr:=⟨hJ.tch.os.trans HI.out.bel.os,hJ.tch.tape.trans HI.out.bel.tape,hJ.tch.output.trans HI.out.bel.output,Nat.le_trans HI.out.bel.size hJ.tch.size,fun k hk=>(hJ.tch.block k (Nat.lt_of_lt_of_le hk HI.out.bel.size) (by have:=HI.out.ge;omega)).trans (HI.out.bel.block k hk)⟩;have hX:=RD.out wr hbw;have hrow:=hX.v.row i hlt;rw[HVA.out,HLEN.out]at hrow;have hsg:=hX.v.seg i hlt j (by rw[HLEN.out];exact hjl);obtain⟨gv,rfl⟩:=zf hrow (by omega)
     have cj:=zg hrow (j:=j) (u:=zr ((G.bs i).getD j 0)) (by
      have hjb:j<(G.bs i).length:=by rw[HLEN.out];exact hjl
      simp[List.getD,hjb])
     obtain⟨n1,n2⟩:=hnei j hjl;generalize (G.bs i).getD j 0=sg at *
     have CS:Hid (∀W,Below wr.heap.size wr W→Calls Tryz.prog 55 #[zr sg] W fun e w'=>e=.returned (.agg #[.int .i64 (((L.lev i).getD j []).getD 0 e0).seq, .int .i64 (((L.lev i).getD j []).getD (((L.lev i).getD j []).length-1) e0).seq, .int .i64 (((L.lev i).getD j []).length:Int)])∧Below W.heap.size W w'):=fun W hW=>ir (hsg.below hW) n2 n1
     have hjI:(j:Int)<((L.lev i).length:Int):=by omega
     obtain⟨pa,pc,hpv,hpc,hpm⟩:=zu hJ.row;subst hpv;obtain⟨ci,fi⟩:=zy (j:=i) (u:=.slice pa j pc) hJ.blk (by rw[p8 _ hlt];simp);have HJ:=zx hJ;have hrbr:rb<wr.heap.size:=Nat.lt_of_lt_of_le hrblt hJ.tch.size;have hszj:=hJ.tch.size;unfold maxLen at hpm;obtain⟨q0,hq0⟩:∃q0,q0=(((L.lev i).getD j []).getD 0 e0).seq:=⟨_,rfl⟩;obtain⟨q1,hq1⟩:∃q1,q1=(((L.lev i).getD j []).getD (((L.lev i).getD j []).length-1) e0).seq:=⟨_,rfl⟩;obtain⟨q2,hq2⟩:∃q2,q2=(((L.lev i).getD j []).length:Int):=⟨_,rfl⟩;rw[←hq0,←hq1,←hq2]at CS
     have HSP:Hid (ud ((L.lev i).getD j [])=[.int .i64 q0, .int .i64 q1, .int .i64 q2]):=by rw[hq0,hq1,hq2];rfl
     have HC:=zx cj;clear hJ hX hrow hsg hbw hq0 hq1 hq2
     go_upto_region 8 with fail
     clear cj
     go_region_law
      (first
       | (rw[if_pos (by simp[Region.wanted])];go_simp;go_at_call 55;refine(CS.out _ (zE wr)).mono ?_;rintro e w5 ⟨rfl,hb5⟩;have hb5':Below wr.heap.size wr w5:=yV hb5;have q14:=(hb5'.cell (p:=⟨rb,i,none⟩) hrbr).trans ci;have r14:=zD (o:=Obj.cells #[.int .i64 q0, .int .i64 q1, .int .i64 q2] 142) q14;have HR5:=zx (zn HJ.out.row (fun g hg=>hb5'.block g (zw HJ.out.row hg).2.1));have HB5:=zx hb5';clear hb5 hb5')
       | (refine zQ _ rfl _ _ 75 rfl ws.heap.size 142 i0 (.agg #[.int .i64 0, .int .i64 0, .int .i64 0]) 3 24 Tryz.underlying75 hi0 hz0 hz1 hz2 rfl (by decide) _ _ _ rfl (by exact HR5.out.alloc _) ⟨w5.heap.size,0,none⟩ 1 1 [.int .i64 q0, .int .i64 q1, .int .i64 q2] rfl rfl (by exact yg w5 _ _ _ _) (by intro u hu;simp at hu;rcases hu with rfl|rfl|rfl <;> rfl) (by unfold maxLen;omega) (by omega) (by have h2:=HB5.out.size;simp;omega) ?_;intro v6 w6 hown6 hgrow6 _;obtain⟨a6,c6,rfl,_,_⟩:=zu hown6;have HN:=zx (HJ.out.more (v5:=.slice a6 (j+1) c6) hlt hjl hrblt HB5.out (by rw[HSP.out];exact hown6) hgrow6);obtain⟨s14,g14⟩:=zy (j:=i) (u:=.slice pa j pc) HN.out.1 (by rw[p8 _ hlt];simp);clear hown6 hgrow6))
     all_goals (
      go_wp2_with fail
      go_roundw
      case rel=>exact⟨j+1,by omega,by go_num,_,HN.out.2⟩
      case measure=>simp[intOf];omega)
    ·obtain rfl:j=(L.lev i).length:=by omega
     have HN:=zx (HID.out.next hJ);clear hJ LJ0 HI;go_wp2_with fail
     go_roundw
     case rel=>exact⟨i+1,by omega,by go_num,_,HN.out⟩
     case measure=>simp[intOf];omega
  ·obtain rfl:i=6:=by omega
   have HF:=zx HID.out;clear hI;go_wp2_with fail;go_ret;exact⟨rb,vs,rfl,HF.out⟩
end Go.Proofs.YtkncboinfcnklaaGreatDoor.Kp
namespace Go.Proofs.YtkncboinfcnklaaGreatDoor.Lw
open Go.RowKit Go.Deep Go.Shelf Go.Proofs.YtkncboinfcnklaaGreatDoor.Mth Go.Proofs.YtkncboinfcnklaaGreatDoor.Rl Go.Proofs.YtkncboinfcnklaaGreatDoor.Kp
theorem mA {l:List (List Ent)}{j t:Nat}(h:j<l.length) (ht:t<3):(l.flatMap ud)[j*3+t]? = (ud (l.getD j []))[t]? := by
 induction l generalizing j with
 | nil=>simp at h
 | cons e l ih=>
  rw[List.flatMap_cons]
  cases j with
  | zero=>rw[List.getElem?_append_left (by simp[ud];omega)];simp[List.getD]
  | succ j=>
   rw[List.getElem?_append_right (by simp[ud];omega),show(j+1)*3+t-(ud e).length=j*3+t by simp[ud];omega,ih (by simpa using h)];simp[List.getD]
theorem oM {w:World}{B n g c:Nat}{l:List (List Ent)}(h:w.ownsRow B 142 3 (.slice (some ⟨g,0,none⟩) n c) n (l.flatMap ud)) (hl:l.length=n){j:Nat}(hj:j<n):w.cell? ⟨g,j*3,none⟩=some (.int .i64 ((l.getD j []).getD 0 e0).seq)∧w.cell? ⟨g,j*3+1,none⟩=some (.int .i64 ((l.getD j []).getD ((l.getD j []).length-1) e0).seq)∧w.cell? ⟨g,j*3+2,none⟩=some (.int .i64 ((l.getD j []).length:Int)):=by
 have a:=mA (l:=l) (j:=j) (t:=0) (by omega) (by omega);have b:=mA (l:=l) (j:=j) (t:=1) (by omega) (by omega);have c:=mA (l:=l) (j:=j) (t:=2) (by omega) (by omega);exact⟨zg h (a.trans rfl),zg h (b.trans rfl),zg h (c.trans rfl)⟩
theorem ip {w:World}{rb B1 B2 B3:Nat}{v2:Value}{lev:Nat→List (List Ent)}{vs us:Nat→Value}(h1:w.heap[rb]? = some (Obj.cells (oi vs) 75 (0,0))) (hv:∀k,k<6→w.ownsRow B1 142 3 (vs k) (lev k).length ((lev k).flatMap ud)) (h2:w.ownsRow B2 75 1 v2 6 ((List.range 6).map us)) (hu:∀k,k<6→w.ownsRow B3 142 3 (us k) (lev k).length ((lev k).flatMap ud)) :
  Calls Tryz.prog 135 #[.slice (some ⟨rb,0,none⟩) 6 6,v2] w fun e w'=>e=.returned (.bool true)∧Below w.heap.size w w':=by
 obtain⟨a2,c2,rfl,hc2,hm2⟩:=zu h2;obtain⟨g2,rfl⟩:=zf h2 (by omega);unfold maxLen at hm2
 have FA:Hid (∀W k,Below w.heap.size w W→k<6→W.cell? ⟨rb,k,none⟩=some (vs k)∧W.cell? ⟨g2,k,none⟩=some (us k)):=fun W k hW hk=>by
  refine⟨(zy ((hW.block rb (Mth.gI h1)).trans h1) (p8 vs hk)).1,zg (zq h2 hW) (show((List.range 6).map us)[k]? = some (us k) by rw[List.getElem?_map,List.getElem?_range hk];rfl)⟩
 have FV:Hid (∀k,k<6→∃a c d e,vs k=.slice a (lev k).length c∧us k=.slice d (lev k).length e∧(lev k).length≤c∧c≤maxLen∧(lev k).length≤e∧e≤maxLen):=fun k hk=>by
  obtain⟨a,c,q1,q2,q3⟩:=zu (hv k hk);obtain⟨d,e,r1,r2,r3⟩:=zu (hu k hk);exact⟨a,c,d,e,q1,r1,q2,q3,r2,r3⟩
 have HV:=zx hv;have HU:=zx hu;clear h1 hv h2 hu
 go_enter Tryz.func135,Tryz.ntmps135
 go_wp2_with fail
 go_loopw [5] (fun i wr=>∃k:Nat,k≤6∧i=.int .i64 k∧Below w.heap.size w wr) (fun i _=>6-(intOf i).toNat)
 case atStart=>exact⟨0,by omega,rfl,Below.refl _ _⟩
 case round=>
  obtain⟨k,hk,rfl,hb⟩:=hrel;have HB:=zx hb;clear hb;by_cases hlt:k<6
  ·obtain⟨a,c,d,e,ea,ed,hac,hcm,hde,hem⟩:=FV.out k hlt;have hvk:=HV.out k hlt;have huk:=HU.out k hlt;rw[ea]at hvk;rw[ed]at huk
   have HFA:Hid (∀W,Below w.heap.size w W→W.cell? ⟨rb,k,none⟩=some (.slice a (lev k).length c)∧W.cell? ⟨g2,k,none⟩=some (.slice d (lev k).length e)):=fun W hW=>by
    have:=FA.out W k hW hlt;rw[ea,ed]at this;exact this
   have HVK:=zx hvk;have HUK:=zx huk;obtain⟨m1,m2⟩:=HFA.out wr HB.out
   have hki:(k:Int)<6:=by omega
   unfold maxLen at hcm hem;clear hvk huk ea ed;generalize hls:lev k=ls at *;generalize hnl:ls.length=nl at *;have HNL:=zx hnl;clear hls hnl;have m1':=cell_regrown m1;have m2':=cell_regrown m2;clear m1 m2
   go_upto_region 6 with fail
   refine wp_region_quiet_below (by kernel_rfl) (by kernel_rfl) ?_
   repeat(go_big_quiet_step (fail))
   refine wpQuiet_nil ?_;intro _ hw';obtain⟨⟨dq,osq⟩,hw''⟩:=hw';subst hw'';have HB2:=zx (HB.out.trans ((below_regrown wr dq osq).mono HB.out.size));clear m1' m2';generalize Sort.grow (redrawn wr dq) osq=w2 at *;go_wp2_with fail
   go_loopw [6] (fun i wr=>∃q:Nat,q≤nl∧i=.int .i64 q∧Below w.heap.size w wr) (fun i _=>nl-(intOf i).toNat)
   case atStart=>exact⟨0,Nat.zero_le _,rfl,HB2.out⟩
   case round=>
    obtain⟨q,hq,rfl,hbq⟩:=hrel;obtain⟨m1,m2⟩:=HFA.out wr hbq;by_cases hlt2:q<nl
    ·obtain⟨ga,rfl⟩:=zf HVK.out (by omega);obtain⟨gd,rfl⟩:=zf HUK.out (by omega);obtain⟨x0,x1,x2⟩:=oM (zq HVK.out (hbq)) HNL.out hlt2;obtain⟨z0,z1,z2⟩:=oM (zq HUK.out (hbq)) HNL.out hlt2;generalize ((ls.getD q []).getD 0 e0).seq=s0 at *;generalize ((ls.getD q []).getD ((ls.getD q []).length-1) e0).seq=s1 at *;generalize ((ls.getD q []).length:Int)=s2 at *;have n1:=cell_regrown m1;have n2:=cell_regrown m2;have y0:=cell_regrown x0;have y1:=cell_regrown x1;have y2:=cell_regrown x2;have t0:=cell_regrown z0;have t1:=cell_regrown z1;have t2:=cell_regrown z2;have HBQ:=zx hbq;clear hbq x0 x1 x2 z0 z1 z2
     go_upto_region 11 with fail
     clear m1 m2;refine wp_region_quiet_below (by kernel_rfl) (by kernel_rfl) ?_
     repeat(go_big_quiet_step (fail))
     refine wpQuiet_nil ?_;intro _ hw';obtain⟨⟨dq2,osq2⟩,hw''⟩:=hw';subst hw'';have HB3:=zx (HBQ.out.trans ((below_regrown wr dq2 osq2).mono HBQ.out.size));clear n1 n2 y0 y1 y2 t0 t1 t2;generalize Sort.grow (redrawn wr dq2) osq2=w3 at *;go_wp2
     go_roundw
     case rel=>exact⟨q+1,by omega,by go_num,HB3.out⟩
     case measure=>simp[intOf];omega
    ·have HBQ:=zx hbq;clear hbq;go_wp2
     go_roundw
     case rel=>exact⟨k+1,by omega,by go_num,HBQ.out⟩
     case measure=>simp[intOf];omega
  ·go_wp2;go_ret;exact⟨rfl,HB.out⟩
end Go.Proofs.YtkncboinfcnklaaGreatDoor.Lw
namespace Go.Proofs.YtkncboinfcnklaaGreatDoor
open Go.RowKit Go.Deep Go.Proofs.YtkncboinfcnklaaGreatDoor.Mth
theorem Tryz.infoShK:(Tryz.prog.info? 142).map (fun i=>(i.zero,i.size,i.bytes))=some (some (.agg #[.int .i64 0, .int .i64 0, .int .i64 0]),3,24):=by kernel_rfl
theorem Tryz.infoShL:(Tryz.prog.info? 172).map (fun i=>(i.zero,i.size,i.bytes))=some (some (.agg #[.slice none 0 0, .slice none 0 0, .slice none 0 0, .slice none 0 0, .int .i64 0]),5,104):=by kernel_rfl
theorem uM (N n j:Nat):fS N (n*3+j)=fS N j:=by
 unfold fS;rw[show(n*3+j) % 3=j % 3 by omega]
def sM (N:Nat):List Value:=[.int .i64 (-1000-(N:Int)), .int .i64 0, .int .i64 0]
theorem pX (N n:Nat):(List.range (1*3)).map (fun j=>fS N (n*3+j))=sM N∧(List.range (2*3)).map (fun j=>fS N (n*3+j))=sM N++sM N∧(List.range (3*3)).map (fun j=>fS N (n*3+j))=sM N++sM N++sM N:=by
 simp only[uM];refine⟨?_,?_,?_⟩
 all_goals simp[List.range_succ,fS,sM]
theorem rG (w:World) (B0 wb B:Nat) (v tv:Value) (n N:Nat) (ys xs:List Value) (C:Array Value) (hown:w.ownsRow B0 142 3 v n ys) (hwb:wb<B0) (hB0:B0≤w.heap.size) (hC:w.heap[wb]? = some (Obj.cells C 91 (0,0))) (hCs:C.size=15) (hct:C[13]? = some tv)
  (hrow:w.ownsRow B 172 5 tv N xs) (hBB:B≤B0) (hn:n≤4194304) (hN:N≤4194304) :
  Calls Tryz.prog 212 #[.pointer (some ⟨wb,9,none⟩),v] w fun e w'=>e=.returned (.tuple #[])∧∃tv' va vb vc,Kept w w' B0 wb 13 B 172 142 3 (fS N) tv tv' N xs C ⟨v,va,vb,vc⟩ n∧KN w.heap.size v va vb vc∧NB w.heap.size tv tv'∧∀g,g<w.heap.size→some g≠v.ownBlock→g≠wb→some g≠tv.ownBlock→w'.heap[g]? = w.heap[g]? := by
 obtain⟨i0,hi0,hz0,hz1,hz2⟩:=info_parts Tryz.infoShK;obtain⟨j0,hj0,hy0,hy1,hy2⟩:=info_parts Tryz.infoShL;have hyl:=hown.1;have HOWN:=zx hown;have HOWNK:=zx hown;have HC:=zx hC;have HROW:=zx hrow;have c12:=(zy hC hct).1
 have hv:∃a c,v=.slice a n c∧n≤c∧c≤maxLen:=by
  rcases hown.2 with⟨rfl,rfl⟩|⟨g,cap,cur,rfl,_,_,h1,h2,_⟩
  ·exact⟨none,0,rfl,Nat.le_refl _,by unfold maxLen;omega⟩
  ·exact⟨_,cap,rfl,h1,h2⟩
 have htvv:∃a c,tv=.slice a N c∧N≤c∧c≤maxLen:=by
  rcases hrow.2 with⟨rfl,rfl⟩|⟨g,cap,cur,rfl,_,_,h1,h2,_⟩
  ·exact⟨none,0,rfl,Nat.le_refl _,by unfold maxLen;omega⟩
  ·exact⟨_,cap,rfl,h1,h2⟩
 obtain⟨a,c,rfl,hnc,hcm⟩:=hv;obtain⟨ta,tc,rfl,hNc,hNm⟩:=htvv;unfold maxLen at hcm hNm;have HCT:=zx hct;have HCS:=zx hCs;clear hown hC hrow hct
 go_enter Tryz.func212,Tryz.ntmps212
 go_wp2_with fail;have HB1:=zx (zi w (Obj.cells #[.int .i64 (-1000-(N:Int)), .int .i64 0, .int .i64 0] 142))
 have HM1:Hid ((w.alloc (Obj.cells #[.int .i64 (-1000-(N:Int)), .int .i64 0, .int .i64 0] 142)).heap[w.heap.size]? = some (Obj.cells #[.int .i64 (-1000-(N:Int)), .int .i64 0, .int .i64 0] 142 (0,0))):=by
  show(w.heap.push _)[w.heap.size]? = _;rw[Array.getElem?_push,if_pos rfl]
 have HNM:Hid (some w.heap.size≠(Value.slice a n c).ownBlock):=fun q=>by have:=(zw HOWN.out q).2.1;omega
 have hmB:B0≤w.heap.size:=hB0
 have hmlt:w.heap.size<(w.alloc (Obj.cells #[.int .i64 (-1000-(N:Int)), .int .i64 0, .int .i64 0] 142)).heap.size:=by simp
 generalize w.alloc (Obj.cells #[.int .i64 (-1000-(N:Int)), .int .i64 0, .int .i64 0] 142)=w1 at *;have HOWN1:=zx (HOWN.out.kept (row:=none) ⟨HB1.out.os,HB1.out.tape,HB1.out.output,HB1.out.size,fun k hk _=>HB1.out.block k hk⟩ (by cases (Value.slice a n c).ownBlock <;> simp));clear HOWN c12
 go_loopw [6] (fun i wr=>∃k:Nat,k≤n∧i=.int .i64 k∧wr.ownsRow B0 142 3 (.slice a n c) n (sT (fS N) ys (k*3))∧w1.grownBy wr (Value.slice a n c).ownBlock) (fun i _=>n-(intOf i).toNat)
 case atStart=>exact⟨0,Nat.zero_le _,rfl,by simpa [sT,rU] using HOWN1.out,⟨rfl,rfl,rfl,Nat.le_refl _,fun _ _ _=>rfl⟩⟩
 case round=>
  obtain⟨k,hk,rfl,ho,hg⟩:=hrel;have HO:=zx ho;have HG:=zx hg;clear ho hg;by_cases hlt:k<n
  ·have hsome:∃g,a=some ⟨g,0,none⟩:=by
    rcases HO.out.2 with⟨q,q2⟩|⟨g,cap,cur,q,_⟩
    ·omega
    ·injection q with q;exact⟨g,q⟩
   obtain⟨g,rfl⟩:=hsome;obtain⟨⟨y0,hcell0⟩,hfr0⟩:=wg HO.out (i:=k*3) (by omega);obtain⟨⟨y1,hcell1⟩,hfr1⟩:=wg HO.out (i:=k*3+1) (by omega);obtain⟨⟨y2,hcell2⟩,hfr2⟩:=wg HO.out (i:=k*3+2) (by omega);have HMR:=zx ((HG.out.block w.heap.size (by omega) HNM.out).trans HM1.out);have m0:=(zy (j:=0) (u:=.int .i64 (-1000-(N:Int))) HMR.out rfl).1;have m1:=(zy (j:=1) (u:=.int .i64 0) HMR.out rfl).1;have m2:=(zy (j:=2) (u:=.int .i64 0) HMR.out rfl).1;go_wp2
   go_roundw
   case rel=>
    refine⟨k+1,by omega,by go_num,?_,⟨HG.out.os,HG.out.tape,HG.out.output,by have:=HG.out.size;simpa using this,fun q hq hne=>?_⟩⟩
    ·have t0:=zF (y:=fS N (k*3)) HO.out (i:=k*3) (by omega);rw[xD (f:=fS N) (by rw[hyl];omega)]at t0;have t1:=zF (y:=fS N (k*3+1)) t0 (i:=k*3+1) (by omega);rw[xD (f:=fS N) (by rw[hyl];omega)]at t1;have t2:=zF (y:=fS N (k*3+2)) t1 (i:=k*3+2) (by omega);rw[xD (f:=fS N) (by rw[hyl];omega)]at t2;rw[uM N k 1,uM N k 2,show fS N (k*3)=fS N 0 from uM N k 0]at t2;rw[show(k+1)*3=k*3+2+1 by omega];exact t2
    ·rw[zt (fun e=>hne (by simp[Value.ownBlock,e])),zt (fun e=>hne (by simp[Value.ownBlock,e])),zt (fun e=>hne (by simp[Value.ownBlock,e]))];exact HG.out.block q hq hne
   case measure=>simp[intOf];omega
  ·have hke:k=n:=by omega
   subst hke
   have HO2:Hid (wr.ownsRow B0 142 3 (.slice a k c) k (rU (fS N) (k*3))):=by
    have:=HO.out;rw[tk (by rw[hyl];omega)]at this;exact this
   have HSAME:Hid (∀g:Nat,g<B0→wr.heap[g]? = w.heap[g]?):=by
    intro g hg;have hs1:=HB1.out.size;rw[HG.out.block g (by omega) (fun q=>by have:=(zw HOWN1.out q).1;omega)];exact HB1.out.block g (by omega)
   have hsz:w.heap.size≤wr.heap.size:=Nat.le_trans HB1.out.size HG.out.size
   have K0:Hid (KSt w (wr.alloc (Obj.cells #[.slice a k c, .slice none 0 0, .slice none 0 0, .slice none 0 0, .int .i64 (N:Int)] 172)) B0 wr.heap.size 172 142 3 (.slice a k c) k (fS N) #[.slice a k c, .slice none 0 0, .slice none 0 0, .slice none 0 0, .int .i64 (N:Int)] []):=by
    refine⟨HO2.out.alloc _,?_,by omega,fun g hg=>?_,HG.out.os.trans HB1.out.os,HG.out.tape.trans HB1.out.tape,HG.out.output.trans HB1.out.output,by simp;omega,fun p hp=>by cases hp⟩
    ·show(wr.heap.push _)[wr.heap.size]? = _;rw[Array.getElem?_push,if_pos rfl]
    ·rw[Mth.uC wr _ (r:=g) (by omega)];exact HSAME.out g hg
   have A0:Hid (SA w (wr.alloc (Obj.cells #[.slice a k c, .slice none 0 0, .slice none 0 0, .slice none 0 0, .int .i64 (N:Int)] 172)) (.slice a k c)):=by
    intro g hg hn;rw[Mth.uC wr _ (r:=g) (by omega),HG.out.block g (Nat.lt_of_lt_of_le hg HB1.out.size) hn];exact HB1.out.block g hg
   have HXB:Hid (w.heap.size≤wr.heap.size):=hsz;have hwlt:w.heap.size<wr.heap.size:=Nat.lt_of_lt_of_le hmlt HG.out.size;have Q0:=zx ((Mth.uC wr (Obj.cells #[.slice a k c, .slice none 0 0, .slice none 0 0, .slice none 0 0, .int .i64 (N:Int)] 172) (r:=w.heap.size) hwlt).trans ((HG.out.block w.heap.size (by omega) HNM.out).trans HM1.out));have p0:=(zy (j:=0) (u:=.int .i64 (-1000-(N:Int))) Q0.out rfl).1;have q0:=(zy (j:=1) (u:=.int .i64 0) Q0.out rfl).1;have s0:=(zy (j:=2) (u:=.int .i64 0) Q0.out rfl).1;clear HO HG HOWN1 HB1
   go_wp2_with (first
    | (at_builtin;refine zY _ rfl (.tmp 29) (.tmp 31) 75 rfl B0 142 i0 (.agg #[.int .i64 0, .int .i64 0, .int .i64 0]) 3 24 Tryz.underlying75 hi0 hz0 hz1 hz2 rfl (by decide) _ _ _ rfl (K0.out.own.alloc _) ⟨_,0,none⟩ 1 1 [.int .i64 (-1000-(N:Int)), .int .i64 0, .int .i64 0] rfl rfl (zB _ _ (by simp) _ _ _ rfl) (by intro u hu;simp only[List.mem_cons,List.not_mem_nil,or_false]at hu;rcases hu with rfl|rfl|rfl <;> rfl) (by unfold maxLen;omega) (by omega) (by have:=K0.out.size;simp at this ⊢;omega) (by omega) ?_;intro v1 W1 o1 g1 k1 r1 s1;have HN91:=zx (vz (s:=w.heap.size) s1 (by have:=K0.out.size;simp at this ⊢;omega));clear s1;obtain⟨a1,c1,rfl,_,_⟩:=zu o1;have A1:=zx (SA.app (i:=1) (v2:=.slice a1 (k+1) c1) A0.out K0.out.size HXB.out g1);have K1:=zx (KSt.app (i:=1) (m:=1) K0.out (by decide) (by rw[(pX N k).1];exact o1) g1 k1 r1 (by simp));obtain⟨hx1,hf1⟩:=zy (j:=1) (u:=.slice none 0 0) (KSt.x2 K0.out (by decide) g1) rfl;have Q1:=zx ((zt (w:=W1) (nb:=wr.heap.size) (k:=w.heap.size) (o:=1) (u:=.slice a1 (k+1) c1) (by omega)).trans (zN g1 Q0.out HNM.out));have p1:=(zy (j:=0) (u:=.int .i64 (-1000-(N:Int))) Q1.out rfl).1;have q1:=(zy (j:=1) (u:=.int .i64 0) Q1.out rfl).1;have s1:=(zy (j:=2) (u:=.int .i64 0) Q1.out rfl).1;clear o1 g1 k1 r1)
    | (at_builtin;refine zY _ rfl (.tmp 34) (.tmp 37) 75 rfl B0 142 i0 (.agg #[.int .i64 0, .int .i64 0, .int .i64 0]) 3 24 Tryz.underlying75 hi0 hz0 hz1 hz2 rfl (by decide) _ _ _ rfl (K1.out.own.alloc _) ⟨_,0,none⟩ 2 2 [.int .i64 (-1000-(N:Int)), .int .i64 0, .int .i64 0, .int .i64 (-1000-(N:Int)), .int .i64 0, .int .i64 0] rfl rfl (zB _ _ (by simp) _ _ _ rfl) (by intro u hu;simp only[List.mem_cons,List.not_mem_nil,or_false]at hu;rcases hu with rfl|rfl|rfl|rfl|rfl|rfl <;> rfl) (by unfold maxLen;omega) (by omega) (by have:=K1.out.size;simp at this ⊢;omega) (by omega) ?_;intro v2 W2 o2 g2 k2 r2 s2;have HN92:=zx (vz (s:=w.heap.size) s2 (by have:=K1.out.size;simp at this ⊢;omega));clear s2;obtain⟨a2,c2,rfl,_,_⟩:=zu o2;have A2:=zx (SA.app (i:=2) (v2:=.slice a2 (k+2) c2) A1.out K1.out.size HXB.out g2);have K2:=zx (KSt.app (i:=2) (m:=2) K1.out (by decide) (by rw[(pX N k).2.1];exact o2) g2 k2 r2 (by simp));obtain⟨hx2,hf2⟩:=zy (j:=2) (u:=.slice none 0 0) (KSt.x2 K1.out (by decide) g2) rfl;have Q2:=zx ((zt (w:=W2) (nb:=wr.heap.size) (k:=w.heap.size) (o:=2) (u:=.slice a2 (k+2) c2) (by omega)).trans (zN g2 Q1.out HNM.out));have p2:=(zy (j:=0) (u:=.int .i64 (-1000-(N:Int))) Q2.out rfl).1;have q2:=(zy (j:=1) (u:=.int .i64 0) Q2.out rfl).1;have s2:=(zy (j:=2) (u:=.int .i64 0) Q2.out rfl).1;clear o2 g2 k2 r2)
    | (at_builtin;refine zY _ rfl (.tmp 40) (.tmp 44) 75 rfl B0 142 i0 (.agg #[.int .i64 0, .int .i64 0, .int .i64 0]) 3 24 Tryz.underlying75 hi0 hz0 hz1 hz2 rfl (by decide) _ _ _ rfl (K2.out.own.alloc _) ⟨_,0,none⟩ 3 3 [.int .i64 (-1000-(N:Int)), .int .i64 0, .int .i64 0, .int .i64 (-1000-(N:Int)), .int .i64 0, .int .i64 0, .int .i64 (-1000-(N:Int)), .int .i64 0, .int .i64 0] rfl rfl (zB _ _ (by simp) _ _ _ rfl) (by intro u hu;simp only[List.mem_cons,List.not_mem_nil,or_false]at hu;rcases hu with rfl|rfl|rfl|rfl|rfl|rfl|rfl|rfl|rfl <;> rfl) (by unfold maxLen;omega) (by omega) (by have:=K2.out.size;simp at this ⊢;omega) (by omega) ?_;intro v3 W3 o3 g3 k3 r3 s3;have HN93:=zx (vz (s:=w.heap.size) s3 (by have:=K2.out.size;simp at this ⊢;omega));clear s3;obtain⟨a3,c3,rfl,_,_⟩:=zu o3;have A3:=zx (SA.app (i:=3) (v2:=.slice a3 (k+3) c3) A2.out K2.out.size HXB.out g3);have K3:=zx (KSt.app (i:=3) (m:=3) K2.out (by decide) (by rw[(pX N k).2.2];exact o3) g3 k3 r3 (by simp));obtain⟨hx3,hf3⟩:=zy (j:=3) (u:=.slice none 0 0) (KSt.x2 K2.out (by decide) g3) rfl;have Q3:=zx ((zt (w:=W3) (nb:=wr.heap.size) (k:=w.heap.size) (o:=3) (u:=.slice a3 (k+3) c3) (by omega)).trans (zN g3 Q2.out HNM.out));have p3:=(zy (j:=0) (u:=.int .i64 (-1000-(N:Int))) Q3.out rfl).1;have q3:=(zy (j:=1) (u:=.int .i64 0) Q3.out rfl).1;have s3:=(zy (j:=2) (u:=.int .i64 0) Q3.out rfl).1;clear o3 g3 k3 r3))
   clear hx1 hf1 hx2 hf2 hx3 hf3 K0 K1 K2 HO2 p0 q0 s0 p1 q1 s1 p2 q2 s2 p3 q3 s3 Q0 Q1 Q2 Q3;have HXX:=zx K3.out.x;have hge:=K3.out.ge;have hWsz:=K3.out.size;obtain⟨e0,_⟩:=zy (j:=0) (u:=.slice a k c) K3.out.x rfl;obtain⟨e1,_⟩:=zy (j:=1) (u:=.slice a1 (k+1) c1) K3.out.x rfl;obtain⟨e2,_⟩:=zy (j:=2) (u:=.slice a2 (k+2) c2) K3.out.x rfl;obtain⟨e3,_⟩:=zy (j:=3) (u:=.slice a3 (k+3) c3) K3.out.x rfl;obtain⟨e4,_⟩:=zy (j:=4) (u:=.int .i64 (N:Int)) K3.out.x rfl;have HWB:=zx ((K3.out.same wb hwb).trans HC.out);obtain⟨ew,ef⟩:=zy (j:=13) (u:=.slice ta N tc) HWB.out HCT.out;have HRW:=zx (zn HROW.out (fun g hg=>A3.out g (zw HROW.out hg).2.1 (fun e=>by obtain⟨_,_,D1,hD1⟩:=zw HROW.out hg;obtain⟨_,_,D2,hD2⟩:=zw HOWNK.out e;exact absurd (zc hD1 hD2) (by decide))))
   have hnx:Hid (some wr.heap.size≠(Value.slice ta N tc).ownBlock):=fun q=>by have:=(zw HROW.out q).2.1;have:=HXB.out;omega
   have hnw:Hid (some wb≠(Value.slice ta N tc).ownBlock):=fun q=>by
    obtain⟨_,_,D,hD⟩:=zw HROW.out q;rw[HC.out]at hD
    injection hD with hD
    injection hD with _ hD _
    exact absurd hD (by decide)
   generalize W3.setCell ⟨wr.heap.size,3,none⟩ (.slice a3 (k+3) c3)=W at *;generalize wr.heap.size=xb at *;have ew2:(W.alloc (Obj.cells #[.slice a k c, .slice a1 (k+1) c1, .slice a2 (k+2) c2, .slice a3 (k+3) c3, .int .i64 (N:Int)] 172)).cell? ⟨wb,13,none⟩=some (.slice ta N tc):=((zi W _).cell (p:=⟨wb,13,none⟩) (World.block_lt_of_cell? _ _ ew)).trans ew
   go_region_law (refine zQ _ rfl _ _ 86 rfl B 172 j0 (.agg #[.slice none 0 0, .slice none 0 0, .slice none 0 0, .slice none 0 0, .int .i64 0]) 5 104 Tryz.underlying86 hj0 hy0 hy1 hy2 rfl (by decide) _ _ _ rfl (by exact HRW.out.alloc _) ⟨W.heap.size,0,none⟩ 1 1 [.slice a k c, .slice a1 (k+1) c1, .slice a2 (k+2) c2, .slice a3 (k+3) c3, .int .i64 (N:Int)] rfl rfl (by exact zM _ _ _ _ rfl) (by intro u hu;simp at hu;rcases hu with rfl|rfl|rfl|rfl|rfl <;> rfl) (by unfold maxLen;omega) (by omega) (by simp;omega) ?_;intro tv5 W5 o5 g5 n5;have HNB5:=zx (oU (B0:=w.heap.size) n5 (by simp;omega));clear n5;obtain⟨a5,c5,rfl,_,_⟩:=zu o5;have g6:(W.alloc (Obj.cells #[.slice a k c, .slice a1 (k+1) c1, .slice a2 (k+2) c2, .slice a3 (k+3) c3, .int .i64 (N:Int)] 172)).grownBy W5 (Value.slice ta N tc).ownBlock:=⟨g5.os,g5.tape,g5.output,g5.size,g5.block⟩;have AF:=zx (SA.fin (off:=13) (wb:=wb) (tv':=.slice a5 (N+1) c5) A3.out hWsz g6);have KF:=zx (sk (off:=13) K3.out (by decide) (by decide) (by decide) hwb HC.out HRW.out o5 g6 hB0);obtain⟨f0,_⟩:=zy (j:=0) (u:=.slice a k c) (zN g6 HXX.out hnx.out) rfl;obtain⟨f1,_⟩:=zy (j:=1) (u:=.slice a1 (k+1) c1) (zN g6 HXX.out hnx.out) rfl;obtain⟨f2,_⟩:=zy (j:=2) (u:=.slice a2 (k+2) c2) (zN g6 HXX.out hnx.out) rfl;obtain⟨f3,_⟩:=zy (j:=3) (u:=.slice a3 (k+3) c3) (zN g6 HXX.out hnx.out) rfl;obtain⟨f4,_⟩:=zy (j:=4) (u:=.int .i64 (N:Int)) (zN g6 HXX.out hnx.out) rfl;obtain⟨fw,ff⟩:=zy (j:=13) (u:=.slice ta N tc) (zN g6 HWB.out hnw.out) HCT.out;clear o5 g5 g6)
   all_goals (go_wp2;go_end0;exact⟨rfl,_,_,_,_,KF.out,(fun g hg=>by rcases hg with hg|hg|hg|hg;exact Or.inl hg;exact HN91.out g hg;exact HN92.out g hg;exact HN93.out g hg),HNB5.out,AF.out⟩)
end Go.Proofs.YtkncboinfcnklaaGreatDoor
