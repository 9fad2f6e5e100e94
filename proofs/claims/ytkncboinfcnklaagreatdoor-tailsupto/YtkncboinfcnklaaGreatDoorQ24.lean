import Derived.Test.YtkncboinfcnklaaGreatDoorQ23
set_option maxRecDepth 100000
set_option maxHeartbeats 8000000
namespace Go.Proofs.YtkncboinfcnklaaGreatDoor.Rl
open Go.RowKit Go.Deep Go.Shelf Go.Proofs.YtkncboinfcnklaaGreatDoor.Mth
def gh (V:Rv) (L:Lg):Prop:=∀i,i<6→∀j,j<(L.lev i).length→∀g,some g=(V.sv i j).ownBlock→some g≠V.mv.ownBlock
theorem xK {S:Nat→Prop}{w w':World}{B:Nat}{e:TypeId}{sz:Nat}{v:Value}{n:Nat}{xs:List Value}(h:w.ownsRow B e sz v n xs) (ht:Tch S w w') (hn:∀g,some g=v.ownBlock→¬S g):w'.ownsRow B e sz v n xs:=
 zn h (fun g hg=>ht.block g (zw h hg).2.1 (hn g hg))
theorem xG {w w':World}{o:Obj}{v:Value}(hg:(w.alloc o).grownBy w' v.ownBlock):Tch (fun k=>some k=v.ownBlock) w w':=by
 have b:=zv w o;exact⟨hg.os.trans b.os,hg.tape.trans b.tape,hg.output.trans b.output,by have:=hg.size;simp at this;omega,fun k hk hn=>(hg.block k (by simp;omega) hn).trans (b.block k hk)⟩
theorem zK {S:Nat→Prop}{w w':World}{B:Nat}(h:Tch S w w') (hS:∀k,S k→B≤k) (hB:B≤w.heap.size):Below B w w':=
 ⟨h.os,h.tape,h.output,h.size,fun k hk=>h.block k (by omega) (fun q=>by have:=hS k q;omega)⟩
theorem yr {W:World}{B1 B2:Nat}{e1 e2:TypeId}{s1 s2 n1 n2:Nat}{v1 v2:Value}{x1 x2:List Value}(h1:W.ownsRow B1 e1 s1 v1 n1 x1) (h2:W.ownsRow B2 e2 s2 v2 n2 x2) (he:e1≠e2) (g:Nat) (hg:some g=v1.ownBlock):some g≠v2.ownBlock:=by
 obtain⟨_,_,D,hD⟩:=zw h1 hg;exact xM h2 hD he
theorem bR {Z:Nat→Prop}{B cb:Nat}{w W2:World}{V:Rv}{L:Lg}{all al2:List Ent}{ts:List Tl}{v2:Value}(hb:w.heap[cb]? = some (Obj.cells (zR V L) 234 (0,0))) (h:RfV Z B w V L all ts) (hB:B≤w.heap.size) (b2:Below w.heap.size w W2) (o2:W2.ownsRow w.heap.size 66 3 v2 al2.length (al2.flatMap eC)) :
  W2.heap[cb]? = some (Obj.cells (zR V L) 234 (0,0))∧∀W3,W3=(W2.setCell ⟨cb,6,none⟩ (.int .i64 (L.clock:Int))).setCell ⟨cb,7,none⟩ v2→W3.heap[cb]? = some (Obj.cells (zR { V with av:=v2 } L) 234 (0,0))∧RfV Z B W3 { V with av:=v2 } L al2 ts∧(∀g,some g=v2.ownBlock→some g≠V.mv.ownBlock)∧Tch (fun g=>g=cb) w W3:=by
 have hcb:cb<w.heap.size:=(Mth.gI hb);have e2:=(b2.block cb hcb).trans hb;refine⟨e2,fun W3 hW3=>?_⟩;subst hW3;have e3:=zh (j:=6) (v:=.int .i64 (L.clock:Int)) e2;have e4:=zh (j:=7) (v:=v2) e3
 have kp:∀ {B:Nat}{e:TypeId}{sz:Nat}{v:Value}{m:Nat}{xs:List Value},234≠e→W2.ownsRow B e sz v m xs→((W2.setCell ⟨cb,6,none⟩ (.int .i64 (L.clock:Int))).setCell ⟨cb,7,none⟩ v2).ownsRow B e sz v m xs:=fun he ho=>zl (zl ho e2 he) e3 he
 have h2:=h.below b2;refine⟨e4,⟨kp (by decide) (zW o2 hB),kp (by decide) h2.mem,fun i hi=>kp (by decide) (h2.lev i hi),fun i hi j hj=>kp (by decide) (h2.seg i hi j hj),h2.sz,kp (by decide) h2.wks,fun q hq=>kp (by decide) (h2.lst q hq),h2.run,kp (by decide) h2.tls⟩,fun g hg hq=>?_,⟨b2.os,b2.tape,b2.output,by simpa using b2.size,fun g hg hne=>(zt hne).trans ((zt hne).trans (b2.block g hg))⟩⟩;have h1:=(zw o2 hg).1;have h2:=(zw h.mem hq).2.1;omega
theorem bQ {Z:Nat→Prop}{B cb c:Nat}{W3 W5 W6:World}{V:Rv}{L:Lg}{al2:List Ent}{ts:List Tl}{e:Ent}{v6:Value}(hb:W3.heap[cb]? = some (Obj.cells (zR V L) 234 (0,0))) (h:RfV Z B W3 V L al2 ts) (hs:gh V L) (ha:∀g,some g=V.av.ownBlock→some g≠V.mv.ownBlock) (b5:Below W3.heap.size W3 W5)
  (g6:(W5.alloc (Obj.cells #[.int .i64 e.seq, .int .i64 e.time, .string e.text] 66)).grownBy W6 V.mv.ownBlock) (o6:W6.ownsRow B 66 3 v6 (L.mem.length+1) (L.mem.flatMap eC++[.int .i64 e.seq, .int .i64 e.time, .string e.text])) :
  W6.heap[cb]? = some (Obj.cells (zR V L) 234 (0,0))∧∀W7,W7=W6.setCell ⟨cb,8,none⟩ v6→W7.heap[cb]? = some (Obj.cells (zR { V with mv:=v6 } { L.more e with count:=c }) 234 (0,0))∧RfV Z B W7 { V with mv:=v6 } { L.more e with count:=c } al2 ts∧Tch (fun g=>g=cb∨some g=V.mv.ownBlock) W3 W7:=by
 have hcb:cb<W3.heap.size:=(Mth.gI hb);have h5:=h.below b5;have hb5:=(b5.block cb hcb).trans hb;have t6:=xG g6;have hcb5:cb<W5.heap.size:=(Mth.gI hb5);have e6:=(t6.block cb hcb5 (xM h5.mem hb5 (by decide))).trans hb5;refine⟨e6,fun W7 hW7=>?_⟩;subst hW7
 have kp:∀ {B':Nat}{e:TypeId}{sz:Nat}{v:Value}{m:Nat}{xs:List Value},234≠e→W5.ownsRow B' e sz v m xs→(∀g,some g=v.ownBlock→some g≠V.mv.ownBlock)→(W6.setCell ⟨cb,8,none⟩ v6).ownsRow B' e sz v m xs:=fun he ho hn=>zl (xK ho t6 hn) e6 he
 refine⟨zh e6,⟨kp (by decide) h5.all ha,?_,fun i hi=>kp (by decide) (h5.lev i hi) (yr (h5.lev i hi) h5.mem (by decide)),fun i hi j hj=>kp (by decide) (h5.seg i hi j hj) (hs i hi j hj),h5.sz,kp (by decide) h5.wks (yr h5.wks h5.mem (by decide)),fun q hq=>kp (by decide) (h5.lst q hq) (yr (h5.lst q hq) h5.mem (by decide)),h5.run,kp (by decide) h5.tls (yr h5.tls h5.mem (by decide))⟩,⟨t6.os.trans b5.os,t6.tape.trans b5.tape,t6.output.trans b5.output,by have h1:=b5.size;have h2:=t6.size;simp;omega,fun k hk hn=>?_⟩⟩
 ·refine zl ?_ e6 (by decide);show W6.ownsRow B _ 3 v6 (L.mem++[e]).length ((L.mem++[e]).flatMap eC)
  simpa [eC] using o6
 ·rw[zt (fun q=>hn (Or.inl q)),t6.block k (Nat.lt_of_lt_of_le hk b5.size) (fun q=>hn (Or.inr q))];exact b5.block k hk
def oX (V:Rv) (n:Nat) (v5:Value):Rv:={ V with lv:=fun i=>if i=0 then v5 else V.lv i,sv:=fun i j=>if i=0∧j=n then V.mv else V.sv i j,mv:=.slice none 0 0 }
def sS (L:Lg):Lg:={ L with lev:=fun j=>if j=0 then L.lev j++[L.mem] else L.lev j,mem:=[] }
theorem ei {Z:Nat→Prop}{B cb:Nat}{w W5:World}{V:Rv}{L:Lg}{all:List Ent}{ts:List Tl}{v5:Value}(hb:w.heap[cb]? = some (Obj.cells (zR V L) 234 (0,0))) (h:RfV Z B w V L all ts) (hD:RfD B V L) (hZ:∀g,B≤g→Z g)
  (g5:(w.alloc (Obj.cells #[V.mv] 57)).grownBy W5 (V.lv 0).ownBlock) (o5:W5.ownsRow B 57 1 v5 ((L.lev 0).length+1) ((List.range (L.lev 0).length).map (V.sv 0)++[V.mv])) (_n5:v5.ownBlock=(V.lv 0).ownBlock∨v5.ownBlock=some (w.alloc (Obj.cells #[V.mv] 57)).heap.size) :
  W5.heap[cb]? = some (Obj.cells (zR V L) 234 (0,0))∧∀W7,W7=(W5.setCell ⟨cb,9,none⟩ v5).setCell ⟨cb,8,none⟩ (.slice none 0 0)→W7.heap[cb]? = some (Obj.cells (zR (oX V (L.lev 0).length v5) (sS L)) 234 (0,0))∧RfV Z B W7 (oX V (L.lev 0).length v5) (sS L) all ts∧DuI W7 W7 B (oX V (L.lev 0).length v5) L.wks.length V.wl L.wks∧Tch (fun g=>g=cb∨some g=(V.lv 0).ownBlock) w W7:=by
 have hcb:cb<w.heap.size:=(Mth.gI hb);have t5:=xG g5;have e5:=(t5.block cb hcb (xM (h.lev 0 (by omega)) hb (by decide))).trans hb;refine⟨e5,fun W7 hW7=>?_⟩;subst hW7;have e6:=zh (j:=9) (v:=v5) e5;have e7:=zh (j:=8) (v:=.slice none 0 0) e6
 have kp:∀ {B':Nat}{e:TypeId}{sz:Nat}{v:Value}{m:Nat}{xs:List Value},234≠e→w.ownsRow B' e sz v m xs→(∀g,some g=v.ownBlock→some g≠(V.lv 0).ownBlock)→((W5.setCell ⟨cb,9,none⟩ v5).setCell ⟨cb,8,none⟩ (.slice none 0 0)).ownsRow B' e sz v m xs:=fun he ho hn=>zl (zl (xK ho t5 hn) e5 he) e6 he
 have hwk:=kp (by decide) h.wks (yr h.wks (h.lev 0 (by omega)) (by decide))
 have hls:∀q,q<L.wks.length→_:=fun q hq=>kp (by decide) (h.lst q hq) (yr (h.lst q hq) (h.lev 0 (by omega)) (by decide))
 refine⟨e7,⟨kp (by decide) h.all (yr h.all (h.lev 0 (by omega)) (by decide)),World.ownsRow_nil _ _ _ _,fun i hi=>?_,fun i hi j hj=>?_,fun i hi j hj g hg=>?_,hwk,hls,h.run,kp (by decide) h.tls (yr h.tls (h.lev 0 (by omega)) (by decide))⟩,⟨rfl,hwk,hls,hD.lst,fun q hq g hg=>Or.inl hg,Tch.refl _ _⟩,⟨t5.os,t5.tape,t5.output,by simpa using t5.size,fun k hk hn=>?_⟩⟩
 ·by_cases e:i=0
  ·subst e;show World.ownsRow _ B _ 1 v5 (L.lev 0++[L.mem]).length ((List.range (L.lev 0++[L.mem]).length).map (fun j=>if 0=0∧j=(L.lev 0).length then V.mv else V.sv 0 j));refine zl (zl ?_ e5 (by decide)) e6 (by decide)
   have hl:(L.lev 0++[L.mem]).length=(L.lev 0).length+1:=by simp
   rw[hl,List.range_succ,List.map_append];have hm:(List.range (L.lev 0).length).map (fun j=>if 0=0∧j=(L.lev 0).length then V.mv else V.sv 0 j)=(List.range (L.lev 0).length).map (V.sv 0):=List.map_congr_left (fun j hj=>by have:=List.mem_range.1 hj;simp;omega);rw[hm]
   simpa using o5
  ·show World.ownsRow _ B _ 1 (if i=0 then v5 else V.lv i) (if i=0 then L.lev i++[L.mem] else L.lev i).length ((List.range (if i=0 then L.lev i++[L.mem] else L.lev i).length).map (fun j=>if i=0∧j=(L.lev 0).length then V.mv else V.sv i j));simp only[e,false_and,if_false];exact kp (by decide) (h.lev i hi) (fun g hg=>hD.lev i 0 hi (by omega) e g hg)
 ·show World.ownsRow _ 0 _ 3 (if i=0∧j=(L.lev 0).length then V.mv else V.sv i j) ((if i=0 then L.lev i++[L.mem] else L.lev i).getD j []).length (((if i=0 then L.lev i++[L.mem] else L.lev i).getD j []).flatMap eC);have hj':j<(if i=0 then L.lev i++[L.mem] else L.lev i).length:=hj;by_cases e:i=0
  ·subst e;simp only[if_true,List.length_append,List.length_cons,List.length_nil]at hj' ⊢;by_cases e2:j=(L.lev 0).length
   ·subst e2
    have hgd:(L.lev 0++[L.mem]).getD (L.lev 0).length []=L.mem:=by simp[List.getD_eq_getElem?_getD]
    simp only[true_and,if_true];rw[hgd];exact zW (kp (by decide) h.mem (yr h.mem (h.lev 0 (by omega)) (by decide))) (Nat.zero_le _)
   ·have hgd:(L.lev 0++[L.mem]).getD j []=(L.lev 0).getD j []:=by
     rw[List.getD_eq_getElem?_getD,List.getD_eq_getElem?_getD,List.getElem?_append_left (by omega)]
    simp only[true_and,if_neg e2];rw[hgd];exact kp (by decide) (h.seg 0 hi j (by omega)) (yr (h.seg 0 hi j (by omega)) (h.lev 0 (by omega)) (by decide))
  ·simp only[e,false_and,if_false]at hj' ⊢;exact kp (by decide) (h.seg i hi j hj') (yr (h.seg i hi j hj') (h.lev 0 (by omega)) (by decide))
 ·have hg':some g=(if i=0∧j=(L.lev 0).length then V.mv else V.sv i j).ownBlock:=hg;have hj':j<(if i=0 then L.lev i++[L.mem] else L.lev i).length:=hj;by_cases e:i=0∧j=(L.lev 0).length
  ·rw[if_pos e]at hg';exact hZ g (zw h.mem hg').1
  ·rw[if_neg e]at hg';refine h.sz i hi j ?_ g hg';by_cases e0:i=0
   ·subst e0;simp at hj' e;omega
   ·simpa [e0] using hj'
 ·rw[zt (fun q=>hn (Or.inl q)),zt (fun q=>hn (Or.inl q))];exact t5.block k hk (fun q=>hn (Or.inr q))
theorem uT {Z:Nat→Prop}{B cb:Nat}{w W8:World}{V:Rv}{L:Lg}{all:List Ent}{ts:List Tl}{wl:Nat→Value}{ks:List Wk}(hb:w.heap[cb]? = some (Obj.cells (zR V L) 234 (0,0))) (h:RfV Z B w V L all ts) (hd:DuI w W8 B V L.wks.length wl ks) (hr:∀q,q<L.wks.length→(ks.getD q zo).runs=(L.wks.getD q zo).runs∧(ks.getD q zo).read=(L.wks.getD q zo).read) :
  W8.heap[cb]? = some (Obj.cells (zR { V with wl:=wl } { L with wks:=ks }) 234 (0,0))∧RfV Z B W8 { V with wl:=wl } { L with wks:=ks } all ts:=by
 have hlen:=hd.len
 have ne:∀k C t,w.heap[k]? = some (Obj.cells C t (0,0))→t≠304→t≠3→¬(some k=V.wv.ownBlock∨∃q,q<L.wks.length∧some k=(V.wl q).ownBlock):=fun k C t hk h1 h2 q=>by
  rcases q with q|⟨p,hp,q⟩
  ·exact xM h.wks hk h1 q
  ·exact xM (h.lst p hp) hk h2 q
 have kp:∀ {B':Nat}{e:TypeId}{sz:Nat}{v:Value}{m:Nat}{xs:List Value},e≠304→e≠3→w.ownsRow B' e sz v m xs→W8.ownsRow B' e sz v m xs:=fun h1 h2 ho=>xK ho hd.tch (fun g hg=>by
  obtain⟨_,_,D,hD⟩:=zw ho hg
  exact ne g D _ hD h1 h2)
 have hcb:cb<w.heap.size:=(Mth.gI hb);refine⟨?_,kp (by decide) (by decide) h.all,kp (by decide) (by decide) h.mem,fun i hi=>kp (by decide) (by decide) (h.lev i hi),fun i hi j hj=>kp (by decide) (by decide) (h.seg i hi j hj),h.sz,?_,fun q hq=>?_,fun q hq i hi=>?_,kp (by decide) (by decide) h.tls⟩
 ·rw[hd.tch.block cb hcb (ne cb _ _ hb (by decide) (by decide)),hb];exact congrArg (fun C=>some (Obj.cells C 234 (0,0))) (sO (V:={ V with wl:=wl }) (V':=V) (L:={ L with wks:=ks }) (L':=L) rfl rfl rfl rfl rfl rfl rfl rfl hlen.symm rfl rfl rfl rfl)
 ·show W8.ownsRow B _ 3 V.wv ks.length (yz ks wl V.rd);rw[hlen];exact hd.row
 ·exact hd.lst q (by rw[←hlen];exact hq)
 ·have hq2:q<L.wks.length:=by rw[←hlen];exact hq
  have h1:(ks.getD q zo).runs=some i:=hi;show V.rd q=((ks.getD q zo).read:Int);rw[(hr q hq2).2];exact h.run q hq2 i (by rw[←(hr q hq2).1];exact h1)
theorem ot {Z:Nat→Prop}{w:World}{B cb:Nat}{V:Rv}{L:Lg}{all:List Ent}{ts:List Tl}(hb:w.heap[cb]? = some (Obj.cells (zR V L) 234 (0,0))) (h:RfV Z B w V L all ts) (s:ByteArray) (hs:60<s.size) (hs2:s.size≤1099511627776) (hm:L.memory≤1000) (hml:L.mem.length≤4194303):Calls Tryz.prog 129 #[zr cb, .string s] w fun e w'=>e=.returned (.tuple #[.int .i64 0, .int .i64 4])∧Below w.heap.size w w':=by
 have CF:=zx (sH hb h.mem hml hm);have hcb:cb<w.heap.size:=(Mth.gI hb)
 have F18:Hid (∀W,Below w.heap.size w W→W.cell? ⟨cb,18,none⟩=some (.bool false)):=fun W hW=>(zy (j:=18) (u:=.bool false) ((hW.block cb hcb).trans hb) rfl).1
 generalize decide (L.mem.length=L.memory)=fl at *;clear hb h
 go_enter Tryz.func129,Tryz.ntmps129
 go_wp2_with (first|(go_at_call 203;refine CF.out.mono ?_;rintro e W2 ⟨rfl,hb2⟩;have m18:=F18.out W2 hb2;have HB2:=zx hb2;clear hb2));go_ret2;exact⟨rfl,HB2.out⟩
theorem oq {Z:Nat→Prop}{w:World}{B cb:Nat}{V:Rv}{L:Lg}{all:List Ent}{ts:List Tl}(hb:w.heap[cb]? = some (Obj.cells (zR V L) 234 (0,0))) (h:RfV Z B w V L all ts) (s:ByteArray) (hs:s.size≤60) (hm:L.memory≤1000) (hml:L.mem.length≤4194303) (hf:L.mem.length=L.memory) (hfan:L.fan≤4) (hback:L.back≤4) (hlv:(L.lev 0).length≤4194304) (hbz:L.fan+L.back≤(L.lev 0).length):Calls Tryz.prog 129 #[zr cb, .string s] w fun e w'=>e=.returned (.tuple #[.int .i64 0, .int .i64 5])∧Below w.heap.size w w':=by
 have CF:=zx (sH hb h.mem hml hm);rw[decide_eq_true hf]at CF;have hcb:cb<w.heap.size:=(Mth.gI hb);obtain⟨a0,c0,hl0,hc0,hm0⟩:=zu (h.lev 0 (by omega));unfold maxLen at hm0
 have F18:Hid (∀W,Below w.heap.size w W→W.cell? ⟨cb,18,none⟩=some (.bool false)∧W.cell? ⟨cb,9,none⟩=some (.slice a0 (L.lev 0).length c0)∧W.cell? ⟨cb,1,none⟩=some (.int .i64 (L.fan:Int))∧W.cell? ⟨cb,2,none⟩=some (.int .i64 (L.back:Int))):=fun W hW=>by
  have hbw:=(hW.block cb hcb).trans hb;refine⟨(zy (j:=18) (u:=.bool false) hbw rfl).1,?_,(zy (j:=1) hbw rfl).1,(zy (j:=2) hbw rfl).1⟩;have:=(zy (j:=9) (u:=V.lv 0) hbw rfl).1;rw[hl0]at this;exact this
 clear hb h hl0 hf;generalize (L.lev 0).length=n0 at *;generalize L.fan=fan at *;generalize L.back=back at *;have hd2:decide ((fan:Int)+(back:Int)≤(n0:Int))=true:=decide_eq_true (by omega)
 go_enter Tryz.func129,Tryz.ntmps129
 go_upto_region 6 with(first|(go_at_call 203;refine CF.out.mono ?_;rintro e W2 ⟨rfl,hb2⟩;obtain⟨m18,m9,m1,m2⟩:=F18.out W2 hb2;have HB2:=zx hb2;clear hb2))
 have e9:=cell_regrown m9;have e1:=cell_regrown m1;have e2:=cell_regrown m2;refine wp_region_quiet_below (by kernel_rfl) (by kernel_rfl) ?_
 repeat(go_big_quiet_step (fail))
 refine wpQuiet_nil ?_;intro _ hw';obtain⟨⟨dq,osq⟩,hw''⟩:=hw';subst hw'';have hb3:Below w.heap.size w (Sort.grow (redrawn W2 dq) osq):=HB2.out.trans ((below_regrown W2 dq osq).mono HB2.out.size);have HB3:=zx hb3;clear hb3 e9 e1 e2 m18 m9 m1 m2;generalize Sort.grow (redrawn W2 dq) osq=w3 at *;go_wp2_with fail;go_ret2;exact⟨rfl,HB3.out⟩
theorem wn {w:World}{B:Nat}{e:TypeId}{sz:Nat}{a:Option Addr}{n c m:Nat}{xs:List Value}(h:w.ownsRow B e sz (.slice a n c) m xs):n≤c∧c≤maxLen:=by
 obtain⟨_,_,e,h1,h2⟩:=zu h
 injection e with e1 e2 e3
 omega
theorem yN (fan:Nat) (n:Nat→Nat) (ks:List Wk):∀i q,((zO fan n ks i).getD q zo).runs=(ks.getD q zo).runs∧((zO fan n ks i).getD q zo).read=(ks.getD q zo).read
 | 0,_=>⟨rfl,rfl⟩
 | i+1,q=>by
  have ih:=yN fan n ks i q;rw[zO];generalize zO fan n ks i=ks' at *;unfold yf;split
  ·by_cases e:i % ks'.length=q
   ·by_cases hq:q<ks'.length
    ·rw[e,List.getD_eq_getElem?_getD,List.getElem?_set_self hq];exact ih
    ·rw[List.set_eq_of_length_le (by omega)];exact ih
   ·rw[List.getD_eq_getElem?_getD,List.getElem?_set_ne e,←List.getD_eq_getElem?_getD];exact ih
  ·exact ih
theorem kR {Z:Nat→Prop}{w:World}{B cb:Nat}{V:Rv}{L:Lg}{all:List Ent}{ts:List Tl}(hb:w.heap[cb]? = some (Obj.cells (zR V L) 234 (0,0))) (h:RfV Z B w V L all ts) (hD:RfD B V L) (hZ:∀g,B≤g→Z g) (hB:B≤w.heap.size) (hcbB:B≤cb) (s:ByteArray) (hs:s.size≤60) (hI:Inv L all) (hM:all.length≤1048576) (hw4:L.wks.length≤4) (hnd:∀q,q<L.wks.length→(L.wks.getD q zo).list.length≤900) (hn:¬(L.memory≤L.mem.length∧L.fan+L.back≤(L.lev 0).length)) :
  Calls Tryz.prog 129 #[zr cb, .string s] w fun e w'=>e=.returned (.tuple #[.int .i64 (all.length:Int), .int .i64 0])∧Below B w w'∧∃V',w'.heap[cb]? = some (Obj.cells (zR V' (L.app s)) 234 (0,0))∧RfV Z B w' V' (L.app s) (all++[vG L all s]) ts:=by
 obtain⟨i0,hi0,hz0,hz1,hz2⟩:=info_parts Tryz.info66;obtain⟨j0,hj0,hk0,hk1,hk2⟩:=info_parts Tryz.infoRow;have hcfg:=hI.cfg;have hml:=hI.ml;have hsto:=hI.stoLen;have hlv:=hI.lev;have hcnt:=hI.cnt;have CF:=zx (sH hb h.mem (by omega) (by omega));have hcb:cb<w.heap.size:=(Mth.gI hb);obtain⟨a0,c0,hl0,hc0,hm0⟩:=zu (h.lev 0 (by omega));unfold maxLen at hm0;obtain⟨L1,hL1⟩:∃L1,L1=(if L.memory≤L.mem.length then L.roll else L):=⟨_,rfl⟩
 have happ:L.app s={ L1.more (vG L all s)with count:=L.count+1 }:=by
  unfold Lg.app vG;rw[hL1,hcnt]
 have hL1c:L1.clock=L.clock:=by rw[hL1];split <;> rfl
 have hL1m:L1.mem.length≤1048576:=by
  rw[hL1];split
  ·show([]:List Ent).length≤_;simp
  ·omega
 have TL:Hid (∀wx V1,wx.heap[cb]? = some (Obj.cells (zR V1 L1) 234 (0,0))→RfV Z B wx V1 L1 all ts→gh V1 L1→Below B w wx→B≤wx.heap.size∧Calls Tryz.prog 128 #[zr cb, .string s] wx (fun e W2=>∃av',e=.returned (.agg #[.int .i64 (L.clock:Int),av'])∧(∃a c,av'=.slice a (all.length+1) c)∧W2.heap[cb]? = some (Obj.cells (zR V1 L1) 234 (0,0))∧∀W3,W3=(W2.setCell ⟨cb,6,none⟩ (.int .i64 (L.clock:Int))).setCell ⟨cb,7,none⟩ av'→W3.heap[cb]? = some (Obj.cells (zR { V1 with av:=av' } L1) 234 (0,0))∧W3.ownsRow B 66 3 av' (all.length+1) ((all++[vG L all s]).flatMap eC)∧W3.ownsRow B 66 3 V1.mv L1.mem.length (L1.mem.flatMap eC)∧B≤W3.heap.size ∧
   ∀W5 W6 v6,Below W3.heap.size W3 W5→(W5.alloc (Obj.cells #[.int .i64 (all.length:Int), .int .i64 (L.clock:Int), .string s] 66)).grownBy W6 V1.mv.ownBlock→W6.ownsRow B 66 3 v6 (L1.mem.length+1) (L1.mem.flatMap eC++[.int .i64 (all.length:Int), .int .i64 (L.clock:Int), .string s])→W6.heap[cb]? = some (Obj.cells (zR { V1 with av:=av' } L1) 234 (0,0))∧Below B w (W6.setCell ⟨cb,8,none⟩ v6)∧∃V',(W6.setCell ⟨cb,8,none⟩ v6).heap[cb]? = some (Obj.cells (zR V' (L.app s)) 234 (0,0))∧RfV Z B (W6.setCell ⟨cb,8,none⟩ v6) V' (L.app s) (all++[vG L all s]) ts)):=by
  intro wx V1 hbx hx hsm hbw;have hBx:B≤wx.heap.size:=Nat.le_trans hB hbw.size;refine⟨hBx,(qK hbx hx.all s (by omega)).mono ?_⟩;rintro e W2 ⟨av',rfl,o2,b2⟩
  have hnx:vG L1 all s=vG L all s:=by unfold vG;rw[hL1c]
  rw[hnx]at o2;rw[hL1c]
  have hlen:(all++[vG L all s]).length=all.length+1:=by simp
  obtain⟨a,c,hav,_,_⟩:=zu o2;obtain⟨e2,hm3⟩:=bR hbx hx hBx b2 o2;rw[hL1c]at hm3;refine⟨av',rfl,⟨a,c,by rw[hav,hlen]⟩,e2,fun W3 hW3=>?_⟩;obtain⟨e3,r3,n3,t3⟩:=hm3 W3 hW3;have hB3:B≤W3.heap.size:=Nat.le_trans hBx t3.size;refine⟨e3,by rw[←hlen];exact r3.all,r3.mem,hB3,fun W5 W6 v6 b5 g6 o6=>?_⟩;obtain⟨e6,hf⟩:=bQ (c:=L.count+1) (e:=vG L all s) e3 r3 hsm n3 b5 g6 o6;obtain⟨e7,r7,t7⟩:=hf _ rfl;refine⟨e6,?_,_,by rw[happ];exact e7,by rw[happ];exact r7⟩;have bx3:Below B wx W3:=zK t3 (fun k q=>by rw[q];exact hcbB) hBx
  have b37:Below B W3 _:=zK t7 (fun k q=>by
   rcases q with q|q
   ·rw[q];exact hcbB
   ·exact(zw r3.mem q).1) hB3
  exact hbw.trans (bx3.trans b37)
 have hroll:∀v5,L.roll={ (sS L)with wks:=zO (sS L).fan (fun i=>((sS L).lev i).length) (sS L).wks 5 }∧(oX V (L.lev 0).length v5).wl=V.wl:=fun _=>⟨rfl,rfl⟩
 have FU:Hid (L.mem.length=L.memory→∀w3 W5 v5,Below w.heap.size w w3→(w3.alloc (Obj.cells #[V.mv] 57)).grownBy W5 (V.lv 0).ownBlock→W5.ownsRow B 57 1 v5 ((L.lev 0).length+1) ((List.range (L.lev 0).length).map (V.sv 0)++[V.mv])→(v5.ownBlock=(V.lv 0).ownBlock∨v5.ownBlock=some (w3.alloc (Obj.cells #[V.mv] 57)).heap.size)→W5.heap[cb]? = some (Obj.cells (zR V L) 234 (0,0))∧∀W7,W7=(W5.setCell ⟨cb,9,none⟩ v5).setCell ⟨cb,8,none⟩ (.slice none 0 0)→Calls Tryz.prog 204 #[zr cb] W7 (fun e W8=>e=.returned (.tuple #[])∧∃V1,W8.heap[cb]? = some (Obj.cells (zR V1 L1) 234 (0,0))∧RfV Z B W8 V1 L1 all ts∧gh V1 L1∧Below B w W8)):=by
  intro hfu w3 W5 v5 hb3 g5 o5 n5
  have hl1:L1=L.roll:=by rw[hL1,if_pos (by omega)]
  have h3:=h.below hb3;have hbc:=(hb3.block cb hcb).trans hb;have hB3:B≤w3.heap.size:=Nat.le_trans hB hb3.size;obtain⟨e5,hm⟩:=ei hbc h3 hD hZ g5 o5 n5;refine⟨e5,fun W7 hW7=>?_⟩;obtain⟨e7,r7,d7,t7⟩:=hm W7 hW7;have hB7:B≤W7.heap.size:=Nat.le_trans hB3 t7.size;refine(jW (V:=oX V (L.lev 0).length v5) (L:=sS L) (B:=B) e7 d7 (fun i hi=>?_) (by show L.fan≤1000;omega) ⟨by show 0<L.wks.length;omega,hw4⟩ hB7 hnd).mono ?_
  ·obtain⟨a,c,ha,_,_⟩:=zu (r7.lev i hi);refine⟨a,c,ha,?_⟩;show(if i=0 then L.lev i++[L.mem] else L.lev i).length≤_;have:=hlv i hi;split
   ·simp;omega
   ·omega
  ·rintro e W8 ⟨rfl,wl',d8⟩;obtain⟨e8,r8⟩:=uT e7 r7 d8 (fun q _=>yN _ _ _ 5 q);refine⟨rfl,_,by rw[hl1];exact e8,by rw[hl1];exact r8,?_,?_⟩
   ·intro i _ j _ g _ hq;cases hq
   ·have b37:Below B w3 W7:=zK t7 (fun k q=>by
     rcases q with q|q
     ·rw[q];exact hcbB
     ·exact(zw (h3.lev 0 (by omega)) q).1) hB3
    have b78:Below B W7 W8:=zK d8.tch (fun k q=>by
     rcases q with q|⟨p,hp,q⟩
     ·exact(zw d7.row q).1
     ·exact(zw (d7.lst p hp) q).1) hB7
    exact(hb3.mono hB).trans (b37.trans b78)
 have FE:Hid (¬L.mem.length=L.memory→∀w3,Below w.heap.size w w3→∃V1,w3.heap[cb]? = some (Obj.cells (zR V1 L1) 234 (0,0))∧RfV Z B w3 V1 L1 all ts∧gh V1 L1∧Below B w w3):=by
  intro hfu w3 hb3
  have hl1:L1=L:=by rw[hL1,if_neg (by omega)]
  rw[hl1]
  exact⟨V,(hb3.block cb hcb).trans hb,h.below hb3,fun i hi j hj g hg hq=>by
   have h1:=hD.sg i hi j hj g hg;have h2:=(zw h.mem hq).1
   omega,hb3.mono hB⟩
 obtain⟨am,cm,hmv,hcm,hmm⟩:=zu h.mem
 have F18:Hid (∀W,Below w.heap.size w W→W.cell? ⟨cb,18,none⟩=some (.bool false)∧W.cell? ⟨cb,9,none⟩=some (.slice a0 (L.lev 0).length c0)∧W.cell? ⟨cb,8,none⟩=some (.slice am L.mem.length cm)∧W.cell? ⟨cb,1,none⟩=some (.int .i64 (L.fan:Int))∧W.cell? ⟨cb,2,none⟩=some (.int .i64 (L.back:Int))∧W.ownsRow B 57 1 (.slice a0 (L.lev 0).length c0) (L.lev 0).length ((List.range (L.lev 0).length).map (V.sv 0))∧B≤W.heap.size):=fun W hW=>by
  have hbw:=(hW.block cb hcb).trans hb;refine⟨(zy (j:=18) (u:=.bool false) hbw rfl).1,?_,?_,(zy (j:=1) hbw rfl).1,(zy (j:=2) hbw rfl).1,?_,Nat.le_trans hB hW.size⟩
  ·have:=(zy (j:=9) (u:=V.lv 0) hbw rfl).1;rw[hl0]at this;exact this
  ·have:=(zy (j:=8) (u:=V.mv) hbw rfl).1;rw[hmv]at this;exact this
  ·rw[←hl0];exact zq (h.lev 0 (by omega)) hW
 have F5:Hid (∀W5:World,W5.heap[cb]? = some (Obj.cells (zR V L) 234 (0,0))→W5.cell? ⟨cb,9,none⟩=some (.slice a0 (L.lev 0).length c0)∧W5.frozen? ⟨cb,9,none⟩=false∧W5.cell? ⟨cb,8,none⟩=some (.slice am L.mem.length cm)∧W5.frozen? ⟨cb,8,none⟩=false∧∀v,(W5.setCell ⟨cb,9,none⟩ v).cell? ⟨cb,8,none⟩=some (.slice am L.mem.length cm)∧(W5.setCell ⟨cb,9,none⟩ v).frozen? ⟨cb,8,none⟩=false):=fun W5 hb5=>by
  obtain⟨x9,y9⟩:=zy (j:=9) (u:=V.lv 0) hb5 rfl;obtain⟨x8,y8⟩:=zy (j:=8) (u:=V.mv) hb5 rfl;rw[hl0]at x9;rw[hmv]at x8;refine⟨x9,y9,x8,y8,fun v=>?_⟩;obtain⟨z8,z9⟩:=zy (j:=8) (u:=V.mv) (zh (j:=9) (v:=v) hb5) rfl;rw[hmv]at z8;exact⟨z8,z9⟩
 rw[hmv,hl0]at FU
 have hbz:¬(L.mem.length=L.memory∧L.fan+L.back≤(L.lev 0).length):=by omega
 have hfb:L.fan≤4∧L.back≤4:=by omega
 have hl0b:(L.lev 0).length≤1048576:=by have:=hlv 0 (by omega);omega
 clear hb h hD hI hcfg hml hsto hlv hcnt happ hL1 hL1c hl0 hmv hroll hn hnd hw4;obtain⟨LF,hLF⟩:∃LF,LF=L.app s:=⟨_,rfl⟩;rw[←hLF]at TL ⊢;clear hLF;generalize (L.lev 0).length=n0 at *;generalize L.mem.length=ml at *;generalize L.fan=fan at *;generalize L.back=back at *;generalize (List.range n0).map (V.sv 0)=xl at *;by_cases hfu:ml=L.memory
 ·rw[decide_eq_true hfu]at CF;have FU2:=zx (FU.out hfu);have hd2:decide ((fan:Int)+(back:Int)≤(n0:Int))=false:=decide_eq_false (by omega);clear FE FU hbz hfu
  go_enter Tryz.func129,Tryz.ntmps129
  go_upto_region 6 with(first|(go_at_call 203;refine CF.out.mono ?_;rintro e W2 ⟨rfl,hb2⟩;obtain⟨m18,m9,m8,m1,m2,_,_⟩:=F18.out W2 hb2;have HB2:=zx hb2;clear hb2))
  have e9:=cell_regrown m9;have e1:=cell_regrown m1;have e2:=cell_regrown m2;refine wp_region_quiet_below (by kernel_rfl) (by kernel_rfl) ?_
  repeat(go_big_quiet_step (fail))
  refine wpQuiet_nil ?_;intro _ hw';obtain⟨⟨dq,osq⟩,hw''⟩:=hw';subst hw'';have hb3:Below w.heap.size w (Sort.grow (redrawn W2 dq) osq):=HB2.out.trans ((below_regrown W2 dq osq).mono HB2.out.size);clear m18 m9 m8 m1 m2 e9 e1 e2;generalize Sort.grow (redrawn W2 dq) osq=w3 at *;obtain⟨_,m9,m8,_,_,orw,hB3⟩:=F18.out w3 hb3;have HOR:=zx orw;have HB3:=zx hb3;have bz:=zv w3 (Obj.cells #[.slice am ml cm] 57);have m9':=(bz.cell (p:=⟨cb,9,none⟩) (World.block_lt_of_cell? _ _ m9)).trans m9;have m8':=(bz.cell (p:=⟨cb,8,none⟩) (World.block_lt_of_cell? _ _ m8)).trans m8;clear orw hb3 bz
  go_upto_region 9 with fail
  go_cut [] from 42 (fun wq=>(wq.cell? ⟨cb,8,none⟩=some (.slice am ml cm)∧wq.frozen? ⟨cb,8,none⟩=false)∧∀W7,W7=wq.setCell ⟨cb,8,none⟩ (.slice none 0 0)→Calls Tryz.prog 204 #[zr cb] W7 (fun e W8=>e=.returned (.tuple #[])∧∃V1,W8.heap[cb]? = some (Obj.cells (zR V1 L1) 234 (0,0))∧RfV Z B W8 V1 L1 all ts∧gh V1 L1∧Below B w W8))
  case first=>
   go_region_law (refine zQ _ rfl _ _ 24 rfl B 57 j0 (.slice none 0 0) 1 24 Tryz.underlying24 hj0 hk0 hk1 hk2 rfl (by decide) _ _ _ rfl (by exact HOR.out.alloc _) ⟨w3.heap.size,0,none⟩ 1 1 [.slice am ml cm] rfl rfl (by exact zM w3.drew _ _ _ rfl) (by intro u hu;simp at hu;subst hu;rfl) (by unfold maxLen;omega) (by omega) (by simp;omega) ?_;intro v5 W5 o5 g5 n5;have g6:(w3.alloc (Obj.cells #[.slice am ml cm] 57)).grownBy W5 (Value.slice a0 n0 c0).ownBlock:=⟨g5.os,g5.tape,g5.output,g5.size,g5.block⟩;obtain⟨e5,hdue⟩:=FU2.out w3 W5 v5 HB3.out g6 o5 n5;obtain⟨x9,y9,x8,y8,h98⟩:=F5.out W5 e5;have H98:=zx h98;clear h98;have HDUE:=zx hdue;have HE5:=zx e5;obtain⟨a5,c5,rfl,_,_⟩:=zu o5;clear o5 g5 g6 n5 hdue e5)
   all_goals (
    go_wp2_with fail
    go_meet
    exact⟨H98.out _,fun W7 hW7=>HDUE.out W7 hW7⟩)
  case rest=>
   obtain⟨⟨x8,y8⟩,hdue⟩:=hcut;have CDU:=zx (hdue _ rfl);clear hdue m9 m8 m9' m8' F5
   go_upto_region 12 with(first|(go_at_call 204;refine CDU.out.mono ?_;rintro e wx ⟨rfl,hra⟩;have HRA:=zx hra;clear hra))
   obtain⟨V1,hbx,hx,hsm,hbw⟩:=HRA.out;obtain⟨hBx,hAf⟩:=TL.out wx V1 hbx hx hsm hbw;have CA:=zx hAf;obtain⟨am1,cm1,hmv1,hcm1,hmm1⟩:=zu hx.mem;clear hbx hx hsm hbw hAf HRA
   go_upto_region 13 with(first|(go_at_call 128;refine CA.out.mono ?_;rintro e W2 ⟨av',rfl,⟨aa,ca,rfl⟩,e2,hf3⟩;obtain⟨d6,f6⟩:=zy (j:=6) (u:=.int .i64 (L1.clock:Int)) e2 rfl;obtain⟨d7,f7⟩:=zy (j:=7) (u:=V1.av) e2 rfl;have HF3:=zx hf3;clear e2 hf3))
   obtain⟨W3,hW3⟩:∃W3,W3=(W2.setCell ⟨cb,6,none⟩ (.int .i64 (L.clock:Int))).setCell ⟨cb,7,none⟩ (.slice aa (all.length+1) ca):=⟨_,rfl⟩;obtain⟨e3,o3,om3,hB3,hf5⟩:=HF3.out W3 hW3;rw[←hW3];clear hW3 HF3 CA d6 f6 d7 f7;obtain⟨x7,_⟩:=zy (j:=7) (u:=.slice aa (all.length+1) ca) e3 rfl;obtain⟨x8,_⟩:=zy (j:=8) (u:=V1.mv) e3 rfl;rw[hmv1]at x8 om3 hf5;obtain⟨ga,rfl⟩:=zf o3 (by omega)
   have hgd:(all++[vG L all s]).getD all.length e0=vG L all s:=by simp[List.getD_eq_getElem?_getD]
   obtain⟨q0,q1,q2⟩:=ya (all++[vG L all s]) all.length (by simp);rw[hgd]at q0 q1 q2;have p0:=zg o3 q0;have p1:=zg o3 q1;have p2:=zg o3 q2;have hca:=wn o3;have HOM:=zx om3;have HF5:=zx hf5;have HE3:=zx e3;unfold vG at p0 p1 p2;clear o3 om3 hf5 e3 q0 q1 q2 hgd;obtain⟨hca2,hca3⟩:=hca;unfold maxLen at hca3
   have hwr:IntKind.i64.wrap (all.length:Int)=(all.length:Int):=by rw[IntKind.wrap_i64];omega
   have hlt1:(all.length:Int)<(all.length:Int)+1:=by omega
   have b3:=zv W3 (Obj.cells #[.int .i64 0, .int .i64 0, .string ⟨#[]⟩] 66);have x7':=(b3.cell (p:=⟨cb,7,none⟩) (World.block_lt_of_cell? _ _ x7)).trans x7;have p0':=(b3.cell (p:=⟨ga,all.length*3,none⟩) (World.block_lt_of_cell? _ _ p0)).trans p0;have p1':=(b3.cell (p:=⟨ga,all.length*3+1,none⟩) (World.block_lt_of_cell? _ _ p1)).trans p1;have p2':=(b3.cell (p:=⟨ga,all.length*3+2,none⟩) (World.block_lt_of_cell? _ _ p2)).trans p2
   have BE:Hid (Below W3.heap.size W3 (W3.alloc (Obj.cells #[.int .i64 (all.length:Int), .int .i64 (L.clock:Int), .string s] 66)).drew∧(W3.alloc (Obj.cells #[.int .i64 (all.length:Int), .int .i64 (L.clock:Int), .string s] 66)).drew.heap[W3.heap.size]? = some (Obj.cells #[.int .i64 (all.length:Int), .int .i64 (L.clock:Int), .string s] 66 (0,0))):=by
    have b:=zv W3 (Obj.cells #[.int .i64 (all.length:Int), .int .i64 (L.clock:Int), .string s] 66);exact⟨⟨b.os,b.tape,b.output,b.size,b.block⟩,zj W3 _ _⟩
   clear b3
   go_cut [7] from 68 (fun p wq=>p=.pointer (some ⟨W3.heap.size,0,none⟩)∧Below W3.heap.size W3 wq∧wq.heap[W3.heap.size]? = some (Obj.cells #[.int .i64 (all.length:Int), .int .i64 (L.clock:Int), .string s] 66 (0,0)))
   case first=>
    go_region_law fail
    all_goals (go_wp2_with fail;go_meet;exact⟨rfl,BE.out.1,BE.out.2⟩)
   case rest=>
    obtain⟨rfl,bq,eq⟩:=hcut;have hlt3:cb<W3.heap.size:=(Mth.gI HE3.out);have y8:=(bq.cell (p:=⟨cb,8,none⟩) hlt3).trans x8;obtain⟨u0,_⟩:=zy (j:=0) (u:=.int .i64 (all.length:Int)) eq rfl;obtain⟨u1,_⟩:=zy (j:=1) (u:=.int .i64 (L.clock:Int)) eq rfl;obtain⟨u2,_⟩:=zy (j:=2) (u:=.string s) eq rfl;have HOC:=zx (zq HOM.out bq);have hBc:B≤wc.heap.size:=Nat.le_trans hB3 bq.size;have bz:=zv wc (Obj.cells #[.int .i64 (all.length:Int), .int .i64 (L.clock:Int), .string s] 66);have y8':=(bz.cell (p:=⟨cb,8,none⟩) (World.block_lt_of_cell? _ _ y8)).trans y8;have HBQ:=zx bq
    have FN:Hid (∀W6 v6,(wc.alloc (Obj.cells #[.int .i64 (all.length:Int), .int .i64 (L.clock:Int), .string s] 66)).grownBy W6 (Value.slice am1 L1.mem.length cm1).ownBlock→W6.ownsRow B 66 3 v6 (L1.mem.length+1) (L1.mem.flatMap eC++[.int .i64 (all.length:Int), .int .i64 (L.clock:Int), .string s])→(W6.cell? ⟨cb,8,none⟩=some (.slice am1 L1.mem.length cm1)∧W6.frozen? ⟨cb,8,none⟩=false)∧(W6.cell? ⟨W3.heap.size,0,none⟩=some (.int .i64 (all.length:Int)))∧Below B w (W6.setCell ⟨cb,8,none⟩ v6)∧∃V',(W6.setCell ⟨cb,8,none⟩ v6).heap[cb]? = some (Obj.cells (zR V' LF) 234 (0,0))∧RfV Z B (W6.setCell ⟨cb,8,none⟩ v6) V' LF (all++[vG L all s]) ts):=by
     intro W6 v6 g6 o6;obtain⟨e6,hz⟩:=HF5.out wc W6 v6 HBQ.out g6 o6;obtain⟨w8,z8⟩:=zy (j:=8) (u:=.slice am1 L1.mem.length cm1) e6 rfl;refine⟨⟨w8,z8⟩,?_,hz⟩;have t6:=xG g6;have hW3c:W3.heap.size<wc.heap.size:=(Mth.gI eq)
     have e6':=(t6.block W3.heap.size hW3c (fun q=>by
      have:=(zw HOM.out q).2.1
      omega)).trans eq
     exact(zy (j:=0) e6' rfl).1
    clear x7 x8 p0 p1 p2 x7' p0' p1' p2' bq bz HF5 HOM HE3 BE;generalize L1.mem.flatMap eC=xm at *;generalize L1.mem.length=lm at *
    have hne3:¬W3.heap.size=cb:=by omega
    generalize W3.heap.size=eb at *
    go_upto_region 14 with fail
    go_region_law (refine zQ _ rfl _ _ 57 rfl B 66 i0 (.agg #[.int .i64 0, .int .i64 0, .string ByteArray.empty]) 3 32 Tryz.underlying57 hi0 hz0 hz1 hz2 rfl (by decide) _ _ _ rfl (by exact HOC.out.alloc _) ⟨wc.heap.size,0,none⟩ 1 1 [.int .i64 (all.length:Int), .int .i64 (L.clock:Int), .string s] rfl rfl (by exact zM wc.drew _ _ _ rfl) (by intro u hu;simp at hu;rcases hu with rfl|rfl|rfl <;> rfl) (by unfold maxLen;omega) (by omega) (by simp;omega) ?_;intro v6 W6 o6 g6 n6;have g7:(wc.alloc (Obj.cells #[.int .i64 (all.length:Int), .int .i64 (L.clock:Int), .string s] 66)).grownBy W6 (Value.slice am1 lm cm1).ownBlock:=⟨g6.os,g6.tape,g6.output,g6.size,g6.block⟩;obtain⟨⟨fa,fb⟩,fc,hfin⟩:=FN.out W6 v6 g7 o6;have HFIN:=zx hfin;obtain⟨a6,c6,rfl,_,_⟩:=zu o6;clear o6 g6 g7 n6 hfin)
    all_goals (
     go_wp2_with fail;go_ret2
     exact⟨rfl,HFIN.out.1,HFIN.out.2⟩)
 ·rw[decide_eq_false hfu]at CF;have FE2:=zx (FE.out hfu);clear FE FU hbz F5
  go_enter Tryz.func129,Tryz.ntmps129
  go_upto_region 6 with(first|(go_at_call 203;refine CF.out.mono ?_;rintro e W2 ⟨rfl,hb2⟩;obtain⟨m18,m9,m8,m1,m2,_,_⟩:=F18.out W2 hb2;have HB2:=zx hb2;clear hb2))
  refine wp_region_quiet_below (by kernel_rfl) (by kernel_rfl) ?_
  repeat(go_big_quiet_step (fail))
  refine wpQuiet_nil ?_;intro _ hw';obtain⟨⟨dq,osq⟩,hw''⟩:=hw';subst hw'';have HRA:=zx (FE2.out _ (HB2.out.trans ((below_regrown W2 dq osq).mono HB2.out.size)));clear m18 m9 m8 m1 m2;generalize Sort.grow (redrawn W2 dq) osq=wx at *
  go_upto_region 12 with fail
  obtain⟨V1,hbx,hx,hsm,hbw⟩:=HRA.out;obtain⟨hBx,hAf⟩:=TL.out wx V1 hbx hx hsm hbw;have CA:=zx hAf;obtain⟨am1,cm1,hmv1,hcm1,hmm1⟩:=zu hx.mem;clear hbx hx hsm hbw hAf HRA
  go_upto_region 13 with(first|(go_at_call 128;refine CA.out.mono ?_;rintro e W2 ⟨av',rfl,⟨aa,ca,rfl⟩,e2,hf3⟩;obtain⟨d6,f6⟩:=zy (j:=6) (u:=.int .i64 (L1.clock:Int)) e2 rfl;obtain⟨d7,f7⟩:=zy (j:=7) (u:=V1.av) e2 rfl;have HF3:=zx hf3;clear e2 hf3))
  obtain⟨W3,hW3⟩:∃W3,W3=(W2.setCell ⟨cb,6,none⟩ (.int .i64 (L.clock:Int))).setCell ⟨cb,7,none⟩ (.slice aa (all.length+1) ca):=⟨_,rfl⟩;obtain⟨e3,o3,om3,hB3,hf5⟩:=HF3.out W3 hW3;rw[←hW3];clear hW3 HF3 CA d6 f6 d7 f7;obtain⟨x7,_⟩:=zy (j:=7) (u:=.slice aa (all.length+1) ca) e3 rfl;obtain⟨x8,_⟩:=zy (j:=8) (u:=V1.mv) e3 rfl;rw[hmv1]at x8 om3 hf5;obtain⟨ga,rfl⟩:=zf o3 (by omega)
  have hgd:(all++[vG L all s]).getD all.length e0=vG L all s:=by simp[List.getD_eq_getElem?_getD]
  obtain⟨q0,q1,q2⟩:=ya (all++[vG L all s]) all.length (by simp);rw[hgd]at q0 q1 q2;have p0:=zg o3 q0;have p1:=zg o3 q1;have p2:=zg o3 q2;have hca:=wn o3;have HOM:=zx om3;have HF5:=zx hf5;have HE3:=zx e3;unfold vG at p0 p1 p2;clear o3 om3 hf5 e3 q0 q1 q2 hgd;obtain⟨hca2,hca3⟩:=hca;unfold maxLen at hca3
  have hwr:IntKind.i64.wrap (all.length:Int)=(all.length:Int):=by rw[IntKind.wrap_i64];omega
  have hlt1:(all.length:Int)<(all.length:Int)+1:=by omega
  have b3:=zv W3 (Obj.cells #[.int .i64 0, .int .i64 0, .string ⟨#[]⟩] 66);have x7':=(b3.cell (p:=⟨cb,7,none⟩) (World.block_lt_of_cell? _ _ x7)).trans x7;have p0':=(b3.cell (p:=⟨ga,all.length*3,none⟩) (World.block_lt_of_cell? _ _ p0)).trans p0;have p1':=(b3.cell (p:=⟨ga,all.length*3+1,none⟩) (World.block_lt_of_cell? _ _ p1)).trans p1;have p2':=(b3.cell (p:=⟨ga,all.length*3+2,none⟩) (World.block_lt_of_cell? _ _ p2)).trans p2
  have BE:Hid (Below W3.heap.size W3 (W3.alloc (Obj.cells #[.int .i64 (all.length:Int), .int .i64 (L.clock:Int), .string s] 66)).drew∧(W3.alloc (Obj.cells #[.int .i64 (all.length:Int), .int .i64 (L.clock:Int), .string s] 66)).drew.heap[W3.heap.size]? = some (Obj.cells #[.int .i64 (all.length:Int), .int .i64 (L.clock:Int), .string s] 66 (0,0))):=by
   have b:=zv W3 (Obj.cells #[.int .i64 (all.length:Int), .int .i64 (L.clock:Int), .string s] 66);exact⟨⟨b.os,b.tape,b.output,b.size,b.block⟩,zj W3 _ _⟩
  clear b3
  go_cut [7] from 68 (fun p wq=>p=.pointer (some ⟨W3.heap.size,0,none⟩)∧Below W3.heap.size W3 wq∧wq.heap[W3.heap.size]? = some (Obj.cells #[.int .i64 (all.length:Int), .int .i64 (L.clock:Int), .string s] 66 (0,0)))
  case first=>
   go_region_law fail
   all_goals (go_wp2_with fail;go_meet;exact⟨rfl,BE.out.1,BE.out.2⟩)
  case rest=>
   obtain⟨rfl,bq,eq⟩:=hcut;have hlt3:cb<W3.heap.size:=(Mth.gI HE3.out);have y8:=(bq.cell (p:=⟨cb,8,none⟩) hlt3).trans x8;obtain⟨u0,_⟩:=zy (j:=0) (u:=.int .i64 (all.length:Int)) eq rfl;obtain⟨u1,_⟩:=zy (j:=1) (u:=.int .i64 (L.clock:Int)) eq rfl;obtain⟨u2,_⟩:=zy (j:=2) (u:=.string s) eq rfl;have HOC:=zx (zq HOM.out bq);have hBc:B≤wc.heap.size:=Nat.le_trans hB3 bq.size;have bz:=zv wc (Obj.cells #[.int .i64 (all.length:Int), .int .i64 (L.clock:Int), .string s] 66);have y8':=(bz.cell (p:=⟨cb,8,none⟩) (World.block_lt_of_cell? _ _ y8)).trans y8;have HBQ:=zx bq
   have FN:Hid (∀W6 v6,(wc.alloc (Obj.cells #[.int .i64 (all.length:Int), .int .i64 (L.clock:Int), .string s] 66)).grownBy W6 (Value.slice am1 L1.mem.length cm1).ownBlock→W6.ownsRow B 66 3 v6 (L1.mem.length+1) (L1.mem.flatMap eC++[.int .i64 (all.length:Int), .int .i64 (L.clock:Int), .string s])→(W6.cell? ⟨cb,8,none⟩=some (.slice am1 L1.mem.length cm1)∧W6.frozen? ⟨cb,8,none⟩=false)∧(W6.cell? ⟨W3.heap.size,0,none⟩=some (.int .i64 (all.length:Int)))∧Below B w (W6.setCell ⟨cb,8,none⟩ v6)∧∃V',(W6.setCell ⟨cb,8,none⟩ v6).heap[cb]? = some (Obj.cells (zR V' LF) 234 (0,0))∧RfV Z B (W6.setCell ⟨cb,8,none⟩ v6) V' LF (all++[vG L all s]) ts):=by
    intro W6 v6 g6 o6;obtain⟨e6,hz⟩:=HF5.out wc W6 v6 HBQ.out g6 o6;obtain⟨w8,z8⟩:=zy (j:=8) (u:=.slice am1 L1.mem.length cm1) e6 rfl;refine⟨⟨w8,z8⟩,?_,hz⟩;have t6:=xG g6;have hW3c:W3.heap.size<wc.heap.size:=(Mth.gI eq)
    have e6':=(t6.block W3.heap.size hW3c (fun q=>by
     have:=(zw HOM.out q).2.1
     omega)).trans eq
    exact(zy (j:=0) e6' rfl).1
   clear x7 x8 p0 p1 p2 x7' p0' p1' p2' bq bz HF5 HOM HE3 BE;generalize L1.mem.flatMap eC=xm at *;generalize L1.mem.length=lm at *
   have hne3:¬W3.heap.size=cb:=by omega
   generalize W3.heap.size=eb at *
   go_upto_region 14 with fail
   go_region_law (refine zQ _ rfl _ _ 57 rfl B 66 i0 (.agg #[.int .i64 0, .int .i64 0, .string ByteArray.empty]) 3 32 Tryz.underlying57 hi0 hz0 hz1 hz2 rfl (by decide) _ _ _ rfl (by exact HOC.out.alloc _) ⟨wc.heap.size,0,none⟩ 1 1 [.int .i64 (all.length:Int), .int .i64 (L.clock:Int), .string s] rfl rfl (by exact zM wc.drew _ _ _ rfl) (by intro u hu;simp at hu;rcases hu with rfl|rfl|rfl <;> rfl) (by unfold maxLen;omega) (by omega) (by simp;omega) ?_;intro v6 W6 o6 g6 n6;have g7:(wc.alloc (Obj.cells #[.int .i64 (all.length:Int), .int .i64 (L.clock:Int), .string s] 66)).grownBy W6 (Value.slice am1 lm cm1).ownBlock:=⟨g6.os,g6.tape,g6.output,g6.size,g6.block⟩;obtain⟨⟨fa,fb⟩,fc,hfin⟩:=FN.out W6 v6 g7 o6;have HFIN:=zx hfin;obtain⟨a6,c6,rfl,_,_⟩:=zu o6;clear o6 g6 g7 n6 hfin)
   all_goals (
    go_wp2_with fail;go_ret2
    exact⟨rfl,HFIN.out.1,HFIN.out.2⟩)
end Go.Proofs.YtkncboinfcnklaaGreatDoor.Rl
