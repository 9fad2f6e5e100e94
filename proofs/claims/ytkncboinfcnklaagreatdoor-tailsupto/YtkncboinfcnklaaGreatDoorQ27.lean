import Derived.Test.YtkncboinfcnklaaGreatDoorQ26
import Derived.Test.YtkncboinfcnklaaGreatDoorQ3
import Derived.Test.YtkncboinfcnklaaGreatDoorQ14
set_option maxRecDepth 100000
set_option maxHeartbeats 8000000
namespace Go.Proofs.YtkncboinfcnklaaGreatDoor.Rl
open Go.RowKit Go.Deep Go.Shelf Go.Proofs.YtkncboinfcnklaaGreatDoor.Mth
theorem ij {w:World}{cb:Nat}(x:ByteArray) (hx:x.size≤1099511627776) (hw:yB x=false) (lo hi:Int):Calls Tryz.prog 205 #[zr cb, .string x, .int .i64 lo, .int .i64 hi] w fun e w'=>e=.returned (.tuple #[.slice none 0 0, .int .i64 0, .int .i64 6])∧w'=w:=by
 have CW:=zx (xU x w hx);rw[hw]at CW
 go_enter Tryz.func205,Tryz.ntmps205
 go_wp2_with (first|(go_at_call 248;refine CW.out.mono ?_;rintro e W ⟨rfl,hW⟩;rw[hW];clear hW W))
 go_ret3
 exact⟨rfl,rfl⟩
theorem yl {w w':World}{o:Obj}{v:Value}(hg:(w.alloc o).grownBy w' v.ownBlock):Tch (fun k=>some k=v.ownBlock) w w':=by
 have b:=zv w o;exact⟨hg.os.trans b.os,hg.tape.trans b.tape,hg.output.trans b.output,by have:=hg.size;simp at this;omega,fun k hk hn=>(hg.block k (by simp;omega) hn).trans (b.block k hk)⟩
theorem yk {w W W':World}{e:TypeId}{sz:Nat}{v:Value}{n:Nat}{xs:List Value}(hb:Below w.heap.size w W) (ht:Tch (fun k=>some k=v.ownBlock) W W') (ho:W.ownsRow w.heap.size e sz v n xs):Below w.heap.size w W':=
 ⟨ht.os.trans hb.os,ht.tape.trans hb.tape,ht.output.trans hb.output,Nat.le_trans hb.size ht.size,fun k hk=>(ht.block k (Nat.lt_of_lt_of_le hk hb.size) (fun q=>by have:=(zw ho q).1;omega)).trans (hb.block k hk)⟩
def qP (L:Lg) (x:ByteArray) (lo hi:Int) (e:Ent):Bool:=ym x (wd e.text)&&(!decide (e.time+(L.keep:Int)<(L.clock:Int))&&(decide (lo≤e.time)&&decide (e.time≤hi)))
theorem qP_gq (L:Lg) (x:ByteArray) (lo hi:Int) (e:Ent):qP L x lo hi e=gq L x lo hi e:=by
 unfold qP gq jR;cases ym x (wd e.text)
 ·rfl
 ·simp only[Bool.true_and];rw[Bool.eq_iff_iff];simp;omega
theorem lQ {Z:Nat→Prop}{B:Nat}{w:World}{cb:Nat}{V:Rv}{L:Lg}{all:List Ent}{ts:List Tl}(hb:w.heap[cb]? = some (Obj.cells (zR V L) 234 (0,0))) (h:RfV Z B w V L all ts) (hI:Inv L all) (hM:all.length≤1048576) (x:ByteArray) (hx:x.size≤1099511627776) (hw:yB x=true) (lo hi:Int) :
  Calls Tryz.prog 205 #[zr cb, .string x, .int .i64 lo, .int .i64 hi] w fun e w'=>∃v,e=.returned (.tuple #[v, .int .i64 (vt x lo hi (yv L.lev):Int), .int .i64 0])∧CurE w w' v (all.filter (qP L x lo hi)):=by
 obtain⟨i0,hi0,hz0,hz1,hz2⟩:=info_parts Tryz.info66;have hcb:cb<w.heap.size:=(Mth.gI hb);have CW:=zx (xU x w hx);rw[hw]at CW;have CS:=zx (rM hb h (fun i hi=>by have:=hI.lev i hi;omega));have hps:=fZ V L;have hpo:=kH h 6 (by omega)
 have htx:∀es∈yv L.lev,(∀e∈es,e.text.size≤60)∧es.length≤1048576:=fun es hes=>⟨fun e he=>(hI.ok.bd e ((hI.segSub hes).subset he)).2.2,by have:=(hI.segSub hes).length_le;omega⟩
 have HAL:=zx h.all;have HOK:=zx hI.ok.bd;have hck:=hI.clk
 have hkp:L.keep≤1000000:=by have:=hI.cfg;omega
 have CO:Hid (∀W,Below w.heap.size w W→∀(e:Ent),0≤e.time∧e.time≤1000000000000→Calls Tryz.prog 250 #[zr cb, .agg #[.int .i64 e.seq, .int .i64 e.time, .string e.text]] W fun r w'=>r=.returned (.bool (decide (e.time+(L.keep:Int)<(L.clock:Int))))∧Below W.heap.size W w'):=fun W hW e he=>oE ((hW.block cb hcb).trans hb) e.seq e.time e.text he hkp hck
 have FA:Hid (∀W,Below w.heap.size w W→W.cell? ⟨cb,7,none⟩=some V.av):=fun W hW=>(zy (j:=7) (u:=V.av) ((hW.block cb hcb).trans hb) rfl).1
 obtain⟨aa,ca,hav,hca,hcam⟩:=zu h.all;rw[hav]at FA HAL;have hul:=pz V L 1048576 (fun i hi=>by have:=hI.lev i hi;omega) 6 (by omega);unfold maxLen at hcam;clear hb h hI hav;generalize hpp:rY V L 6=ps at *;have HPP:=zx hpp;clear hpp;generalize hsg:yv L.lev=sg at *;have HSG:=zx hsg;clear hsg
 have hn2:sg.length=ps.length:=by rw[←hps,List.length_map]
 have HP:Hid (∀k,k<ps.length→(ps.map Prod.fst)[k]? = some (ps.getD k (.slice none 0 0,[])).1∧sg.getD k []=(ps.getD k (.slice none 0 0,[])).2∧w.ownsRow 0 66 3 (ps.getD k (.slice none 0 0,[])).1 (sg.getD k []).length ((sg.getD k []).flatMap eC)∧(∀e∈sg.getD k [],e.text.size≤60)∧(sg.getD k []).length≤1048576):=by
  intro k hk
  have e2:sg.getD k []=(ps.getD k (.slice none 0 0,[])).2:=by rw[←hps,List.getD_map_of_lt _ _ hk]
  have hm:ps.getD k (.slice none 0 0,[])∈ps:=by rw[←List.getElem_eq_getD (h:=hk)];exact List.getElem_mem hk
  have hm2:sg.getD k []∈sg:=by rw[←List.getElem_eq_getD (h:=by omega)];exact List.getElem_mem _
  refine⟨?_,e2,?_,htx _ hm2⟩
  ·rw[List.getElem?_map,List.getElem?_eq_getElem hk,List.getElem_eq_getD (.slice none 0 0,[])];rfl
  ·rw[e2];exact hpo _ hm
 have HN2:=zx hn2;clear hps hpo htx hn2
 go_enter Tryz.func205,Tryz.ntmps205
 go_wp2_with (first
  | (go_at_call 248;refine CW.out.mono ?_;rintro e W ⟨rfl,hW⟩;rw[hW];clear hW W)
  | (go_at_call 249;refine CS.out.mono ?_;rintro e w3 ⟨sv,rfl,ho3,hb3⟩;have HB3:=zx hb3;have HO3:=zx ho3;obtain⟨sa,sc,rfl,hsc1,hsc2⟩:=zu ho3;clear ho3 hb3))
 unfold maxLen at hsc2;generalize hn:ps.length=n at *;have HN:=zx hn;clear hn CW CS;generalize hfs:ps.map Prod.fst=fs at *;clear hfs
 go_loopw [12,14] (fun o i wr=>∃k:Nat,k≤n∧i=.int .i64 k∧o=.int .i64 (vt x lo hi (sg.take k):Int)∧Below w.heap.size w wr∧wr.ownsRow w.heap.size 57 1 (.slice sa n sc) n fs) (fun _ i _=>n-(intOf i).toNat)
 case atStart=>exact⟨0,Nat.zero_le _,rfl,rfl,HB3.out,HO3.out⟩
 case round=>
  obtain⟨k,hk,rfl,rfl,hbl,hrow⟩:=hrel;by_cases hlt:k<n
  ·obtain⟨hf1,hf2,hseg,htx,hel⟩:=HP.out k hlt;obtain⟨g,rfl⟩:=zf hrow (by omega);have hcell:=zg hrow hf1
   have hq1:vt x lo hi (sg.take (k+1))=vt x lo hi (sg.take k)+(if kM (sg.getD k []) x lo hi then 1 else 0):=by
    rw[zG (by rw[HN2.out];exact hlt) []];generalize sg.getD k []=es0;simp only[vt,List.filter_append,List.length_append,List.filter_cons,List.filter_nil]
    cases kM es0 x lo hi <;> rfl
   have hql:vt x lo hi (sg.take k)≤k:=Nat.le_trans (List.length_filter_le _ _) (by simp;omega);have HQ1:=zx hq1;have HBL:=zx hbl;have HROW:=zx hrow;have HSEG:=zx hseg;have HTX:=zx htx;obtain⟨ae,ce,hve,hce,hcem⟩:=zu hseg;rw[hve]at hcell HSEG;unfold maxLen at hcem;clear hbl hrow hf1 hf2 hseg htx hq1 hve;generalize sg.getD k []=es at *;generalize hok:vt x lo hi (sg.take k)=ok at *;have HOK2:=zx hok;clear hok;generalize hel2:es.length=el at *;have HEL:=zx hel2;clear hel2;go_wp2_with fail;obtain⟨wo,rfl⟩:∃wo,wo=wr:=⟨_,rfl⟩
   go_loopw [16,17] (fun b j wr=>∃q:Nat,q≤el∧j=.int .i64 q∧b=.bool ((es.take q).any (fun e=>ym x (wd e.text)))∧Below wo.heap.size wo wr) (fun _ j _=>el-(intOf j).toNat)
   case atStart=>exact⟨0,Nat.zero_le _,rfl,rfl,Below.refl _ _⟩
   case round=>
    obtain⟨q,hq,rfl,rfl,hbq⟩:=hrel;have hbw:Below w.heap.size w wr:=HBL.out.trans (hbq.mono HBL.out.size);have HBW:=zx hbw;have HBQ:=zx hbq;by_cases hlt2:q<el
    ·obtain⟨ge,rfl⟩:=zf HSEG.out (by omega);have hes:=zn HSEG.out (fun g hg=>hbw.block g (zw HSEG.out hg).2.1);obtain⟨_,_,r2⟩:=ya es q (by rw[HEL.out];exact hlt2);have p2:=zg hes r2
     have hmem:es.getD q e0∈es:=by rw[←List.getElem_eq_getD (h:=by rw[HEL.out];exact hlt2)];exact List.getElem_mem _
     have CH:=zx (wI (es.getD q e0).text x wr (by have:=HTX.out _ hmem;omega))
     have htk:(es.take (q+1)).any (fun e=>ym x (wd e.text))=((es.take q).any (fun e=>ym x (wd e.text)) || ym x (wd (es.getD q e0).text)):=by
      rw[zG (by rw[HEL.out];exact hlt2) e0,List.any_append];simp
     have HTK:=zx htk;clear hbq hbw hes r2 hmem htk;generalize (es.getD q e0).text=tx at *;generalize ym x (wd tx)=hb0 at *;generalize (es.take q).any (fun e=>ym x (wd e.text))=b0 at *;cases b0
     all_goals (
      go_wp2_with (first|(go_at_call 167;refine CH.out.mono ?_;rintro e W ⟨rfl,hbW⟩;have HBn:=zx (HBQ.out.trans (hbW.mono HBQ.out.size));clear hbW))
      go_roundw
      case rel=>exact⟨q+1,by omega,by go_num,by rw[HTK.out];rfl,HBn.out⟩
      case measure=>simp[intOf];omega)
    ·have hqe:q=el:=by omega
     have htk:es.take q=es:=List.take_of_length_le (by rw[HEL.out];omega);rw[htk];have HQE:=zx hqe;have hrow2:=zq HROW.out hbq;have HROW2:=zx hrow2;have hmt:kM es x lo hi=(es.any (fun e=>ym x (wd e.text))&&decide ((es.getD 0 e0).time≤hi)&&decide (lo≤(es.getD (es.length-1) e0).time)):=rfl;have HMT:=zx hmt
     have hany:es.any (fun e=>ym x (wd e.text))=true→0<el:=fun ha=>by
      rw[←HEL.out]
      cases es with
      | nil=>cases ha
      | cons a l=>simp
     have HANY:=zx hany;clear hqe htk hrow2 hmt hany hbq;rw[HEL.out]at HMT;generalize es.any (fun e=>ym x (wd e.text))=bb at *;cases bb
     ·have hm0:kM es x lo hi=false:=by rw[HMT.out];rfl
      have HM0:=zx hm0;clear hbw hm0;go_wp2_with fail
      go_roundw
      case rel=>exact⟨k+1,by omega,by go_num,by rw[HQ1.out,HM0.out];rfl,HBW.out,HROW2.out⟩
      case measure=>simp[intOf];omega
     ·have hpos:=HANY.out rfl;obtain⟨ge,rfl⟩:=zf HSEG.out (by omega);have hes:=zn HSEG.out (fun g hg=>hbw.block g (zw HSEG.out hg).2.1);obtain⟨_,r1,_⟩:=ya es 0 (by rw[HEL.out];omega);obtain⟨_,r2,_⟩:=ya es (el-1) (by rw[HEL.out];omega);have p1:=zg hes r1;have p2:=zg hes r2;simp only[Nat.zero_mul,Nat.zero_add]at p1
      have hs1:IntKind.i64.wrap ((el:Int)-1)=((el-1:Nat):Int):=by rw[IntKind.wrap_i64];omega
      have hs2:((el-1:Nat):Int)<(el:Int):=by omega
      clear hbw hes r1 r2;generalize (es.getD 0 e0).time=t0 at *;generalize (es.getD (el-1) e0).time=t1 at *;by_cases c0:t0≤hi
      ·by_cases c1:lo≤t1
       ·have hm0:kM es x lo hi=true:=by rw[HMT.out];simp[c0,c1]
        have HM0:=zx hm0;clear hm0;go_wp2_with fail
        go_roundw
        case rel=>exact⟨k+1,by omega,by go_num,by rw[HQ1.out,HM0.out,if_pos rfl];go_num,HBW.out,HROW2.out⟩
        case measure=>simp[intOf];omega
       ·have hm0:kM es x lo hi=false:=by rw[HMT.out];simp[c1]
        have HM0:=zx hm0;clear hm0;go_wp2_with fail
        go_roundw
        case rel=>exact⟨k+1,by omega,by go_num,by rw[HQ1.out,HM0.out];rfl,HBW.out,HROW2.out⟩
        case measure=>simp[intOf];omega
      ·have hm0:kM es x lo hi=false:=by rw[HMT.out];simp[c0]
       have HM0:=zx hm0;clear hm0;go_wp2_with fail
       go_roundw
       case rel=>exact⟨k+1,by omega,by go_num,by rw[HQ1.out,HM0.out];rfl,HBW.out,HROW2.out⟩
       case measure=>simp[intOf];omega
  ·have hkn:sg.take k=sg:=List.take_of_length_le (by rw[HN2.out];omega);rw[hkn];generalize hok:vt x lo hi sg=ok at *;have HOKF:=zx hok;have HBL:=zx hbl;clear hok hkn hrow hbl HP HO3 HB3;generalize hna:all.length=na at *;have HNA:=zx hna;clear hna;go_wp2_with fail;obtain⟨wo,rfl⟩:∃wo,wo=wr:=⟨_,rfl⟩
   go_loopw [19,20] (fun v i wr=>∃q:Nat,q≤na∧i=.int .i64 q∧CurE w wr v ((all.take q).filter (qP L x lo hi))) (fun _ i _=>na-(intOf i).toNat)
   case atStart=>exact⟨0,Nat.zero_le _,rfl,HBL.out,World.ownsRow_nil _ _ _ _⟩
   case round=>
    obtain⟨q,hq,rfl,hcur⟩:=hrel;have hc7:=FA.out wr hcur.1;have HCUR:=zx hcur;by_cases hlt2:q<na
    ·obtain⟨ga,rfl⟩:=zf HAL.out (by omega);have hal:=zn HAL.out (fun g hg=>hcur.1.block g (zw HAL.out hg).2.1);obtain⟨r0,r1,r2⟩:=ya all q (by rw[HNA.out];exact hlt2);have p0:=zg hal r0;have p1:=zg hal r1;have p2:=zg hal r2
     have hmem:all.getD q e0∈all:=by rw[←List.getElem_eq_getD (h:=by rw[HNA.out];exact hlt2)];exact List.getElem_mem _
     have hbd:=HOK.out _ hmem
     have htk:(all.take (q+1)).filter (qP L x lo hi)=(all.take q).filter (qP L x lo hi)++(if qP L x lo hi (all.getD q e0) then [all.getD q e0] else []):=by
      rw[zG (by rw[HNA.out];exact hlt2) e0,List.filter_append,List.filter_cons,List.filter_nil]
     have HTK:=zx htk;have hfl:((all.take q).filter (qP L x lo hi)).length≤q:=Nat.le_trans (List.length_filter_le _ _) (by simp;omega);obtain⟨va,vc,rfl,hvc,hvm⟩:=zu hcur.2;unfold maxLen at hvm;have hqp:qP L x lo hi (all.getD q e0)=(ym x (wd (all.getD q e0).text)&&(!decide ((all.getD q e0).time+(L.keep:Int)<(L.clock:Int))&&(decide (lo≤(all.getD q e0).time)&&decide ((all.getD q e0).time≤hi)))):=rfl;have HQP:=zx hqp;clear hal r0 r1 r2 hmem htk hqp;generalize all.getD q e0=e at *;obtain⟨sq,tm,tx⟩:=e;simp only at p0 p1 p2 hbd HQP;generalize hFL:(all.take q).filter (qP L x lo hi)=FL at *;have HFL:=zx hFL;clear hFL hcur;have b1:=zv wr (Obj.cells #[.int .i64 sq, .int .i64 tm, .string tx] 66);have k1:=zj wr #[.int .i64 sq, .int .i64 tm, .string tx] 66;obtain⟨W1,hW1⟩:∃W1,W1=wr.alloc (Obj.cells #[.int .i64 sq, .int .i64 tm, .string tx] 66):=⟨_,rfl⟩;rw[←hW1]at b1 k1;have HW1:=zx hW1;have CH:=zx (wI tx x W1 (by omega));have hwr:=HCUR.out.1.size;have hB1:Below w.heap.size w W1:=HCUR.out.1.trans (b1.mono hwr)
     have F2:Hid (∀W2,Below W1.heap.size W1 W2→W2.cell? ⟨wr.heap.size,0,none⟩=some (.int .i64 sq)∧W2.cell? ⟨wr.heap.size,1,none⟩=some (.int .i64 tm)∧W2.cell? ⟨wr.heap.size,2,none⟩=some (.string tx)∧Below w.heap.size w W2∧w.heap.size≤W2.heap.size∧W2.ownsRow w.heap.size 66 3 (.slice va FL.length vc) FL.length (FL.flatMap eC)):=fun W2 hW2=>by
      have hk2:=(hW2.block _ (Mth.gI k1)).trans k1;have hBW:=hB1.trans (hW2.mono hB1.size);exact⟨(zy (j:=0) hk2 rfl).1,(zy (j:=1) hk2 rfl).1,(zy (j:=2) hk2 rfl).1,hBW,hBW.size,zq (zq HCUR.out.2 b1) hW2⟩
     have htm:0≤tm∧tm≤1000000000000:=⟨hbd.1,by have:=hbd.2.1;omega⟩
     have HCO:Hid (∀W2,Below W1.heap.size W1 W2→_):=fun W2 hW2=>CO.out W2 (F2.out W2 hW2).2.2.2.1 ⟨sq,tm,tx⟩ htm
     clear b1 k1 hW1 hB1 hbd htm;simp only at HCO;generalize hod:decide (tm+(L.keep:Int)<(L.clock:Int))=od at *;generalize hhb:ym x (wd tx)=hb0 at *;clear hod hhb;cases hb0
     ·have hno:qP L x lo hi ⟨sq,tm,tx⟩=false:=by rw[HQP.out];simp[*]
      have HNO:=zx hno;clear hno
      go_upto_region 23 with fail
      rw[←HW1.out];obtain⟨m0,m1,m2,_,_,_⟩:=F2.out W1 (Below.refl _ _)
      go_wp2_with (first
       | (go_at_call 167;refine CH.out.mono ?_;rintro e W2 ⟨rfl,hb2⟩;obtain⟨n0,n1,n2,_,_,_⟩:=F2.out W2 hb2;have HC2:=zx (HCO.out W2 hb2);have HB2:=zx hb2;clear hb2)
       | (go_at_call 250;refine HC2.out.mono ?_;rintro e W3 ⟨rfl,hb3⟩;obtain⟨o0,o1,o2,ob,os,oo⟩:=F2.out W3 (HB2.out.trans (hb3.mono HB2.out.size));have HOB:=zx ob;have HOO:=zx oo;clear hb3 ob oo)
       | (at_builtin;refine zb _ rfl _ _ 57 rfl w.heap.size 0 66 i0 (.agg #[.int .i64 0, .int .i64 0, .string ByteArray.empty]) 3 32 Tryz.underlying57 hi0 hz0 hz1 hz2 rfl (by decide) _ _ _ rfl (zq HOO.out (zv _ _)) _ _ _ rfl (World.ownsRow_lit W3 #[.int .i64 sq, .int .i64 tm, .string tx] 1 (Nat.zero_le _) (by decide) rfl) (by intro u hu;simp at hu;rcases hu with rfl|rfl|rfl <;> rfl) (by unfold maxLen;omega) (by omega) (by simp;omega) ?_;intro v5 W5 o5 g5 n5;have t5:=yl g5;have HB5:=zx (yk HOB.out t5 HOO.out);have HO5:=zx o5;obtain⟨a5,c5,rfl,_,_⟩:=zu o5;clear o5 g5 n5 t5))
      go_roundw
      case rel=>exact⟨q+1,by omega,by go_num,by rw[HTK.out,HNO.out,if_neg (by simp),List.append_nil];exact⟨HOB.out,HOO.out⟩⟩
      case measure=>simp[intOf];omega
     ·cases od
      ·by_cases c0:lo≤tm
       ·by_cases c1:tm≤hi
        ·have hye:qP L x lo hi ⟨sq,tm,tx⟩=true:=by rw[HQP.out];simp[*]
         have HYE:=zx hye;clear hye
         go_upto_region 23 with fail
         rw[←HW1.out];obtain⟨m0,m1,m2,_,_,_⟩:=F2.out W1 (Below.refl _ _)
         go_wp2_with (first
          | (go_at_call 167;refine CH.out.mono ?_;rintro e W2 ⟨rfl,hb2⟩;obtain⟨n0,n1,n2,_,_,_⟩:=F2.out W2 hb2;have HC2:=zx (HCO.out W2 hb2);have HB2:=zx hb2;clear hb2)
          | (go_at_call 250;refine HC2.out.mono ?_;rintro e W3 ⟨rfl,hb3⟩;obtain⟨o0,o1,o2,ob,os,oo⟩:=F2.out W3 (HB2.out.trans (hb3.mono HB2.out.size));have HOB:=zx ob;have HOO:=zx oo;clear hb3 ob oo)
          | (at_builtin;refine zb _ rfl _ _ 57 rfl w.heap.size 0 66 i0 (.agg #[.int .i64 0, .int .i64 0, .string ByteArray.empty]) 3 32 Tryz.underlying57 hi0 hz0 hz1 hz2 rfl (by decide) _ _ _ rfl (zq HOO.out (zv _ _)) _ _ _ rfl (World.ownsRow_lit W3 #[.int .i64 sq, .int .i64 tm, .string tx] 1 (Nat.zero_le _) (by decide) rfl) (by intro u hu;simp at hu;rcases hu with rfl|rfl|rfl <;> rfl) (by unfold maxLen;omega) (by omega) (by simp;omega) ?_;intro v5 W5 o5 g5 n5;have t5:=yl g5;have HB5:=zx (yk HOB.out t5 HOO.out);have HO5:=zx o5;obtain⟨a5,c5,rfl,_,_⟩:=zu o5;clear o5 g5 n5 t5))
         go_roundw
         case rel=>exact⟨q+1,by omega,by go_num,by rw[HTK.out,HYE.out,if_pos rfl];exact⟨HB5.out,by simpa [eC] using HO5.out⟩⟩
         case measure=>simp[intOf];omega
        ·have hno:qP L x lo hi ⟨sq,tm,tx⟩=false:=by rw[HQP.out];simp[*]
         have HNO:=zx hno;clear hno
         go_upto_region 23 with fail
         rw[←HW1.out];obtain⟨m0,m1,m2,_,_,_⟩:=F2.out W1 (Below.refl _ _)
         go_wp2_with (first
          | (go_at_call 167;refine CH.out.mono ?_;rintro e W2 ⟨rfl,hb2⟩;obtain⟨n0,n1,n2,_,_,_⟩:=F2.out W2 hb2;have HC2:=zx (HCO.out W2 hb2);have HB2:=zx hb2;clear hb2)
          | (go_at_call 250;refine HC2.out.mono ?_;rintro e W3 ⟨rfl,hb3⟩;obtain⟨o0,o1,o2,ob,os,oo⟩:=F2.out W3 (HB2.out.trans (hb3.mono HB2.out.size));have HOB:=zx ob;have HOO:=zx oo;clear hb3 ob oo)
          | (at_builtin;refine zb _ rfl _ _ 57 rfl w.heap.size 0 66 i0 (.agg #[.int .i64 0, .int .i64 0, .string ByteArray.empty]) 3 32 Tryz.underlying57 hi0 hz0 hz1 hz2 rfl (by decide) _ _ _ rfl (zq HOO.out (zv _ _)) _ _ _ rfl (World.ownsRow_lit W3 #[.int .i64 sq, .int .i64 tm, .string tx] 1 (Nat.zero_le _) (by decide) rfl) (by intro u hu;simp at hu;rcases hu with rfl|rfl|rfl <;> rfl) (by unfold maxLen;omega) (by omega) (by simp;omega) ?_;intro v5 W5 o5 g5 n5;have t5:=yl g5;have HB5:=zx (yk HOB.out t5 HOO.out);have HO5:=zx o5;obtain⟨a5,c5,rfl,_,_⟩:=zu o5;clear o5 g5 n5 t5))
         go_roundw
         case rel=>exact⟨q+1,by omega,by go_num,by rw[HTK.out,HNO.out,if_neg (by simp),List.append_nil];exact⟨HOB.out,HOO.out⟩⟩
         case measure=>simp[intOf];omega
       ·have hno:qP L x lo hi ⟨sq,tm,tx⟩=false:=by rw[HQP.out];simp[*]
        have HNO:=zx hno;clear hno
        go_upto_region 23 with fail
        rw[←HW1.out];obtain⟨m0,m1,m2,_,_,_⟩:=F2.out W1 (Below.refl _ _)
        go_wp2_with (first
         | (go_at_call 167;refine CH.out.mono ?_;rintro e W2 ⟨rfl,hb2⟩;obtain⟨n0,n1,n2,_,_,_⟩:=F2.out W2 hb2;have HC2:=zx (HCO.out W2 hb2);have HB2:=zx hb2;clear hb2)
         | (go_at_call 250;refine HC2.out.mono ?_;rintro e W3 ⟨rfl,hb3⟩;obtain⟨o0,o1,o2,ob,os,oo⟩:=F2.out W3 (HB2.out.trans (hb3.mono HB2.out.size));have HOB:=zx ob;have HOO:=zx oo;clear hb3 ob oo)
         | (at_builtin;refine zb _ rfl _ _ 57 rfl w.heap.size 0 66 i0 (.agg #[.int .i64 0, .int .i64 0, .string ByteArray.empty]) 3 32 Tryz.underlying57 hi0 hz0 hz1 hz2 rfl (by decide) _ _ _ rfl (zq HOO.out (zv _ _)) _ _ _ rfl (World.ownsRow_lit W3 #[.int .i64 sq, .int .i64 tm, .string tx] 1 (Nat.zero_le _) (by decide) rfl) (by intro u hu;simp at hu;rcases hu with rfl|rfl|rfl <;> rfl) (by unfold maxLen;omega) (by omega) (by simp;omega) ?_;intro v5 W5 o5 g5 n5;have t5:=yl g5;have HB5:=zx (yk HOB.out t5 HOO.out);have HO5:=zx o5;obtain⟨a5,c5,rfl,_,_⟩:=zu o5;clear o5 g5 n5 t5))
        go_roundw
        case rel=>exact⟨q+1,by omega,by go_num,by rw[HTK.out,HNO.out,if_neg (by simp),List.append_nil];exact⟨HOB.out,HOO.out⟩⟩
        case measure=>simp[intOf];omega
      ·have hno:qP L x lo hi ⟨sq,tm,tx⟩=false:=by rw[HQP.out];simp[*]
       have HNO:=zx hno;clear hno
       go_upto_region 23 with fail
       rw[←HW1.out];obtain⟨m0,m1,m2,_,_,_⟩:=F2.out W1 (Below.refl _ _)
       go_wp2_with (first
        | (go_at_call 167;refine CH.out.mono ?_;rintro e W2 ⟨rfl,hb2⟩;obtain⟨n0,n1,n2,_,_,_⟩:=F2.out W2 hb2;have HC2:=zx (HCO.out W2 hb2);have HB2:=zx hb2;clear hb2)
        | (go_at_call 250;refine HC2.out.mono ?_;rintro e W3 ⟨rfl,hb3⟩;obtain⟨o0,o1,o2,ob,os,oo⟩:=F2.out W3 (HB2.out.trans (hb3.mono HB2.out.size));have HOB:=zx ob;have HOO:=zx oo;clear hb3 ob oo)
        | (at_builtin;refine zb _ rfl _ _ 57 rfl w.heap.size 0 66 i0 (.agg #[.int .i64 0, .int .i64 0, .string ByteArray.empty]) 3 32 Tryz.underlying57 hi0 hz0 hz1 hz2 rfl (by decide) _ _ _ rfl (zq HOO.out (zv _ _)) _ _ _ rfl (World.ownsRow_lit W3 #[.int .i64 sq, .int .i64 tm, .string tx] 1 (Nat.zero_le _) (by decide) rfl) (by intro u hu;simp at hu;rcases hu with rfl|rfl|rfl <;> rfl) (by unfold maxLen;omega) (by omega) (by simp;omega) ?_;intro v5 W5 o5 g5 n5;have t5:=yl g5;have HB5:=zx (yk HOB.out t5 HOO.out);have HO5:=zx o5;obtain⟨a5,c5,rfl,_,_⟩:=zu o5;clear o5 g5 n5 t5))
       go_roundw
       case rel=>exact⟨q+1,by omega,by go_num,by rw[HTK.out,HNO.out,if_neg (by simp),List.append_nil];exact⟨HOB.out,HOO.out⟩⟩
       case measure=>simp[intOf];omega
    ·have hqe:all.take q=all:=List.take_of_length_le (by rw[HNA.out];omega);rw[hqe]at HCUR;obtain⟨va,vc,rfl,_,_⟩:=zu hcur.2
     have HLN:Hid (((all.take q).filter (qP L x lo hi)).length=(all.filter (qP L x lo hi)).length):=by show _=_;rw[hqe]
     clear hcur hqe;go_wp2_with fail
     go_ret3
     exact⟨_,by rw[HOKF.out];rfl,HCUR.out⟩
end Go.Proofs.YtkncboinfcnklaaGreatDoor.Rl
namespace Go.Proofs.YtkncboinfcnklaaGreatDoor
open Go.RowKit Go.Deep Go.Proofs.YtkncboinfcnklaaGreatDoor.Mth
def Book (w:World) (B:Nat) (T e:TypeId) (sz:Nat) (F:Nat→Nat→Value) (v:Value) (N:Nat):Prop:=
 ∃q:Nat→Qd,w.ownsRow B T 5 v N ((List.range N).flatMap (qc q))∧∀i,i<N→(∃n,n≤4194304∧RdM w e sz (q i).l n (F i))∧(∃n,n≤4194304∧RdM w e sz (q i).a n (F i))∧(∃n,n≤4194304∧RdM w e sz (q i).b n (F i))∧(∃n,n≤4194304∧RdM w e sz (q i).c n (F i))
theorem Book.keep {w w':World}{B:Nat}{T e:TypeId}{sz:Nat}{F:Nat→Nat→Value}{v:Value}{N:Nat}(h:Book w B T e sz F v N) (hT:∀(g:Nat) C,w.heap[g]? = some (Obj.cells C T (0,0))→w'.heap[g]? = w.heap[g]?) (he:∀(g:Nat) C,w.heap[g]? = some (Obj.cells C e (0,0))→w'.heap[g]? = w.heap[g]?):Book w' B T e sz F v N:=by
 obtain⟨q,hrow,hall⟩:=h;refine⟨q,zn hrow (fun g hg=>?_),fun i hi=>?_⟩
 ·obtain⟨_,_,C,hC⟩:=zw hrow hg;exact hT g C hC
 ·obtain⟨⟨n0,l0,r0⟩,⟨n1,l1,r1⟩,⟨n2,l2,r2⟩,⟨n3,l3,r3⟩⟩:=hall i hi;exact⟨⟨n0,l0,r0.keep he⟩,⟨n1,l1,r1.keep he⟩,⟨n2,l2,r2.keep he⟩,⟨n3,l3,r3.keep he⟩⟩
theorem Book.below {w w':World}{B:Nat}{T e:TypeId}{sz:Nat}{F:Nat→Nat→Value}{v:Value}{N:Nat}(h:Book w B T e sz F v N) (hb:Below w.heap.size w w'):Book w' B T e sz F v N:=
 h.keep (fun g _ hg=>hb.block g (Mth.gI hg)) (fun g _ hg=>hb.block g (Mth.gI hg))
theorem qc_at {q:Nat→Qd}{N i:Nat}(h:i<N):((List.range N).flatMap (qc q))[i*5]? = some (q i).l∧((List.range N).flatMap (qc q))[i*5+1]? = some (q i).a∧((List.range N).flatMap (qc q))[i*5+2]? = some (q i).b∧((List.range N).flatMap (qc q))[i*5+3]? = some (q i).c∧((List.range N).flatMap (qc q))[i*5+4]? = some (.int .i64 (i:Int)):=by
 have len:∀k,((List.range k).flatMap (qc q)).length=k*5:=by
  intro k
  induction k with
  | zero=>rfl
  | succ k ih=>rw[List.range_succ,List.flatMap_append,List.length_append,ih];simp[qc];omega
 have key:∀t,t<5→((List.range N).flatMap (qc q))[i*5+t]? = (qc q i)[t]? := by
  intro t ht
  induction N with
  | zero=>omega
  | succ N ih=>
   rw[List.range_succ,List.flatMap_append];by_cases hi:i<N
   ·rw[List.getElem?_append_left (by rw[len];omega)];exact ih hi
   ·have:i=N:=by omega
    subst this;rw[List.getElem?_append_right (by rw[len];omega),len,show i*5+t-i*5=t by omega];simp
 have k0:=key 0 (by omega);rw[Nat.add_zero]at k0;rw[k0,key 1 (by omega),key 2 (by omega),key 3 (by omega),key 4 (by omega)];exact⟨rfl,rfl,rfl,rfl,rfl⟩
theorem vP {w:World}{B:Nat}{T e:TypeId}{sz:Nat}{F:Nat→Nat→Value}{a:Option Addr}{N c:Nat}(h:Book w B T e sz F (.slice a N c) N) (i:Nat) (hi:i<N):∃g a0 n0 c0 a1 n1 c1 a2 n2 c2 a3 n3 c3,a=some ⟨g,0,none⟩∧g<w.heap.size∧w.cell? ⟨g,i*5,none⟩=some (.slice a0 n0 c0)∧w.cell? ⟨g,i*5+1,none⟩=some (.slice a1 n1 c1)∧w.cell? ⟨g,i*5+2,none⟩=some (.slice a2 n2 c2)∧w.cell? ⟨g,i*5+3,none⟩=some (.slice a3 n3 c3)∧w.cell? ⟨g,i*5+4,none⟩=some (.int .i64 (i:Int))∧(n0≤4194304∧RdM w e sz (.slice a0 n0 c0) n0 (F i))∧(n1≤4194304∧RdM w e sz (.slice a1 n1 c1) n1 (F i))∧(n2≤4194304∧RdM w e sz (.slice a2 n2 c2) n2 (F i))∧(n3≤4194304∧RdM w e sz (.slice a3 n3 c3) n3 (F i)):=by
 obtain⟨q,hrow,hall⟩:=h;obtain⟨⟨n0,l0,r0⟩,⟨n1,l1,r1⟩,⟨n2,l2,r2⟩,⟨n3,l3,r3⟩⟩:=hall i hi;obtain⟨k0,k1,k2,k3,k4⟩:=qc_at (q:=q) hi;obtain⟨a0,c0,e0',_,_⟩:=xe r0;obtain⟨a1,c1,e1',_,_⟩:=xe r1;obtain⟨a2,c2,e2',_,_⟩:=xe r2;obtain⟨a3,c3,e3',_,_⟩:=xe r3;rw[e0']at r0 k0;rw[e1']at r1 k1;rw[e2']at r2 k2;rw[e3']at r3 k3
 have hsome:∃g,a=some ⟨g,0,none⟩:=by
  rcases hrow.2 with⟨q1,q2⟩|⟨g,cap,cur,q1,_⟩
  ·omega
  ·injection q1 with q1;exact⟨g,q1⟩
 obtain⟨g,rfl⟩:=hsome;have hc:=hrow.cells (g:=g) rfl
 have ad:∀j,(⟨g,0,none⟩:Addr).add j=⟨g,j,none⟩:=fun j=>by unfold Addr.add;split <;> simp_all
 refine⟨g,a0,n0,c0,a1,n1,c1,a2,n2,c2,a3,n3,c3,rfl,(gJ hrow).2.1,?_,?_,?_,?_,?_,⟨l0,r0⟩,⟨l1,r1⟩,⟨l2,r2⟩,⟨l3,r3⟩⟩
 ·have:=hc _ _ k0;rwa [ad]at this
 ·have:=hc _ _ k1;rwa [ad]at this
 ·have:=hc _ _ k2;rwa [ad]at this
 ·have:=hc _ _ k3;rwa [ad]at this
 ·have:=hc _ _ k4;rwa [ad]at this
theorem wT {w:World}{B:Nat}{T e:TypeId}{sz:Nat}{F:Nat→Nat→Value}{v:Value}{N:Nat}(h:Book w B T e sz F v N):∃a c,v=.slice a N c∧N≤c∧c≤maxLen:=by
 obtain⟨q,hrow,_⟩:=h;exact zu hrow
end Go.Proofs.YtkncboinfcnklaaGreatDoor
