import Derived.Test.YtkncboinfcnklaaGreatDoorQ40
import Derived.Test.YtkncboinfcnklaaGreatDoorQ21
import Derived.Test.YtkncboinfcnklaaGreatDoorQ19
import Derived.Test.YtkncboinfcnklaaGreatDoorQ34
set_option maxRecDepth 100000
set_option maxHeartbeats 8000000
namespace Go.Proofs.YtkncboinfcnklaaGreatDoor.Rl
open Go.RowKit Go.Deep Go.Shelf Go.Proofs.YtkncboinfcnklaaGreatDoor.Mth
theorem kG (p:Nat):∀ {l:List Tl}{j:Nat},j<l.length→(l.flatMap xg).set (j*3+2) (.int .i64 (p:Int))=(l.set j { l.getD j yY with place:=p }).flatMap xg
 | _::_,0,_=>rfl
 | f::l,j+1,h=>by
  have ih:=kG p (l:=l) (j:=j) (by simpa using h);rw[show(j+1)*3+2=(j*3+2)+1+1+1 by omega];show(Value.int .i64 (f.num:Int)) :: .string f.word :: .int .i64 (f.place:Int)::(l.flatMap xg).set (j*3+2) (.int .i64 (p:Int))=_;rw[ih];rfl
theorem dD {f:Ent→Bool}{all:List Ent}{p t:Nat}(h:p≤t) (ht:t<all.length):((all.take (t+1)).drop p).filter f=((all.take t).drop p).filter f++(if f (all.getD t e0) then [all.getD t e0] else []):=by
 rw[zG ht e0,List.drop_append_of_le_length (by rw[List.length_take_of_le (by omega)];exact h),List.filter_append,List.filter_cons,List.filter_nil]
theorem dH {f:Ent→Bool}{all:List Ent}{p t b:Nat}(h:p≤t) (ht:t≤all.length) (hd:(t=all.length∧vC f all p t≤b)∨vC f all p t=b):((all.take t).drop p).filter f=uf f all p b:=by
 have e1:all.drop p=(all.take t).drop p++all.drop t:=by
  have e0:all.drop p=(all.take t++all.drop t).drop p:=by rw[List.take_append_drop]
  rw[e0,List.drop_append_of_le_length (by rw[List.length_take_of_le ht];exact h)]
 unfold uf;rw[e1,List.filter_append]
 rcases hd with⟨rfl,hk⟩|hk
 ·rw[List.drop_length,List.filter_nil,List.append_nil,List.take_of_length_le hk]
 ·rw[List.take_append_of_le_length (by unfold vC at hk;omega)];exact(List.take_of_length_le (by unfold vC at hk;omega)).symm
theorem ql {Z:Nat→Prop}{w:World}{B cb c:Nat}{V:Rv}{L:Lg}{all:List Ent}{ts:List Tl}(hb:w.heap[cb]? = some (Obj.cells (zR V L) 234 (0,0))) (h:RfV Z B w V L all ts) (hB:B≤w.heap.size) (ho:AllOk all c) (hal:all.length≤1048576) (x:Int) (hts:ts.length≤1000) (hpl:∀t∈ts,t.place≤all.length) (hb1:1≤L.batch) (hb8:L.batch≤1000)
  (Q:Value→Int→World→Prop) (q1:(∀j,j<ts.length→((ts.getD j yY).num:Int)≠x)→Q (.slice none 0 0) 8 w)
  (q2:∀(i:Nat) (v:Value) (w':World),i<ts.length→((ts.getD i yY).num:Int)=x→w'.ownsRow w.heap.size 66 3 v (uf (vu (ts.getD i yY).word) all (ts.getD i yY).place L.batch).length ((uf (vu (ts.getD i yY).word) all (ts.getD i yY).place L.batch).flatMap eC)→Below B w w'→TyF w w'→(∀L':Lg,L'={ L with tls:=L'.tls,tn:=L'.tn }→∃V',w'.heap[cb]? = some (Obj.cells (zR V' L') 234 (0,0))∧RfV Z B w' V' L' all (ts.set i { ts.getD i yY with place:=plc (uf (vu (ts.getD i yY).word) all (ts.getD i yY).place L.batch) L.batch all.length }))→Q v 0 w') :
  Calls Tryz.prog 210 #[zr cb, .int .i64 x] w fun e w'=>∃v r,e=.returned (.tuple #[v, .int .i64 r])∧Q v r w':=by
 obtain⟨i0,hi0,hz0,hz1,hz2⟩:=info_parts Tryz.info66;have CF:=zx (qR hb h.tls x);have hcb:cb<w.heap.size:=(Mth.gI hb);obtain⟨at_,ct,htv,hct,hctm⟩:=zu h.tls;obtain⟨aa,ca,hav,hca,hcam⟩:=zu h.all;have htl:=h.tls;rw[htv]at htl;have HTL:=zx htl;have hall:=h.all;rw[hav]at hall;have HALL:=zx hall
 have HSM:Hid (0<ts.length→∃g,at_=some ⟨g,0,none⟩):=fun h0=>zf HTL.out h0
 have FC:Hid (∀W,Below w.heap.size w W→W.cell? ⟨cb,16,none⟩=some (.slice at_ ts.length ct)∧W.cell? ⟨cb,7,none⟩=some (.slice aa all.length ca)∧W.cell? ⟨cb,5,none⟩=some (.int .i64 (L.batch:Int))):=fun W hW=>by
  have hbw:=(hW.block cb hcb).trans hb;have h1:=(zy (j:=16) (u:=V.tv) hbw rfl).1;have h2:=(zy (j:=7) (u:=V.av) hbw rfl).1;rw[htv]at h1;rw[hav]at h2;exact⟨h1,h2,(zy (j:=5) hbw rfl).1⟩
 have FT:Hid (∀g i,at_=some ⟨g,0,none⟩→i<ts.length→∀W,Below w.heap.size w W→W.cell? ⟨g,i*3+1,none⟩=some (.string (ts.getD i yY).word)∧W.cell? ⟨g,i*3+2,none⟩=some (.int .i64 ((ts.getD i yY).place:Int))∧W.frozen? ⟨g,i*3+2,none⟩=false):=fun g i hg hi W hW=>by
  have o:=zq HTL.out hW;rw[hg]at o;obtain⟨_,r1,r2⟩:=qF (l:=ts) hi;exact⟨zg o r1,zg o r2,(zC o (j:=i*3+2) (by omega)).2⟩
 have FN:Hid (∀g i p',at_=some ⟨g,0,none⟩→i<ts.length→∀W,Below w.heap.size w W→Below B w (W.setCell ⟨g,i*3+2,none⟩ (.int .i64 ((p':Nat):Int)))∧TyF w (W.setCell ⟨g,i*3+2,none⟩ (.int .i64 (p':Int)))∧(∀L':Lg,L'={ L with tls:=L'.tls,tn:=L'.tn }→∃V',(W.setCell ⟨g,i*3+2,none⟩ (.int .i64 (p':Int))).heap[cb]? = some (Obj.cells (zR V' L') 234 (0,0))∧RfV Z B (W.setCell ⟨g,i*3+2,none⟩ (.int .i64 (p':Int))) V' L' all (ts.set i { ts.getD i yY with place:=p' }))∧∀v l,W.ownsRow w.heap.size 66 3 v (List.length l) (l.flatMap eC)→(W.setCell ⟨g,i*3+2,none⟩ (.int .i64 (p':Int))).ownsRow w.heap.size 66 3 v l.length (l.flatMap eC)):=by
  intro g i p' hg hi W hW;have o:=zq HTL.out hW;have o0:=HTL.out;rw[hg]at o o0;obtain⟨hgB,hgl,CW,hCW⟩:=zw o0 (g:=g) rfl;have hgW:=(hW.block g hgl).trans hCW
  have hne:cb≠g:=fun e=>by rw[e,hCW]at hb;injection hb with hb;injection hb with _ hb _;exact absurd hb (by decide)
  have o5:=zF (i:=i*3+2) (y:=.int .i64 (p':Int)) o (by omega);rw[kG p' hi]at o5;have ht5:Tch (fun k=>k=g) w (W.setCell ⟨g,i*3+2,none⟩ (.int .i64 (p':Int))):=⟨hW.os,hW.tape,hW.output,by simpa using hW.size,fun k hk hne=>(zt hne).trans (hW.block k hk)⟩
  have o6:(W.setCell ⟨g,i*3+2,none⟩ (.int .i64 (p':Int))).ownsRow B 341 3 V.tv (ts.set i { ts.getD i yY with place:=p' }).length ((ts.set i { ts.getD i yY with place:=p' }).flatMap xg):=by
   rw[List.length_set,htv,hg];exact o5
  refine⟨zK ht5 (fun k q=>by rw[q];exact hgB) hB,TyF.tch ht5 (fun k q=>by rw[q];exact⟨_,_,hCW,by decide,by decide⟩),fun L' hL=>⟨V,?_,?_⟩,fun v l hv=>zn hv (fun k hk=>zt (fun e=>by have:=(zw hv hk).1;omega))⟩
  ·rw[ht5.block cb hcb hne,hb,hL];rfl
  ·exact RfV.tls1 hb h (ht5.mono (fun k _ q=>Or.inr (by rw[htv,hg,q];rfl))) o6 (by rw[hL]) (by rw[hL]) (by rw[hL])
 have HPL:Hid (∀i,i<ts.length→(ts.getD i yY).place≤all.length):=fun i hi=>hpl _ (by rw[←List.getElem_eq_getD (h:=hi)];exact List.getElem_mem _)
 have HOK:=zx ho;have HQ1:=zx q1;have HQ2:=zx q2;unfold maxLen at hctm hcam;clear hb h htl htv hall hav hpl ho q1 q2;generalize hnt:ts.length=nt at *;clear hnt;generalize hbt:L.batch=bt at *;clear hbt
 go_enter Tryz.func210,Tryz.ntmps210
 go_upto_region 2 with(first|(go_at_call 253;refine CF.out.mono ?_;rintro e W ⟨hW,hfd⟩;rw[hW];clear hW;rcases hfd with⟨rfl,hno⟩|⟨i,hi,rfl,he,hno⟩))
 ·have HNO:=zx hno;clear hno;go_wp2_with fail;go_ret2;exact⟨_,_,rfl,HQ1.out HNO.out⟩
 ·obtain⟨g,rfl⟩:=HSM.out (by omega);obtain⟨c16,c7,c5⟩:=FC.out w (Below.refl _ _);obtain⟨t1,t2,_⟩:=FT.out g i rfl hi w (Below.refl _ _);have HE:=zx he;have hpi:=HPL.out i hi;have FT2:=zx (FT.out g i rfl hi);have FN2:=zx (fun p'=>FN.out g i p' rfl hi);have HQ3:=zx (fun v w'=>HQ2.out i v w' hi HE.out)
  have hi0':¬(i:Int)<0:=by omega
  clear he hno FT FN HPL HQ1 HQ2;generalize hy:(ts.getD i yY).word=y at *;generalize hp:(ts.getD i yY).place=p at *;clear hy hp;generalize hna:all.length=na at *;have HNA:=zx hna;clear hna;go_wp2_with fail
  go_loopw [7,8] (fun v x wr=>∃t:Nat,x=.int .i64 t∧PI (vu y) all p bt t∧CurE w wr v (((all.take t).drop p).filter (vu y))) (fun _ x _=>na-(intOf x).toNat)
  case atStart=>exact⟨p,rfl,PI.start (by rw[HNA.out];exact hpi) hb1,Below.refl _ _,by rw[show(all.take p).drop p=[] from List.drop_eq_nil_of_le (List.length_take_le _ _)];exact World.ownsRow_nil _ _ _ _⟩
  case round=>
   obtain⟨t,rfl,hpn,hcur⟩:=hrel;obtain⟨d16,d7,d5⟩:=FC.out wr hcur.1;obtain⟨s1,s2,s3⟩:=FT2.out wr hcur.1;have hle:=hpn.le;rw[HNA.out]at hle;have htk:vC (vu y) all p t=(((all.take t).drop p).filter (vu y)).length:=rfl
   have htb:vC (vu y) all p t≤bt:=by rcases hpn.or with q|q <;> omega
   have HCUR:=zx hcur;have HPN:=zx hpn;by_cases hend:t=na∨vC (vu y) all p t=bt
   ·have hpd:=hpn.done HOK.out (by rw[HNA.out];exact hend);have hcutl:((all.take t).drop p).filter (vu y)=uf (vu y) all p bt:=dH hle.1 (by rw[HNA.out];exact hle.2) (by rcases hend with q|q;exact Or.inl ⟨by rw[HNA.out];exact q,htb⟩;exact Or.inr q)
    have hlt3:t<na→¬((((all.take t).drop p).filter (vu y)).length:Int)<(bt:Int):=fun q=>by omega
    obtain⟨f1,f2,f3,f4⟩:=FN2.out t wr hcur.1;rw[HNA.out]at hpd;have ho6:=f4 _ _ hcur.2;rw[hcutl]at ho6;have HF:=zx (HQ3.out _ _ ho6 f1 f2 (by rw[hpd.1];exact f3));obtain⟨va,vc,rfl,hvc,hvm⟩:=zu hcur.2;unfold maxLen at hvm;clear hcur hpn hpd f1 f2 f3 f4 hcutl hend ho6 HCUR HQ3 FN2;rw[←htk]at *;generalize vC (vu y) all p t=k at *;by_cases htn:t<na
    ·have hk3:=hlt3 htn
     have htn2:(t:Int)<(na:Int):=by omega
     clear hlt3;go_wp2_with fail;go_ret2;exact⟨_,_,rfl,HF.out⟩
    ·obtain rfl:t=na:=by omega
     clear hlt3;by_cases hk3:(k:Int)<(bt:Int)
     ·go_wp2_with fail;go_ret2;exact⟨_,_,rfl,HF.out⟩
     ·go_wp2_with fail;go_ret2;exact⟨_,_,rfl,HF.out⟩
   ·have hlt:t<na:=by omega
    have hkl:vC (vu y) all p t<bt:=by omega
    have hnx:=hpn.next (by rw[HNA.out];exact hlt) hkl;have HNX:=zx hnx;have hsn:=dD (f:=vu y) hle.1 (by rw[HNA.out];exact hlt);have HSN:=zx hsn;obtain⟨ga,rfl⟩:=zf HALL.out (by omega);have hes:=zq HALL.out hcur.1;obtain⟨r0,r1,r2⟩:=ya all t (by rw[HNA.out];exact hlt);have p0:=zg hes r0;have p1:=zg hes r1;have p2:=zg hes r2
    have hmem:all.getD t e0∈all:=by rw[←List.getElem_eq_getD (h:=by rw[HNA.out];exact hlt)];exact List.getElem_mem _
    have hsz:=(HOK.out.bd _ hmem).2.2;have hhs:vu y (all.getD t e0)=ym y (wd (all.getD t e0).text):=rfl;have HHS:=zx hhs;obtain⟨va,vc,rfl,hvc,hvm⟩:=zu hcur.2;unfold maxLen at hvm;clear hcur hpn hnx hsn hes r0 r1 r2 hmem hhs hend;generalize all.getD t e0=e at *;obtain⟨sq,tm,tx⟩:=e;simp only at p0 p1 p2 hsz HHS
    have hk3:((((all.take t).drop p).filter (vu y)).length:Int)<(bt:Int):=by omega
    have htn2:(t:Int)<(na:Int):=by omega
    generalize hFL:((all.take t).drop p).filter (vu y)=FL at *;clear hFL;have CH:=zx (fun d os=>Calls.regrown_of (w:=wr) (d:=d) (os:=os) (wI tx y (Sort.grow (redrawn wr d) os) (by omega)));generalize ym y (wd tx)=hh at *
    go_upto_region 7 with fail
    have e7:=cell_regrown d7;have e16:=cell_regrown d16;have q2:=cell_regrown p2;have q1:=cell_regrown s1;refine wp_region_quiet_below (by kernel_rfl) (by kernel_rfl) ?_
    repeat(go_big_quiet_step (first|(go_at_call 167;exact CH.out _ _)))
    refine wpQuiet_nil ?_;intro _ hw';obtain⟨⟨dq,osq⟩,hw''⟩:=hw';subst hw'';have hbq:=below_regrown wr dq osq;clear e7 e16 q2 q1 d16 d7 d5 s1 s2 s3 CH;generalize Sort.grow (redrawn wr dq) osq=W3 at *;have p0:=(hbq.cell (p:=⟨ga,t*3,none⟩) (World.block_lt_of_cell? _ _ p0)).trans p0;have p1:=(hbq.cell (p:=⟨ga,t*3+1,none⟩) (World.block_lt_of_cell? _ _ p1)).trans p1;have p2:=(hbq.cell (p:=⟨ga,t*3+2,none⟩) (World.block_lt_of_cell? _ _ p2)).trans p2;have hob:Below w.heap.size w W3:=HCUR.out.1.trans (hbq.mono HCUR.out.1.size);have HOB:=zx hob;have hos:=hob.size;have HOO:=zx (zq HCUR.out.2 hbq);obtain⟨d16,d7,d5⟩:=FC.out W3 hob;clear hbq hob;cases hh
    ·go_wp2_with fail
     go_roundw
     case rel=>exact⟨t+1,by go_num,HNX.out,by rw[HSN.out,HHS.out,if_neg (by simp),List.append_nil];exact⟨HOB.out,HOO.out⟩⟩
     case measure=>simp[intOf];omega
    ·go_wp2_with (first
      | (at_builtin;refine zb _ rfl _ _ 57 rfl w.heap.size 0 66 i0 (.agg #[.int .i64 0, .int .i64 0, .string ByteArray.empty]) 3 32 Tryz.underlying57 hi0 hz0 hz1 hz2 rfl (by decide) _ _ _ rfl (zq HOO.out (zv _ _)) _ _ _ rfl (World.ownsRow_lit W3 #[.int .i64 sq, .int .i64 tm, .string tx] 1 (Nat.zero_le _) (by decide) rfl) (by intro u hu;simp at hu;rcases hu with rfl|rfl|rfl <;> rfl) (by unfold maxLen;omega) (by omega) (by simp;omega) ?_;intro v5 W5 o5 g5 n5;have t5:=yl g5;have HB5:=zx (yk HOB.out t5 HOO.out);have HO5:=zx o5;obtain⟨a5,c5,rfl,_,_⟩:=zu o5;clear o5 g5 n5 t5))
     go_roundw
     case rel=>exact⟨t+1,by go_num,HNX.out,by rw[HSN.out,HHS.out,if_pos rfl];exact⟨HB5.out,by simpa [eC] using HO5.out⟩⟩
     case measure=>simp[intOf];omega
end Go.Proofs.YtkncboinfcnklaaGreatDoor.Rl
namespace Go.Proofs.YtkncboinfcnklaaGreatDoor.Lw
open Go.RowKit Go.Deep Go.Shelf Go.Proofs.YtkncboinfcnklaaGreatDoor.Mth Go.Proofs.YtkncboinfcnklaaGreatDoor.Rl
structure P19 (L:Lg) (ts:List Tl):Prop where
 yes:∀j,j<ts.length→L.tls ((ts.getD j yY).num:Int)=some ((ts.getD j yY).word,(ts.getD j yY).place)
 no:∀x:Int,(∀j,j<ts.length→((ts.getD j yY).num:Int)≠x)→L.tls x=none
 dis:∀i j,i<ts.length→j<ts.length→(ts.getD i yY).num=(ts.getD j yY).num→i=j
 lt:∀j,j<ts.length→(ts.getD j yY).num<L.subs
 sz:∀j,j<ts.length→(ts.getD j yY).word.size≤1048576
 tn:ts.length=L.tn
 few:ts.length≤4
theorem P19.same {L L':Lg}{ts:List Tl}(h:P19 L ts) (e1:L'.tls=L.tls) (e2:L'.subs=L.subs) (e3:L'.tn=L.tn):P19 L' ts:=
 ⟨by rw[e1];exact h.yes,by rw[e1];exact h.no,h.dis,by rw[e2];exact h.lt,h.sz,by rw[e3];exact h.tn,h.few⟩
theorem cN (m f bk n kp bt:Nat):P19 (Lg.new m f bk n kp bt) []:=
 ⟨fun _ hj=>absurd hj (Nat.not_lt_zero _),fun _ _=>rfl,fun _ _ hj=>absurd hj (Nat.not_lt_zero _),fun _ hj=>absurd hj (Nat.not_lt_zero _),fun _ hj=>absurd hj (Nat.not_lt_zero _),rfl,Nat.zero_le _⟩
theorem P19.find {L:Lg}{ts:List Tl}(h:P19 L ts){x:Int}{p:ByteArray × Nat}(hx:L.tls x=some p):∃j,j<ts.length∧((ts.getD j yY).num:Int)=x∧p=((ts.getD j yY).word,(ts.getD j yY).place):=by
 by_cases q:∃j,j<ts.length∧((ts.getD j yY).num:Int)=x
 ·obtain⟨j,hj,e⟩:=q;refine⟨j,hj,e,?_⟩;have:=h.yes j hj;rw[e,hx]at this;exact Option.some.inj this
 ·have:=h.no x (fun j hj e=>q ⟨j,hj,e⟩);rw[hx]at this;cases this
theorem P19.need {L:Lg}{all:List Ent}{ts:List Tl}(hI:Inv L all) (h:P19 L ts):Need L (vU all.length ts):=by
 have hc:=hI.cnt
 have hm:∀ {j},j<ts.length→ts.getD j yY∈ts:=fun {j} hj=>by rw[←List.getElem_eq_getD (h:=hj)];exact List.getElem_mem _
 refine⟨by rw[hc];exact l8 _ _,fun x p hx=>?_,?_⟩
 ·obtain⟨j,hj,_,rfl⟩:=h.find hx;exact jo _ _ _ (hm hj)
 ·rcases gI ts all.length with q|⟨t,ht,q⟩
  ·exact Or.inl (q.trans hc.symm)
  ·obtain⟨j,hj,rfl⟩:=List.getElem_of_mem ht;refine Or.inr ⟨_,_,h.yes j hj,?_⟩;rw[q,List.getElem_eq_getD yY]
theorem P19.free {L:Lg}{ts:List Tl}(h:P19 L ts):L.tls (L.subs:Int)=none:=h.no _ (fun j hj e=>by have:=h.lt j hj;omega)
theorem xw {l:List Tl}{t:Tl}{j:Nat}(hj:j<(l++[t]).length):(l++[t]).getD j yY=if j<l.length then l.getD j yY else t:=by
 rw[List.length_append,List.length_singleton]at hj;by_cases e:j<l.length
 ·rw[if_pos e];simp[List.getD,List.getElem?_append_left e]
 ·obtain rfl:j=l.length:=by omega
  rw[if_neg e];simp[List.getD]
theorem P19.sub {L:Lg}{ts:List Tl}(h:P19 L ts) (x:ByteArray) (hx:x.size≤1048576) (c:Nat) (hn:L.tn<4):P19 { L with tls:=fun y=>if y=(L.subs:Int) then some (x,c) else L.tls y,tn:=L.tn+1,subs:=L.subs+1 } (ts++[⟨L.subs,x,c⟩]):=by
 have hl:(ts++[(⟨L.subs,x,c⟩:Tl)]).length=ts.length+1:=by simp
 have htn:=h.tn;refine⟨fun j hj=>?_,fun y hy=>?_,fun i j hi hj e=>?_,fun j hj=>?_,fun j hj=>?_,?_,by omega⟩
 ·rw[xw hj];by_cases e:j<ts.length
  ·simp only[if_pos e];have:=h.lt j e;rw[if_neg (by omega)];exact h.yes j e
  ·simp only[if_neg e,if_true]
 ·have hne:y≠(L.subs:Int):=fun e=>by
   have:=hy ts.length (by omega);rw[xw (by omega),if_neg (Nat.lt_irrefl _)]at this;exact this e.symm
  simp only[if_neg hne];refine h.no y (fun j hj e=>?_);have:=hy j (by omega);rw[xw (by omega),if_pos hj]at this;exact this e
 ·rw[xw hi,xw hj]at e;rw[hl]at hi hj
  by_cases c1:i<ts.length <;> by_cases c2:j<ts.length
  ·rw[if_pos c1,if_pos c2]at e;exact h.dis i j c1 c2 e
  ·rw[if_pos c1,if_neg c2]at e;have:=h.lt i c1;dsimp only at e;omega
  ·rw[if_neg c1,if_pos c2]at e;have:=h.lt j c2;dsimp only at e;omega
  ·omega
 ·rw[xw hj];by_cases e:j<ts.length
  ·rw[if_pos e];have:=h.lt j e;dsimp only;omega
  ·rw[if_neg e];dsimp only;omega
 ·rw[xw hj];by_cases e:j<ts.length
  ·rw[if_pos e];exact h.sz j e
  ·rw[if_neg e];exact hx
 ·dsimp only;omega
theorem yM {l:List Tl}{i j:Nat}(_hj:j<(l.eraseIdx i).length):(l.eraseIdx i).getD j yY=l.getD (if j<i then j else j+1) yY:=by
 simp only[List.getD];rw[List.getElem?_eraseIdx];by_cases e:j<i
 ·rw[if_pos e,if_pos e]
 ·rw[if_neg e,if_neg e]
theorem P19.unsub {L:Lg}{ts:List Tl}(h:P19 L ts){i:Nat}(hi:i<ts.length){x:Int}(hx:((ts.getD i yY).num:Int)=x):P19 { L with tls:=fun y=>if y=x then none else L.tls y,tn:=L.tn-1 } (ts.eraseIdx i):=by
 have hl:(ts.eraseIdx i).length=ts.length-1:=List.length_eraseIdx_of_lt hi;have htn:=h.tn
 have hup:∀ {j},j<(ts.eraseIdx i).length→(if j<i then j else j+1)<ts.length∧(if j<i then j else j+1)≠i:=fun {j} hj=>by
  rw[hl]at hj
  split <;> omega
 refine⟨fun j hj=>?_,fun y hy=>?_,fun a b ha hb e=>?_,fun j hj=>?_,fun j hj=>?_,?_,by have:=h.few;omega⟩
 ·rw[yM hj];obtain⟨h1,h2⟩:=hup hj
  have hne:((ts.getD (if j<i then j else j+1) yY).num:Int)≠x:=fun e=>h2 (h.dis _ _ h1 hi (by omega))
  simp only[if_neg hne];exact h.yes _ h1
 ·by_cases e:y=x
  ·simp only[if_pos e]
  ·simp only[if_neg e];refine h.no y (fun j hj e2=>?_)
   have hji:j≠i:=fun q=>e (by rw[←e2,q];exact hx)
   by_cases c:j<i
   ·have:=hy j (by omega);rw[yM (by omega),if_pos c]at this;exact this e2
   ·have:=hy (j-1) (by omega);rw[yM (by omega),if_neg (by omega),show j-1+1=j by omega]at this;exact this e2
 ·rw[yM ha,yM hb]at e;have:=h.dis _ _ (hup ha).1 (hup hb).1 e
  split at this <;> split at this <;> omega
 ·rw[yM hj];exact h.lt _ (hup hj).1
 ·rw[yM hj];exact h.sz _ (hup hj).1
 ·dsimp only;omega
theorem qU {l:List Tl}{i j:Nat}{t:Tl}(hi:i<l.length):(l.set i t).getD j yY=if j=i then t else l.getD j yY:=by
 simp only[List.getD];rw[List.getElem?_set];by_cases e:j=i
 ·subst e;rw[if_pos rfl,if_pos hi,if_pos rfl];rfl
 ·rw[if_neg (Ne.symm e),if_neg e]
theorem P19.poll {L:Lg}{ts:List Tl}(h:P19 L ts){i:Nat}(hi:i<ts.length){x:Int}(hx:((ts.getD i yY).num:Int)=x) (p':Nat):P19 { L with tls:=fun z=>if z=x then some ((ts.getD i yY).word,p') else L.tls z } (ts.set i { ts.getD i yY with place:=p' }):=by
 have hl:(ts.set i { ts.getD i yY with place:=p' }).length=ts.length:=List.length_set
 have hnum:∀j,((ts.set i { ts.getD i yY with place:=p' }).getD j yY).num=(ts.getD j yY).num∧((ts.set i { ts.getD i yY with place:=p' }).getD j yY).word=(ts.getD j yY).word:=fun j=>by
  rw[qU hi];by_cases e:j=i
  ·rw[if_pos e,e];exact⟨rfl,rfl⟩
  ·rw[if_neg e];exact⟨rfl,rfl⟩
 refine⟨fun j hj=>?_,fun y hy=>?_,fun a b ha hb e=>?_,fun j hj=>?_,fun j hj=>?_,?_,?_⟩
 ·rw[hl]at hj;rw[(hnum j).1,(hnum j).2,qU hi];by_cases e:j=i
  ·subst e;simp only[if_true,if_pos hx]
  ·have hne:((ts.getD j yY).num:Int)≠x:=fun q=>e (h.dis _ _ hj hi (by omega))
   simp only[if_neg hne,if_neg e];exact h.yes j hj
 ·have hne:y≠x:=fun e=>by
   have:=hy i (by omega);rw[(hnum i).1]at this;exact this (hx.trans e.symm)
  simp only[if_neg hne];refine h.no y (fun j hj e=>?_);have:=hy j (by omega);rw[(hnum j).1]at this;exact this e
 ·rw[hl]at ha hb;rw[(hnum a).1,(hnum b).1]at e;exact h.dis a b ha hb e
 ·rw[hl]at hj;rw[(hnum j).1];exact h.lt j hj
 ·rw[hl]at hj;rw[(hnum j).2];exact h.sz j hj
 ·rw[hl];exact h.tn
 ·rw[hl];exact h.few
theorem aQ {f:Ent→Bool}{all:List Ent}{c p b:Nat}(ho:AllOk all c) (hp:p≤all.length) (hb:1≤b):p≤plc (uf f all p b) b all.length∧plc (uf f all p b) b all.length≤all.length:=by
 unfold plc;by_cases e:(uf f all p b).length=b
 ·rw[if_pos e]
  have hm:(uf f all p b).getD (b-1) e0∈uf f all p b:=by rw[←List.getElem_eq_getD (h:=by omega)];exact List.getElem_mem _
  generalize (uf f all p b).getD (b-1) e0=t at *;unfold uf at hm;obtain⟨k,hk,rfl⟩:=List.getElem_of_mem (List.mem_filter.1 (List.mem_of_mem_take hm)).1;rw[List.length_drop]at hk;have h1:=ho.num (p+k) (by omega);rw[←List.getElem_eq_getD (h:=by omega)]at h1;rw[List.getElem_drop,h1];omega
 ·rw[if_neg e];exact⟨hp,Nat.le_refl _⟩
theorem bA {x:Int}(h:-9223372036854775808≤x∧x<9223372036854775808):tC x:=by
 unfold tC;simp[Lit.wf,IntKind.min,IntKind.max,IntKind.signed,IntKind.bits];omega
theorem Inv.psegs {L:Lg}{all:List Ent}(h:Inv L all) (hM:all.length≤400000):∀es∈yv L.lev++[L.mem],es.length≤1048576∧bJ es:=fun es hes=>by
 have hsub:es.Sublist all:=by
  rcases List.mem_append.1 hes with q|q
  ·exact h.segSub q
  ·rw[List.mem_singleton.1 q];exact h.memSub
 exact⟨by have:=hsub.length_le;omega,h.sqsOf hsub⟩
theorem lu {W:World}{lb:Nat}(A Bv Cv:Int) (S T:ByteArray) (R:Int→Int→World→Prop)
  (hq:∀W2,Below W.heap.size W W2→TyB W W2→Calls Tryz.prog 86 #[zr lb, .string S] W2 fun e w'=>∃n er,e=.returned (.tuple #[.int .i64 n, .int .i64 er])∧(∀k,W.heap.size≤k→k<W2.heap.size→w'.heap[k]? = W2.heap[k]?)∧∀w3,Tch (fun k=>W.heap.size≤k∧k<W2.heap.size) w' w3→R n er w3) :
  Calls Tryz.prog 133 #[zr lb,oV ⟨17,A,Bv,Cv,S,T⟩] W fun e w3=>∃n er,e=.returned (.agg (wO n er (.slice none 0 0) (.slice none 0 0)))∧R n er w3:=by
 obtain⟨W2,hW2,hb2,k0,k1,hs2⟩:=yb W ⟨17,A,Bv,Cv,S,T⟩;simp only[oV]at hW2 k0 ⊢;have CQ:=zx (hq W2 hb2 (vp k0 k1 hs2))
 have hN:∀er w,Calls Tryz.prog 114 #[.int .i64 er] w fun e w'=>e=.returned (.int .i64 er)∧w'=w:=fun er w=>yO er w
 have HNM:=zx hN;obtain⟨o0,_⟩:=zy (j:=0) (u:=.int .i64 17) k0 rfl;obtain⟨o2,_⟩:=zy (j:=4) (u:=.string S) k0 rfl;have HW2:=zx hW2;have HK1:=zx k1;have HS2:=zx hs2;clear hW2 hq hN hb2 k0 k1 hs2
 go_enter Tryz.func133,Tryz.ntmps133
 go_upto_region 1 with fail
 rw[←HW2.out]
 go_wp2_with (first
  | (go_at_call 86;refine CQ.out.mono ?_;rintro e w2 ⟨n,er,rfl,h1,h2⟩;have k2:=(h1 (W.heap.size+1) (by omega) (by rw[HS2.out];omega)).trans HK1.out;obtain⟨y0,f0⟩:=zy (j:=0) (u:=.int .i64 0) k2 rfl;obtain⟨y1,f1⟩:=zy (j:=1) (u:=.int .i64 0) k2 rfl;obtain⟨y2,f2⟩:=zy (j:=2) (u:=.slice none 0 0) k2 rfl;obtain⟨y3,f3⟩:=zy (j:=3) (u:=.slice none 0 0) k2 rfl;have HK2:=zx k2;have H2:=zx h2;clear h1 h2 k2)
  | (go_at_call 114;refine(HNM.out _ _).mono ?_;rintro e W ⟨rfl,hW⟩;rw[hW];clear hW W))
 have hset:=zh (j:=3) (v:=.slice none 0 0) (zh (j:=2) (v:=.slice none 0 0) (zh (j:=1) (v:=.int .i64 er) (zh (j:=0) (v:=.int .i64 n) HK2.out)));have hld:=run_loadVar_row (P:=Tryz.prog) _ (W.heap.size+1) 245 245 _ (0,0) _ hset Tryz.underlying245 rfl Tryz.sizeTold;refine bodyPost_ret (v:=.agg (#[.int .i64 n, .int .i64 er, .slice none 0 0, .slice none 0 0])) ?_ rfl ⟨n,er,rfl,H2.out _ ⟨rfl,rfl,rfl,by simp,fun k hk hn=>?_⟩⟩
 ·rw[za rfl];simp[asAddr,Result.andThen,hld]
 ·have hk':k≠W.heap.size+1:=fun e=>hn ⟨by omega,by rw[HS2.out];omega⟩
  rw[zt hk',zt hk',zt hk',zt hk']
theorem pR {W:World}{lb:Nat}(A Bv Cv:Int) (S T:ByteArray) (R:Int→Int→World→Prop)
  (hq:∀W2,Below W.heap.size W W2→TyB W W2→Calls Tryz.prog 209 #[zr lb, .string S] W2 fun e w'=>∃n er,e=.returned (.tuple #[.int .i64 n, .int .i64 er])∧(∀k,W.heap.size≤k→k<W2.heap.size→w'.heap[k]? = W2.heap[k]?)∧∀w3,Tch (fun k=>W.heap.size≤k∧k<W2.heap.size) w' w3→R n er w3) :
  Calls Tryz.prog 134 #[zr lb,oV ⟨17,A,Bv,Cv,S,T⟩] W fun e w3=>∃n er,e=.returned (.agg (wO n er (.slice none 0 0) (.slice none 0 0)))∧R n er w3:=by
 obtain⟨W2,hW2,hb2,k0,k1,hs2⟩:=yb W ⟨17,A,Bv,Cv,S,T⟩;simp only[oV]at hW2 k0 ⊢;have CQ:=zx (hq W2 hb2 (vp k0 k1 hs2))
 have hN:∀er w,Calls Tryz.prog 114 #[.int .i64 er] w fun e w'=>e=.returned (.int .i64 er)∧w'=w:=fun er w=>yO er w
 have HNM:=zx hN;obtain⟨o0,_⟩:=zy (j:=0) (u:=.int .i64 17) k0 rfl;obtain⟨o2,_⟩:=zy (j:=4) (u:=.string S) k0 rfl;have HW2:=zx hW2;have HK1:=zx k1;have HS2:=zx hs2;clear hW2 hq hN hb2 k0 k1 hs2
 go_enter Tryz.func134,Tryz.ntmps134
 go_upto_region 1 with fail
 rw[←HW2.out]
 go_wp2_with (first
  | (go_at_call 209;refine CQ.out.mono ?_;rintro e w2 ⟨n,er,rfl,h1,h2⟩;have k2:=(h1 (W.heap.size+1) (by omega) (by rw[HS2.out];omega)).trans HK1.out;obtain⟨y0,f0⟩:=zy (j:=0) (u:=.int .i64 0) k2 rfl;obtain⟨y1,f1⟩:=zy (j:=1) (u:=.int .i64 0) k2 rfl;obtain⟨y2,f2⟩:=zy (j:=2) (u:=.slice none 0 0) k2 rfl;obtain⟨y3,f3⟩:=zy (j:=3) (u:=.slice none 0 0) k2 rfl;have HK2:=zx k2;have H2:=zx h2;clear h1 h2 k2)
  | (go_at_call 114;refine(HNM.out _ _).mono ?_;rintro e W ⟨rfl,hW⟩;rw[hW];clear hW W))
 have hset:=zh (j:=3) (v:=.slice none 0 0) (zh (j:=2) (v:=.slice none 0 0) (zh (j:=1) (v:=.int .i64 er) (zh (j:=0) (v:=.int .i64 n) HK2.out)));have hld:=run_loadVar_row (P:=Tryz.prog) _ (W.heap.size+1) 245 245 _ (0,0) _ hset Tryz.underlying245 rfl Tryz.sizeTold;refine bodyPost_ret (v:=.agg (#[.int .i64 n, .int .i64 er, .slice none 0 0, .slice none 0 0])) ?_ rfl ⟨n,er,rfl,H2.out _ ⟨rfl,rfl,rfl,by simp,fun k hk hn=>?_⟩⟩
 ·rw[za rfl];simp[asAddr,Result.andThen,hld]
 ·have hk':k≠W.heap.size+1:=fun e=>hn ⟨by omega,by rw[HS2.out];omega⟩
  rw[zt hk',zt hk',zt hk',zt hk']
theorem fy {W:World}{lb:Nat}(A Bv Cv:Int) (S T:ByteArray) (R:Value→Int→World→Prop)
  (hq:∀W2,Below W.heap.size W W2→TyB W W2→Calls Tryz.prog 52 #[zr lb, .int .i64 Bv] W2 fun e w'=>∃v er,e=.returned (.tuple #[v, .int .i64 er])∧vv v∧(∀k,W.heap.size≤k→k<W2.heap.size→w'.heap[k]? = W2.heap[k]?)∧∀w3,Tch (fun k=>W.heap.size≤k∧k<W2.heap.size) w' w3→R v er w3) :
  Calls Tryz.prog 133 #[zr lb,oV ⟨18,A,Bv,Cv,S,T⟩] W fun e w3=>∃v er,e=.returned (.agg (wO 0 er v (.slice none 0 0)))∧vv v∧R v er w3:=by
 obtain⟨W2,hW2,hb2,k0,k1,hs2⟩:=yb W ⟨18,A,Bv,Cv,S,T⟩;simp only[oV]at hW2 k0 ⊢;have CQ:=zx (hq W2 hb2 (vp k0 k1 hs2))
 have hN:∀er w,Calls Tryz.prog 114 #[.int .i64 er] w fun e w'=>e=.returned (.int .i64 er)∧w'=w:=fun er w=>yO er w
 have HNM:=zx hN;obtain⟨o0,_⟩:=zy (j:=0) (u:=.int .i64 18) k0 rfl;obtain⟨o2,_⟩:=zy (j:=2) (u:=.int .i64 Bv) k0 rfl;have HW2:=zx hW2;have HK1:=zx k1;have HS2:=zx hs2;clear hW2 hq hN hb2 k0 k1 hs2
 go_enter Tryz.func133,Tryz.ntmps133
 go_upto_region 1 with fail
 rw[←HW2.out]
 go_wp2_with (first
  | (go_at_call 52;refine CQ.out.mono ?_;rintro e w2 ⟨v,er,rfl,⟨va,vn,vc,rfl⟩,h1,h2⟩;have k2:=(h1 (W.heap.size+1) (by omega) (by rw[HS2.out];omega)).trans HK1.out;obtain⟨y0,f0⟩:=zy (j:=0) (u:=.int .i64 0) k2 rfl;obtain⟨y1,f1⟩:=zy (j:=1) (u:=.int .i64 0) k2 rfl;obtain⟨y2,f2⟩:=zy (j:=2) (u:=.slice none 0 0) k2 rfl;obtain⟨y3,f3⟩:=zy (j:=3) (u:=.slice none 0 0) k2 rfl;have HK2:=zx k2;have H2:=zx h2;clear h1 h2 k2)
  | (go_at_call 114;refine(HNM.out _ _).mono ?_;rintro e W ⟨rfl,hW⟩;rw[hW];clear hW W))
 have hset:=zh (j:=3) (v:=.slice none 0 0) (zh (j:=2) (v:=.slice va vn vc) (zh (j:=1) (v:=.int .i64 er) (zh (j:=0) (v:=.int .i64 0) HK2.out)));have hld:=run_loadVar_row (P:=Tryz.prog) _ (W.heap.size+1) 245 245 _ (0,0) _ hset Tryz.underlying245 rfl Tryz.sizeTold;refine bodyPost_ret (v:=.agg (#[.int .i64 0, .int .i64 er, .slice va vn vc, .slice none 0 0])) ?_ rfl ⟨_,er,rfl,⟨_,_,_,rfl⟩,H2.out _ ⟨rfl,rfl,rfl,by simp,fun k hk hn=>?_⟩⟩
 ·rw[za rfl];simp[asAddr,Result.andThen,hld]
 ·have hk':k≠W.heap.size+1:=fun e=>hn ⟨by omega,by rw[HS2.out];omega⟩
  rw[zt hk',zt hk',zt hk',zt hk']
theorem jT {W:World}{lb:Nat}(A Bv Cv:Int) (S T:ByteArray) (R:Value→Int→World→Prop)
  (hq:∀W2,Below W.heap.size W W2→TyB W W2→Calls Tryz.prog 210 #[zr lb, .int .i64 Bv] W2 fun e w'=>∃v er,e=.returned (.tuple #[v, .int .i64 er])∧vv v∧(∀k,W.heap.size≤k→k<W2.heap.size→w'.heap[k]? = W2.heap[k]?)∧∀w3,Tch (fun k=>W.heap.size≤k∧k<W2.heap.size) w' w3→R v er w3) :
  Calls Tryz.prog 134 #[zr lb,oV ⟨18,A,Bv,Cv,S,T⟩] W fun e w3=>∃v er,e=.returned (.agg (wO 0 er v (.slice none 0 0)))∧vv v∧R v er w3:=by
 obtain⟨W2,hW2,hb2,k0,k1,hs2⟩:=yb W ⟨18,A,Bv,Cv,S,T⟩;simp only[oV]at hW2 k0 ⊢;have CQ:=zx (hq W2 hb2 (vp k0 k1 hs2))
 have hN:∀er w,Calls Tryz.prog 114 #[.int .i64 er] w fun e w'=>e=.returned (.int .i64 er)∧w'=w:=fun er w=>yO er w
 have HNM:=zx hN;obtain⟨o0,_⟩:=zy (j:=0) (u:=.int .i64 18) k0 rfl;obtain⟨o2,_⟩:=zy (j:=2) (u:=.int .i64 Bv) k0 rfl;have HW2:=zx hW2;have HK1:=zx k1;have HS2:=zx hs2;clear hW2 hq hN hb2 k0 k1 hs2
 go_enter Tryz.func134,Tryz.ntmps134
 go_upto_region 1 with fail
 rw[←HW2.out]
 go_wp2_with (first
  | (go_at_call 210;refine CQ.out.mono ?_;rintro e w2 ⟨v,er,rfl,⟨va,vn,vc,rfl⟩,h1,h2⟩;have k2:=(h1 (W.heap.size+1) (by omega) (by rw[HS2.out];omega)).trans HK1.out;obtain⟨y0,f0⟩:=zy (j:=0) (u:=.int .i64 0) k2 rfl;obtain⟨y1,f1⟩:=zy (j:=1) (u:=.int .i64 0) k2 rfl;obtain⟨y2,f2⟩:=zy (j:=2) (u:=.slice none 0 0) k2 rfl;obtain⟨y3,f3⟩:=zy (j:=3) (u:=.slice none 0 0) k2 rfl;have HK2:=zx k2;have H2:=zx h2;clear h1 h2 k2)
  | (go_at_call 114;refine(HNM.out _ _).mono ?_;rintro e W ⟨rfl,hW⟩;rw[hW];clear hW W))
 have hset:=zh (j:=3) (v:=.slice none 0 0) (zh (j:=2) (v:=.slice va vn vc) (zh (j:=1) (v:=.int .i64 er) (zh (j:=0) (v:=.int .i64 0) HK2.out)));have hld:=run_loadVar_row (P:=Tryz.prog) _ (W.heap.size+1) 245 245 _ (0,0) _ hset Tryz.underlying245 rfl Tryz.sizeTold;refine bodyPost_ret (v:=.agg (#[.int .i64 0, .int .i64 er, .slice va vn vc, .slice none 0 0])) ?_ rfl ⟨_,er,rfl,⟨_,_,_,rfl⟩,H2.out _ ⟨rfl,rfl,rfl,by simp,fun k hk hn=>?_⟩⟩
 ·rw[za rfl];simp[asAddr,Result.andThen,hld]
 ·have hk':k≠W.heap.size+1:=fun e=>hn ⟨by omega,by rw[HS2.out];omega⟩
  rw[zt hk',zt hk',zt hk',zt hk']
theorem gA {W:World}{lb:Nat}(A Bv Cv:Int) (S T:ByteArray) (R:Int→World→Prop)
  (hq:∀W2,Below W.heap.size W W2→TyB W W2→Calls Tryz.prog 87 #[zr lb, .int .i64 Bv] W2 fun e w'=>∃er,e=.returned (.int .i64 er)∧(∀k,W.heap.size≤k→k<W2.heap.size→w'.heap[k]? = W2.heap[k]?)∧∀w3,Tch (fun k=>W.heap.size≤k∧k<W2.heap.size) w' w3→R er w3) :
  Calls Tryz.prog 133 #[zr lb,oV ⟨19,A,Bv,Cv,S,T⟩] W fun e w3=>∃er,e=.returned (.agg (wO 0 er (.slice none 0 0) (.slice none 0 0)))∧R er w3:=by
 obtain⟨W2,hW2,hb2,k0,k1,hs2⟩:=yb W ⟨19,A,Bv,Cv,S,T⟩;simp only[oV]at hW2 k0 ⊢;have CQ:=zx (hq W2 hb2 (vp k0 k1 hs2))
 have hN:∀er w,Calls Tryz.prog 114 #[.int .i64 er] w fun e w'=>e=.returned (.int .i64 er)∧w'=w:=fun er w=>yO er w
 have HNM:=zx hN;obtain⟨o0,_⟩:=zy (j:=0) (u:=.int .i64 19) k0 rfl;obtain⟨o2,_⟩:=zy (j:=2) (u:=.int .i64 Bv) k0 rfl;have HW2:=zx hW2;have HK1:=zx k1;have HS2:=zx hs2;clear hW2 hq hN hb2 k0 k1 hs2
 go_enter Tryz.func133,Tryz.ntmps133
 go_upto_region 1 with fail
 rw[←HW2.out]
 go_wp2_with (first
  | (go_at_call 87;refine CQ.out.mono ?_;rintro e w2 ⟨er,rfl,h1,h2⟩;have k2:=(h1 (W.heap.size+1) (by omega) (by rw[HS2.out];omega)).trans HK1.out;obtain⟨y0,f0⟩:=zy (j:=0) (u:=.int .i64 0) k2 rfl;obtain⟨y1,f1⟩:=zy (j:=1) (u:=.int .i64 0) k2 rfl;obtain⟨y2,f2⟩:=zy (j:=2) (u:=.slice none 0 0) k2 rfl;obtain⟨y3,f3⟩:=zy (j:=3) (u:=.slice none 0 0) k2 rfl;have HK2:=zx k2;have H2:=zx h2;clear h1 h2 k2)
  | (go_at_call 114;refine(HNM.out _ _).mono ?_;rintro e W ⟨rfl,hW⟩;rw[hW];clear hW W))
 have hset:=zh (j:=3) (v:=.slice none 0 0) (zh (j:=2) (v:=.slice none 0 0) (zh (j:=1) (v:=.int .i64 er) (zh (j:=0) (v:=.int .i64 0) HK2.out)));have hld:=run_loadVar_row (P:=Tryz.prog) _ (W.heap.size+1) 245 245 _ (0,0) _ hset Tryz.underlying245 rfl Tryz.sizeTold;refine bodyPost_ret (v:=.agg (#[.int .i64 0, .int .i64 er, .slice none 0 0, .slice none 0 0])) ?_ rfl ⟨er,rfl,H2.out _ ⟨rfl,rfl,rfl,by simp,fun k hk hn=>?_⟩⟩
 ·rw[za rfl];simp[asAddr,Result.andThen,hld]
 ·have hk':k≠W.heap.size+1:=fun e=>hn ⟨by omega,by rw[HS2.out];omega⟩
  rw[zt hk',zt hk',zt hk',zt hk']
theorem jV {W:World}{lb:Nat}(A Bv Cv:Int) (S T:ByteArray) (R:Int→World→Prop)
  (hq:∀W2,Below W.heap.size W W2→TyB W W2→Calls Tryz.prog 211 #[zr lb, .int .i64 Bv] W2 fun e w'=>∃er,e=.returned (.int .i64 er)∧(∀k,W.heap.size≤k→k<W2.heap.size→w'.heap[k]? = W2.heap[k]?)∧∀w3,Tch (fun k=>W.heap.size≤k∧k<W2.heap.size) w' w3→R er w3) :
  Calls Tryz.prog 134 #[zr lb,oV ⟨19,A,Bv,Cv,S,T⟩] W fun e w3=>∃er,e=.returned (.agg (wO 0 er (.slice none 0 0) (.slice none 0 0)))∧R er w3:=by
 obtain⟨W2,hW2,hb2,k0,k1,hs2⟩:=yb W ⟨19,A,Bv,Cv,S,T⟩;simp only[oV]at hW2 k0 ⊢;have CQ:=zx (hq W2 hb2 (vp k0 k1 hs2))
 have hN:∀er w,Calls Tryz.prog 114 #[.int .i64 er] w fun e w'=>e=.returned (.int .i64 er)∧w'=w:=fun er w=>yO er w
 have HNM:=zx hN;obtain⟨o0,_⟩:=zy (j:=0) (u:=.int .i64 19) k0 rfl;obtain⟨o2,_⟩:=zy (j:=2) (u:=.int .i64 Bv) k0 rfl;have HW2:=zx hW2;have HK1:=zx k1;have HS2:=zx hs2;clear hW2 hq hN hb2 k0 k1 hs2
 go_enter Tryz.func134,Tryz.ntmps134
 go_upto_region 1 with fail
 rw[←HW2.out]
 go_wp2_with (first
  | (go_at_call 211;refine CQ.out.mono ?_;rintro e w2 ⟨er,rfl,h1,h2⟩;have k2:=(h1 (W.heap.size+1) (by omega) (by rw[HS2.out];omega)).trans HK1.out;obtain⟨y0,f0⟩:=zy (j:=0) (u:=.int .i64 0) k2 rfl;obtain⟨y1,f1⟩:=zy (j:=1) (u:=.int .i64 0) k2 rfl;obtain⟨y2,f2⟩:=zy (j:=2) (u:=.slice none 0 0) k2 rfl;obtain⟨y3,f3⟩:=zy (j:=3) (u:=.slice none 0 0) k2 rfl;have HK2:=zx k2;have H2:=zx h2;clear h1 h2 k2)
  | (go_at_call 114;refine(HNM.out _ _).mono ?_;rintro e W ⟨rfl,hW⟩;rw[hW];clear hW W))
 have hset:=zh (j:=3) (v:=.slice none 0 0) (zh (j:=2) (v:=.slice none 0 0) (zh (j:=1) (v:=.int .i64 er) (zh (j:=0) (v:=.int .i64 0) HK2.out)));have hld:=run_loadVar_row (P:=Tryz.prog) _ (W.heap.size+1) 245 245 _ (0,0) _ hset Tryz.underlying245 rfl Tryz.sizeTold;refine bodyPost_ret (v:=.agg (#[.int .i64 0, .int .i64 er, .slice none 0 0, .slice none 0 0])) ?_ rfl ⟨er,rfl,H2.out _ ⟨rfl,rfl,rfl,by simp,fun k hk hn=>?_⟩⟩
 ·rw[za rfl];simp[asAddr,Result.andThen,hld]
 ·have hk':k≠W.heap.size+1:=fun e=>hn ⟨by omega,by rw[HS2.out];omega⟩
  rw[zt hk',zt hk',zt hk',zt hk']
end Go.Proofs.YtkncboinfcnklaaGreatDoor.Lw
