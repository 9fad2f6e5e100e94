import Derived.Test.YtkncboinfcnklaaGreatDoorQ36
namespace Go.Proofs.YtkncboinfcnklaaGreatDoor.Rl
open Go.RowKit Go.Deep Go.Shelf Go.Proofs.YtkncboinfcnklaaGreatDoor.Mth
theorem mrg_no {L:Lg} {i m:Nat} (h:L.left i m=[]):Lg.lev1 L i ((L.lev i).drop L.fan)=L.mrg i m:=by
 unfold Lg.mrg
 rw [if_pos h]
 unfold Lg.cut Lg.lev1
 congr 1
 funext j
 by_cases e:j=i
 ·rw [if_pos e,if_pos e,e]
 ·rw [if_neg e,if_neg e]
theorem mrg_yes {L:Lg} {i m:Nat} (h:¬ L.left i m=[]):Lg.lev1 (Lg.lev1 L i ((L.lev i).drop L.fan)) (i + 1) ((Lg.lev1 L i ((L.lev i).drop L.fan)).lev (i + 1) ++ [L.left i m])=L.mrg i m:=by
 unfold Lg.mrg
 rw [if_neg h]
 unfold Lg.cut Lg.put Lg.lev1
 simp only
 congr 1
 funext j
 by_cases e:j=i
 ·subst e
  rw [if_neg (by omega),if_pos rfl,if_pos rfl,if_neg (by omega)]
 ·by_cases e2:j=i + 1
  ·subst e2
   rw [if_pos rfl,if_neg (by omega),if_neg (by omega),if_pos rfl]
  ·rw [if_neg e2,if_neg e,if_neg e,if_neg e2]
theorem kp_old (L:Lg) (m:Nat) (e:Ent):kp ((L.clock:Int) - (L.keep:Int)) m e=(!decide (e.time + (L.keep:Int) < (L.clock:Int)) || decide ((m:Int)≤e.seq)):=by
 unfold kp
 congr 1
 by_cases h:(L.clock:Int) - (L.keep:Int)≤e.time
 ·rw [decide_eq_true h,decide_eq_false (by omega)];rfl
 ·rw [decide_eq_false h,decide_eq_true (by omega)];rfl
set_option maxRecDepth 100000 in
set_option maxHeartbeats 8000000 in
theorem endsR_any {Z:Nat→Prop} {w:World} {B cb:Nat} {V:Rv} {L:Lg} {all:List Ent} {ts:List Tl} (hb:w.heap[cb]? = some (Obj.cells (rfC V L) 234 (0,0))) (h:RfV Z B w V L all ts) (hD:RfD B V L) (hZ:∀ g,B≤g→Z g) (hB:B≤w.heap.size) (hcbB:B≤cb) {i:Nat} (hi:i≤4) (hfl:L.fan≤(L.lev i).length) (hf1:1≤L.fan∧L.fan≤4) (hw:0 < L.wks.length∧L.wks.length≤4) (hnd:∀ q,q < L.wks.length→(L.wks.getD q wk0).list.length≤900) (hlv:∀ j,j < 6→(L.lev j).length≤1048576) (hck:L.clock≤1000000000000) (hkp:L.keep≤1000000)
  (htm:∀ es ∈ L.lev i,∀ e ∈ es,0≤e.time∧e.time≤1000000000000) (hfl2:((L.lev i).take L.fan).flatten.length≤1048576) :
  Calls Tryz.prog 252 #[ptrV cb, .int .i64 (i:Int)] w fun e w'=>e=.returned (.tuple #[])∧Below B w w'∧TyF w w'∧∃ V',w'.heap[cb]? = some (Obj.cells (rfC V' (L.ends i (ndT all.length ts))) 234 (0,0))∧RfV Z B w' V' (L.ends i (ndT all.length ts)) all ts:=by
 obtain ⟨i0,hi0,hz0,hz1,hz2⟩:=info_parts Tryz.info66
 obtain ⟨j0,hj0,hk0,hk1,hk2⟩:=info_parts Tryz.infoRow
 have hcb:cb < w.heap.size:=(Array.getElem?_eq_some_iff.1 hb).1
 have CN:=hide (needR_any hb h.all h.tls)
 generalize hm:ndT all.length ts=m at *
 clear hm
 have CO:Hid (∀ W,Below w.heap.size w W→∀ (e:Ent),0≤e.time∧e.time≤1000000000000→Calls Tryz.prog 250 #[ptrV cb, .agg #[.int .i64 e.seq, .int .i64 e.time, .string e.text]] W fun r w'=>r=.returned (.bool (decide (e.time + (L.keep:Int) < (L.clock:Int))))∧Below W.heap.size W w'):=fun W hW e he=>oldR_any ((hW.block cb hcb).trans hb) e.seq e.time e.text he hkp hck
 obtain ⟨ai,ci,hli,hci,hcim⟩:=own_slice (h.lev i (by omega))
 obtain ⟨ap,cp,hlp,hcp,hcpm⟩:=own_slice (h.lev (i + 1) (by omega))
 have hln:=hlv i (by omega)
 have hlnp:=hlv (i + 1) (by omega)
 have hLI:=h.lev i (by omega)
 rw [hli] at hLI
 obtain ⟨gi,rfl⟩:=own_some hLI (by omega)
 have F7:Hid (∀ W,Below w.heap.size w W→W.cell? ⟨cb,9 + i,none⟩=some (.slice (some ⟨gi,0,none⟩) (L.lev i).length ci)∧W.cell? ⟨cb,1,none⟩=some (.int .i64 (L.fan:Int))∧W.ownsRow B 57 1 (.slice (some ⟨gi,0,none⟩) (L.lev i).length ci) (L.lev i).length ((List.range (L.lev i).length).map (V.sv i))):=fun W hW=>by
  have hbw:=(hW.block cb hcb).trans hb
  have h1:=(cell_of hbw (rfC_lv V L (show i < 6 by omega))).1
  rw [hli] at h1
  exact ⟨h1,(cell_of (j:=1) hbw rfl).1,own_belowR hLI hW⟩
 have FS:Hid (∀ k,k < L.fan→(∃ a c,V.sv i k=.slice a ((L.lev i).getD k []).length c∧((L.lev i).getD k []).length≤c∧c≤maxLen)∧w.ownsRow 0 66 3 (V.sv i k) ((L.lev i).getD k []).length (((L.lev i).getD k []).flatMap eC)∧(∀ e ∈ (L.lev i).getD k [],0≤e.time∧e.time≤1000000000000)∧((L.lev i).getD k []).length≤1048576∧((List.range (L.lev i).length).map (V.sv i))[k]? = some (V.sv i k)):=fun k hk=>by
  have h1:=h.seg i (by omega) k (by omega)
  have hm:(L.lev i).getD k [] ∈ (L.lev i).take L.fan:=by
   rw [← List.getElem_eq_getD (h:=by omega)]
   rw [List.mem_take_iff_getElem]
   exact ⟨k,by omega,rfl⟩
  have hm2:=List.mem_of_mem_take hm
  have hle:((L.lev i).getD k []).length≤((L.lev i).take L.fan).flatten.length:=(List.sublist_flatten_of_mem hm).length_le
  obtain ⟨a,c,e1,e2,e3⟩:=own_slice h1
  exact ⟨⟨a,c,e1,e2,e3⟩,h1,htm _ hm2,by omega,by rw [List.getElem?_map,List.getElem?_range (by omega)];rfl⟩
 have HFK:Hid (∀ k,k < L.fan→((((L.lev i).take (k + 1)).flatten).filter (kp ((L.clock:Int) - (L.keep:Int)) m))=((((L.lev i).take k).flatten).filter (kp ((L.clock:Int) - (L.keep:Int)) m)) ++ ((L.lev i).getD k []).filter (kp ((L.clock:Int) - (L.keep:Int)) m)):=fun k hk=>flat_snoc (by omega) _
 have HFL:Hid (∀ k,k≤L.fan→(((L.lev i).take k).flatten).length + (if k < L.fan then ((L.lev i).getD k []).length else 0)≤1048576):=fun k hk=>by
  by_cases e:k < L.fan
  ·rw [if_pos e]
   have h1:((L.lev i).take (k + 1)).flatten.length≤((L.lev i).take L.fan).flatten.length:=by
    have:(L.lev i).take (k + 1)=((L.lev i).take L.fan).take (k + 1):=by rw [List.take_take];congr 1;omega
    rw [this]
    exact flat_take_le _ _
   rw [take_snoc (by omega) []] at h1
   simp only [List.flatten_append,List.length_append,List.flatten_cons,List.flatten_nil,List.length_nil,Nat.add_zero] at h1
   omega
  ·have e2:k=L.fan:=by omega
   subst e2
   rw [if_neg e]
   omega
 have HKO:Hid (∀ e,kp ((L.clock:Int) - (L.keep:Int)) m e=(!decide (e.time + (L.keep:Int) < (L.clock:Int)) || decide ((m:Int)≤e.seq))):=fun e=>kp_old L m e
 have HONE:Hid (∀ u ∈ ((List.range (L.lev i).length).map (V.sv i)).drop L.fan,u.oneCell'=true):=fun u hu=>by
  obtain ⟨j,hj,rfl⟩:=List.mem_map.1 (List.mem_of_mem_drop hu)
  obtain ⟨a,c,e,_,_⟩:=own_slice (h.seg i (by omega) j (List.mem_range.1 hj))
  rw [e]
  rfl
 have FD:Hid (∀ W V2 L2,W.heap[cb]? = some (Obj.cells (rfC V2 L2) 234 (0,0))→RfV Z B W V2 L2 all ts→V2.wl=V.wl→V2.wv=V.wv→V2.rd=V.rd→L2.wks=L.wks→L2.fan=L.fan→(∀ j,j < 6→(L2.lev j).length≤1048577)→L2=L.mrg i m→Below B w W→TyF w W→Calls Tryz.prog 204 #[ptrV cb] W fun e W8=>e=.returned (.tuple #[])∧Below B w W8∧TyF w W8∧∃ V',W8.heap[cb]? = some (Obj.cells (rfC V' (L.ends i m)) 234 (0,0))∧RfV Z B W8 V' (L.ends i m) all ts):=by
  intro W V2 L2 hb2 h2 e1 e2 e3 e4 e5 hl2 eL bW tW
  have hBW:B≤W.heap.size:=Nat.le_trans hB bW.size
  have hd:DuI W W B V2 L2.wks.length V2.wl L2.wks:=⟨rfl,h2.wks,h2.lst,by rw [e1,e4];exact hD.lst,fun q hq g hg=>Or.inl hg,Tch.refl _ _⟩
  refine (due_any hb2 hd (fun j hj=>?_) (by rw [e5];omega) (by rw [e4];exact hw) hBW (by rw [e4];exact hnd)).mono ?_
  ·obtain ⟨a,c,ha,_,_⟩:=own_slice (h2.lev j hj)
   exact ⟨a,c,ha,by have:=hl2 j hj;omega⟩
  ·rintro e W8 ⟨rfl,wl',d8⟩
   obtain ⟨e8,r8⟩:=roll_fin hb2 h2 d8 (fun q _=>layTo_runs _ _ _ 5 q)
   have hend:({ L2 with wks:=layTo L2.fan (fun i=>(L2.lev i).length) L2.wks 5 }:Lg)=L.ends i m:=by
    unfold Lg.ends
    rw [← eL,← e4,← e5]
   rw [hend] at e8 r8
   refine ⟨rfl,bW.trans (below_tch0 d8.tch (fun k q=>?_) hBW),tW.trans (TyF.tch d8.tch (fun k q=>?_)),_,e8,r8⟩
   ·rcases q with q | ⟨p,hp,q⟩
    ·exact (own_block h2.wks q).1
    ·exact (own_block (h2.lst p hp) q).1
   ·rcases q with q | ⟨p,hp,q⟩
    ·exact own_typ h2.wks (by decide) (by decide) q
    ·exact own_typ (h2.lst p hp) (by decide) (by decide) q
 have FC:Hid (∀ wr lf,CurE w wr lf (L.left i m)→∀ W5 v5,(wr.drew).grownBy W5 none→W5.ownsRow wr.heap.size 57 1 v5 ((L.lev i).length - L.fan) (((List.range (L.lev i).length).map (V.sv i)).drop L.fan)→(∃ u,W5.cell? ⟨cb,9 + i,none⟩=some u∧W5.frozen? ⟨cb,9 + i,none⟩=false)∧∀ W6,W6=W5.setCell ⟨cb,9 + i,none⟩ v5 →
   ((L.left i m).length=0→Calls Tryz.prog 204 #[ptrV cb] W6 fun e W8=>e=.returned (.tuple #[])∧Below B w W8∧TyF w W8∧∃ V',W8.heap[cb]? = some (Obj.cells (rfC V' (L.ends i m)) 234 (0,0))∧RfV Z B W8 V' (L.ends i m) all ts) ∧
   (¬ (L.left i m).length=0→W6.cell? ⟨cb,9 + (i + 1),none⟩=some (.slice ap (L.lev (i + 1)).length cp)∧W6.ownsRow B 57 1 (.slice ap (L.lev (i + 1)).length cp) (L.lev (i + 1)).length ((List.range (L.lev (i + 1)).length).map (V.sv (i + 1)))∧B≤W6.heap.size ∧
    ∀ W7 v7,(W6.alloc (Obj.cells #[lf] 57)).grownBy W7 (Value.slice ap (L.lev (i + 1)).length cp).ownBlock→W7.ownsRow B 57 1 v7 ((L.lev (i + 1)).length + 1) ((List.range (L.lev (i + 1)).length).map (V.sv (i + 1)) ++ [lf])→(∃ u,W7.cell? ⟨cb,9 + (i + 1),none⟩=some u∧W7.frozen? ⟨cb,9 + (i + 1),none⟩=false)∧Calls Tryz.prog 204 #[ptrV cb] (W7.setCell ⟨cb,9 + (i + 1),none⟩ v7) fun e W8=>e=.returned (.tuple #[])∧Below B w W8∧TyF w W8∧∃ V',W8.heap[cb]? = some (Obj.cells (rfC V' (L.ends i m)) 234 (0,0))∧RfV Z B W8 V' (L.ends i m) all ts)):=by
  intro wr lf hcur W5 v5 g5 o5
  have hbr:=(hcur.1.block cb hcb).trans hb
  have hr:=h.below hcur.1
  have hBr:B≤wr.heap.size:=Nat.le_trans hB hcur.1.size
  obtain ⟨c1,c2,c3,c4⟩:=cut_mid (i:=i) (n:=L.fan) hbr hr hD hBr (by omega) hfl (drewB wr) g5 o5
  have b5:Below wr.heap.size wr W5:=(drewB wr).trans ((below_grown0 g5).mono (drewB wr).size)
  have e5:=(b5.block cb (Array.getElem?_eq_some_iff.1 hbr).1).trans hbr
  obtain ⟨x9,y9⟩:=cell_of e5 (rfC_lv V L (show i < 6 by omega))
  refine ⟨⟨_,x9,y9⟩,fun W6 hW6=>?_⟩
  rw [← hW6] at c1 c2 c4
  have bW6:Below B w W6:=(hcur.1.mono hB).trans (below_tch0 c4 (fun k q=>by rw [q];exact hcbB) hBr)
  have hB6:B≤W6.heap.size:=Nat.le_trans hB bW6.size
  have tW6:TyF w W6:=(TyF.below hcur.1).trans (TyF.tch c4 (fun k q=>by rw [q];exact ⟨_,_,hbr,by decide,by decide⟩))
  refine ⟨fun hl0=>FD.out W6 _ _ c1 c2 rfl rfl rfl rfl rfl (fun j hj=>?_) (mrg_no (List.eq_nil_of_length_eq_zero hl0)) bW6 tW6,fun hl0=>?_⟩
  ·show (if j=i then (L.lev i).drop L.fan else L.lev j).length≤1048577
   have:=hlv j hj
   split
   ·rw [List.length_drop];omega
   ·omega
  ·have hlp6:=c2.lev (i + 1) (by omega)
   have ev:(V.lev1 i v5 (fun k=>V.sv i (L.fan + k))).lv (i + 1)=V.lv (i + 1):=if_neg (by omega)
   have el:(Lg.lev1 L i ((L.lev i).drop L.fan)).lev (i + 1)=L.lev (i + 1):=if_neg (by omega)
   have es:(V.lev1 i v5 (fun k=>V.sv i (L.fan + k))).sv (i + 1)=V.sv (i + 1):=by funext k;exact if_neg (by omega)
   have c9:=(cell_of c1 (rfC_lv _ _ (show i + 1 < 6 by omega))).1
   rw [ev,hlp] at c9
   rw [ev,el,es,hlp] at hlp6
   refine ⟨c9,hlp6,hB6,fun W7 v7 g7 o7=>?_⟩
   have hlf:W6.ownsRow w.heap.size 66 3 lf (L.left i m).length ((L.left i m).flatMap eC):=own_same hcur.2 (fun g hg=>c4.block g (own_block hcur.2 hg).2.1 (fun e=>by
    have:=(own_block hcur.2 hg).1
    omega))
   obtain ⟨d1,d2,d3,d4⟩:=put_mid (i:=i + 1) c1 c2 c3 (by omega) hlf (fun g hg=>hZ g (Nat.le_trans hB (own_block hlf hg).1)) (v:=v7) (W5:=W7) (by rw [ev,hlp];exact g7) (by rw [el,es];exact o7)
   obtain ⟨x9',y9'⟩:=cell_of d1 (rfC_lv _ _ (show i + 1 < 6 by omega))
   refine ⟨⟨_,x9',y9'⟩,FD.out _ _ _ d2 d3 rfl rfl rfl rfl rfl (fun j hj=>?_) ?_ (bW6.trans (below_tch0 d4 (fun k q=>?_) hB6)) (tW6.trans (TyF.tch d4 (fun k q=>?_)))⟩
   ·show (if j=i + 1 then (if i + 1=i then (L.lev i).drop L.fan else L.lev (i + 1)) ++ [L.left i m] else (if j=i then (L.lev i).drop L.fan else L.lev j)).length≤1048577
    have:=hlv j hj
    have:=hlv (i + 1) (by omega)
    split
    ·rw [if_neg (by omega)];simp;omega
    ·split
     ·rw [List.length_drop];omega
     ·omega
   ·exact mrg_yes (fun q=>hl0 (by rw [q];rfl))
   ·rcases q with q | q
    ·rw [q];exact hcbB
    ·exact (own_block (c2.lev (i + 1) (by omega)) q).1
   ·rcases q with q | q
    ·rw [q];exact ⟨_,_,c1,by decide,by decide⟩
    ·exact own_typ (c2.lev (i + 1) (by omega)) (by decide) (by decide) q
 unfold maxLen at hcim hcpm
 have hlft:L.left i m=((((L.lev i).take L.fan).flatten).filter (kp ((L.clock:Int) - (L.keep:Int)) m)):=rfl
 generalize hFL:L.left i m=LF at *
 have HLFT:=hide hlft
 clear hFL hlft hb h hD hZ hli hlp hLI htm hfl2 hlv hnd FD
 obtain ⟨LE,hLE⟩:∃ LE,LE=L.ends i m:=⟨_,rfl⟩
 rw [← hLE] at FC ⊢
 clear hLE
 generalize hkf:kp ((L.clock:Int) - (L.keep:Int)) m=kf at *
 clear hkf
 generalize hfn:L.fan=fan at *
 generalize hnn:(L.lev i).length=nn at *
 generalize hxl:(List.range nn).map (V.sv i)=xl at *
 have HXL:Hid (xl.length=nn):=by show _=_;rw [← hxl];simp
 generalize hnp:(L.lev (i + 1)).length=np at *
 generalize (List.range np).map (V.sv (i + 1))=xp at *
 clear hfn hnn hxl hnp
 go_enter Tryz.func252,Tryz.ntmps252
 go_wp2_with (first | (go_at_call 276;refine CN.out.mono ?_;rintro e W ⟨rfl,hW⟩;rw [hW];clear hW W))
 go_loopw [5,6] (fun v x wr=>∃ k:Nat,k≤fan∧x=.int .i64 k∧CurE w wr v ((((L.lev i).take k).flatten).filter kf)) (fun _ x _=>fan - (intOf x).toNat)
 case atStart=>exact ⟨0,Nat.zero_le _,rfl,Below.refl _ _,World.ownsRow_nil _ _ _ _⟩
 case round=>
  obtain ⟨k,hk,rfl,hcur⟩:=hrel
  obtain ⟨m9,m1,mrow⟩:=F7.out wr hcur.1
  have HCUR:=hide hcur
  have HROW:=hide mrow
  by_cases hlt:k < fan
  ·obtain ⟨⟨ae,ce,hve,hce,hcem⟩,hseg,htme,hele,hxk⟩:=FS.out k hlt
   have hcell:=own_get mrow hxk
   rw [hve] at hcell hseg
   have HSEG:=hide hseg
   have HTM:=hide htme
   have HFK2:=hide (HFK.out k hlt)
   have hfle:=HFL.out k hk
   rw [if_pos hlt] at hfle
   have hflf:((((L.lev i).take k).flatten).filter kf).length≤(((L.lev i).take k).flatten).length:=List.length_filter_le _ _
   unfold maxLen at hcem
   clear hseg htme hxk hve mrow
   generalize (L.lev i).getD k []=es at *
   generalize hA:(((L.lev i).take k).flatten).filter kf=A at *
   generalize (((L.lev i).take k).flatten).length=Al at *
   generalize hel:es.length=el at *
   have HEL:=hide hel
   clear hel hA
   obtain ⟨va,vc,rfl,hvc,hvm⟩:=own_slice hcur.2
   clear hcur
   go_wp2_with fail
   go_loopw [5,8] (fun v x wr=>∃ q:Nat,q≤el∧x=.int .i64 q∧CurE w wr v (A ++ (es.take q).filter kf)) (fun _ x _=>el - (intOf x).toNat)
   case atStart=>exact ⟨0,Nat.zero_le _,rfl,by simpa using HCUR.out⟩
   case round=>
    obtain ⟨q,hq,rfl,hcur2⟩:=hrel
    have HCUR2:=hide hcur2
    by_cases hlt2:q < el
    ·obtain ⟨ge,rfl⟩:=own_some HSEG.out (by omega)
     have hes:=own_same HSEG.out (fun g hg=>hcur2.1.block g (own_block HSEG.out hg).2.1)
     obtain ⟨r0,r1,r2⟩:=flat_get es q (by rw [HEL.out];exact hlt2)
     have p0:=own_get hes r0
     have p1:=own_get hes r1
     have p2:=own_get hes r2
     have hmem:es.getD q e0 ∈ es:=by rw [← List.getElem_eq_getD (h:=by rw [HEL.out];exact hlt2)];exact List.getElem_mem _
     have htq:=HTM.out _ hmem
     have htk:A ++ (es.take (q + 1)).filter kf=(A ++ (es.take q).filter kf) ++ (if kf (es.getD q e0) then [es.getD q e0] else []):=by
      rw [filter_snoc (by rw [HEL.out];exact hlt2),List.append_assoc]
     have HTK:=hide htk
     have hfl3:((es.take q).filter kf).length≤q:=Nat.le_trans (List.length_filter_le _ _) (by simp;omega)
     have hfl4:(A ++ (es.take q).filter kf).length≤1048576:=by rw [List.length_append];omega
     have hko:=HKO.out (es.getD q e0)
     have HKO2:=hide hko
     obtain ⟨wa,wc,rfl,hwc,hwm⟩:=own_slice hcur2.2
     unfold maxLen at hwm
     have hwB:=hcur2.1.size
     clear hes r0 r1 r2 hmem htk hko
     generalize es.getD q e0=e at *
     obtain ⟨sq,tm,tx⟩:=e
     simp only at p0 p1 p2 htq HKO2
     have CO2:=hide (CO.out wr hcur2.1 ⟨sq,tm,tx⟩ htq)
     have F2:Hid (∀ W2,Below wr.heap.size wr W2→W2.cell? ⟨ge,q * 3,none⟩=some (.int .i64 sq)∧W2.cell? ⟨ge,q * 3 + 1,none⟩=some (.int .i64 tm)∧W2.cell? ⟨ge,q * 3 + 2,none⟩=some (.string tx)∧Below w.heap.size w W2∧w.heap.size≤W2.heap.size∧W2.ownsRow w.heap.size 66 3 (.slice wa (A ++ (es.take q).filter kf).length wc) (A ++ (es.take q).filter kf).length ((A ++ (es.take q).filter kf).flatMap eC)):=fun W2 hW2=>by
      have hBW:=HCUR2.out.1.trans (hW2.mono HCUR2.out.1.size)
      exact ⟨(hW2.cell (p:=⟨ge,q * 3,none⟩) (World.block_lt_of_cell? _ _ p0)).trans p0,(hW2.cell (p:=⟨ge,q * 3 + 1,none⟩) (World.block_lt_of_cell? _ _ p1)).trans p1,(hW2.cell (p:=⟨ge,q * 3 + 2,none⟩) (World.block_lt_of_cell? _ _ p2)).trans p2,hBW,hBW.size,own_belowR HCUR2.out.2 hW2⟩
     simp only at CO2
     generalize A ++ (es.take q).filter kf=FL at *
     generalize hod:decide (tm + (L.keep:Int) < (L.clock:Int))=od at *
     clear hod hcur2
     cases od
     ·have hye:kf ⟨sq,tm,tx⟩=true:=by rw [HKO2.out];rfl
      have HYE:=hide hye
      clear hye
      go_wp2_with (first
       | (go_at_call 250;refine CO2.out.mono ?_;rintro e W3 ⟨rfl,hb3⟩;obtain ⟨o0,o1,o2,ob,os,oo⟩:=F2.out W3 hb3;have HOB:=hide ob;have HOO:=hide oo;clear hb3 ob oo)
       | (at_builtin;refine wpList_append_both _ rfl _ _ 57 rfl w.heap.size 0 66 i0 (.agg #[.int .i64 0, .int .i64 0, .string ByteArray.empty]) 3 32 Tryz.underlying57 hi0 hz0 hz1 hz2 rfl (by decide) _ _ _ rfl (own_belowR HOO.out (below_allocG _ _)) _ _ _ rfl (World.ownsRow_lit W3 #[.int .i64 sq, .int .i64 tm, .string tx] 1 (Nat.zero_le _) (by decide) rfl) (by intro u hu;simp at hu;rcases hu with rfl | rfl | rfl <;> rfl) (by unfold maxLen;omega) (by omega) (by simp;omega) ?_;intro v5 W5 o5 g5 n5;have t5:=tch_grownQ g5;have HB5:=hide (below_tchQ HOB.out t5 HOO.out);have HO5:=hide o5;obtain ⟨a5,c5,rfl,_,_⟩:=own_slice o5;clear o5 g5 n5 t5))
      go_roundw
      case rel=>exact ⟨q + 1,by omega,by go_num,by rw [HTK.out,HYE.out,if_pos rfl];exact ⟨HB5.out,by simpa [eC] using HO5.out⟩⟩
      case measure=>simp [intOf];omega
     ·by_cases hs:(m:Int)≤sq
      ·have hye:kf ⟨sq,tm,tx⟩=true:=by rw [HKO2.out];simp [hs]
       have HYE:=hide hye
       clear hye
       go_wp2_with (first
        | (go_at_call 250;refine CO2.out.mono ?_;rintro e W3 ⟨rfl,hb3⟩;obtain ⟨o0,o1,o2,ob,os,oo⟩:=F2.out W3 hb3;have HOB:=hide ob;have HOO:=hide oo;clear hb3 ob oo)
        | (at_builtin;refine wpList_append_both _ rfl _ _ 57 rfl w.heap.size 0 66 i0 (.agg #[.int .i64 0, .int .i64 0, .string ByteArray.empty]) 3 32 Tryz.underlying57 hi0 hz0 hz1 hz2 rfl (by decide) _ _ _ rfl (own_belowR HOO.out (below_allocG _ _)) _ _ _ rfl (World.ownsRow_lit W3 #[.int .i64 sq, .int .i64 tm, .string tx] 1 (Nat.zero_le _) (by decide) rfl) (by intro u hu;simp at hu;rcases hu with rfl | rfl | rfl <;> rfl) (by unfold maxLen;omega) (by omega) (by simp;omega) ?_;intro v5 W5 o5 g5 n5;have t5:=tch_grownQ g5;have HB5:=hide (below_tchQ HOB.out t5 HOO.out);have HO5:=hide o5;obtain ⟨a5,c5,rfl,_,_⟩:=own_slice o5;clear o5 g5 n5 t5))
       go_roundw
       case rel=>exact ⟨q + 1,by omega,by go_num,by rw [HTK.out,HYE.out,if_pos rfl];exact ⟨HB5.out,by simpa [eC] using HO5.out⟩⟩
       case measure=>simp [intOf];omega
      ·have hno:kf ⟨sq,tm,tx⟩=false:=by rw [HKO2.out];simp [hs]
       have HNO:=hide hno
       clear hno
       go_wp2_with (first
        | (go_at_call 250;refine CO2.out.mono ?_;rintro e W3 ⟨rfl,hb3⟩;obtain ⟨o0,o1,o2,ob,os,oo⟩:=F2.out W3 hb3;have HOB:=hide ob;have HOO:=hide oo;clear hb3 ob oo))
       go_roundw
       case rel=>exact ⟨q + 1,by omega,by go_num,by rw [HTK.out,HNO.out,if_neg (by simp),List.append_nil];exact ⟨HOB.out,HOO.out⟩⟩
       case measure=>simp [intOf];omega
    ·have hqe:es.take q=es:=List.take_of_length_le (by rw [HEL.out];omega)
     rw [hqe] at HCUR2
     obtain ⟨wa,wc,rfl,_,_⟩:=own_slice hcur2.2
     clear hcur2
     go_wp2_with fail
     go_roundw
     case rel=>exact ⟨k + 1,by omega,by go_num,by rw [HFK2.out];exact HCUR2.out⟩
     case measure=>simp [intOf];omega
  ·obtain rfl:fan=k:=by omega
   rw [← HLFT.out] at HCUR hcur
   obtain ⟨va,vc,rfl,hvc,hvm⟩:=own_slice hcur.2
   have FC2:=hide (FC.out wr _ HCUR.out)
   have hrw:=hcur.1.size
   unfold maxLen at hvm
   clear hcur mrow
   have HDR:Hid (∀ (W:World) (ad:Addr),Below wr.heap.size wr W→(ad=⟨gi,fan * j0.size,none⟩∨ci=fan)→∀ j u,(xl.drop fan)[j]? = some u→W.cell? (ad.add j)=some u):=by
    intro W ad hW had j u hu
    rw [hk1] at had
    exact row_drop (k:=fan) (own_belowR HROW.out hW) had j u (by rw [Nat.mul_one];exact hu)
   have HDL:Hid ((xl.drop fan).length=(nn - fan) * 1):=by show _=_;rw [List.length_drop,HXL.out,Nat.mul_one]
   have hwrd:=drewB wr
   have HWRD:=hide hwrd
   clear hwrd
   have hi6:(i:Int) < 6:=by omega
   have hi7:(i:Int) + 1 < 6:=by omega
   have hi8:0≤(i:Int) + 1:=by omega
   have hwr1:IntKind.i64.wrap ((i:Int) + 1)=((i + 1:Nat):Int):=by rw [IntKind.wrap_i64];omega
   go_upto_region 13 with fail
   obtain ⟨ad,hadq,hadc⟩:∃ ad:Addr,(if ci=fan then some (⟨gi,0,none⟩:Addr) else some ⟨gi,fan,none⟩)=some ad∧(ad=⟨gi,fan * j0.size,none⟩∨ci=fan):=by
    by_cases hcf:ci=fan
    ·exact ⟨_,if_pos hcf,Or.inr hcf⟩
    ·exact ⟨_,if_neg hcf,Or.inl (by rw [hk1,Nat.mul_one])⟩
   have HAD:=hide hadc
   clear hadc
   go_region_law (first
    | (refine step_own_at _ rfl _ _ 24 rfl wr.heap.size 57 j0 (.slice none 0 0) 1 24 Tryz.underlying24 hj0 hk0 hk1 hk2 rfl (by decide) _ _ _ rfl (World.ownsRow_nil _ _ _ _) ad _ _ (xl.drop fan) rfl HDL.out (HDR.out _ ad HWRD.out HAD.out) HONE.out (by unfold maxLen;omega) (by omega) (Nat.le_refl _) ?_;intro v5 W5 o5 g5 n5;rw [Nat.zero_add,List.nil_append] at o5;obtain ⟨⟨u9,x9,y9⟩,hrest⟩:=FC2.out W5 v5 g5 o5;have HREST:=hide hrest;obtain ⟨a5,c5,rfl,_,_⟩:=own_slice o5;clear o5 g5 n5 hrest))
   all_goals (
    obtain ⟨W6,hW6⟩:∃ W6,W6=W5.setCell ⟨cb,9 + i,none⟩ (.slice a5 (nn - fan) c5):=⟨_,rfl⟩
    obtain ⟨hno,hyes⟩:=HREST.out W6 hW6
    have HW6:=hide hW6
    clear hW6
    by_cases hl0:LF.length=0
    ·have CDU:=hide (hno hl0)
     have hl1:¬ 0 < LF.length:=by omega
     clear hno hyes
     go_upto_region 15 with fail
     rw [← HW6.out]
     go_wp2_with (first | (go_at_call 204;refine CDU.out.mono ?_;rintro e W8 ⟨rfl,hfin⟩;have HFIN:=hide hfin;clear hfin))
     go_end0
     exact ⟨rfl,HFIN.out⟩
    ·obtain ⟨c9,orow,hB6,hf7⟩:=hyes hl0
     have hl1:0 < LF.length:=by omega
     have HF7:=hide hf7
     have HOP:=hide orow
     have bz:=below_allocG W6 (Obj.cells #[.slice va LF.length vc] 57)
     have c9':=(bz.cell (p:=⟨cb,9 + (i + 1),none⟩) (World.block_lt_of_cell? _ _ c9)).trans c9
     clear hno hyes hf7 orow bz
     go_upto_region 15 with fail
     rw [← HW6.out]
     go_upto_region 16 with fail
     go_region_law (refine step_own_at _ rfl _ _ 24 rfl B 57 j0 (.slice none 0 0) 1 24 Tryz.underlying24 hj0 hk0 hk1 hk2 rfl (by decide) _ _ _ rfl (by exact HOP.out.alloc _) ⟨W6.heap.size,0,none⟩ 1 1 [.slice va LF.length vc] rfl rfl (by exact cells_new W6.drew _ _ _ rfl) (by intro u hu;simp at hu;subst hu;rfl) (by unfold maxLen;omega) (by omega) (by simp;omega) ?_;intro v7 W7 o7 g7 n7;have g8:(W6.alloc (Obj.cells #[.slice va LF.length vc] 57)).grownBy W7 (Value.slice ap np cp).ownBlock:=⟨g7.os,g7.tape,g7.output,g7.size,g7.block⟩;obtain ⟨⟨u7,x7,y7⟩,hdue⟩:=HF7.out W7 v7 g8 o7;have CDU:=hide hdue;obtain ⟨a7,c7,rfl,_,_⟩:=own_slice o7;clear o7 g7 g8 n7 hdue)
     all_goals (
      go_wp2_with (first | (go_at_call 204;refine CDU.out.mono ?_;rintro e W8 ⟨rfl,hfin⟩;have HFIN:=hide hfin;clear hfin))
      go_end0
      exact ⟨rfl,HFIN.out⟩))
end Go.Proofs.YtkncboinfcnklaaGreatDoor.Rl

namespace Go.Proofs.YtkncboinfcnklaaGreatDoor.Rl
open Go.RowKit Go.Deep Go.Shelf Go.Proofs.YtkncboinfcnklaaGreatDoor.Mth
theorem list_at {w:World} {B gl nl cl:Nat} {l:List Nat} (h:w.ownsRow B 3 1 (.slice (some ⟨gl,0,none⟩) nl cl) nl (l.map iV)) {a:Nat} (ha:a < l.length):w.cell? ⟨gl,a,none⟩=some (.int .i64 ((l.getD a 0:Nat):Int)):=by
 have hg:l[a]? = some (l.getD a 0):=by rw [List.getElem?_eq_getElem ha,List.getElem_eq_getD 0]
 exact own_get h (show (l.map iV)[a]? = some (iV (l.getD a 0)) by rw [List.getElem?_map,hg];rfl)
theorem list_take {w:World} {B gl nl cl:Nat} {l:List Nat} (h:w.ownsRow B 3 1 (.slice (some ⟨gl,0,none⟩) nl cl) nl (l.map iV)) (a:Nat):∀ j u,((l.take a).map iV)[j]? = some u→w.cell? ((⟨gl,0,none⟩:Addr).add j)=some u:=fun j u hu=>by
 refine h.cells (g:=gl) rfl j u ?_
 rw [List.map_take,List.getElem?_take] at hu
 split at hu
 ·exact hu
 ·cases hu
theorem list_drop {w:World} {B gl nl cl k:Nat} {l:List Nat} (h:w.ownsRow B 3 1 (.slice (some ⟨gl,0,none⟩) nl cl) nl (l.map iV)) {ad:Addr} (had:ad=⟨gl,k * 1,none⟩∨cl=k):∀ j u,((l.drop k).map iV)[j]? = some u→w.cell? (ad.add j)=some u:=fun j u hu=>row_drop (k:=k) h had j u (by rw [Nat.mul_one,← List.map_drop];exact hu)
theorem one_iV (l:List Nat):∀ u ∈ l.map iV,u.oneCell'=true:=fun u hu=>by
 obtain ⟨x,_,rfl⟩:=List.mem_map.1 hu
 rfl
structure TkM (w W2:World) (B gw nw cw n x:Nat) (xs:List Value):Prop where
 row:W2.ownsRow B 304 3 (.slice (some ⟨gw,0,none⟩) nw cw) nw ((xs.set (n * 3 + 1) (.int .i64 (x:Int))).set (n * 3 + 2) (.int .i64 0))
 tch:Tch (fun g=>g=gw) w W2
theorem tk_mid {w W:World} {B gw nw cw n x:Nat} {xs:List Value} (hrow:w.ownsRow B 304 3 (.slice (some ⟨gw,0,none⟩) nw cw) nw xs) (hb:Below w.heap.size w W) (hn:n < nw) :
  TkM w ((W.setCell ⟨gw,n * 3 + 1,none⟩ (.int .i64 (x:Int))).setCell ⟨gw,n * 3 + 2,none⟩ (.int .i64 0)) B gw nw cw n x xs:=by
 have h1:=own_belowR hrow hb
 have h2:=own_store (i:=n * 3 + 1) (y:=.int .i64 (x:Int)) h1 (by omega)
 have h3:=own_store (i:=n * 3 + 2) (y:=.int .i64 0) h2 (by omega)
 exact ⟨h3,⟨hb.os,hb.tape,hb.output,by simpa using hb.size,fun k hk hn=>by rw [set_other hn,set_other hn];exact hb.block k hk⟩⟩
theorem TkM.below {w W2 W':World} {B gw nw cw n x:Nat} {xs:List Value} (h:TkM w W2 B gw nw cw n x xs) (hb:Below W2.heap.size W2 W'):TkM w W' B gw nw cw n x xs:=⟨own_belowR h.row hb,h.tch.trans (tch_below (S:=fun _=>False) hb) (fun _ _ q=>q.elim)⟩
theorem TkM.two {w W2 W3 W4:World} {B gw nw cw n x f a:Nat} {ks:List Wk} {wl:Nat→Value} {rd:Nat→Int} {v3 v4:Value} {n3 n4:Nat} {x3 x4:List Value} (h:TkM w W2 B gw nw cw n x (wkRs ks wl rd)) (hl:ks.length=nw) (hn:n < nw) (hf:f < nw) (_hB:B≤w.heap.size)
  (o3:W3.ownsRow w.heap.size 3 1 v3 n3 x3) (g3:W2.grownBy W3 none) (o4:W4.ownsRow w.heap.size 3 1 v4 n4 x4) (g4:W3.grownBy W4 v3.ownBlock) (hgw:gw < w.heap.size) :
  (∀ g,g < w.heap.size→g≠gw→W4.heap[g]? = w.heap[g]?)∧(W4.cell? ⟨gw,f * 3,none⟩).isSome=true∧W4.frozen? ⟨gw,f * 3,none⟩=false∧Tch (fun g=>g=gw) w (W4.setCell ⟨gw,f * 3,none⟩ v4)∧(W4.setCell ⟨gw,f * 3,none⟩ v4).ownsRow B 304 3 (.slice (some ⟨gw,0,none⟩) nw cw) nw (wkRs (tkW ks f a n x) (fun p=>if p=f then v4 else wl p) (fun p=>if p=n then 0 else rd p))∧(W4.setCell ⟨gw,f * 3,none⟩ v4).ownsRow w.heap.size 3 1 v4 n4 x4:=by
 have s2:=h.tch.size
 have s3:=g3.size
 have s4:=g4.size
 have b34:∀ g,g < w.heap.size→W4.heap[g]? = W2.heap[g]? := fun g hg=>by
  refine (g4.block g (by omega) (fun e=>?_)).trans (g3.block g (by omega) (by simp))
  have:=(own_block o3 e).1
  omega
 have row4:W4.ownsRow B 304 3 (.slice (some ⟨gw,0,none⟩) nw cw) nw (((wkRs ks wl rd).set (n * 3 + 1) (.int .i64 (x:Int))).set (n * 3 + 2) (.int .i64 0)):=own_same h.row (fun g hg=>by
  injection hg with hg
  subst hg
  exact b34 g hgw)
 have hcap:=own_cap row4
 obtain ⟨t1,t2⟩:=own_there row4 (j:=f * 3) (by omega)
 refine ⟨fun g hg hne=>(b34 g hg).trans (h.tch.block g hg hne),t1,t2,⟨g4.os.trans (g3.os.trans h.tch.os),g4.tape.trans (g3.tape.trans h.tch.tape),g4.output.trans (g3.output.trans h.tch.output),by simp;omega,fun k hk hne=>?_⟩,?_,?_⟩
 ·rw [set_other hne,b34 k hk]
  exact h.tch.block k hk hne
 ·have:=own_store (i:=f * 3) (y:=v4) row4 (by omega)
  rwa [wkRs_take (a:=a) (by omega) (by omega)] at this
 ·obtain ⟨_,_,C,hC⟩:=own_block row4 (g:=gw) rfl
  exact own_set_other o4 hC (by decide)
set_option maxRecDepth 100000 in
set_option maxHeartbeats 8000000 in
theorem takesR_own {w:World} {B cb:Nat} {V:Rv} {L:Lg} (hb:w.heap[cb]? = some (Obj.cells (rfC V L) 234 (0,0))) (h:w.ownsRow B 304 3 V.wv L.wks.length (wkRs L.wks V.wl V.rd)) (hls:∀ q,q < L.wks.length→w.ownsRow B 3 1 (V.wl q) (L.wks.getD q wk0).list.length ((L.wks.getD q wk0).list.map iV)) (hw:L.wks.length≤4) (hwl:∀ q,q < L.wks.length→(L.wks.getD q wk0).list.length≤1000) (hB:B≤w.heap.size) {n:Nat} (hn:n < L.wks.length) {a:Nat} (ha:a + 1=(L.wks.getD n wk0).list.length) :
  Calls Tryz.prog 251 #[ptrV cb, .int .i64 (n:Int)] w fun e w'=>∃ v,e=.returned (.int .i64 1)∧Tch (fun g=>some g=V.wv.ownBlock) w w'∧w'.ownsRow B 304 3 V.wv L.wks.length (wkRs (tkW L.wks n a n ((L.wks.getD n wk0).list.getD a 0)) (fun p=>if p=n then v else V.wl p) (fun p=>if p=n then 0 else V.rd p))∧w'.ownsRow w.heap.size 3 1 v ((L.wks.getD n wk0).list.eraseIdx a).length (((L.wks.getD n wk0).list.eraseIdx a).map iV):=by
 obtain ⟨ll,hll⟩:∃ ll:Nat→List Nat,∀ q,(L.wks.getD q wk0).list=ll q:=⟨_,fun _=>rfl⟩
 obtain ⟨nl,hnl⟩:∃ nl:Nat→Nat,∀ q,(ll q).length=nl q:=⟨_,fun _=>rfl⟩
 simp only [hll,hnl] at hls hwl ha ⊢
 have HNL:=hide hnl
 clear hll hnl
 obtain ⟨z0,hz0,hy0,hy1,hy2⟩:=info_parts Tryz.infoI
 have hcb:cb < w.heap.size:=(Array.getElem?_eq_some_iff.1 hb).1
 obtain ⟨aw,cw,hwv,hcw,hcm⟩:=own_slice h
 rw [hwv] at h
 obtain ⟨gw,rfl⟩:=own_some h (by omega)
 obtain ⟨hgwB,hgwl,CW,hCW⟩:=own_block h (g:=gw) rfl
 have hne:cb≠gw:=fun e=>by rw [e,hCW] at hb;injection hb with hb;injection hb with _ hb _;exact absurd hb (by decide)
 have HC:Hid (∀ W,Below w.heap.size w W→W.cell? ⟨cb,15,none⟩=some (.slice (some ⟨gw,0,none⟩) L.wks.length cw)∧∀ q,q < L.wks.length→W.cell? ⟨gw,q * 3,none⟩=some (V.wl q)):=fun W hW=>by
  have h1:=(cell_of (j:=15) (u:=V.wv) ((hW.block cb hcb).trans hb) rfl).1
  rw [hwv] at h1
  exact ⟨h1,fun q hq=>own_get (own_belowR h hW) (wkRs_at hq).1⟩
 have HWV:=hide hwv
 have HROW:=hide h
 have HLS:=hide hls
 have HCW:=hide hCW
 have HB:=hide hb
 have hcap:=own_cap h
 unfold maxLen at hcm hcap
 clear hb h hls hwv hCW
 have hfn:=hn
 have hlf:=HLS.out n hfn
 obtain ⟨al,cl,hvl,hcl,hclm⟩:=own_slice hlf
 rw [hvl] at hlf
 obtain ⟨gl,rfl⟩:=own_some hlf (by omega)
 obtain ⟨hglB,hgll,CL,hCL⟩:=own_block hlf (g:=gl) rfl
 have hgl:gl≠gw:=fun e=>by have h1:=HCW.out;rw [← e,hCL] at h1;injection h1 with h1;injection h1 with _ h1 _;exact absurd h1 (by decide)
 unfold maxLen at hclm
 have HLF:=hide hlf
 have HVL:=hide hvl
 have HCL:=hide hCL
 clear hlf hvl hCL
 obtain ⟨xx,hxx⟩:∃ xx,xx=(ll n).getD a 0:=⟨_,rfl⟩
 obtain ⟨er,her0⟩:∃ er,er=(ll n).eraseIdx a:=⟨_,rfl⟩
 rw [← hxx,← her0]
 have HXX:=hide hxx
 have HER0:=hide her0
 clear hxx her0
 have HWL:=hide hwl
 have HBR0:Hid (Below w.heap.size w w):=Below.refl _ _
 have c15:=(HC.out w HBR0.out).1
 have cn:=(HC.out w HBR0.out).2 n hn
 rw [HVL.out] at cn
 have hln0:nl n≤1000:=hwl n hn
 have HA:=hide ha
 have HWV2:Hid (∀ w':World,Tch (fun g=>g=gw) w w'→Tch (fun g=>some g=V.wv.ownBlock) w w'):=fun w' ht=>by
  rw [HWV.out]
  exact ⟨ht.os,ht.tape,ht.output,ht.size,fun k hk hne=>ht.block k hk (fun e=>hne (by rw [e];rfl))⟩
 have HRV:Hid (∀ (w':World) (n':Nat) (xs:List Value),w'.ownsRow B 304 3 (.slice (some ⟨gw,0,none⟩) n' cw) n' xs→n'=L.wks.length→w'.ownsRow B 304 3 V.wv n' xs):=fun w' n' xs ho e=>by rw [HWV.out,← e];exact ho
 clear hwl
 go_enter Tryz.func251,Tryz.ntmps251
 go_wp2_with fail
 go_loopw [5,6,7] (fun f a' x wr=>f=.int .i64 (n:Int)∧a'=.int .i64 (a:Int)∧x=.int .i64 0∧wr=w) (fun _ _ _ _=>0)
 case atStart=>exact ⟨rfl,by rw [← HA.out];go_num,rfl,rfl⟩
 case round=>
  obtain ⟨rfl,rfl,rfl,hwr⟩:=hrel
  have HBR:Hid (Below w.heap.size w wr):=by rw [hwr];exact HBR0.out
  have d15:=(HC.out wr HBR.out).1
  rw [← hwr] at cn c15
  clear hwr
  have hlf:=HLF.out
  have halt:a < nl n:=by omega
  have hlr:=own_belowR hlf HBR.out
  have q15:=(HC.out wr HBR.out).1
  have qf:=(HC.out wr HBR.out).2 n hfn
  rw [HVL.out] at qf
  have qa:=list_at (a:=a) hlr (by rw [HNL.out];omega)
  rw [← HXX.out] at qa
  have hm0:=tk_mid (x:=xx) HROW.out HBR.out hn
  have hrd:=own_belowR HROW.out HBR.out
  obtain ⟨t1,t2⟩:=own_there hrd (j:=n * 3 + 1) (by omega)
  obtain ⟨t3,t4⟩:=own_there (own_store (i:=n * 3 + 1) (y:=.int .i64 (xx:Int)) hrd (by omega)) (j:=n * 3 + 2) (by omega)
  obtain ⟨u1,hu1⟩:=Option.isSome_iff_exists.1 t1
  obtain ⟨u3,hu3⟩:=Option.isSome_iff_exists.1 t3
  have qb:(wr.setCell ⟨gw,n * 3 + 1,none⟩ (.int .i64 (xx:Int))).cell? ⟨cb,15,none⟩=some (.slice (some ⟨gw,0,none⟩) L.wks.length cw):=(World.cell?_of_block (w:=wr) (a:=⟨cb,15,none⟩) (set_other hne)).trans q15
  obtain ⟨W2,hW2⟩:∃ W2,W2=((wr.setCell ⟨gw,n * 3 + 1,none⟩ (.int .i64 (xx:Int))).setCell ⟨gw,n * 3 + 2,none⟩ (.int .i64 0)).drew:=⟨_,rfl⟩
  have hm:=hm0.below (drewB _)
  rw [← hW2] at hm
  have hsz2:=hm.tch.size
  have hl2:=own_same (w':=W2) hlf (fun g hg=>by injection hg with hg;rw [hg];exact hm.tch.block gl hgll hgl)
  have hlt:=list_take hl2 a
  have hlen:(ll n).length=nl n:=HNL.out n
  have her:(ll n).eraseIdx a=(ll n).take a ++ (ll n).drop (a + 1):=List.eraseIdx_eq_take_drop_succ _ _
  have HER:=hide her
  have htl:((ll n).take a).length=a:=List.length_take_of_le (by omega)
  have hdl:((ll n).drop (a + 1)).length=nl n - (a + 1):=by rw [List.length_drop,hlen]
  have FN:Hid (∀ (W3:World) v3 n3 x3 (W4:World) v4 n4 x4,W3.ownsRow w.heap.size 3 1 v3 n3 x3→W2.grownBy W3 none→W4.ownsRow w.heap.size 3 1 v4 n4 x4→W3.grownBy W4 v3.ownBlock→(W4.cell? ⟨cb,15,none⟩=some (.slice (some ⟨gw,0,none⟩) L.wks.length cw)∧(W4.cell? ⟨gw,n * 3,none⟩).isSome=true∧W4.frozen? ⟨gw,n * 3,none⟩=false)∧Tch (fun g=>g=gw) w (W4.setCell ⟨gw,n * 3,none⟩ v4)∧(W4.setCell ⟨gw,n * 3,none⟩ v4).ownsRow B 304 3 (.slice (some ⟨gw,0,none⟩) L.wks.length cw) L.wks.length (wkRs (tkW L.wks n a n xx) (fun p=>if p=n then v4 else V.wl p) (fun p=>if p=n then 0 else V.rd p))∧(W4.setCell ⟨gw,n * 3,none⟩ v4).ownsRow w.heap.size 3 1 v4 n4 x4):=by
   intro W3 v3 n3 x3 W4 v4 n4 x4 o3 g3 o4 g4
   obtain ⟨a1,a2,a3,a4,a5,a6⟩:=hm.two (f:=n) (a:=a) rfl hn hfn hB o3 g3 o4 g4 hgwl
   refine ⟨⟨?_,a2,a3⟩,a4,a5,a6⟩
   have h1:=(cell_of (j:=15) (u:=V.wv) ((a1 cb hcb hne).trans HB.out) rfl).1
   rw [HWV.out] at h1
   exact h1
  have FS:Hid (∀ (W3:World) v3 n3 x3,W3.ownsRow w.heap.size 3 1 v3 n3 x3→W2.grownBy W3 none→∀ ad:Addr,(ad=⟨gl,(a + 1) * z0.size,none⟩∨cl=a + 1)→∀ j u,(((ll n).drop (a + 1)).map iV)[j]? = some u→W3.cell? (ad.add j)=some u):=by
   intro W3 v3 n3 x3 o3 g3 ad had
   have hl3:=own_same (w':=W3) hl2 (fun g hg=>by injection hg with hg;rw [hg];exact g3.block gl (by omega) (by simp))
   rw [hy1] at had
   exact list_drop hl3 had
  have HLT:=hide hlt
  have HW2:=hide hW2
  have HO1:=hide (one_iV ((ll n).take a))
  have HO2:=hide (one_iV ((ll n).drop (a + 1)))
  have HTL:Hid ((((ll n).take a).map iV).length=a * 1):=by show _=_;rw [List.length_map,htl,Nat.mul_one]
  have HDL:Hid ((((ll n).drop (a + 1)).map iV).length=(nl n - (a + 1)) * 1):=by show _=_;rw [List.length_map,hdl,Nat.mul_one]
  have HEL:Hid (((ll n).eraseIdx a).length=a + (nl n - (a + 1))∧((ll n).eraseIdx a).map iV=((ll n).take a).map iV ++ ((ll n).drop (a + 1)).map iV):=by
   refine ⟨?_,?_⟩
   ·rw [HER.out,List.length_append,htl,hdl]
   ·rw [HER.out,List.map_append]
  generalize ((ll n).take a).map iV=xt at *
  generalize ((ll n).drop (a + 1)).map iV=xd at *
  have hnf2:nl n≤1000:=HWL.out n hfn
  generalize hnf3:nl n=nf at *
  have HNF:=hide hnf3
  clear hm hm0 hl2 hlt hrd hlr hlf t1 t3 her htl hdl hW2 hlen hnf3 ha
  go_upto_region 12 with fail
  go_region_law (fail)
  all_goals (
   go_upto_region 15 with fail
   rw [← HW2.out]
   go_wp2_with (first
    | (at_builtin;refine wpList_append_own_at _ rfl (.tmp 90) (.tmp 93) 149 rfl w.heap.size 3 z0 (.int .i64 0) 1 8 Tryz.underlying149 hz0 hy0 hy1 hy2 rfl (by decide) _ _ _ rfl (World.ownsRow_nil _ _ _ _) ⟨gl,0,none⟩ a _ xt rfl HTL.out HLT.out HO1.out (by unfold maxLen;omega) (by omega) (by omega) ?_;intro v3 W3 o3 g3 _ n3;rw [Nat.zero_add,List.nil_append] at o3;have HO3:=hide o3;have HG3:Hid (W2.grownBy W3 none):=g3;obtain ⟨a3,c3,rfl,_,_⟩:=own_slice o3;clear o3 g3 n3)
    | (refine wpList_slice_lo rfl 149 (.tmp 96) (.tmp 98) rfl 3 Tryz.underlying149 hz0 gl nf cl (a + 1) rfl (by go_num) (by omega) ?_;intro ad had;have HAD:=hide had;clear had)
    | (at_builtin;refine wpList_append_own_at _ rfl (.tmp 95) (.tmp 99) 149 rfl w.heap.size 3 z0 (.int .i64 0) 1 8 Tryz.underlying149 hz0 hy0 hy1 hy2 rfl (by decide) _ _ _ rfl HO3.out ad _ _ xd rfl HDL.out (FS.out _ _ _ _ HO3.out HG3.out ad HAD.out) HO2.out (by unfold maxLen;omega) (by omega) (by have:=HG3.out.size;omega) ?_;intro v4 W4 o4 g4 _ n4;obtain ⟨⟨r1,r2,r3⟩,hfin⟩:=FN.out _ _ _ _ _ _ _ _ HO3.out HG3.out o4 g4;have HFIN:=hide hfin;obtain ⟨u5,r2⟩:=Option.isSome_iff_exists.1 r2;obtain ⟨a4,c4,rfl,_,_⟩:=own_slice o4;clear o4 g4 n4 hfin))
   go_ret
   obtain ⟨f1,f2,f3⟩:=HFIN.out
   refine ⟨rfl,HWV2.out _ f1, .slice a4 (a + (nf - (a + 1))) c4,?_,?_⟩
   ·exact HRV.out _ _ _ f2 rfl
   ·rw [HER0.out,HEL.out.1,HEL.out.2];exact f3)
end Go.Proofs.YtkncboinfcnklaaGreatDoor.Rl
