import Derived.Test.YtkncboinfcnklaaGreatDoorQ22
import Derived.Test.YtkncboinfcnklaaGreatDoorQ21
import Derived.Deep.WholeRow
namespace Go.Proofs.YtkncboinfcnklaaGreatDoor.Rl
open Go.RowKit Go.Deep Go.Shelf Go.Proofs.YtkncboinfcnklaaGreatDoor.Mth
theorem cut_self:∀ (l:List UInt8) (cur:List UInt8),(∀ u ∈ l,ltr (u.toNat:Int)=(u.toNat:Int)∧ltr (u.toNat:Int)≠0)→cur ++ l≠[]→Mth.cut cur (l.map (fun u=>(u.toNat:Int)))=[cur ++ l]
 | [],cur,_,hn=>by
  rw [List.map_nil,Mth.cut,List.append_nil]
  rw [List.append_nil] at hn
  cases cur with
  | nil=>exact absurd rfl hn
  | cons a c=>rfl
 | u :: l,cur,h,hn=>by
  obtain ⟨h1,h2⟩:=h u (by simp)
  rw [List.map_cons,Mth.cut,if_neg h2,h1]
  have hu:UInt8.ofNat ((u.toNat:Int)).toNat=u:=by simp
  rw [hu,cut_self l (cur ++ [u]) (fun v hv=>h v (by simp [hv])) (by simp)]
  simp
theorem lead_len:∀ l:List Int,(lead l).length≤l.length
 | []=>Nat.le_refl _
 | c :: l=>by
  rw [lead]
  split
  ·simp
  ·simp [lead_len l]
theorem lead_self:∀ l:List UInt8,lead (l.map (fun u=>(u.toNat:Int)))=l→∀ u ∈ l,ltr (u.toNat:Int)=(u.toNat:Int)∧ltr (u.toNat:Int)≠0
 | [],_,u,hu=>by cases hu
 | a :: l,h,u,hu=>by
  rw [List.map_cons,lead] at h
  by_cases h0:ltr (a.toNat:Int)=0
  ·rw [if_pos h0] at h;cases h
  ·rw [if_neg h0] at h
   injection h with h1 h2
   rcases List.mem_cons.1 hu with e | hu
   ·subst e
    refine ⟨?_,h0⟩
    have hb:0≤ltr (u.toNat:Int)∧ltr (u.toNat:Int) < 256:=by
     have:=u.toNat_lt
     unfold ltr
     split
     ·omega
     ·split
      ·omega
      ·omega
    have:=congrArg UInt8.toNat h1
    simp at this
    omega
   ·exact lead_self l h2 u hu
theorem isWd_iff (x:ByteArray):isWd x=true↔x.size≤60∧x.size≠0∧∀ u ∈ x.data.toList,ltr (u.toNat:Int)=(u.toNat:Int)∧ltr (u.toNat:Int)≠0:=by
 have hsz:x.size=x.data.toList.length:=by simp
 unfold isWd
 simp only [decide_eq_true_eq]
 constructor
 ·rintro ⟨h1,h2⟩
  have hm:x ∈ (Mth.cut [] (tb x)).map ofL:=by
   have:=(wd_cut x)
   rw [h2] at this
   have hx:x ∈ mergedS ((Mth.cut [] (tb x)).map ofL):=by rw [← this];simp
   exact ((mergedS_up _).2 x).1 hx
  obtain ⟨y,hy,hxy⟩:=List.mem_map.1 hm
  have hyx:y=x.data.toList:=by rw [← hxy];simp [ofL]
  obtain ⟨hne,hc⟩:=(cut_mem _ _ _).1 hy
  have hl:(tb x).length=x.size:=tb_len x
  refine ⟨h1,by rw [hsz,← hyx];intro e;exact hne (List.eq_nil_of_length_eq_zero e),?_⟩
  rcases hc with hc | ⟨p,c,q,hp,_,hc⟩
  ·refine lead_self _ ?_
   show lead (tb x)=_
   rw [← hyx,hc,List.nil_append]
  ·exfalso
   have e1:=lead_len q
   rw [← hc,hyx,← hsz,← hl,hp] at e1
   simp at e1
   omega
 ·rintro ⟨h1,h2,h3⟩
  refine ⟨h1,wd_self x ?_⟩
  have:=cut_self x.data.toList [] h3 (by rw [List.nil_append];intro e;apply h2;rw [hsz,e];rfl)
  rw [List.nil_append] at this
  exact this
set_option maxRecDepth 100000 in
set_option maxHeartbeats 4000000 in
theorem isWordR_any (x:ByteArray) (w:World) (hx:x.size≤1099511627776) :
  Calls Tryz.prog 248 #[.string x] w fun e w'=>e=.returned (.bool (isWd x))∧w'=w:=by
 have HIFF:=hide (isWd_iff x)
 have HL:=hide (tb_len x)
 have HBT:=hide (tb_bts x)
 have HG:Hid (∀ k,k < x.size→∃ u ∈ x.data.toList,(tb x).getD k 0=((u:UInt8).toNat:Int)):=fun k hk=>by
  refine ⟨x.data.toList.getD k 0,?_,tb_get x k hk⟩
  have hk':k < x.data.toList.length:=by simpa using hk
  rw [← List.getElem_eq_getD (h:=hk')]
  exact List.getElem_mem hk'
 have HA:Hid ((∀ k,k < x.size→ltr ((tb x).getD k 0)=(tb x).getD k 0∧ltr ((tb x).getD k 0)≠0)→∀ u ∈ x.data.toList,ltr (u.toNat:Int)=(u.toNat:Int)∧ltr (u.toNat:Int)≠0):=fun h u hu=>by
  obtain ⟨k,hk,e⟩:=List.mem_iff_getElem.1 hu
  have hk':k < x.size:=by simpa using hk
  have:=h k hk'
  rw [tb_get x k hk',← List.getElem_eq_getD (h:=hk),e] at this
  exact this
 go_enter Tryz.func248,Tryz.ntmps248
 go_wp2_with fail
 go_loopw [3] (fun i wr=>∃ k:Nat,k≤x.size∧i=.int .i64 k∧wr=w∧∀ j,j < k→ltr ((tb x).getD j 0)=(tb x).getD j 0∧ltr ((tb x).getD j 0)≠0) (fun i _=>x.size - (intOf i).toNat)
 case atStart=>exact ⟨0,Nat.zero_le _,rfl,rfl,fun j hj=>absurd hj (Nat.not_lt_zero _)⟩
 case round=>
  obtain ⟨k,hk,rfl,hwr,hgood⟩:=hrel
  rw [hwr]
  have HWR:=hide hwr
  have HGO:=hide hgood
  clear hwr hgood
  by_cases hlt:k < x.size
  ·have hidx:=idx_at x k hlt
   have hbt:=bts_get HBT.out k
   have CL:=hide (letter_any ((tb x).getD k 0) w hbt.1 hbt.2)
   have hlb:=ltr_bd ((tb x).getD k 0)
   obtain ⟨u,hu,hue⟩:=HG.out k hlt
   generalize hcc:(tb x).getD k 0=c at *
   have HCC:=hide hcc
   clear hcc
   generalize hll:ltr c=d at *
   have HLL:=hide hll
   have HUE:=hide hue
   clear hll hue
   by_cases hdc:d=c
   ·by_cases hd0:d=0
    ·have hf:isWd x=false:=by
      rw [Bool.eq_false_iff]
      intro ht
      have:=(HIFF.out.1 ht).2.2 u hu
      rw [← HUE.out,HLL.out] at this
      exact this.2 hd0
     have HF:=hide hf
     subst hdc
     subst hd0
     clear hf
     go_wp2_with (first | (go_at_call 189;refine CL.out.mono ?_;rintro e W ⟨rfl,hW⟩;rw [hW];clear hW W))
     go_ret
     exact ⟨by rw [HF.out];rfl,rfl⟩
    ·subst hdc
     have hd0':(d == 0)=false:=by simpa using hd0
     go_wp2_with (first | (go_at_call 189;refine CL.out.mono ?_;rintro e W ⟨rfl,hW⟩;rw [hW];clear hW W))
     go_roundw
     case rel=>exact ⟨k + 1,by omega,by go_num,trivial,fun j hj=>by
      by_cases e:j=k
      ·subst e;rw [HCC.out];exact ⟨HLL.out,by rw [HLL.out];exact hd0⟩
      ·exact HGO.out j (by omega)⟩
     case measure=>simp [intOf];omega
   ·have hf:isWd x=false:=by
     rw [Bool.eq_false_iff]
     intro ht
     have:=(HIFF.out.1 ht).2.2 u hu
     rw [← HUE.out,HLL.out] at this
     exact hdc this.1
    have HF:=hide hf
    clear hf
    have hne:(d == c)=false:=by simpa using hdc
    go_wp2_with (first | (go_at_call 189;refine CL.out.mono ?_;rintro e W ⟨rfl,hW⟩;rw [hW];clear hW W))
    go_ret
    exact ⟨by rw [HF.out];rfl,rfl⟩
  ·obtain rfl:k=x.size:=by omega
   have hall:=HA.out HGO.out
   have hemp:(x.toList == ([]:List UInt8))=decide (x.size=0):=by
    rw [Lib.toList_data,Bool.eq_iff_iff]
    have hl:x.size=x.data.toList.length:=by simp
    rw [hl]
    cases x.data.toList <;> simp
   by_cases he:x.size=0
   ·have hf:isWd x=false:=by
     rw [Bool.eq_false_iff]
     intro ht
     exact (HIFF.out.1 ht).2.1 he
    have HF:=hide hf
    rw [decide_eq_true he] at hemp
    clear hf hall
    go_wp2_with fail
    go_ret
    exact ⟨by rw [HF.out];rfl,rfl⟩
   ·rw [decide_eq_false he] at hemp
    have hf:isWd x=decide (x.size≤60):=by
     rw [Bool.eq_iff_iff,HIFF.out,decide_eq_true_eq]
     exact ⟨fun h=>h.1,fun h=>⟨h,he,hall⟩⟩
    have HF:=hide hf
    clear hf hall
    by_cases h6:x.size≤60
    ·have hd6:decide ((x.size:Int)≤60)=true:=decide_eq_true (by omega)
     go_wp2_with fail
     go_ret
     refine ⟨?_,rfl⟩
     rw [HF.out,decide_eq_true h6]
     first | rfl | (show Ending.returned (Value.bool (decide ((x.size:Int)≤60)))=_;rw [hd6])
    ·have hd6:decide ((x.size:Int)≤60)=false:=decide_eq_false (by omega)
     go_wp2_with fail
     go_ret
     refine ⟨?_,rfl⟩
     rw [HF.out,decide_eq_false h6]
     first | rfl | (show Ending.returned (Value.bool (decide ((x.size:Int)≤60)))=_;rw [hd6])
end Go.Proofs.YtkncboinfcnklaaGreatDoor.Rl

namespace Go.Proofs.YtkncboinfcnklaaGreatDoor.Rl
open Go.RowKit Go.Deep Go.Shelf Go.Proofs.YtkncboinfcnklaaGreatDoor.Mth
theorem map_one {f:Nat→Value} {n:Nat} (h:∀ j,j < n→(f j).oneCell'=true):∀ u ∈ (List.range n).map f,u.oneCell'=true:=by
 intro u hu
 obtain ⟨j,hj,rfl⟩:=List.mem_map.1 hu
 exact h j (List.mem_range.1 hj)
theorem own_one {w:World} {B:Nat} {e:TypeId} {sz:Nat} {v:Value} {n:Nat} {xs:List Value} (h:w.ownsRow B e sz v n xs):v.oneCell'=true:=by
 obtain ⟨a,c,rfl,_,_⟩:=own_slice h
 rfl
theorem RfV.one {Z:Nat→Prop} {B:Nat} {w:World} {V:Rv} {L:Lg} {all:List Ent} {ts:List Tl} (h:RfV Z B w V L all ts):(rfC V L).all (·.oneCell')=true:=by
 obtain ⟨_,_,e1,_,_⟩:=own_slice h.all
 obtain ⟨_,_,e2,_,_⟩:=own_slice h.mem
 obtain ⟨_,_,l0,_,_⟩:=own_slice (h.lev 0 (by omega))
 obtain ⟨_,_,l1,_,_⟩:=own_slice (h.lev 1 (by omega))
 obtain ⟨_,_,l2,_,_⟩:=own_slice (h.lev 2 (by omega))
 obtain ⟨_,_,l3,_,_⟩:=own_slice (h.lev 3 (by omega))
 obtain ⟨_,_,l4,_,_⟩:=own_slice (h.lev 4 (by omega))
 obtain ⟨_,_,l5,_,_⟩:=own_slice (h.lev 5 (by omega))
 obtain ⟨_,_,e3,_,_⟩:=own_slice h.wks
 obtain ⟨_,_,e4,_,_⟩:=own_slice h.tls
 simp [rfC,e1,e2,l0,l1,l2,l3,l4,l5,e3,e4,Value.oneCell']
theorem CpX.own3 {w W:World} {n:Nat} {C X:Array Value} (h:CpX w W n C X) {B:Nat} {e:TypeId} {sz:Nat} {v:Value} {m:Nat} {xs:List Value} (ho:W.ownsRow B e sz v m xs) (he:234≠e) (j1:Nat) (u1:Value) (j2:Nat) (u2:Value) (j3:Nat) (u3:Value):(((W.setCell ⟨n + 1 + 1,j1,none⟩ u1).setCell ⟨n + 1 + 1,j2,none⟩ u2).setCell ⟨n + 1 + 1,j3,none⟩ u3).ownsRow B e sz v m xs:=
 ((h.set j1 u1).set j2 u2).own ((h.set j1 u1).own (h.own ho he _ _) he _ _) he _ _
set_option maxRecDepth 100000 in
set_option maxHeartbeats 8000000 in
theorem copy_any {Z:Nat→Prop} {w:World} {V:Rv} {L:Lg} {all:List Ent} {ts:List Tl} (h:RfV Z 0 w V L all ts) (hZ:∀ g,Z g→g < w.heap.size) (hl:all.length≤4194304) (hm:L.mem.length≤4194304) (hlv:∀ i,i < 6→(L.lev i).length≤4194304) (hw:L.wks.length≤4) (hwl:∀ q,q < L.wks.length→(L.wks.getD q wk0).list.length≤1000) (hts:ts.length≤1000) :
  Calls Tryz.prog 127 #[.agg (rfC V L)] w fun e w'=>∃ V',e=.returned (.agg (rfC V' L))∧RfV (fun g=>Z g∨w.heap.size≤g) w.heap.size w' V' L all ts∧RfD w.heap.size V' L∧Below w.heap.size w w':=by
 obtain ⟨i0,hi0,hz0,hz1,hz2⟩:=info_parts Tryz.info66
 obtain ⟨W,hW,hbb,e1,e2,e3,hs⟩:=alloc3 w (rfC V L) zrC (rfC V L) 234 234 234
 have HX:Hid (CpX w W w.heap.size (rfC V L) (rfC V L)):=⟨hbb,e1,e2,e3⟩
 have CK:Hid (∀ W',Below w.heap.size w W'→Calls Tryz.prog 199 #[.agg #[.int .i64 (L.clock:Int),V.av]] W' fun e w'=>∃ av',e=.returned (.agg #[.int .i64 (L.clock:Int),av'])∧w'.ownsRow W'.heap.size 66 3 av' all.length (all.flatMap eC)∧Below W'.heap.size W' w'):=fun W' hb=>copyK_any (own_belowR h.all hb) hl
 have HH:=hide h
 have HW:=hide hW
 have h1C:(rfC V L).all (·.oneCell')=true:=h.one
 have hCs:(rfC V L).size=20:=rfl
 have hsz:(Tryz.prog.info? 234).map (·.size)=some (rfC V L).size:=Tryz.sizeLog
 generalize hC:rfC V L=C at *
 have HC:=hide hC
 have hld:∀ X:Obj,((w.alloc (Obj.cells C 234)).alloc X).heap[w.heap.size]? = some (Obj.cells C 234 (0,0)):=fun X=>heap_alloc2_old w _ _
 have hst:((w.alloc (Obj.cells C 234)).alloc (Obj.cells zrC 234)).heap.size=w.heap.size + 1 + 1:=by simp
 have hlz:(((w.alloc (Obj.cells C 234)).alloc (Obj.cells zrC 234)).alloc (Obj.cells zrC 234)).heap[w.heap.size + 1 + 1]? = some (Obj.cells zrC 234 (0,0)):=by
  rw [← hst];exact heap_alloc_last _ _
 have hsr:(((w.alloc (Obj.cells C 234)).alloc (Obj.cells zrC 234)).alloc (Obj.cells zrC 234)).setRow (w.heap.size + 1 + 1) C=((w.alloc (Obj.cells C 234)).alloc (Obj.cells zrC 234)).alloc (Obj.cells C 234):=by
  rw [← hst];exact World.setRow_alloc_new _ _ _ _
 have hzC:zrC.size=C.size:=by rw [hCs];rfl
 clear hC h hW hbb e1 e2 e3 hs hst
 go_enter Tryz.func127,Tryz.ntmps127
 go_upto_region 1 with fail
 go_upto_region 2 with (first
  | (refine wpList_load_row rfl 234 (.tmp 1) rfl w.heap.size rfl 234 C (0,0) _ (hld _) Tryz.underlying234 rfl hsz ?_)
  | (refine wpList_store_row rfl 234 (.tmp 3) (.tmp 7) rfl (w.heap.size + 1 + 1) C rfl rfl 234 zrC hlz hsz hzC h1C ?_))
 have hsr':=hsr
 have hW':=HW.out
 unfold zrC at hsr' hW'
 rw [hsr',← hW']
 clear hsr' hW' hsr hlz hld hzC HW
 have hC6:C[6]? = some (.int .i64 (L.clock:Int)):=by rw [← HC.out];rfl
 have hC7:C[7]? = some V.av:=by rw [← HC.out];rfl
 have hC8:C[8]? = some V.mv:=by rw [← HC.out];rfl
 have hav:=own_slice HH.out.all
 have hmv:=own_slice HH.out.mem
 have s6:=(cell_of HX.out.src hC6).1
 have s7:=(cell_of HX.out.src hC7).1
 obtain ⟨aa,ca,hav,_,_⟩:=hav
 rw [hav] at s7 CK
 have HAV:=hide hav
 clear hav
 have FS:Hid (∀ (W2:World) (v7 v8:Value),CpX w W2 w.heap.size C C→CpX w (((W2.setCell ⟨w.heap.size + 1 + 1,6,none⟩ (.int .i64 (L.clock:Int))).setCell ⟨w.heap.size + 1 + 1,7,none⟩ v7).setCell ⟨w.heap.size + 1 + 1,8,none⟩ v8) w.heap.size C (rfC { V with av:=v7,mv:=v8 } L)):=fun W2 v7 v8 hx=>by
  have:=((hx.set 6 (.int .i64 (L.clock:Int))).set 7 v7).set 8 v8
  have e:((C.setIfInBounds 6 (.int .i64 (L.clock:Int))).setIfInBounds 7 v7).setIfInBounds 8 v8=rfC { V with av:=v7,mv:=v8 } L:=by rw [← HC.out];rfl
  rw [e] at this
  exact this
 have FO:Hid (∀ (W2:World) (v7 v8:Value),CpX w W2 w.heap.size C C→(((W2.setCell ⟨w.heap.size + 1 + 1,6,none⟩ (.int .i64 (L.clock:Int))).setCell ⟨w.heap.size + 1 + 1,7,none⟩ v7).setCell ⟨w.heap.size + 1 + 1,8,none⟩ v8).ownsRow 0 66 3 V.mv L.mem.length (L.mem.flatMap eC)):=fun W2 v7 v8 hx=>hx.own3 (own_same HH.out.mem (fun g hg=>hx.bel.block g (own_block HH.out.mem hg).2.1)) (by decide) _ _ _ _ _ _
 have F4:Hid (∀ (W2 W5:World) (v7 v5:Value),CpX w W2 w.heap.size C C→W2.ownsRow w.heap.size 66 3 v7 all.length (all.flatMap eC)→(((W2.setCell ⟨w.heap.size + 1 + 1,6,none⟩ (.int .i64 (L.clock:Int))).setCell ⟨w.heap.size + 1 + 1,7,none⟩ v7).setCell ⟨w.heap.size + 1 + 1,8,none⟩ (.slice none 0 0)).grownBy W5 none→W5.ownsRow w.heap.size 66 3 v5 L.mem.length (L.mem.flatMap eC)→(v5.ownBlock=none∨v5.ownBlock=some (((W2.setCell ⟨w.heap.size + 1 + 1,6,none⟩ (.int .i64 (L.clock:Int))).setCell ⟨w.heap.size + 1 + 1,7,none⟩ v7).setCell ⟨w.heap.size + 1 + 1,8,none⟩ (.slice none 0 0)).heap.size)→CpX w W5 w.heap.size C (rfC { V with av:=v7,mv:=.slice none 0 0 } L)∧CpS w (W5.setCell ⟨w.heap.size + 1 + 1,8,none⟩ v5) w.heap.size C V { V with av:=v7,mv:=v5 } L all 0):=fun W2 W5 v7 v5 hx ho hg ho5 hn=>by
  have x4:=FS.out W2 v7 (.slice none 0 0) hx
  have o4:=hx.own3 ho (by decide) 6 (.int .i64 (L.clock:Int)) 7 v7 8 (.slice none 0 0)
  have b5:=below_grown0 hg
  have x5:=x4.below b5
  have x6:=x5.set 8 v5
  refine ⟨x5,x6,rfl,rfl,rfl,rfl,x5.own (own_belowR o4 b5) (by decide) _ _,x5.own ho5 (by decide) _ _,fun i hi=>absurd hi (Nat.not_lt_zero _),fun i _=>rfl,fun g hg hq=>?_,fun i j hi=>absurd hi (Nat.not_lt_zero _)⟩
  rcases hn with hn | hn
  ·rw [hn] at hq;cases hq
  ·rw [hn] at hq
   injection hq with hq
   have:=(own_block ho hg).2.1
   simp at hq
   omega
 generalize hn:w.heap.size=n at *
 have HN:=hide hn
 clear hn
 go_upto_region 5 with (first
  | (go_at_call 199;refine (CK.out W HX.out.bel).mono ?_;rintro e W2 ⟨av',rfl,o2,b2⟩;have HX2:=hide (HX.out.below b2);have HO2:=hide (own_mono o2 (by have:=HX.out.sz;omega:n≤W.heap.size));obtain ⟨a2,c2,rfl,_,_⟩:=own_slice o2;obtain ⟨x6,y6⟩:=cell_of HX2.out.x hC6;obtain ⟨x7,y7⟩:=cell_of HX2.out.x hC7;obtain ⟨x8,y8⟩:=cell_of HX2.out.x hC8;have sm:=(cell_of HX2.out.src hC8).1;clear o2 b2)
  | (at_builtin;refine wpList_append_both _ rfl (.tmp 14) (.tmp 16) 57 rfl n 0 66 i0 (.agg #[.int .i64 0, .int .i64 0, .string ByteArray.empty]) 3 32 Tryz.underlying57 hi0 hz0 hz1 hz2 rfl (by decide) _ _ _ rfl (World.ownsRow_nil _ _ _ _) _ _ _ rfl (FO.out W2 _ _ HX2.out) (eC_one _) (by unfold maxLen;omega) (by omega) (by have:=HX2.out.sz;simp;omega) ?_;intro v5 W5 o5 g5 n5;have o6:W5.ownsRow n 66 3 v5 L.mem.length (L.mem.flatMap eC):=(by simpa using o5);obtain ⟨q5,q6⟩:=F4.out W2 W5 _ v5 HX2.out HO2.out g5 o6 n5;obtain ⟨z8,z9⟩:=cell_of (j:=8) (u:=.slice none 0 0) q5.x rfl;have HS0:=hide q6;obtain ⟨a5,c5,rfl,_,_⟩:=own_slice o6;clear o5 g5 n5 o6 q5 q6))
 obtain ⟨W6,hW6⟩:∃ W6,W6=W5.setCell ⟨n + 1 + 1,8,none⟩ (.slice a5 L.mem.length c5):=⟨_,rfl⟩
 have hs0:=HS0.out
 rw [← hW6] at hs0 ⊢
 have HS1:Hid (∃ V0,CpS w W6 n C V V0 L all 0):=⟨_,hs0⟩
 obtain ⟨j0,hj0,hk0,hk1,hk2⟩:=info_parts Tryz.infoRow
 clear hs0 hW6 HS0 HX2 HO2 F4 FO FS x6 y6 x7 y7 x8 y8 sm z8 z9 s6 s7 CK
 have HLV:=hide hlv
 have CC:Hid (∀ k,k < 6→C[9 + k]? = some (V.lv k)):=fun k hk=>by rw [← HC.out];exact rfC_lv V L hk
 clear hlv
 go_wp2_with fail
 go_loopw [4] (fun i wr=>∃ k:Nat,k≤6∧i=.int .i64 k∧∃ V1,CpS w wr n C V V1 L all k) (fun i _=>6 - (intOf i).toNat)
 case atStart=>obtain ⟨V0,h0⟩:=HS1.out;exact ⟨0,Nat.zero_le _,rfl,V0,h0⟩
 case round=>
  obtain ⟨k,hk,rfl,V1,hS⟩:=hrel
  have HS:=hide hS
  by_cases hlt:k < 6
  ·obtain ⟨x0,y0⟩:=cell_of hS.x.x (rfC_lv V1 L hlt)
   have sx:=(cell_of hS.x.src (CC.out k hlt)).1
   have hkl:=HLV.out k hlt
   obtain ⟨Wn,hWn⟩:∃ Wn,Wn=wr.setCell ⟨n + 1 + 1,9 + k,none⟩ (.slice none 0 0):=⟨_,rfl⟩
   have xn:=hS.x.set (9 + k) (.slice none 0 0)
   rw [← hWn] at xn
   have hok0:=HH.out.lev k hlt
   have hok:Wn.ownsRow 0 57 1 (V.lv k) (L.lev k).length ((List.range (L.lev k).length).map (V.sv k)):=own_same hok0 (fun g hg=>xn.bel.block g (by rw [← HN.out];exact (own_block hok0 hg).2.1))
   have HOK:=hide hok
   have HONE:=hide (map_one (f:=V.sv k) (n:=(L.lev k).length) (fun j hj=>own_one (HH.out.seg k hlt j hj)))
   have tx:=cell_of xn.x (show ((rfC V1 L).setIfInBounds (9 + k) (.slice none 0 0))[9 + k]? = some (.slice none 0 0) by rw [rfC_set _ _ _ hlt,rfC_lv _ _ hlt];simp)
   have tsx:=(cell_of xn.src (CC.out k hlt)).1
   have hszn:=xn.sz
   have FN:Hid (∀ W7 v5,Wn.grownBy W7 none→W7.ownsRow n 57 1 v5 (L.lev k).length ((List.range (L.lev k).length).map (V.sv k))→(v5.ownBlock=none∨v5.ownBlock=some Wn.heap.size)→(W7.cell? ⟨n + 1 + 1,9 + k,none⟩=some (.slice none 0 0)∧W7.frozen? ⟨n + 1 + 1,9 + k,none⟩=false)∧∃ V2,CpS w (W7.setCell ⟨n + 1 + 1,9 + k,none⟩ v5) n C V V2 L all (k + 1)):=fun W7 v5 g o hn5=>by
    have b7:=below_grown0 g
    refine ⟨cell_of (xn.below b7).x (show ((rfC V1 L).setIfInBounds (9 + k) (.slice none 0 0))[9 + k]? = some (.slice none 0 0) by rw [rfC_set _ _ _ hlt,rfC_lv _ _ hlt];simp),_,HS.out.next hlt (by rw [← hWn];exact b7) o (by rw [← hWn];exact hn5)⟩
   obtain ⟨tx1,tx2⟩:=tx
   obtain ⟨al,cl,hvl,_,_⟩:=own_slice hok0
   generalize V.lv k=vl at *
   generalize hnl:(L.lev k).length=nl at *
   generalize (List.range nl).map (V.sv k)=xl at *
   subst hvl
   have HWN:=hide hWn
   clear hS xn hok hok0 hWn hnl
   go_upto_region 9 with fail
   rw [← HWN.out]
   go_region_law (refine step_append_both _ rfl _ _ 24 rfl n 0 57 j0 (.slice none 0 0) 1 24 Tryz.underlying24 hj0 hk0 hk1 hk2 rfl (by decide) _ _ _ rfl (by exact World.ownsRow_nil _ _ _ _) (.slice al nl cl) nl xl rfl (by exact HOK.out) HONE.out (by unfold maxLen;omega) (by omega) (by show n≤Wn.heap.size;omega) ?_;intro v5 W7 o5 g5 n5;have g6:Wn.grownBy W7 none:=⟨g5.os,g5.tape,g5.output,g5.size,g5.block⟩;have o6:W7.ownsRow n 57 1 v5 nl xl:=(by simpa using o5);obtain ⟨⟨fb,ff⟩,hfn⟩:=FN.out W7 v5 g6 o6 n5;have HFN:=hide hfn;obtain ⟨a9,c9,rfl,_,_⟩:=own_slice o6;clear o5 g5 g6 n5 o6 hfn)
   all_goals (
    go_wp2_with fail
    obtain ⟨V2,h2⟩:=HFN.out
    exact ⟨⟨k + 1,by omega,by go_num,V2,h2⟩,by simp [intOf];omega⟩)
  ·have hk6:k=6:=by omega
   rw [hk6] at hS HS
   have HK6:=hide hk6
   clear hk6
   obtain ⟨x0,y0⟩:=cell_of (j:=15) (u:=V1.wv) hS.x.x rfl
   have C15:C[15]? = some V.wv:=by rw [← HC.out];rfl
   have C16:C[16]? = some V.tv:=by rw [← HC.out];rfl
   have C19:C[19]? = some (.slice none 0 0):=by rw [← HC.out];rfl
   have HWS:=hide HH.out.wks
   obtain ⟨aw,cw,hwv,hcw,hcm⟩:=own_slice HWS.out
   rw [hwv] at C15 HWS
   have hst:=hS.toW
   obtain ⟨Wn,hWn⟩:∃ Wn,Wn=wr.setCell ⟨n + 1 + 1,15,none⟩ (.slice none 0 0):=⟨_,rfl⟩
   rw [← hWn] at hst
   have HST:Hid (∃ V0,CpW w Wn n C V V0 L all 0):=⟨_,hst⟩
   have HWN:=hide hWn
   obtain ⟨p0,hp0,hq0,hq1,hq2⟩:=info_parts Tryz.infoWkr
   obtain ⟨u0,hu0,hv0,hv1,hv2⟩:=info_parts Tryz.infoI
   have HWL:=hide hwl
   have hWV:=hide hwv
   clear hS hWn hst hwl CC HLV HS1 HS hwv
   generalize hnw:L.wks.length=nw at *
   have HNW:=hide hnw
   clear hnw
   unfold maxLen at hcm
   go_upto_region 11 with fail
   rw [← HWN.out]
   go_wp2_with fail
   obtain ⟨wo,rfl⟩:∃ wo,wo=wr:=⟨_,rfl⟩
   go_loopw [5] (fun i wr=>∃ m:Nat,m≤nw∧i=.int .i64 m∧∃ V1,CpW w wr n C V V1 L all m) (fun i _=>nw - (intOf i).toNat)
   case atStart=>obtain ⟨V0,h0⟩:=HST.out;exact ⟨0,Nat.zero_le _,rfl,V0,h0⟩
   case round=>
    obtain ⟨m,hmn,rfl,V2,hS⟩:=hrel
    have HS:=hide hS
    have sw:=(cell_of hS.x.src C15).1
    by_cases hlt:m < nw
    ·have hows:wr.ownsRow 0 304 3 (.slice aw nw cw) nw (wkRs L.wks V.wl V.rd):=own_same HWS.out (fun g hg=>hS.x.bel.block g (by rw [← HN.out];exact (own_block HWS.out hg).2.1))
     obtain ⟨g,rfl⟩:=own_some hows (by omega)
     obtain ⟨r0,r1,r2⟩:=wkRs_at (ks:=L.wks) (wl:=V.wl) (rd:=V.rd) (q:=m) (by rw [HNW.out];exact hlt)
     have k0:=own_get hows r0
     have k1:=own_get hows r1
     have k2:=own_get hows r2
     have hl0:=HH.out.lst m (by rw [HNW.out];exact hlt)
     have hll:=HWL.out m hlt
     obtain ⟨al,cl,hvl,_,_⟩:=own_slice hl0
     obtain ⟨Wm,hWm⟩:∃ Wm,Wm=wr.alloc (Obj.cells #[.slice none 0 0, .int .i64 (rnV (L.wks.getD m wk0).runs), .int .i64 (V.rd m)] 304):=⟨_,rfl⟩
     have bm:Below wr.heap.size wr Wm:=by rw [hWm];exact below_allocG _ _
     have em:Wm.heap[wr.heap.size]? = some (Obj.cells #[.slice none 0 0, .int .i64 (rnV (L.wks.getD m wk0).runs), .int .i64 (V.rd m)] 304 (0,0)):=by rw [hWm];exact new_blk wr _ _
     have hbw:Below n w Wm:=hS.x.bel.trans (bm.mono (by have:=hS.x.sz;omega))
     have hol:Wm.ownsRow 0 3 1 (V.wl m) (L.wks.getD m wk0).list.length ((L.wks.getD m wk0).list.map iV):=own_same hl0 (fun g hg=>hbw.block g (by rw [← HN.out];exact (own_block hl0 hg).2.1))
     have HOL:=hide hol
     have howm:=own_belowR hows bm
     have t0:=own_get howm r0
     have tsw:=(cell_of (hS.x.below bm).src C15).1
     obtain ⟨n0,n1⟩:=cell_of (j:=0) (u:=.slice none 0 0) em rfl
     have hnsz:n≤Wm.heap.size:=by have:=(hS.x.below bm).sz;omega
     have HONE:Hid (∀ u ∈ (L.wks.getD m wk0).list.map iV,u.oneCell'=true):=fun u hu=>by obtain ⟨x,_,rfl⟩:=List.mem_map.1 hu;rfl
     have FN:Hid (∀ W3 v3,Wm.grownBy W3 none→W3.ownsRow n 3 1 v3 (L.wks.getD m wk0).list.length ((L.wks.getD m wk0).list.map iV)→(v3.ownBlock=none∨v3.ownBlock=some Wm.heap.size) →
       W3.heap[wr.heap.size]? = some (Obj.cells #[.slice none 0 0, .int .i64 (rnV (L.wks.getD m wk0).runs), .int .i64 (V.rd m)] 304 (0,0))∧∀ W4,W4=W3.setCell ⟨wr.heap.size,0,none⟩ v3→W4.heap[wr.heap.size]? = some (Obj.cells #[v3, .int .i64 (rnV (L.wks.getD m wk0).runs), .int .i64 (V.rd m)] 304 (0,0))∧W4.cell? ⟨n + 1 + 1,15,none⟩=some V2.wv∧W4.ownsRow n 304 3 V2.wv m ((List.range m).flatMap (fun q=>wkR (L.wks.getD q wk0) (V2.wl q) (V.rd q)))∧n≤W4.heap.size ∧
       ∀ W6 v6,(W4.alloc (Obj.cells #[v3, .int .i64 (rnV (L.wks.getD m wk0).runs), .int .i64 (V.rd m)] 304)).grownBy W6 V2.wv.ownBlock→W6.ownsRow n 304 3 v6 (m + 1) ((List.range m).flatMap (fun q=>wkR (L.wks.getD q wk0) (V2.wl q) (V.rd q)) ++ [v3, .int .i64 (rnV (L.wks.getD m wk0).runs), .int .i64 (V.rd m)])→(W6.cell? ⟨n + 1 + 1,15,none⟩=some V2.wv∧W6.frozen? ⟨n + 1 + 1,15,none⟩=false)∧∃ V3,CpW w (W6.setCell ⟨n + 1 + 1,15,none⟩ v6) n C V V3 L all (m + 1)):=fun W3 v3 g o hn3=>by
      rw [hWm] at g hn3
      obtain ⟨e3,b3,s3⟩:=wk_one g
      have x3:=HS.out.x.below b3
      have hsz3:=HS.out.x.sz
      refine ⟨e3,fun W4 hW4=>?_⟩
      subst hW4
      refine ⟨set_blk e3,(cell_of (j:=15) (u:=V2.wv) ((set_other (by omega)).trans x3.x) rfl).1,own_same (own_belowR HS.out.row b3) (fun g hg=>set_other (by have:=(own_block HS.out.row hg).2.1;omega)),by have:=x3.sz;simp;omega,fun W6 v6 g6 o6=>?_⟩
      obtain ⟨q1,q2⟩:=HS.out.next g o hn3 g6 o6
      exact ⟨cell_of (j:=15) (u:=V2.wv) q1 rfl,_,q2⟩
     obtain ⟨v2a,v2c,hvv,_,_⟩:=own_slice hS.row
     have HWM:=hide hWm
     generalize L.wks.getD m wk0=kq at *
     generalize V.wl m=vl at *
     generalize V.rd m=rm at *
     generalize hnl:kq.list.length=nl at *
     generalize hxl:kq.list.map iV=xl at *
     generalize rnV kq.runs=rr at *
     generalize V2.wv=wv2 at *
     generalize (List.range m).flatMap (fun q=>wkR (L.wks.getD q wk0) (V2.wl q) (V.rd q))=wls at *
     subst hvl
     subst hvv
     clear hS hWm bm em hbw hl0 hol howm hows hnl hxl r0 r1 r2
     go_upto_region 16 with fail
     rw [← HWM.out]
     go_region_law (refine step_append_both _ rfl _ _ 149 rfl n 0 3 u0 (.int .i64 0) 1 8 Tryz.underlying149 hu0 hv0 hv1 hv2 rfl (by decide) _ _ _ rfl (by exact World.ownsRow_nil _ _ _ _) (.slice al nl cl) nl xl rfl (by exact HOL.out) HONE.out (by unfold maxLen;omega) (by omega) (by show n≤Wm.heap.size;omega) ?_;intro v3 W3 o5 g5 n5;have g6:Wm.grownBy W3 none:=⟨g5.os,g5.tape,g5.output,g5.size,g5.block⟩;have o6:W3.ownsRow n 3 1 v3 nl xl:=(by simpa using o5);obtain ⟨e3,hf4⟩:=FN.out W3 v3 g6 o6 n5;have HF4:=hide hf4;obtain ⟨fb,ff⟩:=cell_of (j:=0) (u:=.slice none 0 0) e3 rfl;obtain ⟨a9,c9,rfl,_,_⟩:=own_slice o6;clear o5 g5 g6 n5 o6 hf4 e3)
     all_goals (
      obtain ⟨W4,hW4⟩:∃ W4,W4=W3.setCell ⟨wr.heap.size,0,none⟩ (.slice a9 nl c9):=⟨_,rfl⟩
      obtain ⟨e4,f4,o4,s4,h6⟩:=HF4.out W4 hW4
      rw [← hW4]
      have HO4:=hide o4
      have H6:=hide h6
      obtain ⟨w0,_⟩:=cell_of (j:=0) (u:=.slice a9 nl c9) e4 rfl
      obtain ⟨w1,_⟩:=cell_of (j:=1) (u:=.int .i64 rr) e4 rfl
      obtain ⟨w2,_⟩:=cell_of (j:=2) (u:=.int .i64 rm) e4 rfl
      clear e4 o4 h6 hW4 fb ff n0 n1 t0 tsw k0 k1 k2
      go_wp2_with (first | (at_builtin;refine wpList_append_both _ rfl _ _ 230 rfl n 0 304 p0 (.agg #[.slice none 0 0, .int .i64 0, .int .i64 0]) 3 40 Tryz.underlying230 hp0 hq0 hq1 hq2 rfl (by decide) _ _ _ rfl (own_belowR HO4.out (below_allocG _ _)) _ _ _ rfl (World.ownsRow_lit W4 #[.slice a9 nl c9, .int .i64 rr, .int .i64 rm] 1 (Nat.zero_le _) (by decide) rfl) (by intro u hu;simp at hu;rcases hu with rfl | rfl | rfl <;> rfl) (by unfold maxLen;omega) (by omega) (by simp;omega) ?_;intro v6 W6 o6 g6 n6;obtain ⟨⟨r0,r1⟩,r2⟩:=H6.out W6 v6 g6 o6;have HR2:=hide r2;obtain ⟨b6,d6,rfl,_,_⟩:=own_slice o6;clear r2 o6 g6 n6))
      go_roundw
      case rel=>obtain ⟨V3,h3⟩:=HR2.out;exact ⟨m + 1,by omega,by go_num,V3,h3⟩
      case measure=>simp [intOf];omega)
    ·obtain rfl:m=nw:=by omega
     obtain ⟨x6,y6⟩:=cell_of (j:=16) (u:=V2.tv) hS.x.x rfl
     have s16:=(cell_of hS.x.src C16).1
     obtain ⟨Wt,hWt⟩:∃ Wt,Wt=wr.setCell ⟨n + 1 + 1,16,none⟩ (.slice none 0 0):=⟨_,rfl⟩
     have xt:=hS.x.set 16 (.slice none 0 0)
     rw [← hWt] at xt
     obtain ⟨x7,y7⟩:=cell_of (j:=16) (u:=.slice none 0 0) xt.x rfl
     have t16:=(cell_of xt.src C16).1
     have hot:Wt.ownsRow 0 341 3 V.tv ts.length (ts.flatMap tlC):=own_same HH.out.tls (fun g hg=>xt.bel.block g (by rw [← HN.out];exact (own_block HH.out.tls hg).2.1))
     have HOT:=hide hot
     have hnt:n≤Wt.heap.size:=by have:=xt.sz;omega
     have FT:Hid (∀ W2 v4,Wt.grownBy W2 none→W2.ownsRow n 341 3 v4 ts.length (ts.flatMap tlC)→W2.heap[n + 1 + 1]? = some (Obj.cells (rfC { V2 with tv:=.slice none 0 0 } L) 234 (0,0))∧(CpX w (((W2.setCell ⟨n + 1 + 1,16,none⟩ v4).setCell ⟨n + 1 + 1,19,none⟩ (.slice none 0 0)).setCell ⟨n + 1 + 1,19,none⟩ (.slice none 0 0)) n C (rfC { V2 with tv:=v4 } L)∧∀ W7,W7=(((W2.setCell ⟨n + 1 + 1,16,none⟩ v4).setCell ⟨n + 1 + 1,19,none⟩ (.slice none 0 0)).setCell ⟨n + 1 + 1,19,none⟩ (.slice none 0 0)).setRow (n + 1) (rfC { V2 with tv:=v4 } L)→W7.heap[n + 1]? = some (Obj.cells (rfC { V2 with tv:=v4 } L) 234 (0,0))∧RfV (fun g=>Z g∨n≤g) n W7 { V2 with tv:=v4 } L all ts∧RfD n { V2 with tv:=v4 } L∧Below n w W7)):=fun W2 v4 g o=>by
      rw [hWt] at g
      have h':=HS.out
      rw [← HNW.out] at h'
      exact h'.fin HH.out HN.out hZ g o
     obtain ⟨d0,hd0,he0,he1,he2⟩:=info_parts Tryz.infoTail
     obtain ⟨kk0,hkk0,_,_,_⟩:=info_parts Tryz.infoKept
     have HT1:Hid (∀ u ∈ ts.flatMap tlC,u.oneCell'=true):=fun u hu=>by
      obtain ⟨t,_,ht⟩:=List.mem_flatMap.1 hu
      simp [tlC] at ht
      rcases ht with rfl | rfl | rfl <;> rfl
     have hone:∀ v,Rv.mk V2.av V2.mv V2.lv V2.sv V2.wv V2.wl V2.rd v={ V2 with tv:=v }:=fun _=>rfl
     have HWT:=hide hWt
     have H1:Hid (∀ v4 W7,RfV (fun g=>Z g∨n≤g) n W7 { V2 with tv:=v4 } L all ts→(rfC { V2 with tv:=v4 } L).all (·.oneCell')=true):=fun v4 W7 h=>h.one
     have hsLog:∀ v4,(Tryz.prog.info? 234).map (·.size)=some (rfC { V2 with tv:=v4 } L).size:=fun _=>Tryz.sizeLog
     clear hS hWt xt hot hone
     generalize V.tv=tvv at *
     go_upto_region 19 with fail
     rw [← HWT.out]
     go_upto_region 20 with (first
      | (at_builtin;refine wpList_append_both _ rfl _ _ 231 rfl n 0 341 d0 (.agg #[.int .i64 0, .string ⟨#[]⟩, .int .i64 0]) 3 32 Tryz.underlying231 hd0 he0 he1 he2 rfl (by decide) _ _ _ rfl (World.ownsRow_nil _ _ _ _) _ _ _ rfl HOT.out HT1.out (by unfold maxLen;omega) (by omega) hnt ?_;intro v4 W2 o4 g4 n4;have o5:W2.ownsRow n 341 3 v4 ts.length (ts.flatMap tlC):=(by simpa using o4);obtain ⟨q1,q2,q3⟩:=FT.out W2 v4 g4 o5;obtain ⟨z1,z2⟩:=cell_of (j:=16) (u:=.slice none 0 0) q1 rfl;obtain ⟨z3,z4⟩:=cell_of (j:=19) (u:=.slice none 0 0) q1 rfl;have HQ2:=hide q2;have HQ3:=hide q3;obtain ⟨a7,c7,rfl,_,_⟩:=own_slice o5;clear o4 g4 n4 o5 q1 q2 q3))
     have hq2:=HQ2.out
     have sC:W2.heap[n]? = some (Obj.cells C 234 (0,0)):=by
      have:=hq2.src
      rw [set_other (by omega),set_other (by omega),set_other (by omega)] at this
      exact this
     have s19:=(cell_of sC C19).1
     obtain ⟨D,hD⟩:∃ D,D=rfC { V2 with tv:=.slice a7 ts.length c7 } L:=⟨_,rfl⟩
     have hone:D.all (·.oneCell')=true:=by rw [hD];exact (HQ3.out _ rfl).2.1.one
     have hDs:(Tryz.prog.info? 234).map (·.size)=some D.size:=by rw [hD];exact Tryz.sizeLog
     have hDz:zrC.size=D.size:=by rw [hD];rfl
     have hq3:=HQ3.out
     rw [← hD] at hq2 hq3
     have dx:=hq2.x
     have dr:=hq2.res
     have HQ:=hide hq3
     have HD:=hide hD
     clear hq2 hq3 hD sC HQ2 HQ3
     go_wp2_with (first
      | (at_builtin;refine wpList_append_own_none rfl _ _ 232 rfl n 228 kk0 2 Tryz.underlying232 hkk0 _ _ _ rfl (World.ownsRow_nil _ _ _ _) rfl ?_)
      | (refine wpList_load_row rfl 234 (.tmp 3) rfl (n + 1 + 1) rfl 234 D (0,0) _ dx Tryz.underlying234 rfl hDs ?_)
      | (refine wpList_store_row rfl 234 (.tmp 2) (.tmp 82) rfl (n + 1) D rfl rfl 234 zrC dr hDs hDz hone ?_))
     obtain ⟨W7,hW7⟩:∃ W7,W7=(((W2.setCell ⟨n + 1 + 1,16,none⟩ (.slice a7 ts.length c7)).setCell ⟨n + 1 + 1,19,none⟩ (.slice none 0 0)).setCell ⟨n + 1 + 1,19,none⟩ (.slice none 0 0)).setRow (n + 1) D:=⟨_,rfl⟩
     obtain ⟨r1,r2,r3,r4⟩:=HQ.out W7 hW7
     rw [← hW7]
     have hld:=run_loadVar_row (P:=Tryz.prog) W7 (n + 1) 234 234 D (0,0) _ r1 Tryz.underlying234 rfl hDs
     refine bodyPost_ret (v:=.agg D) ?_ rfl ⟨_,by rw [HD.out],?_,?_,?_⟩
     ·rw [results_cellG rfl]
      simp [Act.put,asAddr,Result.andThen,hld]
     ·rw [HN.out];exact r2
     ·rw [HN.out];exact r3
     ·rw [HN.out];exact r4
end Go.Proofs.YtkncboinfcnklaaGreatDoor.Rl

namespace Go.Proofs.YtkncboinfcnklaaGreatDoor.Rl
open Go.RowKit Go.Deep Go.Shelf Go.Proofs.YtkncboinfcnklaaGreatDoor.Mth
set_option maxRecDepth 100000 in
set_option maxHeartbeats 4000000 in
theorem oldR_any {w:World} {cb:Nat} {V:Rv} {L:Lg} (hb:w.heap[cb]? = some (Obj.cells (rfC V L) 234 (0,0))) (sq tm:Int) (tx:ByteArray) (ht:0≤tm∧tm≤1000000000000) (hk:L.keep≤1000000) (_hc:L.clock≤1000000000000) :
  Calls Tryz.prog 250 #[ptrV cb, .agg #[.int .i64 sq, .int .i64 tm, .string tx]] w fun e w'=>e=.returned (.bool (decide (tm + (L.keep:Int) < (L.clock:Int))))∧Below w.heap.size w w':=by
 have b1:=below_allocG w (Obj.cells #[.int .i64 sq, .int .i64 tm, .string tx] 66)
 have k1:=new_blk w #[.int .i64 sq, .int .i64 tm, .string tx] 66
 obtain ⟨W,hW⟩:∃ W,W=w.alloc (Obj.cells #[.int .i64 sq, .int .i64 tm, .string tx] 66):=⟨_,rfl⟩
 rw [← hW] at b1 k1
 have hcb:cb < w.heap.size:=(Array.getElem?_eq_some_iff.1 hb).1
 have hbw:=(b1.block cb hcb).trans hb
 have c4:=(cell_of (j:=4) (u:=.int .i64 (L.keep:Int)) hbw rfl).1
 have c6:=(cell_of (j:=6) (u:=.int .i64 (L.clock:Int)) hbw rfl).1
 have c1:=(cell_of (j:=1) (u:=.int .i64 tm) k1 rfl).1
 have HB1:=hide b1
 have HW:=hide hW
 clear hb b1 k1 hW hbw
 generalize L.keep=kp at *
 generalize L.clock=ck at *
 go_enter Tryz.func250,Tryz.ntmps250
 go_upto_region 1 with fail
 rw [← HW.out]
 go_quiet (fail)
 go_wp2
 go_ret
 exact ⟨by first | rfl | simp,HB1.out.trans ((drewG W _).mono HB1.out.size)⟩
def upP (V:Rv) (L:Lg):Nat→List (Value × List Ent)
 | 0=>[]
 | k + 1=>upP V L k ++ (List.range (L.lev (5 - k)).length).map (fun j=>(V.sv (5 - k) j,(L.lev (5 - k)).getD j []))
theorem range_getD (l:List (List Ent)):(List.range l.length).map (fun j=>l.getD j [])=l:=by
 apply List.ext_getElem
 ·simp
 ·intro i h1 h2
  simp [List.getD_eq_getElem?_getD,h2]
theorem upP_segs (V:Rv) (L:Lg):(upP V L 6).map Prod.snd=segs L.lev:=by
 rw [segs_eq]
 simp only [upP,List.map_append,List.map_map,List.nil_append]
 have h:∀ k,(List.range (L.lev k).length).map (Prod.snd ∘ fun j=>(V.sv k j,(L.lev k).getD j []))=L.lev k:=fun k=>range_getD (L.lev k)
 rw [h,h,h,h,h,h]
 simp
theorem upP_fst (V:Rv) (L:Lg) (k:Nat):(upP V L (k + 1)).map Prod.fst=(upP V L k).map Prod.fst ++ (List.range (L.lev (5 - k)).length).map (V.sv (5 - k)):=by
 simp [upP,List.map_map,Function.comp_def]
theorem upP_own {Z:Nat→Prop} {B:Nat} {w:World} {V:Rv} {L:Lg} {all:List Ent} {ts:List Tl} (h:RfV Z B w V L all ts):∀ k,k≤6→∀ p ∈ upP V L k,w.ownsRow 0 66 3 p.1 p.2.length (p.2.flatMap eC)
 | 0,_,p,hp=>by cases hp
 | k + 1,hk,p,hp=>by
  rcases List.mem_append.1 hp with hp | hp
  ·exact upP_own h k (by omega) p hp
  ·obtain ⟨j,hj,rfl⟩:=List.mem_map.1 hp
   exact h.seg (5 - k) (by omega) j (List.mem_range.1 hj)
theorem upP_len (V:Rv) (L:Lg) (n:Nat) (h:∀ i,i < 6→(L.lev i).length≤n):∀ k,k≤6→(upP V L k).length≤k * n
 | 0,_=>by simp [upP]
 | k + 1,hk=>by
  have:=upP_len V L n h k (by omega)
  have h2:=h (5 - k) (by omega)
  simp only [upP,List.length_append,List.length_map,List.length_range]
  rw [Nat.succ_mul]
  omega
set_option maxRecDepth 100000 in
set_option maxHeartbeats 4000000 in
theorem segmentsR_any {Z:Nat→Prop} {B:Nat} {w:World} {cb:Nat} {V:Rv} {L:Lg} {all:List Ent} {ts:List Tl} (hb:w.heap[cb]? = some (Obj.cells (rfC V L) 234 (0,0))) (h:RfV Z B w V L all ts) (hlv:∀ i,i < 6→(L.lev i).length≤1048576) :
  Calls Tryz.prog 249 #[ptrV cb] w fun e w'=>∃ v,e=.returned v∧w'.ownsRow w.heap.size 57 1 v (upP V L 6).length ((upP V L 6).map Prod.fst)∧Below w.heap.size w w':=by
 obtain ⟨j0,hj0,hk0,hk1,hk2⟩:=info_parts Tryz.infoRow
 have HB:=hide hb
 have HH:=hide h
 have HLV:=hide hlv
 have hcb:cb < w.heap.size:=(Array.getElem?_eq_some_iff.1 hb).1
 have HUL:=hide (upP_len V L 1048576 hlv)
 clear hb h hlv
 go_enter Tryz.func249,Tryz.ntmps249
 go_wp2_with fail
 go_loopw [3,4] (fun v i wr=>∃ k:Nat,k≤6∧i=.int .i64 (5 - (k:Int))∧wr.ownsRow w.heap.size 57 1 v (upP V L k).length ((upP V L k).map Prod.fst)∧Below w.heap.size w wr) (fun _ i _=>(intOf i + 1).toNat)
 case atStart=>exact ⟨0,Nat.zero_le _,rfl,World.ownsRow_nil _ _ _ _,Below.refl _ _⟩
 case round=>
  obtain ⟨k,hk,rfl,ho,hbl⟩:=hrel
  obtain ⟨av,cv,rfl,hcv,hmv⟩:=own_slice ho
  unfold maxLen at hmv
  have HO:=hide ho
  have HBL:=hide hbl
  by_cases hlt:k < 6
  ·have hbw:=(hbl.block cb hcb).trans HB.out
   obtain ⟨q,hq,hq5⟩:∃ q:Nat,(q:Int)=5 - (k:Int)∧q < 6:=⟨5 - k,by omega,by omega⟩
   have hqk:q=5 - k:=by omega
   have cq:=(cell_of hbw (rfC_lv V L hq5)).1
   have hol:=own_belowR (HH.out.lev q hq5) hbl
   have hone:=map_one (f:=V.sv q) (n:=(L.lev q).length) (fun j hj=>own_one (HH.out.seg q hq5 j hj))
   obtain ⟨al,cl,hvl,_,_⟩:=own_slice hol
   have hln:=HLV.out q hq5
   have hul:=HUL.out k (by omega)
   have hnx:(upP V L (k + 1)).map Prod.fst=(upP V L k).map Prod.fst ++ (List.range (L.lev q).length).map (V.sv q):=by rw [hqk];exact upP_fst V L k
   have hnl:(upP V L (k + 1)).length=(upP V L k).length + (L.lev q).length:=by rw [hqk];simp [upP]
   have HNX:=hide hnx
   have HNL:=hide hnl
   have HOL:=hide hol
   have HONE:=hide hone
   have hsz:=hbl.size
   rw [← hq]
   have HQ:=hide hq
   clear ho hbl hbw hol hone hnx hnl hqk hq
   generalize V.lv q=vl at *
   generalize (L.lev q).length=nl at *
   generalize (List.range nl).map (V.sv q)=xl at *
   generalize (upP V L k).length=nu at *
   generalize (upP V L k).map Prod.fst=xu at *
   subst hvl
   go_wp2_with (first | (at_builtin;refine wpList_append_both _ rfl _ _ 24 rfl w.heap.size B 57 j0 (.slice none 0 0) 1 24 Tryz.underlying24 hj0 hk0 hk1 hk2 rfl (by decide) _ _ _ rfl HO.out _ _ _ rfl HOL.out HONE.out (by unfold maxLen;omega) (by omega) hsz ?_;intro v5 W5 o5 g5 n5;have HB5:=hide (below_grown HBL.out HO.out (Nat.le_refl _) g5);have HO5:=hide o5;obtain ⟨a5,c5,rfl,_,_⟩:=own_slice o5;clear o5 g5 n5))
   go_roundw
   case rel=>exact ⟨k + 1,by omega,by have:=HQ.out;go_num,by rw [HNL.out,HNX.out];exact HO5.out,HB5.out⟩
   case measure=>simp [intOf]
  ·obtain rfl:k=6:=by omega
   clear ho hbl
   go_wp2_with fail
   go_ret
   exact ⟨_,rfl,HO.out,HBL.out⟩
end Go.Proofs.YtkncboinfcnklaaGreatDoor.Rl
