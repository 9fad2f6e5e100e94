import Derived.Test.YtkncboinfcnklaaGreatDoorQ18
namespace Go.Proofs.YtkncboinfcnklaaGreatDoor
open Go.RowKit Go.Deep Go.Shelf Go.Proofs.YtkncboinfcnklaaGreatDoor.Mth
def cfgB (c0 c1 c2 c3 c4 c5:Int):Bool:=decide (1≤c0∧c0≤8) && (decide (2≤c1∧c1≤4) && (decide (0≤c2∧c2≤4) && (decide (1≤c3∧c3≤4) && (decide (1≤c4∧c4≤1000000) && decide (1≤c5∧c5≤8)))))
set_option maxRecDepth 100000 in
set_option maxHeartbeats 2000000 in
theorem isConfig_any (c0 c1 c2 c3 c4 c5:Int) (w:World):Calls Tryz.prog 139 #[.agg #[.int .i64 c0, .int .i64 c1, .int .i64 c2, .int .i64 c3, .int .i64 c4, .int .i64 c5]] w fun e w'=>e=.returned (.bool (cfgB c0 c1 c2 c3 c4 c5))∧Below w.heap.size w w':=by
 have HB:=hide (below_allocG w (Obj.cells #[.int .i64 c0, .int .i64 c1, .int .i64 c2, .int .i64 c3, .int .i64 c4, .int .i64 c5] 56))
 have C0:=hide (fun w=>isWithin_any c0 1 8 w)
 have C1:=hide (fun w=>isWithin_any c1 2 4 w)
 have C2:=hide (fun w=>isWithin_any c2 0 4 w)
 have C3:=hide (fun w=>isWithin_any c3 1 4 w)
 have C4:=hide (fun w=>isWithin_any c4 1 1000000 w)
 have C5:=hide (fun w=>isWithin_any c5 1 8 w)
 have HR:Hid (cfgB c0 c1 c2 c3 c4 c5=(decide (1≤c0∧c0≤8) && (decide (2≤c1∧c1≤4) && (decide (0≤c2∧c2≤4) && (decide (1≤c3∧c3≤4) && (decide (1≤c4∧c4≤1000000) && decide (1≤c5∧c5≤8))))))):=rfl
 generalize cfgB c0 c1 c2 c3 c4 c5=r at *
 generalize decide (1≤c0∧c0≤8)=b0 at *
 generalize decide (2≤c1∧c1≤4)=b1 at *
 generalize decide (0≤c2∧c2≤4)=b2 at *
 generalize decide (1≤c3∧c3≤4)=b3 at *
 generalize decide (1≤c4∧c4≤1000000)=b4 at *
 generalize decide (1≤c5∧c5≤8)=b5 at *
 have hk:=new_blk w #[.int .i64 c0, .int .i64 c1, .int .i64 c2, .int .i64 c3, .int .i64 c4, .int .i64 c5] 56
 obtain ⟨w1,hw1⟩:∃ w1,w1=w.alloc (Obj.cells #[.int .i64 c0, .int .i64 c1, .int .i64 c2, .int .i64 c3, .int .i64 c4, .int .i64 c5] 56):=⟨_,rfl⟩
 rw [← hw1] at hk HB
 obtain ⟨a0,_⟩:=cell_of (j:=0) (u:=.int .i64 c0) hk rfl
 obtain ⟨a1,_⟩:=cell_of (j:=1) (u:=.int .i64 c1) hk rfl
 obtain ⟨a2,_⟩:=cell_of (j:=2) (u:=.int .i64 c2) hk rfl
 obtain ⟨a3,_⟩:=cell_of (j:=3) (u:=.int .i64 c3) hk rfl
 obtain ⟨a4,_⟩:=cell_of (j:=4) (u:=.int .i64 c4) hk rfl
 obtain ⟨a5,_⟩:=cell_of (j:=5) (u:=.int .i64 c5) hk rfl
 have HW1:=hide hw1
 clear hk hw1
 have hcase:b0=false∨(b0=true∧b1=false)∨(b0=true∧b1=true∧b2=false)∨(b0=true∧b1=true∧b2=true∧b3=false)∨(b0=true∧b1=true∧b2=true∧b3=true∧b4=false)∨(b0=true∧b1=true∧b2=true∧b3=true∧b4=true∧b5=b5):=by
  cases b0 <;> cases b1 <;> cases b2 <;> cases b3 <;> cases b4 <;> simp
 rcases hcase with rfl | ⟨rfl,rfl⟩ | ⟨rfl,rfl,rfl⟩ | ⟨rfl,rfl,rfl,rfl⟩ | ⟨rfl,rfl,rfl,rfl,rfl⟩ | ⟨rfl,rfl,rfl,rfl,rfl,_⟩
 all_goals (
  go_enter Tryz.func139,Tryz.ntmps139
  go_upto_region 1 with fail
  rw [← HW1.out]
  go_wp2_with (first
   | (go_at_call_of 53 (Value.int .i64 c0);refine (C0.out _).mono ?_;rintro e w' ⟨rfl,rfl⟩)
   | (go_at_call_of 53 (Value.int .i64 c1);refine (C1.out _).mono ?_;rintro e w' ⟨rfl,rfl⟩)
   | (go_at_call_of 53 (Value.int .i64 c2);refine (C2.out _).mono ?_;rintro e w' ⟨rfl,rfl⟩)
   | (go_at_call_of 53 (Value.int .i64 c3);refine (C3.out _).mono ?_;rintro e w' ⟨rfl,rfl⟩)
   | (go_at_call_of 53 (Value.int .i64 c4);refine (C4.out _).mono ?_;rintro e w' ⟨rfl,rfl⟩)
   | (go_at_call_of 53 (Value.int .i64 c5);refine (C5.out _).mono ?_;rintro e w' ⟨rfl,rfl⟩))
  go_ret
  exact ⟨by rw [HR.out];simp,HB.out⟩)
theorem equalIn_ptr_nil {P:Program} (w:World) (d:Nat) (t e:TypeId) (a:Addr) (h:P.underlying t=some (.pointer e)):(Op.equalIn (d + 1) t (.pointer (some a)) (.pointer none)).run P w=.ok false w:=by
 simp [Op.equalIn,run_underlying h]
set_option maxRecDepth 100000 in
set_option maxHeartbeats 1000000 in
theorem isDisk_any {w:World} {d b:Nat} (h:Ptr 102 w d b):Calls Tryz.prog 140 #[ptrV d] w fun e w'=>e=.returned (.bool true)∧w'=w:=by
 obtain ⟨c0,_⟩:=cell_of (j:=0) (u:=.pointer (some ⟨b,0,none⟩)) h rfl
 have hq:(Op.equalIn 9999 97 (.pointer (some ⟨b,0,none⟩)) (.pointer none)).run Tryz.prog w=.ok false w:=equalIn_ptr_nil w 9998 _ _ _ Tryz.underlying97
 go_enter Tryz.func140,Tryz.ntmps140
 go_wp2_with fail
 go_ret
 exact ⟨rfl,rfl⟩
set_option maxHeartbeats 1000000 in
theorem newWorker_any (lb:Nat) (w:World):Calls Tryz.prog 142 #[ptrV lb] w fun e w'=>e=.returned (ptrV w.heap.size)∧w'.heap[w.heap.size]? = some (Obj.cells (wkC lb w.heap.size wk0 (.slice none 0 0)) 139 (0,0))∧Below w.heap.size w w'∧w'.heap.size=w.heap.size + 1:=by
 go_enter Tryz.func142,Tryz.ntmps142
 go_wp2_with fail
 go_ret
 exact ⟨rfl,new_blk _ _ _,below_allocG _ _,by simp⟩
set_option maxHeartbeats 1000000 in
theorem first_none (s:ByteArray) (hs:s.size < 2) (w:World):Calls Tryz.prog 256 #[.string s] w fun e w'=>e=.returned (.tuple #[.int .u8 0, .string ⟨#[]⟩, .bool false])∧w'=w:=by
 have h:(s.size:Int) < 2:=by omega
 go_enter Tryz.func256,Tryz.ntmps256
 go_wp2_with fail
 go_ret3
 exact ⟨rfl,rfl⟩
theorem Tryz.sizePs:(Tryz.prog.info? 313).map (·.size)=some 2:=by kernel_rfl
set_option maxRecDepth 100000 in
set_option maxHeartbeats 1000000 in
theorem readJ_none (w:World):Calls Tryz.prog 213 #[.string ⟨#[]⟩] w fun e w'=>e=.returned (.tuple #[.agg #[.int .i64 0, .slice none 0 0], .int .i64 0])∧Below w.heap.size w w':=by
 have CF:Hid (∀ w,Calls Tryz.prog 256 #[.string ⟨#[]⟩] w fun e w'=>e=.returned (.tuple #[.int .u8 0, .string ⟨#[]⟩, .bool false])∧w'=w):=fun w=>first_none ⟨#[]⟩ (by decide) w
 go_enter Tryz.func213,Tryz.ntmps213
 go_wp2_with fail
 obtain ⟨W3,hW3⟩:∃ W3,W3=((w.alloc (Obj.cells #[.int .i64 0, .slice none 0 0] 313)).alloc (Obj.cells #[.func (.func 254) #[] #[], .func (.func 255) #[] #[]] 344)).alloc (Obj.cells #[.int .i64 0, .slice none 0 0] 313):=⟨_,rfl⟩
 rw [← hW3]
 have hb1:=below_allocG w (Obj.cells #[.int .i64 0, .slice none 0 0] 313)
 have hb2:=below_allocG (w.alloc (Obj.cells #[.int .i64 0, .slice none 0 0] 313)) (Obj.cells #[.func (.func 254) #[] #[], .func (.func 255) #[] #[]] 344)
 have hb3:=below_allocG ((w.alloc (Obj.cells #[.int .i64 0, .slice none 0 0] 313)).alloc (Obj.cells #[.func (.func 254) #[] #[], .func (.func 255) #[] #[]] 344)) (Obj.cells #[.int .i64 0, .slice none 0 0] 313)
 have k2:W3.heap[w.heap.size]? = some (Obj.cells #[.int .i64 0, .slice none 0 0] 313 (0,0)):=by rw [hW3];exact old_blk _ (old_blk _ (new_blk _ _ _))
 have k5:W3.heap[w.heap.size + 1 + 1]? = some (Obj.cells #[.int .i64 0, .slice none 0 0] 313 (0,0)):=by
  have:=new_blk ((w.alloc (Obj.cells #[.int .i64 0, .slice none 0 0] 313)).alloc (Obj.cells #[.func (.func 254) #[] #[], .func (.func 255) #[] #[]] 344)) #[.int .i64 0, .slice none 0 0] 313
  rw [World.size_alloc,World.size_alloc] at this
  rw [hW3]
  exact this
 have hB3:Below w.heap.size w W3:=by
  rw [hW3]
  exact (hb1.trans (hb2.mono hb1.size)).trans (hb3.mono (hb1.trans (hb2.mono hb1.size)).size)
 have HB3:=hide hB3
 have HK2:=hide k2
 clear hb1 hb2 hb3 hW3 hB3
 obtain ⟨p0,_⟩:=cell_of (j:=0) (u:=.int .i64 0) k5 rfl
 obtain ⟨p1,_⟩:=cell_of (j:=1) (u:=.slice none 0 0) k5 rfl
 obtain ⟨q0,f0⟩:=cell_of (j:=0) (u:=.int .i64 0) k2 rfl
 obtain ⟨q1,f1⟩:=cell_of (j:=1) (u:=.slice none 0 0) k2 rfl
 clear k2 k5
 go_loopw [6] (fun v wr=>v=.int .i64 0∧wr=W3) (fun _ _=>0)
 case atStart=>exact ⟨rfl,rfl⟩
 case round=>
  obtain ⟨rfl,rfl⟩:=hrel
  go_wp2_with (first | (go_at_call 256;refine (CF.out _).mono ?_;rintro e w' ⟨rfl,rfl⟩))
  have hk6:=setCell_blk (j:=1) (v:=.slice none 0 0) (setCell_blk (j:=0) (v:=.int .i64 0) HK2.out)
  have hB6:=below_set (j:=1) (v:=.slice none 0 0) (below_set (j:=0) (v:=.int .i64 0) HB3.out (Nat.le_refl _)) (Nat.le_refl _)
  have hld:=run_loadVar_row (P:=Tryz.prog) _ w.heap.size 313 313 _ _ _ hk6 Tryz.underlying313 rfl Tryz.sizePs
  (try simp only [Exit.inBlock,Exit.then])
  refine bodyPost_ret (v:=.tuple #[.agg #[.int .i64 0, .slice none 0 0], .int .i64 0]) ?_ rfl ⟨rfl,hB6⟩
  rw [results_cell_tmp rfl]
  simp [asAddr,Result.andThen,hld]
end Go.Proofs.YtkncboinfcnklaaGreatDoor

namespace Go.Proofs.YtkncboinfcnklaaGreatDoor
open Go.RowKit Go.Deep Go.Shelf Go.Proofs.YtkncboinfcnklaaGreatDoor.Mth
def dnm:ByteArray:=⟨#[106,111,117,114,110,97,108,46,100,114,97,102,116]⟩
theorem dnm_ne:dnm≠jnm:=by decide
set_option maxRecDepth 100000 in
set_option maxHeartbeats 2000000 in
theorem rewrite_new {w:World} {B b d:Nat} (h:St 100 109 w B b [] (-1) (.slice none 0 0)) (hp:Ptr 102 w d b) (hB:B≤w.heap.size) :
  Calls Tryz.prog 214 #[ptrV d, .string ByteArray.empty] w fun e w'=>e=.returned (.bool true)∧∃ fv',Stp 100 109 B b w w' (.slice none 0 0) (jf ⟨#[]⟩ 0) (-1) fv':=by
 have HP:Hid (∀ {w':World} {fs:List Fl} {fv:Value},Stp 100 109 B b w w' (.slice none 0 0) fs (-1) fv→Ptr 102 w' d b∧B≤w'.heap.size):=fun hs=>⟨hp.keep h hs.tch (by decide) (by decide),Nat.le_trans hB hs.tch.size⟩
 have C1:Hid (Calls Tryz.prog 37 #[ptrV d, .string dnm] w fun e w'=>e=.returned (.bool true)∧∃ fv',Stp 100 109 B b w w' (.slice none 0 0) [] (-1) fv'):=apiRemove_yes h hp hB (by omega) (by omega) (by omega) (by simp) dnm
 have C2:Hid (∀ W fv,Stp 100 109 B b w W (.slice none 0 0) [] (-1) fv→Calls Tryz.prog 31 #[ptrV d, .string dnm, .string ByteArray.empty] W fun e w'=>e=.returned (.bool true)∧∃ fv',Stp 100 109 B b w w' (.slice none 0 0) [⟨dnm,⟨#[]⟩,0⟩] (-1) fv'):=by
  intro W fv hs
  obtain ⟨hp1,hB1⟩:=HP.out hs
  refine (apiAppend_yes hs.st hp1 hB1 (by omega) (by omega) (by omega) (by simp) dnm ⟨#[]⟩ (-1) (Or.inl ⟨rfl,fun j hj=>absurd hj (by simp)⟩) (by decide)).mono ?_
  rintro e w' ⟨rfl,fv',hs'⟩
  exact ⟨rfl,fv',hs.trans hs'⟩
 have C3:Hid (∀ W fv,Stp 100 109 B b w W (.slice none 0 0) [⟨dnm,⟨#[]⟩,0⟩] (-1) fv→Calls Tryz.prog 33 #[ptrV d, .string dnm] W fun e w'=>e=.returned (.bool true)∧∃ fv',Stp 100 109 B b w w' (.slice none 0 0) [⟨dnm,⟨#[]⟩,0⟩] (-1) fv'):=by
  intro W fv hs
  obtain ⟨hp1,hB1⟩:=HP.out hs
  refine (apiSync_yes hs.st hp1 (by omega) (by omega) (by omega) dnm 0 (Or.inr ⟨0,by simp,rfl,rfl,fun j hj=>absurd hj (Nat.not_lt_zero _)⟩)).mono ?_
  rintro e w' ⟨rfl,fv',hs'⟩
  exact ⟨rfl,fv',hs.trans hs'⟩
 have C4:Hid (∀ W fv,Stp 100 109 B b w W (.slice none 0 0) [⟨dnm,⟨#[]⟩,0⟩] (-1) fv→Calls Tryz.prog 35 #[ptrV d, .string dnm, .string jnm] W fun e w'=>e=.returned (.bool true)∧∃ fv',Stp 100 109 B b w w' (.slice none 0 0) (jf ⟨#[]⟩ 0) (-1) fv'):=by
  intro W fv hs
  obtain ⟨hp1,hB1⟩:=HP.out hs
  refine (apiRename_yes hs.st hp1 hB1 (by omega) (by omega) (by omega) (by simp) dnm jnm 0 (Or.inr ⟨0,by simp,rfl,rfl,fun j hj=>absurd hj (Nat.not_lt_zero _)⟩) (by simp) dnm_ne).mono ?_
  rintro e w' ⟨rfl,fv',hs'⟩
  have e1:wo jnm (wo dnm [(⟨dnm,⟨#[]⟩,0⟩:Fl)])=[]:=by simp [wo]
  rw [e1] at hs'
  exact ⟨rfl,fv',hs.trans hs'⟩
 clear h hp HP
 unfold dnm at C1 C2 C3 C4
 unfold jnm at C4
 go_enter Tryz.func214,Tryz.ntmps214
 go_wp2_with (first
  | (go_at_call 37;refine C1.out.mono ?_;rintro e w1 ⟨rfl,fv1,hs1⟩;have H1:=hide hs1;clear hs1)
  | (go_at_call 31;refine (C2.out _ _ H1.out).mono ?_;rintro e w2 ⟨rfl,fv2,hs2⟩;have H2:=hide hs2;clear hs2)
  | (go_at_call 33;refine (C3.out _ _ H2.out).mono ?_;rintro e w3 ⟨rfl,fv3,hs3⟩;have H3:=hide hs3;clear hs3)
  | (go_at_call 35;refine (C4.out _ _ H3.out).mono ?_;rintro e w4 ⟨rfl,fv4,hs4⟩;have H4:=hide hs4;clear hs4))
 go_ret
 exact ⟨rfl,fv4,H4.out⟩
structure Opn (w w':World) (B d b jb:Nat):Prop where
 ex:∃ fv,JAt w' B jb d b (jf ⟨#[]⟩ 0) (-1) fv 0 0∧(∀ g,some g=fv.ownBlock→w.heap.size≤g)
 tch:Tch (fun k=>k=b) w w'
 ge:w.heap.size≤jb
set_option maxRecDepth 100000 in
set_option maxHeartbeats 2000000 in
theorem open_new {w:World} {B b d:Nat} (h:St 100 109 w B b [] (-1) (.slice none 0 0)) (hp:Ptr 102 w d b) (hB:B≤w.heap.size) (hd:B≤d) :
  Calls Tryz.prog 141 #[ptrV d] w fun e w'=>∃ jb,e=.returned (.tuple #[ptrV jb, .slice none 0 0, .bool true])∧Opn w w' B d b jb:=by
 have CR:Hid (Calls Tryz.prog 39 #[ptrV d, .string jnm] w fun e w'=>e=.returned (.string ⟨#[]⟩)∧w'=w):=by
  refine (read_any h hp jnm).mono ?_
  rintro e w' ⟨r,hr,rfl,hw⟩
  refine ⟨?_,hw⟩
  rcases hr with ⟨rfl,_⟩ | ⟨i,hi,_⟩
  ·rfl
  ·simp at hi
 have CJ:=hide (readJ_none w)
 have hbn:∀ W,Below w.heap.size w W→Calls Tryz.prog 214 #[ptrV d, .string ByteArray.empty] W fun e w'=>e=.returned (.bool true)∧∃ fv',Stp 100 109 B b W w' (.slice none 0 0) (jf ⟨#[]⟩ 0) (-1) fv'∧Ptr 102 w' d b:=by
  intro W hb
  refine (rewrite_new (h.below hb) (hp.below hb) (Nat.le_trans hB hb.size)).mono ?_
  rintro e w' ⟨rfl,fv',hs⟩
  exact ⟨rfl,fv',hs,(hp.below hb).keep (h.below hb) hs.tch (by decide) (by decide)⟩
 have CW:=hide hbn
 have HS:=hide h
 have HP:=hide hp
 clear h hp hbn
 unfold jnm at CR
 go_enter Tryz.func141,Tryz.ntmps141
 go_wp2_with (first
  | (go_at_call 39;refine CR.out.mono ?_;rintro e w' ⟨rfl,hw'⟩;rw [hw'];clear hw' w')
  | (go_at_call 213;refine CJ.out.mono ?_;rintro e w2 ⟨rfl,hb2⟩;have HB2:=hide hb2;clear hb2))
 have hb3:=below_allocG w2 (Obj.cells #[.int .i64 0, .slice none 0 0] 313)
 have hk3:=new_blk w2 #[.int .i64 0, .slice none 0 0] 313
 have hB3:=HB2.out.trans (hb3.mono HB2.out.size)
 have CW3:=hide (CW.out _ hB3)
 have hlb:b < w2.heap.size:=Nat.lt_of_lt_of_le HS.out.lt HB2.out.size
 have hnb3:w2.heap.size < (w2.alloc (Obj.cells #[.int .i64 0, .slice none 0 0] 313)).heap.size:=by simp
 have HB3:=hide hB3
 have HK3:=hide hk3
 clear hb3 hB3 hk3 CW CJ CR
 obtain ⟨pb,hpb⟩:∃ pb,pb=w2.heap.size:=⟨_,rfl⟩
 rw [← hpb] at HK3 hnb3 hlb ⊢
 have hwp:w.heap.size≤pb:=by rw [hpb];exact HB2.out.size
 generalize w2.alloc (Obj.cells #[.int .i64 0, .slice none 0 0] 313)=w3 at *
 clear hpb HB2
 refine CW3.out.mono ?_
 rintro e w4 ⟨rfl,fv4,hs4,hp4⟩
 have CS:=hide (stopped_any hs4.st hp4)
 rw [show ((-1:Int) == 0)=false from rfl] at CS
 have hk4:w4.heap[pb]? = some (Obj.cells #[.int .i64 0, .slice none 0 0] 313 (0,0)):=(hs4.tch.block pb hnb3 (fun q=>by
  rcases q with q | q
  ·omega
  ·cases q)).trans HK3.out
 have HT4:Hid (Tch (fun k=>k=b) w w4):=⟨hs4.tch.os.trans HB3.out.os,hs4.tch.tape.trans HB3.out.tape,hs4.tch.output.trans HB3.out.output,Nat.le_trans HB3.out.size hs4.tch.size,fun k hk hne=>(hs4.tch.block k (Nat.lt_of_lt_of_le hk HB3.out.size) (fun q=>by
  rcases q with q | q
  ·exact hne q
  ·cases q)).trans (HB3.out.block k hk)⟩
 have FIN:Hid (∀ W,Below w4.heap.size w4 W→Opn w (W.alloc (Obj.cells #[ptrV d, .int .i64 0, .int .i64 0] 200)) B d b W.heap.size):=by
  intro W hW
  have hWa:=hW.trans ((below_allocG W (Obj.cells #[ptrV d, .int .i64 0, .int .i64 0] 200)).mono hW.size)
  have hsz:w.heap.size≤W.heap.size:=Nat.le_trans HT4.out.size hW.size
  refine ⟨⟨fv4,⟨new_blk _ _ _,hp4.below hWa,hs4.st.below hWa,Nat.le_trans hB hsz,hd⟩,fun g hg=>?_⟩,HT4.out.trans (tch_below (S:=fun k=>k=b) hWa) (fun _ _ q=>q),hsz⟩
  rcases hs4.new g hg with q | q
  ·cases q
  ·exact Nat.le_trans HB3.out.size q
 obtain ⟨k0,_⟩:=cell_of (j:=0) (u:=.int .i64 0) hk4 rfl
 obtain ⟨k1,_⟩:=cell_of (j:=1) (u:=.slice none 0 0) hk4 rfl
 clear hk4 hs4 hp4 HS HP HK3 HB3 CW3 HT4
 go_wp2_with (first | (go_at_call 41;refine CS.out.mono ?_;rintro e w' ⟨rfl,hw'⟩;rw [hw'];clear hw' w'))
 go_region_held3 (fun w'=>w'.cell? ⟨pb,0,none⟩=some (.int .i64 0)∧w'.cell? ⟨pb,1,none⟩=some (.slice none 0 0)) (first | exact ⟨k0,k1⟩ | exact ⟨cellA k0,cellA k1⟩ | fail) (fail)
 go_wp2_with fail
 go_ret3
 exact ⟨_,rfl,FIN.out _ (drewB w4)⟩
end Go.Proofs.YtkncboinfcnklaaGreatDoor

namespace Go.Proofs.YtkncboinfcnklaaGreatDoor
open Go.RowKit Go.Deep Go.Shelf Go.Proofs.YtkncboinfcnklaaGreatDoor.Mth
def Lg.new (m f bk n kp bt:Nat):Lg:=⟨m,f,bk,kp,bt,0,0,[],fun _=>[],List.replicate n wk0,fun _=>none,0,0⟩
noncomputable def rho0 (lb jb db sb ms mm tm:Nat) (fv me wr:Value) (wbs:List Nat) (k:Nat):Nat:=by
 classical
 exact if k=lb then 1 else if ownJ jb db sb fv k then 2 else if ownS ms mm me k then 3 else if k=tm then 6 else if some k=wr.ownBlock then 5 else if k ∈ wbs then 20 + wbs.idxOf k else 0
theorem cells_ty {w:World} {k:Nat} {C C':Array Value} {t t':TypeId} {fr fr':Nat × Nat} (h:w.heap[k]? = some (Obj.cells C t fr)) (h':w.heap[k]? = some (Obj.cells C' t' fr')):t=t':=by
 rw [h] at h'
 injection h' with h'
 injection h' with _ e _
theorem JAt.ty {w:World} {B jb db sb:Nat} {fs:List Fl} {left:Int} {fv:Value} {clock count:Nat} (h:JAt w B jb db sb fs left fv clock count) {k:Nat} (hk:ownJ jb db sb fv k):∃ C t fr,w.heap[k]? = some (Obj.cells C t fr)∧(t=200∨t=102∨t=100∨t=109):=by
 rcases hk with rfl | rfl | hk | hk
 ·exact ⟨_,_,_,h.blk,Or.inl rfl⟩
 ·exact ⟨_,_,_,h.ptr,Or.inr (Or.inl rfl)⟩
 ·subst hk
  exact ⟨_,_,_,h.st.blk,Or.inr (Or.inr (Or.inl rfl))⟩
 ·obtain ⟨_,_,D,hD⟩:=own_block h.st.own hk
  exact ⟨_,_,_,hD,Or.inr (Or.inr (Or.inr rfl))⟩
theorem SegAt.ty {w:World} {B s mb:Nat} {es:List Ent} {ev:Value} (h:SegAt w B s es ev mb) {k:Nat} (hk:ownS s mb ev k):(∃ C t fr,w.heap[k]? = some (Obj.cells C t fr)∧(t=198∨t=66))∨(k=mb∧∃ es c,w.heap[k]? = some (Obj.map es c)):=by
 rcases hk with rfl | hk | rfl
 ·exact Or.inl ⟨_,_,_,h.blk,Or.inl rfl⟩
 ·obtain ⟨_,_,D,hD⟩:=own_block h.own hk
  exact Or.inl ⟨_,_,_,hD,Or.inr rfl⟩
 ·exact Or.inr ⟨rfl,h.idx.notCells⟩
end Go.Proofs.YtkncboinfcnklaaGreatDoor

namespace Go.Proofs.YtkncboinfcnklaaGreatDoor
open Go.RowKit Go.Deep Go.Shelf Go.Proofs.YtkncboinfcnklaaGreatDoor.Mth
theorem hAOG52 (w:World) (o:Obj) {r:Nat} (h:r < w.heap.size):(w.alloc o).heap[r]? = w.heap[r]?:=((Below.refl _ w).alloc (Nat.le_refl _) o).block r h
theorem Tryz.info140:(Tryz.prog.info? 140).map (fun i=>(i.zero,i.size,i.bytes))=some (some (.pointer none),1,8):=by kernel_rfl
structure NHd (w3 wx:World) (B lb ms mm tm:Nat) (me:Value) (C:Array Value):Prop where
 bel:Below w3.heap.size w3 wx
 blk:wx.heap[lb]? = some (Obj.cells C 134 (0,0))
 seg:SegAt wx B ms [] me mm
 map:wx.heap[tm]? = some (Obj.map #[] 0)
 ne:tm≠mm
 ge:w3.heap.size≤lb∧w3.heap.size≤tm
structure NWk (wx wr:World) (lb k:Nat) (C:Array Value) (wbs:List Nat) (v:Value):Prop where
 len:wbs.length=k
 blk:wr.heap[lb]? = some (Obj.cells (C.setIfInBounds 14 v) 134 (0,0))
 row:wr.ownsRow wx.heap.size 140 1 v k (wbs.map ptrV)
 one:∀ i,i < k→wr.heap[wbs.getD i 0]? = some (Obj.cells (wkC lb (wbs.getD i 0) wk0 (.slice none 0 0)) 139 (0,0))
 ge:∀ g ∈ wbs,wx.heap.size≤g
 lt:wbs.Pairwise (fun a b=>a < b)
 tch:Tch (fun g=>g=lb) wx wr
theorem NWk.more {wx wr w5 W5:World} {lb k:Nat} {C:Array Value} {wbs:List Nat} {v v5:Value} (h:NWk wx wr lb k C wbs v) (hlb:lb < wx.heap.size) (h5:w5.heap[wr.heap.size]? = some (Obj.cells (wkC lb wr.heap.size wk0 (.slice none 0 0)) 139 (0,0))) (hb:Below wr.heap.size wr w5) {o:Obj} {M:Nat} (ho:W5.ownsRow wx.heap.size 140 1 v5 M ((wbs.map ptrV) ++ [ptrV wr.heap.size])) (hM:M=k + 1) (hg:(w5.alloc o).grownBy W5 v.ownBlock) :
  NWk wx (W5.setCell ⟨lb,14,none⟩ v5) lb (k + 1) C (wbs ++ [wr.heap.size]) v5:=by
 subst hM
 have hsz5:wr.heap.size < w5.heap.size:=(Array.getElem?_eq_some_iff.1 h5).1
 have hszW:w5.heap.size≤W5.heap.size:=by have:=hg.size;simp at this;omega
 have hrowne:∀ g,g < wr.heap.size→some g≠v.ownBlock→W5.heap[g]? = wr.heap[g]? := fun g hgl hne=>by
  rw [hg.block g (by simp;omega) hne,hAOG52 w5 o (r:=g) (by omega)]
  exact hb.block g hgl
 have hlbr:lb < wr.heap.size:=Nat.lt_of_lt_of_le hlb h.tch.size
 have hlbv:some lb≠v.ownBlock:=fun q=>by
  have:=(own_block h.row q).1
  omega
 have hnw:some wr.heap.size≠v.ownBlock:=fun q=>by
  have:=(own_block h.row q).2.1
  omega
 have hblkW:W5.heap[lb]? = some (Obj.cells (C.setIfInBounds 14 v) 134 (0,0)):=(hrowne lb hlbr hlbv).trans h.blk
 refine ⟨by rw [List.length_append,h.len];rfl,?_,?_,fun i hi=>?_,fun g hg'=>?_,?_,?_⟩
 ·have:=setCell_blk (j:=14) (v:=v5) hblkW
  rwa [show (C.setIfInBounds 14 v).setIfInBounds 14 v5=C.setIfInBounds 14 v5 from by simp] at this
 ·refine own_set_other ?_ hblkW (by decide)
  rw [List.map_append]
  exact ho
 ·have hne:∀ g,(∃ D,W5.heap[g]? = some (Obj.cells D 139 (0,0)))→g≠lb:=fun g ⟨D,hD⟩ e=>by
   rw [e] at hD
   exact absurd (cells_ty hblkW hD) (by decide)
  by_cases hik:i < k
  ·have e1:(wbs ++ [wr.heap.size]).getD i 0=wbs.getD i 0:=by rw [List.getD,List.getElem?_append_left (by rw [h.len];exact hik)];rfl
   rw [e1]
   have h1:=h.one i hik
   have hlt1:=(Array.getElem?_eq_some_iff.1 h1).1
   have h2:W5.heap[wbs.getD i 0]? = _:=(hrowne _ hlt1 (fun q=>by
    obtain ⟨_,_,D,hD⟩:=own_block h.row q
    exact absurd (cells_ty h1 hD) (by decide))).trans h1
   rw [set_other (hne _ ⟨_,h2⟩)]
   exact h2
  ·have e1:(wbs ++ [wr.heap.size]).getD i 0=wr.heap.size:=by
    rw [show i=wbs.length from by rw [h.len];omega]
    simp [List.getD]
   rw [e1]
   have h2:W5.heap[wr.heap.size]? = some (Obj.cells (wkC lb wr.heap.size wk0 (.slice none 0 0)) 139 (0,0)):=by
    rw [hg.block _ (by simp;omega) hnw,hAOG52 w5 o (r:=wr.heap.size) hsz5]
    exact h5
   rw [set_other (hne _ ⟨_,h2⟩)]
   exact h2
 ·rcases List.mem_append.1 hg' with q | q
  ·exact h.ge g q
  ·rw [List.mem_singleton.1 q];exact h.tch.size
 ·rw [List.pairwise_append]
  refine ⟨h.lt,List.pairwise_singleton _ _,fun a ha c hc=>?_⟩
  rw [List.mem_singleton.1 hc]
  obtain ⟨i,hi,e⟩:=List.getElem_of_mem ha
  have h1:=h.one i (by rw [← h.len];exact hi)
  rw [← List.getElem_eq_getD (h:=hi),e] at h1
  exact (Array.getElem?_eq_some_iff.1 h1).1
 ·refine ⟨hg.os.trans (hb.os.trans h.tch.os),hg.tape.trans (hb.tape.trans h.tch.tape),hg.output.trans (hb.output.trans h.tch.output),?_,fun g hgl hne=>?_⟩
  ·have:=h.tch.size
   simp
   omega
  ·rw [set_other hne,hrowne g (Nat.lt_of_lt_of_le hgl h.tch.size) (fun q=>by have:=(own_block h.row q).1;omega)]
   exact h.tch.block g hgl hne
end Go.Proofs.YtkncboinfcnklaaGreatDoor
